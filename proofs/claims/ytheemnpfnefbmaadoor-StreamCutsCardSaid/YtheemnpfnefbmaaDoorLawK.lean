/-
  Of no statement by itself: what despatchlaw03.StreamCuts answers.
  Conditions: the theorem's own.
-/
import Derived.Test.YtheemnpfnefbmaaDoorLawJ
namespace Go.Proofs.YtheemnpfnefbmaaDoor
open Sl Sha Str

theorem OQ.to {P : Program} {n : Nat} {E : Env} {C : World → Prop} {o : Oper} {v v' : Value} (h : OQ P n E C o v) (e : v = v') : OQ P n E C o v' := e ▸ h
def Sl8.fst (s : Sl8) (m : Nat) : Sl8 := ⟨if s.cap = 0 then s.ad else s.ad.map (·.add 0), s.cap, s.l.take m⟩
def Sl8.snd (s : Sl8) (m : Nat) : Sl8 := ⟨if s.cap = m then s.ad else s.ad.map (·.add (m * 1)), s.cap - m, s.l.drop m⟩
theorem Sl8.ok.fst {s : Sl8} {w : World} (h : s.ok w) (m : Nat) : (s.fst m).ok w := by
  refine ⟨by show (s.l.take m).length ≤ s.cap; have := h.len; rw [List.length_take]; omega, ?_⟩
  show Reads w _ ((s.l.take m).map U8)
  by_cases h0 : s.l = []
  · rw [h0]; simpa using Reads.nil _ _
  · obtain ⟨b, j, hae, _⟩ := h.reads.at (by simpa using List.length_pos_iff.2 h0)
    have h1 := h.reads.take m
    rw [← List.map_take] at h1
    have h2 : (s.fst m).ad = s.ad := by
      show (if s.cap = 0 then s.ad else s.ad.map (·.add 0)) = s.ad
      rw [hae]
      split <;> simp [Addr.add]
    rw [h2]
    exact h1
theorem Sl8.ok.snd {s : Sl8} {w : World} (h : s.ok w) (m : Nat) (hm : m ≤ s.l.length) : (s.snd m).ok w := by
  refine ⟨by show (s.l.drop m).length ≤ s.cap - m; have := h.len; rw [List.length_drop]; omega, ?_⟩
  have := h.reads.drop (len := s.l.length) (cap := s.cap) (lo := m) (by simp) h.len hm
  rwa [← List.map_drop] at this
theorem Sl8.fst_v (s : Sl8) (m : Nat) (hm : m ≤ s.l.length) : .slice (if s.cap = 0 then s.ad else s.ad.map (·.add 0)) m s.cap = (s.fst m).v := by simp [Sl8.v, Sl8.fst, Nat.min_eq_left hm]
theorem Sl8.snd_v (s : Sl8) (m : Nat) : .slice (if s.cap = m then s.ad else s.ad.map (·.add (m * 1))) (s.l.length - m) (s.cap - m) = (s.snd m).v := by simp [Sl8.v, Sl8.snd]
def zl (T l : List B) (j : Nat) : List B := T.take j ++ l.drop j
theorem zl_length {T l : List B} (h : T.length = l.length) (j : Nat) : (zl T l j).length = l.length := by simp [zl]; omega
theorem zl_get {T l : List B} (h : T.length = l.length) {j : Nat} (hj : j < l.length) : (zl T l j).getD j 0 = l.getD j 0 := by
  have h1 : (T.take j).length = j := by simp; omega
  rw [List.getD_eq_getElem?_getD, zl, List.getElem?_append_right (by omega), h1, List.getElem?_drop, Nat.sub_self, Nat.add_zero, ← List.getD_eq_getElem?_getD]
theorem zl_set {T l : List B} (h : T.length = l.length) {j : Nat} (hj : j < l.length) : ((zl T l j).map U8).set j (U8 (T.getD j 0)) = (zl T l (j + 1)).map U8 := by
  have h1 : (T.take j).length = j := by simp; omega
  rw [← List.map_set, zl, List.set_append_right _ _ (by omega), h1, Nat.sub_self, List.drop_eq_getElem_cons hj, List.set_cons_zero, zl, List.take_succ_eq_append_getElem (show j < T.length by omega), List.append_assoc, show T.getD j 0 = T[j]'(by omega) by simp [List.getD, show j < T.length by omega]]
  rfl
theorem zl_all {T l : List B} (h : T.length = l.length) : zl T l l.length = T := by simp [zl, ← h]
theorem and63_le (a : Int) : (BitVec.ofInt 64 a &&& BitVec.ofNat 64 63).toNat ≤ 63 := by
  rw [BitVec.toNat_and]
  exact Nat.le_trans Nat.and_le_right (by decide)
def needM : Nat → List (Nat × Nat)
  | 5 => [(3, 33), (4, 34)]
  | 6 => [(0, 30), (1, 31), (2, 32), (5, 35)]
  | 10 => [(9, 39)]
  | 11 => [(10, 40)]
  | 12 => [(8, 38), (11, 41)]
  | 16 => [(14, 44), (15, 45)]
  | 17 => [(7, 37), (12, 42), (13, 43), (16, 46)]
  | 18 => [(6, 36), (17, 47)]
  | 19 => [(18, 48)]
  | _ => []
def inpM : Nat → List Nat
  | 0 => [21]
  | 2 => [20]
  | 7 => [21]
  | 13 => [20]
  | 18 => [6, 17]
  | _ => []
def eatM : Nat → List Nat
  | 18 => [6]
  | _ => []
def srcM : Nat → Option Nat
  | 19 => some 18
  | _ => none
def needN : Nat → List (Nat × Nat)
  | 4 => [(3, 52)]
  | 5 => [(4, 53)]
  | 6 => [(0, 49), (1, 50), (2, 51), (5, 54)]
  | 7 => [(6, 55)]
  | _ => []
def inpN : Nat → List Nat
  | 0 => [10]
  | 2 => [9]
  | 6 => [5]
  | _ => []
def srcN : Nat → Option Nat
  | 7 => some 6
  | _ => none

set_option maxHeartbeats 16000000 in
set_option maxRecDepth 4000 in
theorem law_streamCuts (key : List B) (ctr : W) (nonce : List B) (s : Sl8) (a : Int) (w : World) (hQ : GQ w) (hk : key.length = 32) (hn : nonce.length = 12) (hs : s.ok w) (_ : -9223372036854775808 ≤ a ∧ a ≤ 9223372036854775807) :
    Calls Tryd.prog 5 [.agg (key.map U8).toArray, U32 ctr, .agg (nonce.map U8).toArray, s.v, .int .i64 a].toArray w fun e w' => e = .returned (.bool true) ∧ Ext w w' := by
  refine enter (n := 88) Tryd.func5 rfl rfl rfl (Holds.start w []) ?_
  repeat (first | refine JL.q (by first | (apply OQ.move; exact rfl) | (apply OQ.assign; exact rfl) | (apply OQ.len; exact rfl; exact rfl) | (apply OQ.add32; exact rfl; exact rfl) | (apply OQ.xor8; exact rfl; exact rfl) | (apply OQ.addN; exact rfl; exact rfl; exact (by (try simp only []); omega)) | (apply OQ.mulN; exact rfl; exact rfl; exact (by (try simp only []); omega)) | (apply OQ.quoN; exact rfl; exact rfl; exact (by (try simp only []); omega); exact (by (try simp only []); omega)) | (apply OQ.lssN; exact rfl; exact rfl) | (apply OQ.gtrN; exact rfl; exact rfl)) rfl ?_ | refine JC.seq ?_ | refine JC.region ?_ | refine JC.block ?_ | refine JC.skip ?_ | refine JC.exit ?_ | refine JL.nil ?_ | refine JE.next ?_ | refine JE.blk_normal ?_ | refine JE.then_exit ?_ | refine JE.blk_hit ?_ | refine JE.blk_miss rfl ?_ | refine JE.then_ret ?_ | refine JE.blk_ret ?_ | refine JC.label ?_ | refine JL.gon rfl rfl ?_ | refine JL.gskip rfl rfl rfl rfl ?_)
  refine JL.box (r := key.map U8) rfl rfl rfl fun b5 _ => ?_
  refine JL.box (r := nonce.map U8) rfl rfl rfl fun b7 _ => ?_
  repeat (first | refine JL.q (by first | (apply OQ.callx; exact goes_speaks3; exact rfl; exact (fun w' _ => speaks3_any w')) | (apply OQ.not; exact rfl) | (apply OQ.move; exact rfl) | (apply OQ.assign; exact rfl) | (apply OQ.len; exact rfl; exact rfl) | (apply OQ.add32; exact rfl; exact rfl) | (apply OQ.xor8; exact rfl; exact rfl) | (apply OQ.addN; exact rfl; exact rfl; exact (by (try simp only []); omega)) | (apply OQ.mulN; exact rfl; exact rfl; exact (by (try simp only []); omega)) | (apply OQ.quoN; exact rfl; exact rfl; exact (by (try simp only []); omega); exact (by (try simp only []); omega)) | (apply OQ.lssN; exact rfl; exact rfl) | (apply OQ.gtrN; exact rfl; exact rfl)) rfl ?_ | refine JC.seq ?_ | refine JC.region ?_ | refine JC.block ?_ | refine JC.skip ?_ | refine JC.exit ?_ | refine JL.nil ?_ | refine JE.next ?_ | refine JE.blk_normal ?_ | refine JE.then_exit ?_ | refine JE.blk_hit ?_ | refine JE.blk_miss rfl ?_ | refine JE.then_ret ?_ | refine JE.blk_ret ?_ | refine JC.label ?_ | refine JL.gon rfl rfl ?_ | refine JL.gskip rfl rfl rfl rfl ?_)
  refine JC.cond_false rfl rfl ?_
  by_cases h1 : 3000 < s.l.length
  · repeat (first | refine JL.q (by first | (apply OQ.gtrN_t; exact rfl; exact rfl; exact h1) | (apply OQ.move; exact rfl) | (apply OQ.assign; exact rfl) | (apply OQ.len; exact rfl; exact rfl) | (apply OQ.add32; exact rfl; exact rfl) | (apply OQ.xor8; exact rfl; exact rfl) | (apply OQ.addN; exact rfl; exact rfl; exact (by (try simp only []); omega)) | (apply OQ.mulN; exact rfl; exact rfl; exact (by (try simp only []); omega)) | (apply OQ.quoN; exact rfl; exact rfl; exact (by (try simp only []); omega); exact (by (try simp only []); omega)) | (apply OQ.lssN; exact rfl; exact rfl) | (apply OQ.gtrN; exact rfl; exact rfl)) rfl ?_ | refine JC.seq ?_ | refine JC.region ?_ | refine JC.block ?_ | refine JC.skip ?_ | refine JC.exit ?_ | refine JL.nil ?_ | refine JE.next ?_ | refine JE.blk_normal ?_ | refine JE.then_exit ?_ | refine JE.blk_hit ?_ | refine JE.blk_miss rfl ?_ | refine JE.then_ret ?_ | refine JE.blk_ret ?_ | refine JC.label ?_ | refine JL.gon rfl rfl ?_ | refine JL.gskip rfl rfl rfl rfl ?_)
    refine JC.cond_true rfl rfl ?_
    repeat (first | refine JL.q (by first | (apply OQ.move; exact rfl) | (apply OQ.assign; exact rfl) | (apply OQ.len; exact rfl; exact rfl) | (apply OQ.add32; exact rfl; exact rfl) | (apply OQ.xor8; exact rfl; exact rfl) | (apply OQ.addN; exact rfl; exact rfl; exact (by (try simp only []); omega)) | (apply OQ.mulN; exact rfl; exact rfl; exact (by (try simp only []); omega)) | (apply OQ.quoN; exact rfl; exact rfl; exact (by (try simp only []); omega); exact (by (try simp only []); omega)) | (apply OQ.lssN; exact rfl; exact rfl) | (apply OQ.gtrN; exact rfl; exact rfl)) rfl ?_ | refine JC.seq ?_ | refine JC.region ?_ | refine JC.block ?_ | refine JC.skip ?_ | refine JC.exit ?_ | refine JL.nil ?_ | refine JE.next ?_ | refine JE.blk_normal ?_ | refine JE.then_exit ?_ | refine JE.blk_hit ?_ | refine JE.blk_miss rfl ?_ | refine JE.then_ret ?_ | refine JE.blk_ret ?_ | refine JC.label ?_ | refine JL.gon rfl rfl ?_ | refine JL.gskip rfl rfl rfl rfl ?_)
    refine JC.ret ?_
    repeat (first | refine JL.q (by first | (apply OQ.move; exact rfl) | (apply OQ.assign; exact rfl) | (apply OQ.len; exact rfl; exact rfl) | (apply OQ.add32; exact rfl; exact rfl) | (apply OQ.xor8; exact rfl; exact rfl) | (apply OQ.addN; exact rfl; exact rfl; exact (by (try simp only []); omega)) | (apply OQ.mulN; exact rfl; exact rfl; exact (by (try simp only []); omega)) | (apply OQ.quoN; exact rfl; exact rfl; exact (by (try simp only []); omega); exact (by (try simp only []); omega)) | (apply OQ.lssN; exact rfl; exact rfl) | (apply OQ.gtrN; exact rfl; exact rfl)) rfl ?_ | refine JC.seq ?_ | refine JC.region ?_ | refine JC.block ?_ | refine JC.skip ?_ | refine JC.exit ?_ | refine JL.nil ?_ | refine JE.next ?_ | refine JE.blk_normal ?_ | refine JE.then_exit ?_ | refine JE.blk_hit ?_ | refine JE.blk_miss rfl ?_ | refine JE.then_ret ?_ | refine JE.blk_ret ?_ | refine JC.label ?_ | refine JL.gon rfl rfl ?_ | refine JL.gskip rfl rfl rfl rfl ?_)
    exact JE.ret1 rfl (RV.tmp rfl) fun w' hw => ⟨rfl, hw.chg⟩
  repeat (first | refine JL.q (by first | (apply OQ.gtrN_f; exact rfl; exact rfl; exact h1) | (apply OQ.move; exact rfl) | (apply OQ.assign; exact rfl) | (apply OQ.len; exact rfl; exact rfl) | (apply OQ.add32; exact rfl; exact rfl) | (apply OQ.xor8; exact rfl; exact rfl) | (apply OQ.addN; exact rfl; exact rfl; exact (by (try simp only []); omega)) | (apply OQ.mulN; exact rfl; exact rfl; exact (by (try simp only []); omega)) | (apply OQ.quoN; exact rfl; exact rfl; exact (by (try simp only []); omega); exact (by (try simp only []); omega)) | (apply OQ.lssN; exact rfl; exact rfl) | (apply OQ.gtrN; exact rfl; exact rfl)) rfl ?_ | refine JC.seq ?_ | refine JC.region ?_ | refine JC.block ?_ | refine JC.skip ?_ | refine JC.exit ?_ | refine JL.nil ?_ | refine JE.next ?_ | refine JE.blk_normal ?_ | refine JE.then_exit ?_ | refine JE.blk_hit ?_ | refine JE.blk_miss rfl ?_ | refine JE.then_ret ?_ | refine JE.blk_ret ?_ | refine JC.label ?_ | refine JL.gon rfl rfl ?_ | refine JL.gskip rfl rfl rfl rfl ?_)
  refine JC.cond_false rfl rfl ?_
  have hlow := and63_le a
  repeat (first | refine JL.q (by first | (apply OQ.lowI; exact rfl; exact rfl; exact (by decide)) | (apply OQ.minN; exact rfl; exact rfl) | (apply OQ.move; exact rfl) | (apply OQ.assign; exact rfl) | (apply OQ.len; exact rfl; exact rfl) | (apply OQ.add32; exact rfl; exact rfl) | (apply OQ.xor8; exact rfl; exact rfl) | (apply OQ.addN; exact rfl; exact rfl; exact (by (try simp only []); omega)) | (apply OQ.mulN; exact rfl; exact rfl; exact (by (try simp only []); omega)) | (apply OQ.quoN; exact rfl; exact rfl; exact (by (try simp only []); omega); exact (by (try simp only []); omega)) | (apply OQ.lssN; exact rfl; exact rfl) | (apply OQ.gtrN; exact rfl; exact rfl)) rfl ?_ | refine JC.seq ?_ | refine JC.region ?_ | refine JC.block ?_ | refine JC.skip ?_ | refine JC.exit ?_ | refine JL.nil ?_ | refine JE.next ?_ | refine JE.blk_normal ?_ | refine JE.then_exit ?_ | refine JE.blk_hit ?_ | refine JE.blk_miss rfl ?_ | refine JE.then_ret ?_ | refine JE.blk_ret ?_ | refine JC.label ?_ | refine JL.gon rfl rfl ?_ | refine JL.gskip rfl rfl rfl rfl ?_)
  obtain ⟨q, hq, hq2⟩ : ∃ q, min ((BitVec.ofInt 64 a &&& BitVec.ofNat 64 63).toNat * 64) (s.l.length / 64 * 64) = 64 * q ∧ 64 * q ≤ s.l.length := by
    generalize (BitVec.ofInt 64 a &&& BitVec.ofNat 64 63).toNat = k
    exact ⟨min k (s.l.length / 64), by omega, by omega⟩
  rw [hq]
  clear hq hlow
  have hdiv : 64 * q / 64 = q := Nat.mul_div_cancel_left q (by decide)
  have ht1 : (s.l.take (64 * q)).length = 64 * q := by rw [List.length_take]; omega
  have ht2 : (s.l.drop (64 * q)).length = s.l.length - 64 * q := List.length_drop
  have hcut := turn_cut key ctr nonce (s.l.take (64 * q)) (s.l.drop (64 * q)) q ht1
  rw [List.take_append_drop] at hcut
  let vs : Nat → X → Value := fun j x => match j with
    | 0 => .agg (key.map U8).toArray
    | 1 => U32 ctr
    | 2 => .agg (nonce.map U8).toArray
    | 3 => s.v
    | 4 => N (64 * q)
    | 5 => (s.fst (64 * q)).v
    | 6 => .slice (some ⟨x.1, 0, none⟩) (s.l.take (64 * q)).length (s.l.take (64 * q)).length
    | 7 => .agg (key.map U8).toArray
    | 8 => U32 ctr
    | 9 => N (64 * q)
    | 10 => N (64 * q / 64)
    | 11 => U32 (BitVec.ofNat 32 (64 * q / 64))
    | 12 => U32 (ctr + BitVec.ofNat 32 (64 * q / 64))
    | 13 => .agg (nonce.map U8).toArray
    | 14 => s.v
    | 15 => N (64 * q)
    | 16 => (s.snd (64 * q)).v
    | 17 => .slice (some ⟨x.1, 0, none⟩) (s.l.drop (64 * q)).length (s.l.drop (64 * q)).length
    | _ => .slice (some ⟨x.1, 0, none⟩) ((s.l.take (64 * q)).length + (s.l.drop (64 * q)).length) x.2
  let Ms : Nat → X → List Ent := fun j x => match j with
    | 6 => [⟨x.1, Own 5 1 (s.l.take (64 * q)).length (s.l.take (64 * q)).length ((turn key ctr nonce (s.l.take (64 * q))).map U8), true⟩]
    | 17 => [⟨x.1, Own 5 1 (s.l.drop (64 * q)).length (s.l.drop (64 * q)).length ((turn key (ctr + BitVec.ofNat 32 (64 * q / 64)) nonce (s.l.drop (64 * q))).map U8), true⟩]
    | 18 => [⟨x.1, Own 5 1 ((s.l.take (64 * q)).length + (s.l.drop (64 * q)).length) x.2 ((turn key ctr nonce (s.l.take (64 * q))).map U8 ++ (turn key (ctr + BitVec.ofNat 32 (64 * q / 64)) nonce (s.l.drop (64 * q))).map U8), true⟩]
    | 20 => [⟨b7, Row 26 (nonce.map U8), true⟩]
    | 21 => [⟨b5, Row 23 (key.map U8), true⟩]
    | _ => []
  refine JC.grow (g := ⟨[(1, U32 ctr), (3, s.v), (5, Pt b5 0), (7, Pt b7 0), (11, N (64 * q))], 22, vs, Ms, needM, inpM, eatM, srcM⟩) [(19, 12)] [18, 20, 21] mixQ (by repeat (first | exact SubE.nil | refine SubE.cons _ _ _ rfl ?_)) (Less.refl _) (by kernel_rfl) (by kernel_rfl) (by kernel_rfl) ?_ ?_
  · refine ⟨?_, ?_, ?_, ?_, ?_, ?_, ?_, ?_, ?_, ?_, ?_, ?_, ?_, ?_, ?_, ?_, ?_, ?_, ?_, ?_, trivial⟩
    iterate 5 (focus (intro x EF MF Q kk; (try refine JL.gon rfl rfl ?_); exact JL.q (by first | (apply OQ.load_agg (cs := key.map U8); exact a25; exact s25; exact rfl; exact .here; exact (by simpa using hk); exact Row.all) | (apply OQ.load_agg (cs := nonce.map U8); exact noa; exact nos; exact rfl; exact .here; exact (by simpa using hn); exact Row.all) | (apply OQ.move; exact rfl) | (apply OQ.assign; exact rfl) | (apply OQ.len; exact rfl; exact rfl) | (apply OQ.add32; exact rfl; exact rfl) | (apply OQ.xor8; exact rfl; exact rfl) | (apply OQ.addN; exact rfl; exact rfl; exact (by (try simp only []); omega)) | (apply OQ.mulN; exact rfl; exact rfl; exact (by (try simp only []); omega)) | (apply OQ.quoN; exact rfl; exact rfl; exact (by (try simp only []); omega); exact (by (try simp only []); omega)) | (apply OQ.lssN; exact rfl; exact rfl) | (apply OQ.gtrN; exact rfl; exact rfl)) rfl (JL.nil (kk (0, 0) nofun))))
    · intro x EF MF Q kk
      exact JL.q (OQ.to (OQ.slS_hi (ad := s.ad) (len := s.l.length) (cap := s.cap) Tryd.underlying33 s5 rfl rfl (Nat.le_trans hq2 hs.len)) (Sl8.fst_v s _ hq2)) rfl (JL.nil (kk (0, 0) nofun))
    · intro x EF MF Q kk
      exact JL.callg (ι := Nat) (fun b => .slice (some ⟨b, 0, none⟩) (s.l.take (64 * q)).length (s.l.take (64 * q)).length) (fun b => [⟨b, Own 5 1 (s.l.take (64 * q)).length (s.l.take (64 * q)).length ((turn key ctr nonce (s.l.take (64 * q))).map U8), true⟩]) goes_turnb rfl rfl (fun i => by simp) (fun w' hw' => turnO_any key ctr nonce (s.fst (64 * q)) rfl hk hn w' (hQ.chg hw'.chg (by simp)) ((hs.holds hw' rfl).fst _) (show (s.l.take (64 * q)).length < 140737488355328 by omega)) fun b => JL.nil (kk (b, 0) nofun)
    iterate 9 (focus (intro x EF MF Q kk; (try refine JL.gon rfl rfl ?_); exact JL.q (by first | (apply OQ.load_agg (cs := key.map U8); exact a25; exact s25; exact rfl; exact .here; exact (by simpa using hk); exact Row.all) | (apply OQ.load_agg (cs := nonce.map U8); exact noa; exact nos; exact rfl; exact .here; exact (by simpa using hn); exact Row.all) | (apply OQ.convN_32; exact rfl; exact rfl; exact rfl) | (apply OQ.move; exact rfl) | (apply OQ.assign; exact rfl) | (apply OQ.len; exact rfl; exact rfl) | (apply OQ.add32; exact rfl; exact rfl) | (apply OQ.xor8; exact rfl; exact rfl) | (apply OQ.addN; exact rfl; exact rfl; exact (by (try simp only []); omega)) | (apply OQ.mulN; exact rfl; exact rfl; exact (by (try simp only []); omega)) | (apply OQ.quoN; exact rfl; exact rfl; exact (by (try simp only []); omega); exact (by (try simp only []); omega)) | (apply OQ.lssN; exact rfl; exact rfl) | (apply OQ.gtrN; exact rfl; exact rfl)) rfl (JL.nil (kk (0, 0) nofun))))
    · intro x EF MF Q kk
      exact JL.q (OQ.to (OQ.slS_lo (ad := s.ad) (len := s.l.length) (cap := s.cap) Tryd.underlying33 s5 rfl rfl hq2) (Sl8.snd_v s _)) rfl (JL.nil (kk (0, 0) nofun))
    · intro x EF MF Q kk
      exact JL.callg (ι := Nat) (fun b => .slice (some ⟨b, 0, none⟩) (s.l.drop (64 * q)).length (s.l.drop (64 * q)).length) (fun b => [⟨b, Own 5 1 (s.l.drop (64 * q)).length (s.l.drop (64 * q)).length ((turn key (ctr + BitVec.ofNat 32 (64 * q / 64)) nonce (s.l.drop (64 * q))).map U8), true⟩]) goes_turnb rfl rfl (fun i => by simp) (fun w' hw' => turnO_any key (ctr + BitVec.ofNat 32 (64 * q / 64)) nonce (s.snd (64 * q)) rfl hk hn w' (hQ.chg hw'.chg (by simp)) ((hs.holds hw' rfl).snd _ hq2) (show (s.l.drop (64 * q)).length < 140737488355328 by omega)) fun b => JL.nil (kk (b, 0) nofun)
    · intro x EF MF Q kk
      refine JL.append (cs := (turn key (ctr + BitVec.ofNat 32 (64 * q / 64)) nonce (s.l.drop (64 * q))).map U8) (fun b' cap' => ⟨b', Own 5 1 ((s.l.take (64 * q)).length + (s.l.drop (64 * q)).length) cap' ((turn key ctr nonce (s.l.take (64 * q))).map U8 ++ (turn key (ctr + BitVec.ofNat 32 (64 * q / 64)) nonce (s.l.drop (64 * q))).map U8), true⟩ :: ⟨(x 17).1, Own 5 1 (s.l.drop (64 * q)).length (s.l.drop (64 * q)).length ((turn key (ctr + BitVec.ofNat 32 (64 * q / 64)) nonce (s.l.drop (64 * q))).map U8), true⟩ :: MF) Tryd.underlying33 e5 rfl rfl (fun _ _ => .here) (by rw [List.length_map, turn_length, Nat.mul_one]) (fun w' hw' => ?_) (of_u8 _) rfl (by decide) (by omega) (by omega) rfl fun b' cap' => JL.nil (kk (b', cap') nofun)
      obtain ⟨o, ho, hA⟩ := hw'.get (.there .here)
      exact Reads.block ho (Own.cells _ hA)
    · intro x EF MF Q kk
      exact JL.q (OQ.assign rfl) rfl (JL.nil (kk (x 18) (fun k h => by cases h; rfl)))
  · intro x hx
    have h19 := hx 19 18 (by decide) rfl
    show JE _ _ _ _ _ [(12, .slice (some ⟨(x 19).1, 0, none⟩) ((s.l.take (64 * q)).length + (s.l.drop (64 * q)).length) (x 19).2), (1, U32 ctr), (3, s.v), (5, Pt b5 0), (7, Pt b7 0), (11, N (64 * q))]
      [⟨(x 18).1, Own 5 1 ((s.l.take (64 * q)).length + (s.l.drop (64 * q)).length) (x 18).2 ((turn key ctr nonce (s.l.take (64 * q))).map U8 ++ (turn key (ctr + BitVec.ofNat 32 (64 * q / 64)) nonce (s.l.drop (64 * q))).map U8), true⟩, ⟨b7, Row 26 (nonce.map U8), true⟩, ⟨b5, Row 23 (key.map U8), true⟩]
    rw [h19, hdiv, ← List.map_append, ← hcut, show (s.l.take (64 * q)).length + (s.l.drop (64 * q)).length = s.l.length by omega]
    obtain ⟨b12, cap12⟩ := x 18
    clear hx h19 x vs Ms hcut ht1 ht2 hdiv
    dsimp only
    have hTl := turn_length key ctr nonce s.l
    obtain ⟨hYl, hY⟩ := turn_zero key ctr nonce s.l
    have hT0 : ∀ w', GQ w' → s.ok w' → Calls Tryd.prog 17 [.agg (key.map U8).toArray, U32 ctr, .agg (nonce.map U8).toArray, s.v].toArray w' fun e w'' => ∃ b, e = .returned (.slice (some ⟨b, 0, none⟩) s.l.length s.l.length) ∧ Holds w' [] [⟨b, Own 5 1 s.l.length s.l.length ((turn key ctr nonce s.l).map U8), true⟩] w'' := fun w' h1 h2 => turnO_any key ctr nonce s rfl hk hn w' h1 h2 (by omega)
    have hY0 : ∀ w' b, GQ w' → Sl8.ok w' ⟨some ⟨b, 0, none⟩, s.l.length, List.replicate s.l.length 0⟩ → Calls Tryd.prog 17 [.agg (key.map U8).toArray, U32 ctr, .agg (nonce.map U8).toArray, .slice (some ⟨b, 0, none⟩) s.l.length s.l.length].toArray w' fun e w'' => ∃ b, e = .returned (.slice (some ⟨b, 0, none⟩) s.l.length s.l.length) ∧ Holds w' [] [⟨b, Own 5 1 s.l.length s.l.length ((turn key ctr nonce (List.replicate s.l.length 0)).map U8), true⟩] w'' := fun w' b h1 h2 => by
      have := turnO_any key ctr nonce _ (va := .slice (some ⟨b, 0, none⟩) s.l.length s.l.length) (by simp [Sl8.v]) hk hn w' h1 h2 (by show (List.replicate s.l.length (0 : B)).length < 140737488355328; rw [List.length_replicate]; omega)
      simpa using this
    generalize turn key ctr nonce s.l = T at hTl hY hT0 ⊢
    generalize turn key ctr nonce (List.replicate s.l.length 0) = Y at hYl hY hY0
    have hz : List.replicate (s.l.length * 1) (Value.int .u8 0) = (List.replicate s.l.length (0 : B)).map U8 := by simp [U8]
    repeat (first | refine JL.q (by first | (apply OQ.move; exact rfl) | (apply OQ.assign; exact rfl) | (apply OQ.len; exact rfl; exact rfl) | (apply OQ.add32; exact rfl; exact rfl) | (apply OQ.xor8; exact rfl; exact rfl) | (apply OQ.addN; exact rfl; exact rfl; exact (by (try simp only []); omega)) | (apply OQ.mulN; exact rfl; exact rfl; exact (by (try simp only []); omega)) | (apply OQ.quoN; exact rfl; exact rfl; exact (by (try simp only []); omega); exact (by (try simp only []); omega)) | (apply OQ.lssN; exact rfl; exact rfl) | (apply OQ.gtrN; exact rfl; exact rfl)) rfl ?_ | refine JC.seq ?_ | refine JC.region ?_ | refine JC.block ?_ | refine JC.skip ?_ | refine JC.exit ?_ | refine JL.nil ?_ | refine JE.next ?_ | refine JE.blk_normal ?_ | refine JE.then_exit ?_ | refine JE.blk_hit ?_ | refine JE.blk_miss rfl ?_ | refine JE.then_ret ?_ | refine JE.blk_ret ?_ | refine JC.label ?_ | refine JL.gon rfl rfl ?_ | refine JL.gskip rfl rfl rfl rfl ?_)
    let vs : Nat → X → Value := fun j x => match j with
      | 0 => .agg (key.map U8).toArray
      | 1 => U32 ctr
      | 2 => .agg (nonce.map U8).toArray
      | 3 => s.v
      | 4 => N s.l.length
      | _ => .slice (some ⟨x.1, 0, none⟩) s.l.length s.l.length
    let Ms : Nat → X → List Ent := fun j x => match j with
      | 5 => [⟨x.1, Row 5 ((List.replicate s.l.length (0 : B)).map U8), true⟩]
      | 6 => [⟨x.1, Own 5 1 s.l.length s.l.length (Y.map U8), true⟩]
      | 8 => [⟨b12, Own 5 1 s.l.length cap12 (T.map U8), true⟩]
      | 9 => [⟨b7, Row 26 (nonce.map U8), true⟩]
      | 10 => [⟨b5, Row 23 (key.map U8), true⟩]
      | _ => []
    refine JC.grow (g := ⟨[(1, U32 ctr), (3, s.v), (5, Pt b5 0), (7, Pt b7 0), (12, .slice (some ⟨b12, 0, none⟩) s.l.length cap12)], 11, vs, Ms, needN, inpN, fun _ => [], srcN⟩) [(7, 13)] [6, 8, 9, 10] mixQ (by repeat (first | exact SubE.nil | refine SubE.cons _ _ _ rfl ?_)) (Less.refl _) (by kernel_rfl) (by kernel_rfl) (by kernel_rfl) ?_ ?_
    · refine ⟨?_, ?_, ?_, ?_, ?_, ?_, ?_, ?_, trivial⟩
      iterate 5 (focus (intro x EF MF Q kk; (try refine JL.gon rfl rfl ?_); exact JL.q (by first | (apply OQ.load_agg (cs := key.map U8); exact a25; exact s25; exact rfl; exact .here; exact (by simpa using hk); exact Row.all) | (apply OQ.load_agg (cs := nonce.map U8); exact noa; exact nos; exact rfl; exact .here; exact (by simpa using hn); exact Row.all) | (apply OQ.move; exact rfl) | (apply OQ.assign; exact rfl) | (apply OQ.len; exact rfl; exact rfl) | (apply OQ.add32; exact rfl; exact rfl) | (apply OQ.xor8; exact rfl; exact rfl) | (apply OQ.addN; exact rfl; exact rfl; exact (by (try simp only []); omega)) | (apply OQ.mulN; exact rfl; exact rfl; exact (by (try simp only []); omega)) | (apply OQ.quoN; exact rfl; exact rfl; exact (by (try simp only []); omega); exact (by (try simp only []); omega)) | (apply OQ.lssN; exact rfl; exact rfl) | (apply OQ.gtrN; exact rfl; exact rfl)) rfl (JL.nil (kk (0, 0) nofun))))
      · intro x EF MF Q kk
        refine JL.make Tryd.underlying33 e5 rfl (by decide) (c := s.l.length) rfl rfl (by omega) (by omega) rfl fun b _ => ?_
        rw [hz]
        exact JL.nil (kk (b, 0) nofun)
      · intro x EF MF Q kk
        exact JL.callg (ι := Nat) (vs := [.agg (key.map U8).toArray, U32 ctr, .agg (nonce.map U8).toArray, .slice (some ⟨(x 5).1, 0, none⟩) s.l.length s.l.length]) (fun b => .slice (some ⟨b, 0, none⟩) s.l.length s.l.length) (fun b => [⟨b, Own 5 1 s.l.length s.l.length (Y.map U8), true⟩]) goes_turnb rfl rfl (fun i => by simp) (fun w' hw' => hY0 w' _ (hQ.chg hw'.chg (by simp)) (row_ok hw' .here rfl (by simp))) fun b => JL.nil (kk (b, 0) nofun)
      · intro x EF MF Q kk
        exact JL.q (OQ.assign rfl) rfl (JL.nil (kk (x 6) (fun k h => by cases h; rfl)))
    · intro x hx
      have h7 := hx 7 6 (by decide) rfl
      show JE _ _ _ _ _ [(13, .slice (some ⟨(x 7).1, 0, none⟩) s.l.length s.l.length), (1, U32 ctr), (3, s.v), (5, Pt b5 0), (7, Pt b7 0), (12, .slice (some ⟨b12, 0, none⟩) s.l.length cap12)]
        [⟨(x 6).1, Own 5 1 s.l.length s.l.length (Y.map U8), true⟩, ⟨b12, Own 5 1 s.l.length cap12 (T.map U8), true⟩, ⟨b7, Row 26 (nonce.map U8), true⟩, ⟨b5, Row 23 (key.map U8), true⟩]
      rw [h7]
      generalize (x 6).1 = b13
      clear hx h7 x vs Ms
      repeat (first | refine JL.q (by first | (apply OQ.move; exact rfl) | (apply OQ.assign; exact rfl) | (apply OQ.len; exact rfl; exact rfl) | (apply OQ.add32; exact rfl; exact rfl) | (apply OQ.xor8; exact rfl; exact rfl) | (apply OQ.addN; exact rfl; exact rfl; exact (by (try simp only []); omega)) | (apply OQ.mulN; exact rfl; exact rfl; exact (by (try simp only []); omega)) | (apply OQ.quoN; exact rfl; exact rfl; exact (by (try simp only []); omega); exact (by (try simp only []); omega)) | (apply OQ.lssN; exact rfl; exact rfl) | (apply OQ.gtrN; exact rfl; exact rfl)) rfl ?_ | refine JC.seq ?_ | refine JC.region ?_ | refine JC.block ?_ | refine JC.skip ?_ | refine JC.exit ?_ | refine JL.nil ?_ | refine JE.next ?_ | refine JE.blk_normal ?_ | refine JE.then_exit ?_ | refine JE.blk_hit ?_ | refine JE.blk_miss rfl ?_ | refine JE.then_ret ?_ | refine JE.blk_ret ?_ | refine JC.label ?_ | refine JL.gon rfl rfl ?_ | refine JL.gskip rfl rfl rfl rfl ?_)
      refine JL.litZ Tryd.underlying33 e5 rfl fun b56 _ => ?_
      repeat (first | refine JL.q (by first | (apply OQ.move; exact rfl) | (apply OQ.assign; exact rfl) | (apply OQ.len; exact rfl; exact rfl) | (apply OQ.add32; exact rfl; exact rfl) | (apply OQ.xor8; exact rfl; exact rfl) | (apply OQ.addN; exact rfl; exact rfl; exact (by (try simp only []); omega)) | (apply OQ.mulN; exact rfl; exact rfl; exact (by (try simp only []); omega)) | (apply OQ.quoN; exact rfl; exact rfl; exact (by (try simp only []); omega); exact (by (try simp only []); omega)) | (apply OQ.lssN; exact rfl; exact rfl) | (apply OQ.gtrN; exact rfl; exact rfl)) rfl ?_ | refine JC.seq ?_ | refine JC.region ?_ | refine JC.block ?_ | refine JC.skip ?_ | refine JC.exit ?_ | refine JL.nil ?_ | refine JE.next ?_ | refine JE.blk_normal ?_ | refine JE.then_exit ?_ | refine JE.blk_hit ?_ | refine JE.blk_miss rfl ?_ | refine JE.then_ret ?_ | refine JE.blk_ret ?_ | refine JC.label ?_ | refine JL.gon rfl rfl ?_ | refine JL.gskip rfl rfl rfl rfl ?_)
      refine JL.append (cs := s.l.map U8) (fun b' cap' => [⟨b', Own 5 1 (0 + s.l.length) cap' ([] ++ s.l.map U8), true⟩, ⟨b13, Own 5 1 s.l.length s.l.length (Y.map U8), true⟩, ⟨b12, Own 5 1 s.l.length cap12 (T.map U8), true⟩, ⟨b7, Row 26 (nonce.map U8), true⟩, ⟨b5, Row 23 (key.map U8), true⟩]) Tryd.underlying33 e5 rfl rfl (by intro _ _; repeat (first | exact Repl.here | apply Repl.there)) (by simp) (fun w' hw' => (hs.holds hw' rfl).reads) (of_u8 _) rfl (by decide) (by omega) (by omega) rfl fun b14 cap14 => ?_
      rw [List.nil_append, Nat.zero_add]
      repeat (first | refine JL.q (by first | (apply OQ.move; exact rfl) | (apply OQ.assign; exact rfl) | (apply OQ.len; exact rfl; exact rfl) | (apply OQ.add32; exact rfl; exact rfl) | (apply OQ.xor8; exact rfl; exact rfl) | (apply OQ.addN; exact rfl; exact rfl; exact (by (try simp only []); omega)) | (apply OQ.mulN; exact rfl; exact rfl; exact (by (try simp only []); omega)) | (apply OQ.quoN; exact rfl; exact rfl; exact (by (try simp only []); omega); exact (by (try simp only []); omega)) | (apply OQ.lssN; exact rfl; exact rfl) | (apply OQ.gtrN; exact rfl; exact rfl)) rfl ?_ | refine JC.seq ?_ | refine JC.region ?_ | refine JC.block ?_ | refine JC.skip ?_ | refine JC.exit ?_ | refine JL.nil ?_ | refine JE.next ?_ | refine JE.blk_normal ?_ | refine JE.then_exit ?_ | refine JE.blk_hit ?_ | refine JE.blk_miss rfl ?_ | refine JE.then_ret ?_ | refine JE.blk_ret ?_ | refine JC.label ?_ | refine JL.gon rfl rfl ?_ | refine JL.gskip rfl rfl rfl rfl ?_)
      refine JC.loop (fun j : Nat => [(1, U32 ctr), (3, s.v), (5, Pt b5 0), (7, Pt b7 0), (12, .slice (some ⟨b12, 0, none⟩) s.l.length cap12), (13, .slice (some ⟨b13, 0, none⟩) s.l.length s.l.length), (14, .slice (some ⟨b14, 0, none⟩) s.l.length cap14), (60, N s.l.length), (61, N j)])
        (fun j => [⟨b14, Own 5 1 s.l.length cap14 ((zl T s.l j).map U8), true⟩, ⟨b13, Own 5 1 s.l.length s.l.length (Y.map U8), true⟩, ⟨b12, Own 5 1 s.l.length cap12 (T.map U8), true⟩, ⟨b7, Row 26 (nonce.map U8), true⟩, ⟨b5, Row 23 (key.map U8), true⟩])
        (fun j => s.l.length - j) (fun j => j ≤ s.l.length) 0 (by omega) (by repeat (first | exact SubE.nil | refine SubE.cons _ _ _ rfl ?_)) (Less.refl _) ?_
      intro j hj
      repeat (first | refine JL.q (by first | (apply OQ.move; exact rfl) | (apply OQ.assign; exact rfl) | (apply OQ.len; exact rfl; exact rfl) | (apply OQ.add32; exact rfl; exact rfl) | (apply OQ.xor8; exact rfl; exact rfl) | (apply OQ.addN; exact rfl; exact rfl; exact (by (try simp only []); omega)) | (apply OQ.mulN; exact rfl; exact rfl; exact (by (try simp only []); omega)) | (apply OQ.quoN; exact rfl; exact rfl; exact (by (try simp only []); omega); exact (by (try simp only []); omega)) | (apply OQ.lssN; exact rfl; exact rfl) | (apply OQ.gtrN; exact rfl; exact rfl)) rfl ?_ | refine JC.seq ?_ | refine JC.region ?_ | refine JC.block ?_ | refine JC.skip ?_ | refine JC.exit ?_ | refine JL.nil ?_ | refine JE.next ?_ | refine JE.blk_normal ?_ | refine JE.then_exit ?_ | refine JE.blk_hit ?_ | refine JE.blk_miss rfl ?_ | refine JE.then_ret ?_ | refine JE.blk_ret ?_ | refine JC.label ?_ | refine JL.gon rfl rfl ?_ | refine JL.gskip rfl rfl rfl rfl ?_)
      refine JC.cond rfl (fun h => ?_) (fun h => ?_)
      · have hj' : j < s.l.length := of_decide_eq_true h
        clear h hj
        have hset := zl_set hTl hj'
        rw [← hY j hj', ← zl_get hTl hj'] at hset
        have hzl := zl_length hTl j
        repeat (first | refine JL.q (by first | (apply OQ.move; exact rfl) | (apply OQ.assign; exact rfl) | (apply OQ.len; exact rfl; exact rfl) | (apply OQ.add32; exact rfl; exact rfl) | (apply OQ.xor8; exact rfl; exact rfl) | (apply OQ.addN; exact rfl; exact rfl; exact (by (try simp only []); omega)) | (apply OQ.mulN; exact rfl; exact rfl; exact (by (try simp only []); omega)) | (apply OQ.quoN; exact rfl; exact rfl; exact (by (try simp only []); omega); exact (by (try simp only []); omega)) | (apply OQ.lssN; exact rfl; exact rfl) | (apply OQ.gtrN; exact rfl; exact rfl)) rfl ?_ | refine JC.seq ?_ | refine JC.region ?_ | refine JC.block ?_ | refine JC.skip ?_ | refine JC.exit ?_ | refine JL.nil ?_ | refine JE.next ?_ | refine JE.blk_normal ?_ | refine JE.then_exit ?_ | refine JE.blk_hit ?_ | refine JE.blk_miss rfl ?_ | refine JE.then_ret ?_ | refine JE.blk_ret ?_ | refine JC.label ?_ | refine JL.gon rfl rfl ?_ | refine JL.gskip rfl rfl rfl rfl ?_)
        refine JC.tail 10 mixQ (by kernel_rfl) ?_
        simp only [List.take_succ_cons, List.take_zero, List.drop_succ_cons, List.drop_zero]
        repeat (first | refine JL.q (by first | (apply OQ.idxS0; exact Tryd.underlying33; exact s5; exact rfl; exact rfl; exact hj') | (apply OQ.load (b := b14); exact c5; exact rfl; exact .here; exact (Own.cell (map_at U8 0 (by omega)))) | (apply OQ.load (b := b13); exact c5; exact rfl; exact (.there .here); exact (Own.cell (map_at U8 0 (by omega)))) | (apply OQ.move; exact rfl) | (apply OQ.assign; exact rfl) | (apply OQ.len; exact rfl; exact rfl) | (apply OQ.add32; exact rfl; exact rfl) | (apply OQ.xor8; exact rfl; exact rfl) | (apply OQ.addN; exact rfl; exact rfl; exact (by (try simp only []); omega)) | (apply OQ.mulN; exact rfl; exact rfl; exact (by (try simp only []); omega)) | (apply OQ.quoN; exact rfl; exact rfl; exact (by (try simp only []); omega); exact (by (try simp only []); omega)) | (apply OQ.lssN; exact rfl; exact rfl) | (apply OQ.gtrN; exact rfl; exact rfl)) rfl ?_ | refine JQ.q (by first | (apply OQ.idxS0; exact Tryd.underlying33; exact s5; exact rfl; exact rfl; exact hj') | (apply OQ.load (b := b14); exact c5; exact rfl; exact .here; exact (Own.cell (map_at U8 0 (by omega)))) | (apply OQ.load (b := b13); exact c5; exact rfl; exact (.there .here); exact (Own.cell (map_at U8 0 (by omega)))) | (apply OQ.move; exact rfl) | (apply OQ.assign; exact rfl) | (apply OQ.len; exact rfl; exact rfl) | (apply OQ.add32; exact rfl; exact rfl) | (apply OQ.xor8; exact rfl; exact rfl) | (apply OQ.addN; exact rfl; exact rfl; exact (by (try simp only []); omega)) | (apply OQ.mulN; exact rfl; exact rfl; exact (by (try simp only []); omega)) | (apply OQ.quoN; exact rfl; exact rfl; exact (by (try simp only []); omega); exact (by (try simp only []); omega)) | (apply OQ.lssN; exact rfl; exact rfl) | (apply OQ.gtrN; exact rfl; exact rfl)) rfl ?_ | refine JC.seq ?_ | refine JC.region ?_ | refine JC.block ?_ | refine JC.skip ?_ | refine JC.exit ?_ | refine JL.nil ?_ | refine JQ.nil ?_ | refine JQ.nil_tail ?_ | refine JE.next ?_ | refine JE.blk_normal ?_ | refine JE.then_exit ?_ | refine JE.blk_hit ?_ | refine JE.blk_miss rfl ?_ | refine JE.then_ret ?_ | refine JE.blk_ret ?_ | refine JC.label ?_ | refine JL.gon rfl rfl ?_ | refine JQ.gon rfl rfl ?_ | refine JL.gskip rfl rfl rfl rfl ?_ | refine JQ.gskip rfl rfl rfl rfl ?_)
        refine JL.store_own s5 rfl rfl rfl rfl .here (by rw [List.length_map]; omega) hset ?_
        repeat (first | refine JL.q (by first | (apply OQ.move; exact rfl) | (apply OQ.assign; exact rfl) | (apply OQ.len; exact rfl; exact rfl) | (apply OQ.add32; exact rfl; exact rfl) | (apply OQ.xor8; exact rfl; exact rfl) | (apply OQ.addN; exact rfl; exact rfl; exact (by (try simp only []); omega)) | (apply OQ.mulN; exact rfl; exact rfl; exact (by (try simp only []); omega)) | (apply OQ.quoN; exact rfl; exact rfl; exact (by (try simp only []); omega); exact (by (try simp only []); omega)) | (apply OQ.lssN; exact rfl; exact rfl) | (apply OQ.gtrN; exact rfl; exact rfl)) rfl ?_ | refine JQ.q (by first | (apply OQ.move; exact rfl) | (apply OQ.assign; exact rfl) | (apply OQ.len; exact rfl; exact rfl) | (apply OQ.add32; exact rfl; exact rfl) | (apply OQ.xor8; exact rfl; exact rfl) | (apply OQ.addN; exact rfl; exact rfl; exact (by (try simp only []); omega)) | (apply OQ.mulN; exact rfl; exact rfl; exact (by (try simp only []); omega)) | (apply OQ.quoN; exact rfl; exact rfl; exact (by (try simp only []); omega); exact (by (try simp only []); omega)) | (apply OQ.lssN; exact rfl; exact rfl) | (apply OQ.gtrN; exact rfl; exact rfl)) rfl ?_ | refine JC.seq ?_ | refine JC.region ?_ | refine JC.block ?_ | refine JC.skip ?_ | refine JC.exit ?_ | refine JL.nil ?_ | refine JQ.nil ?_ | refine JQ.nil_tail ?_ | refine JE.next ?_ | refine JE.blk_normal ?_ | refine JE.then_exit ?_ | refine JE.blk_hit ?_ | refine JE.blk_miss rfl ?_ | refine JE.then_ret ?_ | refine JE.blk_ret ?_ | refine JC.label ?_ | refine JL.gon rfl rfl ?_ | refine JQ.gon rfl rfl ?_ | refine JL.gskip rfl rfl rfl rfl ?_ | refine JQ.gskip rfl rfl rfl rfl ?_)
        exact JE.again (i := j) (j + 1) (by omega) (by omega) (by repeat (first | exact SubE.nil | refine SubE.cons _ _ _ rfl ?_)) (Less.refl _)
      · have hj' : ¬ j < s.l.length := of_decide_eq_false h
        obtain rfl : j = s.l.length := by omega
        clear h hj hj'
        rw [zl_all hTl]
        repeat (first | refine JL.q (by first | (apply OQ.load_agg (cs := key.map U8); exact a25; exact s25; exact rfl; exact (.there (.there (.there (.there .here)))); exact (by simpa using hk); exact Row.all) | (apply OQ.load_agg (cs := nonce.map U8); exact noa; exact nos; exact rfl; exact (.there (.there (.there .here))); exact (by simpa using hn); exact Row.all) | (apply OQ.move; exact rfl) | (apply OQ.assign; exact rfl) | (apply OQ.len; exact rfl; exact rfl) | (apply OQ.add32; exact rfl; exact rfl) | (apply OQ.xor8; exact rfl; exact rfl) | (apply OQ.addN; exact rfl; exact rfl; exact (by (try simp only []); omega)) | (apply OQ.mulN; exact rfl; exact rfl; exact (by (try simp only []); omega)) | (apply OQ.quoN; exact rfl; exact rfl; exact (by (try simp only []); omega); exact (by (try simp only []); omega)) | (apply OQ.lssN; exact rfl; exact rfl) | (apply OQ.gtrN; exact rfl; exact rfl)) rfl ?_ | refine JQ.q (by first | (apply OQ.load_agg (cs := key.map U8); exact a25; exact s25; exact rfl; exact (.there (.there (.there (.there .here)))); exact (by simpa using hk); exact Row.all) | (apply OQ.load_agg (cs := nonce.map U8); exact noa; exact nos; exact rfl; exact (.there (.there (.there .here))); exact (by simpa using hn); exact Row.all) | (apply OQ.move; exact rfl) | (apply OQ.assign; exact rfl) | (apply OQ.len; exact rfl; exact rfl) | (apply OQ.add32; exact rfl; exact rfl) | (apply OQ.xor8; exact rfl; exact rfl) | (apply OQ.addN; exact rfl; exact rfl; exact (by (try simp only []); omega)) | (apply OQ.mulN; exact rfl; exact rfl; exact (by (try simp only []); omega)) | (apply OQ.quoN; exact rfl; exact rfl; exact (by (try simp only []); omega); exact (by (try simp only []); omega)) | (apply OQ.lssN; exact rfl; exact rfl) | (apply OQ.gtrN; exact rfl; exact rfl)) rfl ?_ | refine JC.seq ?_ | refine JC.region ?_ | refine JC.block ?_ | refine JC.skip ?_ | refine JC.exit ?_ | refine JL.nil ?_ | refine JQ.nil ?_ | refine JQ.nil_tail ?_ | refine JE.next ?_ | refine JE.blk_normal ?_ | refine JE.then_exit ?_ | refine JE.blk_hit ?_ | refine JE.blk_miss rfl ?_ | refine JE.then_ret ?_ | refine JE.blk_ret ?_ | refine JC.label ?_ | refine JL.gon rfl rfl ?_ | refine JQ.gon rfl rfl ?_ | refine JL.gskip rfl rfl rfl rfl ?_ | refine JQ.gskip rfl rfl rfl rfl ?_)
        refine JL.callg (ι := Nat) (fun b => .slice (some ⟨b, 0, none⟩) s.l.length s.l.length) (fun b => [⟨b, Own 5 1 s.l.length s.l.length (T.map U8), true⟩]) goes_turnb rfl rfl (fun i => by simp) (fun w' hw' => hT0 w' (hQ.chg hw'.chg (by simp)) (hs.holds hw' rfl)) fun b16 => ?_
        try dsimp only
        have e1 : ∀ b c, Sl8.v ⟨some ⟨b, 0, none⟩, c, T⟩ = .slice (some ⟨b, 0, none⟩) s.l.length c := fun b c => by simp [Sl8.v, hTl]
        repeat (first | refine JL.q (by first | (apply OQ.callx (vs := [.slice (some ⟨b16, 0, none⟩) s.l.length s.l.length, .slice (some ⟨b12, 0, none⟩) s.l.length cap12]); exact goes_same; exact rfl; exact (fun w' hw' => same_t (a := ⟨some ⟨b16, 0, none⟩, s.l.length, T⟩) (b := ⟨some ⟨b12, 0, none⟩, cap12, T⟩) (e1 _ _) (e1 _ _) (ownb_ok hw' .here) (ownb_ok hw' (.there (.there (.there .here)))) (show T.length < 4611686018427387904 by omega) rfl)) | (apply OQ.callx (vs := [.slice (some ⟨b16, 0, none⟩) s.l.length s.l.length, .slice (some ⟨b14, 0, none⟩) s.l.length cap14]); exact goes_same; exact rfl; exact (fun w' hw' => same_t (a := ⟨some ⟨b16, 0, none⟩, s.l.length, T⟩) (b := ⟨some ⟨b14, 0, none⟩, cap14, T⟩) (e1 _ _) (e1 _ _) (ownb_ok hw' .here) (ownb_ok hw' (.there .here)) (show T.length < 4611686018427387904 by omega) rfl)) | (apply OQ.pick_t; exact rfl; exact rfl) | (apply OQ.move; exact rfl) | (apply OQ.assign; exact rfl) | (apply OQ.len; exact rfl; exact rfl) | (apply OQ.add32; exact rfl; exact rfl) | (apply OQ.xor8; exact rfl; exact rfl) | (apply OQ.addN; exact rfl; exact rfl; exact (by (try simp only []); omega)) | (apply OQ.mulN; exact rfl; exact rfl; exact (by (try simp only []); omega)) | (apply OQ.quoN; exact rfl; exact rfl; exact (by (try simp only []); omega); exact (by (try simp only []); omega)) | (apply OQ.lssN; exact rfl; exact rfl) | (apply OQ.gtrN; exact rfl; exact rfl)) rfl ?_ | refine JQ.q (by first | (apply OQ.callx (vs := [.slice (some ⟨b16, 0, none⟩) s.l.length s.l.length, .slice (some ⟨b12, 0, none⟩) s.l.length cap12]); exact goes_same; exact rfl; exact (fun w' hw' => same_t (a := ⟨some ⟨b16, 0, none⟩, s.l.length, T⟩) (b := ⟨some ⟨b12, 0, none⟩, cap12, T⟩) (e1 _ _) (e1 _ _) (ownb_ok hw' .here) (ownb_ok hw' (.there (.there (.there .here)))) (show T.length < 4611686018427387904 by omega) rfl)) | (apply OQ.callx (vs := [.slice (some ⟨b16, 0, none⟩) s.l.length s.l.length, .slice (some ⟨b14, 0, none⟩) s.l.length cap14]); exact goes_same; exact rfl; exact (fun w' hw' => same_t (a := ⟨some ⟨b16, 0, none⟩, s.l.length, T⟩) (b := ⟨some ⟨b14, 0, none⟩, cap14, T⟩) (e1 _ _) (e1 _ _) (ownb_ok hw' .here) (ownb_ok hw' (.there .here)) (show T.length < 4611686018427387904 by omega) rfl)) | (apply OQ.pick_t; exact rfl; exact rfl) | (apply OQ.move; exact rfl) | (apply OQ.assign; exact rfl) | (apply OQ.len; exact rfl; exact rfl) | (apply OQ.add32; exact rfl; exact rfl) | (apply OQ.xor8; exact rfl; exact rfl) | (apply OQ.addN; exact rfl; exact rfl; exact (by (try simp only []); omega)) | (apply OQ.mulN; exact rfl; exact rfl; exact (by (try simp only []); omega)) | (apply OQ.quoN; exact rfl; exact rfl; exact (by (try simp only []); omega); exact (by (try simp only []); omega)) | (apply OQ.lssN; exact rfl; exact rfl) | (apply OQ.gtrN; exact rfl; exact rfl)) rfl ?_ | refine JC.seq ?_ | refine JC.region ?_ | refine JC.block ?_ | refine JC.skip ?_ | refine JC.exit ?_ | refine JL.nil ?_ | refine JQ.nil ?_ | refine JQ.nil_tail ?_ | refine JE.next ?_ | refine JE.blk_normal ?_ | refine JE.then_exit ?_ | refine JE.blk_hit ?_ | refine JE.blk_miss rfl ?_ | refine JE.then_ret ?_ | refine JE.blk_ret ?_ | refine JC.label ?_ | refine JL.gon rfl rfl ?_ | refine JQ.gon rfl rfl ?_ | refine JL.gskip rfl rfl rfl rfl ?_ | refine JQ.gskip rfl rfl rfl rfl ?_)
        refine JC.ret ?_
        repeat (first | refine JL.q (by first | (apply OQ.move; exact rfl) | (apply OQ.assign; exact rfl) | (apply OQ.len; exact rfl; exact rfl) | (apply OQ.add32; exact rfl; exact rfl) | (apply OQ.xor8; exact rfl; exact rfl) | (apply OQ.addN; exact rfl; exact rfl; exact (by (try simp only []); omega)) | (apply OQ.mulN; exact rfl; exact rfl; exact (by (try simp only []); omega)) | (apply OQ.quoN; exact rfl; exact rfl; exact (by (try simp only []); omega); exact (by (try simp only []); omega)) | (apply OQ.lssN; exact rfl; exact rfl) | (apply OQ.gtrN; exact rfl; exact rfl)) rfl ?_ | refine JQ.q (by first | (apply OQ.move; exact rfl) | (apply OQ.assign; exact rfl) | (apply OQ.len; exact rfl; exact rfl) | (apply OQ.add32; exact rfl; exact rfl) | (apply OQ.xor8; exact rfl; exact rfl) | (apply OQ.addN; exact rfl; exact rfl; exact (by (try simp only []); omega)) | (apply OQ.mulN; exact rfl; exact rfl; exact (by (try simp only []); omega)) | (apply OQ.quoN; exact rfl; exact rfl; exact (by (try simp only []); omega); exact (by (try simp only []); omega)) | (apply OQ.lssN; exact rfl; exact rfl) | (apply OQ.gtrN; exact rfl; exact rfl)) rfl ?_ | refine JC.seq ?_ | refine JC.region ?_ | refine JC.block ?_ | refine JC.skip ?_ | refine JC.exit ?_ | refine JL.nil ?_ | refine JQ.nil ?_ | refine JQ.nil_tail ?_ | refine JE.next ?_ | refine JE.blk_normal ?_ | refine JE.then_exit ?_ | refine JE.blk_hit ?_ | refine JE.blk_miss rfl ?_ | refine JE.then_ret ?_ | refine JE.blk_ret ?_ | refine JC.label ?_ | refine JL.gon rfl rfl ?_ | refine JQ.gon rfl rfl ?_ | refine JL.gskip rfl rfl rfl rfl ?_ | refine JQ.gskip rfl rfl rfl rfl ?_)
        exact JE.ret1 rfl (RV.tmp rfl) fun w' hw => ⟨rfl, hw.chg⟩
end Go.Proofs.YtheemnpfnefbmaaDoor
