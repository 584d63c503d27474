/-
  Of no statement by itself: what stream.Turn gives.
  Conditions: the theorem's own; the listed table of quarters.
-/
import Derived.Test.YtheemnpfnefbmaaDoorStrM
namespace Go.Proofs.YtheemnpfnefbmaaDoor
open Sl Sha Str

theorem goes_turnb : Goes Tryd.prog 17 := ⟨_, Tryd.func17, rfl, by kernel_rfl⟩
theorem OQ.slS_in {P : Program} {n : Nat} {E : Env} {C : World → Prop} {dst : Option Tmp} {t ty e : TypeId} {pos : String} {aft : Array Edge} {g : Option (Nat × Bool)} {x y z : Operand} {len cap b j lo hi : Nat} (hu : P.underlying t = some (.slice e)) (hz : szT P e = some 1) (hx : ev E x = some (.slice (some ⟨b, j, none⟩) len cap)) (hl : ev E y = some (N lo)) (hh : ev E z = some (N hi)) (h : lo ≤ hi) (h' : hi ≤ cap) (h2 : lo < cap) :
    OQ P n E C ⟨dst, .slice t x (some y) (some z) none, ty, pos, aft, g⟩ (.slice (some ⟨b, j + lo, none⟩) (hi - lo) (cap - lo)) := by
  have := OQ.slS_lohi (P := P) (n := n) (E := E) (C := C) (dst := dst) (ty := ty) (pos := pos) (aft := aft) (g := g) hu hz hx hl hh h h'
  rw [if_neg (by omega), Nat.mul_one] at this
  simpa [add_off] using this

section
variable (key : List B) (ctr : W) (nonce l : List B)
/-- turned as far as j, noughts behind -/
def tz (j : Nat) : List B := turn key ctr nonce (l.take j) ++ List.replicate (l.length - j) 0
theorem tz_length (j : Nat) (h : j ≤ l.length) : ((tz key ctr nonce l j).map U8).length = l.length := by simp [tz, turn_length]; omega
theorem tz_zero : List.replicate (l.length * 1) (Value.int .u8 0) = (tz key ctr nonce l (min (64 * 0) l.length)).map U8 := by simp [tz, turn, turnAt, U8]
theorem tz_all : tz key ctr nonce l l.length = turn key ctr nonce l := by simp [tz]
theorem tz_set (q i : Nat) (hi : i < 64) (h : 64 * q + i < l.length) : ((tz key ctr nonce l (64 * q + i)).map U8).set (64 * q + i) (U8 (l.getD (64 * q + i) 0 ^^^ (ks key (ctr + BitVec.ofNat 32 q) nonce).getD i 0)) = (tz key ctr nonce l (64 * q + i + 1)).map U8 := by
  rw [← sb_at key ctr nonce q i hi]
  generalize 64 * q + i = j at h ⊢
  have hl : (turn key ctr nonce (l.take j)).length = j := by rw [turn_length, List.length_take]; omega
  rw [← List.map_set, tz, List.set_append_right _ _ (by omega), hl, Nat.sub_self, tz, turn_succ key ctr nonce l j h, show l.length - j = (l.length - (j + 1)) + 1 by omega, List.replicate_succ, List.set_cons_zero]
  simp
theorem ctr_succ (q : Nat) : ctr + BitVec.ofNat 32 q + 1#32 = ctr + BitVec.ofNat 32 (q + 1) := by rw [BitVec.add_assoc, BitVec.ofNat_add]
end

set_option maxHeartbeats 16000000 in
set_option maxRecDepth 4000 in
theorem turn_any' (key : List B) (ctr : W) (nonce : List B) (s : Sl8) (hk : key.length = 32) (hn : nonce.length = 12) (w : World) (hQ : GQ w) (hs : s.ok w) (hsl : s.l.length < 140737488355328) :
    Calls Tryd.prog 17 [.agg (key.map U8).toArray, U32 ctr, .agg (nonce.map U8).toArray, s.v].toArray w fun e w' => ∃ b, e = .returned (.slice (some ⟨b, 0, none⟩) s.l.length s.l.length) ∧ Holds w [] [⟨b, Row 5 ((turn key ctr nonce s.l).map U8), true⟩] w' := by
  refine enter (n := 60) Tryd.func17 rfl rfl rfl (Holds.start w []) ?_
  repeat (first | refine JL.q (by first | (apply OQ.move; exact rfl) | (apply OQ.assign; exact rfl) | (apply OQ.len; exact rfl; exact rfl) | (apply OQ.add32; exact rfl; exact rfl) | (apply OQ.xor8; exact rfl; exact rfl) | (apply OQ.addN; exact rfl; exact rfl; exact (by (try simp only []); omega)) | (apply OQ.lssN; exact rfl; exact rfl) | (apply OQ.idxA0; exact rfl; exact rfl; exact rfl; exact rfl; exact (by (try simp only []); omega))) rfl ?_ | refine JC.seq ?_ | refine JC.region ?_ | refine JC.block ?_ | refine JC.skip ?_ | refine JC.exit ?_ | refine JL.nil ?_ | refine JE.next ?_ | refine JE.blk_normal ?_ | refine JE.then_exit ?_ | refine JE.blk_hit ?_ | refine JE.blk_miss rfl ?_ | refine JE.then_ret ?_ | refine JE.blk_ret ?_ | refine JC.label ?_ | refine JL.gon rfl rfl ?_ | refine JL.gskip rfl rfl rfl rfl ?_)
  refine JL.box (r := key.map U8) rfl rfl rfl fun b4 _ => ?_
  refine JL.box (r := nonce.map U8) rfl rfl rfl fun b6 _ => ?_
  repeat (first | refine JL.q (by first | (apply OQ.load_agg (cs := key.map U8); exact a25; exact s25; exact rfl; exact (.there .here); exact (by simpa using hk); exact Row.all) | (apply OQ.load_agg (cs := nonce.map U8); exact noa; exact nos; exact rfl; exact .here; exact (by simpa using hn); exact Row.all) | (apply OQ.callx; exact goes_beginning; exact rfl; exact (fun w' _ => beginning_any key ctr nonce hk hn w')) | (apply OQ.move; exact rfl) | (apply OQ.assign; exact rfl) | (apply OQ.len; exact rfl; exact rfl) | (apply OQ.add32; exact rfl; exact rfl) | (apply OQ.xor8; exact rfl; exact rfl) | (apply OQ.addN; exact rfl; exact rfl; exact (by (try simp only []); omega)) | (apply OQ.lssN; exact rfl; exact rfl) | (apply OQ.idxA0; exact rfl; exact rfl; exact rfl; exact rfl; exact (by (try simp only []); omega))) rfl ?_ | refine JC.seq ?_ | refine JC.region ?_ | refine JC.block ?_ | refine JC.skip ?_ | refine JC.exit ?_ | refine JL.nil ?_ | refine JE.next ?_ | refine JE.blk_normal ?_ | refine JE.then_exit ?_ | refine JE.blk_hit ?_ | refine JE.blk_miss rfl ?_ | refine JE.then_ret ?_ | refine JE.blk_ret ?_ | refine JC.label ?_ | refine JL.gon rfl rfl ?_ | refine JL.gskip rfl rfl rfl rfl ?_)
  refine JL.alloc w16z rfl fun b9 _ => ?_
  have hbl : ∀ c, ((sbegin key c nonce).map U32).length = 16 := fun c => by rw [List.length_map, sbegin_length]
  refine JL.store_all w16s rfl rfl (hbl _) (all32q _) .here (by simp) ?_
  repeat (first | refine JL.q (by first | (apply OQ.move; exact rfl) | (apply OQ.assign; exact rfl) | (apply OQ.len; exact rfl; exact rfl) | (apply OQ.add32; exact rfl; exact rfl) | (apply OQ.xor8; exact rfl; exact rfl) | (apply OQ.addN; exact rfl; exact rfl; exact (by (try simp only []); omega)) | (apply OQ.lssN; exact rfl; exact rfl) | (apply OQ.idxA0; exact rfl; exact rfl; exact rfl; exact rfl; exact (by (try simp only []); omega))) rfl ?_ | refine JC.seq ?_ | refine JC.region ?_ | refine JC.block ?_ | refine JC.skip ?_ | refine JC.exit ?_ | refine JL.nil ?_ | refine JE.next ?_ | refine JE.blk_normal ?_ | refine JE.then_exit ?_ | refine JE.blk_hit ?_ | refine JE.blk_miss rfl ?_ | refine JE.then_ret ?_ | refine JE.blk_ret ?_ | refine JC.label ?_ | refine JL.gon rfl rfl ?_ | refine JL.gskip rfl rfl rfl rfl ?_)
  refine JL.make Tryd.underlying33 e5 rfl (by decide) (c := s.l.length) rfl rfl (by omega) (by omega) rfl fun b10 _ => ?_
  rw [tz_zero key ctr nonce]
  repeat (first | refine JL.q (by first | (apply OQ.move; exact rfl) | (apply OQ.assign; exact rfl) | (apply OQ.len; exact rfl; exact rfl) | (apply OQ.add32; exact rfl; exact rfl) | (apply OQ.xor8; exact rfl; exact rfl) | (apply OQ.addN; exact rfl; exact rfl; exact (by (try simp only []); omega)) | (apply OQ.lssN; exact rfl; exact rfl) | (apply OQ.idxA0; exact rfl; exact rfl; exact rfl; exact rfl; exact (by (try simp only []); omega))) rfl ?_ | refine JC.seq ?_ | refine JC.region ?_ | refine JC.block ?_ | refine JC.skip ?_ | refine JC.exit ?_ | refine JL.nil ?_ | refine JE.next ?_ | refine JE.blk_normal ?_ | refine JE.then_exit ?_ | refine JE.blk_hit ?_ | refine JE.blk_miss rfl ?_ | refine JE.then_ret ?_ | refine JE.blk_ret ?_ | refine JC.label ?_ | refine JL.gon rfl rfl ?_ | refine JL.gskip rfl rfl rfl rfl ?_)
  refine JC.loop (fun q : Nat => [(3, s.v), (9, Pt b9 0), (10, .slice (some ⟨b10, 0, none⟩) s.l.length s.l.length), (11, N (64 * q))])
    (fun q => [⟨b10, Row 5 ((tz key ctr nonce s.l (min (64 * q) s.l.length)).map U8), true⟩, ⟨b9, Row 51 ((sbegin key (ctr + BitVec.ofNat 32 q) nonce).map U32), true⟩])
    (fun q => s.l.length + 64 - 64 * q) (fun q => 64 * q < s.l.length + 64) 0 (by omega) (by repeat (first | exact SubE.nil | refine SubE.cons _ _ _ rfl ?_)) (.keep _ _ _ _ _ _ (fun _ h => h) (.keep _ _ _ _ _ _ (fun o ho => by simpa using ho) (Less.nil _))) ?_
  intro q hq
  repeat (first | refine JL.q (by first | (apply OQ.move; exact rfl) | (apply OQ.assign; exact rfl) | (apply OQ.len; exact rfl; exact rfl) | (apply OQ.add32; exact rfl; exact rfl) | (apply OQ.xor8; exact rfl; exact rfl) | (apply OQ.addN; exact rfl; exact rfl; exact (by (try simp only []); omega)) | (apply OQ.lssN; exact rfl; exact rfl) | (apply OQ.idxA0; exact rfl; exact rfl; exact rfl; exact rfl; exact (by (try simp only []); omega))) rfl ?_ | refine JC.seq ?_ | refine JC.region ?_ | refine JC.block ?_ | refine JC.skip ?_ | refine JC.exit ?_ | refine JL.nil ?_ | refine JE.next ?_ | refine JE.blk_normal ?_ | refine JE.then_exit ?_ | refine JE.blk_hit ?_ | refine JE.blk_miss rfl ?_ | refine JE.then_ret ?_ | refine JE.blk_ret ?_ | refine JC.label ?_ | refine JL.gon rfl rfl ?_ | refine JL.gskip rfl rfl rfl rfl ?_)
  refine JC.cond rfl (fun h => ?_) (fun h => ?_)
  · have hq' : 64 * q < s.l.length := of_decide_eq_true h
    clear h hq
    obtain ⟨bb, jb, hae, hcell⟩ := hs.reads.at (by simp; omega)
    have hav : s.v = .slice (some ⟨bb, jb, none⟩) s.l.length s.cap := by rw [← hae]; rfl
    have hcap := hs.len
    have hksl : ((ks key (ctr + BitVec.ofNat 32 q) nonce).map U8).length = 64 := by rw [List.length_map, ks_length]
    repeat (first | refine JL.q (by first | (apply OQ.load_agg (cs := (sbegin key (ctr + BitVec.ofNat 32 q) nonce).map U32); exact w16a; exact w16s; exact rfl; exact (.there .here); exact (hbl _); exact Row.all) | (apply OQ.callx; exact goes_mixed; exact rfl; exact (fun w' hw' => mixed_any (sbegin key (ctr + BitVec.ofNat 32 q) nonce) (sbegin_length _ _ _) w' (hQ.chg hw'.chg (by simp)))) | (apply OQ.move; exact rfl) | (apply OQ.assign; exact rfl) | (apply OQ.len; exact rfl; exact rfl) | (apply OQ.add32; exact rfl; exact rfl) | (apply OQ.xor8; exact rfl; exact rfl) | (apply OQ.addN; exact rfl; exact rfl; exact (by (try simp only []); omega)) | (apply OQ.lssN; exact rfl; exact rfl) | (apply OQ.idxA0; exact rfl; exact rfl; exact rfl; exact rfl; exact (by (try simp only []); omega))) rfl ?_ | refine JC.seq ?_ | refine JC.region ?_ | refine JC.block ?_ | refine JC.skip ?_ | refine JC.exit ?_ | refine JL.nil ?_ | refine JE.next ?_ | refine JE.blk_normal ?_ | refine JE.then_exit ?_ | refine JE.blk_hit ?_ | refine JE.blk_miss rfl ?_ | refine JE.then_ret ?_ | refine JE.blk_ret ?_ | refine JC.label ?_ | refine JL.gon rfl rfl ?_ | refine JL.gskip rfl rfl rfl rfl ?_)
    refine JL.alloc u64z rfl fun b12 _ => ?_
    refine JL.store_all s60 rfl rfl hksl (all8 _) .here (by simp) ?_
    rw [hav]
    obtain ⟨c, hc⟩ : ∃ c, c = min (64 * q + 64) s.l.length - 64 * q := ⟨_, rfl⟩
    have hc1 : c ≤ 64 := by omega
    have hc2 : 64 * q + c ≤ s.l.length := by omega
    repeat (first | refine JL.q (by first | (apply OQ.minN; exact rfl; exact rfl) | (apply OQ.slS_in; exact Tryd.underlying33; exact s5; exact rfl; exact rfl; exact rfl; exact (by (try simp only []); omega); exact (by (try simp only []); omega); exact (by (try simp only []); omega)) | (apply OQ.move; exact rfl) | (apply OQ.assign; exact rfl) | (apply OQ.len; exact rfl; exact rfl) | (apply OQ.add32; exact rfl; exact rfl) | (apply OQ.xor8; exact rfl; exact rfl) | (apply OQ.addN; exact rfl; exact rfl; exact (by (try simp only []); omega)) | (apply OQ.lssN; exact rfl; exact rfl) | (apply OQ.idxA0; exact rfl; exact rfl; exact rfl; exact rfl; exact (by (try simp only []); omega))) rfl ?_ | refine JC.seq ?_ | refine JC.region ?_ | refine JC.block ?_ | refine JC.skip ?_ | refine JC.exit ?_ | refine JL.nil ?_ | refine JE.next ?_ | refine JE.blk_normal ?_ | refine JE.then_exit ?_ | refine JE.blk_hit ?_ | refine JE.blk_miss rfl ?_ | refine JE.then_ret ?_ | refine JE.blk_ret ?_ | refine JC.label ?_ | refine JL.gon rfl rfl ?_ | refine JL.gskip rfl rfl rfl rfl ?_)
    rw [← hc, Nat.min_eq_left (by omega : 64 * q ≤ s.l.length)]
    refine JC.loop (fun i : Nat => [(3, .slice (some ⟨bb, jb, none⟩) s.l.length s.cap), (9, Pt b9 0), (10, .slice (some ⟨b10, 0, none⟩) s.l.length s.l.length), (11, N (64 * q)), (12, Pt b12 0), (37, .slice (some ⟨bb, jb + 64 * q, none⟩) c (s.cap - 64 * q)), (38, N c), (39, N i)])
      (fun i => [⟨b12, Row 29 ((ks key (ctr + BitVec.ofNat 32 q) nonce).map U8), true⟩, ⟨b10, Row 5 ((tz key ctr nonce s.l (64 * q + i)).map U8), true⟩, ⟨b9, Row 51 ((sbegin key (ctr + BitVec.ofNat 32 q) nonce).map U32), true⟩])
      (fun i => c - i) (fun i => i ≤ c) 0 (by omega) (by repeat (first | exact SubE.nil | refine SubE.cons _ _ _ rfl ?_)) (Less.refl _) ?_
    intro i hi
    repeat (first | refine JL.q (by first | (apply OQ.move; exact rfl) | (apply OQ.assign; exact rfl) | (apply OQ.len; exact rfl; exact rfl) | (apply OQ.add32; exact rfl; exact rfl) | (apply OQ.xor8; exact rfl; exact rfl) | (apply OQ.addN; exact rfl; exact rfl; exact (by (try simp only []); omega)) | (apply OQ.lssN; exact rfl; exact rfl) | (apply OQ.idxA0; exact rfl; exact rfl; exact rfl; exact rfl; exact (by (try simp only []); omega))) rfl ?_ | refine JC.seq ?_ | refine JC.region ?_ | refine JC.block ?_ | refine JC.skip ?_ | refine JC.exit ?_ | refine JL.nil ?_ | refine JE.next ?_ | refine JE.blk_normal ?_ | refine JE.then_exit ?_ | refine JE.blk_hit ?_ | refine JE.blk_miss rfl ?_ | refine JE.then_ret ?_ | refine JE.blk_ret ?_ | refine JC.label ?_ | refine JL.gon rfl rfl ?_ | refine JL.gskip rfl rfl rfl rfl ?_)
    refine JC.cond rfl (fun h => ?_) (fun h => ?_)
    · have hi' : i < c := of_decide_eq_true h
      clear h hi
      have hci : w.cell? ⟨bb, jb + 64 * q + i, none⟩ = some (U8 (s.l.getD (64 * q + i) 0)) := by
        rw [Nat.add_assoc]
        exact hcell _ _ (map_at U8 0 (by omega))
      repeat (first | refine JL.q (by first | (apply OQ.idxS1; exact Tryd.underlying33; exact s5; exact rfl; exact rfl; exact hi') | (apply OQ.load_old; exact c5; exact rfl; exact (block_lt_of_cell hci); exact (by simp); exact hci) | (apply OQ.idxA0; exact Tryd.underlying29; exact s5; exact rfl; exact rfl; exact (by (try simp only []); omega)) | (apply OQ.load; exact c5; exact rfl; exact .here; exact (Row.cell (map_at U8 0 (by rw [ks_length]; omega)))) | (apply OQ.idxS0; exact Tryd.underlying33; exact s5; exact rfl; exact rfl; exact (show 64 * q + i < s.l.length by omega)) | (apply OQ.move; exact rfl) | (apply OQ.assign; exact rfl) | (apply OQ.len; exact rfl; exact rfl) | (apply OQ.add32; exact rfl; exact rfl) | (apply OQ.xor8; exact rfl; exact rfl) | (apply OQ.addN; exact rfl; exact rfl; exact (by (try simp only []); omega)) | (apply OQ.lssN; exact rfl; exact rfl) | (apply OQ.idxA0; exact rfl; exact rfl; exact rfl; exact rfl; exact (by (try simp only []); omega))) rfl ?_ | refine JC.seq ?_ | refine JC.region ?_ | refine JC.block ?_ | refine JC.skip ?_ | refine JC.exit ?_ | refine JL.nil ?_ | refine JE.next ?_ | refine JE.blk_normal ?_ | refine JE.then_exit ?_ | refine JE.blk_hit ?_ | refine JE.blk_miss rfl ?_ | refine JE.then_ret ?_ | refine JE.blk_ret ?_ | refine JC.label ?_ | refine JL.gon rfl rfl ?_ | refine JL.gskip rfl rfl rfl rfl ?_)
      refine JL.store_eq s5 rfl rfl rfl rfl (.there .here) (by rw [tz_length _ _ _ _ _ (by omega)]; omega) (tz_set key ctr nonce s.l q i (by omega) (by omega)) ?_
      repeat (first | refine JL.q (by first | (apply OQ.move; exact rfl) | (apply OQ.assign; exact rfl) | (apply OQ.len; exact rfl; exact rfl) | (apply OQ.add32; exact rfl; exact rfl) | (apply OQ.xor8; exact rfl; exact rfl) | (apply OQ.addN; exact rfl; exact rfl; exact (by (try simp only []); omega)) | (apply OQ.lssN; exact rfl; exact rfl) | (apply OQ.idxA0; exact rfl; exact rfl; exact rfl; exact rfl; exact (by (try simp only []); omega))) rfl ?_ | refine JC.seq ?_ | refine JC.region ?_ | refine JC.block ?_ | refine JC.skip ?_ | refine JC.exit ?_ | refine JL.nil ?_ | refine JE.next ?_ | refine JE.blk_normal ?_ | refine JE.then_exit ?_ | refine JE.blk_hit ?_ | refine JE.blk_miss rfl ?_ | refine JE.then_ret ?_ | refine JE.blk_ret ?_ | refine JC.label ?_ | refine JL.gon rfl rfl ?_ | refine JL.gskip rfl rfl rfl rfl ?_)
      exact JE.again (i := i) (i + 1) (by omega) (by omega) (by repeat (first | exact SubE.nil | refine SubE.cons _ _ _ rfl ?_)) (Less.refl _)
    · have hi' : ¬ i < c := of_decide_eq_false h
      obtain rfl : i = c := by omega
      clear h hi hi'
      have hg : ((sbegin key (ctr + BitVec.ofNat 32 q) nonce).map U32)[12]? = some (U32 (ctr + BitVec.ofNat 32 q)) := by
        have := w_get (s := sbegin key (ctr + BitVec.ofNat 32 q) nonce) (j := 12) (by rw [sbegin_length]; decide)
        rwa [sbegin_get] at this
      have hset : ((sbegin key (ctr + BitVec.ofNat 32 q) nonce).map U32).set 12 (U32 (ctr + BitVec.ofNat 32 q + 1#32)) = (sbegin key (ctr + BitVec.ofNat 32 (q + 1)) nonce).map U32 := by
        rw [← List.map_set, sbegin_set, ctr_succ]
      rw [← hav]
      repeat (first | refine JL.q (by first | (apply OQ.idxA0; exact Tryd.underlying51; exact q1s; exact rfl; exact rfl; exact (by decide)) | (apply OQ.load; exact q1c; exact rfl; exact (.there (.there .here)); exact (Row.cell hg)) | (apply OQ.add32 (b := 1#32); exact rfl; exact rfl) | (apply OQ.move; exact rfl) | (apply OQ.assign; exact rfl) | (apply OQ.len; exact rfl; exact rfl) | (apply OQ.add32; exact rfl; exact rfl) | (apply OQ.xor8; exact rfl; exact rfl) | (apply OQ.addN; exact rfl; exact rfl; exact (by (try simp only []); omega)) | (apply OQ.lssN; exact rfl; exact rfl) | (apply OQ.idxA0; exact rfl; exact rfl; exact rfl; exact rfl; exact (by (try simp only []); omega))) rfl ?_ | refine JC.seq ?_ | refine JC.region ?_ | refine JC.block ?_ | refine JC.skip ?_ | refine JC.exit ?_ | refine JL.nil ?_ | refine JE.next ?_ | refine JE.blk_normal ?_ | refine JE.then_exit ?_ | refine JE.blk_hit ?_ | refine JE.blk_miss rfl ?_ | refine JE.then_ret ?_ | refine JE.blk_ret ?_ | refine JC.label ?_ | refine JL.gon rfl rfl ?_ | refine JL.gskip rfl rfl rfl rfl ?_)
      refine JL.store_eq q1s rfl rfl rfl rfl (.there (.there .here)) (by rw [hbl]; decide) hset ?_
      repeat (first | refine JL.q (by first | (apply OQ.move; exact rfl) | (apply OQ.assign; exact rfl) | (apply OQ.len; exact rfl; exact rfl) | (apply OQ.add32; exact rfl; exact rfl) | (apply OQ.xor8; exact rfl; exact rfl) | (apply OQ.addN; exact rfl; exact rfl; exact (by (try simp only []); omega)) | (apply OQ.lssN; exact rfl; exact rfl) | (apply OQ.idxA0; exact rfl; exact rfl; exact rfl; exact rfl; exact (by (try simp only []); omega))) rfl ?_ | refine JC.seq ?_ | refine JC.region ?_ | refine JC.block ?_ | refine JC.skip ?_ | refine JC.exit ?_ | refine JL.nil ?_ | refine JE.next ?_ | refine JE.blk_normal ?_ | refine JE.then_exit ?_ | refine JE.blk_hit ?_ | refine JE.blk_miss rfl ?_ | refine JE.then_ret ?_ | refine JE.blk_ret ?_ | refine JC.label ?_ | refine JL.gon rfl rfl ?_ | refine JL.gskip rfl rfl rfl rfl ?_)
      rw [show 64 * q + 64 = 64 * (q + 1) by omega]
      exact JE.again (i := q) (q + 1) (by omega) (by omega) (by repeat (first | exact SubE.nil | refine SubE.cons _ _ _ rfl ?_)) (.drop _ _ _ (.keep _ _ _ _ _ _ (fun o ho => by rw [show min (64 * (q + 1)) s.l.length = 64 * q + i by omega]; exact ho) (Less.refl _)))
  · have hq' : ¬ 64 * q < s.l.length := of_decide_eq_false h
    clear h
    repeat (first | refine JL.q (by first | (apply OQ.move; exact rfl) | (apply OQ.assign; exact rfl) | (apply OQ.len; exact rfl; exact rfl) | (apply OQ.add32; exact rfl; exact rfl) | (apply OQ.xor8; exact rfl; exact rfl) | (apply OQ.addN; exact rfl; exact rfl; exact (by (try simp only []); omega)) | (apply OQ.lssN; exact rfl; exact rfl) | (apply OQ.idxA0; exact rfl; exact rfl; exact rfl; exact rfl; exact (by (try simp only []); omega))) rfl ?_ | refine JC.seq ?_ | refine JC.region ?_ | refine JC.block ?_ | refine JC.skip ?_ | refine JC.exit ?_ | refine JL.nil ?_ | refine JE.next ?_ | refine JE.blk_normal ?_ | refine JE.then_exit ?_ | refine JE.blk_hit ?_ | refine JE.blk_miss rfl ?_ | refine JE.then_ret ?_ | refine JE.blk_ret ?_ | refine JC.label ?_ | refine JL.gon rfl rfl ?_ | refine JL.gskip rfl rfl rfl rfl ?_)
    refine JC.ret ?_
    repeat (first | refine JL.q (by first | (apply OQ.move; exact rfl) | (apply OQ.assign; exact rfl) | (apply OQ.len; exact rfl; exact rfl) | (apply OQ.add32; exact rfl; exact rfl) | (apply OQ.xor8; exact rfl; exact rfl) | (apply OQ.addN; exact rfl; exact rfl; exact (by (try simp only []); omega)) | (apply OQ.lssN; exact rfl; exact rfl) | (apply OQ.idxA0; exact rfl; exact rfl; exact rfl; exact rfl; exact (by (try simp only []); omega))) rfl ?_ | refine JC.seq ?_ | refine JC.region ?_ | refine JC.block ?_ | refine JC.skip ?_ | refine JC.exit ?_ | refine JL.nil ?_ | refine JE.next ?_ | refine JE.blk_normal ?_ | refine JE.then_exit ?_ | refine JE.blk_hit ?_ | refine JE.blk_miss rfl ?_ | refine JE.then_ret ?_ | refine JE.blk_ret ?_ | refine JC.label ?_ | refine JL.gon rfl rfl ?_ | refine JL.gskip rfl rfl rfl rfl ?_)
    refine JE.ret1 rfl (RV.tmp rfl) fun w' hw => ⟨b10, rfl, hw.weak (.keep _ _ _ _ _ _ (fun o ho => ?_) (Less.nil _))⟩
    rw [Nat.min_eq_right (by omega), tz_all] at ho
    exact ho
end Go.Proofs.YtheemnpfnefbmaaDoor
