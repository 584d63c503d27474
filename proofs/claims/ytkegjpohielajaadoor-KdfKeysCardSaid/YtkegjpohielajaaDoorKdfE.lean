/-
  Of no statement by itself: what kdf.Keys gives.
  Conditions: each theorem's own.
-/
import Derived.Test.YtkegjpohielajaaDoorKdfD
namespace Go.Proofs.YtkegjpohielajaaDoor
open Sl Sha

section
variable {P : Program} {n : Nat} {w0 w w' : World} {S : List Nat} {ops : Array Oper} {Q : Exit → Act → World → Prop} {l : List Oper} {E : Env} {M Ms : List Ent} {d : Nat} {t t' e ty : TypeId} {pos : String} {aft : Array Edge} {x : Operand}
theorem Sl.Holds.both (h : Holds w0 S M w) (h2 : Holds w [] Ms w') (hw : ∀ e ∈ Ms, e.wr = true) : Holds w0 S (Ms ++ M) w' := by
  have hx : Ext w w' := h2.chg
  have h1 := h.ext hx
  have hfr : ∀ e ∈ Ms, w.heap.size ≤ e.b := fun e he => by
    rcases (h2.all e he).2 (hw e he) with h | h
    · cases h
    · exact h
  refine ⟨h1.chg, ?_, fun e he => ?_⟩
  · rw [List.map_append, List.nodup_append]
    refine ⟨h2.nodup, h1.nodup, fun a ha b hb e => ?_⟩
    simp only [List.mem_map] at ha hb
    obtain ⟨e1, he1, rfl⟩ := ha
    obtain ⟨e2, he2, rfl⟩ := hb
    have := hfr e1 he1
    obtain ⟨⟨o, ho, _⟩, _⟩ := h.all e2 he2
    have := (Array.getElem?_eq_some_iff.1 ho).1
    omega
  · rcases List.mem_append.1 he with he | he
    · refine ⟨(h2.all e he).1, fun _ => .inr (Nat.le_trans h.chg.size (hfr e he))⟩
    · exact h1.all e he
theorem Sl8.ents_wr (s : Sl8) : ∀ e ∈ s.ents, e.wr = true := by
  intro e he
  unfold Sl8.ents at he
  split at he
  · simp only [List.mem_singleton] at he
    subst he
    rfl
  · cases he
theorem JL.callg {ι : Type} (vf : ι → Value) (Mf : ι → List Ent) {f : FuncId} {xs : List Operand} {ats : Array TypeId} {vs : List Value} (hg : Goes P f) (hx : evs E xs = some vs) (hd : Nat.blt d n = true) (hwr : ∀ i, ∀ e ∈ Mf i, e.wr = true)
    (hc : ∀ w, Holds w0 S M w → Calls P f vs.toArray w fun e w' => ∃ i, e = .returned (vf i) ∧ Holds w [] (Mf i) w')
    (k : ∀ i, JL P n w0 S ops Q l ((d, vf i) :: E) (Mf i ++ M)) : JL P n w0 S ops Q (⟨some d, .call ⟨.value (.func f), xs.toArray, ats⟩, ty, pos, aft, none⟩ :: l) E M :=
  JL.call (ι := ι) vf (fun i => Mf i ++ M) hg hx hd (fun w hw => (hc w hw).mono fun _ _ ⟨i, h1, h2⟩ => ⟨i, h1, hw.both h2 (hwr i)⟩) k
def bytesOf (s : ByteArray) : List B := s.data.toList.map UInt8.toBitVec
theorem bytesOf_length (s : ByteArray) : (bytesOf s).length = s.size := by simp [bytesOf]
/-- []byte(s) -/
theorem JL.s2b {s : ByteArray} {u : TypeDesc} (hs : P.underlying t = some u) (hu : P.underlying t' = some (.slice e)) (he : P.underlying e = some (.int .u8)) (hx : ev E x = some (.string s)) (hd : Nat.blt d n = true)
    (k : ∀ b cap, JL P n w0 S ops Q l ((d, Sl8.v ⟨some ⟨b, 0, none⟩, cap, bytesOf s⟩) :: E) ((⟨some ⟨b, 0, none⟩, cap, bytesOf s⟩ : Sl8).ents ++ M)) : JL P n w0 S ops Q (⟨some d, .convert t t' x, ty, pos, aft, none⟩ :: l) E M :=
  ⟨fun a w ha hw => wpList_plain rfl fun K hK => by
    have hrun := Lib.run_convert_string_bytes (P := P) w t t' e s hs hu he
    have hheap : (Lib.bytesWorld w e s).heap = w.heap.push (.cells (Lib.bytesCells w e s) e ((Lib.bytesCells w e s).size, (Lib.bytesCells w e s).size + 1)) := by
      apply Array.ext_getElem?
      intro i
      rw [Array.getElem?_push]
      by_cases h : i = w.heap.size
      · rw [if_pos h, h, Lib.bytesWorld_at_new]
      · rw [if_neg h]
        by_cases h2 : i < w.heap.size
        · rw [Lib.bytesWorld_at_old _ _ _ _ h2]
        · rw [Array.getElem?_eq_none (by rw [Lib.bytesWorld_size]; omega), Array.getElem?_eq_none (by omega)]
    have hge := grownCap_ge w s.size 0 e
    have hcells : hasCells (.cells (Lib.bytesCells w e s) e ((Lib.bytesCells w e s).size, (Lib.bytesCells w e s).size + 1)) 0 ((bytesOf s).map U8) := by
      refine ⟨_, _, _, rfl, fun i hi => ?_⟩
      have hi : i < s.data.size := by simpa [bytesOf] using hi
      simp only [Lib.bytesCells, bytesOf, Nat.zero_add, Array.getElem?_append, Array.size_map, hi, if_true, Array.getElem?_map, List.getElem?_map, Array.getElem?_toList, Option.map_map]
      rfl
    have h5 : Sl8.v ⟨some ⟨w.heap.size, 0, none⟩, grownCap w s.size 0 e, bytesOf s⟩ = .slice (some ⟨w.heap.size, 0, none⟩) s.size (grownCap w s.size 0 e) := by
      simp [Sl8.v, bytesOf_length]
    unfold Oper.wp
    simp only [execOp, ha.eval hx, Sem.run_bind, hrun, Result.andThen_ok]
    rw [← h5]
    exact hK _ _ ((k w.heap.size (grownCap w s.size 0 e)).go _ _ (ha.put d _ hd) (hw.push _ ⟨hcells, by show (bytesOf s).length ≤ _; rw [bytesOf_length]; exact hge, rfl⟩ hheap rfl rfl rfl))⟩
end
theorem e25 : EI Tryd.prog 25 (.agg ((List.replicate 32 (0 : B)).map U8).toArray) 32 32 := by unfold EI; kernel_rfl
theorem goes_keys : Goes Tryd.prog 26 := ⟨_, Tryd.func26, rfl, by kernel_rfl⟩

def kcs (l : List B) (n i : Nat) : List Value := (l.take (i * 32)).map U8 ++ List.replicate (n * 32 - i * 32) (.int .u8 0)
theorem kcs_length (l : List B) (n i : Nat) (hl : l.length = n * 32) (hi : i ≤ n) : (kcs l n i).length = n * 32 := by
  simp [kcs]; omega
theorem kcs_succ (l : List B) (n i : Nat) (hl : l.length = n * 32) (hi : i < n) :
    (kcs l n i).take (0 + i * 32) ++ ((l.drop (i * 32)).map U8).take 32 ++ (kcs l n i).drop (0 + i * 32 + 32) = kcs l n (i + 1) := by
  have h1 : ((l.take (i * 32)).map U8).length = i * 32 := by simp; omega
  have a1 : (kcs l n i).take (0 + i * 32) = (l.take (i * 32)).map U8 := by rw [Nat.zero_add, kcs, List.take_append_of_le_length (by omega), List.take_of_length_le (by omega)]
  have a2 : (kcs l n i).drop (0 + i * 32 + 32) = List.replicate (n * 32 - (i + 1) * 32) (.int .u8 0) := by
    rw [Nat.zero_add, kcs, List.drop_append, List.drop_of_length_le (by omega), List.nil_append, h1, List.drop_replicate]
    congr 1
    omega
  rw [a1, a2, ← List.map_take, ← List.map_append, ← List.take_add, kcs, show i * 32 + 32 = (i + 1) * 32 by omega]

set_option maxHeartbeats 8000000 in
theorem keys_bad (k s : Sl8) (p : ByteArray) (m : Int) (hm : m < 0 ∨ 255 < m) (w : World) :
    Calls Tryd.prog 26 [k.v, s.v, .string p, .int .i64 m].toArray w fun e w' => e = .returned (.tuple #[.slice none 0 0, N 2]) ∧ Ext w w' := by
  refine enter (n := 52) Tryd.func26 rfl rfl rfl (Holds.start w []) ?_
  by_cases h1 : m < 0
  · repeat (first | refine JL.q (by first | (apply OQ.lssI_t; exact rfl; exact rfl; exact h1) | (apply OQ.pick_t; exact rfl; exact rfl) | (apply OQ.move; exact rfl) | (apply OQ.assign; exact rfl) | (apply OQ.len; exact rfl; exact rfl) | (apply OQ.addN; exact rfl; exact rfl; exact (by (try simp only []); omega)) | (apply OQ.mulN; exact rfl; exact rfl; exact (by (try simp only []); omega)) | (apply OQ.lssN; exact rfl; exact rfl) | (apply OQ.gtrN; exact rfl; exact rfl) | (apply OQ.idxS; exact rfl; exact rfl; exact rfl; exact rfl; exact (by (try simp only []); omega))) rfl ?_ | refine JC.seq ?_ | refine JC.region ?_ | refine JC.block ?_ | refine JC.skip ?_ | refine JC.exit ?_ | refine JL.nil ?_ | refine JE.next ?_ | refine JE.blk_normal ?_ | refine JE.then_exit ?_ | refine JE.blk_hit ?_ | refine JE.blk_miss rfl ?_ | refine JE.then_ret ?_ | refine JE.blk_ret ?_ | refine JC.label ?_ | refine JL.gon rfl rfl ?_ | refine JL.gskip rfl rfl rfl rfl ?_)
    refine JC.cond_true rfl rfl ?_
    repeat (first | refine JL.q (by first | (apply OQ.move; exact rfl) | (apply OQ.assign; exact rfl) | (apply OQ.len; exact rfl; exact rfl) | (apply OQ.addN; exact rfl; exact rfl; exact (by (try simp only []); omega)) | (apply OQ.mulN; exact rfl; exact rfl; exact (by (try simp only []); omega)) | (apply OQ.lssN; exact rfl; exact rfl) | (apply OQ.gtrN; exact rfl; exact rfl) | (apply OQ.idxS; exact rfl; exact rfl; exact rfl; exact rfl; exact (by (try simp only []); omega))) rfl ?_ | refine JC.seq ?_ | refine JC.region ?_ | refine JC.block ?_ | refine JC.skip ?_ | refine JC.exit ?_ | refine JL.nil ?_ | refine JE.next ?_ | refine JE.blk_normal ?_ | refine JE.then_exit ?_ | refine JE.blk_hit ?_ | refine JE.blk_miss rfl ?_ | refine JE.then_ret ?_ | refine JE.blk_ret ?_ | refine JC.label ?_ | refine JL.gon rfl rfl ?_ | refine JL.gskip rfl rfl rfl rfl ?_)
    refine JC.ret ?_
    repeat (first | refine JL.q (by first | (apply OQ.move; exact rfl) | (apply OQ.assign; exact rfl) | (apply OQ.len; exact rfl; exact rfl) | (apply OQ.addN; exact rfl; exact rfl; exact (by (try simp only []); omega)) | (apply OQ.mulN; exact rfl; exact rfl; exact (by (try simp only []); omega)) | (apply OQ.lssN; exact rfl; exact rfl) | (apply OQ.gtrN; exact rfl; exact rfl) | (apply OQ.idxS; exact rfl; exact rfl; exact rfl; exact rfl; exact (by (try simp only []); omega))) rfl ?_ | refine JC.seq ?_ | refine JC.region ?_ | refine JC.block ?_ | refine JC.skip ?_ | refine JC.exit ?_ | refine JL.nil ?_ | refine JE.next ?_ | refine JE.blk_normal ?_ | refine JE.then_exit ?_ | refine JE.blk_hit ?_ | refine JE.blk_miss rfl ?_ | refine JE.then_ret ?_ | refine JE.blk_ret ?_ | refine JC.label ?_ | refine JL.gon rfl rfl ?_ | refine JL.gskip rfl rfl rfl rfl ?_)
    exact JE.ret2 rfl (RV.tmp rfl) (RV.tmp rfl) fun w' hw => ⟨rfl, hw.chg⟩
  · have h2 : 255 < m := by omega
    repeat (first | refine JL.q (by first | (apply OQ.lssI_f; exact rfl; exact rfl; exact h1) | (apply OQ.gtrI_t; exact rfl; exact rfl; exact h2) | (apply OQ.pick_f; exact rfl; exact rfl) | (apply OQ.move; exact rfl) | (apply OQ.assign; exact rfl) | (apply OQ.len; exact rfl; exact rfl) | (apply OQ.addN; exact rfl; exact rfl; exact (by (try simp only []); omega)) | (apply OQ.mulN; exact rfl; exact rfl; exact (by (try simp only []); omega)) | (apply OQ.lssN; exact rfl; exact rfl) | (apply OQ.gtrN; exact rfl; exact rfl) | (apply OQ.idxS; exact rfl; exact rfl; exact rfl; exact rfl; exact (by (try simp only []); omega))) rfl ?_ | refine JC.seq ?_ | refine JC.region ?_ | refine JC.block ?_ | refine JC.skip ?_ | refine JC.exit ?_ | refine JL.nil ?_ | refine JE.next ?_ | refine JE.blk_normal ?_ | refine JE.then_exit ?_ | refine JE.blk_hit ?_ | refine JE.blk_miss rfl ?_ | refine JE.then_ret ?_ | refine JE.blk_ret ?_ | refine JC.label ?_ | refine JL.gon rfl rfl ?_ | refine JL.gskip rfl rfl rfl rfl ?_)
    refine JC.cond_true rfl rfl ?_
    repeat (first | refine JL.q (by first | (apply OQ.move; exact rfl) | (apply OQ.assign; exact rfl) | (apply OQ.len; exact rfl; exact rfl) | (apply OQ.addN; exact rfl; exact rfl; exact (by (try simp only []); omega)) | (apply OQ.mulN; exact rfl; exact rfl; exact (by (try simp only []); omega)) | (apply OQ.lssN; exact rfl; exact rfl) | (apply OQ.gtrN; exact rfl; exact rfl) | (apply OQ.idxS; exact rfl; exact rfl; exact rfl; exact rfl; exact (by (try simp only []); omega))) rfl ?_ | refine JC.seq ?_ | refine JC.region ?_ | refine JC.block ?_ | refine JC.skip ?_ | refine JC.exit ?_ | refine JL.nil ?_ | refine JE.next ?_ | refine JE.blk_normal ?_ | refine JE.then_exit ?_ | refine JE.blk_hit ?_ | refine JE.blk_miss rfl ?_ | refine JE.then_ret ?_ | refine JE.blk_ret ?_ | refine JC.label ?_ | refine JL.gon rfl rfl ?_ | refine JL.gskip rfl rfl rfl rfl ?_)
    refine JC.ret ?_
    repeat (first | refine JL.q (by first | (apply OQ.move; exact rfl) | (apply OQ.assign; exact rfl) | (apply OQ.len; exact rfl; exact rfl) | (apply OQ.addN; exact rfl; exact rfl; exact (by (try simp only []); omega)) | (apply OQ.mulN; exact rfl; exact rfl; exact (by (try simp only []); omega)) | (apply OQ.lssN; exact rfl; exact rfl) | (apply OQ.gtrN; exact rfl; exact rfl) | (apply OQ.idxS; exact rfl; exact rfl; exact rfl; exact rfl; exact (by (try simp only []); omega))) rfl ?_ | refine JC.seq ?_ | refine JC.region ?_ | refine JC.block ?_ | refine JC.skip ?_ | refine JC.exit ?_ | refine JL.nil ?_ | refine JE.next ?_ | refine JE.blk_normal ?_ | refine JE.then_exit ?_ | refine JE.blk_hit ?_ | refine JE.blk_miss rfl ?_ | refine JE.then_ret ?_ | refine JE.blk_ret ?_ | refine JC.label ?_ | refine JL.gon rfl rfl ?_ | refine JL.gskip rfl rfl rfl rfl ?_)
    exact JE.ret2 rfl (RV.tmp rfl) (RV.tmp rfl) fun w' hw => ⟨rfl, hw.chg⟩

set_option maxHeartbeats 16000000 in
theorem keys_any (k s : Sl8) (p : ByteArray) (m : Nat) (hm : m ≤ 255) (w : World) (hG : GOk w) (hk : k.ok w) (hs : s.ok w) (hkl : k.l.length < 4611686018427387904) (hsl : s.l.length < 4611686018427387000) (hpl : p.size < 4611686018427380000) :
    Calls Tryd.prog 26 [k.v, s.v, .string p, N m].toArray w fun e w' => ∃ b, e = .returned (.tuple #[.slice (some ⟨b, 0, none⟩) m m, N 0]) ∧ Holds w [] [⟨b, Row 25 ((expd (hmac k.l s.l) (bytesOf p) (m * 32)).map U8), true⟩] w' := by
  refine enter (n := 52) Tryd.func26 rfl rfl rfl (Holds.start w []) ?_
  repeat (first | refine JL.q (by first | (apply OQ.lssI_f; exact rfl; exact rfl; exact (show ¬ ((m : Int) < 0) by omega)) | (apply OQ.gtrI_f; exact rfl; exact rfl; exact (show ¬ ((255 : Int) < (m : Int)) by omega)) | (apply OQ.pick_f; exact rfl; exact rfl) | (apply OQ.move; exact rfl) | (apply OQ.assign; exact rfl) | (apply OQ.len; exact rfl; exact rfl) | (apply OQ.addN; exact rfl; exact rfl; exact (by (try simp only []); omega)) | (apply OQ.mulN; exact rfl; exact rfl; exact (by (try simp only []); omega)) | (apply OQ.lssN; exact rfl; exact rfl) | (apply OQ.gtrN; exact rfl; exact rfl) | (apply OQ.idxS; exact rfl; exact rfl; exact rfl; exact rfl; exact (by (try simp only []); omega))) rfl ?_ | refine JC.seq ?_ | refine JC.region ?_ | refine JC.block ?_ | refine JC.skip ?_ | refine JC.exit ?_ | refine JL.nil ?_ | refine JE.next ?_ | refine JE.blk_normal ?_ | refine JE.then_exit ?_ | refine JE.blk_hit ?_ | refine JE.blk_miss rfl ?_ | refine JE.then_ret ?_ | refine JE.blk_ret ?_ | refine JC.label ?_ | refine JL.gon rfl rfl ?_ | refine JL.gskip rfl rfl rfl rfl ?_)
  refine JC.cond_false rfl rfl ?_
  repeat (first | refine JL.q (by first | (apply OQ.callx; exact goes_extract; exact rfl; exact (fun w' hw' => extract_any k s w' (hG.chg hw'.chg (by simp)) (hk.holds hw' rfl) (hs.holds hw' rfl) hkl hsl)) | (apply OQ.move; exact rfl) | (apply OQ.assign; exact rfl) | (apply OQ.len; exact rfl; exact rfl) | (apply OQ.addN; exact rfl; exact rfl; exact (by (try simp only []); omega)) | (apply OQ.mulN; exact rfl; exact rfl; exact (by (try simp only []); omega)) | (apply OQ.lssN; exact rfl; exact rfl) | (apply OQ.gtrN; exact rfl; exact rfl) | (apply OQ.idxS; exact rfl; exact rfl; exact rfl; exact rfl; exact (by (try simp only []); omega))) rfl ?_ | refine JC.seq ?_ | refine JC.region ?_ | refine JC.block ?_ | refine JC.skip ?_ | refine JC.exit ?_ | refine JL.nil ?_ | refine JE.next ?_ | refine JE.blk_normal ?_ | refine JE.then_exit ?_ | refine JE.blk_hit ?_ | refine JE.blk_miss rfl ?_ | refine JE.then_ret ?_ | refine JE.blk_ret ?_ | refine JC.label ?_ | refine JL.gon rfl rfl ?_ | refine JL.gskip rfl rfl rfl rfl ?_)
  refine JL.s2b Tryd.underlying9 Tryd.underlying22 Tryd.underlying5 rfl rfl fun b25 cap25 => ?_
  repeat (first | refine JL.q (by first | (apply OQ.move; exact rfl) | (apply OQ.assign; exact rfl) | (apply OQ.len; exact rfl; exact rfl) | (apply OQ.addN; exact rfl; exact rfl; exact (by (try simp only []); omega)) | (apply OQ.mulN; exact rfl; exact rfl; exact (by (try simp only []); omega)) | (apply OQ.lssN; exact rfl; exact rfl) | (apply OQ.gtrN; exact rfl; exact rfl) | (apply OQ.idxS; exact rfl; exact rfl; exact rfl; exact rfl; exact (by (try simp only []); omega))) rfl ?_ | refine JC.seq ?_ | refine JC.region ?_ | refine JC.block ?_ | refine JC.skip ?_ | refine JC.exit ?_ | refine JL.nil ?_ | refine JE.next ?_ | refine JE.blk_normal ?_ | refine JE.then_exit ?_ | refine JE.blk_hit ?_ | refine JE.blk_miss rfl ?_ | refine JE.then_ret ?_ | refine JE.blk_ret ?_ | refine JC.label ?_ | refine JL.gon rfl rfl ?_ | refine JL.gskip rfl rfl rfl rfl ?_)
  refine JL.callg (ι := { s' : Sl8 // Gave s' (expd (hmac k.l s.l) (bytesOf p) (m * 32)) (m * 32) }) (fun i => .tuple #[i.1.v, N 0]) (fun i => i.1.ents) goes_expand rfl rfl (fun i => Sl8.ents_wr _) (fun w' hw' => (expand_any (hmac k.l s.l) (hmac_length _ _) ⟨some ⟨b25, 0, none⟩, cap25, bytesOf p⟩ (m * 32) (by omega) w' (hG.chg hw'.chg (by simp)) (Sl8.ents_ok hw' (fun h => by cases h)) (by rw [bytesOf_length]; exact hpl)).mono fun e w2 ⟨s', h1, h2, h3⟩ => ⟨⟨s', h2⟩, h1, h3⟩) ?_
  rintro ⟨s', hs'⟩
  dsimp only
  repeat (first | refine JL.q (by first | (apply OQ.extract; exact rfl; exact rfl) | (apply OQ.nei_f; exact rfl; exact rfl; exact rfl) | (apply OQ.move; exact rfl) | (apply OQ.assign; exact rfl) | (apply OQ.len; exact rfl; exact rfl) | (apply OQ.addN; exact rfl; exact rfl; exact (by (try simp only []); omega)) | (apply OQ.mulN; exact rfl; exact rfl; exact (by (try simp only []); omega)) | (apply OQ.lssN; exact rfl; exact rfl) | (apply OQ.gtrN; exact rfl; exact rfl) | (apply OQ.idxS; exact rfl; exact rfl; exact rfl; exact rfl; exact (by (try simp only []); omega))) rfl ?_ | refine JC.seq ?_ | refine JC.region ?_ | refine JC.block ?_ | refine JC.skip ?_ | refine JC.exit ?_ | refine JL.nil ?_ | refine JE.next ?_ | refine JE.blk_normal ?_ | refine JE.then_exit ?_ | refine JE.blk_hit ?_ | refine JE.blk_miss rfl ?_ | refine JE.then_ret ?_ | refine JE.blk_ret ?_ | refine JC.label ?_ | refine JL.gon rfl rfl ?_ | refine JL.gskip rfl rfl rfl rfl ?_)
  refine JC.cond_false rfl rfl ?_
  repeat (first | refine JL.q (by first | (apply OQ.move; exact rfl) | (apply OQ.assign; exact rfl) | (apply OQ.len; exact rfl; exact rfl) | (apply OQ.addN; exact rfl; exact rfl; exact (by (try simp only []); omega)) | (apply OQ.mulN; exact rfl; exact rfl; exact (by (try simp only []); omega)) | (apply OQ.lssN; exact rfl; exact rfl) | (apply OQ.gtrN; exact rfl; exact rfl) | (apply OQ.idxS; exact rfl; exact rfl; exact rfl; exact rfl; exact (by (try simp only []); omega))) rfl ?_ | refine JC.seq ?_ | refine JC.region ?_ | refine JC.block ?_ | refine JC.skip ?_ | refine JC.exit ?_ | refine JL.nil ?_ | refine JE.next ?_ | refine JE.blk_normal ?_ | refine JE.then_exit ?_ | refine JE.blk_hit ?_ | refine JE.blk_miss rfl ?_ | refine JE.then_ret ?_ | refine JE.blk_ret ?_ | refine JC.label ?_ | refine JL.gon rfl rfl ?_ | refine JL.gskip rfl rfl rfl rfl ?_)
  refine JL.make Tryd.underlying44 e25 rfl (by decide) (c := m) rfl rfl (by omega) (by omega) rfl fun b35 _ => ?_
  repeat (first | refine JL.q (by first | (apply OQ.move; exact rfl) | (apply OQ.assign; exact rfl) | (apply OQ.len; exact rfl; exact rfl) | (apply OQ.addN; exact rfl; exact rfl; exact (by (try simp only []); omega)) | (apply OQ.mulN; exact rfl; exact rfl; exact (by (try simp only []); omega)) | (apply OQ.lssN; exact rfl; exact rfl) | (apply OQ.gtrN; exact rfl; exact rfl) | (apply OQ.idxS; exact rfl; exact rfl; exact rfl; exact rfl; exact (by (try simp only []); omega))) rfl ?_ | refine JC.seq ?_ | refine JC.region ?_ | refine JC.block ?_ | refine JC.skip ?_ | refine JC.exit ?_ | refine JL.nil ?_ | refine JE.next ?_ | refine JE.blk_normal ?_ | refine JE.then_exit ?_ | refine JE.blk_hit ?_ | refine JE.blk_miss rfl ?_ | refine JE.then_ret ?_ | refine JE.blk_ret ?_ | refine JC.label ?_ | refine JL.gon rfl rfl ?_ | refine JL.gskip rfl rfl rfl rfl ?_)
  have hl : s'.l.length = m * 32 := by rw [hs'.val, expd_length]
  refine JC.loop (fun i : Nat => [(10, s'.v), (12, .slice (some ⟨b35, 0, none⟩) m m), (37, N m), (38, N i)]) (fun i => ⟨b35, Row 25 (kcs s'.l m i), true⟩ :: (s'.ents ++ ((⟨some ⟨b25, 0, none⟩, cap25, bytesOf p⟩ : Sl8).ents ++ [])))
    (fun i => m - i) (fun i => i ≤ m) 0 (by omega) (by repeat (first | exact SubE.nil | refine SubE.cons _ _ _ rfl ?_)) (.keep _ _ _ _ _ _ (fun o ho => by simpa [kcs] using ho) (Less.refl _)) ?_
  intro i hi
  repeat (first | refine JL.q (by first | (apply OQ.move; exact rfl) | (apply OQ.assign; exact rfl) | (apply OQ.len; exact rfl; exact rfl) | (apply OQ.addN; exact rfl; exact rfl; exact (by (try simp only []); omega)) | (apply OQ.mulN; exact rfl; exact rfl; exact (by (try simp only []); omega)) | (apply OQ.lssN; exact rfl; exact rfl) | (apply OQ.gtrN; exact rfl; exact rfl) | (apply OQ.idxS; exact rfl; exact rfl; exact rfl; exact rfl; exact (by (try simp only []); omega))) rfl ?_ | refine JC.seq ?_ | refine JC.region ?_ | refine JC.block ?_ | refine JC.skip ?_ | refine JC.exit ?_ | refine JL.nil ?_ | refine JE.next ?_ | refine JE.blk_normal ?_ | refine JE.then_exit ?_ | refine JE.blk_hit ?_ | refine JE.blk_miss rfl ?_ | refine JE.then_ret ?_ | refine JE.blk_ret ?_ | refine JC.label ?_ | refine JL.gon rfl rfl ?_ | refine JL.gskip rfl rfl rfl rfl ?_)
  refine JC.cond rfl (fun h => ?_) (fun h => ?_)
  · have hi' : i < m := of_decide_eq_true h
    clear h hi
    repeat (first | refine JL.q (by first | (apply OQ.move; exact rfl) | (apply OQ.assign; exact rfl) | (apply OQ.len; exact rfl; exact rfl) | (apply OQ.addN; exact rfl; exact rfl; exact (by (try simp only []); omega)) | (apply OQ.mulN; exact rfl; exact rfl; exact (by (try simp only []); omega)) | (apply OQ.lssN; exact rfl; exact rfl) | (apply OQ.gtrN; exact rfl; exact rfl) | (apply OQ.idxS; exact rfl; exact rfl; exact rfl; exact rfl; exact (by (try simp only []); omega))) rfl ?_ | refine JC.seq ?_ | refine JC.region ?_ | refine JC.block ?_ | refine JC.skip ?_ | refine JC.exit ?_ | refine JL.nil ?_ | refine JE.next ?_ | refine JE.blk_normal ?_ | refine JE.then_exit ?_ | refine JE.blk_hit ?_ | refine JE.blk_miss rfl ?_ | refine JE.then_ret ?_ | refine JE.blk_ret ?_ | refine JC.label ?_ | refine JL.gon rfl rfl ?_ | refine JL.gskip rfl rfl rfl rfl ?_)
    refine JC.tail 8 mixed (by kernel_rfl) ?_
    simp only [List.take_succ_cons, List.take_zero, List.drop_succ_cons, List.drop_zero]
    repeat (first | refine JL.q (by first | (apply OQ.idxS; exact Tryd.underlying44; exact s25; exact rfl; exact rfl; exact hi') | (apply OQ.slA; exact Tryd.underlying25; exact s5; exact rfl) | (apply OQ.slS_lo; exact Tryd.underlying22; exact s5; exact rfl; exact rfl; exact (show i * 32 ≤ s'.l.length by omega)) | (apply OQ.move; exact rfl) | (apply OQ.assign; exact rfl) | (apply OQ.len; exact rfl; exact rfl) | (apply OQ.addN; exact rfl; exact rfl; exact (by (try simp only []); omega)) | (apply OQ.mulN; exact rfl; exact rfl; exact (by (try simp only []); omega)) | (apply OQ.lssN; exact rfl; exact rfl) | (apply OQ.gtrN; exact rfl; exact rfl) | (apply OQ.idxS; exact rfl; exact rfl; exact rfl; exact rfl; exact (by (try simp only []); omega))) rfl ?_ | refine JQ.q (by first | (apply OQ.idxS; exact Tryd.underlying44; exact s25; exact rfl; exact rfl; exact hi') | (apply OQ.slA; exact Tryd.underlying25; exact s5; exact rfl) | (apply OQ.slS_lo; exact Tryd.underlying22; exact s5; exact rfl; exact rfl; exact (show i * 32 ≤ s'.l.length by omega)) | (apply OQ.move; exact rfl) | (apply OQ.assign; exact rfl) | (apply OQ.len; exact rfl; exact rfl) | (apply OQ.addN; exact rfl; exact rfl; exact (by (try simp only []); omega)) | (apply OQ.mulN; exact rfl; exact rfl; exact (by (try simp only []); omega)) | (apply OQ.lssN; exact rfl; exact rfl) | (apply OQ.gtrN; exact rfl; exact rfl) | (apply OQ.idxS; exact rfl; exact rfl; exact rfl; exact rfl; exact (by (try simp only []); omega))) rfl ?_ | refine JC.seq ?_ | refine JC.region ?_ | refine JC.block ?_ | refine JC.skip ?_ | refine JC.exit ?_ | refine JL.nil ?_ | refine JQ.nil ?_ | refine JQ.nil_tail ?_ | refine JE.next ?_ | refine JE.blk_normal ?_ | refine JE.then_exit ?_ | refine JE.blk_hit ?_ | refine JE.blk_miss rfl ?_ | refine JE.then_ret ?_ | refine JE.blk_ret ?_ | refine JC.label ?_ | refine JL.gon rfl rfl ?_ | refine JQ.gon rfl rfl ?_ | refine JL.gskip rfl rfl rfl rfl ?_ | refine JQ.gskip rfl rfl rfl rfl ?_)
    have hmin : min (s'.l.length - i * 32) 32 = 32 := by omega
    refine JL.copy (cs := (s'.l.drop (i * 32)).map U8) (r' := kcs s'.l m (i + 1)) Tryd.underlying22 s5 rfl rfl .here (by simp) (fun w' hw' => ?_) (of_u8 _) (by rw [hmin, kcs_length _ _ _ hl (by omega)]; omega) (by rw [hmin]; exact kcs_succ _ _ _ hl hi') rfl ?_
    · have hok := Sl8.ents_ok (hw'.weak (.drop _ _ _ (Less.refl _))) hs'.none
      have := hok.reads.drop (len := s'.l.length) (cap := s'.cap) (lo := i * 32) (by simp) hok.len (by omega)
      rwa [← List.map_drop] at this
    repeat (first | refine JL.q (by first | (apply OQ.move; exact rfl) | (apply OQ.assign; exact rfl) | (apply OQ.len; exact rfl; exact rfl) | (apply OQ.addN; exact rfl; exact rfl; exact (by (try simp only []); omega)) | (apply OQ.mulN; exact rfl; exact rfl; exact (by (try simp only []); omega)) | (apply OQ.lssN; exact rfl; exact rfl) | (apply OQ.gtrN; exact rfl; exact rfl) | (apply OQ.idxS; exact rfl; exact rfl; exact rfl; exact rfl; exact (by (try simp only []); omega))) rfl ?_ | refine JQ.q (by first | (apply OQ.move; exact rfl) | (apply OQ.assign; exact rfl) | (apply OQ.len; exact rfl; exact rfl) | (apply OQ.addN; exact rfl; exact rfl; exact (by (try simp only []); omega)) | (apply OQ.mulN; exact rfl; exact rfl; exact (by (try simp only []); omega)) | (apply OQ.lssN; exact rfl; exact rfl) | (apply OQ.gtrN; exact rfl; exact rfl) | (apply OQ.idxS; exact rfl; exact rfl; exact rfl; exact rfl; exact (by (try simp only []); omega))) rfl ?_ | refine JC.seq ?_ | refine JC.region ?_ | refine JC.block ?_ | refine JC.skip ?_ | refine JC.exit ?_ | refine JL.nil ?_ | refine JQ.nil ?_ | refine JQ.nil_tail ?_ | refine JE.next ?_ | refine JE.blk_normal ?_ | refine JE.then_exit ?_ | refine JE.blk_hit ?_ | refine JE.blk_miss rfl ?_ | refine JE.then_ret ?_ | refine JE.blk_ret ?_ | refine JC.label ?_ | refine JL.gon rfl rfl ?_ | refine JQ.gon rfl rfl ?_ | refine JL.gskip rfl rfl rfl rfl ?_ | refine JQ.gskip rfl rfl rfl rfl ?_)
    exact JE.again (i := i) (i + 1) (by omega) (by omega) (by repeat (first | exact SubE.nil | refine SubE.cons _ _ _ rfl ?_)) (Less.refl _)
  · have hi' : ¬ i < m := of_decide_eq_false h
    obtain rfl : i = m := by omega
    clear h hi hi'
    repeat (first | refine JL.q (by first | (apply OQ.move; exact rfl) | (apply OQ.assign; exact rfl) | (apply OQ.len; exact rfl; exact rfl) | (apply OQ.addN; exact rfl; exact rfl; exact (by (try simp only []); omega)) | (apply OQ.mulN; exact rfl; exact rfl; exact (by (try simp only []); omega)) | (apply OQ.lssN; exact rfl; exact rfl) | (apply OQ.gtrN; exact rfl; exact rfl) | (apply OQ.idxS; exact rfl; exact rfl; exact rfl; exact rfl; exact (by (try simp only []); omega))) rfl ?_ | refine JQ.q (by first | (apply OQ.move; exact rfl) | (apply OQ.assign; exact rfl) | (apply OQ.len; exact rfl; exact rfl) | (apply OQ.addN; exact rfl; exact rfl; exact (by (try simp only []); omega)) | (apply OQ.mulN; exact rfl; exact rfl; exact (by (try simp only []); omega)) | (apply OQ.lssN; exact rfl; exact rfl) | (apply OQ.gtrN; exact rfl; exact rfl) | (apply OQ.idxS; exact rfl; exact rfl; exact rfl; exact rfl; exact (by (try simp only []); omega))) rfl ?_ | refine JC.seq ?_ | refine JC.region ?_ | refine JC.block ?_ | refine JC.skip ?_ | refine JC.exit ?_ | refine JL.nil ?_ | refine JQ.nil ?_ | refine JQ.nil_tail ?_ | refine JE.next ?_ | refine JE.blk_normal ?_ | refine JE.then_exit ?_ | refine JE.blk_hit ?_ | refine JE.blk_miss rfl ?_ | refine JE.then_ret ?_ | refine JE.blk_ret ?_ | refine JC.label ?_ | refine JL.gon rfl rfl ?_ | refine JQ.gon rfl rfl ?_ | refine JL.gskip rfl rfl rfl rfl ?_ | refine JQ.gskip rfl rfl rfl rfl ?_)
    refine JC.ret ?_
    repeat (first | refine JL.q (by first | (apply OQ.move; exact rfl) | (apply OQ.assign; exact rfl) | (apply OQ.len; exact rfl; exact rfl) | (apply OQ.addN; exact rfl; exact rfl; exact (by (try simp only []); omega)) | (apply OQ.mulN; exact rfl; exact rfl; exact (by (try simp only []); omega)) | (apply OQ.lssN; exact rfl; exact rfl) | (apply OQ.gtrN; exact rfl; exact rfl) | (apply OQ.idxS; exact rfl; exact rfl; exact rfl; exact rfl; exact (by (try simp only []); omega))) rfl ?_ | refine JQ.q (by first | (apply OQ.move; exact rfl) | (apply OQ.assign; exact rfl) | (apply OQ.len; exact rfl; exact rfl) | (apply OQ.addN; exact rfl; exact rfl; exact (by (try simp only []); omega)) | (apply OQ.mulN; exact rfl; exact rfl; exact (by (try simp only []); omega)) | (apply OQ.lssN; exact rfl; exact rfl) | (apply OQ.gtrN; exact rfl; exact rfl) | (apply OQ.idxS; exact rfl; exact rfl; exact rfl; exact rfl; exact (by (try simp only []); omega))) rfl ?_ | refine JC.seq ?_ | refine JC.region ?_ | refine JC.block ?_ | refine JC.skip ?_ | refine JC.exit ?_ | refine JL.nil ?_ | refine JQ.nil ?_ | refine JQ.nil_tail ?_ | refine JE.next ?_ | refine JE.blk_normal ?_ | refine JE.then_exit ?_ | refine JE.blk_hit ?_ | refine JE.blk_miss rfl ?_ | refine JE.then_ret ?_ | refine JE.blk_ret ?_ | refine JC.label ?_ | refine JL.gon rfl rfl ?_ | refine JQ.gon rfl rfl ?_ | refine JL.gskip rfl rfl rfl rfl ?_ | refine JQ.gskip rfl rfl rfl rfl ?_)
    refine JE.ret2 rfl (RV.tmp rfl) (RV.tmp rfl) fun w' hw => ⟨b35, rfl, hw.weak (.keep _ _ _ _ _ _ (fun o ho => ?_) (Less.nil _))⟩
    have e : kcs s'.l i i = (expd (hmac k.l s.l) (bytesOf p) (i * 32)).map U8 := by
      rw [kcs, Nat.sub_self, List.replicate_zero, List.append_nil, List.take_of_length_le (by omega), hs'.val]
    rw [← e]
    exact ho
end Go.Proofs.YtkegjpohielajaaDoor
