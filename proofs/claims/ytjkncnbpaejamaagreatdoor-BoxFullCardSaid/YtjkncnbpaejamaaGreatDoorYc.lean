/-
  Of no statement by itself: the texts JrnH, JrnI, JrnJ, JrnK, JrnL, JrnQ, Same, JrnR, LinB, StoP, Slmp, StoA, StoB, StoC, StoS in one.
  Conditions: each theorem's own.
-/
import Derived.Test.YtjkncnbpaejamaaGreatDoorYb
import Derived.Laws.Cover3
import Derived.Laws.IdiomRangeMap
import Derived.Shelf.SlMaps.Clone
import Derived.Shelf.Sort.Plain
import Derived.Shelf.Slices.In.SortNone
import Derived.Sort.OwnSorted
set_option linter.unusedSimpArgs false
set_option linter.unusedVariables false
/-
  Of no statement by itself: the landed journal's write: a record's blocks are written.
  Conditions: each theorem's own.
-/
namespace Go.Proofs.YtjkncnbpaejamaaGreatDoor
set_option maxRecDepth 10000
open Sl Dsk Jrn
theorem Sl8.ok.away {w0 w : World} {S : List Nat} {M : List Ent} {s : Sl8} (h : s.ok w0) (hw : Holds w0 S M w) (ha : Away s S) : s.ok w :=
  ⟨h.len, hw.reads h.reads fun h0 a e => ha (fun h1 => h0 (by rw [h1]; rfl)) a e⟩
/-- blocks put over others -/
def putAt (bl : List Bk) (k : Nat) (l : List Bk) : List Bk := bl.take k ++ l ++ bl.drop (k + l.length)
theorem putAt_nil (bl : List Bk) (k : Nat) : putAt bl k [] = bl := by simp [putAt]
theorem putAt_len {bl : List Bk} {k : Nat} {l : List Bk} (h : k + l.length ≤ bl.length) : (putAt bl k l).length = bl.length := by
  simp only [putAt, List.length_append, List.length_take, List.length_drop]
  omega
theorem putAt_snoc {bl : List Bk} {k : Nat} {l : List Bk} {b : Bk} (h : k + l.length < bl.length) : (putAt bl k l).set (k + l.length) b = putAt bl k (l ++ [b]) := by
  have h1 : (bl.take k ++ l).length = k + l.length := by rw [List.length_append, List.length_take]; omega
  unfold putAt
  rw [List.set_append_right _ _ (by rw [h1]; exact Nat.le_refl _), h1, Nat.sub_self, List.drop_eq_getElem_cons h, List.set_cons_zero, List.length_append, List.length_singleton]
  simp [List.append_assoc]
  congr 1
theorem isWrite (x : Dp) : IsMeth Tryz.prog 27 (Pt x.p 0) "Write" 153 := by unfold IsMeth; kernel_rfl
theorem isSync (x : Dp) : IsMeth Tryz.prog 27 (Pt x.p 0) "Sync" 152 := by unfold IsMeth; kernel_rfl
section
variable {n : Nat} {w0 : World} {S : List Nat} {ops : Array Oper} {Q : Exit → Act → World → Prop} {l : List Oper} {E : Env} {M : List Ent}
variable {d : Nat} {ty : TypeId} {pos : String} {aft : Array Edge} {x1 x2 x3 : Operand} {ats : Array TypeId} {x : Dp} {bl : List Bk} {pd : List (Nat × Bk)}
theorem JL.iwrite {k : Nat} {b : Bk} (h : DkOk x bl pd) (hn : k < bl.length) (hb : b.length = 64) (e1 : ev E x1 = some (ifD x)) (e2 : ev E x2 = some (N k)) (e3 : ev E x3 = some (.agg (bc b).toArray)) (hd : Nat.blt d n = true)
    (kk : ∀ y, JL Tryz.prog n w0 S ops Q l ((d, N 0) :: E) (dkE ⟨x.p, x.q, x.cap, some y⟩ (bl.set k b) (wrote bl pd k) ++ M)) : JL Tryz.prog n w0 S ops Q (⟨some d, .call ⟨.invoke x1 "Write", #[x2, x3], ats⟩, ty, pos, aft, none⟩ :: l) E (dkE x bl pd ++ M) :=
  JL.callE (ι := Nat × Nat) (vs := [Pt x.p 0, N k, .agg (bc b).toArray]) (fun _ => N 0) (fun y => dkE ⟨x.p, x.q, x.cap, some y⟩ (bl.set k b) (wrote bl pd k)) (fun a ha w => exec_callI (xs := [x2, x3]) (isWrite x) goes_dwrite ha e1 (by simp [evs, e2, e3]) w) hd (dkE_wr _ _ _) (fun _ => dkE_wr _ _ _)
    (fun w _ hw => dwrite_ok x bl pd k b hn hb h w hw) kk
theorem JL.isync (e1 : ev E x1 = some (ifD x)) (hd : Nat.blt d n = true)
    (kk : JL Tryz.prog n w0 S ops Q l ((d, .tuple #[]) :: E) (dkE ⟨x.p, x.q, x.cap, none⟩ bl [] ++ M)) : JL Tryz.prog n w0 S ops Q (⟨some d, .call ⟨.invoke x1 "Sync", #[], ats⟩, ty, pos, aft, none⟩ :: l) E (dkE x bl pd ++ M) :=
  JL.callE (ι := Unit) (vs := [Pt x.p 0]) (fun _ => .tuple #[]) (fun _ => dkE ⟨x.p, x.q, x.cap, none⟩ bl []) (fun a ha w => exec_callI (xs := []) (isSync x) goes_dsync ha e1 rfl w) hd (dkE_wr _ _ _) (fun _ => dkE_wr _ _ _)
    (fun w _ hw => (dsync_any x bl pd w hw).mono fun e w' ⟨g1, g2⟩ => ⟨(), g1, g2⟩) fun _ => kk
theorem OQ.nilcI {C : World → Prop} {dst : Option Tmp} {g : Option (Nat × Bool)} {t : TypeId} {v : Value} (hx : ev E x1 = some (.iface t v)) : OQ Tryz.prog n E C ⟨dst, .nilCheck x1, ty, pos, aft, g⟩ (.iface t v) :=
  OQ.run fun a ha w _ => by
    have h1 := ha.eval hx
    simp [execOp, h1]
end
/-- a disk behind writes: the same, where it stands too; not synced -/
structure Dw (x : Dp) (bl : List Bk) (m : Nat) where
  a : Acc
  pd : List (Nat × Bk)
  ok : DkOk ⟨x.p, x.q, x.cap, a⟩ bl pd
  n : pd.length ≤ m
def Dw.E {x : Dp} {bl : List Bk} {m : Nat} (z : Dw x bl m) : List Ent := dkE ⟨x.p, x.q, x.cap, z.a⟩ bl z.pd
theorem Dw.wr {x : Dp} {bl : List Bk} {m : Nat} (z : Dw x bl m) : ∀ e ∈ z.E, e.wr = true := dkE_wr _ _ _
theorem sub_chunk {l : Bk} {i : Nat} (h : i * 42 ≤ l.length) : (l.take (min ((i + 1) * 42) l.length)).drop (i * 42) = chunk l i := by
  unfold chunk
  rw [List.drop_take]
  by_cases hh : (i + 1) * 42 ≤ l.length
  · rw [Nat.min_eq_left hh]
    congr 1
    omega
  · rw [Nat.min_eq_right (by omega), List.take_of_length_le (by rw [List.length_drop]; exact Nat.le_refl _), List.take_of_length_le (by rw [List.length_drop]; omega)]
theorem nb_at {n i : Nat} (h : i < nb n) : i * 42 ≤ n := by unfold nb at h; omega
theorem blks_take {g : BitVec 32} {r : Nat} {rec : Bk} {i : Nat} (h : i < nb rec.length) : (blks g r rec).take (i + 1) = (blks g r rec).take i ++ [blk g r rec i] := by
  rw [List.take_add_one]
  congr 1
  simp [blks, h]
theorem goes_jwrite : Goes Tryz.prog 77 := ⟨_, Tryz.func77, rfl, by kernel_rfl⟩
set_option maxHeartbeats 32000000 in
theorem write_any (h : Hf) (bl : List Bk) (pd : List (Nat × Bk)) (at' num : Nat) (s : Sl8) (hd : DkOk h.x bl pd) (hs : h.first + h.size ≤ bl.length) (ha : at' + nb s.l.length ≤ h.size) (hm : pd.length + h.size ≤ 1000000) (w : World) (hok : s.ok w) (hap : Away s (keys (dkE h.x bl pd))) (h0 : Holds w (keys (dkE h.x bl pd)) (dkE h.x bl pd) w) :
    Calls Tryz.prog 77 [.agg (hfc h).toArray, N at', N num, s.v].toArray w fun e w' => ∃ z : Dw h.x (putAt bl (h.first + at') (blks h.g num s.l)) (pd.length + nb s.l.length), e = .returned (.tuple #[]) ∧ Holds w (keys (dkE h.x bl pd)) z.E w' := by
  have hcl := hok.len
  have hn1 := hd.n1
  have hnl : s.l.length ≤ nb s.l.length * 42 := nb_le _
  have hnp := nb_pos s.l.length
  generalize hS : keys (dkE h.x bl pd) = S at hap h0 ⊢
  refine enter (n := 55) Tryz.func77 rfl rfl rfl h0 ?_
  repeat (first | refine JC.seq ?_ | refine JC.region ?_)
  refine JL.box (r := hfc h) rfl rfl rfl fun b4 _ => ?_
  repeat (first | refine JL.q (by first | (apply OQ.len (k := s.l.length) (ad := s.ad) (cap := s.cap); exact Tryz.underlying24; exact rfl) | (apply OQ.callx (vs := [N s.l.length]); exact goes_bfor; exact rfl; exact (fun w' _ => bfor_any s.l.length (by omega) w')) | (apply OQ.move; exact rfl) | (apply OQ.assign; exact rfl)) rfl ?_ | refine JC.seq ?_ | refine JC.region ?_ | refine JC.block ?_ | refine JL.nil ?_ | refine JE.next ?_)
  refine JC.loop (fun z : Nat × Acc × List (Nat × Bk) => [(1, N at'), (2, N num), (3, s.v), (4, Pt b4 0), (8, N (nb s.l.length)), (15, N (nb s.l.length)), (16, N z.1)]) (fun z => ⟨b4, Row 119 (hfc h), true⟩ :: dkE ⟨h.x.p, h.x.q, h.x.cap, z.2.1⟩ (putAt bl (h.first + at') ((blks h.g num s.l).take z.1)) z.2.2) (fun z => nb s.l.length - z.1) (fun z => z.1 ≤ nb s.l.length ∧ DkOk ⟨h.x.p, h.x.q, h.x.cap, z.2.1⟩ (putAt bl (h.first + at') ((blks h.g num s.l).take z.1)) z.2.2 ∧ z.2.2.length ≤ pd.length + z.1) (0, h.x.a, pd) ⟨Nat.zero_le _, by rw [List.take_zero, putAt_nil]; exact hd, Nat.le_refl _⟩ (by repeat (first | exact SubE.nil | refine SubE.cons _ _ _ rfl ?_)) (by rw [List.take_zero, putAt_nil]; exact Less.refl _) ?_
  rintro ⟨i, qa, ps⟩ ⟨hi, hdi, hpi⟩
  dsimp only at hi hdi hpi ⊢
  repeat (first | refine JL.q (by (apply OQ.lssN; exact rfl; exact rfl)) rfl ?_ | refine JC.seq ?_ | refine JC.region ?_ | refine JL.nil ?_ | refine JE.next ?_)
  refine JC.cond rfl (fun hc => ?_) (fun hc => ?_)
  · have hi' : i < nb s.l.length := by have := of_decide_eq_true hc; omega
    clear hc
    have hlo := nb_at hi'
    have hch := sub_chunk hlo
    have htk := blks_take (g := h.g) (r := num) hi'
    have hkl : (blks h.g num s.l).length = nb s.l.length := blks_len _ _ _
    have hps := putAt_snoc (bl := bl) (k := h.first + at') (l := (blks h.g num s.l).take i) (b := blk h.g num s.l i) (by rw [List.length_take, hkl]; omega)
    rw [← htk, List.length_take, hkl, Nat.min_eq_left hi] at hps
    have hln : (putAt bl (h.first + at') ((blks h.g num s.l).take i)).length = bl.length := putAt_len (by rw [List.length_take, hkl]; omega)
    have hmk : mk1 h.g num (nb s.l.length) i = (h.g, BitVec.ofNat 32 num, BitVec.ofNat 16 i, decide (i = nb s.l.length - 1)) := by
      unfold mk1
      congr 3
      exact decide_eq_decide.2 (by omega)
    have hbk : blk h.g num s.l i = blockOf (mk1 h.g num (nb s.l.length) i) (chunk s.l i) := rfl
    have hcl2 : (chunk s.l i).length ≤ 42 := by rw [Jrn.chunk_len]; omega
    have hb64 : (blk h.g num s.l i).length = 64 := by rw [hbk]; exact block_len hcl2
    rw [hmk] at hbk
    generalize putAt bl (h.first + at') ((blks h.g num s.l).take i) = bi at hdi hps hln ⊢
    have cB := fun {M : List Ent} w' (hw' : Holds w S M w') => blockOf_any (h.g, BitVec.ofNat 32 num, BitVec.ofNat 16 i, decide (i = nb s.l.length - 1)) (s.sub (i * 42) (min ((i + 1) * 42) s.l.length)) w' ((hok.away hw' hap).sub (by omega) (by omega)) (by show ((s.l.take _).drop _).length ≤ 42; rw [hch]; exact hcl2)
    rw [show (s.sub (i * 42) (min ((i + 1) * 42) s.l.length)).l = chunk s.l i from hch, ← hbk] at cB
    repeat (first | refine JL.q (by first | (apply OQ.mulN (a := i) (b := 42); exact rfl; exact rfl; exact (by omega)) | (apply OQ.mulN (a := i + 1) (b := 42); exact rfl; exact rfl; exact (by omega)) | (apply OQ.len (k := s.l.length) (ad := s.ad) (cap := s.cap); exact Tryz.underlying24; exact rfl) | (apply OQ.minN; exact rfl; exact rfl) | (apply OQ.sub8 (s := s) (lo := i * 42) (hi := min ((i + 1) * 42) s.l.length); exact Tryz.underlying24; exact u8s; exact rfl; exact rfl; exact rfl; exact (by omega); exact (by omega); exact hcl) | (apply OQ.load; exact u32C; exact rfl; exact .here; exact (Row.cell (v := U32 h.g) rfl)) | (apply OQ.convN_32; exact Tryz.underlying3; exact Tryz.underlying117; exact rfl) | (apply OQ.convN_16; exact Tryz.underlying3; exact Tryz.underlying172; exact rfl) | (apply OQ.eqN; exact rfl; exact rfl) | (apply OQ.buildM (m := (h.g, BitVec.ofNat 32 num, BitVec.ofNat 16 i, decide (i = nb s.l.length - 1))); exact rfl; exact rfl; exact rfl; exact rfl) | (apply OQ.move; exact rfl) | (apply OQ.assign; exact rfl) | (apply OQ.addN; exact rfl; exact rfl; exact (by (try simp only []); omega)) | (apply OQ.subN; exact rfl; exact rfl; exact (by (try simp only []); omega); exact (by (try simp only []); omega)) | (apply OQ.fld; exact rfl; exact rfl; exact rfl; exact (by decide); exact rfl)) rfl ?_ | refine JC.seq ?_ | refine JC.region ?_ | refine JC.block ?_ | refine JC.skip ?_ | refine JL.nil ?_ | refine JE.next ?_)
    refine JL.alloc mkZ rfl fun b11 _ => ?_
    refine JL.store_all (cs := mkc (h.g, BitVec.ofNat 32 num, BitVec.ofNat 16 i, decide (i = nb s.l.length - 1))) mk4 rfl rfl rfl rfl .here rfl ?_
    repeat (first | refine JL.nil ?_ | refine JE.next ?_)
    refine JC.tail 13 mixT (by kernel_rfl) ?_
    simp only [List.take_succ_cons, List.take_zero, List.drop_succ_cons, List.drop_zero]
    repeat (first | refine JQ.q (by first | (apply OQ.load; exact jbC; exact rfl; exact (.there .here); exact (Row.cell (v := ifD h.x) rfl)) | (apply OQ.load; exact intC; exact rfl; exact (.there .here); exact (Row.cell (v := N h.first) rfl)) | (apply OQ.load_agg (cs := mkc (h.g, BitVec.ofNat 32 num, BitVec.ofNat 16 i, decide (i = nb s.l.length - 1))); exact mkAg; exact mk4; exact rfl; exact .here; exact rfl; exact Row.all) | (apply OQ.callx (vs := [.agg (mkc (h.g, BitVec.ofNat 32 num, BitVec.ofNat 16 i, decide (i = nb s.l.length - 1))).toArray, (s.sub (i * 42) (min ((i + 1) * 42) s.l.length)).v]); exact goes_blockOf; exact rfl; exact (fun w' hw' => cB w' hw')) | (apply OQ.nilcI; exact rfl) | (apply OQ.move; exact rfl) | (apply OQ.addN; exact rfl; exact rfl; exact (by (try simp only []); omega)) | (apply OQ.fld; exact rfl; exact rfl; exact rfl; exact (by decide); exact rfl)) rfl ?_ | refine JQ.nil_tail ?_)
    refine JL.perm (M' := dkE ⟨h.x.p, h.x.q, h.x.cap, qa⟩ bi ps ++ [⟨b11, Row 174 (mkc (h.g, BitVec.ofNat 32 num, BitVec.ofNat 16 i, decide (i = nb s.l.length - 1))), true⟩, ⟨b4, Row 119 (hfc h), true⟩]) ?_ (by exact List.perm_append_comm (l₁ := [_, _]))
    refine JL.iwrite (k := h.first + at' + i) (b := blk h.g num s.l i) hdi (by omega) hb64 rfl rfl rfl rfl fun y => ?_
    rw [hps]
    repeat (first | refine JL.q (by first | (apply OQ.move; exact rfl) | (apply OQ.addN; exact rfl; exact rfl; exact (by (try simp only []); omega))) rfl ?_ | refine JC.region ?_ | refine JL.nil ?_ | refine JE.next ?_ | refine JE.blk_normal ?_)
    refine JE.perm (M' := ⟨b4, Row 119 (hfc h), true⟩ :: ⟨b11, Row 174 (mkc (h.g, BitVec.ofNat 32 num, BitVec.ofNat 16 i, decide (i = nb s.l.length - 1))), true⟩ :: dkE ⟨h.x.p, h.x.q, h.x.cap, some y⟩ (putAt bl (h.first + at') ((blks h.g num s.l).take (i + 1))) (wrote bi ps (h.first + at' + i))) (by exact (List.perm_append_comm (l₂ := [_, _])).trans (List.Perm.swap _ _ _)) ?_
    have hw := hdi.write (n := h.first + at' + i) (b := blk h.g num s.l i) (by omega) hb64 (by omega) y
    rw [hps] at hw
    refine JE.again (i := (i, qa, ps)) (i + 1, some y, wrote bi ps (h.first + at' + i)) ⟨hi', hw, by dsimp only; rw [wrote, List.length_append, List.length_singleton]; omega⟩ (by dsimp only; omega) (by repeat (first | exact SubE.nil | refine SubE.cons _ _ _ rfl ?_)) ?_
    exact .keep _ _ _ _ _ _ (fun _ h => h) (.drop _ _ _ (Less.refl _))
  · have hi' : i = nb s.l.length := by have := of_decide_eq_false hc; omega
    subst hi'
    have ht : (blks h.g num s.l).take (nb s.l.length) = blks h.g num s.l := List.take_of_length_le (by rw [blks_len]; exact Nat.le_refl _)
    rw [ht] at hdi ⊢
    repeat (first | refine JC.exit ?_ | refine JE.then_exit ?_ | refine JE.blk_hit ?_)
    exact JE.end0 rfl fun w' hw => ⟨⟨qa, ps, hdi, hpi⟩, rfl, hw.weak (.drop _ _ _ (Less.refl _))⟩
end Go.Proofs.YtjkncnbpaejamaaGreatDoor

/-
  Of no statement by itself: the landed journal's put.
  Conditions: each theorem's own.
-/
namespace Go.Proofs.YtjkncnbpaejamaaGreatDoor
set_option maxRecDepth 10000
open Sl Dsk Jrn
theorem away_mid {w0 w : World} {S : List Nat} {X M : List Ent} {s : Sl8} (hw : Holds w0 S (X ++ M) w) (hX : ∀ e ∈ X, e.wr = true) (hs : s.ok w0) (ha : Away s S) : Away s (keys X) := by
  intro h0 a e hm
  obtain ⟨y, he, hb⟩ := List.mem_map.1 hm
  have h1 := hs.lt h0 a e
  rcases (hw.all y (List.mem_append_left _ he)).2 (hX y he) with h | h
  · exact ha h0 a e (hb ▸ h)
  · omega
/-- a journal: its own block, and its disk -/
def jnE (j : Nat) (h : Hf) (bl : List Bk) (pd : List (Nat × Bk)) : List Ent := ⟨j, Row 121 (hfc h), true⟩ :: dkE h.x bl pd
theorem jnE_wr (j : Nat) (h : Hf) (bl : List Bk) (pd : List (Nat × Bk)) : ∀ e ∈ jnE j h bl pd, e.wr = true := by
  intro e he
  rcases List.mem_cons.1 he with rfl | he
  · rfl
  · exact dkE_wr _ _ _ e he
/-- a half with a record more -/
def putH (h : Hf) (n : Nat) : Hf := ⟨h.x, h.first, h.size, h.g, h.count + 1, h.used + nb n⟩
def Dw.J {x : Dp} {bl : List Bk} {m : Nat} (z : Dw x bl m) (j : Nat) (h : Hf) : List Ent := ⟨j, Row 121 (hfc h), true⟩ :: z.E
theorem Dw.Jwr {x : Dp} {bl : List Bk} {m : Nat} (z : Dw x bl m) (j : Nat) (h : Hf) : ∀ e ∈ z.J j h, e.wr = true := by
  intro e he
  rcases List.mem_cons.1 he with rfl | he
  · rfl
  · exact z.wr e he
theorem is1j : szT Tryz.prog 3 = some 1 := by kernel_rfl
theorem goes_put : Goes Tryz.prog 56 := ⟨_, Tryz.func56, rfl, by kernel_rfl⟩
set_option maxHeartbeats 32000000 in
theorem put_any (j : Nat) (h : Hf) (bl : List Bk) (pd : List (Nat × Bk)) (s : Sl8) (hd : DkOk h.x bl pd) (hs : h.first + h.size ≤ bl.length) (ha : h.used + nb s.l.length ≤ h.size) (hc : h.count ≤ h.size) (hm : pd.length + h.size ≤ 1000000) (w : World) (hok : s.ok w) (hap : Away s (keys (jnE j h bl pd))) (h0 : Holds w (keys (jnE j h bl pd)) (jnE j h bl pd) w) :
    Calls Tryz.prog 56 [Pt j 0, s.v].toArray w fun e w' => ∃ z : Dw h.x (putAt bl (h.first + h.used) (blks h.g h.count s.l)) (pd.length + nb s.l.length), e = .returned (.tuple #[]) ∧ Holds w (keys (jnE j h bl pd)) (z.J j (putH h s.l.length)) w' := by
  have hcl := hok.len
  have hn1 := hd.n1
  have hnl : s.l.length ≤ nb s.l.length * 42 := nb_le _
  generalize hS : keys (jnE j h bl pd) = S at hap h0 ⊢
  refine enter (n := 34) Tryz.func56 rfl rfl rfl h0 ?_
  repeat (refine JC.seq ?_)
  refine JC.tail 12 mixT (by kernel_rfl) ?_
  simp only [List.take_succ_cons, List.take_zero, List.drop_succ_cons, List.drop_zero]
  repeat (first | refine JQ.q (by first | (apply OQ.load_agg (cs := hfc h); exact hfAg; exact hf6; exact rfl; exact .here; exact rfl; exact Row.all) | (apply OQ.load; exact intC; exact rfl; exact .here; exact (Row.cell (v := N h.used) rfl)) | (apply OQ.load; exact intC; exact rfl; exact .here; exact (Row.cell (v := N h.count) rfl)) | (apply OQ.move; exact rfl) | (apply OQ.nilc; exact rfl) | (apply OQ.fld; exact rfl; exact rfl; exact rfl; exact (by decide); exact rfl)) rfl ?_ | refine JQ.nil_tail ?_)
  refine JL.perm (M' := dkE h.x bl pd ++ [⟨j, Row 121 (hfc h), true⟩]) ?_ (by exact List.perm_append_comm (l₁ := [_]))
  refine JL.callV (ι := Dw h.x (putAt bl (h.first + h.used) (blks h.g h.count s.l)) (pd.length + nb s.l.length)) (vs := [.agg (hfc h).toArray, N h.used, N h.count, s.v]) (fun _ => .tuple #[]) (fun z => z.E) goes_jwrite rfl rfl (dkE_wr _ _ _) (fun z => z.wr) (fun w' hw' hx' => write_any h bl pd h.used h.count s hd hs ha hm w' (hok.away hw' hap) (away_mid hw' (dkE_wr _ _ _) hok hap) hx') fun z => ?_
  refine JL.perm (M' := ⟨j, Row 121 (hfc h), true⟩ :: z.E) ?_ (by exact List.perm_append_comm (l₂ := [_]))
  repeat (first | refine JC.seq ?_ | refine JL.nil ?_ | refine JE.next ?_)
  refine JC.tail 10 mixT (by kernel_rfl) ?_
  simp only [List.take_succ_cons, List.take_zero, List.drop_succ_cons, List.drop_zero]
  repeat (first | refine JQ.q (by first | (apply OQ.load; exact intC; exact rfl; exact .here; exact (Row.cell (v := N h.used) rfl)) | (apply OQ.len (k := s.l.length) (ad := s.ad) (cap := s.cap); exact Tryz.underlying24; exact rfl) | (apply OQ.callx (vs := [N s.l.length]); exact goes_bfor; exact rfl; exact (fun w' _ => bfor_any s.l.length (by omega) w')) | (apply OQ.move; exact rfl) | (apply OQ.nilc; exact rfl) | (apply OQ.addN; exact rfl; exact rfl; exact (by (try simp only []); omega)) | (apply OQ.fld; exact rfl; exact rfl; exact rfl; exact (by decide); exact rfl)) rfl ?_ | refine JQ.nil_tail ?_)
  refine JL.store_eq (b := j) (r := hfc h) (r' := hfc ⟨h.x, h.first, h.size, h.g, h.count, h.used + nb s.l.length⟩) is1j rfl rfl rfl rfl .here (show 5 < 6 by decide) rfl ?_
  repeat (first | refine JL.q (by first | (apply OQ.load; exact intC; exact rfl; exact .here; exact (Row.cell (v := N h.count) rfl)) | (apply OQ.move; exact rfl) | (apply OQ.nilc; exact rfl) | (apply OQ.addN; exact rfl; exact rfl; exact (by (try simp only []); omega)) | (apply OQ.fld; exact rfl; exact rfl; exact rfl; exact (by decide); exact rfl)) rfl ?_ | refine JC.region ?_ | refine JL.nil ?_ | refine JE.next ?_)
  refine JL.store_eq (b := j) (r := hfc ⟨h.x, h.first, h.size, h.g, h.count, h.used + nb s.l.length⟩) (r' := hfc (putH h s.l.length)) is1j rfl rfl rfl rfl .here (show 4 < 6 by decide) rfl ?_
  repeat (refine JL.nil ?_)
  exact JE.end0 rfl fun w' hw => ⟨z, rfl, hw⟩
end Go.Proofs.YtjkncnbpaejamaaGreatDoor

/-
  Of no statement by itself: the landed journal's begin.
  Conditions: each theorem's own.
-/
namespace Go.Proofs.YtjkncnbpaejamaaGreatDoor
set_option maxRecDepth 10000
open Sl Dsk Jrn
theorem slLj_at {w : World} {s : SlL} (h : s.ok w) (h0 : 0 < s.rs.length) : ∃ b j, s.ad = some ⟨b, j, none⟩ ∧ b < w.heap.size ∧ ∀ i, i < s.rs.length → w.cell? ⟨b, j + i, none⟩ = some (s.rs.getD i nilS).v := by
  obtain ⟨b, j, e1, c1⟩ := h.reads.at (by rw [List.length_map]; exact h0)
  exact ⟨b, j, e1, block_lt_of_cell (c1 0 _ (map_at Sl8.v nilS h0)), fun i hi => c1 i _ (map_at Sl8.v nilS hi)⟩
structure AwayL (s : SlL) (S : List Nat) : Prop where
  a : s.rs ≠ [] → ∀ a, s.ad = some a → a.block ∉ S
  all : ∀ y ∈ s.rs, Away y S
theorem getD_mem' {rs : List Sl8} {i : Nat} (h : i < rs.length) : rs.getD i nilS ∈ rs := by
  rw [List.getD_eq_getElem?_getD, List.getElem?_eq_getElem h]
  exact List.getElem_mem h
theorem putAt_app {bl : List Bk} {k : Nat} {a b : List Bk} (h : k + a.length + b.length ≤ bl.length) : putAt (putAt bl k a) (k + a.length) b = putAt bl k (a ++ b) := by
  have h1 : (bl.take k ++ a).length = k + a.length := by rw [List.length_append, List.length_take]; omega
  have e1 : (bl.take k ++ a ++ bl.drop (k + a.length)).take (k + a.length) = bl.take k ++ a := List.take_left' h1
  have e2 : (bl.take k ++ a ++ bl.drop (k + a.length)).drop (k + a.length + b.length) = bl.drop (k + (a ++ b).length) := by
    rw [← List.drop_drop, List.drop_left' h1, List.drop_drop, List.length_append, Nat.add_assoc]
  unfold putAt
  rw [e1, e2]
  simp [List.append_assoc]
theorem putAt_two {bl : List Bk} {k : Nat} {a b : List Bk} (h : k + a.length + b.length ≤ bl.length) : putAt (putAt bl (k + a.length) b) k a = putAt bl k (a ++ b) := by
  have h1 : (bl.take (k + a.length)).length = k + a.length := by rw [List.length_take]; omega
  have e1 : (bl.take (k + a.length) ++ b ++ bl.drop (k + a.length + b.length)).take k = bl.take k := by
    rw [List.append_assoc, List.take_append_of_le_length (by rw [h1]; omega), List.take_take, Nat.min_eq_left (by omega)]
  have e2 : (bl.take (k + a.length) ++ b ++ bl.drop (k + a.length + b.length)).drop (k + a.length) = b ++ bl.drop (k + a.length + b.length) := by
    rw [List.append_assoc, List.drop_left' h1]
  unfold putAt
  rw [e1, e2]
  simp [List.append_assoc, Nat.add_assoc]
theorem slCj : scal Tryz.prog 24 = true := by kernel_rfl
theorem sleJ : szT Tryz.prog 24 = some 1 := by kernel_rfl
theorem goes_begin : Goes Tryz.prog 81 := ⟨_, Tryz.func81, rfl, by kernel_rfl⟩
/-- a half that begins with a generation and records -/
def begH (h : Hf) (g : BitVec 32) (recs : List Bk) : Hf := ⟨h.x, h.first, h.size, g, recs.length, room recs⟩
def sync0 (x : Dp) : Dp := ⟨x.p, x.q, x.cap, none⟩
theorem room_cons (r : Bk) (rs : List Bk) : room (r :: rs) = nb r.length + room rs := rfl
theorem room_take_le (rs : List Bk) (i : Nat) : room (rs.take i) ≤ room rs := by
  have := room_append (rs.take i) (rs.drop i)
  rw [List.take_append_drop] at this
  omega
/-- the half while its records are put, behind so many of those behind the base -/
def midH (h : Hf) (g : BitVec 32) (n0 : Nat) (rt : List Bk) (i : Nat) (qa : Acc) : Hf := ⟨⟨h.x.p, h.x.q, h.x.cap, qa⟩, h.first, h.size, g, 1 + i, n0 + room (rt.take i)⟩
def midB (h : Hf) (g : BitVec 32) (bl : List Bk) (n0 : Nat) (rt : List Bk) (i : Nat) : List Bk := putAt bl (h.first + n0) (allB g 1 (rt.take i))
theorem take_snoc {rt : List Bk} {i : Nat} (h : i < rt.length) : rt.take (i + 1) = rt.take i ++ [rt.getD i []] := by
  rw [List.take_add_one]
  simp [List.getD_eq_getElem?_getD, h]
theorem mid_snoc {h : Hf} {g : BitVec 32} {bl : List Bk} {n0 : Nat} {rt : List Bk} {i : Nat} (hi : i < rt.length) (hb : h.first + n0 + room rt ≤ bl.length) :
    putAt (midB h g bl n0 rt i) (h.first + (n0 + room (rt.take i))) (blks g (1 + i) (rt.getD i [])) = midB h g bl n0 rt (i + 1) := by
  have e := take_snoc hi
  have hr := room_take_le rt (i + 1)
  rw [e, room_append] at hr
  have hr1 : room [rt.getD i []] = nb (rt.getD i []).length := by simp [room]
  have ea : allB g 1 (rt.take (i + 1)) = allB g 1 (rt.take i) ++ blks g (1 + i) (rt.getD i []) := by
    rw [e, allB_append, List.length_take, Nat.min_eq_left (by omega)]
    congr 1
    rw [allB, allB, List.append_nil]
  unfold midB
  rw [ea, ← putAt_app (by rw [allB_len, blks_len]; omega), allB_len]
  congr 1
  omega
set_option maxHeartbeats 64000000 in
theorem begin_any (j : Nat) (h : Hf) (bl : List Bk) (pd : List (Nat × Bk)) (g : BitVec 32) (s : SlL) (hd : DkOk h.x bl pd) (hs : h.first + h.size ≤ bl.length) (hne : 0 < s.rs.length) (ha : room (s.rs.map Sl8.l) ≤ h.size) (hm : pd.length + (h.size + h.size) ≤ 1000000) (w : World) (hok : s.ok w) (hap : AwayL s (keys (jnE j h bl pd))) (h0 : Holds w (keys (jnE j h bl pd)) (jnE j h bl pd) w) :
    Calls Tryz.prog 81 [Pt j 0, U32 g, s.v].toArray w fun e w' => e = .returned (.tuple #[]) ∧ Holds w (keys (jnE j h bl pd)) (⟨j, Row 121 (hfc (begH h g (s.rs.map Sl8.l))), true⟩ :: dkE (sync0 h.x) (putAt bl h.first (allB g 0 (s.rs.map Sl8.l))) []) w' := by
  obtain ⟨b, jj, ead, lb, cb⟩ := slLj_at hok hne
  have hcap := hok.len
  have hall := hok.all
  have hbS := hap.a (fun e => by rw [e] at hne; cases hne) _ ead
  have haw := hap.all
  have hn1 := hd.n1
  obtain ⟨ad, cap, rs⟩ := s
  dsimp only at ead hcap hall hbS haw hne ha cb ⊢
  subst ead
  obtain ⟨ls, hls⟩ : ∃ ls, rs.map Sl8.l = ls := ⟨_, rfl⟩
  have hll : ls.length = rs.length := by rw [← hls, List.length_map]
  have hat : ∀ i, i < rs.length → ls.getD i [] = (rs.getD i nilS).l := fun i hi => by rw [← hls]; simp [List.getD_eq_getElem?_getD, hi]
  rw [hls] at ha ⊢
  obtain ⟨r0, rt, hrt⟩ : ∃ r0 rt, ls = r0 :: rt := by
    cases ls with
    | nil => rw [List.length_nil] at hll; omega
    | cons a l => exact ⟨a, l, rfl⟩
  have hr0 : (rs.getD 0 nilS).l = r0 := by rw [← hat 0 hne, hrt]; rfl
  have hrl : rt.length + 1 = rs.length := by rw [← hll, hrt]; rfl
  have hrt' : ∀ i, i < rt.length → rt.getD i [] = (rs.getD (i + 1) nilS).l := fun i hi => by rw [← hat (i + 1) (by omega), hrt]; rfl
  have hroom : nb r0.length + room rt ≤ h.size := by rw [hrt, room_cons] at ha; exact ha
  have hge := room_ge rt
  have hnl : r0.length ≤ nb r0.length * 42 := nb_le _
  obtain ⟨j1, hj1, hj2⟩ : ∃ j1, (if cap = 1 then some (⟨b, jj, none⟩ : Addr) else (some (⟨b, jj, none⟩ : Addr)).map (·.add (1 * 1))) = some ⟨b, j1, none⟩ ∧ (2 ≤ rs.length → j1 = jj + 1) := by
    by_cases hc : cap = 1
    · exact ⟨jj, by rw [if_pos hc], fun h2 => by omega⟩
    · exact ⟨jj + 1, by rw [if_neg hc]; rfl, fun _ => rfl⟩
  have hv1 : (Value.slice (if cap = 1 then some (⟨b, jj, none⟩ : Addr) else (some (⟨b, jj, none⟩ : Addr)).map (·.add (1 * 1))) (rs.length - 1) (cap - 1)) = .slice (some ⟨b, j1, none⟩) rt.length (cap - 1) := by rw [hj1, show rs.length - 1 = rt.length by omega]
  have c0 := cb 0 hne
  have ok0 := hall _ (getD_mem' hne)
  have aw0 := haw _ (getD_mem' hne)
  generalize rs.getD 0 nilS = s0 at c0 ok0 aw0 hr0
  subst hr0
  generalize hS : keys (jnE j h bl pd) = S at hbS haw h0 aw0 ⊢
  refine enter (n := 54) Tryz.func81 rfl rfl rfl h0 ?_
  repeat (first | refine JL.q (by first | (apply OQ.idxS1 (i := 0); exact Tryz.underlying134; exact sleJ; exact rfl; exact rfl; exact hne) | (apply OQ.load_old; exact slCj; exact rfl; exact lb; exact hbS; exact c0) | (apply OQ.len (k := s0.l.length) (ad := s0.ad) (cap := s0.cap); exact Tryz.underlying24; exact rfl) | (apply OQ.callx (vs := [N s0.l.length]); exact goes_bfor; exact rfl; exact (fun w' _ => bfor_any s0.l.length (by omega) w')) | (apply OQ.move; exact rfl) | (apply OQ.nilc; exact rfl) | (apply OQ.fld; exact rfl; exact rfl; exact rfl; exact (by decide); exact rfl)) rfl ?_ | refine JC.seq ?_ | refine JC.region ?_)
  refine JL.store_eq (b := j) (r := hfc h) (r' := hfc ⟨h.x, h.first, h.size, g, h.count, h.used⟩) u321 rfl rfl rfl rfl .here (show 3 < 6 by decide) rfl ?_
  repeat (refine JL.q (by first | (apply OQ.nilc; exact rfl) | (apply OQ.fld; exact rfl; exact rfl; exact rfl; exact (by decide); exact rfl)) rfl ?_)
  refine JL.store_eq (b := j) (r := hfc ⟨h.x, h.first, h.size, g, h.count, h.used⟩) (r' := hfc ⟨h.x, h.first, h.size, g, 1, h.used⟩) is1j rfl rfl rfl rfl .here (show 4 < 6 by decide) rfl ?_
  repeat (refine JL.q (by first | (apply OQ.nilc; exact rfl) | (apply OQ.fld; exact rfl; exact rfl; exact rfl; exact (by decide); exact rfl)) rfl ?_)
  refine JL.store_eq (b := j) (r := hfc ⟨h.x, h.first, h.size, g, 1, h.used⟩) (r' := hfc ⟨h.x, h.first, h.size, g, 1, nb s0.l.length⟩) is1j rfl rfl rfl rfl .here (show 5 < 6 by decide) rfl ?_
  repeat (first | refine JL.q (by first | (apply OQ.to; exact (OQ.slS_lo (lo := 1) (len := rs.length) (cap := cap) (ad := some ⟨b, jj, none⟩) Tryz.underlying134 sleJ rfl rfl (by omega)); exact hv1) | (apply OQ.len (k := rt.length) (ad := some ⟨b, j1, none⟩) (cap := cap - 1); exact Tryz.underlying134; exact rfl) | (apply OQ.move; exact rfl)) rfl ?_ | refine JC.seq ?_ | refine JC.region ?_ | refine JC.block ?_ | refine JL.nil ?_ | refine JE.next ?_)
  refine JC.loop (fun z : Nat × Acc × List (Nat × Bk) => [(0, Pt j 0), (1, U32 g), (2, .slice (some ⟨b, jj, none⟩) rs.length cap), (24, .slice (some ⟨b, j1, none⟩) rt.length (cap - 1)), (25, N rt.length), (26, N z.1)]) (fun z => jnE j (midH h g (nb s0.l.length) rt z.1 z.2.1) (midB h g bl (nb s0.l.length) rt z.1) z.2.2) (fun z => rt.length - z.1) (fun z => z.1 ≤ rt.length ∧ DkOk ⟨h.x.p, h.x.q, h.x.cap, z.2.1⟩ (midB h g bl (nb s0.l.length) rt z.1) z.2.2 ∧ z.2.2.length ≤ pd.length + room (rt.take z.1)) (0, h.x.a, pd) ⟨Nat.zero_le _, by unfold midB; rw [List.take_zero, allB, putAt_nil]; exact hd, Nat.le_refl _⟩ (by repeat (first | exact SubE.nil | refine SubE.cons _ _ _ rfl ?_)) (by unfold midB; rw [List.take_zero, allB, putAt_nil]; exact Less.refl _) ?_
  rintro ⟨i, qa, ps⟩ ⟨hi, hdi, hpi⟩
  dsimp only at hi hdi hpi ⊢
  have hmbl : (midB h g bl (nb s0.l.length) rt i).length = bl.length := putAt_len (by rw [allB_len]; have := room_take_le rt i; omega)
  repeat (first | refine JL.q (by (apply OQ.lssN; exact rfl; exact rfl)) rfl ?_ | refine JC.seq ?_ | refine JC.region ?_ | refine JL.nil ?_ | refine JE.next ?_)
  refine JC.cond rfl (fun hc => ?_) (fun hc => ?_)
  · have hi' : i < rt.length := by have := of_decide_eq_true hc; omega
    clear hc
    have hi2 : i + 1 < rs.length := by omega
    have ci : w.cell? ⟨b, j1 + i, none⟩ = some (rs.getD (i + 1) nilS).v := by
      rw [hj2 (by omega), show jj + 1 + i = jj + (i + 1) by omega]
      exact cb (i + 1) hi2
    have hri := hrt' i hi'
    have oki := hall _ (getD_mem' hi2)
    have awi := haw _ (getD_mem' hi2)
    have hsn := mid_snoc (h := h) (g := g) (bl := bl) (n0 := nb s0.l.length) hi' (by omega)
    have hrr := room_take_le rt (i + 1)
    rw [take_snoc hi', room_append] at hrr
    have hr1 : room [rt.getD i []] = nb (rt.getD i []).length := by simp [room]
    have hts := take_snoc hi'
    rw [hr1] at hrr
    generalize rs.getD (i + 1) nilS = si at ci oki awi hri
    rw [hri] at hsn hrr hts
    have hrge := room_ge (rt.take i)
    rw [List.length_take, Nat.min_eq_left hi] at hrge
    have cP := fun w' (hw' : Holds w S (jnE j (midH h g (nb s0.l.length) rt i qa) (midB h g bl (nb s0.l.length) rt i) ps ++ []) w') hx' => put_any j (midH h g (nb s0.l.length) rt i qa) (midB h g bl (nb s0.l.length) rt i) ps si hdi (by rw [hmbl]; exact hs) (by show nb s0.l.length + room (rt.take i) + nb si.l.length ≤ h.size; omega) (by show 1 + i ≤ h.size; have := nb_pos s0.l.length; omega) (by show ps.length + h.size ≤ _; omega) w' (oki.away hw' awi) (away_mid hw' (jnE_wr _ _ _ _) oki awi) hx'
    have hsn2 : putAt (midB h g bl (nb s0.l.length) rt i) ((midH h g (nb s0.l.length) rt i qa).first + (midH h g (nb s0.l.length) rt i qa).used) (blks (midH h g (nb s0.l.length) rt i qa).g (midH h g (nb s0.l.length) rt i qa).count si.l) = midB h g bl (nb s0.l.length) rt (i + 1) := hsn
    rw [hsn2] at cP
    repeat (first | refine JL.q (by first | (apply OQ.idxS1 (i := i); exact Tryz.underlying134; exact sleJ; exact rfl; exact rfl; exact hi') | (apply OQ.load_old; exact slCj; exact rfl; exact lb; exact hbS; exact ci) | (apply OQ.move; exact rfl) | (apply OQ.assign; exact rfl)) rfl ?_ | refine JC.seq ?_ | refine JC.region ?_ | refine JC.block ?_ | refine JC.skip ?_ | refine JL.nil ?_ | refine JE.next ?_)
    refine JL.perm ?_ (List.Perm.of_eq (List.append_nil _).symm)
    refine JL.callV (ι := Dw (midH h g (nb s0.l.length) rt i qa).x (midB h g bl (nb s0.l.length) rt (i + 1)) (ps.length + nb si.l.length)) (vs := [Pt j 0, si.v]) (fun _ => .tuple #[]) (fun z => z.J j (putH (midH h g (nb s0.l.length) rt i qa) si.l.length)) goes_put rfl rfl (jnE_wr _ _ _ _) (fun z => z.Jwr _ _) cP fun z => ?_
    repeat (first | refine JL.q (by first | (apply OQ.move; exact rfl) | (apply OQ.addN; exact rfl; exact rfl; exact (by (try simp only []); omega))) rfl ?_ | refine JC.region ?_ | refine JL.nil ?_ | refine JE.next ?_ | refine JE.blk_normal ?_)
    have hrs : room (rt.take (i + 1)) = room (rt.take i) + nb si.l.length := by rw [hts, room_append]; simp [room]
    have eH : hfc (putH (midH h g (nb s0.l.length) rt i qa) si.l.length) = hfc (midH h g (nb s0.l.length) rt (i + 1) z.a) := by
      unfold putH midH
      rw [hrs]
      simp only [hfc, Nat.add_assoc]
      rfl
    obtain ⟨za, zp, zo, zn⟩ := z
    dsimp only at eH
    refine JE.again (i := (i, qa, ps)) (i + 1, za, zp) ⟨hi', zo, by dsimp only; omega⟩ (by dsimp only; omega) (by repeat (first | exact SubE.nil | refine SubE.cons _ _ _ rfl ?_)) ?_
    rw [List.append_nil]
    show Less (⟨j, Row 121 (hfc (midH h g (nb s0.l.length) rt (i + 1) za)), true⟩ :: dkE ⟨h.x.p, h.x.q, h.x.cap, za⟩ (midB h g bl (nb s0.l.length) rt (i + 1)) zp) (⟨j, Row 121 (hfc (putH (midH h g (nb s0.l.length) rt i qa) si.l.length)), true⟩ :: _)
    rw [eH]
    exact Less.refl _
  · have hi' : i = rt.length := by have := of_decide_eq_false hc; omega
    subst hi'
    have eT : midB h g bl (nb s0.l.length) rt rt.length = putAt bl (h.first + nb s0.l.length) (allB g 1 rt) := by unfold midB; rw [List.take_length]
    have eH : hfc (midH h g (nb s0.l.length) rt rt.length qa) = hfc (begH h g ls) := by
      unfold midH begH
      rw [List.take_length, hll, hrt, room_cons, ← hrl, Nat.add_comm 1]
      rfl
    rw [List.take_length] at hpi
    rw [eT] at hdi hmbl ⊢
    unfold jnE
    rw [eH]
    have hgl : ((rs.length : Nat) : Int) = rt.length + 1 := by omega
    repeat (first | refine JL.q (by first | (apply OQ.len (k := rs.length) (ad := some ⟨b, jj, none⟩) (cap := cap); exact Tryz.underlying134; exact rfl) | (apply OQ.move; exact rfl) | (apply OQ.gtrN; exact rfl; exact rfl)) rfl ?_ | refine JC.seq ?_ | refine JC.region ?_ | refine JC.exit ?_ | refine JL.nil ?_ | refine JE.next ?_ | refine JE.then_exit ?_ | refine JE.blk_hit ?_)
    refine JC.join (ι := Acc × List (Nat × Bk)) (fun _ => [(0, Pt j 0), (2, .slice (some ⟨b, jj, none⟩) rs.length cap)]) (fun z => ⟨j, Row 121 (hfc (begH h g ls)), true⟩ :: dkE ⟨h.x.p, h.x.q, h.x.cap, z.1⟩ (putAt bl (h.first + nb s0.l.length) (allB g 1 rt)) z.2) (fun z => DkOk ⟨h.x.p, h.x.q, h.x.cap, z.1⟩ (putAt bl (h.first + nb s0.l.length) (allB g 1 rt)) z.2 ∧ z.2.length ≤ pd.length + room rt) ?_ ?_
    · refine JC.cond rfl (fun hg => ?_) (fun hg => ?_)
      · repeat (first | refine JL.q (by first | (apply OQ.load; exact jbC; exact rfl; exact .here; exact (Row.cell (v := ifD h.x) rfl)) | (apply OQ.move; exact rfl) | (apply OQ.nilc; exact rfl) | (apply OQ.fld; exact rfl; exact rfl; exact rfl; exact (by decide); exact rfl)) rfl ?_ | refine JC.region ?_)
        refine JL.perm (M' := dkE ⟨h.x.p, h.x.q, h.x.cap, qa⟩ (putAt bl (h.first + nb s0.l.length) (allB g 1 rt)) ps ++ [⟨j, Row 121 (hfc (begH h g ls)), true⟩]) ?_ (by exact List.perm_append_comm (l₁ := [_]))
        refine JL.isync rfl rfl ?_
        repeat (refine JL.nil ?_)
        refine JE.perm (M' := ⟨j, Row 121 (hfc (begH h g ls)), true⟩ :: dkE ⟨h.x.p, h.x.q, h.x.cap, none⟩ (putAt bl (h.first + nb s0.l.length) (allB g 1 rt)) []) (by exact List.perm_append_comm (l₂ := [_])) ?_
        exact JE.mid (none, []) ⟨hdi.sync, Nat.zero_le _⟩ (by repeat (first | exact SubE.nil | refine SubE.cons _ _ _ rfl ?_)) (Less.refl _)
      · repeat (refine JC.skip ?_)
        exact JE.mid (qa, ps) ⟨hdi, hpi⟩ (by repeat (first | exact SubE.nil | refine SubE.cons _ _ _ rfl ?_)) (Less.refl _)
    clear hdi hpi
    rintro ⟨qa, ps⟩ ⟨hdi, hpi⟩
    dsimp only at hdi hpi ⊢
    have hfin : putAt (putAt bl (h.first + nb s0.l.length) (allB g 1 rt)) (h.first + 0) (blks g 0 s0.l) = putAt bl h.first (allB g 0 ls) := by
      have := putAt_two (bl := bl) (k := h.first) (a := blks g 0 s0.l) (b := allB g 1 rt) (by rw [blks_len, allB_len]; omega)
      rw [blks_len] at this
      rw [Nat.add_zero, this, hrt]
      rfl
    have cW := fun w' (hw' : Holds w S (dkE ⟨h.x.p, h.x.q, h.x.cap, qa⟩ (putAt bl (h.first + nb s0.l.length) (allB g 1 rt)) ps ++ [⟨j, Row 121 (hfc (begH h g ls)), true⟩]) w') hx' => write_any ⟨⟨h.x.p, h.x.q, h.x.cap, qa⟩, h.first, h.size, g, ls.length, room ls⟩ (putAt bl (h.first + nb s0.l.length) (allB g 1 rt)) ps 0 0 s0 hdi (by rw [hmbl]; exact hs) (by show 0 + nb s0.l.length ≤ h.size; omega) (by show ps.length + h.size ≤ _; omega) w' (ok0.away hw' aw0) (away_mid hw' (dkE_wr _ _ _) ok0 aw0) hx'
    dsimp only at cW
    rw [hfin] at cW
    repeat (refine JC.seq ?_)
    refine JC.tail 6 mixT (by kernel_rfl) ?_
    simp only [List.take_succ_cons, List.take_zero, List.drop_succ_cons, List.drop_zero]
    repeat (first | refine JQ.q (by first | (apply OQ.load_agg (cs := hfc (begH h g ls)); exact hfAg; exact hf6; exact rfl; exact .here; exact rfl; exact Row.all) | (apply OQ.idxS1 (i := 0); exact Tryz.underlying134; exact sleJ; exact rfl; exact rfl; exact hne) | (apply OQ.load_old; exact slCj; exact rfl; exact lb; exact hbS; exact c0) | (apply OQ.move; exact rfl) | (apply OQ.nilc; exact rfl)) rfl ?_ | refine JQ.nil_tail ?_)
    refine JL.perm (M' := dkE ⟨h.x.p, h.x.q, h.x.cap, qa⟩ (putAt bl (h.first + nb s0.l.length) (allB g 1 rt)) ps ++ [⟨j, Row 121 (hfc (begH h g ls)), true⟩]) ?_ (by exact List.perm_append_comm (l₁ := [_]))
    refine JL.callV (ι := Dw ⟨h.x.p, h.x.q, h.x.cap, qa⟩ (putAt bl h.first (allB g 0 ls)) (ps.length + nb s0.l.length)) (vs := [.agg (hfc (begH h g ls)).toArray, N 0, N 0, s0.v]) (fun _ => .tuple #[]) (fun z => z.E) goes_jwrite rfl rfl (dkE_wr _ _ _) (fun z => z.wr) cW fun z => ?_
    refine JL.perm (M' := ⟨j, Row 121 (hfc (begH h g ls)), true⟩ :: z.E) ?_ (by exact List.perm_append_comm (l₂ := [_]))
    repeat (first | refine JL.q (by first | (apply OQ.load; exact jbC; exact rfl; exact .here; exact (Row.cell (v := ifD h.x) rfl)) | (apply OQ.move; exact rfl) | (apply OQ.nilc; exact rfl) | (apply OQ.fld; exact rfl; exact rfl; exact rfl; exact (by decide); exact rfl)) rfl ?_ | refine JC.region ?_ | refine JL.nil ?_ | refine JE.next ?_)
    refine JL.perm (M' := dkE ⟨h.x.p, h.x.q, h.x.cap, z.a⟩ (putAt bl h.first (allB g 0 ls)) z.pd ++ [⟨j, Row 121 (hfc (begH h g ls)), true⟩]) ?_ (by exact List.perm_append_comm (l₁ := [_]))
    refine JL.isync rfl rfl ?_
    repeat (refine JL.nil ?_)
    refine JE.perm (M' := ⟨j, Row 121 (hfc (begH h g ls)), true⟩ :: dkE (sync0 h.x) (putAt bl h.first (allB g 0 ls)) []) (by exact List.perm_append_comm (l₂ := [_])) ?_
    exact JE.end0 rfl fun w' hw => ⟨rfl, hw⟩
end Go.Proofs.YtjkncnbpaejamaaGreatDoor

/-
  Of no statement by itself: the landed journal's open, Open.
  Conditions: each theorem's own.
-/
namespace Go.Proofs.YtjkncnbpaejamaaGreatDoor
set_option maxRecDepth 10000
open Sl Dsk Jrn
theorem rd_room {g : BitVec 32} {r : Nat} : ∀ {bs : List Bk} {p : Nat} {acc rec : Bk} {k : Nat}, rd g r bs p acc = some (rec, k) → (∀ b ∈ bs, b.length = 64) → acc.length ≤ p * 42 → rec.length ≤ k * 42
  | [], _, _, _, _, h, _, _ => by simp [rd] at h
  | b :: bs, p, acc, rec, k, h, hb, ha => by
    unfold rd at h
    split at h
    case isTrue hw =>
      have ⟨h1, h2⟩ := part_len (hb b (by simp)) hw.1
      split at h
      · simp only [Option.some.injEq, Prod.mk.injEq] at h
        rw [← h.1, ← h.2, List.length_append, h1]
        omega
      · exact rd_room h (fun x hx => hb x (by simp [hx])) (by rw [List.length_append, h1]; omega)
    · cases h
theorem toldN_room {g : BitVec 32} : ∀ (f : Nat) (bs : List Bk) (n : Nat), (∀ b ∈ bs, b.length = 64) → room (toldN g f bs n) ≤ bs.length
  | 0, bs, n, _ => Nat.zero_le _
  | f + 1, bs, n, hb => by
    rw [toldN]
    cases h : rd g n bs 0 [] with
    | none => exact Nat.zero_le _
    | some rk =>
      obtain ⟨rec, k⟩ := rk
      have h1 := rd_room h hb (Nat.zero_le _)
      have h2 := rd_le h
      have ih := toldN_room (g := g) f (bs.drop k) (n + 1) (fun b hx => hb b (List.mem_of_mem_drop hx))
      rw [List.length_drop] at ih
      rw [room_cons]
      have : nb rec.length ≤ k := by unfold nb; omega
      omega
theorem recH_room {bl : List Bk} {first : Nat} (hb : ∀ b ∈ bl, b.length = 64) (h : first + bl.length / 2 ≤ bl.length) : room (recH bl first) ≤ bl.length / 2 := by
  unfold recH toldH told
  refine Nat.le_trans (toldN_room _ _ _ ?_) (by rw [bsOf_len h]; omega)
  intro b hx
  unfold bsOf at hx
  exact hb b (List.mem_of_mem_drop (List.mem_of_mem_take (List.mem_of_mem_drop hx)))
theorem curF_room {bl : List Bk} (hb : ∀ b ∈ bl, b.length = 64) (h4 : 4 ≤ bl.length) : room (curF bl).2.2 ≤ bl.length / 2 ∧ 0 < (curF bl).2.2.length ∧ (curF bl).1 ≤ bl.length / 2 := by
  have h0 : ∀ f, (0 : Int) < ((genH bl f).toNat : Int) → 0 < (recH bl f).length := fun f h => by
    unfold genH at h
    split at h
    · simp at h
    · omega
  unfold curF
  split
  case isTrue h => exact ⟨recH_room hb (by omega), h0 _ h.1, Nat.zero_le _⟩
  · split
    case isTrue h => exact ⟨recH_room hb (by omega), h0 _ h, Nat.le_refl _⟩
    · exact ⟨by show 1 + 0 ≤ _; omega, Nat.zero_lt_one, Nat.le_refl _⟩
theorem away_gr {w0 w : World} {S : List Nat} {X M : List Ent} {z : Gr} (hw : Holds w0 S (X ++ (z.E ++ M)) w) : AwayL z.s (keys X) := by
  have key : ∀ b, b ∈ z.E.map Ent.b → b ∉ keys X := fun b hb hm => by
    have hn := hw.nodup
    rw [List.map_append, List.nodup_append] at hn
    exact hn.2.2 b hm b (by rw [List.map_append]; exact List.mem_append_left _ hb) rfl
  obtain ⟨q, rs, hq, hr⟩ := z
  refine ⟨fun _ a ha => ?_, fun y hy h0 a ha => ?_⟩
  · cases q with
    | none => cases ha
    | some p =>
      have : a = ⟨p.1, 0, none⟩ := by cases ha; rfl
      rw [this]
      exact key p.1 (by unfold Gr.E; rw [List.map_append]; exact List.mem_append_left _ (by simp [accE]))
  · have hy' : y ∈ rs := by
      have := accL_rs hq
      unfold Gr.s at hy
      rwa [this] at hy
    refine key a.block ?_
    unfold Gr.E
    rw [List.map_append]
    refine List.mem_append_right _ ?_
    unfold flatE
    rw [List.map_flatMap, List.mem_flatMap]
    exact ⟨y, hy', by unfold Sl8.ents; rw [ha]; simp⟩
theorem goes_jopen : Goes Tryz.prog 69 := ⟨_, Tryz.func69, rfl, by kernel_rfl⟩
theorem goes_jOpen : Goes Tryz.prog 47 := ⟨_, Tryz.func47, rfl, by kernel_rfl⟩
/-- why a journal isn't opened -/
def noOpen (bl : List Bk) : Nat := if bl.length < 4 then 2 else if gm bl = 4294967295#32 then 6 else 0
/-- the half that a journal that is opened begins in -/
def opnH (x : Dp) (bl : List Bk) : Hf := ⟨x, bl.length / 2 - (curF bl).1, bl.length / 2, 0, 0, 0⟩
def opnD (bl : List Bk) : List Bk := putAt bl (bl.length / 2 - (curF bl).1) (allB (gm bl + 1#32) 0 (curF bl).2.2)
def syH (h : Hf) : Hf := ⟨sync0 h.x, h.first, h.size, h.g, h.count, h.used⟩
def opnJ (x : Dp) (bl : List Bk) : Hf := syH (begH (opnH x bl) (gm bl + 1#32) (curF bl).2.2)
set_option maxHeartbeats 32000000 in
theorem open_yes (x : Dp) (bl : List Bk) (pd : List (Nat × Bk)) (hd : DkOk x bl pd) (hp : pd.length ≤ 900000) (hno : noOpen bl = 0) (w : World) (h0 : Holds w (keys (dkE x bl pd)) (dkE x bl pd) w) :
    Calls Tryz.prog 69 [ifD x].toArray w fun e w' => ∃ j : Nat, e = .returned (.tuple #[Pt j 0, N 0]) ∧ Holds w (keys (dkE x bl pd)) (jnE j (opnJ x bl) (opnD bl) []) w' := by
  have hn := hd.n1
  have h4 : ¬ bl.length < 4 := fun h => by unfold noOpen at hno; rw [if_pos h] at hno; cases hno
  have hg : ¬ gm bl = 4294967295#32 := fun h => by unfold noOpen at hno; rw [if_neg h4, if_pos h] at hno; cases hno
  have cN := fun {u w' : World} {S : List Nat} {M : List Ent} (hw' : Holds u S (dkE x bl pd ++ M) w') => newGen_any x bl pd hd.ok hn w' (dkR_of hw')
  have eG : newG bl = .tuple #[U32 (gm bl + 1#32), N 0] := by unfold newG; rw [if_neg hg]
  rw [eG] at cN
  have ⟨hr1, hr2, hr3⟩ := curF_room (bl := bl) hd.ok.b (by omega)
  generalize hS : keys (dkE x bl pd) = S at h0 ⊢
  refine enter (n := 36) Tryz.func69 rfl rfl rfl h0 ?_
  repeat (first | refine JL.q (by first | (apply OQ.inv (xs := []); exact (isSize x); exact rfl; exact (OQ.callx (vs := [Pt x.p 0]) goes_dsizej rfl (fun w' hw' => dsizeR x bl pd w' (dkR_of (M := []) (by rw [List.append_nil]; exact hw'))))) | (apply OQ.move; exact rfl) | (apply OQ.assign; exact rfl) | (apply OQ.lssN; exact rfl; exact rfl)) rfl ?_ | refine JC.seq ?_ | refine JC.region ?_ | refine JL.nil ?_ | refine JE.next ?_)
  refine JC.cond rfl (fun hc => absurd (of_decide_eq_true hc) (by omega)) (fun _ => ?_)
  repeat (first | refine JL.q (by first | (apply OQ.callx (vs := [ifD x]); exact goes_newGen; exact rfl; exact (fun w' hw' => cN (M := []) (by rw [List.append_nil]; exact hw'))) | (apply OQ.extract; exact rfl; exact rfl) | (apply OQ.neB (a := 0) (b := 0) (c := true); exact rfl; exact rfl; exact rfl) | (apply OQ.move; exact rfl) | (apply OQ.assign; exact rfl)) rfl ?_ | refine JC.seq ?_ | refine JC.region ?_ | refine JC.skip ?_ | refine JL.nil ?_ | refine JE.next ?_)
  refine JC.cond_false rfl rfl ?_
  repeat (first | refine JL.q (by (apply OQ.move; exact rfl)) rfl ?_ | refine JC.seq ?_ | refine JC.region ?_ | refine JC.skip ?_ | refine JE.next ?_)
  refine JL.callg (ι := GrOf (curF bl).2.2 (bl.length / 2)) (vs := [ifD x]) (fun z => .tuple #[.agg (hfc ⟨x, (curF bl).1, bl.length / 2, (curF bl).2.1, 0, 0⟩).toArray, z.1.v]) (fun z => z.1.E) goes_cur rfl rfl (fun z => z.1.wr) (fun w' hw' => cur_any x bl pd hd.ok hn (by omega) w' (dkR_of (M := []) (by rw [List.append_nil]; exact hw'))) fun z => ?_
  repeat (refine JL.q (by first | (apply OQ.extract; exact rfl; exact rfl) | (apply OQ.move; exact rfl)) rfl ?_)
  refine JL.alloc (r := hfc0) hfZ rfl fun b6 _ => ?_
  refine JL.store_all (cs := hfc ⟨x, (curF bl).1, bl.length / 2, (curF bl).2.1, 0, 0⟩) hf6 rfl rfl rfl rfl .here rfl ?_
  have cO := fun w' => other_any ⟨x, (curF bl).1, bl.length / 2, (curF bl).2.1, 0, 0⟩ hr3 (by show bl.length / 2 < _; omega) w'
  repeat (first | refine JL.q (by first | (apply OQ.load_agg (cs := hfc ⟨x, (curF bl).1, bl.length / 2, (curF bl).2.1, 0, 0⟩); exact hfAg; exact hf6; exact rfl; exact .here; exact rfl; exact Row.all) | (apply OQ.callx (vs := [.agg (hfc ⟨x, (curF bl).1, bl.length / 2, (curF bl).2.1, 0, 0⟩).toArray]); exact goes_other; exact rfl; exact (fun w' _ => cO w')) | (apply OQ.buildJ (h := opnH x bl); exact rfl) | (apply OQ.assign; exact rfl)) rfl ?_ | refine JC.seq ?_ | refine JC.region ?_ | refine JL.nil ?_ | refine JE.next ?_)
  refine JL.box (r := hfc (opnH x bl)) rfl rfl rfl fun j _ => ?_
  obtain ⟨z, hz1, hz2⟩ := z
  have hzl : z.s.rs.map Sl8.l = (curF bl).2.2 := by rw [z.rs_eq]; exact hz1
  have hzn : 0 < z.s.rs.length := by rw [← hzl, List.length_map] at hr2; exact hr2
  refine JL.perm (M' := jnE j (opnH x bl) bl pd ++ (z.E ++ [⟨b6, Row 119 (hfc ⟨x, (curF bl).1, bl.length / 2, (curF bl).2.1, 0, 0⟩), true⟩])) ?_ (by
    refine List.Perm.cons _ ?_
    refine (List.perm_append_singleton _ _).symm.trans ?_
    rw [List.append_assoc]
    exact List.perm_append_comm_assoc _ _ _)
  have cB := fun w' (hw' : Holds w S (jnE j (opnH x bl) bl pd ++ (z.E ++ [⟨b6, Row 119 (hfc ⟨x, (curF bl).1, bl.length / 2, (curF bl).2.1, 0, 0⟩), true⟩])) w') hx' => begin_any j (opnH x bl) bl pd (gm bl + 1#32) z.s hd (by show bl.length / 2 - (curF bl).1 + bl.length / 2 ≤ bl.length; omega) hzn (by rw [hzl]; exact hr1) (by show pd.length + (bl.length / 2 + bl.length / 2) ≤ _; omega) w' (z.ok (hw'.weak (less_app (jnE j (opnH x bl) bl pd) (less_pre _ _)))) (away_gr hw') hx'
  rw [hzl, z.v_eq] at cB
  repeat (first | refine JL.q (by first | (apply OQ.move; exact rfl) | (apply OQ.assign; exact rfl) | (apply OQ.nilc; exact rfl) | (apply OQ.fld; exact rfl; exact rfl; exact rfl; exact (by decide); exact rfl)) rfl ?_ | refine JC.seq ?_ | refine JC.region ?_ | refine JL.nil ?_ | refine JE.next ?_)
  refine JL.callV (ι := Unit) (vs := [Pt j 0, U32 (gm bl + 1#32), z.v]) (fun _ => .tuple #[]) (fun _ => jnE j (opnJ x bl) (opnD bl) []) goes_begin rfl rfl (jnE_wr _ _ _ _) (fun _ => jnE_wr _ _ _ _) (fun w' hw' hx' => (cB w' hw' hx').mono fun e w2 ⟨h1, h2⟩ => ⟨(), h1, h2⟩) fun _ => ?_
  repeat (first | refine JL.q (by first | (apply OQ.move; exact rfl) | (apply OQ.assign; exact rfl)) rfl ?_ | refine JC.seq ?_ | refine JC.region ?_ | refine JL.nil ?_ | refine JE.next ?_)
  refine JC.ret ?_
  skip
  exact JE.ret2 rfl (RV.tmp rfl) (RV.tmp rfl) fun w' hw => ⟨j, rfl, hw.weak (less_pre _ _)⟩
theorem Open_yes (x : Dp) (bl : List Bk) (pd : List (Nat × Bk)) (hd : DkOk x bl pd) (hp : pd.length ≤ 900000) (hno : noOpen bl = 0) (w : World) (h0 : Holds w (keys (dkE x bl pd)) (dkE x bl pd) w) :
    Calls Tryz.prog 47 [Pt x.p 0].toArray w fun e w' => ∃ j : Nat, e = .returned (.tuple #[Pt j 0, N 0]) ∧ Holds w (keys (dkE x bl pd)) (jnE j (opnJ x bl) (opnD bl) []) w' := by
  refine enter (n := 9) Tryz.func47 rfl rfl rfl h0 ?_
  repeat (first | refine JL.q (by first | (apply OQ.ifaceD (x := x); exact rfl) | (apply OQ.move; exact rfl) | (apply OQ.assign; exact rfl)) rfl ?_ | refine JC.seq ?_ | refine JC.region ?_ | refine JL.nil ?_ | refine JE.next ?_)
  refine JL.perm ?_ (List.Perm.of_eq (List.append_nil _).symm)
  refine JL.callV (ι := Nat) (vs := [ifD x]) (fun j => .tuple #[Pt j 0, N 0]) (fun j => jnE j (opnJ x bl) (opnD bl) []) goes_jopen rfl rfl (dkE_wr _ _ _) (fun j => jnE_wr _ _ _ _) (fun w' hw' hx' => open_yes x bl pd hd hp hno w' hx') fun j => ?_
  rw [List.append_nil]
  repeat (first | refine JL.q (by first | (apply OQ.extract; exact rfl; exact rfl) | (apply OQ.assign; exact rfl)) rfl ?_ | refine JL.nil ?_ | refine JE.next ?_)
  exact JC.ret (JE.ret2 rfl (RV.tmp rfl) (RV.tmp rfl) fun w' hw => ⟨j, rfl, hw⟩)
end Go.Proofs.YtjkncnbpaejamaaGreatDoor

/-
  Of no statement by itself: the landed journal's Append, Restart.
  Conditions: each theorem's own.
-/
namespace Go.Proofs.YtjkncnbpaejamaaGreatDoor
set_option maxRecDepth 10000
open Sl Dsk Jrn
theorem jnR_of {j : Nat} {h : Hf} {bl : List Bk} {pd : List (Nat × Bk)} {u w : World} {S : List Nat} {M : List Ent} (hw : Holds u S (jnE j h bl pd ++ M) w) : Holds w [] (jnR j h bl pd) w :=
  (ro_holds hw).weak (.keep _ _ _ _ _ _ (fun _ h => h) (.keep _ _ _ _ _ _ (fun _ h => h) (.keep _ _ _ _ _ _ (fun _ h => h) (.nil _))))
theorem dkR_jn {j : Nat} {h : Hf} {bl : List Bk} {pd : List (Nat × Bk)} {u w : World} {S : List Nat} {M : List Ent} (hw : Holds u S (jnE j h bl pd ++ M) w) : Holds w [] (dkR h.x bl pd) w :=
  (jnR_of hw).weak (.drop _ _ _ (Less.refl _))
theorem dkR_jr {j : Nat} {h : Hf} {bl : List Bk} {pd : List (Nat × Bk)} {u w : World} {S : List Nat} {M : List Ent} (hw : Holds u S (jnR j h bl pd ++ M) w) : Holds w [] (dkR h.x bl pd) w :=
  dkR_front (A := [⟨j, Row 121 (hfc h), false⟩]) (M := M) hw
theorem fits_nat (j : Nat) (h : Hf) (n : Nat) (hu : h.used ≤ h.size) (hb : h.size < 4611686018427387904) (hn : n < 4611686018427387904) (w : World) (h0 : Holds w [] [⟨j, Row 121 (hfc h), false⟩] w) :
    Calls Tryz.prog 38 [Pt j 0, N n].toArray w fun e w' => e = .returned (.bool (decide (nb n ≤ h.size - h.used))) ∧ Ext w w' := by
  have := fits_any j h (n : Int) hu hb (by omega) w h0
  rwa [show decide ((0 : Int) ≤ (n : Int) ∧ nb (n : Int).toNat ≤ h.size - h.used) = decide (nb n ≤ h.size - h.used) from decide_eq_decide.2 (by simp)] at this
theorem ro_one {j : Nat} {h : Hf} {u w : World} {S : List Nat} {M : List Ent} {wr : Bool} (hw : Holds u S (⟨j, Row 121 (hfc h), wr⟩ :: M) w) : Holds w [] [⟨j, Row 121 (hfc h), false⟩] w :=
  (ro_holds hw).weak (.keep _ _ _ _ _ _ (fun _ h => h) (.nil _))
theorem goes_app : Goes Tryz.prog 39 := ⟨_, Tryz.func39, rfl, by kernel_rfl⟩
theorem goes_rst : Goes Tryz.prog 59 := ⟨_, Tryz.func59, rfl, by kernel_rfl⟩
/-- the journal behind one more record, and its disk's blocks -/
def appJ (h : Hf) (l : Bk) : Hf := syH (putH h l.length)
def appD (h : Hf) (bl : List Bk) (l : Bk) : List Bk := putAt bl (h.first + h.used) (blks h.g h.count l)
set_option maxHeartbeats 16000000 in
theorem app_yes (j : Nat) (h : Hf) (bl : List Bk) (pd : List (Nat × Bk)) (s : Sl8) (hd : DkOk h.x bl pd) (hs : h.first + h.size ≤ bl.length) (hc : h.count ≤ h.size) (hp : pd.length ≤ 900000) (hu : h.used ≤ h.size) (hyes : nb s.l.length ≤ h.size - h.used) (w : World) (hok : s.ok w) (hap : Away s (keys (jnE j h bl pd))) (h0 : Holds w (keys (jnE j h bl pd)) (jnE j h bl pd) w) :
    Calls Tryz.prog 39 [Pt j 0, s.v].toArray w fun e w' => e = .returned (N 0) ∧ Holds w (keys (jnE j h bl pd)) (jnE j (appJ h s.l) (appD h bl s.l) []) w' := by
  have hn1 := hd.n1
  have hl : s.l.length < 4611686018427387904 := by have := nb_le s.l.length; omega
  have cF := fun {u w' : World} {S : List Nat} {M : List Ent} (hw' : Holds u S (jnE j h bl pd ++ M) w') => fits_nat j h s.l.length hu (by omega) hl w' (ro_one hw')
  rw [decide_eq_true hyes] at cF
  generalize hS : keys (jnE j h bl pd) = S at hap h0 ⊢
  refine enter (n := 21) Tryz.func39 rfl rfl rfl h0 ?_
  repeat (first | refine JL.q (by first | (apply OQ.len (k := s.l.length) (ad := s.ad) (cap := s.cap); exact Tryz.underlying24; exact rfl) | (apply OQ.callx (vs := [Pt j 0, N s.l.length]); exact goes_fits; exact rfl; exact (fun w' hw' => cF (M := []) (by rw [List.append_nil]; exact hw'))) | (apply OQ.not; exact rfl) | (apply OQ.move; exact rfl) | (apply OQ.assign; exact rfl)) rfl ?_ | refine JC.seq ?_ | refine JC.region ?_ | refine JL.nil ?_ | refine JE.next ?_)
  refine JC.cond_false rfl rfl ?_
  repeat (first | refine JL.q (by first | (apply OQ.move; exact rfl) | (apply OQ.nilc; exact rfl) | (apply OQ.fld; exact rfl; exact rfl; exact rfl; exact (by decide); exact rfl)) rfl ?_ | refine JC.seq ?_ | refine JC.region ?_ | refine JC.skip ?_ | refine JE.next ?_)
  refine JL.perm ?_ (List.Perm.of_eq (List.append_nil _).symm)
  refine JL.callV (ι := Dw h.x (appD h bl s.l) (pd.length + nb s.l.length)) (vs := [Pt j 0, s.v]) (fun _ => .tuple #[]) (fun z => z.J j (putH h s.l.length)) goes_put rfl rfl (jnE_wr _ _ _ _) (fun z => z.Jwr _ _) (fun w' hw' hx' => put_any j h bl pd s hd hs (by omega) hc (by omega) w' (hok.away hw' hap) (away_mid hw' (jnE_wr _ _ _ _) hok hap) hx') fun z => ?_
  rw [List.append_nil]
  repeat (first | refine JL.q (by first | (apply OQ.load; exact jbC; exact rfl; exact .here; exact (Row.cell (v := ifD h.x) rfl)) | (apply OQ.move; exact rfl) | (apply OQ.nilc; exact rfl) | (apply OQ.fld; exact rfl; exact rfl; exact rfl; exact (by decide); exact rfl)) rfl ?_ | refine JC.seq ?_ | refine JC.region ?_ | refine JL.nil ?_ | refine JE.next ?_)
  refine JL.perm (M' := dkE ⟨h.x.p, h.x.q, h.x.cap, z.a⟩ (appD h bl s.l) z.pd ++ [⟨j, Row 121 (hfc (putH h s.l.length)), true⟩]) ?_ (by exact List.perm_append_comm (l₁ := [_]))
  refine JL.isync rfl rfl ?_
  repeat (first | refine JL.q (by (apply OQ.assign; exact rfl)) rfl ?_ | refine JC.seq ?_ | refine JC.region ?_ | refine JL.nil ?_ | refine JE.next ?_)
  refine JC.ret ?_
  skip
  exact JE.ret1 rfl (RV.tmp rfl) fun w' hw => ⟨rfl, hw.perm' (by exact List.perm_append_comm (l₂ := [_]))⟩
/-- why a journal doesn't begin anew -/
def noRst (h : Hf) (bl : List Bk) (n : Nat) : Prop := h.size < nb n ∨ gm bl = 4294967295#32
def rstH (h : Hf) : Hf := ⟨h.x, h.size - h.first, h.size, 0, 0, 0⟩
def rstJ (h : Hf) (bl : List Bk) (l : Bk) : Hf := syH (begH (rstH h) (gm bl + 1#32) [l])
def rstD (h : Hf) (bl : List Bk) (l : Bk) : List Bk := putAt bl (h.size - h.first) (allB (gm bl + 1#32) 0 [l])
set_option maxHeartbeats 16000000 in
theorem rst_no (j : Nat) (h : Hf) (bl : List Bk) (pd : List (Nat × Bk)) (s : Sl8) (ok : Ok bl pd) (hn : bl.length ≤ 65536) (hb : h.size ≤ 65536) (hl : s.l.length < 4611686018427387904) (hno : noRst h bl s.l.length) (w : World) (h0 : Holds w [] (jnR j h bl pd) w) :
    Calls Tryz.prog 59 [Pt j 0, s.v].toArray w fun e w' => e = .returned (N 6) ∧ Ext w w' := by
  refine enter (n := 43) Tryz.func59 rfl rfl rfl h0 ?_
  repeat (first | refine JL.q (by (apply OQ.assign; exact rfl)) rfl ?_ | refine JC.seq ?_ | refine JC.region ?_ | refine JL.nil ?_ | refine JE.next ?_)
  refine JC.quiet mixT (by kernel_rfl) ?_
  cases c1 : decide ((h.size : Int) < (nb s.l.length : Nat))
  case true =>
    repeat (first | refine JQ.q (by first | (apply OQ.len (k := s.l.length) (ad := s.ad) (cap := s.cap); exact Tryz.underlying24; exact rfl) | (apply OQ.callx (vs := [N s.l.length]); exact goes_bfor; exact rfl; exact (fun w' _ => bfor_any s.l.length hl w')) | (apply OQ.load; exact intC; exact rfl; exact .here; exact (Row.cell (v := N h.size) rfl)) | (apply OQ.gtrB; exact rfl; exact rfl; exact c1) | (apply OQ.move; exact rfl) | (apply OQ.nilc; exact rfl) | (apply OQ.fld; exact rfl; exact rfl; exact rfl; exact (by decide); exact rfl)) rfl ?_ | refine JQ.nil ?_ | refine JE.next ?_)
    refine JC.cond_true rfl rfl ?_
    repeat (first | refine JL.q (by (apply OQ.assign; exact rfl)) rfl ?_ | refine JC.seq ?_ | refine JC.region ?_ | refine JL.nil ?_ | refine JE.next ?_)
    refine JC.ret ?_
    repeat (refine JE.then_ret ?_)
    exact JE.ret1 rfl (RV.tmp rfl) fun w' hw => ⟨rfl, hw.chg⟩
  case false =>
    have hg : gm bl = 4294967295#32 := by
      rcases hno with h | h
      · exact absurd (by exact_mod_cast h) (of_decide_eq_false c1)
      · exact h
    have eG : newG bl = .tuple #[U32 0, N 6] := by unfold newG; rw [if_pos hg]
    have cN := fun {u w' : World} {S : List Nat} {M : List Ent} (hw' : Holds u S (jnR j h bl pd ++ M) w') => newGen_any h.x bl pd ok hn w' (dkR_jr hw')
    rw [eG] at cN
    repeat (first | refine JQ.q (by first | (apply OQ.len (k := s.l.length) (ad := s.ad) (cap := s.cap); exact Tryz.underlying24; exact rfl) | (apply OQ.callx (vs := [N s.l.length]); exact goes_bfor; exact rfl; exact (fun w' _ => bfor_any s.l.length hl w')) | (apply OQ.load; exact intC; exact rfl; exact .here; exact (Row.cell (v := N h.size) rfl)) | (apply OQ.gtrB; exact rfl; exact rfl; exact c1) | (apply OQ.move; exact rfl) | (apply OQ.nilc; exact rfl) | (apply OQ.fld; exact rfl; exact rfl; exact rfl; exact (by decide); exact rfl)) rfl ?_ | refine JQ.nil ?_ | refine JE.next ?_)
    refine JC.cond_false rfl rfl ?_
    repeat (first | refine JL.q (by first | (apply OQ.load; exact jbC; exact rfl; exact .here; exact (Row.cell (v := ifD h.x) rfl)) | (apply OQ.callx (vs := [ifD h.x]); exact goes_newGen; exact rfl; exact (fun w' hw' => cN (M := []) (by rw [List.append_nil]; exact hw'))) | (apply OQ.extract; exact rfl; exact rfl) | (apply OQ.neB (a := 6) (b := 0) (c := false); exact rfl; exact rfl; exact rfl) | (apply OQ.move; exact rfl) | (apply OQ.assign; exact rfl) | (apply OQ.nilc; exact rfl) | (apply OQ.fld; exact rfl; exact rfl; exact rfl; exact (by decide); exact rfl)) rfl ?_ | refine JC.seq ?_ | refine JC.region ?_ | refine JC.skip ?_ | refine JL.nil ?_ | refine JE.next ?_)
    refine JC.cond_true rfl rfl ?_
    repeat (first | refine JL.q (by first | (apply OQ.move; exact rfl) | (apply OQ.assign; exact rfl)) rfl ?_ | refine JC.seq ?_ | refine JC.region ?_ | refine JL.nil ?_ | refine JE.next ?_)
    refine JC.ret ?_
    repeat (refine JE.then_ret ?_)
    exact JE.ret1 rfl (RV.tmp rfl) fun w' hw => ⟨rfl, hw.chg⟩
set_option maxHeartbeats 32000000 in
theorem rst_yes (j : Nat) (h : Hf) (bl : List Bk) (pd : List (Nat × Bk)) (s : Sl8) (hd : DkOk h.x bl pd) (hs : h.size + h.size ≤ bl.length) (hf : h.first ≤ h.size) (hp : pd.length ≤ 900000) (hyes : ¬ noRst h bl s.l.length) (w : World) (hok : s.ok w) (hap : Away s (keys (jnE j h bl pd))) (h0 : Holds w (keys (jnE j h bl pd)) (jnE j h bl pd) w) :
    Calls Tryz.prog 59 [Pt j 0, s.v].toArray w fun e w' => e = .returned (N 0) ∧ Holds w (keys (jnE j h bl pd)) (jnE j (rstJ h bl s.l) (rstD h bl s.l) []) w' := by
  have hn1 := hd.n1
  have hfit : nb s.l.length ≤ h.size := Nat.le_of_not_lt fun e => hyes (.inl e)
  have hg : ¬ gm bl = 4294967295#32 := fun e => hyes (.inr e)
  have hl : s.l.length < 4611686018427387904 := by have := nb_le s.l.length; omega
  have eG : newG bl = .tuple #[U32 (gm bl + 1#32), N 0] := by unfold newG; rw [if_neg hg]
  have cN := fun {u w' : World} {S : List Nat} {M : List Ent} (hw' : Holds u S (jnE j h bl pd ++ M) w') => newGen_any h.x bl pd hd.ok hn1 w' (dkR_jn hw')
  rw [eG] at cN
  have cO := fun w' => other_any h hf (by omega) w'
  have c1 : decide ((h.size : Int) < (nb s.l.length : Nat)) = false := decide_eq_false (by omega)
  generalize hS : keys (jnE j h bl pd) = S at hap h0 ⊢
  refine enter (n := 43) Tryz.func59 rfl rfl rfl h0 ?_
  repeat (first | refine JL.q (by (apply OQ.assign; exact rfl)) rfl ?_ | refine JC.seq ?_ | refine JC.region ?_ | refine JL.nil ?_ | refine JE.next ?_)
  refine JC.quiet mixT (by kernel_rfl) ?_
  repeat (first | refine JQ.q (by first | (apply OQ.len (k := s.l.length) (ad := s.ad) (cap := s.cap); exact Tryz.underlying24; exact rfl) | (apply OQ.callx (vs := [N s.l.length]); exact goes_bfor; exact rfl; exact (fun w' _ => bfor_any s.l.length hl w')) | (apply OQ.load; exact intC; exact rfl; exact .here; exact (Row.cell (v := N h.size) rfl)) | (apply OQ.gtrB; exact rfl; exact rfl; exact c1) | (apply OQ.move; exact rfl) | (apply OQ.nilc; exact rfl) | (apply OQ.fld; exact rfl; exact rfl; exact rfl; exact (by decide); exact rfl)) rfl ?_ | refine JQ.nil ?_ | refine JE.next ?_)
  refine JC.cond_false rfl rfl ?_
  repeat (first | refine JL.q (by first | (apply OQ.load; exact jbC; exact rfl; exact .here; exact (Row.cell (v := ifD h.x) rfl)) | (apply OQ.callx (vs := [ifD h.x]); exact goes_newGen; exact rfl; exact (fun w' hw' => cN (M := []) (by rw [List.append_nil]; exact hw'))) | (apply OQ.extract; exact rfl; exact rfl) | (apply OQ.neB (a := 0) (b := 0) (c := true); exact rfl; exact rfl; exact rfl) | (apply OQ.move; exact rfl) | (apply OQ.assign; exact rfl) | (apply OQ.nilc; exact rfl) | (apply OQ.fld; exact rfl; exact rfl; exact rfl; exact (by decide); exact rfl)) rfl ?_ | refine JC.seq ?_ | refine JC.region ?_ | refine JC.skip ?_ | refine JL.nil ?_ | refine JE.next ?_)
  refine JC.cond_false rfl rfl ?_
  repeat (first | refine JL.q (by first | (apply OQ.load_agg (cs := hfc h); exact hfAg; exact hf6; exact rfl; exact .here; exact rfl; exact Row.all) | (apply OQ.callx (vs := [.agg (hfc h).toArray]); exact goes_other; exact rfl; exact (fun w' _ => cO w')) | (apply OQ.move; exact rfl) | (apply OQ.nilc; exact rfl) | (apply OQ.fld; exact rfl; exact rfl; exact rfl; exact (by decide); exact rfl)) rfl ?_ | refine JC.seq ?_ | refine JC.region ?_ | refine JC.skip ?_ | refine JE.next ?_)
  refine JL.store_all (cs := hfc (rstH h)) hf6 rfl rfl rfl rfl .here rfl ?_
  repeat (first | refine JL.q (by first | (apply OQ.move; exact rfl) | (apply OQ.nilc; exact rfl) | (apply OQ.fld; exact rfl; exact rfl; exact rfl; exact (by decide); exact rfl)) rfl ?_ | refine JC.seq ?_ | refine JC.region ?_ | refine JL.nil ?_ | refine JE.next ?_)
  refine JL.lit1 (v := s.v) Tryz.underlying134 slEj rfl rfl rfl rfl fun bl2 _ => ?_
  refine JL.perm (M' := jnE j (rstH h) bl pd ++ [⟨bl2, Row 24 [s.v], true⟩]) ?_ (by exact List.perm_append_comm (l₁ := [_]))
  have cB := fun w' (hw' : Holds w S (jnE j (rstH h) bl pd ++ [⟨bl2, Row 24 [s.v], true⟩]) w') hx' => begin_any j (rstH h) bl pd (gm bl + 1#32) ⟨some ⟨bl2, 0, none⟩, 1, [s]⟩ hd (by show h.size - h.first + h.size ≤ bl.length; omega) (by show 0 < 1; decide) (by show nb s.l.length + 0 ≤ h.size; omega) (by show pd.length + (h.size + h.size) ≤ _; omega) w' ⟨Nat.le_refl _, (by
      obtain ⟨o, ho, hA⟩ := hw'.get (b := bl2) (A := Row 24 [s.v]) (wr := true) (hasR (N := jnE j (rstH h) bl pd) .here)
      exact Reads.block ho (Row.all _ hA)), fun y hy => by rw [List.mem_singleton.1 hy]; exact hok.away hw' hap⟩ ⟨fun _ a ha => by cases ha; exact away_has (b := bl2) hw' .here, fun y hy => by rw [List.mem_singleton.1 hy]; exact away_mid hw' (jnE_wr _ _ _ _) hok hap⟩ hx'
  skip
  refine JL.callV (ι := Unit) (vs := [Pt j 0, U32 (gm bl + 1#32), .slice (some ⟨bl2, 0, none⟩) 1 1]) (fun _ => .tuple #[]) (fun _ => jnE j (rstJ h bl s.l) (rstD h bl s.l) []) goes_begin rfl rfl (jnE_wr _ _ _ _) (fun _ => jnE_wr _ _ _ _) (fun w' hw' hx' => (cB w' hw' hx').mono fun e w2 ⟨h1, h2⟩ => ⟨(), h1, h2⟩) fun _ => ?_
  repeat (first | refine JL.q (by (apply OQ.assign; exact rfl)) rfl ?_ | refine JC.seq ?_ | refine JC.region ?_ | refine JL.nil ?_ | refine JE.next ?_)
  refine JC.ret ?_
  skip
  exact JE.ret1 rfl (RV.tmp rfl) fun w' hw => ⟨rfl, hw.weak (less_pre _ _)⟩
end Go.Proofs.YtjkncnbpaejamaaGreatDoor

/-
  Of no statement by itself: what holds of a journal and its disk between the calls, by definition.
  Conditions: each theorem's own.
-/
namespace Go.Proofs.YtjkncnbpaejamaaGreatDoor
open Sl Dsk Jrn
theorem mx_toNat (a b : BitVec 32) : (mx a b).toNat = max a.toNat b.toNat := by
  unfold mx
  split <;> omega
/-- both ends of a block tell generations below a number -/
def Below (m : Nat) (b : Bk) : Prop := (markIn b).1.toNat < m ∧ (markIn (b.drop 54)).1.toNat < m
theorem gm_fold (m : Nat) : ∀ (bl : List Bk) (a : BitVec 32), a.toNat < m → (∀ b ∈ bl, Below m b) → (bl.foldl (fun m b => mx (mx m (markIn b).1) (markIn (b.drop 54)).1) a).toNat < m
  | [], a, h, _ => h
  | b :: bl, a, h, hb => by
    have h1 := hb b (by simp)
    refine gm_fold m bl _ ?_ fun x hx => hb x (by simp [hx])
    rw [mx_toNat, mx_toNat]
    have := h1.1
    have := h1.2
    omega
theorem gm_lt {m : Nat} {bl : List Bk} (h0 : 0 < m) (h : ∀ b ∈ bl, Below m b) : (gm bl).toNat < m := gm_fold m bl 0 h0 h
theorem gm_up : ∀ (bl : List Bk) (a : BitVec 32), a.toNat ≤ (bl.foldl (fun m b => mx (mx m (markIn b).1) (markIn (b.drop 54)).1) a).toNat ∧ ∀ b ∈ bl, Below ((bl.foldl (fun m b => mx (mx m (markIn b).1) (markIn (b.drop 54)).1) a).toNat + 1) b
  | [], a => ⟨Nat.le_refl _, nofun⟩
  | b :: bl, a => by
    have ⟨h1, h2⟩ := gm_up bl (mx (mx a (markIn b).1) (markIn (b.drop 54)).1)
    have hm := mx_toNat (mx a (markIn b).1) (markIn (b.drop 54)).1
    rw [mx_toNat a] at hm
    refine ⟨?_, fun x hx => ?_⟩
    · simp only [List.foldl_cons]
      omega
    · simp only [List.foldl_cons]
      rcases List.mem_cons.1 hx with rfl | hx
      · exact ⟨by omega, by omega⟩
      · exact h2 x hx
theorem gm_below {bl : List Bk} : ∀ b ∈ bl, Below ((gm bl).toNat + 1) b := (gm_up bl 0).2
theorem mk1_ok {g : BitVec 32} {r n i : Nat} (h : i < n) (hn : n ≤ 32768) : okM (mk1 g r n i) := by
  show (BitVec.ofNat 16 i).toNat < 32768
  rw [BitVec.toNat_ofNat]
  omega
theorem blk_mark {g : BitVec 32} {r : Nat} {rec : Bk} {i : Nat} (h : i < nb rec.length) (hn : nb rec.length ≤ 32768) : (markIn (blk g r rec i)).1 = g ∧ (markIn ((blk g r rec i).drop 54)).1 = g ∧ (blk g r rec i).length = 64 := by
  have hc : (chunk rec i).length ≤ 42 := by rw [Jrn.chunk_len]; omega
  have hk := mk1_ok (g := g) (r := r) h hn
  refine ⟨?_, ?_, block_len hc⟩
  · rw [show blk g r rec i = blockOf (mk1 g r (nb rec.length) i) (chunk rec i) from rfl, block_mark hk]; rfl
  · rw [show blk g r rec i = blockOf (mk1 g r (nb rec.length) i) (chunk rec i) from rfl, block_back hk hc]; rfl
theorem blks_mark {g : BitVec 32} {r : Nat} {rec : Bk} (hn : nb rec.length ≤ 32768) : ∀ b ∈ blks g r rec, (markIn b).1 = g ∧ (markIn (b.drop 54)).1 = g ∧ b.length = 64 := by
  intro b hb
  unfold blks at hb
  obtain ⟨i, hi, rfl⟩ := List.mem_map.1 hb
  exact blk_mark (List.mem_range.1 hi) hn
theorem allB_mark {g : BitVec 32} : ∀ (recs : List Bk) (n : Nat), room recs ≤ 32768 → ∀ b ∈ allB g n recs, (markIn b).1 = g ∧ (markIn (b.drop 54)).1 = g ∧ b.length = 64
  | [], _, _, b, hb => by simp [allB] at hb
  | r :: rs, n, h, b, hb => by
    rw [room_cons] at h
    rw [allB] at hb
    rcases List.mem_append.1 hb with hb | hb
    · exact blks_mark (by omega) b hb
    · exact allB_mark rs (n + 1) (by omega) b hb
theorem old_get {bl : List Bk} {i : Nat} (h : i < bl.length) : old bl i = bl[i] := by simp [old, List.getD_eq_getElem?_getD, h]
theorem old_putAt {bl : List Bk} {k : Nat} {l : List Bk} {i : Nat} (hk : k + l.length ≤ bl.length) (hi : i < bl.length) (ho : ¬ (k ≤ i ∧ i < k + l.length)) : old (putAt bl k l) i = old bl i := by
  have hl := putAt_len hk
  have h1 : (bl.take k ++ l).length = k + l.length := by rw [List.length_append, List.length_take]; omega
  rw [old_get (by omega), old_get hi]
  simp only [putAt]
  by_cases h : i < k
  · rw [List.getElem_append_left (by rw [h1]; omega), List.getElem_append_left (by rw [List.length_take]; omega), List.getElem_take]
  · rw [List.getElem_append_right (by rw [h1]; omega), List.getElem_drop]
    congr 1
    omega
theorem putAt_at {bl : List Bk} {k : Nat} {l : List Bk} (hk : k + l.length ≤ bl.length) : ((putAt bl k l).drop k).take l.length = l := by
  have h1 : (bl.take k).length = k := by rw [List.length_take]; omega
  unfold putAt
  rw [List.append_assoc, List.drop_left' h1, List.take_left' rfl]
theorem putAt_mem {bl : List Bk} {k : Nat} {l : List Bk} {P : Bk → Prop} (h : ∀ b ∈ bl, P b) (hl : ∀ b ∈ l, P b) : ∀ b ∈ putAt bl k l, P b := by
  intro b hb
  unfold putAt at hb
  rcases List.mem_append.1 hb with hb | hb
  · rcases List.mem_append.1 hb with hb | hb
    · exact h b (List.mem_of_mem_take hb)
    · exact hl b hb
  · exact h b (List.mem_of_mem_drop hb)
theorem DkOk.put {x : Dp} {bl : List Bk} {pd : List (Nat × Bk)} (h : DkOk x bl pd) {k : Nat} {l : List Bk} (hk : k + l.length ≤ bl.length) (hl : ∀ b ∈ l, b.length = 64) : DkOk (sync0 x) (putAt bl k l) [] where
  ok := ⟨putAt_mem h.ok.b hl, by simp⟩
  n0 := by rw [putAt_len hk]; exact h.n0
  n1 := by rw [putAt_len hk]; exact h.n1
  m := by simp
  a := fun _ => rfl
/-- what holds of a journal between calls -/
structure Jv (h : Hf) (bl : List Bk) (recs : List Bk) : Prop where
  n4 : 4 ≤ bl.length
  n5 : bl.length ≤ 65536
  n : h.size = bl.length / 2
  f : h.first = 0 ∨ h.first = h.size
  c : h.count = recs.length
  u : h.used = room recs
  r : room recs ≤ h.size
  ne : recs ≠ []
  at' : (bl.drop h.first).take (room recs) = allB h.g 0 recs
  o : ∀ i, i < bl.length → ¬ (h.first ≤ i ∧ i < h.first + room recs) → Below h.g.toNat (old bl i)
theorem room_pos {recs : List Bk} (h : recs ≠ []) : 0 < room recs := by
  cases recs with
  | nil => exact absurd rfl h
  | cons r rs => rw [room_cons]; have := nb_pos r.length; omega
namespace Jv
variable {h : Hf} {bl recs : List Bk}
theorem fs (v : Jv h bl recs) : h.first + h.size ≤ bl.length ∧ h.first ≤ h.size ∧ h.size + h.size ≤ bl.length ∧ h.size ≤ 32768 := by
  have := v.n; have := v.n5
  rcases v.f with e | e <;> omega
theorem inn (v : Jv h bl recs) {k : Nat} (hk : k < room recs) : old bl (h.first + k) ∈ allB h.g 0 recs := by
  have h1 := v.fs; have h2 := v.r
  rw [← v.at', old_get (by omega)]
  have : ((bl.drop h.first).take (room recs))[k]'(by rw [List.length_take, List.length_drop]; omega) = bl[h.first + k]'(by omega) := by simp
  rw [← this]
  exact List.getElem_mem _
theorem all (v : Jv h bl recs) : ∀ b ∈ bl, Below (h.g.toNat + 1) b := by
  intro b hb
  have h1 := v.fs; have h2 := v.r
  obtain ⟨i, hi, rfl⟩ := List.mem_iff_getElem.1 hb
  rw [← old_get hi]
  by_cases ho : h.first ≤ i ∧ i < h.first + room recs
  · have := allB_mark recs 0 (by omega) _ (v.inn (k := i - h.first) (by omega))
    rw [show h.first + (i - h.first) = i by omega] at this
    exact ⟨by rw [this.1]; omega, by rw [this.2.1]; omega⟩
  · have := v.o i hi ho
    exact ⟨Nat.lt_succ_of_lt this.1, Nat.lt_succ_of_lt this.2⟩
theorem gm_le (v : Jv h bl recs) : (gm bl).toNat ≤ h.g.toNat := Nat.le_of_lt_succ (gm_lt (Nat.succ_pos _) v.all)
theorem g0 (v : Jv h bl recs) : 0 < h.g.toNat := by
  have h1 := v.fs; have h2 := v.r; have h3 := v.n4; have h4 := v.n
  have := v.o (h.size - h.first) (by omega) (by rcases v.f with e | e <;> omega)
  have := this.1
  omega
theorem told (v : Jv h bl recs) : toldH bl h.first h.size h.g = recs := by
  have h1 := v.fs; have h2 := v.r
  have e : bsOf bl h.first h.size 0 = allB h.g 0 recs ++ ((bl.drop h.first).take h.size).drop (room recs) := by
    rw [← v.at']
    conv => lhs; rw [bsOf, List.drop_zero, ← List.take_append_drop (room recs) ((bl.drop h.first).take h.size), List.take_take, Nat.min_eq_left h2]
  unfold toldH
  rw [e]
  refine told_all (fun b hb => ?_) (by omega)
  obtain ⟨k, hk, rfl⟩ := List.mem_iff_getElem.1 hb
  have hk' := hk
  rw [List.length_drop, List.length_take, List.length_drop] at hk'
  have : (((bl.drop h.first).take h.size).drop (room recs))[k] = old bl (h.first + (room recs + k)) := by
    rw [old_get (by omega)]
    simp
  rw [this]
  intro hg
  have := (v.o (h.first + (room recs + k)) (by omega) (by omega)).1
  rw [hg] at this
  omega
theorem recH (v : Jv h bl recs) : recH bl h.first = recs ∧ genH bl h.first = h.g := by
  have h0 := v.inn (k := 0) (room_pos v.ne)
  have h1 := v.fs; have h2 := v.r
  rw [Nat.add_zero] at h0
  have hm := (allB_mark recs 0 (by omega) _ h0).1
  have e : Go.Proofs.YtjkncnbpaejamaaGreatDoor.recH bl h.first = recs := by
    unfold Go.Proofs.YtjkncnbpaejamaaGreatDoor.recH
    rw [hm, ← v.n]
    exact v.told
  refine ⟨e, ?_⟩
  unfold genH
  rw [e, hm, if_neg]
  intro h
  exact v.ne (List.length_eq_zero_iff.1 h)
theorem other (v : Jv h bl recs) : (genH bl (h.size - h.first)).toNat < h.g.toNat := by
  have h1 := v.fs; have h2 := v.r; have h3 := v.n4; have h4 := v.n
  have := (v.o (h.size - h.first) (by omega) (by rcases v.f with e | e <;> omega)).1
  have h5 := v.g0
  unfold genH
  split
  · exact h5
  · exact this
theorem cur (v : Jv h bl recs) : curF bl = (h.first, h.g, recs) := by
  have h5 := v.g0
  have ⟨e1, e2⟩ := v.recH
  have e3 := v.other
  have hn := v.n
  unfold curF
  rcases v.f with e | e
  · rw [e] at e1 e2 e3
    rw [e, ← hn]
    rw [Nat.sub_zero] at e3
    rw [e1, e2, if_pos ⟨by omega, by omega⟩]
  · rw [e] at e1 e2 e3
    rw [Nat.sub_self] at e3
    rw [e, ← hn, e1, e2, if_neg (fun hh => by have := hh.2; omega), if_pos (by omega)]
end Jv
/-- a journal that begins with a generation behind all others -/
theorem Jv.beg {x : Dp} {bl recs : List Bk} {first size : Nat} (n4 : 4 ≤ bl.length) (n5 : bl.length ≤ 65536) (n : size = bl.length / 2) (f : first = 0 ∨ first = size) (r : room recs ≤ size) (ne : recs ≠ []) (hg : gm bl ≠ 4294967295#32) :
    Jv ⟨x, first, size, gm bl + 1#32, recs.length, room recs⟩ (putAt bl first (allB (gm bl + 1#32) 0 recs)) recs := by
  have hs : first + size ≤ bl.length := by rcases f with e | e <;> omega
  have hk : first + (allB (gm bl + 1#32) 0 recs).length ≤ bl.length := by rw [allB_len]; omega
  have hl := putAt_len hk
  have hgl : (gm bl).toNat ≠ 4294967295 := fun e => hg (BitVec.eq_of_toNat_eq e)
  have hg1 : (gm bl + 1#32).toNat = (gm bl).toNat + 1 := by
    rw [BitVec.toNat_add, show (1#32).toNat = 1 from rfl]
    have := (gm bl).isLt
    omega
  refine ⟨by rw [hl]; exact n4, by rw [hl]; exact n5, by rw [hl]; exact n, f, rfl, rfl, r, ne, ?_, fun i hi ho => ?_⟩
  · have := putAt_at hk
    rw [allB_len] at this
    exact this
  · dsimp only at ho ⊢
    rw [hl] at hi
    rw [old_putAt hk hi (by rw [allB_len]; exact ho), hg1]
    exact gm_below _ (old_mem hi)
theorem Jv.app {h : Hf} {bl recs : List Bk} (v : Jv h bl recs) {l : Bk} (hf : nb l.length ≤ h.size - h.used) : Jv (appJ h l) (appD h bl l) (recs ++ [l]) := by
  have h1 := v.fs; have h2 := v.r; have h3 := v.u; have h4 := v.c; have hn := v.n
  have hr : room (recs ++ [l]) = room recs + nb l.length := by rw [room_append]; simp [room]
  have hk : h.first + h.used + (blks h.g h.count l).length ≤ bl.length := by rw [blks_len]; omega
  have hl := putAt_len hk
  refine ⟨by unfold appD; rw [hl]; exact v.n4, by unfold appD; rw [hl]; exact v.n5, by unfold appD; rw [hl]; exact hn, v.f, by show h.count + 1 = _; rw [h4, List.length_append]; rfl, by show h.used + nb l.length = _; rw [hr, h3], by rw [hr]; show _ ≤ h.size; omega, by simp, ?_, fun i hi ho => ?_⟩
  · show ((appD h bl l).drop h.first).take _ = allB h.g 0 _
    have e1 : bl.take (h.first + h.used) = bl.take h.first ++ allB h.g 0 recs := by rw [← v.at', h3, List.take_add]
    have e2 : (bl.take h.first).length = h.first := by rw [List.length_take]; omega
    unfold appD putAt
    rw [e1, List.append_assoc, List.append_assoc, List.drop_left' e2, ← List.append_assoc, allB_append, Nat.zero_add, ← h4, List.take_left' (by rw [List.length_append, allB_len, blks_len, hr])]
    congr 1
    rw [allB, allB, List.append_nil]
  · unfold appD at hi ⊢
    rw [hl] at hi
    rw [hr] at ho
    have ho' : ¬ (h.first ≤ i ∧ i < h.first + (room recs + nb l.length)) := ho
    rw [old_putAt hk hi (by rw [blks_len]; omega)]
    exact v.o i hi (by omega)
end Go.Proofs.YtjkncnbpaejamaaGreatDoor

/-
  Of no statement by itself: what the reference's Same gives.
  Conditions: each theorem's own.
-/
namespace Go.Proofs.YtjkncnbpaejamaaGreatDoor
set_option maxRecDepth 10000
open Sl

section
variable {P : Program} {n : Nat} {E : Env} {C : World → Prop} {dst : Option Tmp} {t t' ty : TypeId} {pos : String} {aft : Array Edge} {g : Option (Nat × Bool)} {x y : Operand}
end
theorem goes_same : Goes Tryz.prog 21 := ⟨_, Tryz.func21, rfl, by kernel_rfl⟩

set_option maxHeartbeats 8000000 in
theorem same_any (a b : Sl8) (w : World) (ha : a.ok w) (hb : b.ok w) (hal : a.l.length < 4611686018427387904) : Calls Tryz.prog 21 [a.v, b.v].toArray w fun e w' => e = .returned (.bool (decide (a.l = b.l))) ∧ Ext w w' := by
  refine enter (n := 26) Tryz.func21 rfl rfl rfl (Holds.start w []) ?_
  repeat (first | refine JL.q (by first | (apply OQ.move; exact rfl) | (apply OQ.assign; exact rfl) | (apply OQ.len; exact rfl; exact rfl) | (apply OQ.neN; exact rfl; exact rfl)) rfl ?_ | refine JC.seq ?_ | refine JC.region ?_ | refine JL.nil ?_ | refine JE.next ?_)
  refine JC.cond rfl (fun h => ?_) (fun h => ?_)
  · have h : ¬ a.l.length = b.l.length := by simpa using h
    repeat (first | refine JL.q (by (apply OQ.assign; exact rfl)) rfl ?_ | refine JC.seq ?_ | refine JC.region ?_ | refine JL.nil ?_ | refine JE.next ?_)
    refine JC.ret ?_
    repeat (refine JE.then_ret ?_)
    refine JE.ret1 rfl (RV.tmp rfl) fun w' hw => ⟨?_, hw.chg⟩
    rw [decide_eq_false (fun e => h (by rw [e]))]
  · have h : a.l.length = b.l.length := by simpa using h
    repeat (first | refine JL.q (by (apply OQ.assign; exact rfl)) rfl ?_ | refine JC.seq ?_ | refine JC.region ?_ | refine JC.block ?_ | refine JC.skip ?_ | refine JL.nil ?_ | refine JE.next ?_)
    refine JC.loop (fun i : Nat => [(0, a.v), (1, b.v), (5, N i)]) (fun _ => []) (fun i => a.l.length - i) (fun i => i ≤ a.l.length ∧ a.l.take i = b.l.take i) 0 ⟨by omega, by simp⟩ (by repeat (first | exact SubE.nil | refine SubE.cons _ _ _ rfl ?_)) (Less.refl _) ?_
    rintro i ⟨hi, hI⟩
    repeat (first | refine JL.q (by first | (apply OQ.move; exact rfl) | (apply OQ.len; exact rfl; exact rfl) | (apply OQ.lssN; exact rfl; exact rfl)) rfl ?_ | refine JC.seq ?_ | refine JC.region ?_ | refine JL.nil ?_ | refine JE.next ?_)
    refine JC.cond rfl (fun h2 => ?_) (fun h2 => ?_)
    · have hi' : i < a.l.length := of_decide_eq_true h2
      clear h2
      obtain ⟨ba, ja, hae, hca⟩ := ha.reads.at (by simp; omega)
      obtain ⟨bb, jb, hbe, hcb⟩ := hb.reads.at (by simp; omega)
      have hca := hca i _ (map_at U8 0 hi')
      have hcb := hcb i _ (map_at U8 0 (show i < b.l.length by omega))
      have hav : a.v = .slice (some ⟨ba, ja, none⟩) a.l.length a.cap := by rw [← hae]; rfl
      have hbv : b.v = .slice (some ⟨bb, jb, none⟩) b.l.length b.cap := by rw [← hbe]; rfl
      rw [hav, hbv]
      repeat (first | refine JC.seq ?_ | refine JC.block ?_ | refine JC.skip ?_ | refine JE.next ?_)
      refine JC.quiet mixT (by kernel_rfl) ?_
      repeat (first | refine JQ.q (by first | (apply OQ.idxS1; exact Tryz.underlying24; exact u8s; exact rfl; exact rfl; exact hi') | (apply OQ.idxS1; exact Tryz.underlying24; exact u8s; exact rfl; exact rfl; exact (show i < b.l.length by omega)) | (apply OQ.load_old; exact u8c; exact rfl; exact (block_lt_of_cell hca); exact (by simp); exact hca) | (apply OQ.load_old; exact u8c; exact rfl; exact (block_lt_of_cell hcb); exact (by simp); exact hcb) | (apply OQ.ne8; exact rfl; exact rfl) | (apply OQ.move; exact rfl)) rfl ?_ | refine JQ.nil ?_ | refine JE.next ?_)
      refine JC.cond rfl (fun h3 => ?_) (fun h3 => ?_)
      · have h3 : ¬ a.l.getD i 0 = b.l.getD i 0 := by simpa using h3
        repeat (first | refine JL.q (by (apply OQ.assign; exact rfl)) rfl ?_ | refine JC.seq ?_ | refine JC.region ?_ | refine JL.nil ?_ | refine JE.next ?_)
        refine JC.ret ?_
        repeat (first | refine JE.then_ret ?_ | refine JE.blk_ret ?_)
        refine JE.ret1 rfl (RV.tmp rfl) fun w' hw => ⟨?_, hw.chg⟩
        rw [decide_eq_false (fun e => h3 (by rw [e]))]
      · have h3 : a.l.getD i 0 = b.l.getD i 0 := by simpa using h3
        rw [← hav, ← hbv]
        repeat (first | refine JL.q (by first | (apply OQ.move; exact rfl) | (apply OQ.assign; exact rfl) | (apply OQ.addN; exact rfl; exact rfl; exact (by (try simp only []); omega))) rfl ?_ | refine JC.region ?_ | refine JC.skip ?_ | refine JL.nil ?_ | refine JE.next ?_ | refine JE.blk_normal ?_)
        refine JE.again (i := i) (i + 1) ⟨by omega, ?_⟩ (by omega) (by repeat (first | exact SubE.nil | refine SubE.cons _ _ _ rfl ?_)) (Less.refl _)
        have e1 : a.l[i]'hi' = b.l[i]'(by omega) := by
          simpa [List.getD, hi', show i < b.l.length by omega] using h3
        rw [List.take_succ_eq_append_getElem hi', List.take_succ_eq_append_getElem (show i < b.l.length by omega), hI, e1]
    · have hi' : ¬ i < a.l.length := of_decide_eq_false h2
      obtain rfl : i = a.l.length := by omega
      rw [List.take_length, h, List.take_length] at hI
      repeat (first | refine JL.q (by (apply OQ.assign; exact rfl)) rfl ?_ | refine JC.seq ?_ | refine JC.region ?_ | refine JC.exit ?_ | refine JL.nil ?_ | refine JE.next ?_ | refine JE.then_exit ?_ | refine JE.blk_hit ?_)
      refine JC.ret ?_
      skip
      refine JE.ret1 rfl (RV.tmp rfl) fun w' hw => ⟨?_, hw.chg⟩
      rw [decide_eq_true hI]

end Go.Proofs.YtjkncnbpaejamaaGreatDoor

/-
  Of no statement by itself: rules for calls of a journal; the law's speaks, SameList.
  Conditions: each theorem's own.
-/
namespace Go.Proofs.YtjkncnbpaejamaaGreatDoor
set_option maxRecDepth 10000
open Sl Dsk Jrn
section
variable {n : Nat} {w0 : World} {S : List Nat} {ops : Array Oper} {Q : Exit → Act → World → Prop} {l : List Oper} {E : Env} {M : List Ent}
variable {d : Nat} {ty : TypeId} {pos : String} {aft : Array Edge} {x1 x2 x3 : Operand} {ats : Array TypeId} {x : Dp} {bl recs : List Bk} {pd : List (Nat × Bk)} {j : Nat} {h : Hf} {s : Sl8}
theorem JL.jopen (hd : DkOk x bl pd) (hp : pd.length ≤ 900000) (hno : noOpen bl = 0) (e1 : ev E x1 = some (Pt x.p 0)) (hn : Nat.blt d n = true)
    (kk : ∀ j, JL Tryz.prog n w0 S ops Q l ((d, .tuple #[Pt j 0, N 0]) :: E) (jnE j (opnJ x bl) (opnD bl) [] ++ M)) : JL Tryz.prog n w0 S ops Q (⟨some d, .call ⟨.value (.func 47), #[x1], ats⟩, ty, pos, aft, none⟩ :: l) E (dkE x bl pd ++ M) :=
  JL.callV (ι := Nat) (xs := [x1]) (vs := [Pt x.p 0]) (fun j => .tuple #[Pt j 0, N 0]) (fun j => jnE j (opnJ x bl) (opnD bl) []) goes_jOpen (by simp [evs, e1]) hn (dkE_wr _ _ _) (fun _ => jnE_wr _ _ _ _)
    (fun w _ hw => Open_yes x bl pd hd hp hno w hw) kk
theorem JL.japp (v : Jv h bl recs) (hd : DkOk h.x bl pd) (hp : pd.length ≤ 900000) (hyes : nb s.l.length ≤ h.size - h.used) (hs : ∀ w, Holds w0 S (jnE j h bl pd ++ M) w → s.ok w ∧ Away s (keys (jnE j h bl pd))) (e1 : ev E x1 = some (Pt j 0)) (e2 : ev E x2 = some s.v) (hn : Nat.blt d n = true)
    (kk : JL Tryz.prog n w0 S ops Q l ((d, N 0) :: E) (jnE j (appJ h s.l) (appD h bl s.l) [] ++ M)) : JL Tryz.prog n w0 S ops Q (⟨some d, .call ⟨.value (.func 39), #[x1, x2], ats⟩, ty, pos, aft, none⟩ :: l) E (jnE j h bl pd ++ M) :=
  have h1 := v.fs; have h2 := v.u; have h3 := v.r; have h4 := v.c; have h5 := room_ge recs
  JL.callV (ι := Unit) (xs := [x1, x2]) (vs := [Pt j 0, s.v]) (fun _ => N 0) (fun _ => jnE j (appJ h s.l) (appD h bl s.l) []) goes_app (by simp [evs, e1, e2]) hn (jnE_wr _ _ _ _) (fun _ => jnE_wr _ _ _ _)
    (fun w h0 hw => (app_yes j h bl pd s hd h1.1 (by omega) hp (by omega) hyes w (hs w h0).1 (hs w h0).2 hw).mono fun e w' ⟨g1, g2⟩ => ⟨(), g1, g2⟩) fun _ => kk
theorem JL.jrst (v : Jv h bl recs) (hd : DkOk h.x bl pd) (hp : pd.length ≤ 900000) (hyes : ¬ noRst h bl s.l.length) (hs : ∀ w, Holds w0 S (jnE j h bl pd ++ M) w → s.ok w ∧ Away s (keys (jnE j h bl pd))) (e1 : ev E x1 = some (Pt j 0)) (e2 : ev E x2 = some s.v) (hn : Nat.blt d n = true)
    (kk : JL Tryz.prog n w0 S ops Q l ((d, N 0) :: E) (jnE j (rstJ h bl s.l) (rstD h bl s.l) [] ++ M)) : JL Tryz.prog n w0 S ops Q (⟨some d, .call ⟨.value (.func 59), #[x1, x2], ats⟩, ty, pos, aft, none⟩ :: l) E (jnE j h bl pd ++ M) :=
  have h1 := v.fs
  JL.callV (ι := Unit) (xs := [x1, x2]) (vs := [Pt j 0, s.v]) (fun _ => N 0) (fun _ => jnE j (rstJ h bl s.l) (rstD h bl s.l) []) goes_rst (by simp [evs, e1, e2]) hn (jnE_wr _ _ _ _) (fun _ => jnE_wr _ _ _ _)
    (fun w h0 hw => (rst_yes j h bl pd s hd h1.2.2.1 h1.2.1 hp hyes w (hs w h0).1 (hs w h0).2 hw).mono fun e w' ⟨g1, g2⟩ => ⟨(), g1, g2⟩) fun _ => kk
theorem JL.jrecs (v : Jv h bl recs) (hd : DkOk h.x bl pd) (e1 : ev E x1 = some (Pt j 0)) (hn : Nat.blt d n = true)
    (kk : ∀ z : GrOf recs h.size, JL Tryz.prog n w0 S ops Q l ((d, z.1.v) :: E) (z.1.E ++ (jnE j h bl pd ++ M))) : JL Tryz.prog n w0 S ops Q (⟨some d, .call ⟨.value (.func 67), #[x1], ats⟩, ty, pos, aft, none⟩ :: l) E (jnE j h bl pd ++ M) :=
  JL.callg (xs := [x1]) (ι := GrOf recs h.size) (vs := [Pt j 0]) (fun z => z.1.v) (fun z => z.1.E) goes_recs (by simp [evs, e1]) hn (fun z => z.1.wr)
    (fun w hw => by have := recs_any j h bl pd hd.ok hd.n1 v.fs.1 w (jnR_of hw); rwa [v.told] at this) kk
end
/-- what a journal is that is opened -/
theorem Jv.opn {x : Dp} {bl : List Bk} (hb : ∀ b ∈ bl, b.length = 64) (n5 : bl.length ≤ 65536) (hno : noOpen bl = 0) : Jv (opnJ x bl) (opnD bl) (curF bl).2.2 := by
  have h4 : ¬ bl.length < 4 := fun h => by unfold noOpen at hno; rw [if_pos h] at hno; cases hno
  have hg : ¬ gm bl = 4294967295#32 := fun h => by unfold noOpen at hno; rw [if_neg h4, if_pos h] at hno; cases hno
  have ⟨h1, h2, h3⟩ := curF_room (bl := bl) hb (by omega)
  have hf : bl.length / 2 - (curF bl).1 = 0 ∨ bl.length / 2 - (curF bl).1 = bl.length / 2 := by
    unfold curF
    split
    · right; rfl
    · split
      · left; exact Nat.sub_self _
      · left; exact Nat.sub_self _
  exact Jv.beg (x := sync0 x) (by omega) n5 rfl hf h1 (fun e => by rw [e] at h2; cases h2) hg
theorem Jv.no (h : Hf) (bl recs : List Bk) (v : Jv h bl recs) (hg : h.g.toNat < 4294967295) : noOpen bl = 0 := by
  have := v.gm_le
  have h4 := v.n4
  unfold noOpen
  rw [if_neg (by omega), if_neg (fun e => by rw [e] at this; rw [show (4294967295#32).toNat = 4294967295 from rfl] at this; omega)]
theorem gm_succ {bl : List Bk} {m : Nat} (h : (gm bl).toNat ≤ m) (hm : m < 4294967295) : (gm bl + 1#32).toNat ≤ m + 1 := by
  rw [BitVec.toNat_add, show (1#32).toNat = 1 from rfl]
  omega
theorem told_none {g : BitVec 32} {bs : List Bk} (h : ∀ b ∈ bs, wholeB b = false) : told g bs = [] := by
  unfold told toldN
  have : rd g 0 bs 0 [] = none := by
    cases bs with
    | nil => rfl
    | cons b bs => rw [rd, if_neg (fun hh => by rw [h b (by simp)] at hh; cases hh.1)]
  rw [this]
theorem zero_whole : wholeB zero = false := by kernel_rfl
theorem zero_below : Below 1 zero := ⟨by decide, by decide⟩
theorem newB_mem {n : Nat} : ∀ b ∈ newB n, b = zero := fun b hb => List.eq_of_mem_replicate hb
theorem newB_cur (n : Nat) : (curF (newB n)).2.2 = [[]] ∧ (gm (newB n)).toNat = 0 := by
  have h0 : ∀ f, genH (newB n) f = 0 := fun f => by
    unfold genH
    rw [if_pos]
    unfold recH toldH
    rw [told_none]
    · rfl
    · intro b hb
      unfold bsOf at hb
      rw [newB_mem b (List.mem_of_mem_drop (List.mem_of_mem_take (List.mem_of_mem_drop hb)))]
      exact zero_whole
  refine ⟨?_, ?_⟩
  · unfold curF
    rw [h0, h0, if_neg (by decide), if_neg (by decide)]
  · have := gm_lt (m := 1) (bl := newB n) (by decide) fun b hb => by rw [newB_mem b hb]; exact zero_below
    omega
theorem newB_no {n : Nat} (h : 4 ≤ n) : noOpen (newB n) = 0 := by
  have := (newB_cur n).2
  unfold noOpen
  rw [if_neg (by rw [newB_len]; omega), if_neg (fun e => by rw [e] at this; cases this)]
theorem DkOk.opn {x : Dp} {bl : List Bk} {pd : List (Nat × Bk)} (hd : DkOk x bl pd) (hno : noOpen bl = 0) : DkOk (opnJ x bl).x (opnD bl) [] := by
  have h4 : ¬ bl.length < 4 := fun h => by unfold noOpen at hno; rw [if_pos h] at hno; cases hno
  have ⟨h1, h2, h3⟩ := curF_room (bl := bl) hd.ok.b (by omega)
  have := hd.n1
  exact hd.put (by rw [allB_len]; omega) fun b hb => (allB_mark _ _ (by omega) b hb).2.2
theorem DkOk.app {h : Hf} {bl recs : List Bk} {pd : List (Nat × Bk)} (hd : DkOk h.x bl pd) (v : Jv h bl recs) {l : Bk} (hf : nb l.length ≤ h.size - h.used) : DkOk (appJ h l).x (appD h bl l) [] := by
  have h1 := v.fs; have h2 := v.r; have h3 := v.u
  exact hd.put (by rw [blks_len]; omega) fun b hb => (blks_mark (by omega) b hb).2.2
theorem DkOk.rst {h : Hf} {bl recs : List Bk} {pd : List (Nat × Bk)} (hd : DkOk h.x bl pd) (v : Jv h bl recs) {l : Bk} (hf : ¬ noRst h bl l.length) : DkOk (rstJ h bl l).x (rstD h bl l) [] := by
  have h1 := v.fs
  have hfit : nb l.length ≤ h.size := Nat.le_of_not_lt fun e => hf (.inl e)
  have hr : room [l] = nb l.length := by simp [room]
  exact hd.put (by rw [allB_len, hr]; omega) fun b hb => (allB_mark _ _ (by omega) b hb).2.2
theorem Jv.rst {h : Hf} {bl recs : List Bk} (v : Jv h bl recs) {l : Bk} (hf : ¬ noRst h bl l.length) : Jv (rstJ h bl l) (rstD h bl l) [l] := by
  have h1 := v.fs
  have hfit : nb l.length ≤ h.size := Nat.le_of_not_lt fun e => hf (.inl e)
  have hr : room [l] = nb l.length := by simp [room]
  exact Jv.beg (x := sync0 h.x) v.n4 v.n5 v.n (by show h.size - h.first = 0 ∨ h.size - h.first = h.size; rcases v.f with e | e <;> omega) (by rw [hr]; exact hfit) (by simp) (fun e => hf (.inr e))
end Go.Proofs.YtjkncnbpaejamaaGreatDoor

/-
  Of no statement by itself: package bytes: Equal, HasPrefix, HasSuffix, TrimPrefix, Clone.
  Conditions: each theorem's own.
-/
namespace Go.Proofs.YtjkncnbpaejamaaGreatDoor
set_option maxRecDepth 10000
open Sl
theorem OQ.isNil {P : Program} {n : Nat} {E : Env} {C : World → Prop} {dst : Option Tmp} {t t' ty e : TypeId} {pos : String} {aft : Array Edge} {g : Option (Nat × Bool)} {x y : Operand} {ad : Option Addr} {k cap : Nat} (hu : P.underlying t = some (.slice e)) (hx : ev E x = some (.slice ad k cap)) (hy : ev E y = some (.slice none 0 0)) :
    OQ P n E C ⟨dst, .binOp .eql t x y t', ty, pos, aft, g⟩ (.bool ad.isNone) :=
  OQ.run fun c ha w _ => by
    have h1 := ha.eval hx
    have h2 := ha.eval hy
    have h4 : (binOp .eql t (.slice ad k cap) (.slice none 0 0)).run P w = .ok (.bool ad.isNone) w := by
      show (do pure (.bool (← Op.equal t (.slice ad k cap) (.slice none 0 0))) : Sem Value).run P w = _
      simp [Sem.run_bind, run_equal_slice_nil w t e ad k cap hu]
    simp [execOp, h1, h2, eqGuard, h4]
theorem goes_clone : Goes Tryz.prog 48 := ⟨_, Tryz.func48, rfl, by kernel_rfl⟩
set_option maxHeartbeats 4000000 in
theorem clone_any (s : Sl8) (w : World) (hs : s.ok w) (hl : s.l.length ≤ 4294967296) : Calls Tryz.prog 48 [s.v].toArray w fun e w' => ∃ q : Acc, e = .returned (accV q s.l.length) ∧ (q = none → s.l = []) ∧ Holds w [] (accE 5 q (s.l.map U8)) w' := by
  refine enter (n := 8) Tryz.func48 rfl rfl rfl (Holds.start w []) ?_
  obtain ⟨ad, cap, l⟩ := s
  cases ad with
  | none =>
    have h0 : l = [] := by
      cases l with
      | nil => rfl
      | cons c l =>
        obtain ⟨b, j, h1, _⟩ := hs.reads.at (by simp)
        cases h1
    repeat (first | refine JL.q (by first | (apply OQ.isNil; exact Tryz.underlying24; exact rfl; exact rfl) | (apply OQ.move; exact rfl) | (apply OQ.assign; exact rfl)) rfl ?_ | refine JC.seq ?_ | refine JC.region ?_ | refine JL.nil ?_ | refine JE.next ?_)
    refine JC.cond_true rfl rfl ?_
    repeat (first | refine JL.q (by (apply OQ.assign; exact rfl)) rfl ?_ | refine JC.seq ?_ | refine JC.region ?_ | refine JL.nil ?_ | refine JE.next ?_)
    refine JC.ret ?_
    repeat (refine JE.then_ret ?_)
    exact JE.ret1 rfl (RV.tmp rfl) fun w' hw => ⟨none, rfl, fun _ => h0, hw⟩
  | some ad =>
    repeat (first | refine JL.q (by first | (apply OQ.isNil; exact Tryz.underlying24; exact rfl; exact rfl) | (apply OQ.move; exact rfl) | (apply OQ.assign; exact rfl)) rfl ?_ | refine JC.seq ?_ | refine JC.region ?_ | refine JL.nil ?_ | refine JE.next ?_)
    refine JC.cond_false rfl rfl ?_
    repeat (first | refine JC.seq ?_ | refine JC.region ?_ | refine JC.skip ?_ | refine JE.next ?_)
    refine JL.lit0O Tryz.underlying24 u8e rfl fun b0 _ => ?_
    repeat (refine JL.q (by (apply OQ.move; exact rfl)) rfl ?_)
    refine JL.append (cs := l.map U8) (m := l.length) (ad := some ad) (sc := cap) (xs := []) (fun b' cap' => [⟨b', Sl.Own 5 1 (0 + l.length) cap' ([] ++ l.map U8), true⟩]) Tryz.underlying24 u8e rfl rfl (by intro _ _; repeat (first | exact Repl.here | apply Repl.there)) (by simp) (fun w' hw' => (hs.holds hw' rfl).reads) (all8U _) rfl (by decide) (by simp only [] at hl; omega) (by simp only [] at hl; omega) rfl fun b1 cap1 => ?_
    rw [Nat.zero_add, List.nil_append]
    repeat (first | refine JL.q (by (apply OQ.assign; exact rfl)) rfl ?_ | refine JL.nil ?_ | refine JE.next ?_)
    refine JC.ret (JE.ret1 rfl (RV.tmp rfl) fun w' hw => ⟨some (b1, cap1), rfl, (fun h => by cases h), ?_⟩)
    show Holds w [] [⟨b1, Sl.Own 5 1 (l.map U8).length cap1 (l.map U8), true⟩] w'
    rw [List.length_map]
    exact hw
end Go.Proofs.YtjkncnbpaejamaaGreatDoor

/-
  Of no statement by itself: pairs as bytes, values by rising keys, by definition; what is written is read.
  Conditions: each theorem's own.
-/
namespace Go.Proofs.YtjkncnbpaejamaaGreatDoor
namespace Sto
open Dsk Jrn
structure Pq where
  key : Bk
  val : Bk
  gone : Bool
def okP (p : Pq) : Bool := decide (1 ≤ p.key.length) && (decide (p.key.length ≤ 1000) && !(p.gone && decide (0 < p.val.length)))
def okL (l : List Pq) : Bool := l.all okP
def encP (p : Pq) : Bk := (if p.gone then 1#8 else 0#8) :: (be (BitVec.ofNat 32 p.key.length) 2 ++ p.key ++ be (BitVec.ofNat 32 p.val.length) 4 ++ p.val)
def encL (l : List Pq) : Bk := l.flatMap encP
def cntd (b : Bk) (size : Nat) : Option (Bk × Bk) :=
  if b.length < size then none else if (b.drop size).length < numB (b.take size) then none else some ((b.drop size).take (numB (b.take size)), (b.drop size).drop (numB (b.take size)))
def fstP : Bk → Option (Pq × Bk)
  | [] => none
  | s :: b => match cntd b 2 with
    | none => none
    | some (k, r) => match cntd r 4 with
      | none => none
      | some (v, r') => if s.toNat ≤ 1 ∧ okP ⟨k, v, decide (s.toNat = 1)⟩ = true then some (⟨k, v, decide (s.toNat = 1)⟩, r') else none
def decF : Nat → Bk → Option (List Pq)
  | _, [] => some []
  | 0, _ :: _ => none
  | f + 1, b :: bs => match fstP (b :: bs) with
    | none => none
    | some (p, r) => (decF f r).map (p :: ·)
def dec (b : Bk) : Option (List Pq) := decF b.length b
theorem cntd_len {b k r : Bk} {s : Nat} (h : cntd b s = some (k, r)) : b.length = s + k.length + r.length ∧ b = b.take s ++ k ++ r := by
  unfold cntd at h
  split at h
  · cases h
  · split at h
    · cases h
    · cases h
      refine ⟨?_, ?_⟩
      · simp only [List.length_take, List.length_drop] at *
        omega
      · rw [List.append_assoc, List.take_append_drop, List.take_append_drop]
theorem fstP_some {b r : Bk} {p : Pq} (h : fstP b = some (p, r)) : okP p = true ∧ p.key.length + p.val.length + 7 + r.length = b.length := by
  cases b with
  | nil => cases h
  | cons s b =>
    rw [fstP] at h
    split at h
    · cases h
    · next k r1 h1 =>
      split at h
      · cases h
      · next v r2 h2 =>
        split at h
        · next h3 =>
          cases h
          have := (cntd_len h1).1
          have := (cntd_len h2).1
          refine ⟨h3.2, ?_⟩
          simp only [List.length_cons]
          omega
        · cases h
theorem decF_more : ∀ (f g : Nat) (b : Bk), b.length ≤ f → b.length ≤ g → decF f b = decF g b
  | _, _, [], _, _ => by simp [decF]
  | 0, _, _ :: _, h, _ => by simp at h
  | _, 0, _ :: _, _, h => by simp at h
  | f + 1, g + 1, b :: bs, h1, h2 => by
    rw [decF, decF]
    cases h : fstP (b :: bs) with
    | none => rfl
    | some pr =>
      obtain ⟨p, r⟩ := pr
      have := (fstP_some h).2
      simp only [List.length_cons] at this h1 h2
      dsimp only
      rw [decF_more f g r (by omega) (by omega)]
theorem dec_nil : dec [] = some [] := rfl
theorem dec_step {b : Bk} (h : b ≠ []) : dec b = match fstP b with | none => none | some (p, r) => (dec r).map (p :: ·) := by
  cases b with
  | nil => exact absurd rfl h
  | cons c bs =>
    unfold dec
    rw [List.length_cons, decF]
    cases h : fstP (c :: bs) with
    | none => rfl
    | some pr =>
      obtain ⟨p, r⟩ := pr
      have := (fstP_some h).2
      simp only [List.length_cons] at this
      dsimp only
      rw [decF_more bs.length r.length r (by omega) (Nat.le_refl _)]
theorem cntd_be2 {k r : Bk} (h : k.length < 65536) : cntd (be (BitVec.ofNat 32 k.length) 2 ++ k ++ r) 2 = some (k, r) := by
  have e1 : (be (BitVec.ofNat 32 k.length) 2 ++ k ++ r).take 2 = be (BitVec.ofNat 32 k.length) 2 := by rw [List.append_assoc, List.take_left' (be_len _ _)]
  have e2 : (be (BitVec.ofNat 32 k.length) 2 ++ k ++ r).drop 2 = k ++ r := by rw [List.append_assoc, List.drop_left' (be_len _ _)]
  unfold cntd
  rw [if_neg (by simp only [List.length_append, be_len]; omega), e1, e2, numB_be2 h, if_neg (by simp), List.take_left' rfl, List.drop_left' rfl]
theorem cntd_be4 {k r : Bk} (h : k.length < 4294967296) : cntd (be (BitVec.ofNat 32 k.length) 4 ++ k ++ r) 4 = some (k, r) := by
  have e1 : (be (BitVec.ofNat 32 k.length) 4 ++ k ++ r).take 4 = be (BitVec.ofNat 32 k.length) 4 := by rw [List.append_assoc, List.take_left' (be_len _ _)]
  have e2 : (be (BitVec.ofNat 32 k.length) 4 ++ k ++ r).drop 4 = k ++ r := by rw [List.append_assoc, List.drop_left' (be_len _ _)]
  unfold cntd
  rw [if_neg (by simp only [List.length_append, be_len]; omega), e1, e2, numB_be4 h, if_neg (by simp), List.take_left' rfl, List.drop_left' rfl]
theorem okP_len {p : Pq} (h : okP p = true) : 1 ≤ p.key.length ∧ p.key.length ≤ 1000 ∧ (p.gone = true → p.val = []) := by
  unfold okP at h
  simp only [Bool.and_eq_true, decide_eq_true_eq, Bool.not_eq_true', Bool.and_eq_false_iff, decide_eq_false_iff_not] at h
  refine ⟨h.1, h.2.1, fun hg => ?_⟩
  rcases h.2.2 with h2 | h2
  · rw [hg] at h2; cases h2
  · exact List.length_eq_zero_iff.1 (by omega)
theorem fstP_enc {p : Pq} {r : Bk} (h : okP p = true) (hv : p.val.length < 4294967296) : fstP (encP p ++ r) = some (p, r) := by
  obtain ⟨key, val, gone⟩ := p
  have h1 := okP_len h
  unfold encP
  dsimp only at *
  rw [List.cons_append, fstP]
  rw [show be (BitVec.ofNat 32 key.length) 2 ++ key ++ be (BitVec.ofNat 32 val.length) 4 ++ val ++ r = be (BitVec.ofNat 32 key.length) 2 ++ key ++ (be (BitVec.ofNat 32 val.length) 4 ++ val ++ r) by simp [List.append_assoc], cntd_be2 (by omega)]
  dsimp only
  rw [cntd_be4 hv]
  dsimp only
  cases gone
  · simp only [Bool.false_eq_true, if_false]
    rw [show decide ((0#8).toNat = 1) = false from rfl, if_pos ⟨by decide, h⟩]
  · simp only [if_true]
    rw [show decide ((1#8).toNat = 1) = true from rfl, if_pos ⟨by decide, h⟩]
theorem encP_ne (p : Pq) (r : Bk) : encP p ++ r ≠ [] := by unfold encP; simp
theorem dec_enc : ∀ {l : List Pq}, okL l = true → (∀ p ∈ l, p.val.length < 4294967296) → dec (encL l) = some l
  | [], _, _ => rfl
  | p :: l, h, hv => by
    unfold okL at h
    rw [List.all_cons, Bool.and_eq_true] at h
    have ih := dec_enc (l := l) h.2 fun q hq => hv q (by simp [hq])
    have e : encL (p :: l) = encP p ++ encL l := rfl
    rw [e, dec_step (encP_ne p _), fstP_enc h.1 (hv p (by simp))]
    dsimp only
    rw [ih]
    rfl
theorem encP_len (p : Pq) : (encP p).length = 7 + p.key.length + p.val.length := by
  unfold encP
  simp only [List.length_cons, List.length_append, be_len]
  omega
theorem dec_ok : ∀ {l : List Pq} {b : Bk}, dec b = some l → okL l = true ∧ (l.map fun p => 7 + p.key.length + p.val.length).sum = b.length
  | l, [], h => by
    rw [dec_nil, Option.some.injEq] at h
    subst h
    exact ⟨rfl, rfl⟩
  | l, c :: bs, h => by
    rw [dec_step (by simp)] at h
    cases hf : fstP (c :: bs) with
    | none => rw [hf] at h; cases h
    | some pr =>
      obtain ⟨p, r⟩ := pr
      rw [hf] at h
      dsimp only at h
      have h1 := fstP_some hf
      have hlt : r.length < (c :: bs).length := by omega
      cases hd : dec r with
      | none => rw [hd] at h; cases h
      | some l' =>
        rw [hd] at h
        cases h
        have ih := dec_ok (b := r) hd
        refine ⟨?_, ?_⟩
        · unfold okL
          rw [List.all_cons, h1.1, Bool.true_and]
          exact ih.1
        · simp only [List.map_cons, List.sum_cons]
          omega
termination_by _ b => b.length
/-! ### values by rising keys -/
abbrev VL := List (Bk × Bk)
/-- of two rows of bytes the first one stands ahead -/
def klt : Bk → Bk → Bool
  | [], [] => false
  | [], _ :: _ => true
  | _ :: _, [] => false
  | a :: l, b :: r => if a.toNat < b.toNat then true else if b.toNat < a.toNat then false else klt l r
theorem klt_irrefl : ∀ (a : Bk), klt a a = false
  | [] => rfl
  | a :: l => by rw [klt, if_neg (Nat.lt_irrefl _), if_neg (Nat.lt_irrefl _), klt_irrefl l]
theorem klt_trans : ∀ {a b c : Bk}, klt a b = true → klt b c = true → klt a c = true
  | [], [], _, h, _ => by cases h
  | [], _ :: _, [], _, h => by cases h
  | [], _ :: _, _ :: _, _, _ => rfl
  | _ :: _, [], _, h, _ => by cases h
  | _ :: _, _ :: _, [], _, h => by cases h
  | a :: l, b :: r, c :: t, h1, h2 => by
    rw [klt] at h1 h2 ⊢
    split at h1
    · split at h2
      · rw [if_pos (by omega)]
      · split at h2
        · cases h2
        · rw [if_pos (by omega)]
    · split at h1
      · cases h1
      · split at h2
        · rw [if_pos (by omega)]
        · split at h2
          · cases h2
          · rw [if_neg (by omega), if_neg (by omega)]
            exact klt_trans h1 h2
theorem klt_total : ∀ (a b : Bk), a ≠ b → klt a b = false → klt b a = true
  | [], [], h, _ => absurd rfl h
  | [], _ :: _, _, h => by cases h
  | _ :: _, [], _, _ => rfl
  | a :: l, b :: r, h, h1 => by
    rw [klt] at h1 ⊢
    split at h1
    · cases h1
    · split at h1
      · rw [if_pos (by omega)]
      · have e : a = b := BitVec.eq_of_toNat_eq (by omega)
        rw [if_neg (by omega), if_neg (by omega)]
        exact klt_total l r (fun hh => h (by rw [e, hh])) h1
theorem klt_asymm {a b : Bk} (h : klt a b = true) : klt b a = false := by
  cases h2 : klt b a with
  | false => rfl
  | true => have := klt_trans h h2; rw [klt_irrefl] at this; cases this
theorem klt_ne {a b : Bk} (h : klt a b = true) : a ≠ b := fun e => by rw [e, klt_irrefl] at h; cases h
def insV (k v : Bk) : VL → VL
  | [] => [(k, v)]
  | p :: vs => if klt p.1 k then p :: insV k v vs else if p.1 = k then (k, v) :: vs else (k, v) :: p :: vs
def delV (k : Bk) : VL → VL
  | [] => []
  | p :: vs => if klt p.1 k then p :: delV k vs else if p.1 = k then vs else p :: vs
def doV (vs : VL) (p : Pq) : VL := if p.gone then delV p.key vs else insV p.key p.val vs
def doL (vs : VL) (l : List Pq) : VL := l.foldl doV vs
def Srt (vs : VL) : Prop := vs.Pairwise fun p q => klt p.1 q.1 = true
theorem Srt.keys {vs : VL} (h : Srt vs) : (vs.map Prod.fst).Nodup := by
  unfold List.Nodup
  rw [List.pairwise_map]
  exact h.imp fun h => klt_ne h
theorem insV_mem {k v : Bk} {q : Bk × Bk} : ∀ {vs : VL}, q ∈ insV k v vs → q = (k, v) ∨ q ∈ vs
  | [], h => by simpa [insV] using h
  | p :: vs, h => by
    rw [insV] at h
    split at h
    · rcases List.mem_cons.1 h with rfl | h
      · simp
      · rcases insV_mem h with h | h <;> simp [h]
    · split at h
      · rcases List.mem_cons.1 h with h | h <;> simp [h]
      · rcases List.mem_cons.1 h with h | h
        · simp [h]
        · exact .inr h
theorem insV_srt {k v : Bk} : ∀ {vs : VL}, Srt vs → Srt (insV k v vs)
  | [], _ => by simp [insV, Srt]
  | p :: vs, h => by
    obtain ⟨h1, h2⟩ := List.pairwise_cons.1 h
    rw [insV]
    split
    · next hk =>
      refine List.pairwise_cons.2 ⟨fun q hq => ?_, insV_srt h2⟩
      rcases insV_mem hq with rfl | hq
      · exact hk
      · exact h1 q hq
    · next hk =>
      split
      · next he =>
        refine List.pairwise_cons.2 ⟨fun q hq => ?_, h2⟩
        have := h1 q hq
        rw [he] at this
        exact this
      · next he =>
        have hlt := klt_total _ _ he (by simpa using hk)
        refine List.pairwise_cons.2 ⟨fun q hq => ?_, h⟩
        rcases List.mem_cons.1 hq with rfl | hq
        · exact hlt
        · exact klt_trans hlt (h1 q hq)
theorem delV_sub (k : Bk) : ∀ (vs : VL), (delV k vs).Sublist vs
  | [] => .slnil
  | p :: vs => by
    rw [delV]
    split
    · exact (delV_sub k vs).cons_cons _
    · split
      · exact List.sublist_cons_self _ _
      · exact List.Sublist.refl _
theorem delV_srt {k : Bk} {vs : VL} (h : Srt vs) : Srt (delV k vs) := h.sublist (delV_sub k vs)
theorem doV_srt {vs : VL} {p : Pq} (h : Srt vs) : Srt (doV vs p) := by
  unfold doV
  split
  · exact delV_srt h
  · exact insV_srt h
theorem doL_srt : ∀ {l : List Pq} {vs : VL}, Srt vs → Srt (doL vs l)
  | [], _, h => h
  | p :: l, vs, h => doL_srt (l := l) (doV_srt (p := p) h)
theorem filter_off {k : Bk} {vs : VL} (h : ∀ q ∈ vs, q.1 ≠ k) : vs.filter (fun q => decide (q.1 ≠ k)) = vs := List.filter_eq_self.2 fun q hq => decide_eq_true (h q hq)
theorem srt_off {k : Bk} {p : Bk × Bk} {vs : VL} (h : Srt (p :: vs)) (hk : klt p.1 k = false) : ∀ q ∈ vs, q.1 ≠ k := fun q hq e => by
  have h1 := (List.pairwise_cons.1 h).1 q hq
  rw [e, hk] at h1
  cases h1
theorem insV_perm {k v : Bk} : ∀ {vs : VL}, Srt vs → (insV k v vs).Perm ((k, v) :: vs.filter fun q => decide (q.1 ≠ k))
  | [], _ => .refl _
  | p :: vs, h => by
    obtain ⟨h1, h2⟩ := List.pairwise_cons.1 h
    rw [insV]
    split
    · next hk =>
      rw [List.filter_cons_of_pos (by simpa using klt_ne hk)]
      exact (List.Perm.cons _ (insV_perm h2)).trans (List.Perm.swap _ _ _)
    · next hk =>
      split
      · next he =>
        rw [List.filter_cons_of_neg (by simp [he]), filter_off (srt_off h (by simpa using hk))]
      · next he =>
        rw [List.filter_cons_of_pos (by simpa using he), filter_off (srt_off h (by simpa using hk))]
theorem delV_filter {k : Bk} : ∀ {vs : VL}, Srt vs → delV k vs = vs.filter fun q => decide (q.1 ≠ k)
  | [], _ => rfl
  | p :: vs, h => by
    obtain ⟨h1, h2⟩ := List.pairwise_cons.1 h
    rw [delV]
    split
    · next hk => rw [List.filter_cons_of_pos (by simpa using klt_ne hk), delV_filter h2]
    · next hk =>
      split
      · next he => rw [List.filter_cons_of_neg (by simp [he]), filter_off (srt_off h (by simpa using hk))]
      · next he => rw [List.filter_cons_of_pos (by simpa using he), filter_off (srt_off h (by simpa using hk))]
/-- what stands at a key -/
def getV (vs : VL) (k : Bk) : Option Bk := (vs.find? fun q => decide (q.1 = k)).map Prod.snd
theorem getV_mem {vs : VL} (h : (vs.map Prod.fst).Nodup) {k v : Bk} : getV vs k = some v ↔ (k, v) ∈ vs := by
  induction vs with
  | nil => simp [getV]
  | cons p vs ih =>
    obtain ⟨h1, h2⟩ := List.nodup_cons.1 (by simpa using h : (p.1 :: vs.map Prod.fst).Nodup)
    unfold getV at ih ⊢
    rw [List.find?_cons]
    by_cases hp : p.1 = k
    · rw [decide_eq_true hp]
      simp only [Option.map_some, Option.some.injEq, List.mem_cons]
      constructor
      · intro e; left; rw [← hp, ← e]
      · rintro (e | e)
        · rw [← e]
        · exact absurd (hp ▸ List.mem_map_of_mem (f := Prod.fst) e) h1
    · rw [decide_eq_false hp]
      simp only
      rw [ih h2, List.mem_cons]
      constructor
      · exact .inr
      · rintro (e | e)
        · exact absurd (by rw [← e]) hp
        · exact e
/-- the pairs that make values of nothing -/
def pairsV (vs : VL) : List Pq := vs.map fun p => ⟨p.1, p.2, false⟩
theorem insV_last {k v : Bk} : ∀ {vs : VL}, (∀ q ∈ vs, klt q.1 k = true) → insV k v vs = vs ++ [(k, v)]
  | [], _ => rfl
  | p :: vs, h => by rw [insV, if_pos (h p (by simp)), insV_last fun q hq => h q (by simp [hq])]; rfl
theorem doL_pairs : ∀ (vs ws : VL), Srt (ws ++ vs) → doL ws (pairsV vs) = ws ++ vs
  | [], ws, _ => by simp [doL, pairsV]
  | p :: vs, ws, h => by
    have e : doL ws (pairsV (p :: vs)) = doL (doV ws ⟨p.1, p.2, false⟩) (pairsV vs) := rfl
    have h' : Srt (ws ++ [p] ++ vs) := by simpa using h
    have hl : ∀ q ∈ ws, klt q.1 p.1 = true := fun q hq => (List.pairwise_append.1 h).2.2 q hq p (by simp)
    rw [e, show doV ws ⟨p.1, p.2, false⟩ = ws ++ [p] from insV_last hl, doL_pairs vs (ws ++ [p]) h']
    simp
theorem doL_nil {vs : VL} (h : Srt vs) : doL [] (pairsV vs) = vs := by simpa using doL_pairs vs [] (by simpa using h)
theorem doL_append (vs : VL) (a b : List Pq) : doL vs (a ++ b) = doL (doL vs a) b := by simp [doL]
/-- the values that records come to; none: one isn't pairs -/
def decAll : List Bk → Option (List Pq)
  | [] => some []
  | r :: rs => match dec r, decAll rs with
    | some l, some ls => some (l ++ ls)
    | _, _ => none
def valsOf (recs : List Bk) : Option VL := (decAll recs).map (doL [])
theorem decAll_append : ∀ (a b : List Bk), decAll (a ++ b) = match decAll a, decAll b with | some l, some m => some (l ++ m) | _, _ => none
  | [], b => by
    rw [List.nil_append, decAll]
    cases decAll b <;> rfl
  | r :: a, b => by
    rw [List.cons_append, decAll, decAll, decAll_append a b]
    cases dec r <;> cases decAll a <;> cases decAll b <;> simp
theorem decAll_one (r : Bk) : decAll [r] = dec r := by
  rw [decAll, decAll]
  cases dec r <;> simp
end Sto
end Go.Proofs.YtjkncnbpaejamaaGreatDoor

/-
  Of no statement by itself: rules for maps whose keys are texts: makes, looks, stores, deletes, ranges in whatever order; over X's partial knowledge of frame and memory, for any program P.
  Conditions: each rule's own hypotheses.
-/
namespace Go.Proofs.YtjkncnbpaejamaaGreatDoor
set_option maxRecDepth 10000
open Sl
/-- an entry: its key, its value, when it came -/
structure ME (α : Type) where
  key : List Bt
  val : α
  born : Nat
def ME.en {α : Type} (f : α → Value) (e : ME α) : MapEntry := ⟨Z e.key, f e.val, e.born⟩
/-- a map's block: its entries in the order in which they came; f tells how a value stands there -/
def MB {α : Type} (f : α → Value) (es : List (ME α)) (c : Nat) : Obj → Prop := fun o => o = .map (es.map (ME.en f)).toArray c
def IB (b : Nat) (since : Nat) (seen : List Nat) (last : Nat) : Obj → Prop := fun o => o = .mapIter (some b) since seen.toArray last
variable {α : Type}
def findM (k : List Bt) : List (ME α) → Nat → Option (Nat × α)
  | [], _ => none
  | e :: es, i => if k = e.key then some (i, e.val) else findM k es (i + 1)
def look (es : List (ME α)) (k : List Bt) : Option α := (findM k es 0).map Prod.snd
def putL (k : List Bt) (v : α) (c : Nat) : List (ME α) → List (ME α)
  | [] => [⟨k, v, c⟩]
  | e :: es => if k = e.key then ⟨k, v, e.born⟩ :: es else e :: putL k v c es
def putC (k : List Bt) (es : List (ME α)) (c : Nat) : Nat := if (look es k).isSome then c else c + 1
def delL (k : List Bt) : List (ME α) → List (ME α)
  | [] => []
  | e :: es => if k = e.key then es else e :: delL k es
structure WF {α : Type} (es : List (ME α)) (c : Nat) : Prop where
  keys : (es.map ME.key).Nodup
  borns : (es.map ME.born).Nodup
  lt : ∀ e ∈ es, e.born < c
theorem strB_inj {l r : List Bt} (h : strB l = strB r) : l = r := by rw [← bytesOf_strB l, h, bytesOf_strB]
theorem strB_beq (l r : List Bt) : (strB l == strB r) = decide (l = r) := by
  show ((l.map UInt8.ofBitVec).toArray == (r.map UInt8.ofBitVec).toArray) = _
  by_cases h : l = r
  · subst h; simp
  · rw [decide_eq_false h]
    refine beq_eq_false_iff_ne.2 fun e => h (strB_inj ?_)
    show (⟨(l.map UInt8.ofBitVec).toArray⟩ : ByteArray) = ⟨(r.map UInt8.ofBitVec).toArray⟩
    rw [e]
theorem findNow_str (f : α → Value) (k : List Bt) : ∀ (es : List (ME α)) (i : Nat), Instr.findNow .string (Z k) (es.map (ME.en f)) i = some ((findM k es i).map fun p => (p.1, f p.2))
  | [], i => rfl
  | e :: es, i => by
    rw [List.map_cons, Instr.findNow]
    have h : Instr.sameNow .string (Z k) (e.en f).key = some (decide (k = e.key)) := by
      show some (strB k == strB e.key) = _
      rw [strB_beq]
    rw [h, findM]
    by_cases hk : k = e.key
    · rw [decide_eq_true hk, if_pos hk]
      rfl
    · rw [decide_eq_false hk, if_neg hk]
      exact findNow_str f k es (i + 1)
theorem findM_shift (k : List Bt) : ∀ (es : List (ME α)) (i : Nat), findM k es i = (findM k es 0).map fun p => (p.1 + i, p.2)
  | [], i => rfl
  | e :: es, i => by
    rw [findM, findM]
    split
    · simp
    · rw [findM_shift k es (i + 1), findM_shift k es (0 + 1), Option.map_map]
      congr 1
      funext p
      simp only [Function.comp_apply, Prod.mk.injEq, and_true]
      omega
theorem findM_none {k : List Bt} : ∀ {es : List (ME α)} {i : Nat}, findM k es i = none ↔ k ∉ es.map ME.key
  | [], i => by simp [findM]
  | e :: es, i => by
    rw [findM]
    by_cases h : k = e.key
    · rw [if_pos h]; simp [h]
    · rw [if_neg h, findM_none]; simp [h]
theorem look_none {es : List (ME α)} {k : List Bt} : look es k = none ↔ k ∉ es.map ME.key := by
  unfold look
  rw [Option.map_eq_none_iff]
  exact findM_none
theorem look_cons (e : ME α) (es : List (ME α)) (k : List Bt) : look (e :: es) k = if k = e.key then some e.val else look es k := by
  unfold look
  rw [findM]
  split
  · rfl
  · rw [findM_shift, Option.map_map]; rfl
theorem putL_new {k : List Bt} {v : α} {c : Nat} : ∀ {es : List (ME α)} {i : Nat}, findM k es i = none → putL k v c es = es ++ [⟨k, v, c⟩]
  | [], _, _ => rfl
  | e :: es, i, h => by
    rw [findM] at h
    by_cases hk : k = e.key
    · rw [if_pos hk] at h; cases h
    · rw [if_neg hk] at h
      rw [putL, if_neg hk, putL_new h]; rfl
theorem putL_old (f : α → Value) {k : List Bt} {v u : α} {c : Nat} : ∀ {es : List (ME α)} {i j : Nat}, findM k es i = some (j, u) → i ≤ j ∧ j - i < es.length ∧ (es.map (ME.en f)).modify (j - i) (fun e => { e with key := Z k, val := f v }) = (putL k v c es).map (ME.en f)
  | e :: es, i, j, h => by
    rw [findM] at h
    by_cases hk : k = e.key
    · rw [if_pos hk, Option.some.injEq, Prod.mk.injEq] at h
      obtain ⟨rfl, rfl⟩ := h
      rw [putL, if_pos hk]
      simp [ME.en]
    · rw [if_neg hk] at h
      obtain ⟨h1, h2, h3⟩ := putL_old f (v := v) (c := c) h
      rw [putL, if_neg hk]
      refine ⟨by omega, by rw [List.length_cons]; omega, ?_⟩
      rw [show j - i = (j - (i + 1)) + 1 by omega, List.map_cons, List.modify_succ_cons, h3, List.map_cons]
theorem delL_new {k : List Bt} : ∀ {es : List (ME α)} {i : Nat}, findM k es i = none → delL k es = es
  | [], _, _ => rfl
  | e :: es, i, h => by
    rw [findM] at h
    by_cases hk : k = e.key
    · rw [if_pos hk] at h; cases h
    · rw [if_neg hk] at h
      rw [delL, if_neg hk, delL_new h]
theorem delL_old (f : α → Value) {k : List Bt} {u : α} : ∀ {es : List (ME α)} {i j : Nat}, findM k es i = some (j, u) → i ≤ j ∧ j - i < es.length ∧ (es.map (ME.en f)).eraseIdx (j - i) = (delL k es).map (ME.en f)
  | e :: es, i, j, h => by
    rw [findM] at h
    by_cases hk : k = e.key
    · rw [if_pos hk, Option.some.injEq, Prod.mk.injEq] at h
      obtain ⟨rfl, rfl⟩ := h
      rw [delL, if_pos hk]
      simp
    · rw [if_neg hk] at h
      obtain ⟨h1, h2, h3⟩ := delL_old f h
      rw [delL, if_neg hk]
      refine ⟨by omega, by rw [List.length_cons]; omega, ?_⟩
      rw [show j - i = (j - (i + 1)) + 1 by omega, List.map_cons, List.eraseIdx_cons_succ, h3, List.map_cons]
theorem putL_keys (k : List Bt) (v : α) (c : Nat) : ∀ (es : List (ME α)), (putL k v c es).map ME.key = if k ∈ es.map ME.key then es.map ME.key else es.map ME.key ++ [k]
  | [] => by simp [putL]
  | e :: es => by
    rw [putL]
    by_cases h : k = e.key
    · rw [if_pos h, if_pos (by simp [h])]; simp [h]
    · rw [if_neg h, List.map_cons, putL_keys k v c es]
      by_cases h2 : k ∈ es.map ME.key
      · rw [if_pos h2, if_pos (by simp only [List.map_cons, List.mem_cons]; exact .inr h2)]; rfl
      · rw [if_neg h2, if_neg (by simp only [List.map_cons, List.mem_cons, not_or]; exact ⟨h, h2⟩)]; rfl
theorem putL_borns (k : List Bt) (v : α) (c : Nat) : ∀ (es : List (ME α)), (putL k v c es).map ME.born = if k ∈ es.map ME.key then es.map ME.born else es.map ME.born ++ [c]
  | [] => by simp [putL]
  | e :: es => by
    rw [putL]
    by_cases h : k = e.key
    · rw [if_pos h, if_pos (by simp [h])]; simp
    · rw [if_neg h, List.map_cons, putL_borns k v c es]
      by_cases h2 : k ∈ es.map ME.key
      · rw [if_pos h2, if_pos (by simp only [List.map_cons, List.mem_cons]; exact .inr h2)]; rfl
      · rw [if_neg h2, if_neg (by simp only [List.map_cons, List.mem_cons, not_or]; exact ⟨h, h2⟩)]; rfl
theorem delL_sub (k : List Bt) : ∀ (es : List (ME α)), (delL k es).Sublist es
  | [] => .slnil
  | e :: es => by
    rw [delL]
    split
    · exact List.sublist_cons_self _ _
    · exact (delL_sub k es).cons_cons _
theorem WF.nil : WF ([] : List (ME α)) 0 := ⟨.nil, .nil, nofun⟩
theorem WF.put {es : List (ME α)} {c : Nat} (h : WF es c) (k : List Bt) (v : α) : WF (putL k v c es) (putC k es c) := by
  have hl : (look es k).isSome = decide (k ∈ es.map ME.key) := by
    by_cases hk : k ∈ es.map ME.key
    · rw [decide_eq_true hk]
      cases he : look es k with
      | none => exact absurd hk (look_none.1 he)
      | some v => rfl
    · rw [decide_eq_false hk, look_none.2 hk]; rfl
  unfold putC
  rw [hl]
  by_cases hk : k ∈ es.map ME.key
  · rw [decide_eq_true hk, if_pos rfl]
    refine ⟨by rw [putL_keys, if_pos hk]; exact h.keys, by rw [putL_borns, if_pos hk]; exact h.borns, fun e he => ?_⟩
    have := List.mem_map_of_mem (f := ME.born) he
    rw [putL_borns, if_pos hk] at this
    obtain ⟨e', h1, h2⟩ := List.mem_map.1 this
    rw [← h2]
    exact h.lt e' h1
  · rw [decide_eq_false hk, if_neg (by simp)]
    refine ⟨?_, ?_, fun e he => ?_⟩
    · rw [putL_keys, if_neg hk]
      exact List.nodup_append.2 ⟨h.keys, by simp, fun a ha b hb e => hk (by rw [List.mem_singleton.1 hb] at e; exact e ▸ ha)⟩
    · rw [putL_borns, if_neg hk]
      refine List.nodup_append.2 ⟨h.borns, by simp, fun a ha b hb e => ?_⟩
      obtain ⟨e', h1, h2⟩ := List.mem_map.1 ha
      have := h.lt e' h1
      rw [List.mem_singleton.1 hb] at e
      omega
    · have := List.mem_map_of_mem (f := ME.born) he
      rw [putL_borns, if_neg hk, List.mem_append] at this
      rcases this with h1 | h1
      · obtain ⟨e', h1, h2⟩ := List.mem_map.1 h1
        have := h.lt e' h1
        omega
      · rw [List.mem_singleton.1 h1]; omega
theorem WF.del {es : List (ME α)} {c : Nat} (h : WF es c) (k : List Bt) : WF (delL k es) c :=
  ⟨h.keys.sublist ((delL_sub k es).map _), h.borns.sublist ((delL_sub k es).map _), fun e he => h.lt e ((delL_sub k es).subset he)⟩
/-! ### as rows of pairs: which is which doesn't hang on the order -/
theorem putL_perm (k : List Bt) (v : α) (c : Nat) : ∀ (es : List (ME α)), (es.map ME.key).Nodup → ((putL k v c es).map fun e => (e.key, e.val)).Perm ((k, v) :: (es.filter fun e => decide (e.key ≠ k)).map fun e => (e.key, e.val))
  | [], _ => .refl _
  | e :: es, h => by
    obtain ⟨h1, h2⟩ := List.nodup_cons.1 (by simpa using h : (e.key :: es.map ME.key).Nodup)
    rw [putL]
    by_cases hk : k = e.key
    · rw [if_pos hk, List.filter_cons_of_neg (by simp [hk]), List.map_cons, List.filter_eq_self.2 fun x hx => by
        simp only [ne_eq, decide_eq_true_eq]
        intro h3
        exact h1 (by rw [← hk, ← h3]; exact List.mem_map_of_mem hx)]
    · rw [if_neg hk, List.filter_cons_of_pos (by simp [Ne.symm hk]), List.map_cons, List.map_cons]
      exact (List.Perm.cons _ (putL_perm k v c es h2)).trans (List.Perm.swap _ _ _)
theorem delL_filter (k : List Bt) : ∀ (es : List (ME α)), (es.map ME.key).Nodup → delL k es = es.filter fun e => decide (e.key ≠ k)
  | [], _ => rfl
  | e :: es, h => by
    obtain ⟨h1, h2⟩ := List.nodup_cons.1 (by simpa using h : (e.key :: es.map ME.key).Nodup)
    rw [delL]
    by_cases hk : k = e.key
    · rw [if_pos hk, List.filter_cons_of_neg (by simp [hk]), List.filter_eq_self.2 fun x hx => by
        simp only [ne_eq, decide_eq_true_eq]
        intro h3
        exact h1 (by rw [← hk, ← h3]; exact List.mem_map_of_mem hx)]
    · rw [if_neg hk, List.filter_cons_of_pos (by simp [Ne.symm hk]), delL_filter k es h2]
/-! ### the operations -/
section
variable {P : Program} {n : Nat} {w0 : World} {S : List Nat} {ops : Array Oper} {Q : Exit → Act → World → Prop} {l : List Oper} {E : Env} {M M' : List Ent}
variable {dst : Option Tmp} {d b r : Nat} {t t' k e ty : TypeId} {pos : String} {aft : Array Edge} {g : Option (Nat × Bool)} {x y z : Operand} {α : Type} {f : α → Value} {es : List (ME α)} {c : Nat} {key : List Bt} {v : α} {zv : Value} {wr : Bool}
theorem checkKey_str (em : Bool) (hk : P.underlying k = some .string) (w : World) : (Instr.checkKey em 10000 k (Z key)).run P w = .ok () w := by
  have h1 : ∀ w, (underlying k).run P w = .ok .string w := run_underlying hk
  rw [show (10000 : Nat) = 9999 + 1 from rfl, Instr.checkKey]
  simp only [Sem.run_bind, h1, Result.andThen_ok, Sem.run_pure]
theorem findKey_str (hk : P.underlying k = some .string) (w : World) : (Instr.findKey k (Z key) (es.map (ME.en f))).run P w = .ok ((findM key es 0).map fun p => (p.1, f p.2)) w := by
  simp [Instr.findKey, Sem.run_bind, run_underlying hk, findNow_str]
theorem getMap {w : World} (h : w.heap[b]? = some (.map (es.map (ME.en f)).toArray c)) : (getObj b).run P w = .ok (.map (es.map (ME.en f)).toArray c) w := by
  simp [getObj, Sem.run, h]
theorem setMap {w : World} {o : Obj} (h : w.heap[b]? = some (.map (es.map (ME.en f)).toArray c)) : (setObj b o).run P w = .ok () { w with heap := w.heap.setIfInBounds b o } := by
  simp [setObj, Sem.run, h]
def lookV (v : Option Value) (zv : Value) : Bool → Value
  | true => .tuple #[v.getD zv, .bool v.isSome]
  | false => v.getD zv
theorem lookup_run {ok : Bool} (ht : P.underlying t = some (.map k e)) (hk : P.underlying k = some .string) (hz : ∀ w, (zeroValue e).run P w = .ok zv w) {w : World} (h : w.heap[b]? = some (.map (es.map (ME.en f)).toArray c)) :
    (Instr.lookup t (.map (some b)) (Z key) ok).run P w = .ok (lookV ((look es key).map f) zv ok) w := by
  have h1 : ∀ w, (underlying t).run P w = .ok (.map k e) w := run_underlying ht
  simp only [Instr.lookup, Sem.run_bind, h1, Result.andThen_ok, getMap h, Sem.run_pure, checkKey_str _ hk, findKey_str hk, List.toList_toArray]
  unfold look
  cases findM key es 0 with
  | none =>
    simp only [Option.map_none, Sem.run_bind, hz, Result.andThen_ok, Sem.run_pure]
    cases ok <;> rfl
  | some p =>
    simp only [Option.map_some, Sem.run_bind, Result.andThen_ok, Sem.run_pure]
    cases ok <;> rfl
theorem zero_of (hz : (P.info? e).bind (·.zero) = some zv) (w : World) : (zeroValue e).run P w = .ok zv w := by
  cases hq : P.info? e with
  | none => simp [hq] at hz
  | some i =>
    cases hi : i.zero with
    | none => simp [hq, hi] at hz
    | some z =>
      simp [hq, hi] at hz
      simp [zeroValue, typeInfo, Sem.run_bind, hq, hi, hz]
/-- v, ok := m[k] and m[k] -/
theorem OQ.look {ok : Bool} (ht : P.underlying t = some (.map k e)) (hk : P.underlying k = some .string) (hz : (P.info? e).bind (·.zero) = some zv) (hx : ev E x = some (.map (some b))) (hy : ev E y = some (Z key)) (hM : Has M b (MB f es c) wr) :
    OQ P n E (Holds w0 S M) ⟨dst, .lookup t x y ok, ty, pos, aft, g⟩ (lookV ((look es key).map f) zv ok) :=
  OQ.run fun a ha w hw => by
    have h1 := ha.eval hx
    have h2 := ha.eval hy
    obtain ⟨o, ho, rfl⟩ := hw.get hM
    simp [execOp, h1, h2, Sem.run_bind, lookup_run (ok := ok) ht hk (zero_of hz) ho]
theorem JL.makeMap (f : α → Value) {rs : Option Operand} (hrs : rs = none) (hd : Nat.blt d n = true)
    (kk : ∀ b, w0.heap.size ≤ b → JL P n w0 S ops Q l ((d, .map (some b)) :: E) (⟨b, MB f [] 0, true⟩ :: M)) : JL P n w0 S ops Q (⟨some d, .makeMap t rs, ty, pos, aft, none⟩ :: l) E M :=
  ⟨fun a w ha hw => wpList_plain rfl fun K hK => by
    subst hrs
    unfold Oper.wp
    simp only [execOp, Instr.makeMap, newObj, Sem.run_bind, Sem.run, Option.map_none, Sem.run_pure, Result.andThen_ok]
    exact hK _ _ ((kk w.heap.size hw.chg.size).go _ _ (ha.put d _ hd) (hw.push (.map #[] 0) rfl rfl rfl rfl rfl))⟩
theorem mapUpdate_run (ht : P.underlying t = some (.map k e)) (hk : P.underlying k = some .string) {w : World} (h : w.heap[b]? = some (.map (es.map (ME.en f)).toArray c)) :
    (Instr.mapUpdate t (.map (some b)) (Z key) (f v)).run P w = .ok () { w with heap := w.heap.setIfInBounds b (.map ((putL key v c es).map (ME.en f)).toArray (putC key es c)) } := by
  have h1 : ∀ w, (underlying t).run P w = .ok (.map k e) w := run_underlying ht
  simp only [Instr.mapUpdate, Sem.run_bind, h1, Result.andThen_ok, getMap h, checkKey_str _ hk, findKey_str hk, List.toList_toArray]
  unfold putC look
  cases hf : findM key es 0 with
  | none =>
    have e1 := putL_new (v := v) (c := c) hf
    simp only [setMap h, Option.map_none, Option.isSome_none, e1]
    simp [ME.en]
  | some p =>
    obtain ⟨j, u⟩ := p
    obtain ⟨_, h2, h3⟩ := putL_old f (v := v) (c := c) hf
    rw [Nat.sub_zero] at h2 h3
    have hn : findM key es 0 ≠ none := by rw [hf]; simp
    have hkj : ((es.map (ME.en f)).toArray[j]?).map (·.key) = some (Z key) := by
      have : ∀ {es : List (ME α)} {i j : Nat}, findM key es i = some (j, u) → ((es.map (ME.en f))[j - i]?).map (·.key) = some (Z key) := by
        intro es
        induction es with
        | nil => intro i j h; cases h
        | cons e es ih =>
          intro i j h
          rw [findM] at h
          by_cases hk : key = e.key
          · rw [if_pos hk, Option.some.injEq, Prod.mk.injEq] at h
            obtain ⟨rfl, _⟩ := h
            simp [ME.en, hk]
          · rw [if_neg hk] at h
            have h9 := (putL_old f (v := v) (c := c) h).1
            have := ih h
            rw [show j - i = (j - (i + 1)) + 1 by omega, List.map_cons, List.getElem?_cons_succ]
            exact this
      have := this hf
      rw [Nat.sub_zero] at this
      simpa using this
    have hst : (Instr.keyThatStays (Z key) (Z key)).run P w = .ok (Z key) w := by
      have : Instr.sameBits 10000 (Z key) (Z key) = true := by show (strB key == strB key) = true; rw [strB_beq, decide_eq_true rfl]
      simp only [Instr.keyThatStays, this, if_true, Sem.run_pure]
    simp only [Sem.run_bind, hkj, Option.getD_some, hst, Result.andThen_ok, setMap h, Option.map_some, Option.isSome_some, if_true]
    rw [← h3]
    simp
/-- m[k] = v -/
theorem JL.mapPut (ht : P.underlying t = some (.map k e)) (hk : P.underlying k = some .string) (hx : ev E x = some (.map (some b))) (hy : ev E y = some (Z key)) (hz : ev E z = some (f v))
    (hu : Upd M b (MB f es c) (MB f (putL key v c es) (putC key es c)) M')
    (kk : JL P n w0 S ops Q l E M') : JL P n w0 S ops Q (⟨none, .mapUpdate t x y z, ty, pos, aft, none⟩ :: l) E M :=
  ⟨fun a w ha hw => wpList_plain rfl fun K hK => by
    obtain ⟨o, ho, rfl⟩ := hw.get hu.has
    have hlt := (Array.getElem?_eq_some_iff.1 ho).1
    unfold Oper.wp
    simp only [execOp, ha.eval hx, ha.eval hy, ha.eval hz, Sem.run_bind, mapUpdate_run ht hk ho, Result.andThen_ok]
    refine hK _ _ (kk.go _ _ (ha.put_none _) (hw.write hu (o' := .map ((putL key v c es).map (ME.en f)).toArray (putC key es c)) rfl ?_ ?_ ?_ rfl rfl rfl))
    · simp [hlt]
    · simp
    · intro k hk
      simp [Array.getElem?_setIfInBounds, Ne.symm hk]⟩
theorem delete_run (ht : P.underlying t = some (.map k e)) (hk : P.underlying k = some .string) {w : World} (h : w.heap[b]? = some (.map (es.map (ME.en f)).toArray c)) :
    (Builtin.delete_ #[t, k] ty #[.map (some b), Z key]).run P w = .ok (.tuple #[]) { w with heap := w.heap.setIfInBounds b (.map ((delL key es).map (ME.en f)).toArray c) } := by
  have h1 : ∀ w, (underlying t).run P w = .ok (.map k e) w := run_underlying ht
  simp only [Builtin.delete_, List.getElem?_toArray, List.getElem?_cons_zero, List.getElem?_cons_succ, Sem.run_bind, h1, Result.andThen_ok, getMap h, checkKey_str _ hk, findKey_str hk, List.toList_toArray]
  cases hf : findM key es 0 with
  | none =>
    simp only [Option.map_none, Sem.run_bind, setMap h, Result.andThen_ok, Sem.run_pure, delL_new hf]
  | some p =>
    obtain ⟨j, u⟩ := p
    obtain ⟨_, h2, h3⟩ := delL_old f hf
    rw [Nat.sub_zero] at h2 h3
    have e3 : ((es.map (ME.en f)).toArray.eraseIdxIfInBounds j) = ((delL key es).map (ME.en f)).toArray := by
      rw [← h3]
      apply Array.toList_inj.1
      simp [Array.eraseIdxIfInBounds, h2]
    simp only [Option.map_some, Sem.run_bind, setMap h, Result.andThen_ok, Sem.run_pure, e3]
/-- range m -/
theorem JL.mapRange (ht : P.underlying t = some (.map k e)) (hx : ev E x = some (.map (some b))) (hM : Has M b (MB f es c) wr) (hd : Nat.blt d n = true)
    (kk : ∀ r, w0.heap.size ≤ r → JL P n w0 S ops Q l ((d, Pt r 0) :: E) (⟨r, IB b c [] c, true⟩ :: M)) : JL P n w0 S ops Q (⟨some d, .range t x, ty, pos, aft, none⟩ :: l) E M :=
  ⟨fun a w ha hw => wpList_plain rfl fun K hK => by
    obtain ⟨o, ho, rfl⟩ := hw.get hM
    unfold Oper.wp
    simp only [execOp, ha.eval hx, Sem.run_bind, run_range_map w t k e b _ c ht ho, Result.andThen_ok]
    exact hK _ _ ((kk w.heap.size hw.chg.size).go _ _ (ha.put d _ hd) (hw.push (.mapIter (some b) c #[] c) rfl rfl rfl rfl rfl))⟩
theorem next_run {w : World} {seen : List Nat} (hf : WF es c) (hb : w.heap[b]? = some (.map (es.map (ME.en f)).toArray c)) (hr : w.heap[r]? = some (.mapIter (some b) c seen.toArray c)) :
    ((∀ e ∈ es, e.born ∈ seen) ∧ (Instr.next (Pt r 0) false ty).run P w = .ok (.tuple #[.bool false]) w) ∨
    ∃ e ∈ es, e.born ∉ seen ∧ ∃ dr, (Instr.next (Pt r 0) false ty).run P w = .ok (.tuple #[.bool true, Z e.key, f e.val]) { w with drawn := dr, heap := w.heap.setIfInBounds r (.mapIter (some b) c (seen ++ [e.born]).toArray c) } := by
  have hold : ∀ x ∈ (es.map (ME.en f)).toArray.toList, x.born < c := fun x hx => by
    obtain ⟨e, he, rfl⟩ := List.mem_map.1 (by simpa using hx : x ∈ es.map (ME.en f))
    exact hf.lt e he
  have hg : ∀ w : World, w.heap[b]? = some (.map (es.map (ME.en f)).toArray c) → w.heap[r]? = some (.mapIter (some b) c seen.toArray c) → (getObj r).run P w = .ok (.mapIter (some b) c seen.toArray c) w := fun w _ h => by simp [getObj, Sem.run, h]
  simp only [Instr.next, Sem.run_bind, hg w hb hr, getMap hb, Result.andThen_ok, next_test_false seen.toArray _ c c hold (Nat.le_refl _), Bool.false_eq_true, if_false]
  have hL : Array.filter (fun e => !seen.toArray.contains e.born) (es.map (ME.en f)).toArray = ((es.filter fun e => !seen.contains e.born).map (ME.en f)).toArray := by
    rw [List.filter_toArray, List.filter_map]
    congr 3
    funext e
    exact congrArg (fun x => !x) (List.contains_toArray ..)
  rw [hL]
  have hmem : ∀ e ∈ es.filter (fun e => !seen.contains e.born), e ∈ es ∧ e.born ∉ seen := fun e he => by simpa using he
  have hall : (es.filter fun e => !seen.contains e.born) = [] → ∀ e ∈ es, e.born ∈ seen := fun h e he => by
    have := List.filter_eq_nil_iff.1 h e he
    simpa using this
  generalize (es.filter fun e => !seen.contains e.born) = L at hmem hall ⊢
  have e1 : Array.filter (fun x => decide (x.born < c)) (L.map (ME.en f)).toArray = (L.map (ME.en f)).toArray := Array.filter_eq_self.2 fun x hx => by
    obtain ⟨e, he, rfl⟩ := List.mem_map.1 (by simpa using hx : x ∈ L.map (ME.en f))
    exact decide_eq_true (hf.lt e (hmem e he).1)
  have e2 : Array.filter (fun x => decide (x.born ≥ c)) (L.map (ME.en f)).toArray = #[] := by
    rw [Array.filter_eq_empty_iff]
    intro x hx
    obtain ⟨e, he, rfl⟩ := List.mem_map.1 (by simpa using hx : x ∈ L.map (ME.en f))
    have := hf.lt e (hmem e he).1
    simp only [decide_eq_true_eq]
    show ¬ e.born ≥ c
    omega
  simp only [e1, e2, Array.append_empty]
  cases L with
  | nil =>
    left
    refine ⟨hall rfl, ?_⟩
    simp [choose, Sem.run, Question.forced]
  | cons e0 L =>
    right
    have hne : ((e0 :: L).map (ME.en f)).toArray.isEmpty = false := by simp
    simp only [hne, Bool.false_eq_true, if_false, Array.empty_append, Array.size_map]
    have hsz : ((e0 :: L).map (ME.en f)).toArray.size = (e0 :: L).length := by simp
    rw [hsz]
    have hch : ∃ (j : Nat) (dr : Nat), j < (e0 :: L).length ∧ (choose (Question.mapNext (e0 :: L).length)).run P w = .ok j { w with drawn := dr } := by
      by_cases hf : (e0 :: L).length ≤ 1
      · exact ⟨0, w.drawn, by simp, by simp only [choose, Sem.run, Question.forced, hf, decide_true, if_true]⟩
      · exact ⟨_, w.drawn + 1, Nat.mod_lt _ (by simp), by
          simp only [choose, Sem.run, Question.forced, decide_eq_true_eq, hf, if_false, Question.cut]
          rfl⟩
    obtain ⟨j, dr, hj, hrun⟩ := hch
    refine ⟨(e0 :: L)[j], (hmem _ (List.getElem_mem hj)).1, (hmem _ (List.getElem_mem hj)).2, dr, ?_⟩
    have hset : ∀ o', (setObj r o').run P { w with drawn := dr } = .ok () { w with drawn := dr, heap := w.heap.setIfInBounds r o' } := fun o' => by
      simp [setObj, Sem.run, hr]
    have hjj : ((e0 :: L).map (ME.en f)).toArray[j]? = some ((e0 :: L)[j].en f) := by
      rw [List.getElem?_toArray, List.getElem?_map, List.getElem?_eq_getElem hj]; rfl
    simp only [hrun, Array.getElem?_map, hjj, Option.map_some, Result.andThen_ok, Sem.run_bind, hset, Sem.run_pure]
    congr 3
    simp [ME.en]
/-- the next entry of a range, whichever -/
theorem JL.mapNext {seen : List Nat} (hf : WF es c) (hx : ev E x = some (Pt r 0)) (hb : Has M b (MB f es c) wr) {Mf : List Nat → List Ent} (hu : ∀ s', Upd M r (IB b c seen c) (IB b c s' c) (Mf s')) (hd : Nat.blt d n = true)
    (k1 : (∀ e ∈ es, e.born ∈ seen) → JL P n w0 S ops Q l ((d, .tuple #[.bool false]) :: E) M)
    (k2 : ∀ e ∈ es, e.born ∉ seen → JL P n w0 S ops Q l ((d, .tuple #[.bool true, Z e.key, f e.val]) :: E) (Mf (seen ++ [e.born]))) : JL P n w0 S ops Q (⟨some d, .next x false, ty, pos, aft, none⟩ :: l) E M := by
  refine ⟨fun a w ha hw => wpList_plain rfl fun K hK => ?_⟩
  obtain ⟨o, ho, rfl⟩ := hw.get hb
  obtain ⟨o2, ho2, rfl⟩ := hw.get (hu seen).has
  have hlt := (Array.getElem?_eq_some_iff.1 ho2).1
  rcases next_run (P := P) (ty := ty) hf ho ho2 with ⟨h1, h2⟩ | ⟨e, he, hne, dr, h2⟩
  · unfold Oper.wp
    simp only [execOp, ha.eval hx, Sem.run_bind, h2, Result.andThen_ok]
    exact hK _ _ ((k1 h1).go _ _ (ha.put d _ hd) hw)
  · unfold Oper.wp
    simp only [execOp, ha.eval hx, Sem.run_bind, h2, Result.andThen_ok]
    refine hK _ _ ((k2 e he hne).go _ _ (ha.put d _ hd) (hw.write (hu _) (o' := .mapIter (some b) c (seen ++ [e.born]).toArray c) rfl ?_ ?_ ?_ rfl rfl rfl))
    · simp [hlt]
    · simp
    · intro k hk
      simp [Array.getElem?_setIfInBounds, Ne.symm hk]
/-- the key and the value of the round -/
theorem OQ.entry {seen : List Nat} {m : ME α} {wr' : Bool} (hf : WF es c) (hx : ev E x = some (Pt r 0)) (hb : Has M b (MB f es c) wr) (hi : Has M r (IB b c (seen ++ [m.born]) c) wr') (hm : m ∈ es) :
    OQ P n E (Holds w0 S M) ⟨dst, .entry x, ty, pos, aft, g⟩ (.tuple #[Z m.key, f m.val]) :=
  OQ.run fun a ha w hw => by
    have h1 := ha.eval hx
    obtain ⟨o, ho, rfl⟩ := hw.get hb
    obtain ⟨o2, ho2, rfl⟩ := hw.get hi
    have hg : (getObj r).run P w = .ok (.mapIter (some b) c (seen ++ [m.born]).toArray c) w := by simp [getObj, Sem.run, ho2]
    have hfd : (es.map (ME.en f)).toArray.find? (·.born == (m.en f).born) = some (m.en f) := by
      rw [← Array.find?_toList]
      exact find_born (m.en f) (es.map (ME.en f)) (by rw [List.map_map]; exact hf.borns) (List.mem_map_of_mem hm)
    have hbk : (seen ++ [m.born]).toArray.back? = some (m.en f).born := by simp [ME.en]
    simp only [execOp, h1, Instr.entry, Sem.run_bind, hg, Result.andThen_ok, hbk, getMap ho, bne_self_eq_false, Bool.false_eq_true, if_false, hfd, Sem.run_pure]
    rfl
end
end Go.Proofs.YtjkncnbpaejamaaGreatDoor

/-
  Of no statement by itself: pairs in memory; the landed store's mayBe, appendPair, counted, firstPair.
  Conditions: each theorem's own.
-/
namespace Go.Proofs.YtjkncnbpaejamaaGreatDoor
set_option maxRecDepth 10000
open Sl Dsk Jrn Sto
/-- a pair in memory -/
structure PqS where
  key : Bk
  s : Sl8
  gone : Bool
def PqS.cs (p : PqS) : List Value := [Z p.key, p.s.v, .bool p.gone]
def PqS.p (p : PqS) : Pq := ⟨p.key, p.s.l, p.gone⟩
theorem pr3 : szT Tryz.prog 67 = some 3 := by kernel_rfl
theorem prAg : aggT Tryz.prog 67 = true := by kernel_rfl
theorem prZ : zc Tryz.prog 67 = some [Z [], .slice none 0 0, .bool false] := by kernel_rfl
theorem prI : EI Tryz.prog 67 (.agg #[Z [], .slice none 0 0, .bool false]) 3 48 := by unfold EI; kernel_rfl
theorem PqS.one (p : PqS) : p.cs.all Value.oneCell' = true := by simp [PqS.cs, Value.oneCell', Sl8.v]
section
variable {P : Program} {n : Nat} {E : Env} {C : World → Prop} {dst : Option Tmp} {t ty e : TypeId} {pos : String} {aft : Array Edge} {g : Option (Nat × Bool)} {x y x1 x2 x3 : Operand} {s : Sl8} {m : Nat} {k : IntKind}
theorem OQ.buildP {key : Bk} {b : Bool} (h1 : ev E x1 = some (Z key)) (h2 : ev E x2 = some s.v) (h3 : ev E x3 = some (.bool b)) :
    OQ Tryz.prog n E C ⟨dst, .build 67 #[(0, x1), (1, x2), (2, x3)], ty, pos, aft, g⟩ (.agg #[Z key, s.v, .bool b]) :=
  OQ.run fun a ha w _ => by
    have e1 := ha.eval h1
    have e2 := ha.eval h2
    have e3 := ha.eval h3
    have r := run_build (P := Tryz.prog) w 67 #[(0, Z key), (1, s.v), (2, .bool b)] #[Z key, s.v, .bool b] (by kernel_rfl)
    simp [execOp, e1, e2, e3, r]
/-- x[:m] and x[m:] by a number of any kind -/
theorem OQ.fstK (hu : P.underlying t = some (.slice e)) (hz : szT P e = some 1) (hx : ev E x = some s.v) (hh : ev E y = some (.int k (m : Int))) (h : m ≤ s.l.length) (hc : s.l.length ≤ s.cap) :
    OQ P n E C ⟨dst, .slice t x none (some y) none, ty, pos, aft, g⟩ (s.fst m).v :=
  OQ.to (OQ.run fun a ha w _ => by
    have h1 := ha.eval hx
    have h2 := ha.eval hh
    have h3 : (underlying t).run P w = .ok (.slice e) w := run_underlying hu w
    have h4 : m ≤ s.cap := Nat.le_trans h hc
    simp [execOp, h1, h2, Sl8.v, Instr.sliceAt, Sem.run_bind, h3, Instr.slice, Instr.sliceBounds, Instr.sliceBound, asIntOf, h4, sizeOf_run hz]) (Sl8.fst_v s m h)
theorem OQ.sndK (hu : P.underlying t = some (.slice e)) (hz : szT P e = some 1) (hx : ev E x = some s.v) (hl : ev E y = some (.int k (m : Int))) (h : m ≤ s.l.length) :
    OQ P n E C ⟨dst, .slice t x (some y) none none, ty, pos, aft, g⟩ (s.snd m).v :=
  OQ.to (OQ.run fun a ha w _ => by
    have h1 := ha.eval hx
    have h2 := ha.eval hl
    have h3 : (underlying t).run P w = .ok (.slice e) w := run_underlying hu w
    simp [execOp, h1, h2, Sl8.v, Instr.sliceAt, Sem.run_bind, h3, Instr.slice, Instr.sliceBounds, Instr.sliceBound, asIntOf, h, sizeOf_run hz]) (Sl8.snd_v s m)
end
theorem goes_mayBe : Goes Tryz.prog 52 := ⟨_, Tryz.func52, rfl, by kernel_rfl⟩
theorem okP_int (p : Pq) : okP p = (decide ((1 : Int) ≤ (p.key.length : Int)) && (decide ((p.key.length : Int) ≤ 1000) && !(p.gone && decide ((0 : Int) < (p.val.length : Int))))) := by
  unfold okP
  have h1 : decide ((1 : Int) ≤ (p.key.length : Int)) = decide (1 ≤ p.key.length) := decide_eq_decide.2 (by omega)
  have h2 : decide ((p.key.length : Int) ≤ 1000) = decide (p.key.length ≤ 1000) := decide_eq_decide.2 (by omega)
  have h3 : decide ((0 : Int) < (p.val.length : Int)) = decide (0 < p.val.length) := decide_eq_decide.2 (by omega)
  rw [h1, h2, h3]
set_option maxHeartbeats 8000000 in
theorem mayBe_any (p : PqS) (w : World) : Calls Tryz.prog 52 [.agg p.cs.toArray].toArray w fun e w' => e = .returned (.bool (okP p.p)) ∧ Ext w w' := by
  refine enter (n := 24) Tryz.func52 rfl rfl rfl (Holds.start w []) ?_
  obtain ⟨key, s, gone⟩ := p
  obtain ⟨c1, g1⟩ : ∃ c, decide ((1 : Int) ≤ (key.length : Int)) = c := ⟨_, rfl⟩
  obtain ⟨c2, g2⟩ : ∃ c, decide ((key.length : Int) ≤ 1000) = c := ⟨_, rfl⟩
  obtain ⟨c3, g3⟩ : ∃ c, decide ((0 : Int) < (s.l.length : Int)) = c := ⟨_, rfl⟩
  have e : okP (PqS.p ⟨key, s, gone⟩) = (c1 && (c2 && !(gone && c3))) := by rw [okP_int, ← g1, ← g2, ← g3]; rfl
  rw [e]
  repeat (first | refine JC.seq ?_ | refine JC.region ?_)
  refine JL.box (r := [Z key, s.v, .bool gone]) rfl rfl rfl fun b1 _ => ?_
  cases c1 <;> cases c2 <;> cases gone <;> cases c3
  all_goals (
    repeat (first | refine JL.q (by first | (apply OQ.load; exact strC; exact rfl; exact .here; exact (Row.cell (v := Z key) rfl)) | (apply OQ.lenS; exact Tryz.underlying9; exact rfl) | (apply OQ.geqB (b := 1); exact rfl; exact rfl; exact g1) | (apply OQ.leqB (b := 1000); exact rfl; exact rfl; exact g2) | (apply OQ.load; exact boolC; exact rfl; exact .here; exact (Row.cell (v := .bool true) rfl)) | (apply OQ.load; exact boolC; exact rfl; exact .here; exact (Row.cell (v := .bool false) rfl)) | (apply OQ.load; exact slCj; exact rfl; exact .here; exact (Row.cell (v := s.v) rfl)) | (apply OQ.len (k := s.l.length) (ad := s.ad) (cap := s.cap); exact Tryz.underlying24; exact rfl) | (apply OQ.gtrB (b := 0); exact rfl; exact rfl; exact g3) | (apply OQ.pick_t; exact rfl; exact rfl) | (apply OQ.pick_f; exact rfl; exact rfl) | (apply OQ.not; exact rfl) | (apply OQ.move; exact rfl) | (apply OQ.assign; exact rfl) | (apply OQ.fld; exact rfl; exact rfl; exact rfl; exact (by decide); exact rfl)) rfl ?_ | refine JC.seq ?_ | refine JC.region ?_ | refine JL.nil ?_ | refine JE.next ?_ | refine JL.gon rfl rfl ?_ | refine JL.gskip rfl rfl rfl rfl ?_ | refine JL.gskipU rfl rfl rfl rfl ?_)
    exact JC.ret (JE.ret1 rfl (RV.tmp rfl) fun w' hw => ⟨rfl, hw.chg⟩))
theorem goes_appP : Goes Tryz.prog 53 := ⟨_, Tryz.func53, rfl, by kernel_rfl⟩
section
variable {n : Nat} {w0 : World} {S : List Nat} {ops : Array Oper} {Q : Exit → Act → World → Prop} {l : List Oper} {E : Env} {M : List Ent}
variable {d : Nat} {ty : TypeId} {pos : String} {aft : Array Edge} {x1 x2 x3 : Operand} {ats : Array TypeId}
theorem JL.numAppN {q : Acc} {xs : Bk} {m size : Nat} (h0 : 0 < size) (h4 : size ≤ 8) (hm : m < 4294967296) (hq : q = none → xs = []) (hl : xs.length ≤ 70000000000000) (e1 : ev E x1 = some (accV q xs.length)) (e2 : ev E x2 = some (U64 (BitVec.ofNat 64 m))) (e3 : ev E x3 = some (N size)) (hd : Nat.blt d n = true)
    (kk : ∀ r : Nat × Nat, JL Tryz.prog n w0 S ops Q l ((d, accV (some r) (xs ++ be (BitVec.ofNat 32 m) size).length) :: E) (accE 5 (some r) ((xs ++ be (BitVec.ofNat 32 m) size).map U8) ++ M)) : JL Tryz.prog n w0 S ops Q (⟨some d, .call ⟨.value (.func 42), #[x1, x2, x3], ats⟩, ty, pos, aft, none⟩ :: l) E (accE 5 q (xs.map U8) ++ M) :=
  JL.numApp h0 h4 hq hl e1 e2 e3 hd (be64_nat hm size ▸ kk)
end
set_option maxHeartbeats 16000000 in
theorem appP_any (q : Acc) (xs : Bk) (p : PqS) (hq : q = none → xs = []) (hl : xs.length ≤ 60000000000000) (hok : okP p.p = true) (hv : p.s.l.length < 4294967296) (w : World) (hs : p.s.ok w) (hap : Away p.s (keys (accE 5 q (xs.map U8)))) (hw : Holds w (keys (accE 5 q (xs.map U8))) (accE 5 q (xs.map U8)) w) :
    Calls Tryz.prog 53 [accV q xs.length, .agg p.cs.toArray].toArray w fun e w' => ∃ r : Nat × Nat, e = .returned (accV (some r) (xs ++ encP p.p).length) ∧ Holds w (keys (accE 5 q (xs.map U8))) (accE 5 (some r) ((xs ++ encP p.p).map U8)) w' := by
  generalize keys (accE 5 q (xs.map U8)) = S at hw hap ⊢
  obtain ⟨key, s, gone⟩ := p
  have hk := okP_len hok
  dsimp only [PqS.p] at hk hv hs hap hok ⊢
  refine enter (n := 32) Tryz.func53 rfl rfl rfl hw ?_
  repeat (first | refine JC.seq ?_ | refine JC.region ?_)
  refine JL.box (r := [Z key, s.v, .bool gone]) rfl rfl rfl fun b3 _ => ?_
  repeat (first | refine JL.q (by first | (apply OQ.load; exact boolC; exact rfl; exact .here; exact (Row.cell (v := .bool gone) rfl)) | (apply OQ.assign; exact rfl) | (apply OQ.fld; exact rfl; exact rfl; exact rfl; exact (by decide); exact rfl)) rfl ?_ | refine JC.seq ?_ | refine JC.region ?_ | refine JL.nil ?_ | refine JE.next ?_)
  refine JC.join (ι := Unit) (fun _ => [(0, accV q xs.length), (3, Pt b3 0), (5, U8 (if gone then 1#8 else 0#8))]) (fun _ => accE 5 q (xs.map U8) ++ [⟨b3, Row 67 [Z key, s.v, .bool gone], true⟩]) (fun _ => True) ?_ fun _ _ => ?_
  · refine JC.cond rfl (fun hc => ?_) (fun hc => ?_)
    · subst hc
      repeat (first | refine JL.q (by (apply OQ.assign; exact rfl)) rfl ?_ | refine JC.region ?_ | refine JL.nil ?_)
      exact JE.perm (List.perm_append_comm (l₁ := [_])) (JE.mid () trivial (by repeat (first | exact SubE.nil | refine SubE.cons _ _ _ rfl ?_)) (Less.refl _))
    · subst hc
      repeat (refine JC.skip ?_)
      exact JE.perm (List.perm_append_comm (l₁ := [_])) (JE.mid () trivial (by repeat (first | exact SubE.nil | refine SubE.cons _ _ _ rfl ?_)) (Less.refl _))
  have he : xs ++ encP ⟨key, s.l, gone⟩ = xs ++ [if gone then 1#8 else 0#8] ++ be (BitVec.ofNat 32 key.length) 2 ++ key ++ be (BitVec.ofNat 32 s.l.length) 4 ++ s.l := by
    unfold encP
    simp [List.append_assoc]
  rw [he]
  generalize (if gone = true then 1#8 else 0#8) = sg
  repeat (first | refine JL.q (by (apply OQ.move; exact rfl)) rfl ?_ | refine JC.seq ?_ | refine JC.region ?_)
  refine JL.lit1 (v := U8 sg) Tryz.underlying24 u8e rfl rfl rfl rfl fun b10 _ => ?_
  refine JL.perm (M' := accE 5 q (xs.map U8) ++ [⟨b10, Row 5 [U8 sg], true⟩, ⟨b3, Row 67 [Z key, s.v, .bool gone], true⟩]) ?_ (by exact List.perm_middle.symm)
  refine JL.appendQ (xs := xs.map U8) (cs := [U8 sg]) (m := 1) (ad := some ⟨b10, 0, none⟩) (sc := 1) q Tryz.underlying24 u8e (fun e => by rw [hq e]; rfl) (by rw [List.length_map]; rfl) rfl rfl (fun w' hw' => ?_) (by simp [Value.oneCell']) rfl (by rw [List.length_map]; omega) (by rw [List.length_map]; omega) rfl fun q1 hq1 => ?_
  · obtain ⟨o, ho, hA⟩ := hw'.get (b := b10) (A := Row 5 [U8 sg]) (wr := true) (hasR .here)
    exact Reads.block ho (Row.all o hA)
  cases q1 with
  | none => exact absurd (hq1 rfl) (by simp)
  | some r1 =>
  clear hq1
  rw [show xs.map U8 ++ [U8 sg] = (xs ++ [sg]).map U8 by simp, List.length_map]
  have l1 : (xs ++ [sg]).length = xs.length + 1 := by simp
  generalize xs ++ [sg] = y1 at l1
  repeat (first | refine JL.q (by first | (apply OQ.load; exact strC; exact rfl; exact (hasR (N := accE 5 (some r1) (y1.map U8)) (.there .here)); exact (Row.cell (v := Z key) rfl)) | (apply OQ.lenS; exact Tryz.underlying9; exact rfl) | (apply OQ.convN_64; exact Tryz.underlying3; exact Tryz.underlying82; exact rfl) | (apply OQ.move; exact rfl) | (apply OQ.assign; exact rfl) | (apply OQ.fld; exact rfl; exact rfl; exact rfl; exact (by decide); exact rfl)) rfl ?_ | refine JC.seq ?_ | refine JC.region ?_ | refine JL.nil ?_ | refine JE.next ?_)
  refine JL.numAppN (q := some r1) (xs := y1) (m := key.length) (size := 2) (by decide) (by decide) (by omega) nofun (by omega) rfl rfl rfl rfl fun r2 => ?_
  have l2 : (y1 ++ be (BitVec.ofNat 32 key.length) 2).length = xs.length + 3 := by rw [List.length_append, be_len, l1]
  generalize y1 ++ be (BitVec.ofNat 32 key.length) 2 = y2 at l2
  repeat (first | refine JL.q (by first | (apply OQ.load; exact strC; exact rfl; exact (hasR (N := accE 5 (some r2) (y2.map U8)) (.there .here)); exact (Row.cell (v := Z key) rfl)) | (apply OQ.move; exact rfl) | (apply OQ.assign; exact rfl) | (apply OQ.fld; exact rfl; exact rfl; exact rfl; exact (by decide); exact rfl)) rfl ?_ | refine JC.seq ?_ | refine JC.region ?_ | refine JL.nil ?_ | refine JE.next ?_)
  refine JL.appendZ (r := key) (xs := y2.map U8) (some r2) Tryz.underlying24 Tryz.underlying9 u8e nofun (by rw [List.length_map]; rfl) rfl (fun e => by rw [e] at hk; simp at hk) (by rw [List.length_map]; omega) rfl fun r3 => ?_
  rw [← List.map_append, List.length_map]
  have l3 : (y2 ++ key).length = xs.length + 3 + key.length := by rw [List.length_append, l2]
  generalize y2 ++ key = y3 at l3
  repeat (first | refine JL.q (by first | (apply OQ.load; exact slCj; exact rfl; exact (hasR (N := accE 5 (some r3) (y3.map U8)) (.there .here)); exact (Row.cell (v := s.v) rfl)) | (apply OQ.len (k := s.l.length) (ad := s.ad) (cap := s.cap); exact Tryz.underlying24; exact rfl) | (apply OQ.convN_64; exact Tryz.underlying3; exact Tryz.underlying82; exact rfl) | (apply OQ.move; exact rfl) | (apply OQ.assign; exact rfl) | (apply OQ.fld; exact rfl; exact rfl; exact rfl; exact (by decide); exact rfl)) rfl ?_ | refine JC.seq ?_ | refine JC.region ?_ | refine JL.nil ?_ | refine JE.next ?_)
  refine JL.numAppN (q := some r3) (xs := y3) (m := s.l.length) (size := 4) (by decide) (by decide) hv nofun (by omega) rfl rfl rfl rfl fun r4 => ?_
  have l4 : (y3 ++ be (BitVec.ofNat 32 s.l.length) 4).length = xs.length + 7 + key.length := by rw [List.length_append, be_len, l3]; omega
  generalize y3 ++ be (BitVec.ofNat 32 s.l.length) 4 = y4 at l4
  repeat (first | refine JL.q (by first | (apply OQ.load; exact slCj; exact rfl; exact (hasR (N := accE 5 (some r4) (y4.map U8)) (.there .here)); exact (Row.cell (v := s.v) rfl)) | (apply OQ.move; exact rfl) | (apply OQ.assign; exact rfl) | (apply OQ.fld; exact rfl; exact rfl; exact rfl; exact (by decide); exact rfl)) rfl ?_ | refine JC.seq ?_ | refine JC.region ?_ | refine JL.nil ?_ | refine JE.next ?_)
  refine JL.appendQ (xs := y4.map U8) (cs := s.l.map U8) (m := s.l.length) (ad := s.ad) (sc := s.cap) (some r4) Tryz.underlying24 u8e nofun (by rw [List.length_map]; rfl) rfl (by simp) (fun w' hw' => (hs.away hw' hap).reads) (all8U _) rfl (by rw [List.length_map]; omega) (by rw [List.length_map]; omega) rfl fun q5 hq5 => ?_
  cases q5 with
  | none =>
    have := congrArg List.length (List.append_eq_nil_iff.1 (hq5 rfl)).1
    rw [List.length_map, List.length_nil] at this
    omega
  | some r5 =>
  clear hq5
  rw [← List.map_append, List.length_map]
  repeat (first | refine JL.q (by (apply OQ.assign; exact rfl)) rfl ?_ | refine JL.nil ?_ | refine JE.next ?_)
  exact JC.ret (JE.ret1 rfl (RV.tmp rfl) fun w' hw => ⟨r5, rfl, hw.weak (less_pre _ _)⟩)
theorem goes_counted : Goes Tryz.prog 76 := ⟨_, Tryz.func76, rfl, by kernel_rfl⟩
/-- what counted tells -/
def cntV (s : Sl8) (size : Nat) : Value := match cntd s.l size with
  | none => .tuple #[.slice none 0 0, .slice none 0 0, .bool false]
  | some (k, _) => .tuple #[((s.snd size).fst k.length).v, ((s.snd size).snd k.length).v, .bool true]
set_option maxHeartbeats 8000000 in
theorem counted_any (s : Sl8) (size : Nat) (h4 : size ≤ 4) (w : World) (hs : s.ok w) (hl : s.l.length < 9223372036854775808) : Calls Tryz.prog 76 [s.v, N size].toArray w fun e w' => e = .returned (cntV s size) ∧ Ext w w' := by
  refine enter (n := 30) Tryz.func76 rfl rfl rfl (Holds.start w []) ?_
  cases g1 : decide ((s.l.length : Int) < (size : Int))
  case true =>
    have e : cntV s size = .tuple #[.slice none 0 0, .slice none 0 0, .bool false] := by unfold cntV cntd; rw [if_pos (by have := of_decide_eq_true g1; omega)]
    rw [e]
    repeat (first | refine JL.q (by first | (apply OQ.len (k := s.l.length) (ad := s.ad) (cap := s.cap); exact Tryz.underlying24; exact rfl) | (apply OQ.lssB; exact rfl; exact rfl; exact g1) | (apply OQ.move; exact rfl) | (apply OQ.assign; exact rfl)) rfl ?_ | refine JC.seq ?_ | refine JC.region ?_ | refine JL.nil ?_ | refine JE.next ?_)
    refine JC.cond_true rfl rfl ?_
    repeat (first | refine JL.q (by (apply OQ.assign; exact rfl)) rfl ?_ | refine JC.seq ?_ | refine JC.region ?_ | refine JL.nil ?_ | refine JE.next ?_)
    refine JC.ret ?_
    repeat (refine JE.then_ret ?_)
    exact JE.ret3 rfl (RV.tmp rfl) (RV.tmp rfl) (RV.tmp rfl) fun w' hw => ⟨rfl, hw.chg⟩
  have hsz : size ≤ s.l.length := by have := of_decide_eq_false g1; omega
  have hc := hs.len
  have lf : (s.fst size).l.length = size := by show (s.l.take size).length = _; rw [List.length_take]; omega
  have ls : (s.snd size).l.length = s.l.length - size := by show (s.l.drop size).length = _; rw [List.length_drop]
  have cN := fun w' (ok : s.ok w') => numRead_any (s.fst size) w' (ok.fst size) (by rw [lf]; omega)
  have hn : (num64 (s.fst size).l).toNat = numB (s.l.take size) := num64_toNat (by rw [lf]; omega)
  have hlt : numB (s.l.take size) < 4294967296 := by
    have h1 := numB_lt (l := s.l.take size) (by rw [List.length_take]; omega)
    have : 256 ^ (s.l.take size).length ≤ 256 ^ 4 := Nat.pow_le_pow_right (by decide) (by rw [List.length_take]; omega)
    omega
  have hcd : cntd s.l size = if (s.l.drop size).length < numB (s.l.take size) then none else some ((s.l.drop size).take (numB (s.l.take size)), (s.l.drop size).drop (numB (s.l.take size))) := by unfold cntd; rw [if_neg (by omega)]
  generalize numB (s.l.take size) = k at hn hlt hcd
  have hvv : U64 (num64 (s.fst size).l) = .int .u64 (k : Int) := by show Value.int .u64 _ = _; rw [hn]
  rw [hvv] at cN
  repeat (first | refine JL.q (by first | (apply OQ.len (k := s.l.length) (ad := s.ad) (cap := s.cap); exact Tryz.underlying24; exact rfl) | (apply OQ.lssB; exact rfl; exact rfl; exact g1) | (apply OQ.move; exact rfl) | (apply OQ.assign; exact rfl)) rfl ?_ | refine JC.seq ?_ | refine JC.region ?_ | refine JL.nil ?_ | refine JE.next ?_)
  refine JC.cond_false rfl rfl ?_
  repeat (first | refine JC.seq ?_ | refine JC.skip ?_ | refine JE.next ?_)
  refine JC.quiet mixT (by kernel_rfl) ?_
  repeat (first | refine JL.q (by first | (apply OQ.fstK (s := s) (m := size); exact Tryz.underlying24; exact u8s; exact rfl; exact rfl; exact hsz; exact hc) | (apply OQ.callx (vs := [(s.fst size).v]); exact goes_numRead; exact rfl; exact (fun w' hw' => cN w' (hs.holds hw' rfl))) | (apply OQ.sndK (s := s) (m := size); exact Tryz.underlying24; exact u8s; exact rfl; exact rfl; exact hsz) | (apply OQ.len (k := (s.snd size).l.length) (ad := (s.snd size).ad) (cap := (s.snd size).cap); exact Tryz.underlying24; exact rfl) | (apply OQ.convN_64; exact Tryz.underlying3; exact Tryz.underlying82; exact rfl) | (apply OQ.move; exact rfl) | (apply OQ.assign; exact rfl)) rfl ?_ | refine JQ.q (by first | (apply OQ.fstK (s := s) (m := size); exact Tryz.underlying24; exact u8s; exact rfl; exact rfl; exact hsz; exact hc) | (apply OQ.callx (vs := [(s.fst size).v]); exact goes_numRead; exact rfl; exact (fun w' hw' => cN w' (hs.holds hw' rfl))) | (apply OQ.sndK (s := s) (m := size); exact Tryz.underlying24; exact u8s; exact rfl; exact rfl; exact hsz) | (apply OQ.len (k := (s.snd size).l.length) (ad := (s.snd size).ad) (cap := (s.snd size).cap); exact Tryz.underlying24; exact rfl) | (apply OQ.convN_64; exact Tryz.underlying3; exact Tryz.underlying82; exact rfl) | (apply OQ.move; exact rfl) | (apply OQ.assign; exact rfl)) rfl ?_ | refine JC.seq ?_ | refine JC.region ?_ | refine JQ.nil ?_ | refine JE.next ?_)
  have hw64 : ((BitVec.ofNat 64 (s.snd size).l.length).toNat : Int) = ((s.snd size).l.length : Int) := by rw [BitVec.toNat_ofNat, ls]; omega
  cases g2 : decide (((BitVec.ofNat 64 (s.snd size).l.length).toNat : Int) < (k : Int))
  case true =>
    have e : cntV s size = .tuple #[.slice none 0 0, .slice none 0 0, .bool false] := by
      unfold cntV
      rw [hcd, if_pos (by have := of_decide_eq_true g2; rw [hw64, ls] at this; rw [List.length_drop]; omega)]
    rw [e]
    repeat (first | refine JL.q (by (apply OQ.gtrB; exact rfl; exact rfl; exact g2)) rfl ?_ | refine JL.nil ?_ | refine JE.next ?_)
    refine JC.cond_true rfl rfl ?_
    repeat (first | refine JL.q (by (apply OQ.assign; exact rfl)) rfl ?_ | refine JC.seq ?_ | refine JC.region ?_ | refine JL.nil ?_ | refine JE.next ?_)
    refine JC.ret ?_
    repeat (refine JE.then_ret ?_)
    exact JE.ret3 rfl (RV.tmp rfl) (RV.tmp rfl) (RV.tmp rfl) fun w' hw => ⟨rfl, hw.chg⟩
  have hk : k ≤ (s.snd size).l.length := by have := of_decide_eq_false g2; rw [hw64] at this; omega
  have e : cntV s size = .tuple #[((s.snd size).fst k).v, ((s.snd size).snd k).v, .bool true] := by
    unfold cntV
    rw [hcd, if_neg (by rw [ls] at hk; rw [List.length_drop]; omega)]
    dsimp only
    rw [List.length_take, List.length_drop, Nat.min_eq_left (by rw [ls] at hk; exact hk)]
  rw [e]
  have hcs : (s.snd size).l.length ≤ (s.snd size).cap := (hs.snd size hsz).len
  repeat (first | refine JL.q (by (apply OQ.gtrB; exact rfl; exact rfl; exact g2)) rfl ?_ | refine JL.nil ?_ | refine JE.next ?_)
  refine JC.cond_false rfl rfl ?_
  repeat (first | refine JC.seq ?_ | refine JC.skip ?_ | refine JE.next ?_)
  refine JC.quiet mixT (by kernel_rfl) ?_
  repeat (first | refine JQ.q (by first | (apply OQ.fstK (s := s.snd size) (m := k); exact Tryz.underlying24; exact u8s; exact rfl; exact rfl; exact hk; exact hcs) | (apply OQ.sndK (s := s.snd size) (m := k); exact Tryz.underlying24; exact u8s; exact rfl; exact rfl; exact hk) | (apply OQ.move; exact rfl) | (apply OQ.assign; exact rfl)) rfl ?_ | refine JQ.nil ?_ | refine JE.next ?_)
  refine JC.ret ?_
  skip
  exact JE.ret3 rfl (RV.tmp rfl) (RV.tmp rfl) (RV.tmp rfl) fun w' hw => ⟨rfl, hw.chg⟩
theorem clone_s (s : Sl8) (w : World) (hs : s.ok w) (hl : s.l.length ≤ 4294967296) : Calls Tryz.prog 48 [s.v].toArray w fun e w' => ∃ q : {q : Acc // q = none → s.l = []}, e = .returned (accS q.1 s.l).v ∧ Holds w [] (accE 5 q.1 (s.l.map U8)) w' :=
  (clone_any s w hs hl).mono fun e w' ⟨q, h1, h2, h3⟩ => ⟨⟨q, h2⟩, by rw [accS_v]; exact h1, h3⟩
theorem goes_fstP : Goes Tryz.prog 54 := ⟨_, Tryz.func54, rfl, by kernel_rfl⟩
/-- what firstPair tells -/
structure Fz where
  key : Bk
  q : Acc
  v : Bk
  g : Bool
  r : Sl8
  there : Bool
def Fz.V (z : Fz) : Value := .tuple #[.agg #[Z z.key, (accS z.q z.v).v, .bool z.g], z.r.v, .bool z.there]
structure Fz.ok (z : Fz) (s : Sl8) : Prop where
  q : z.q = none → z.v = []
  t : fstP s.l = if z.there then some (⟨z.key, z.v, z.g⟩, z.r.l) else none
  r : z.there = true → ∀ w : World, s.ok w → z.r.ok w
theorem snd_l (s : Sl8) (m : Nat) : (s.snd m).l = s.l.drop m := rfl
theorem fst_l (s : Sl8) (m : Nat) : (s.fst m).l = s.l.take m := rfl
theorem cntV_is (s : Sl8) (size : Nat) : ∃ (k r : Sl8) (b : Bool), cntV s size = .tuple #[k.v, r.v, .bool b] ∧ (cntd s.l size = if b then some (k.l, r.l) else none) ∧ (∀ w : World, s.ok w → k.ok w ∧ r.ok w) ∧ k.l.length ≤ s.l.length ∧ r.l.length ≤ s.l.length := by
  cases h : cntd s.l size with
  | none => exact ⟨nilS, nilS, false, by unfold cntV; rw [h]; rfl, rfl, fun w _ => ⟨nilS_ok w, nilS_ok w⟩, Nat.zero_le _, Nat.zero_le _⟩
  | some kr =>
    obtain ⟨k, r⟩ := kr
    have h1 := cntd_len h
    have e1 : s.l.drop size = k ++ r := by
      have hs : size ≤ s.l.length := by omega
      have h2 := h1.2
      have h3 : (s.l.take size).length = size := by rw [List.length_take]; omega
      rw [h2, List.append_assoc, List.drop_left' h3]
    have e2 : ((s.snd size).fst k.length).l = k := by rw [fst_l, snd_l, e1, List.take_left' rfl]
    have e3 : ((s.snd size).snd k.length).l = r := by rw [snd_l, snd_l, e1, List.drop_left' rfl]
    refine ⟨(s.snd size).fst k.length, (s.snd size).snd k.length, true, by unfold cntV; rw [h], by rw [e2, e3]; rfl, fun w ok => ⟨(ok.snd size (by omega)).fst _, (ok.snd size (by omega)).snd _ (by rw [snd_l, e1, List.length_append]; omega)⟩, by rw [e2]; omega, by rw [e3]; omega⟩
theorem sgn_le (c : Bt) : decide ((c.toNat : Int) ≤ 1) = decide (c.toNat ≤ 1) := decide_eq_decide.2 (by omega)
set_option maxHeartbeats 32000000 in
theorem fstP_any (s : Sl8) (w : World) (hs : s.ok w) (h0 : s.l ≠ []) (hl : s.l.length ≤ 4294967296) : Calls Tryz.prog 54 [s.v].toArray w fun e w' => ∃ z : {z : Fz // z.ok s}, e = .returned z.1.V ∧ Holds w [] (accE 5 z.1.q (z.1.v.map U8)) w' := by
  have hpos : 0 < s.l.length := List.length_pos_iff.2 h0
  obtain ⟨ba, ja, hae, hca⟩ := hs.reads.at (by rw [List.length_map]; exact hpos)
  have hca := hca 0 _ (map_at U8 0 hpos)
  have hsv : s.v = .slice (some ⟨ba, ja, none⟩) s.l.length s.cap := by rw [← hae]; rfl
  have hla : s.l = s.l.getD 0 0 :: s.l.drop 1 := by
    cases hll : s.l with
    | nil => exact absurd hll h0
    | cons a t => rfl
  generalize s.l.getD 0 0 = c at hca hla
  refine enter (n := 47) Tryz.func54 rfl rfl rfl (Holds.start w []) ?_
  repeat (first | refine JC.seq ?_ | refine JC.region ?_)
  refine JL.alloc prZ rfl fun b2 _ => ?_
  rw [hsv]
  repeat (first | refine JL.q (by first | (apply OQ.idxS1 (i := 0); exact Tryz.underlying24; exact u8s; exact rfl; exact rfl; exact hpos) | (apply OQ.load_old; exact u8c; exact rfl; exact (block_lt_of_cell hca); exact (by simp); exact hca) | (apply OQ.move; exact rfl) | (apply OQ.assign; exact rfl)) rfl ?_ | refine JC.seq ?_ | refine JC.region ?_ | refine JL.nil ?_ | refine JE.next ?_)
  rw [← hsv]
  have ok1 := hs.snd 1 hpos
  obtain ⟨ks, r1, hk, ek, ck, okk1, lk, lr1⟩ := cntV_is (s.snd 1) 2
  obtain ⟨vs8, r2, hv, ev, cv, okv1, lv, lr2⟩ := cntV_is r1 4
  have okk := (okk1 w ok1).1
  have okr1 := (okk1 w ok1).2
  have okv := (okv1 w okr1).1
  have ls1 : (s.snd 1).l.length ≤ s.l.length := by rw [snd_l, List.length_drop]; omega
  have c1 := fun {w' : World} (ok : (s.snd 1).ok w') => counted_any (s.snd 1) 2 (by decide) w' ok (by omega)
  have c2 := fun {w' : World} (ok : r1.ok w') => counted_any r1 4 (by decide) w' ok (by omega)
  rw [ek] at c1
  rw [ev] at c2
  have hvl : vs8.l.length ≤ 4294967296 := by omega
  repeat (first | refine JL.q (by first | (apply OQ.sndK (s := s) (m := 1); exact Tryz.underlying24; exact u8s; exact rfl; exact rfl; exact hpos) | (apply OQ.callx (vs := [(s.snd 1).v, N 2]); exact goes_counted; exact rfl; exact (fun w' hw' => c1 (ok1.holds hw' rfl))) | (apply OQ.callx (vs := [r1.v, N 4]); exact goes_counted; exact rfl; exact (fun w' hw' => c2 (okr1.holds hw' rfl))) | (apply OQ.extract; exact rfl; exact rfl) | (apply OQ.move; exact rfl) | (apply OQ.assign; exact rfl)) rfl ?_ | refine JC.seq ?_ | refine JC.region ?_ | refine JL.nil ?_ | refine JE.next ?_)
  obtain ⟨g, hg⟩ : ∃ g, decide ((c.toNat : Int) = 1) = g := ⟨_, rfl⟩
  have hg2 : decide (c.toNat = 1) = g := by rw [← hg]; exact decide_eq_decide.2 (by omega)
  have ⟨rv, hRV⟩ : ∃ rv, r2.v = rv := ⟨_, rfl⟩
  rw [hRV]
  haveI : Inhabited {q : Acc // q = none → vs8.l = []} := ⟨⟨some (0, 0), nofun⟩⟩
  let vs : Nat → {q : Acc // q = none → vs8.l = []} → Value := fun j y => match j with
    | 0 => ks.v
    | 1 => Z ks.l
    | 2 => vs8.v
    | 3 => (accS y.1 vs8.l).v
    | 4 => U8 c
    | 5 => .bool g
    | 6 => .agg #[Z ks.l, (accS y.1 vs8.l).v, .bool g]
    | _ => N 0
  let Ms : Nat → {q : Acc // q = none → vs8.l = []} → List Ent := fun j y => match j with
    | 3 => accE 5 y.1 (vs8.l.map U8)
    | 7 => [⟨b2, Row 67 [Z ks.l, (accS y.1 vs8.l).v, .bool g], true⟩]
    | 8 => [⟨b2, Row 67 [Z [], .slice none 0 0, .bool false], true⟩]
    | _ => []
  refine JC.grow (g := ⟨[(0, s.v), (2, Pt b2 0), (3, rv), (5, U8 c), (6, ks.v), (7, .bool hk), (8, vs8.v), (9, .bool hv)], 9, vs, Ms, (fun j => match j with | 1 => [(0, 26)] | 3 => [(2, 28)] | 5 => [(4, 30)] | 6 => [(1, 27), (3, 29), (5, 31)] | 7 => [(6, 32)] | _ => []), (fun j => match j with | 7 => [8] | _ => []), (fun j => match j with | 7 => [8] | _ => []), (fun j => match j with | 6 => some 3 | 7 => some 6 | _ => none)⟩) [] [7, 3] mixT (by repeat (first | exact SubE.nil | refine SubE.cons _ _ _ rfl ?_)) ?_ (by kernel_rfl) (by kernel_rfl) (by kernel_rfl) ?_ ?_
  · exact Less.refl _
  · refine ⟨?_, ?_, ?_, ?_, ?_, ?_, ?_, ?_, trivial⟩
    · (intro xx EF MF Q kk; (try refine JL.gon rfl rfl ?_); exact JL.q (OQ.move rfl) rfl (JL.nil (kk default nofun)))
    · (intro xx EF MF Q kk; (try refine JL.gon rfl rfl ?_); exact JL.q (OQ.b2s (s := ks) Tryz.underlying24 Tryz.underlying5 Tryz.underlying9 rfl (fun w' hw' => okk.holds hw' rfl)) rfl (JL.nil (kk default nofun)))
    · (intro xx EF MF Q kk; (try refine JL.gon rfl rfl ?_); exact JL.q (OQ.move rfl) rfl (JL.nil (kk default nofun)))
    · (intro xx EF MF Q kk; exact JL.callg (ι := {q : Acc // q = none → vs8.l = []}) (vs := [vs8.v]) (fun q => (accS q.1 vs8.l).v) (fun q => accE 5 q.1 (vs8.l.map U8)) goes_clone rfl rfl (fun _ => accE_wr _ _ _) (fun w' hw' => clone_s vs8 w' (okv.holds hw' rfl) hvl) fun q => JL.nil (kk q nofun))
    · (intro xx EF MF Q kk; (try refine JL.gon rfl rfl ?_); exact JL.q (OQ.move rfl) rfl (JL.nil (kk default nofun)))
    · (intro xx EF MF Q kk; (try refine JL.gon rfl rfl ?_); exact JL.q (OQ.eqB (a := (c.toNat : Int)) (b := 1) rfl rfl hg) rfl (JL.nil (kk default nofun)))
    · (intro xx EF MF Q kk; exact JL.q (OQ.buildP rfl rfl rfl) rfl (JL.nil (kk (xx 3) (fun k h => by cases h; rfl))))
    · (intro xx EF MF Q kk; exact JL.store_all (cs := [Z ks.l, (accS (xx 6).1 vs8.l).v, .bool g]) pr3 rfl rfl rfl (by simp [Value.oneCell', Sl8.v]) .here rfl (JL.nil (kk (xx 6) (fun k h => by cases h; rfl))))
  · intro xx hx
    have e1 := hx 7 6 (by decide) rfl
    have e2 := hx 6 3 (by decide) rfl
    show JE _ _ _ _ _ [(0, s.v), (2, Pt b2 0), (3, rv), (5, U8 c), (6, ks.v), (7, .bool hk), (8, vs8.v), (9, .bool hv)] ([⟨b2, Row 67 [Z ks.l, (accS (xx 7).1 vs8.l).v, .bool g], true⟩] ++ (accE 5 (xx 3).1 (vs8.l.map U8) ++ []))
    rw [e1, e2]
    generalize xx 3 = q3
    clear hx e1 e2 xx vs Ms
    obtain ⟨q3, hq3⟩ := q3
    dsimp only
    refine JE.next ?_
    refine JC.seq ?_
    have hcp : (accS q3 vs8.l).l = vs8.l := accS_l hq3
    obtain ⟨c5, g5⟩ : ∃ c5, decide ((c.toNat : Int) ≤ 1) = c5 := ⟨_, rfl⟩
    have g5' : decide (c.toNat ≤ 1) = c5 := by rw [← sgn_le]; exact g5
    have cM := fun (w' : World) => mayBe_any ⟨ks.l, accS q3 vs8.l, g⟩ w'
    have eM : (PqS.mk ks.l (accS q3 vs8.l) g).p = ⟨ks.l, vs8.l, g⟩ := by show Pq.mk _ _ _ = _; rw [hcp]
    rw [eM] at cM
    have hfs : fstP s.l = if (hk && (hv && (c5 && okP ⟨ks.l, vs8.l, g⟩))) = true then some (⟨ks.l, vs8.l, g⟩, r2.l) else none := by
      rw [hla, fstP]
      rw [snd_l] at ck
      rw [ck]
      cases hk
      · rfl
      · simp only [if_true]
        rw [cv]
        cases hv
        · rfl
        · simp only [if_true, hg2]
          cases c5
          · rw [if_neg (fun hh => by rw [decide_eq_true hh.1] at g5'; cases g5')]; rfl
          · cases hok : okP ⟨ks.l, vs8.l, g⟩
            · rw [if_neg (fun hh => by cases hh.2)]; rfl
            · rw [if_pos ⟨of_decide_eq_true g5', rfl⟩]; rfl
    have hfin : ∀ there, there = (hk && (hv && (c5 && okP ⟨ks.l, vs8.l, g⟩))) → (Fz.mk ks.l q3 vs8.l g r2 there).ok s := fun there ht => ⟨hq3, by rw [ht]; exact hfs, fun _ w' ok => (okv1 w' (okk1 w' (ok.snd 1 hpos)).2).2⟩
    have hfin := hfin _ rfl
    generalize okP ⟨ks.l, vs8.l, g⟩ = ok4 at cM hfin
    clear hfs ck cv ek ev c1 c2
    cases hk
    · skip
      let vs : Nat → Unit → Value := fun j y => match j with
        | 0 => .agg (PqS.mk ks.l (accS q3 vs8.l) g).cs.toArray
        | 1 => rv
        | 2 => .bool false
        | 3 => .bool false
        | 4 => undef
        | 5 => .bool false
        | 6 => .bool false
        | 7 => undef
        | 8 => undef
        | 9 => .bool false
        | 10 => .bool false
        | 11 => undef
        | 12 => undef
        | 13 => .bool false
        | 15 => rv
        | 16 => .bool false
        | _ => N 0
      let Ms : Nat → Unit → List Ent := fun j y => match j with
        | 14 => [⟨b2, Row 67 (PqS.mk ks.l (accS q3 vs8.l) g).cs, true⟩]
        | 17 => [⟨b2, Row 67 (PqS.mk ks.l (accS q3 vs8.l) g).cs, true⟩]
        | 18 => accE 5 q3 (vs8.l.map U8)
        | _ => []
      refine JC.growO (g := ⟨[(2, Pt b2 0), (5, U8 c), (7, .bool false), (9, .bool hv)], 19, vs, Ms, (fun j => match j with | 3 => [(2, 35)] | 4 => [(3, 36)] | 5 => [(3, 36), (4, 37)] | 6 => [(5, 38)] | 7 => [(6, 39)] | 8 => [(7, 40), (6, 39)] | 9 => [(6, 39), (8, 41)] | 10 => [(9, 42)] | 11 => [(10, 43)] | 12 => [(11, 44), (10, 43)] | 13 => [(10, 43), (12, 45)] | 14 => [(0, 33)] | 15 => [(1, 34)] | 16 => [(13, 46)] | _ => []), (fun j => match j with | 0 => [17] | 14 => [17] | _ => []), (fun j => match j with | 14 => [17] | _ => []), (fun j => match j with | _ => none), (fun j => match j with | 1 => [(3, rv)] | _ => [])⟩) [(15, 3), (16, 4)] [14, 18] mixT (by repeat (first | exact SubE.nil | refine SubE.cons _ _ _ rfl ?_)) (fun i _ => by dsimp only; split <;> first | exact SubE.nil | exact (by repeat (first | exact SubE.nil | refine SubE.cons _ _ _ rfl ?_))) ?_ (by kernel_rfl) (by kernel_rfl) (by kernel_rfl) ?_ ?_
      · exact Less.refl _
      · refine ⟨?_, ?_, ?_, ?_, ?_, ?_, ?_, ?_, ?_, ?_, ?_, ?_, ?_, ?_, ?_, ?_, ?_, trivial⟩
        · (intro xx EF MF Q kk; (try refine JL.gon rfl rfl ?_); exact JL.q (OQ.load_agg (cs := (PqS.mk ks.l (accS q3 vs8.l) g).cs) prAg pr3 rfl .here rfl Row.all) rfl (JL.nil (kk default nofun)))
        · (intro xx EF MF Q kk; (try refine JL.gon rfl rfl ?_); exact JL.q (OQ.move rfl) rfl (JL.nil (kk default nofun)))
        · (intro xx EF MF Q kk; (try refine JL.gon rfl rfl ?_); exact JL.q (OQ.move rfl) rfl (JL.nil (kk default nofun)))
        · (intro xx EF MF Q kk; (try refine JL.gon rfl rfl ?_); exact JL.q (OQ.move rfl) rfl (JL.nil (kk default nofun)))
        · (intro xx EF MF Q kk; exact JL.gskip rfl rfl rfl rfl (JL.nil (kk default nofun)))
        · (intro xx EF MF Q kk; (try refine JL.gon rfl rfl ?_); exact JL.q (OQ.pick_f rfl rfl) rfl (JL.nil (kk default nofun)))
        · (intro xx EF MF Q kk; (try refine JL.gon rfl rfl ?_); exact JL.q (OQ.move rfl) rfl (JL.nil (kk default nofun)))
        · (intro xx EF MF Q kk; exact JL.gskip rfl rfl rfl rfl (JL.nil (kk default nofun)))
        · (intro xx EF MF Q kk; exact JL.gskip rfl rfl rfl rfl (JL.nil (kk default nofun)))
        · (intro xx EF MF Q kk; (try refine JL.gon rfl rfl ?_); exact JL.q (OQ.pick_f rfl rfl) rfl (JL.nil (kk default nofun)))
        · (intro xx EF MF Q kk; (try refine JL.gon rfl rfl ?_); exact JL.q (OQ.move rfl) rfl (JL.nil (kk default nofun)))
        · (intro xx EF MF Q kk; exact JL.gskip rfl rfl rfl rfl (JL.nil (kk default nofun)))
        · (intro xx EF MF Q kk; exact JL.gskip rfl rfl rfl rfl (JL.nil (kk default nofun)))
        · (intro xx EF MF Q kk; (try refine JL.gon rfl rfl ?_); exact JL.q (OQ.pick_f rfl rfl) rfl (JL.nil (kk default nofun)))
        · (intro xx EF MF Q kk; exact JL.store_all (cs := (PqS.mk ks.l (accS q3 vs8.l) g).cs) pr3 rfl rfl rfl (PqS.one _) .here rfl (JL.nil (kk default nofun)))
        · (intro xx EF MF Q kk; (try refine JL.gon rfl rfl ?_); exact JL.q (OQ.assign rfl) rfl (JL.nil (kk default nofun)))
        · (intro xx EF MF Q kk; (try refine JL.gon rfl rfl ?_); exact JL.q (OQ.assign rfl) rfl (JL.nil (kk default nofun)))
      · intro xx hx
        show JE _ _ _ _ _ [(3, rv), (4, .bool false), (2, Pt b2 0), (5, U8 c), (7, .bool false), (9, .bool hv)] ([⟨b2, Row 67 (PqS.mk ks.l (accS q3 vs8.l) g).cs, true⟩] ++ (accE 5 q3 (vs8.l.map U8) ++ []))
        clear hx xx vs Ms
        refine JE.next ?_
        exact JC.ret (JE.ret3 rfl (RV.cell_agg (cs := (PqS.mk ks.l (accS q3 vs8.l) g).cs) prAg pr3 rfl .here rfl Row.all) (RV.tmp rfl) (RV.tmp rfl) fun w' hw => ⟨⟨_, hfin⟩, by rw [← hRV]; rfl, (hw.weak (.drop _ _ _ (less_pre _ _)))⟩)
    · cases hv
      · skip
        let vs : Nat → Unit → Value := fun j y => match j with
          | 0 => .agg (PqS.mk ks.l (accS q3 vs8.l) g).cs.toArray
          | 1 => rv
          | 2 => .bool true
          | 3 => .bool true
          | 4 => .bool false
          | 5 => .bool false
          | 6 => .bool false
          | 7 => undef
          | 8 => undef
          | 9 => .bool false
          | 10 => .bool false
          | 11 => undef
          | 12 => undef
          | 13 => .bool false
          | 15 => rv
          | 16 => .bool false
          | _ => N 0
        let Ms : Nat → Unit → List Ent := fun j y => match j with
          | 14 => [⟨b2, Row 67 (PqS.mk ks.l (accS q3 vs8.l) g).cs, true⟩]
          | 17 => [⟨b2, Row 67 (PqS.mk ks.l (accS q3 vs8.l) g).cs, true⟩]
          | 18 => accE 5 q3 (vs8.l.map U8)
          | _ => []
        refine JC.growO (g := ⟨[(2, Pt b2 0), (5, U8 c), (7, .bool true), (9, .bool false)], 19, vs, Ms, (fun j => match j with | 3 => [(2, 35)] | 4 => [(3, 36)] | 5 => [(3, 36), (4, 37)] | 6 => [(5, 38)] | 7 => [(6, 39)] | 8 => [(7, 40), (6, 39)] | 9 => [(6, 39), (8, 41)] | 10 => [(9, 42)] | 11 => [(10, 43)] | 12 => [(11, 44), (10, 43)] | 13 => [(10, 43), (12, 45)] | 14 => [(0, 33)] | 15 => [(1, 34)] | 16 => [(13, 46)] | _ => []), (fun j => match j with | 0 => [17] | 14 => [17] | _ => []), (fun j => match j with | 14 => [17] | _ => []), (fun j => match j with | _ => none), (fun j => match j with | 1 => [(3, rv)] | _ => [])⟩) [(15, 3), (16, 4)] [14, 18] mixT (by repeat (first | exact SubE.nil | refine SubE.cons _ _ _ rfl ?_)) (fun i _ => by dsimp only; split <;> first | exact SubE.nil | exact (by repeat (first | exact SubE.nil | refine SubE.cons _ _ _ rfl ?_))) ?_ (by kernel_rfl) (by kernel_rfl) (by kernel_rfl) ?_ ?_
        · exact Less.refl _
        · refine ⟨?_, ?_, ?_, ?_, ?_, ?_, ?_, ?_, ?_, ?_, ?_, ?_, ?_, ?_, ?_, ?_, ?_, trivial⟩
          · (intro xx EF MF Q kk; (try refine JL.gon rfl rfl ?_); exact JL.q (OQ.load_agg (cs := (PqS.mk ks.l (accS q3 vs8.l) g).cs) prAg pr3 rfl .here rfl Row.all) rfl (JL.nil (kk default nofun)))
          · (intro xx EF MF Q kk; (try refine JL.gon rfl rfl ?_); exact JL.q (OQ.move rfl) rfl (JL.nil (kk default nofun)))
          · (intro xx EF MF Q kk; (try refine JL.gon rfl rfl ?_); exact JL.q (OQ.move rfl) rfl (JL.nil (kk default nofun)))
          · (intro xx EF MF Q kk; (try refine JL.gon rfl rfl ?_); exact JL.q (OQ.move rfl) rfl (JL.nil (kk default nofun)))
          · (intro xx EF MF Q kk; (try refine JL.gon rfl rfl ?_); exact JL.q (OQ.move rfl) rfl (JL.nil (kk default nofun)))
          · (intro xx EF MF Q kk; (try refine JL.gon rfl rfl ?_); exact JL.q (OQ.pick_t rfl rfl) rfl (JL.nil (kk default nofun)))
          · (intro xx EF MF Q kk; (try refine JL.gon rfl rfl ?_); exact JL.q (OQ.move rfl) rfl (JL.nil (kk default nofun)))
          · (intro xx EF MF Q kk; exact JL.gskip rfl rfl rfl rfl (JL.nil (kk default nofun)))
          · (intro xx EF MF Q kk; exact JL.gskip rfl rfl rfl rfl (JL.nil (kk default nofun)))
          · (intro xx EF MF Q kk; (try refine JL.gon rfl rfl ?_); exact JL.q (OQ.pick_f rfl rfl) rfl (JL.nil (kk default nofun)))
          · (intro xx EF MF Q kk; (try refine JL.gon rfl rfl ?_); exact JL.q (OQ.move rfl) rfl (JL.nil (kk default nofun)))
          · (intro xx EF MF Q kk; exact JL.gskip rfl rfl rfl rfl (JL.nil (kk default nofun)))
          · (intro xx EF MF Q kk; exact JL.gskip rfl rfl rfl rfl (JL.nil (kk default nofun)))
          · (intro xx EF MF Q kk; (try refine JL.gon rfl rfl ?_); exact JL.q (OQ.pick_f rfl rfl) rfl (JL.nil (kk default nofun)))
          · (intro xx EF MF Q kk; exact JL.store_all (cs := (PqS.mk ks.l (accS q3 vs8.l) g).cs) pr3 rfl rfl rfl (PqS.one _) .here rfl (JL.nil (kk default nofun)))
          · (intro xx EF MF Q kk; (try refine JL.gon rfl rfl ?_); exact JL.q (OQ.assign rfl) rfl (JL.nil (kk default nofun)))
          · (intro xx EF MF Q kk; (try refine JL.gon rfl rfl ?_); exact JL.q (OQ.assign rfl) rfl (JL.nil (kk default nofun)))
        · intro xx hx
          show JE _ _ _ _ _ [(3, rv), (4, .bool false), (2, Pt b2 0), (5, U8 c), (7, .bool true), (9, .bool false)] ([⟨b2, Row 67 (PqS.mk ks.l (accS q3 vs8.l) g).cs, true⟩] ++ (accE 5 q3 (vs8.l.map U8) ++ []))
          clear hx xx vs Ms
          refine JE.next ?_
          exact JC.ret (JE.ret3 rfl (RV.cell_agg (cs := (PqS.mk ks.l (accS q3 vs8.l) g).cs) prAg pr3 rfl .here rfl Row.all) (RV.tmp rfl) (RV.tmp rfl) fun w' hw => ⟨⟨_, hfin⟩, by rw [← hRV]; rfl, (hw.weak (.drop _ _ _ (less_pre _ _)))⟩)
      · cases c5
        · skip
          let vs : Nat → Unit → Value := fun j y => match j with
            | 0 => .agg (PqS.mk ks.l (accS q3 vs8.l) g).cs.toArray
            | 1 => rv
            | 2 => .bool true
            | 3 => .bool true
            | 4 => .bool true
            | 5 => .bool true
            | 6 => .bool true
            | 7 => U8 c
            | 8 => .bool false
            | 9 => .bool false
            | 10 => .bool false
            | 11 => undef
            | 12 => undef
            | 13 => .bool false
            | 15 => rv
            | 16 => .bool false
            | _ => N 0
          let Ms : Nat → Unit → List Ent := fun j y => match j with
            | 14 => [⟨b2, Row 67 (PqS.mk ks.l (accS q3 vs8.l) g).cs, true⟩]
            | 17 => [⟨b2, Row 67 (PqS.mk ks.l (accS q3 vs8.l) g).cs, true⟩]
            | 18 => accE 5 q3 (vs8.l.map U8)
            | _ => []
          refine JC.growO (g := ⟨[(2, Pt b2 0), (5, U8 c), (7, .bool true), (9, .bool true)], 19, vs, Ms, (fun j => match j with | 3 => [(2, 35)] | 4 => [(3, 36)] | 5 => [(3, 36), (4, 37)] | 6 => [(5, 38)] | 7 => [(6, 39)] | 8 => [(7, 40), (6, 39)] | 9 => [(6, 39), (8, 41)] | 10 => [(9, 42)] | 11 => [(10, 43)] | 12 => [(11, 44), (10, 43)] | 13 => [(10, 43), (12, 45)] | 14 => [(0, 33)] | 15 => [(1, 34)] | 16 => [(13, 46)] | _ => []), (fun j => match j with | 0 => [17] | 14 => [17] | _ => []), (fun j => match j with | 14 => [17] | _ => []), (fun j => match j with | _ => none), (fun j => match j with | 1 => [(3, rv)] | _ => [])⟩) [(15, 3), (16, 4)] [14, 18] mixT (by repeat (first | exact SubE.nil | refine SubE.cons _ _ _ rfl ?_)) (fun i _ => by dsimp only; split <;> first | exact SubE.nil | exact (by repeat (first | exact SubE.nil | refine SubE.cons _ _ _ rfl ?_))) ?_ (by kernel_rfl) (by kernel_rfl) (by kernel_rfl) ?_ ?_
          · exact Less.refl _
          · refine ⟨?_, ?_, ?_, ?_, ?_, ?_, ?_, ?_, ?_, ?_, ?_, ?_, ?_, ?_, ?_, ?_, ?_, trivial⟩
            · (intro xx EF MF Q kk; (try refine JL.gon rfl rfl ?_); exact JL.q (OQ.load_agg (cs := (PqS.mk ks.l (accS q3 vs8.l) g).cs) prAg pr3 rfl .here rfl Row.all) rfl (JL.nil (kk default nofun)))
            · (intro xx EF MF Q kk; (try refine JL.gon rfl rfl ?_); exact JL.q (OQ.move rfl) rfl (JL.nil (kk default nofun)))
            · (intro xx EF MF Q kk; (try refine JL.gon rfl rfl ?_); exact JL.q (OQ.move rfl) rfl (JL.nil (kk default nofun)))
            · (intro xx EF MF Q kk; (try refine JL.gon rfl rfl ?_); exact JL.q (OQ.move rfl) rfl (JL.nil (kk default nofun)))
            · (intro xx EF MF Q kk; (try refine JL.gon rfl rfl ?_); exact JL.q (OQ.move rfl) rfl (JL.nil (kk default nofun)))
            · (intro xx EF MF Q kk; (try refine JL.gon rfl rfl ?_); exact JL.q (OQ.pick_t rfl rfl) rfl (JL.nil (kk default nofun)))
            · (intro xx EF MF Q kk; (try refine JL.gon rfl rfl ?_); exact JL.q (OQ.move rfl) rfl (JL.nil (kk default nofun)))
            · (intro xx EF MF Q kk; (try refine JL.gon rfl rfl ?_); exact JL.q (OQ.move rfl) rfl (JL.nil (kk default nofun)))
            · (intro xx EF MF Q kk; (try refine JL.gon rfl rfl ?_); exact JL.q (OQ.leqB (a := (c.toNat : Int)) (b := 1) rfl rfl g5) rfl (JL.nil (kk default nofun)))
            · (intro xx EF MF Q kk; (try refine JL.gon rfl rfl ?_); exact JL.q (OQ.pick_t rfl rfl) rfl (JL.nil (kk default nofun)))
            · (intro xx EF MF Q kk; (try refine JL.gon rfl rfl ?_); exact JL.q (OQ.move rfl) rfl (JL.nil (kk default nofun)))
            · (intro xx EF MF Q kk; exact JL.gskip rfl rfl rfl rfl (JL.nil (kk default nofun)))
            · (intro xx EF MF Q kk; exact JL.gskip rfl rfl rfl rfl (JL.nil (kk default nofun)))
            · (intro xx EF MF Q kk; (try refine JL.gon rfl rfl ?_); exact JL.q (OQ.pick_f rfl rfl) rfl (JL.nil (kk default nofun)))
            · (intro xx EF MF Q kk; exact JL.store_all (cs := (PqS.mk ks.l (accS q3 vs8.l) g).cs) pr3 rfl rfl rfl (PqS.one _) .here rfl (JL.nil (kk default nofun)))
            · (intro xx EF MF Q kk; (try refine JL.gon rfl rfl ?_); exact JL.q (OQ.assign rfl) rfl (JL.nil (kk default nofun)))
            · (intro xx EF MF Q kk; (try refine JL.gon rfl rfl ?_); exact JL.q (OQ.assign rfl) rfl (JL.nil (kk default nofun)))
          · intro xx hx
            show JE _ _ _ _ _ [(3, rv), (4, .bool false), (2, Pt b2 0), (5, U8 c), (7, .bool true), (9, .bool true)] ([⟨b2, Row 67 (PqS.mk ks.l (accS q3 vs8.l) g).cs, true⟩] ++ (accE 5 q3 (vs8.l.map U8) ++ []))
            clear hx xx vs Ms
            refine JE.next ?_
            exact JC.ret (JE.ret3 rfl (RV.cell_agg (cs := (PqS.mk ks.l (accS q3 vs8.l) g).cs) prAg pr3 rfl .here rfl Row.all) (RV.tmp rfl) (RV.tmp rfl) fun w' hw => ⟨⟨_, hfin⟩, by rw [← hRV]; rfl, (hw.weak (.drop _ _ _ (less_pre _ _)))⟩)
        · skip
          let vs : Nat → Unit → Value := fun j y => match j with
            | 0 => .agg (PqS.mk ks.l (accS q3 vs8.l) g).cs.toArray
            | 1 => rv
            | 2 => .bool true
            | 3 => .bool true
            | 4 => .bool true
            | 5 => .bool true
            | 6 => .bool true
            | 7 => U8 c
            | 8 => .bool true
            | 9 => .bool true
            | 10 => .bool true
            | 11 => .agg (PqS.mk ks.l (accS q3 vs8.l) g).cs.toArray
            | 12 => .bool ok4
            | 13 => .bool ok4
            | 15 => rv
            | 16 => .bool ok4
            | _ => N 0
          let Ms : Nat → Unit → List Ent := fun j y => match j with
            | 14 => [⟨b2, Row 67 (PqS.mk ks.l (accS q3 vs8.l) g).cs, true⟩]
            | 17 => [⟨b2, Row 67 (PqS.mk ks.l (accS q3 vs8.l) g).cs, true⟩]
            | 18 => accE 5 q3 (vs8.l.map U8)
            | _ => []
          refine JC.growO (g := ⟨[(2, Pt b2 0), (5, U8 c), (7, .bool true), (9, .bool true)], 19, vs, Ms, (fun j => match j with | 3 => [(2, 35)] | 4 => [(3, 36)] | 5 => [(3, 36), (4, 37)] | 6 => [(5, 38)] | 7 => [(6, 39)] | 8 => [(7, 40), (6, 39)] | 9 => [(6, 39), (8, 41)] | 10 => [(9, 42)] | 11 => [(10, 43)] | 12 => [(11, 44), (10, 43)] | 13 => [(10, 43), (12, 45)] | 14 => [(0, 33)] | 15 => [(1, 34)] | 16 => [(13, 46)] | _ => []), (fun j => match j with | 0 => [17] | 11 => [17] | 14 => [17] | _ => []), (fun j => match j with | 14 => [17] | _ => []), (fun j => match j with | _ => none), (fun j => match j with | 1 => [(3, rv)] | _ => [])⟩) [(15, 3), (16, 4)] [14, 18] mixT (by repeat (first | exact SubE.nil | refine SubE.cons _ _ _ rfl ?_)) (fun i _ => by dsimp only; split <;> first | exact SubE.nil | exact (by repeat (first | exact SubE.nil | refine SubE.cons _ _ _ rfl ?_))) ?_ (by kernel_rfl) (by kernel_rfl) (by kernel_rfl) ?_ ?_
          · exact Less.refl _
          · refine ⟨?_, ?_, ?_, ?_, ?_, ?_, ?_, ?_, ?_, ?_, ?_, ?_, ?_, ?_, ?_, ?_, ?_, trivial⟩
            · (intro xx EF MF Q kk; (try refine JL.gon rfl rfl ?_); exact JL.q (OQ.load_agg (cs := (PqS.mk ks.l (accS q3 vs8.l) g).cs) prAg pr3 rfl .here rfl Row.all) rfl (JL.nil (kk default nofun)))
            · (intro xx EF MF Q kk; (try refine JL.gon rfl rfl ?_); exact JL.q (OQ.move rfl) rfl (JL.nil (kk default nofun)))
            · (intro xx EF MF Q kk; (try refine JL.gon rfl rfl ?_); exact JL.q (OQ.move rfl) rfl (JL.nil (kk default nofun)))
            · (intro xx EF MF Q kk; (try refine JL.gon rfl rfl ?_); exact JL.q (OQ.move rfl) rfl (JL.nil (kk default nofun)))
            · (intro xx EF MF Q kk; (try refine JL.gon rfl rfl ?_); exact JL.q (OQ.move rfl) rfl (JL.nil (kk default nofun)))
            · (intro xx EF MF Q kk; (try refine JL.gon rfl rfl ?_); exact JL.q (OQ.pick_t rfl rfl) rfl (JL.nil (kk default nofun)))
            · (intro xx EF MF Q kk; (try refine JL.gon rfl rfl ?_); exact JL.q (OQ.move rfl) rfl (JL.nil (kk default nofun)))
            · (intro xx EF MF Q kk; (try refine JL.gon rfl rfl ?_); exact JL.q (OQ.move rfl) rfl (JL.nil (kk default nofun)))
            · (intro xx EF MF Q kk; (try refine JL.gon rfl rfl ?_); exact JL.q (OQ.leqB (a := (c.toNat : Int)) (b := 1) rfl rfl g5) rfl (JL.nil (kk default nofun)))
            · (intro xx EF MF Q kk; (try refine JL.gon rfl rfl ?_); exact JL.q (OQ.pick_t rfl rfl) rfl (JL.nil (kk default nofun)))
            · (intro xx EF MF Q kk; (try refine JL.gon rfl rfl ?_); exact JL.q (OQ.move rfl) rfl (JL.nil (kk default nofun)))
            · (intro xx EF MF Q kk; (try refine JL.gon rfl rfl ?_); exact JL.q (OQ.load_agg (cs := (PqS.mk ks.l (accS q3 vs8.l) g).cs) prAg pr3 rfl .here rfl Row.all) rfl (JL.nil (kk default nofun)))
            · (intro xx EF MF Q kk; (try refine JL.gon rfl rfl ?_); exact JL.q (OQ.callx (vs := [.agg (PqS.mk ks.l (accS q3 vs8.l) g).cs.toArray]) goes_mayBe rfl (fun w' _ => cM w')) rfl (JL.nil (kk default nofun)))
            · (intro xx EF MF Q kk; (try refine JL.gon rfl rfl ?_); exact JL.q (OQ.pick_t rfl rfl) rfl (JL.nil (kk default nofun)))
            · (intro xx EF MF Q kk; exact JL.store_all (cs := (PqS.mk ks.l (accS q3 vs8.l) g).cs) pr3 rfl rfl rfl (PqS.one _) .here rfl (JL.nil (kk default nofun)))
            · (intro xx EF MF Q kk; (try refine JL.gon rfl rfl ?_); exact JL.q (OQ.assign rfl) rfl (JL.nil (kk default nofun)))
            · (intro xx EF MF Q kk; (try refine JL.gon rfl rfl ?_); exact JL.q (OQ.assign rfl) rfl (JL.nil (kk default nofun)))
          · intro xx hx
            show JE _ _ _ _ _ [(3, rv), (4, .bool ok4), (2, Pt b2 0), (5, U8 c), (7, .bool true), (9, .bool true)] ([⟨b2, Row 67 (PqS.mk ks.l (accS q3 vs8.l) g).cs, true⟩] ++ (accE 5 q3 (vs8.l.map U8) ++ []))
            clear hx xx vs Ms
            refine JE.next ?_
            exact JC.ret (JE.ret3 rfl (RV.cell_agg (cs := (PqS.mk ks.l (accS q3 vs8.l) g).cs) prAg pr3 rfl .here rfl Row.all) (RV.tmp rfl) (RV.tmp rfl) fun w' hw => ⟨⟨_, hfin⟩, by rw [← hRV]; rfl, (hw.weak (.drop _ _ _ (less_pre _ _)))⟩)
end Go.Proofs.YtjkncnbpaejamaaGreatDoor

/-
  Of no statement by itself: slices of pairs; the landed store's Encode, Decode.
  Conditions: each theorem's own.
-/
namespace Go.Proofs.YtjkncnbpaejamaaGreatDoor
set_option maxRecDepth 10000
open Sl Dsk Jrn Sto
/-- a slice of pairs -/
structure SlP where
  ad : Option Addr
  cap : Nat
  l : List PqS
def SlP.v (s : SlP) : Value := .slice s.ad s.l.length s.cap
def SlP.ps (s : SlP) : List Pq := s.l.map PqS.p
structure SlP.ok (w : World) (s : SlP) : Prop where
  len : s.l.length ≤ s.cap
  reads : Reads w s.ad (s.l.map PqS.cs).flatten
  all : ∀ p ∈ s.l, p.s.ok w
def noP : PqS := ⟨[], nilS, false⟩
theorem cs3 (l : List PqS) : ∀ c ∈ l.map PqS.cs, c.length = 3 := by
  intro c hc
  obtain ⟨d, _, rfl⟩ := List.mem_map.1 hc
  rfl
theorem SlP.ok.at {w : World} {s : SlP} (h : s.ok w) {i : Nat} (hi : i < s.l.length) : ∃ b j, s.ad = some ⟨b, j, none⟩ ∧ b < w.heap.size ∧ ∀ k u, ((s.l.getD i noP).cs)[k]? = some u → w.cell? ⟨b, j + i * 3 + k, none⟩ = some u := by
  have hl := chunk_len (cs3 s.l)
  rw [List.length_map] at hl
  have h0 : 0 < (s.l.map PqS.cs).flatten.length := by omega
  obtain ⟨b, j, e, hc⟩ := h.reads.at h0
  refine ⟨b, j, e, ?_, fun k u hu => ?_⟩
  · obtain ⟨v, hv⟩ : ∃ v, (s.l.map PqS.cs).flatten[0]? = some v := ⟨_, List.getElem?_eq_getElem h0⟩
    exact block_lt_of_cell (hc 0 v hv)
  · have hat := chunk_at (i := i) (cs3 s.l) (by rw [List.length_map]; exact hi)
    have e2 : (s.l.map PqS.cs).getD i [] = (s.l.getD i noP).cs := by simp [hi]
    rw [e2] at hat
    rw [← hat, List.getElem?_take] at hu
    split at hu
    · rw [List.getElem?_drop] at hu
      rw [Nat.add_assoc]
      exact hc _ u hu
    · cases hu
theorem SlP.get_mem {s : SlP} {i : Nat} (hi : i < s.l.length) : s.l.getD i noP ∈ s.l := by
  rw [List.getD_eq_getElem?_getD, List.getElem?_eq_getElem hi]
  exact List.getElem_mem _
theorem SlP.ok.holds {w0 w : World} {S : List Nat} {M : List Ent} {s : SlP} (h : s.ok w0) (hw : Holds w0 S M w) (hS : S = []) : s.ok w := ⟨h.len, hw.reads h.reads (fun _ a _ => by rw [hS]; simp), fun p hp => (h.all p hp).holds hw hS⟩
structure AwayP (s : SlP) (S : List Nat) : Prop where
  a : s.l ≠ [] → ∀ a, s.ad = some a → a.block ∉ S
  all : ∀ p ∈ s.l, Away p.s S
theorem SlP.ok.away {w0 w : World} {S : List Nat} {M : List Ent} {s : SlP} (h : s.ok w0) (hw : Holds w0 S M w) (ha : AwayP s S) : s.ok w := by
  refine ⟨h.len, hw.reads h.reads fun h0 a e => ha.a (fun h1 => h0 (by rw [h1]; rfl)) a e, fun p hp => (h.all p hp).away hw (ha.all p hp)⟩
theorem SlP.take1 {s : SlP} {i : Nat} (hi : i < s.l.length) : s.ps.take (i + 1) = s.ps.take i ++ [(s.l.getD i noP).p] := by
  unfold SlP.ps
  rw [List.take_add_one]
  simp [List.getD_eq_getElem?_getD, hi]
theorem goes_sEnc : Goes Tryz.prog 36 := ⟨_, Tryz.func36, rfl, by kernel_rfl⟩
theorem encL_snoc (l : List Pq) (p : Pq) : encL (l ++ [p]) = encL l ++ encP p := by simp [encL]
theorem encL_le {l : List Pq} (h : ∀ p ∈ l, p.key.length ≤ 1000 ∧ p.val.length ≤ 4000000) : (encL l).length ≤ l.length * 4001007 := by
  induction l with
  | nil => simp [encL]
  | cons p l ih =>
    have h1 := h p (by simp)
    have h2 := ih fun q hq => h q (by simp [hq])
    have e : encL (p :: l) = encP p ++ encL l := rfl
    rw [e, List.length_append, encP_len, List.length_cons]
    omega
theorem okL_take {l : List Pq} {i : Nat} {p : Pq} (ht : l.take (i + 1) = l.take i ++ [p]) (hp : okP p = false) : okL l = false := by
  have hm : p ∈ l := List.mem_of_mem_take (i := i + 1) (by rw [ht]; simp)
  unfold okL
  rw [List.all_eq_false]
  exact ⟨p, hm, by rw [hp]; simp⟩
set_option maxHeartbeats 16000000 in
theorem sEnc_any (s : SlP) (w : World) (hs : s.ok w) (hn : s.l.length ≤ 1000000) (hv : ∀ p ∈ s.l, p.s.l.length ≤ 4000000) :
    Calls Tryz.prog 36 [s.v].toArray w fun e w' => ∃ q : {q : Acc // q = none → (if okL s.ps then encL s.ps else []) = []}, e = .returned (.tuple #[accV q.1 (if okL s.ps then encL s.ps else []).length, N (if okL s.ps then 0 else 1)]) ∧ Holds w [] (accE 5 q.1 ((if okL s.ps then encL s.ps else []).map U8)) w' := by
  refine enter (n := 21) Tryz.func36 rfl rfl rfl (Holds.start w []) ?_
  repeat (first | refine JL.q (by first | (apply OQ.len (k := s.l.length) (ad := s.ad) (cap := s.cap); exact Tryz.underlying70; exact rfl) | (apply OQ.move; exact rfl) | (apply OQ.assign; exact rfl)) rfl ?_ | refine JC.seq ?_ | refine JC.region ?_ | refine JC.block ?_ | refine JL.nil ?_ | refine JE.next ?_)
  refine JC.loop (fun z : Nat × Acc => [(4, accV z.2 (encL (s.ps.take z.1)).length), (7, s.v), (8, N s.l.length), (9, N z.1)]) (fun z => accE 5 z.2 ((encL (s.ps.take z.1)).map U8)) (fun z => s.l.length - z.1) (fun z => z.1 ≤ s.l.length ∧ okL (s.ps.take z.1) = true ∧ (z.2 = none → encL (s.ps.take z.1) = [])) (0, none) ⟨Nat.zero_le _, rfl, fun _ => rfl⟩ (by repeat (first | exact SubE.nil | refine SubE.cons _ _ _ rfl ?_)) (Less.refl _) ?_
  rintro ⟨i, q⟩ ⟨hi, hok, hq⟩
  dsimp only at hi hok hq ⊢
  repeat (first | refine JL.q (by (apply OQ.lssN; exact rfl; exact rfl)) rfl ?_ | refine JC.seq ?_ | refine JC.region ?_ | refine JL.nil ?_ | refine JE.next ?_)
  refine JC.cond rfl (fun hc => ?_) (fun hc => ?_)
  · have hi' : i < s.l.length := Nat.lt_of_not_le fun h => by have := of_decide_eq_true hc; omega
    clear hc
    obtain ⟨b, j, e, lb, c⟩ := hs.at hi'
    have hm := SlP.get_mem hi'
    have ht := SlP.take1 hi'
    generalize s.l.getD i noP = p at c hm ht
    have hsv : s.v = .slice (some ⟨b, j, none⟩) s.l.length s.cap := by rw [← e]; rfl
    rw [hsv]
    repeat (first | refine JL.q (by first | (apply OQ.idxS (i := i); exact Tryz.underlying70; exact pr3; exact rfl; exact rfl; exact hi') | (apply OQ.load_agg_old (cs := p.cs); exact prAg; exact rfl; exact pr3; exact lb; exact (by simp); exact c)) rfl ?_ | refine JC.seq ?_ | refine JC.region ?_ | refine JC.block ?_ | refine JC.skip ?_ | refine JE.next ?_)
    rw [← hsv]
    refine JL.alloc prZ rfl fun b6 _ => ?_
    refine JL.store_all (cs := p.cs) pr3 rfl rfl rfl p.one .here rfl ?_
    have cM := fun (w' : World) => mayBe_any p w'
    cases g1 : okP p.p
    case false =>
      have ho : okL s.ps = false := okL_take ht g1
      rw [ho]
      rw [g1] at cM
      repeat (first | refine JL.q (by first | (apply OQ.load_agg (cs := p.cs); exact prAg; exact pr3; exact rfl; exact .here; exact rfl; exact Row.all) | (apply OQ.callx (vs := [.agg p.cs.toArray]); exact goes_mayBe; exact rfl; exact (fun w' _ => cM w')) | (apply OQ.not; exact rfl)) rfl ?_ | refine JC.seq ?_ | refine JC.region ?_ | refine JL.nil ?_ | refine JE.next ?_)
      refine JC.cond_true rfl rfl ?_
      repeat (first | refine JL.q (by (apply OQ.assign; exact rfl)) rfl ?_ | refine JC.seq ?_ | refine JC.region ?_ | refine JL.nil ?_ | refine JE.next ?_)
      refine JC.ret ?_
      repeat (first | refine JE.then_ret ?_ | refine JE.blk_ret ?_)
      exact JE.ret2 rfl (RV.tmp rfl) (RV.tmp rfl) fun w' hw => ⟨⟨none, fun _ => rfl⟩, rfl, hw.weak (.nil _)⟩
    case true =>
      rw [g1] at cM
      have hkl := okP_len g1
      have hvl := hv p hm
      have hle := encL_le (l := s.ps.take i) (fun p hp => by
        unfold okL at hok
        have h1 := okP_len (List.all_eq_true.1 hok p hp)
        obtain ⟨x, hx, rfl⟩ := List.mem_map.1 (List.mem_of_mem_take hp)
        exact ⟨h1.2.1, hv x hx⟩)
      have hll : (s.ps.take i).length ≤ 1000000 := by rw [List.length_take]; omega
      repeat (first | refine JL.q (by first | (apply OQ.load_agg (cs := p.cs); exact prAg; exact pr3; exact rfl; exact .here; exact rfl; exact Row.all) | (apply OQ.callx (vs := [.agg p.cs.toArray]); exact goes_mayBe; exact rfl; exact (fun w' _ => cM w')) | (apply OQ.not; exact rfl)) rfl ?_ | refine JC.seq ?_ | refine JC.region ?_ | refine JL.nil ?_ | refine JE.next ?_)
      refine JC.cond_false rfl rfl ?_
      repeat (first | refine JL.q (by first | (apply OQ.load_agg (cs := p.cs); exact prAg; exact pr3; exact rfl; exact .here; exact rfl; exact Row.all) | (apply OQ.move; exact rfl)) rfl ?_ | refine JC.region ?_ | refine JC.skip ?_ | refine JE.next ?_)
      refine JL.perm (M' := accE 5 q ((encL (s.ps.take i)).map U8) ++ [⟨b6, Row 67 p.cs, true⟩]) ?_ (by exact List.perm_append_comm (l₁ := [_]))
      refine JL.callV (ι := Nat × Nat) (vs := [accV q (encL (s.ps.take i)).length, .agg p.cs.toArray]) (fun r => accV (some r) (encL (s.ps.take i) ++ encP p.p).length) (fun r => accE 5 (some r) ((encL (s.ps.take i) ++ encP p.p).map U8)) goes_appP rfl rfl (accE_wr _ _ _) (fun _ => accE_wr _ _ _) (fun w' h0 hw' => appP_any q _ p hq (by omega) g1 (by show p.s.l.length < _; omega) w' ((hs.all p hm).holds h0 rfl) (away_old h0 (accE_wr _ _ _) (hs.all p hm)) hw') fun r => ?_
      rw [← encL_snoc, ← ht]
      repeat (first | refine JL.q (by first | (apply OQ.move; exact rfl) | (apply OQ.assign; exact rfl) | (apply OQ.addN; exact rfl; exact rfl; exact (by (try simp only []); omega))) rfl ?_ | refine JC.region ?_ | refine JL.nil ?_ | refine JE.next ?_ | refine JE.blk_normal ?_)
      refine JE.again (i := (i, q)) (i + 1, some r) ⟨hi', ?_, nofun⟩ (by dsimp only; omega) (by repeat (first | exact SubE.nil | refine SubE.cons _ _ _ rfl ?_)) (less_pre _ _)
      rw [ht]
      unfold okL at hok ⊢
      rw [List.all_append, hok]
      simp [g1]
  · have hi' : i = s.l.length := by have := of_decide_eq_false hc; omega
    have hf : s.ps.take i = s.ps := List.take_of_length_le (by unfold SlP.ps; rw [List.length_map]; omega)
    rw [hf] at hok hq ⊢
    rw [hok]
    repeat (first | refine JL.q (by first | (apply OQ.move; exact rfl) | (apply OQ.assign; exact rfl)) rfl ?_ | refine JC.seq ?_ | refine JC.region ?_ | refine JC.exit ?_ | refine JL.nil ?_ | refine JE.next ?_ | refine JE.then_exit ?_ | refine JE.blk_hit ?_)
    exact JC.ret (JE.ret2 rfl (RV.tmp rfl) (RV.tmp rfl) fun w' hw => ⟨⟨q, hq⟩, rfl, hw⟩)
/-- pairs that were made anew -/
structure Gp where
  q : Acc
  ps : List PqS
  hq : q = none → ps = []
  h0 : ∀ p ∈ ps, p.s.ad = none → p.s.l = []
def Gp.v (z : Gp) : Value := accV z.q z.ps.length
def Gp.l (z : Gp) : List Pq := z.ps.map PqS.p
def Gp.E (z : Gp) : List Ent := accC 67 3 z.q (z.ps.map PqS.cs) ++ flatE (z.ps.map PqS.s)
theorem Gp.wr (z : Gp) : ∀ e ∈ z.E, e.wr = true := by
  intro e he
  rcases List.mem_append.1 he with h | h
  · exact accC_wr _ _ _ _ e h
  · exact flatE_wr _ e h
def Gp.s (z : Gp) : SlP := match z.q with
  | none => ⟨none, 0, []⟩
  | some p => ⟨some ⟨p.1, 0, none⟩, p.2, z.ps⟩
theorem Gp.v_eq (z : Gp) : z.s.v = z.v := by
  obtain ⟨q, ps, hq, h0⟩ := z
  cases q with
  | none => rfl
  | some p => rfl
theorem Gp.s_l (z : Gp) : z.s.l = z.ps := by
  obtain ⟨q, ps, hq, h0⟩ := z
  cases q with
  | none => exact (hq rfl).symm
  | some p => rfl
theorem Gp.s_ps (z : Gp) : z.s.ps = z.l := by unfold SlP.ps Gp.l; rw [z.s_l]
theorem Gp.ok {z : Gp} {w0 w : World} {S : List Nat} {A M : List Ent} (h : Holds w0 S (A ++ (z.E ++ M)) w) : z.s.ok w := by
  obtain ⟨q, ps, hq, h0⟩ := z
  cases q with
  | none => exact ⟨Nat.le_refl _, Reads.nil _ _, nofun⟩
  | some p =>
    obtain ⟨o, ho, hA⟩ := h.get (b := p.1) (A := Sl.Own 67 3 (ps.map PqS.cs).length p.2 (ps.map PqS.cs).flatten) (wr := true) (hasR (N := A) .here)
    have hc := hA
    obtain ⟨sp, _, _, _, h4⟩ := hc
    rw [List.length_map] at h4
    refine ⟨h4, Reads.block ho (Sl.Own.cells o hA), fun y hy => ?_⟩
    have hf : Holds w0 S ((A ++ accC 67 3 (some p) (ps.map PqS.cs)) ++ flatE (ps.map PqS.s)) w := by
      have := h.weak (M' := A ++ (accC 67 3 (some p) (ps.map PqS.cs) ++ flatE (ps.map PqS.s))) (less_two (Less.refl _) (by
        show Less _ ((accC 67 3 (some p) (ps.map PqS.cs) ++ flatE (ps.map PqS.s)) ++ M)
        exact less_pre _ _))
      rwa [← List.append_assoc] at this
    exact flat_ok hf (fun x hx hn => by
      obtain ⟨u, hu, rfl⟩ := List.mem_map.1 hx
      exact h0 u hu hn) y.s (List.mem_map_of_mem hy)
def gp0 : Gp := ⟨none, [], fun _ => rfl, nofun⟩
theorem goes_sDec : Goes Tryz.prog 37 := ⟨_, Tryz.func37, rfl, by kernel_rfl⟩
abbrev GpOf (o : Option (List Pq)) := {z : Gp // z.l = o.getD []}
def decV (o : Option (List Pq)) (z : Gp) : Value := .tuple #[z.v, N (if o.isSome then 0 else 3)]
theorem perm_d (bl b5 : Ent) (A C F : List Ent) : (bl :: (b5 :: (A ++ (C ++ F)))).Perm (bl :: (C ++ ((F ++ A) ++ [b5]))) := by
  refine List.Perm.cons _ ?_
  rw [show C ++ ((F ++ A) ++ [b5]) = (C ++ F ++ A) ++ [b5] by simp]
  refine List.Perm.trans ?_ (List.perm_append_singleton _ _).symm
  refine List.Perm.cons _ ?_
  rw [show C ++ F ++ A = (C ++ F) ++ A by simp]
  exact List.perm_append_comm
set_option maxHeartbeats 16000000 in
theorem sDec_any (s : Sl8) (w : World) (hs : s.ok w) (hl : s.l.length ≤ 4294967296) :
    Calls Tryz.prog 37 [s.v].toArray w fun e w' => ∃ z : GpOf (dec s.l), e = .returned (decV (dec s.l) z.1) ∧ Holds w [] z.1.E w' := by
  refine enter (n := 25) Tryz.func37 rfl rfl rfl (Holds.start w []) ?_
  repeat (first | refine JL.q (by (apply OQ.assign; exact rfl)) rfl ?_ | refine JC.seq ?_ | refine JC.region ?_ | refine JC.block ?_ | refine JL.nil ?_ | refine JE.next ?_)
  refine JC.loop (fun z : Sl8 × Gp => [(0, z.1.v), (4, z.2.v)]) (fun z => z.2.E) (fun z => z.1.l.length) (fun z => z.1.ok w ∧ dec s.l = (dec z.1.l).map (z.2.l ++ ·) ∧ z.2.ps.length + z.1.l.length ≤ s.l.length) (s, gp0) ⟨hs, by show _ = (dec s.l).map ([] ++ ·); cases dec s.l <;> simp, by show 0 + s.l.length ≤ s.l.length; omega⟩ (by repeat (first | exact SubE.nil | refine SubE.cons _ _ _ rfl ?_)) (.nil _) ?_
  rintro ⟨r, q, ps, hq, h0⟩ ⟨hr, hd, hn⟩
  dsimp only [Gp.v, Gp.l] at hr hd hn ⊢
  cases g1 : decide ((0 : Int) < (r.l.length : Int))
  case false =>
    have he : r.l = [] := List.length_eq_zero_iff.1 (by have := of_decide_eq_false g1; omega)
    rw [he, dec_nil] at hd
    rw [hd]
    repeat (first | refine JL.q (by first | (apply OQ.len (k := r.l.length) (ad := r.ad) (cap := r.cap); exact Tryz.underlying24; exact rfl) | (apply OQ.gtrB (b := 0); exact rfl; exact rfl; exact g1) | (apply OQ.move; exact rfl)) rfl ?_ | refine JC.seq ?_ | refine JC.region ?_ | refine JL.nil ?_ | refine JE.next ?_)
    refine JC.cond_false rfl rfl ?_
    repeat (first | refine JL.q (by first | (apply OQ.move; exact rfl) | (apply OQ.assign; exact rfl)) rfl ?_ | refine JC.seq ?_ | refine JC.region ?_ | refine JC.exit ?_ | refine JL.nil ?_ | refine JE.next ?_ | refine JE.then_exit ?_ | refine JE.blk_hit ?_)
    exact JC.ret (JE.ret2 rfl (RV.tmp rfl) (RV.tmp rfl) fun w' hw => ⟨⟨⟨q, ps, hq, h0⟩, by show ps.map PqS.p = (some (ps.map PqS.p ++ [])).getD []; simp⟩, rfl, hw⟩)
  have hne : r.l ≠ [] := fun e => by rw [e] at g1; simp at g1
  rw [dec_step hne] at hd
  repeat (first | refine JL.q (by first | (apply OQ.len (k := r.l.length) (ad := r.ad) (cap := r.cap); exact Tryz.underlying24; exact rfl) | (apply OQ.gtrB (b := 0); exact rfl; exact rfl; exact g1) | (apply OQ.move; exact rfl)) rfl ?_ | refine JC.seq ?_ | refine JC.region ?_ | refine JL.nil ?_ | refine JE.next ?_)
  refine JC.cond_true rfl rfl ?_
  repeat (first | refine JL.q (by (apply OQ.move; exact rfl)) rfl ?_ | refine JC.seq ?_ | refine JC.region ?_ | refine JC.block ?_ | refine JC.skip ?_ | refine JE.next ?_)
  refine JL.callg (ι := {z : Fz // z.ok r}) (vs := [r.v]) (fun z => z.1.V) (fun z => accE 5 z.1.q (z.1.v.map U8)) goes_fstP rfl rfl (fun _ => accE_wr _ _ _) (fun w' hw' => fstP_any r w' (hr.holds hw' rfl) hne (by omega)) fun z => ?_
  obtain ⟨⟨key, q1, v, g, r2, there⟩, hz⟩ := z
  have hz1 := hz.q; have hz2 := hz.t; have hz3 := hz.r
  dsimp only at hz1 hz2 hz3 ⊢
  dsimp only [Fz.V]
  repeat (refine JL.q (by first | (apply OQ.extract; exact rfl; exact rfl) | (apply OQ.move; exact rfl)) rfl ?_)
  refine JL.alloc prZ rfl fun b5 _ => ?_
  refine JL.store_all (cs := (PqS.mk key (accS q1 v) g).cs) pr3 rfl rfl rfl (PqS.one _) .here rfl ?_
  have hcp : (accS q1 v).l = v := accS_l hz1
  cases there
  case false =>
    rw [if_neg (by simp)] at hz2
    rw [hz2] at hd
    rw [show dec s.l = none from hd]
    repeat (first | refine JL.q (by first | (apply OQ.not; exact rfl) | (apply OQ.move; exact rfl) | (apply OQ.assign; exact rfl)) rfl ?_ | refine JC.seq ?_ | refine JC.region ?_ | refine JL.nil ?_ | refine JE.next ?_)
    refine JC.cond_true rfl rfl ?_
    repeat (first | refine JL.q (by (apply OQ.assign; exact rfl)) rfl ?_ | refine JC.seq ?_ | refine JC.region ?_ | refine JL.nil ?_ | refine JE.next ?_)
    refine JC.ret ?_
    repeat (first | refine JE.then_ret ?_ | refine JE.blk_ret ?_)
    exact JE.ret2 rfl (RV.tmp rfl) (RV.tmp rfl) fun w' hw => ⟨⟨gp0, rfl⟩, rfl, hw.weak (.nil _)⟩
  rw [if_pos rfl] at hz2
  rw [hz2] at hd
  dsimp only at hd
  have hsz := (fstP_some hz2).2
  dsimp only at hsz
  have hr2 := hz3 rfl w hr
  have hq0 : q = none → ps.map PqS.cs = [] := fun e => by rw [hq e]; rfl
  have hm : (ps.map PqS.cs).length = ps.length := List.length_map _
  repeat (first | refine JL.q (by first | (apply OQ.not; exact rfl) | (apply OQ.move; exact rfl) | (apply OQ.assign; exact rfl)) rfl ?_ | refine JC.seq ?_ | refine JC.region ?_ | refine JL.nil ?_ | refine JE.next ?_)
  refine JC.cond_false rfl rfl ?_
  repeat (first | refine JL.q (by first | (apply OQ.load_agg (cs := (PqS.mk key (accS q1 v) g).cs); exact prAg; exact pr3; exact rfl; exact .here; exact rfl; exact Row.all) | (apply OQ.move; exact rfl)) rfl ?_ | refine JC.seq ?_ | refine JC.region ?_ | refine JC.skip ?_ | refine JE.next ?_)
  refine JL.litA (cs := (PqS.mk key (accS q1 v) g).cs) Tryz.underlying70 prI rfl (by decide) (by decide) rfl rfl rfl fun bl _ => ?_
  refine JL.perm (M' := ⟨bl, Row 67 (PqS.mk key (accS q1 v) g).cs, true⟩ :: (accC 67 3 q (ps.map PqS.cs) ++ ((flatE (ps.map PqS.s) ++ accE 5 q1 (v.map U8)) ++ [⟨b5, Row 67 (PqS.mk key (accS q1 v) g).cs, true⟩]))) ?_ (perm_d _ _ _ _ _)
  refine JL.appendC (c := (PqS.mk key (accS q1 v) g).cs) (L := ps.map PqS.cs) q Tryz.underlying70 prI hq0 (by rw [hm]; rfl) rfl rfl (fun u hu => List.all_eq_true.1 (PqS.one _) u hu) rfl (by decide) (by rw [hm]; omega) (by rw [hm]; omega) rfl fun b' cap' => ?_
  have eM : ps.map PqS.cs ++ [(PqS.mk key (accS q1 v) g).cs] = (ps ++ [PqS.mk key (accS q1 v) g]).map PqS.cs := by rw [List.map_append, List.map_singleton]
  rw [eM, List.length_map]
  repeat (first | refine JL.q (by first | (apply OQ.move; exact rfl) | (apply OQ.assign; exact rfl)) rfl ?_ | refine JC.region ?_ | refine JL.nil ?_ | refine JE.next ?_ | refine JE.blk_normal ?_)
  refine JE.again (i := (r, ⟨q, ps, hq, h0⟩)) (r2, ⟨some (b', cap'), ps ++ [PqS.mk key (accS q1 v) g], nofun, fun p hp hn => ?_⟩) ⟨hr2, ?_, ?_⟩ (by dsimp only; omega) (by repeat (first | exact SubE.nil | refine SubE.cons _ _ _ rfl ?_)) ?_
  · rcases List.mem_append.1 hp with hp | hp
    · exact h0 p hp hn
    · rw [List.mem_singleton.1 hp] at hn ⊢
      exact accS_none hn
  · dsimp only [Gp.l]
    rw [hd, List.map_append, List.map_singleton]
    have : (PqS.mk key (accS q1 v) g).p = ⟨key, v, g⟩ := by show Pq.mk _ _ _ = _; rw [hcp]
    rw [this]
    cases dec r2.l with
    | none => rfl
    | some l => simp
  · dsimp only
    rw [List.length_append, List.length_singleton]
    omega
  · dsimp only [Gp.E]
    refine less_two (Less.refl _) ?_
    rw [List.map_append, List.map_singleton]
    have := less_two (flat_snoc (e := 5) (ps.map PqS.s) q1 v) (.nil [⟨b5, Row 67 (PqS.mk key (accS q1 v) g).cs, true⟩])
    rwa [List.append_nil] at this
end Go.Proofs.YtjkncnbpaejamaaGreatDoor

/-
  Of no statement by itself: the landed store's values: do, maps.Clone, behind.
  Conditions: each theorem's own.
-/
namespace Go.Proofs.YtjkncnbpaejamaaGreatDoor
set_option maxRecDepth 10000
open Sl Dsk Jrn Sto
abbrev MV := List (ME Sl8)
def doM (z : MV × Nat) (p : PqS) : MV × Nat := if p.gone then (delL p.key z.1, z.2) else (putL p.key p.s z.2 z.1, putC p.key z.1 z.2)
def doMs (z : MV × Nat) (l : List PqS) : MV × Nat := l.foldl doM z
def mvp (mm : MV) : VL := mm.map fun e => (e.key, e.val.l)
def MapIs (mm : MV) (vs : VL) : Prop := (mvp mm).Perm vs
theorem doM_wf {z : MV × Nat} (h : WF z.1 z.2) (p : PqS) : WF (doM z p).1 (doM z p).2 := by
  unfold doM
  split
  · exact h.del _
  · exact h.put _ _
theorem doMs_wf : ∀ (l : List PqS) {z : MV × Nat}, WF z.1 z.2 → WF (doMs z l).1 (doMs z l).2
  | [], _, h => h
  | p :: l, _, h => doMs_wf l (doM_wf h p)
theorem mvp_filter (k : Bk) (mm : MV) : mvp (mm.filter fun e => decide (e.key ≠ k)) = (mvp mm).filter fun q => decide (q.1 ≠ k) := by
  unfold mvp
  rw [List.filter_map]
  rfl
theorem doM_is {z : MV × Nat} {vs : VL} (h : WF z.1 z.2) (hs : Srt vs) (hm : MapIs z.1 vs) (p : PqS) : MapIs (doM z p).1 (doV vs p.p) := by
  unfold doM doV MapIs
  by_cases hg : p.gone = true
  · rw [if_pos hg, if_pos (show p.p.gone = true from hg), delV_filter hs]
    show (mvp (delL p.key z.1)).Perm _
    rw [delL_filter _ _ h.keys, mvp_filter]
    exact hm.filter _
  · rw [if_neg hg, if_neg (show ¬ p.p.gone = true from hg)]
    have h1 := (putL_perm p.key p.s z.2 z.1 h.keys).map fun q : Bk × Sl8 => (q.1, q.2.l)
    rw [List.map_map, List.map_cons, List.map_map] at h1
    refine List.Perm.trans h1 (List.Perm.trans (List.Perm.cons _ ?_) (insV_perm hs).symm)
    show (mvp (z.1.filter fun e => decide (e.key ≠ p.key))).Perm _
    rw [mvp_filter]
    exact hm.filter _
theorem doMs_is : ∀ (l : List PqS) {z : MV × Nat} {vs : VL}, WF z.1 z.2 → Srt vs → MapIs z.1 vs → MapIs (doMs z l).1 (doL vs (l.map PqS.p))
  | [], _, _, _, _, h => h
  | p :: l, _, _, h, hs, hm => doMs_is l (doM_wf h p) (doV_srt hs) (doM_is h hs hm p)
/-- the values' bytes are among the old ones and the pairs' -/
theorem doM_sub {z : MV × Nat} (h : WF z.1 z.2) (p : PqS) : ∃ r, ((doM z p).1.map ME.val ++ r).Perm (z.1.map ME.val ++ [p.s]) := by
  unfold doM
  split
  · obtain ⟨r, hr⟩ := ((delL_sub p.key z.1).map ME.val).exists_perm_append
    exact ⟨r ++ [p.s], by rw [← List.append_assoc]; exact hr.symm.append_right _⟩
  · have h1 := (putL_perm p.key p.s z.2 z.1 h.keys).map fun q : Bk × Sl8 => q.2
    rw [List.map_map, List.map_cons, List.map_map] at h1
    obtain ⟨r, hr⟩ := ((List.filter_sublist (p := fun e : ME Sl8 => decide (e.key ≠ p.key)) (l := z.1)).map ME.val).exists_perm_append
    refine ⟨r, (h1.append_right r).trans ?_⟩
    show (p.s :: ((z.1.filter fun e => decide (e.key ≠ p.key)).map ME.val ++ r)).Perm _
    exact (List.Perm.cons _ hr.symm).trans (List.perm_append_singleton _ _).symm
theorem doMs_sub : ∀ (l : List PqS) {z : MV × Nat}, WF z.1 z.2 → ∃ r, ((doMs z l).1.map ME.val ++ r).Perm (z.1.map ME.val ++ l.map PqS.s)
  | [], _, _ => ⟨[], by simp [doMs]⟩
  | p :: l, z, h => by
    obtain ⟨r1, h1⟩ := doM_sub h p
    obtain ⟨r2, h2⟩ := doMs_sub l (doM_wf h p)
    refine ⟨r2 ++ r1, ?_⟩
    rw [← List.append_assoc]
    refine (h2.append_right r1).trans ?_
    have e : (z.1.map ME.val ++ (p :: l).map PqS.s) = (z.1.map ME.val ++ [p.s]) ++ l.map PqS.s := by simp
    rw [e, List.append_assoc]
    refine ((List.perm_append_comm (l₁ := l.map PqS.s)).append_left _).trans ?_
    rw [← List.append_assoc]
    exact h1.append_right _
theorem doMs_snoc (z : MV × Nat) (l : List PqS) (p : PqS) : doMs z (l ++ [p]) = doM (doMs z l) p := by simp [doMs]
abbrev MvB (z : MV × Nat) : Obj → Prop := MB Sl8.v z.1 z.2
section
variable {P : Program} {n : Nat} {w0 : World} {S : List Nat} {ops : Array Oper} {Q : Exit → Act → World → Prop} {l : List Oper} {E : Env} {M M' : List Ent}
variable {b : Nat} {t k e ty : TypeId} {pos : String} {aft : Array Edge} {x y : Operand} {α : Type} {f : α → Value} {es : List (ME α)} {c : Nat} {key : List Bt}
/-- delete(m, k), as a statement -/
theorem JL.mapDel0 (ht : P.underlying t = some (.map k e)) (hk : P.underlying k = some .string) (hx : ev E x = some (.map (some b))) (hy : ev E y = some (Z key))
    (hu : Upd M b (MB f es c) (MB f (delL key es) c) M')
    (kk : JL P n w0 S ops Q l E M') : JL P n w0 S ops Q (⟨none, .call ⟨.builtin .delete, #[x, y], #[t, k]⟩, ty, pos, aft, none⟩ :: l) E M :=
  ⟨fun a w ha hw => wpList_plain rfl fun K hK => by
    obtain ⟨o, ho, rfl⟩ := hw.get hu.has
    have hlt := (Array.getElem?_eq_some_iff.1 ho).1
    unfold Oper.wp
    simp only [execOp, resolve, invoke, builtin, Sem.run_bind, Sem.run_pure, Result.andThen_ok, List.map_toArray, List.map_cons, List.map_nil, ha.eval hx, ha.eval hy, delete_run (ty := ty) ht hk ho]
    refine hK _ _ (kk.go _ _ (ha.put_none _) (hw.write hu (o' := .map ((delL key es).map (ME.en f)).toArray c) rfl ?_ ?_ ?_ rfl rfl rfl))
    · simp [hlt]
    · simp
    · intro k hk
      simp [Array.getElem?_setIfInBounds, Ne.symm hk]⟩
end
theorem goes_do : Goes Tryz.prog 41 := ⟨_, Tryz.func41, rfl, by kernel_rfl⟩
set_option maxHeartbeats 16000000 in
theorem do_any (s : SlP) (b : Nat) (mm : MV) (c : Nat) (w : World) (hs : s.ok w) (hn : s.l.length ≤ 4294967296) (ha : AwayP s [b]) (hw : Holds w [b] [⟨b, MvB (mm, c), true⟩] w) :
    Calls Tryz.prog 41 [.map (some b), s.v].toArray w fun e w' => e = .returned (.tuple #[]) ∧ Holds w [b] [⟨b, MvB (doMs (mm, c) s.l), true⟩] w' := by
  refine enter (n := 23) Tryz.func41 rfl rfl rfl hw ?_
  repeat (first | refine JL.q (by first | (apply OQ.len (k := s.l.length) (ad := s.ad) (cap := s.cap); exact Tryz.underlying70; exact rfl) | (apply OQ.move; exact rfl)) rfl ?_ | refine JC.seq ?_ | refine JC.region ?_ | refine JC.block ?_ | refine JL.nil ?_ | refine JE.next ?_)
  refine JC.loop (fun i : Nat => [(0, .map (some b)), (6, s.v), (7, N s.l.length), (8, N i)]) (fun i => [⟨b, MvB (doMs (mm, c) (s.l.take i)), true⟩]) (fun i => s.l.length - i) (fun i => i ≤ s.l.length) 0 (Nat.zero_le _) (by repeat (first | exact SubE.nil | refine SubE.cons _ _ _ rfl ?_)) (Less.refl _) ?_
  intro i hi
  repeat (first | refine JL.q (by (apply OQ.lssN; exact rfl; exact rfl)) rfl ?_ | refine JC.seq ?_ | refine JC.region ?_ | refine JL.nil ?_ | refine JE.next ?_)
  refine JC.cond rfl (fun hc => ?_) (fun hc => ?_)
  · have hi' : i < s.l.length := Nat.lt_of_not_le fun h => by have := of_decide_eq_true hc; omega
    clear hc
    obtain ⟨bb, j, e, lb, cc⟩ := hs.at hi'
    have hm := SlP.get_mem hi'
    have ht : s.l.take (i + 1) = s.l.take i ++ [s.l.getD i noP] := by
      rw [List.take_add_one]
      simp [List.getD_eq_getElem?_getD, hi']
    generalize s.l.getD i noP = p at cc hm ht
    have hne : s.l ≠ [] := fun h => by rw [h] at hi'; exact absurd hi' (Nat.not_lt_zero _)
    have hbb : bb ∉ [b] := ha.a hne _ e
    have hsv : s.v = .slice (some ⟨bb, j, none⟩) s.l.length s.cap := by rw [← e]; rfl
    rw [hsv]
    repeat (first | refine JL.q (by first | (apply OQ.idxS (i := i); exact Tryz.underlying70; exact pr3; exact rfl; exact rfl; exact hi') | (apply OQ.load_agg_old (cs := p.cs); exact prAg; exact rfl; exact pr3; exact lb; exact hbb; exact cc)) rfl ?_ | refine JC.seq ?_ | refine JC.region ?_ | refine JC.block ?_ | refine JC.skip ?_ | refine JE.next ?_)
    rw [← hsv]
    refine JL.alloc prZ rfl fun b6 _ => ?_
    refine JL.store_all (cs := p.cs) pr3 rfl rfl rfl p.one .here rfl ?_
    repeat (first | refine JL.q (by first | (apply OQ.load; exact boolC; exact rfl; exact .here; exact (Row.cell (v := .bool p.gone) rfl)) | (apply OQ.fld; exact rfl; exact rfl; exact rfl; exact (by decide); exact rfl)) rfl ?_ | refine JC.seq ?_ | refine JC.region ?_ | refine JL.nil ?_ | refine JE.next ?_)
    have e2 : doMs (mm, c) (s.l.take (i + 1)) = doM (doMs (mm, c) (s.l.take i)) p := by rw [ht, doMs_snoc]
    unfold doM at e2
    refine JC.cond rfl (fun hc => ?_) (fun hc => ?_)
    · rw [if_pos hc] at e2
      repeat (first | refine JL.q (by first | (apply OQ.load; exact strC; exact rfl; exact .here; exact (Row.cell (v := Z p.key) rfl)) | (apply OQ.move; exact rfl) | (apply OQ.fld; exact rfl; exact rfl; exact rfl; exact (by decide); exact rfl)) rfl ?_ | refine JC.region ?_)
      refine JL.mapDel0 Tryz.underlying94 Tryz.underlying9 rfl rfl (.there .here) ?_
      repeat (first | refine JL.q (by first | (apply OQ.move; exact rfl) | (apply OQ.addN; exact rfl; exact rfl; exact (by (try simp only []); omega))) rfl ?_ | refine JC.region ?_ | refine JL.nil ?_ | refine JE.next ?_ | refine JE.blk_normal ?_)
      refine JE.again (i := i) (i + 1) hi' (by omega) (by repeat (first | exact SubE.nil | refine SubE.cons _ _ _ rfl ?_)) ?_
      show Less [⟨b, MvB (doMs (mm, c) (s.l.take (i + 1))), true⟩] _
      rw [e2]
      exact .drop _ _ _ (Less.refl _)
    · rw [if_neg (by rw [hc]; simp)] at e2
      repeat (first | refine JL.q (by first | (apply OQ.load; exact strC; exact rfl; exact .here; exact (Row.cell (v := Z p.key) rfl)) | (apply OQ.load; exact slCj; exact rfl; exact .here; exact (Row.cell (v := p.s.v) rfl)) | (apply OQ.move; exact rfl) | (apply OQ.fld; exact rfl; exact rfl; exact rfl; exact (by decide); exact rfl)) rfl ?_ | refine JC.region ?_)
      refine JL.mapPut (f := Sl8.v) (v := p.s) Tryz.underlying94 Tryz.underlying9 rfl rfl rfl (.there .here) ?_
      repeat (first | refine JL.q (by first | (apply OQ.move; exact rfl) | (apply OQ.addN; exact rfl; exact rfl; exact (by (try simp only []); omega))) rfl ?_ | refine JC.region ?_ | refine JL.nil ?_ | refine JE.next ?_ | refine JE.blk_normal ?_)
      refine JE.again (i := i) (i + 1) hi' (by omega) (by repeat (first | exact SubE.nil | refine SubE.cons _ _ _ rfl ?_)) ?_
      show Less [⟨b, MvB (doMs (mm, c) (s.l.take (i + 1))), true⟩] _
      rw [e2]
      exact .drop _ _ _ (Less.refl _)
  · have hi' : i = s.l.length := by have := of_decide_eq_false hc; omega
    rw [hi', List.take_length]
    repeat (first | refine JC.exit ?_ | refine JE.then_exit ?_ | refine JE.blk_hit ?_)
    exact JE.end0 rfl fun w' hw => ⟨rfl, hw⟩
section
variable {P : Program} {n : Nat} {w0 : World} {S : List Nat} {ops : Array Oper} {Q : Exit → Act → World → Prop} {l : List Oper} {E : Env} {M : List Ent} {C : World → Prop}
variable {d b : Nat} {t t' k e ty : TypeId} {dst : Option Tmp} {pos : String} {aft : Array Edge} {g : Option (Nat × Bool)} {x y : Operand} {α : Type} {f : α → Value} {es : List (ME α)} {c : Nat}
theorem OQ.mapNil {p : Option Nat} (hu : P.underlying t = some (.map k e)) (hx : ev E x = some (.map p)) (hy : ev E y = some (.map none)) :
    OQ P n E C ⟨dst, .binOp .eql t x y t', ty, pos, aft, g⟩ (.bool p.isNone) :=
  OQ.run fun a ha w _ => by
    have h1 := ha.eval hx
    have h2 := ha.eval hy
    simp [execOp, h1, h2, eqGuard, run_eql_map_nil_sl w t k e p hu]
theorem OQ.mapIface (hu : P.underlying t = some (.map k e)) {v : Value} (hx : ev E x = some v) : OQ P n E C ⟨dst, .makeInterface t x, ty, pos, aft, g⟩ (.iface t v) :=
  OQ.run fun a ha w _ => by
    have h1 := ha.eval hx
    have h2 : (Instr.makeInterface t v).run P w = .ok (.iface t v) w := by simp [Instr.makeInterface, run_underlying hu, Sem.run_bind]
    simp [execOp, h1, h2]
theorem OQ.mapAssert (hu : P.underlying t = some (.map k e)) {v : Value} {xT : TypeId} (hx : ev E x = some (.iface t v)) : OQ P n E C ⟨dst, .typeAssert x xT t false, ty, pos, aft, g⟩ v :=
  OQ.run fun a ha w _ => by
    have h1 := ha.eval hx
    simp [execOp, h1, run_typeAssert_map_sl w t xT k e v hu]
/-- maps.clone, by the model's entry -/
structure IsClone (P : Program) (f : FuncId) : Prop where
  go : ∃ fn, P.funcs[f]? = some fn ∧ (fn.name == "runtime.NumGoroutine") = false ∧ fn.body.isNone = true ∧ Extern.findNext fn = none ∧ Extern.find fn = some Extern.MapsClone.clone
theorem JL.mapClone {fi : FuncId} {ats : Array TypeId} {wr : Bool} (hf : IsClone P fi) (hx : ev E x = some (.iface t (.map (some b)))) (hM : Has M b (MB f es c) wr) (hd : Nat.blt d n = true)
    (kk : ∀ b', w0.heap.size ≤ b' → JL P n w0 S ops Q l ((d, .iface t (.map (some b'))) :: E) (⟨b', MB f es c, true⟩ :: M)) : JL P n w0 S ops Q (⟨some d, .call ⟨.value (.func fi), #[x], ats⟩, ty, pos, aft, none⟩ :: l) E M :=
  ⟨fun a w ha hw => wpList_plain rfl fun K hK => by
    obtain ⟨o, ho, rfl⟩ := hw.get hM
    obtain ⟨fn, h1, h2, h3, h4, h5⟩ := hf.go
    have r := run_callFunc_extern h1 h2 h3 h4 h5 #[.iface t (.map (some b))] w
    rw [run_maps_clone_sl (P := P) w t ho] at r
    simp only [Result.andThen] at r
    have r' : (execOp a.eval ⟨some d, .call ⟨.value (.func fi), #[x], ats⟩, ty, pos, aft, none⟩).run P w = .ok (.value (.iface t (.map (some w.heap.size)))) (w.alloc (.map (es.map (ME.en f)).toArray c)) := by
      have k1 := ha.eval hx
      rw [← r]
      simp [execOp, resolve, Sem.run_bind, Act.eval, Deferred.ofValue, invoke, k1]
      simp [Act.eval] at k1
      simp [k1]
    unfold Oper.wp
    rw [r']
    exact hK _ _ ((kk w.heap.size hw.chg.size).go _ _ (ha.put d _ hd) (hw.push (.map (es.map (ME.en f)).toArray c) rfl rfl rfl rfl rfl))⟩
end
theorem isClone : IsClone Tryz.prog 96 := ⟨_, Tryz.func96, by kernel_rfl, rfl, by kernel_rfl, by kernel_rfl⟩
theorem goes_mclone : Goes Tryz.prog 78 := ⟨_, Tryz.func78, rfl, by kernel_rfl⟩
set_option maxHeartbeats 16000000 in
theorem mclone_any (b : Nat) (z : MV × Nat) (w : World) (hb : ∃ o, w.heap[b]? = some o ∧ MvB z o) :
    Calls Tryz.prog 78 [.map (some b)].toArray w fun e w' => ∃ b', e = .returned (.map (some b')) ∧ Holds w [] [⟨b', MvB z, true⟩] w' := by
  obtain ⟨o, ho, hA⟩ := hb
  refine enter (n := 9) Tryz.func78 rfl rfl rfl (Holds.seen (S := []) ho hA) ?_
  repeat (first | refine JL.q (by first | (apply OQ.mapNil; exact Tryz.underlying94; exact rfl; exact rfl) | (apply OQ.move; exact rfl) | (apply OQ.assign; exact rfl)) rfl ?_ | refine JC.seq ?_ | refine JC.region ?_ | refine JL.nil ?_ | refine JE.next ?_)
  refine JC.cond_false rfl rfl ?_
  repeat (first | refine JL.q (by first | (apply OQ.mapIface; exact Tryz.underlying94; exact rfl) | (apply OQ.move; exact rfl)) rfl ?_ | refine JC.seq ?_ | refine JC.region ?_ | refine JC.skip ?_ | refine JE.next ?_)
  refine JL.mapClone isClone rfl .here rfl fun b' _ => ?_
  repeat (first | refine JL.q (by first | (apply OQ.mapAssert; exact Tryz.underlying94; exact rfl) | (apply OQ.assign; exact rfl)) rfl ?_ | refine JL.nil ?_ | refine JE.next ?_)
  exact JC.ret (JE.ret1 rfl (RV.tmp rfl) fun w' hw => ⟨b', rfl, hw.weak (less_pre _ _)⟩)
theorem SlP.ok.lt {w : World} {s : SlP} (h : s.ok w) (h0 : s.l ≠ []) (a : Addr) (e : s.ad = some a) : a.block < w.heap.size := by
  have : 0 < s.l.length := List.length_pos_iff.2 h0
  obtain ⟨b, j, e', lb, _⟩ := h.at this
  rw [e, Option.some.injEq] at e'
  rw [e']
  exact lb
theorem awayP_old {w0 w : World} {X M : List Ent} {s : SlP} (hw : Holds w0 [] (X ++ M) w) (hX : ∀ e ∈ X, e.wr = true) (hs : s.ok w0) : AwayP s (keys X) := by
  refine ⟨fun h0 a ha hm => ?_, fun p hp => away_old hw hX (hs.all p hp)⟩
  obtain ⟨e, he, hb⟩ := List.mem_map.1 hm
  have h1 := hs.lt h0 a ha
  rcases (hw.all e (List.mem_append_left _ he)).2 (hX e he) with h | h
  · cases h
  · omega
theorem goes_behind : Goes Tryz.prog 57 := ⟨_, Tryz.func57, rfl, by kernel_rfl⟩
set_option maxHeartbeats 16000000 in
theorem behind_any (b : Nat) (z : MV × Nat) (s : SlP) (w : World) (hb : ∃ o, w.heap[b]? = some o ∧ MvB z o) (hs : s.ok w) (hn : s.l.length ≤ 4294967296) :
    Calls Tryz.prog 57 [.map (some b), s.v].toArray w fun e w' => ∃ b', e = .returned (.map (some b')) ∧ Holds w [] [⟨b', MvB (doMs z s.l), true⟩] w' := by
  obtain ⟨o, ho, hA⟩ := hb
  refine enter (n := 12) Tryz.func57 rfl rfl rfl (Holds.seen (S := []) ho hA) ?_
  repeat (first | refine JL.q (by first | (apply OQ.move; exact rfl) | (apply OQ.assign; exact rfl)) rfl ?_ | refine JC.seq ?_ | refine JC.region ?_ | refine JL.nil ?_ | refine JE.next ?_)
  refine JL.callg (ι := Nat) (vs := [.map (some b)]) (fun b' => .map (some b')) (fun b' => [⟨b', MvB z, true⟩]) goes_mclone rfl rfl (by simp) (fun w' hw' => mclone_any b z w' (hw'.get .here)) fun b' => ?_
  repeat (first | refine JL.q (by first | (apply OQ.move; exact rfl) | (apply OQ.assign; exact rfl)) rfl ?_ | refine JC.seq ?_ | refine JC.region ?_ | refine JL.nil ?_ | refine JE.next ?_)
  refine JL.callV (ι := Unit) (X := [⟨b', MvB z, true⟩]) (vs := [.map (some b'), s.v]) (fun _ => .tuple #[]) (fun _ => [⟨b', MvB (doMs z s.l), true⟩]) goes_do rfl rfl (by simp) (by simp) (fun w' h0 hw' => (do_any s b' z.1 z.2 w' (hs.holds h0 rfl) hn (awayP_old h0 (by simp) hs) hw').mono fun _ _ ⟨h1, h2⟩ => ⟨(), h1, h2⟩) fun _ => ?_
  repeat (first | refine JL.q (by first | (apply OQ.move; exact rfl) | (apply OQ.assign; exact rfl)) rfl ?_ | refine JC.seq ?_ | refine JC.region ?_ | refine JL.nil ?_ | refine JE.next ?_)
  exact JC.ret (JE.ret1 rfl (RV.tmp rfl) fun w' hw => ⟨b', rfl, hw.weak (less_pre _ _)⟩)
end Go.Proofs.YtjkncnbpaejamaaGreatDoor

/-
  Of no statement by itself: slices.Sort over texts, by the library's contract over any program; rows of texts in the order of their bytes.
  Conditions: each theorem's own.
-/
namespace Go.Proofs.YtjkncnbpaejamaaGreatDoor
set_option maxRecDepth 10000
namespace Sto
open Dsk Jrn
def toU (k : Bk) : List UInt8 := k.map UInt8.ofBitVec
def unU (x : List UInt8) : Bk := x.map UInt8.toBitVec
theorem unU_toU (k : Bk) : unU (toU k) = k := by simp [unU, toU, Function.comp_def]
theorem toU_unU (x : List UInt8) : toU (unU x) = x := by simp [unU, toU, Function.comp_def]
theorem klt_toU : ∀ (a b : Bk), klt a b = decide (toU a < toU b)
  | [], [] => by simp [klt, toU]
  | [], _ :: _ => by simp [klt, toU]
  | _ :: _, [] => by simp [klt, toU]
  | a :: l, b :: r => by
    have ih := klt_toU l r
    have e1 : toU (a :: l) = UInt8.ofBitVec a :: toU l := rfl
    have e2 : toU (b :: r) = UInt8.ofBitVec b :: toU r := rfl
    have h1 : (UInt8.ofBitVec a < UInt8.ofBitVec b) ↔ a.toNat < b.toNat := Iff.rfl
    have h2 : (UInt8.ofBitVec a = UInt8.ofBitVec b) ↔ a.toNat = b.toNat := ⟨fun h => by have := congrArg UInt8.toBitVec h; simpa using congrArg BitVec.toNat this, fun h => by rw [BitVec.eq_of_toNat_eq h]⟩
    rw [klt, e1, e2, ih]
    by_cases c1 : a.toNat < b.toNat
    · rw [if_pos c1]
      exact (decide_eq_true (List.cons_lt_cons_iff.2 (.inl (h1.2 c1)))).symm
    · rw [if_neg c1]
      by_cases c2 : b.toNat < a.toNat
      · rw [if_pos c2]
        refine (decide_eq_false fun h => ?_).symm
        rcases List.cons_lt_cons_iff.1 h with h | h
        · exact c1 (h1.1 h)
        · have := h2.1 h.1; omega
      · rw [if_neg c2]
        refine decide_eq_decide.2 ⟨fun h => List.cons_lt_cons_iff.2 (.inr ⟨h2.2 (by omega), h⟩), fun h => ?_⟩
        rcases List.cons_lt_cons_iff.1 h with h | h
        · exact absurd (h1.1 h) c1
        · exact h.2
theorem le_klt (a b : Bk) : decide (toU a ≤ toU b) = !klt b a := by
  rw [klt_toU, ← decide_not]
  exact decide_eq_decide.2 List.not_lt.symm
def sortK (ks : List Bk) : List Bk := ((ks.map toU).mergeSort fun x y => decide (x ≤ y)).map unU
theorem sortK_toU (ks : List Bk) : (sortK ks).map toU = (ks.map toU).mergeSort fun x y => decide (x ≤ y) := by
  unfold sortK
  rw [List.map_map, show toU ∘ unU = id from funext toU_unU, List.map_id]
theorem sortK_perm (ks : List Bk) : (sortK ks).Perm ks := by
  unfold sortK
  have h := (List.mergeSort_perm (ks.map toU) fun x y => decide (x ≤ y)).map unU
  rwa [List.map_map, show unU ∘ toU = id from funext unU_toU, List.map_id] at h
theorem sortK_len (ks : List Bk) : (sortK ks).length = ks.length := (sortK_perm ks).length_eq
theorem sortK_pair (ks : List Bk) : (sortK ks).Pairwise fun a b => klt b a = false := by
  have tr : ∀ a b c : List UInt8, decide (a ≤ b) = true → decide (b ≤ c) = true → decide (a ≤ c) = true := fun a b c h1 h2 => by simp only [decide_eq_true_eq] at *; exact List.le_trans h1 h2
  have to : ∀ a b : List UInt8, (decide (a ≤ b) || decide (b ≤ a)) = true := fun a b => by simp only [Bool.or_eq_true, decide_eq_true_eq]; exact List.le_total a b
  have h := List.pairwise_mergeSort tr to (ks.map toU)
  rw [← sortK_toU, List.pairwise_map] at h
  exact h.imp fun {a b} h => by rw [le_klt] at h; simpa using h
theorem sortK_is {ks ts : List Bk} (hp : ks.Perm ts) (ht : ts.Pairwise fun a b => klt a b = true) : sortK ks = ts := by
  refine List.Perm.eq_of_pairwise (le := fun a b => klt b a = false) (fun a b _ _ h1 h2 => ?_) (sortK_pair ks) (ht.imp fun h => klt_asymm h) ((sortK_perm ks).trans hp)
  by_cases e : a = b
  · exact e
  · have := klt_total a b e h2; rw [h1] at this; cases this
end Sto
open Sl Dsk Jrn Sto Go.Shelf Go.Sort
def sortRen16 : Ren := ⟨fun | 190 => 70 | 125 => 91 | 258 => 90 | 128 => 115 | 129 => 116 | 302 => 106 | 303 => 107 | 304 => 108 | 305 => 109 | 306 => 110 | 307 => 111 | 308 => 112 | 309 => 113 | 310 => 114 | 333 => 125 | 329 => 126 | 330 => 127 | 334 => 128 | 335 => 129 | 336 => 130 | 344 => 133 | n => n,
  fun | 31 => 33 | 9 => 9 | 3 => 3 | 46 => 109 | 0 => 0 | 51 => 117 | 53 => 82 | 4 => 4 | 183 => 194 | 182 => 193 | 131 => 198 | 5 => 5 | 218 => 211 | 222 => 215 | 228 => 217 | 229 => 218 | n => n,
  fun n => n⟩
theorem sort16 : Lays.n190 Tryz.prog sortRen16 := {
  mixed := by kernel_rfl
  f125 := Tryz.func91.trans (congrArg some (by kernel_rfl))
  f128 := Tryz.func115.trans (congrArg some (by kernel_rfl))
  f129 := Tryz.func116.trans (congrArg some (by kernel_rfl))
  f190 := Tryz.func70.trans (congrArg some (by kernel_rfl))
  f258 := Tryz.func90.trans (congrArg some (by kernel_rfl))
  f302 := Tryz.func106.trans (congrArg some (by kernel_rfl))
  f303 := Tryz.func107.trans (congrArg some (by kernel_rfl))
  f304 := Tryz.func108.trans (congrArg some (by kernel_rfl))
  f305 := Tryz.func109.trans (congrArg some (by kernel_rfl))
  f306 := Tryz.func110.trans (congrArg some (by kernel_rfl))
  f307 := Tryz.func111.trans (congrArg some (by kernel_rfl))
  f308 := Tryz.func112.trans (congrArg some (by kernel_rfl))
  f309 := Tryz.func113.trans (congrArg some (by kernel_rfl))
  f310 := Tryz.func114.trans (congrArg some (by kernel_rfl))
  f329 := Tryz.func126.trans (congrArg some (by kernel_rfl))
  f330 := Tryz.func127.trans (congrArg some (by kernel_rfl))
  f333 := Tryz.func125.trans (congrArg some (by kernel_rfl))
  f334 := Tryz.func128.trans (congrArg some (by kernel_rfl))
  f335 := Tryz.func129.trans (congrArg some (by kernel_rfl))
  f336 := Tryz.func130.trans (congrArg some (by kernel_rfl))
  f344 := Tryz.func133.trans (congrArg some (by kernel_rfl))
  t0 := Tryz.underlying0
  a0 := Tryz.isAgg0
  z0 := Tryz.sizeOf0
  v0 := Tryz.zeroValue0
  t3 := Tryz.underlying3
  a3 := Tryz.isAgg3
  z3 := Tryz.sizeOf3
  v3 := Tryz.zeroValue3
  t4 := Tryz.underlying4
  a4 := Tryz.isAgg4
  z4 := Tryz.sizeOf4
  v4 := Tryz.zeroValue4
  t5 := Tryz.underlying5
  a5 := Tryz.isAgg5
  z5 := Tryz.sizeOf5
  v5 := Tryz.zeroValue5
  t9 := Tryz.underlying9
  a9 := Tryz.isAgg9
  z9 := Tryz.sizeOf9
  v9 := Tryz.zeroValue9
  t31 := Tryz.underlying33
  a31 := Tryz.isAgg33
  z31 := Tryz.sizeOf33
  v31 := Tryz.zeroValue33
  t46 := Tryz.underlying109
  a46 := Tryz.isAgg109
  z46 := Tryz.sizeOf109
  v46 := Tryz.zeroValue109
  t51 := Tryz.underlying117
  a51 := Tryz.isAgg117
  z51 := Tryz.sizeOf117
  v51 := Tryz.zeroValue117
  t53 := Tryz.underlying82
  a53 := Tryz.isAgg82
  z53 := Tryz.sizeOf82
  v53 := Tryz.zeroValue82
  t131 := Tryz.underlying198
  a131 := Tryz.isAgg198
  z131 := Tryz.sizeOf198
  v131 := Tryz.zeroValue198
  t182 := Tryz.underlying193
  a182 := Tryz.isAgg193
  z182 := Tryz.sizeOf193
  v182 := Tryz.zeroValue193
  t183 := Tryz.underlying194
  a183 := Tryz.isAgg194
  z183 := Tryz.sizeOf194
  v183 := Tryz.zeroValue194
  t218 := Tryz.underlying211
  a218 := Tryz.isAgg211
  z218 := Tryz.sizeOf211
  v218 := Tryz.zeroValue211
  t222 := Tryz.underlying215
  a222 := Tryz.isAgg215
  z222 := Tryz.sizeOf215
  v222 := Tryz.zeroValue215
  t228 := Tryz.underlying217
  a228 := Tryz.isAgg217
  z228 := Tryz.sizeOf217
  v228 := Tryz.zeroValue217
  t229 := Tryz.underlying218
  a229 := Tryz.isAgg218
  z229 := Tryz.sizeOf218
  v229 := Tryz.zeroValue218 }
theorem goes_sortS : Goes Tryz.prog 70 := ⟨_, Tryz.func70, rfl, by kernel_rfl⟩
theorem sorts_any (q : Acc) (ks : List Bk) (hq : q = none → ks = []) (hl : ks.length ≤ 4294967296) (w : World) (hw : Sl.Holds w (keys (accE 9 q (ks.map Z))) (accE 9 q (ks.map Z)) w) :
    Calls Tryz.prog 70 [accV q ks.length].toArray w fun e w' => e = .returned (.tuple #[]) ∧ Sl.Holds w (keys (accE 9 q (ks.map Z))) (accE 9 q ((sortK ks).map Z)) w' := by
  cases q with
  | none =>
    rw [hq rfl]
    exact (Any.slices_Sort_string_none sort16 none 0 w).mono fun e w' ⟨h1, h2⟩ => ⟨h1, by rw [h2]; exact Sl.Holds.start _ _⟩
  | some p =>
    obtain ⟨g, cap⟩ := p
    obtain ⟨o, ho, sp, rfl, h1, h2, h3⟩ := hw.get (b := g) (A := Sl.Own 9 1 (ks.map Z).length cap (ks.map Z)) (wr := true) .here
    have e1 : (ks.map toU).map encStr = ks.map Z := by rw [List.map_map]; rfl
    have hH : Go.Sort.Holds encStr w g 0 (ks.map toU).toArray := holds_of_block ho (by
      rw [e1, List.length_map, List.toList_toArray]
      exact List.take_left' (List.length_map _))
    have hlt : g < w.heap.size := (Array.getElem?_eq_some_iff.1 ho).1
    have h := Any.slices_Sort_string sort16 g 0 cap (ks.map toU) w hH hlt (by rw [List.length_map]; omega)
    rw [List.length_map] at h
    refine h.mono fun e w' ⟨he, n, os, hw'⟩ => ⟨he, ?_⟩
    rw [← sortK_toU] at hw'
    subst hw'
    have e2 : ((sortK ks).map toU).map encStr = (sortK ks).map Z := by rw [List.map_map]; rfl
    have hsz : ((sortK ks).map Z).length = (ks.map Z).length := by rw [List.length_map, List.length_map, sortK_len]
    refine ⟨⟨rfl, rfl, rfl, by simp [grow, putRow, mapBlock, Sort.ahead], fun k hk hS => ?_⟩, by simp [accE], fun x hx => ?_⟩
    · rw [heap_grow_old _ _ (by simpa using hk)]
      have : g ≠ k := fun e => hS (by simp [keys, accE, e])
      simp [putRow, mapBlock, Sort.ahead, Array.getElem?_modify, this]
    · have hx' : x = ⟨g, Sl.Own 9 1 ((sortK ks).map Z).length cap ((sortK ks).map Z), true⟩ := List.mem_singleton.1 hx
      subst hx'
      refine ⟨⟨_, heap_sorted _ ho, ?_⟩, fun _ => .inl (by simp [keys, accE])⟩
      have hk := take_putCells (ks.map Z ++ sp).toArray ((sortK ks).map toU) (by simp [sortK_len])
      rw [e2, List.length_map, ← List.length_map (f := Z)] at hk
      have hcat := List.take_append_drop ((sortK ks).map Z).length (putCells encStr 0 ((sortK ks).map toU).toArray (ks.map Z ++ sp).toArray).toList
      rw [hk] at hcat
      refine ⟨(putCells encStr 0 ((sortK ks).map toU).toArray (ks.map Z ++ sp).toArray).toList.drop ((sortK ks).map Z).length, ?_, ?_, by simp, by rw [hsz]; exact h3⟩
      · rw [hcat, Array.toArray_toList]
      · rw [hcat]
        simp only [putCells, Array.length_toList, Array.size_mapIdx]
        simpa using h1
end Go.Proofs.YtjkncnbpaejamaaGreatDoor
