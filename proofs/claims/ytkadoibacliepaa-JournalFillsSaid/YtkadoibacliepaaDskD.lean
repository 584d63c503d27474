/-
  Of no statement by itself: the landed disk's Crash, slices.Clone of blocks, Twin.
  Conditions: each theorem's own.
-/
import Derived.Test.YtkadoibacliepaaDskC
namespace Go.Proofs.Ytkadoibacliepaa
set_option maxRecDepth 10000
open Sl Dsk
section
variable {P : Program} {n : Nat} {E : Env} {C : World → Prop} {dst : Option Tmp} {t t' e ty : TypeId} {pos : String} {aft : Array Edge} {g : Option (Nat × Bool)} {x y : Operand}
theorem OQ.slA_hi {len b j hi sz : Nat} (hu : P.underlying t = some (.array len e)) (hz : szT P e = some sz) (hx : ev E x = some (.pointer (some ⟨b, j, none⟩))) (hh : ev E y = some (N hi)) (h' : hi ≤ len) :
    OQ P n E C ⟨dst, .slice t x none (some y) none, ty, pos, aft, g⟩ (.slice (some ⟨b, j, none⟩) hi len) :=
  OQ.run fun a ha w _ => by
    have h1 := ha.eval hx
    have h2 := ha.eval hh
    have h3 : (underlying t).run P w = .ok (.array len e) w := run_underlying hu w
    have h6 : (⟨b, j, none⟩ : Addr).add 0 = ⟨b, j, none⟩ := by rw [add_off]; rfl
    simp [execOp, h1, h2, Instr.sliceAt, Sem.run_bind, h3, Instr.sureAddr, Instr.sliceBounds, Instr.sliceBound, asIntOf, h', sizeOf_run hz, h6]
end
/-- bytes that lie apart from some blocks -/
def Away (s : Sl8) (S : List Nat) : Prop := s.l ≠ [] → ∀ a, s.ad = some a → a.block ∉ S
theorem undoE_wr (x : Dp) (s : List Bk × List (Nat × Bk)) : ∀ e ∈ undoE x s, e.wr = true := by
  intro e he
  rcases List.mem_cons.1 he with rfl | he
  · rfl
  · rcases List.mem_cons.1 he with rfl | he
    · rfl
    · exact accC_wr _ _ _ _ e he
theorem goes_crash : Goes Try.prog 29 := ⟨_, Try.func29, rfl, by kernel_rfl⟩
set_option maxHeartbeats 16000000 in
theorem crash_any (x : Dp) (bl : List Bk) (pd : List (Nat × Bk)) (s : Sl8) (h : DkOk x bl pd) (w : World) (hs : s.ok w) (hl : s.l.length ≤ 1000000) (hap : Away s (keys (dkE x bl pd))) (hw : Holds w (keys (dkE x bl pd)) (dkE x bl pd) w) :
    Calls Try.prog 29 [Pt x.p 0, s.v].toArray w fun e w' => e = .returned (.tuple #[]) ∧ Holds w (keys (dkE x bl pd)) (dkE ⟨x.p, x.q, x.cap, none⟩ (crash s.l bl pd) []) w' := by
  have hm := h.m
  have hun := fun w' hw' => undo_any x bl pd h w' hw'
  have hul := undo_len bl pd
  have hok := h.ok.undo
  generalize hS : keys (dkE x bl pd) = S at hw hap ⊢
  have hS2 := hS
  have hcr : crash s.l bl pd = redoN s.l (undo bl pd).1 (undo bl pd).2 (undo bl pd).2.length := rfl
  obtain ⟨lb, hlb⟩ : ∃ lb, (undo bl pd).1 = lb := ⟨_, rfl⟩
  obtain ⟨ws, hws⟩ : ∃ ws, (undo bl pd).2 = ws := ⟨_, rfl⟩
  have hU : undo bl pd = (lb, ws) := by rw [← hlb, ← hws]
  rw [hU] at hcr hun hul hok
  dsimp only at hcr hul hok
  have hqa : x.a = none → pd.length = 0 := fun e => by rw [h.a e]; rfl
  refine enter (n := 39) Try.func29 rfl rfl rfl hw ?_
  repeat (first | refine JL.q (by first | (apply OQ.move; exact rfl) | (apply OQ.assign; exact rfl) | (apply OQ.nilc; exact rfl) | (apply OQ.len; exact rfl; exact rfl) | (apply OQ.addN; exact rfl; exact rfl; exact (by (try simp only []); omega)) | (apply OQ.remN; exact rfl; exact rfl; exact (by (try simp only []); omega)) | (apply OQ.lssN; exact rfl; exact rfl) | (apply OQ.gtrN; exact rfl; exact rfl) | (apply OQ.idxS; exact rfl; exact rfl; exact rfl; exact rfl; exact (by (try simp only []); omega)) | (apply OQ.fld; exact rfl; exact rfl; exact rfl; exact (by decide); exact rfl)) rfl ?_ | refine JC.seq ?_ | refine JC.region ?_ | refine JC.block ?_ | refine JC.skip ?_ | refine JC.exit ?_ | refine JL.nil ?_ | refine JE.next ?_ | refine JE.blk_normal ?_ | refine JE.then_exit ?_ | refine JE.blk_hit ?_ | refine JE.blk_miss rfl ?_ | refine JE.then_ret ?_ | refine JE.blk_ret ?_ | refine JC.label ?_ | refine JL.gon rfl rfl ?_ | refine JL.gskip rfl rfl rfl rfl ?_ | refine JL.gskipU rfl rfl rfl rfl ?_)
  refine JL.perm ?_ (List.Perm.of_eq (List.append_nil _).symm)
  refine JL.callW (ι := Unit) (X := dkE x bl pd) (M0 := []) (vs := [Pt x.p 0]) (fun _ => accV x.a pd.length) (fun _ => undoE x (lb, ws)) goes_undo rfl rfl (dkE_wr _ _ _) (fun _ => undoE_wr _ _) (fun w' hw' => ?_) fun _ => ?_
  · exact (hun w' (by simpa [cold] using hw')).mono fun e w2 ⟨h1, h2⟩ => ⟨(), h1, h2⟩
  refine JL.perm ?_ (List.Perm.of_eq (List.append_nil _))
  repeat (first | refine JL.q (by first | (apply OQ.lenV; exact Try.underlying109; exact hqa; exact rfl) | (apply OQ.move; exact rfl) | (apply OQ.assign; exact rfl) | (apply OQ.nilc; exact rfl) | (apply OQ.len; exact rfl; exact rfl) | (apply OQ.addN; exact rfl; exact rfl; exact (by (try simp only []); omega)) | (apply OQ.remN; exact rfl; exact rfl; exact (by (try simp only []); omega)) | (apply OQ.lssN; exact rfl; exact rfl) | (apply OQ.gtrN; exact rfl; exact rfl) | (apply OQ.idxS; exact rfl; exact rfl; exact rfl; exact rfl; exact (by (try simp only []); omega)) | (apply OQ.fld; exact rfl; exact rfl; exact rfl; exact (by decide); exact rfl)) rfl ?_ | refine JC.seq ?_ | refine JC.region ?_ | refine JC.block ?_ | refine JC.skip ?_ | refine JC.exit ?_ | refine JL.nil ?_ | refine JE.next ?_ | refine JE.blk_normal ?_ | refine JE.then_exit ?_ | refine JE.blk_hit ?_ | refine JE.blk_miss rfl ?_ | refine JE.then_ret ?_ | refine JE.blk_ret ?_ | refine JC.label ?_ | refine JL.gon rfl rfl ?_ | refine JL.gskip rfl rfl rfl rfl ?_ | refine JL.gskipU rfl rfl rfl rfl ?_)
  refine JC.loop (fun i : Nat => [(0, Pt x.p 0), (1, s.v), (8, accV x.a pd.length), (9, N pd.length), (10, N i)]) (fun i => undoE x (redoN s.l lb ws i, ws)) (fun i => pd.length - i) (fun i => i ≤ pd.length) 0 (Nat.zero_le _) (by repeat (first | exact SubE.nil | refine SubE.cons _ _ _ rfl ?_)) (by rw [redoN_zero]; exact Less.refl _) ?_
  intro i hi
  repeat (first | refine JL.q (by first | (apply OQ.move; exact rfl) | (apply OQ.assign; exact rfl) | (apply OQ.nilc; exact rfl) | (apply OQ.len; exact rfl; exact rfl) | (apply OQ.addN; exact rfl; exact rfl; exact (by (try simp only []); omega)) | (apply OQ.remN; exact rfl; exact rfl; exact (by (try simp only []); omega)) | (apply OQ.lssN; exact rfl; exact rfl) | (apply OQ.gtrN; exact rfl; exact rfl) | (apply OQ.idxS; exact rfl; exact rfl; exact rfl; exact rfl; exact (by (try simp only []); omega)) | (apply OQ.fld; exact rfl; exact rfl; exact rfl; exact (by decide); exact rfl)) rfl ?_ | refine JC.seq ?_ | refine JC.region ?_ | refine JC.block ?_ | refine JC.skip ?_ | refine JC.exit ?_ | refine JL.nil ?_ | refine JE.next ?_ | refine JE.blk_normal ?_ | refine JE.then_exit ?_ | refine JE.blk_hit ?_ | refine JE.blk_miss rfl ?_ | refine JE.then_ret ?_ | refine JE.blk_ret ?_ | refine JC.label ?_ | refine JL.gon rfl rfl ?_ | refine JL.gskip rfl rfl rfl rfl ?_ | refine JL.gskipU rfl rfl rfl rfl ?_)
  refine JC.cond rfl (fun h2 => ?_) (fun h2 => ?_)
  · have hi' : i < pd.length := by have := of_decide_eq_true h2; omega
    clear h2
    have hiw : i < ws.length := by omega
    obtain ⟨r, hr⟩ : ∃ r, x.a = some r := by
      cases e : x.a with
      | none => have := hqa e; omega
      | some r => exact ⟨r, rfl⟩
    have okL := hok.redoN (picks := s.l) i (by omega)
    have hll := redoN_len s.l lb ws i
    have hsucc := redoN_succ s.l lb ws i
    obtain ⟨L, hL⟩ : ∃ L, redoN s.l lb ws i = L := ⟨_, rfl⟩
    rw [hL] at okL hll hsucc ⊢
    obtain ⟨v, hv⟩ : ∃ v, nth ws i = v := ⟨_, rfl⟩
    obtain ⟨hv1, hv2⟩ := okL.p _ (nth_mem hiw)
    rw [hv] at hv1 hv2 hsucc
    have hwl : (wc v).length = 65 := by rw [wc, List.length_cons, bc_len hv2]
    have hwo : (wc v).all Value.oneCell' = true := by rw [wc, List.all_cons, bc_cell]; rfl
    have eU : undoE x (L, ws) = [⟨x.p, Row 111 [.slice (some ⟨x.q, 0, none⟩) L.length x.cap, .slice none 0 0], true⟩, ⟨x.q, Sl.Own 83 64 L.length x.cap (bcs L).flatten, true⟩, ⟨r.1, Sl.Own 115 65 (wcs ws).length r.2 (wcs ws).flatten, true⟩] := by
      unfold undoE
      rw [hr]
      rfl
    have eU2 : undoE x (redoN s.l lb ws (i + 1), ws) = [⟨x.p, Row 111 [.slice (some ⟨x.q, 0, none⟩) L.length x.cap, .slice none 0 0], true⟩, ⟨x.q, Sl.Own 83 64 L.length x.cap ((bcs L).set v.1 (((bcs L).getD v.1 []).take 0 ++ (bc v.2).take (doneB (pick s.l i)) ++ ((bcs L).getD v.1 []).drop (0 + doneB (pick s.l i)))).flatten, true⟩, ⟨r.1, Sl.Own 115 65 (wcs ws).length r.2 (wcs ws).flatten, true⟩] := by
      rw [hsucc]
      unfold undoE
      rw [hr]
      dsimp only
      rw [part_len, bcs_at hv1]
      have e : bcs (Dsk.part L v (doneB (pick s.l i))) = (bcs L).set v.1 (List.take 0 (bc (old L v.1)) ++ (bc v.2).take (doneB (pick s.l i)) ++ (bc (old L v.1)).drop (0 + doneB (pick s.l i))) := by
        unfold Dsk.part
        rw [← bcs_set]
        simp [bc, List.map_take, List.map_drop]
      rw [e]
      rfl
    rw [eU, hr]
    repeat (first | refine JL.q (by first | (apply OQ.idxS (i := i); exact Try.underlying109; exact dwB; exact rfl; exact rfl; exact hi') | (apply OQ.move; exact rfl) | (apply OQ.assign; exact rfl) | (apply OQ.nilc; exact rfl) | (apply OQ.len; exact rfl; exact rfl) | (apply OQ.addN; exact rfl; exact rfl; exact (by (try simp only []); omega)) | (apply OQ.remN; exact rfl; exact rfl; exact (by (try simp only []); omega)) | (apply OQ.lssN; exact rfl; exact rfl) | (apply OQ.gtrN; exact rfl; exact rfl) | (apply OQ.idxS; exact rfl; exact rfl; exact rfl; exact rfl; exact (by (try simp only []); omega)) | (apply OQ.fld; exact rfl; exact rfl; exact rfl; exact (by decide); exact rfl)) rfl ?_ | refine JC.seq ?_ | refine JC.region ?_ | refine JC.block ?_ | refine JC.skip ?_ | refine JC.exit ?_ | refine JL.nil ?_ | refine JE.next ?_ | refine JE.blk_normal ?_ | refine JE.then_exit ?_ | refine JE.blk_hit ?_ | refine JE.blk_miss rfl ?_ | refine JE.then_ret ?_ | refine JE.blk_ret ?_ | refine JC.label ?_ | refine JL.gon rfl rfl ?_ | refine JL.gskip rfl rfl rfl rfl ?_ | refine JL.gskipU rfl rfl rfl rfl ?_)
    refine JL.q (v := .agg (wc v).toArray) (OQ.to (OQ.loadC (L := wcs ws) (i := i) dwAg dwB rfl (Nat.zero_add _) (.there (.there .here)) (wcs_len hok) (by rw [wcs_n]; exact hiw)) (by rw [wcs_at hiw, hv])) rfl ?_
    refine JL.alloc dwZ rfl fun b5 _ => ?_
    repeat (first | refine JL.q (by first | (apply OQ.move; exact rfl) | (apply OQ.assign; exact rfl) | (apply OQ.nilc; exact rfl) | (apply OQ.len; exact rfl; exact rfl) | (apply OQ.addN; exact rfl; exact rfl; exact (by (try simp only []); omega)) | (apply OQ.remN; exact rfl; exact rfl; exact (by (try simp only []); omega)) | (apply OQ.lssN; exact rfl; exact rfl) | (apply OQ.gtrN; exact rfl; exact rfl) | (apply OQ.idxS; exact rfl; exact rfl; exact rfl; exact rfl; exact (by (try simp only []); omega)) | (apply OQ.fld; exact rfl; exact rfl; exact rfl; exact (by decide); exact rfl)) rfl ?_ | refine JC.seq ?_ | refine JC.region ?_ | refine JC.block ?_ | refine JC.skip ?_ | refine JC.exit ?_ | refine JL.nil ?_ | refine JE.next ?_ | refine JE.blk_normal ?_ | refine JE.then_exit ?_ | refine JE.blk_hit ?_ | refine JE.blk_miss rfl ?_ | refine JE.then_ret ?_ | refine JE.blk_ret ?_ | refine JC.label ?_ | refine JL.gon rfl rfl ?_ | refine JL.gskip rfl rfl rfl rfl ?_ | refine JL.gskipU rfl rfl rfl rfl ?_)
    refine JL.store_all (cs := wc v) dwB rfl rfl hwl hwo .here rfl ?_
    repeat (first | refine JL.q (by first | (apply OQ.move; exact rfl) | (apply OQ.assign; exact rfl) | (apply OQ.nilc; exact rfl) | (apply OQ.len; exact rfl; exact rfl) | (apply OQ.addN; exact rfl; exact rfl; exact (by (try simp only []); omega)) | (apply OQ.remN; exact rfl; exact rfl; exact (by (try simp only []); omega)) | (apply OQ.lssN; exact rfl; exact rfl) | (apply OQ.gtrN; exact rfl; exact rfl) | (apply OQ.idxS; exact rfl; exact rfl; exact rfl; exact rfl; exact (by (try simp only []); omega)) | (apply OQ.fld; exact rfl; exact rfl; exact rfl; exact (by decide); exact rfl)) rfl ?_ | refine JC.seq ?_ | refine JC.region ?_ | refine JC.block ?_ | refine JC.skip ?_ | refine JC.exit ?_ | refine JL.nil ?_ | refine JE.next ?_ | refine JE.blk_normal ?_ | refine JE.then_exit ?_ | refine JE.blk_hit ?_ | refine JE.blk_miss rfl ?_ | refine JE.then_ret ?_ | refine JE.blk_ret ?_ | refine JC.label ?_ | refine JL.gon rfl rfl ?_ | refine JL.gskip rfl rfl rfl rfl ?_ | refine JL.gskipU rfl rfl rfl rfl ?_)
    refine JC.join (ι := Unit) (fun _ => [(6, U8 (pick s.l i)), (4, N i), (5, Pt b5 0), (0, Pt x.p 0), (1, s.v), (8, accV (some r) pd.length), (9, N pd.length), (10, N i)]) (fun _ => [⟨b5, Row 115 (wc v), true⟩, ⟨x.p, Row 111 [.slice (some ⟨x.q, 0, none⟩) L.length x.cap, .slice none 0 0], true⟩, ⟨x.q, Sl.Own 83 64 L.length x.cap (bcs L).flatten, true⟩, ⟨r.1, Sl.Own 115 65 (wcs ws).length r.2 (wcs ws).flatten, true⟩]) (fun _ => True) ?_ fun _ _ => ?_
    · by_cases h0 : s.l = []
      · have hp : pick s.l i = 0#8 := by unfold pick; rw [if_pos h0]; rfl
        rw [hp]
        refine JC.cond_false rfl (by rw [h0]; rfl) ?_
        repeat (first | refine JL.q (by first | (apply OQ.move; exact rfl) | (apply OQ.assign; exact rfl) | (apply OQ.nilc; exact rfl) | (apply OQ.len; exact rfl; exact rfl) | (apply OQ.addN; exact rfl; exact rfl; exact (by (try simp only []); omega)) | (apply OQ.remN; exact rfl; exact rfl; exact (by (try simp only []); omega)) | (apply OQ.lssN; exact rfl; exact rfl) | (apply OQ.gtrN; exact rfl; exact rfl) | (apply OQ.idxS; exact rfl; exact rfl; exact rfl; exact rfl; exact (by (try simp only []); omega)) | (apply OQ.fld; exact rfl; exact rfl; exact rfl; exact (by decide); exact rfl)) rfl ?_ | refine JC.seq ?_ | refine JC.region ?_ | refine JC.block ?_ | refine JC.skip ?_ | refine JC.exit ?_ | refine JL.nil ?_ | refine JE.next ?_ | refine JE.blk_normal ?_ | refine JE.then_exit ?_ | refine JE.blk_hit ?_ | refine JE.blk_miss rfl ?_ | refine JE.then_ret ?_ | refine JE.blk_ret ?_ | refine JC.label ?_ | refine JL.gon rfl rfl ?_ | refine JL.gskip rfl rfl rfl rfl ?_ | refine JL.gskipU rfl rfl rfl rfl ?_)
        exact JE.mid () trivial (by repeat (first | exact SubE.nil | refine SubE.cons _ _ _ rfl ?_)) (Less.refl _)
      · have hpos : 0 < s.l.length := List.length_pos_iff.2 h0
        have hp : pick s.l i = s.l.getD (i % s.l.length) 0 := by unfold pick; rw [if_neg h0]
        obtain ⟨bs, js, hae, hca⟩ := hs.reads.at (by simpa using hpos)
        have him : i % s.l.length < s.l.length := Nat.mod_lt _ hpos
        have hca := hca (i % s.l.length) _ (map_at U8 0 him)
        have hbs : bs ∉ S := hap h0 _ hae
        rw [hp]
        have hsv : s.v = .slice (some ⟨bs, js, none⟩) s.l.length s.cap := by rw [← hae]; rfl
        rw [hsv]
        refine JC.cond_true rfl (decide_eq_true hpos) ?_
        repeat (first | refine JL.q (by first | (apply OQ.len (k := s.l.length); exact Try.underlying31; exact rfl) | (apply OQ.remN (a := i) (b := s.l.length); exact rfl; exact rfl; exact hpos) | (apply OQ.idxS1; exact Try.underlying31; exact u8s; exact rfl; exact rfl; exact him) | (apply OQ.load_old; exact u8c; exact rfl; exact (block_lt_of_cell hca); exact hbs; exact hca) | (apply OQ.move; exact rfl) | (apply OQ.assign; exact rfl) | (apply OQ.nilc; exact rfl) | (apply OQ.len; exact rfl; exact rfl) | (apply OQ.addN; exact rfl; exact rfl; exact (by (try simp only []); omega)) | (apply OQ.remN; exact rfl; exact rfl; exact (by (try simp only []); omega)) | (apply OQ.lssN; exact rfl; exact rfl) | (apply OQ.gtrN; exact rfl; exact rfl) | (apply OQ.idxS; exact rfl; exact rfl; exact rfl; exact rfl; exact (by (try simp only []); omega)) | (apply OQ.fld; exact rfl; exact rfl; exact rfl; exact (by decide); exact rfl)) rfl ?_ | refine JC.seq ?_ | refine JC.region ?_ | refine JC.block ?_ | refine JC.skip ?_ | refine JC.exit ?_ | refine JL.nil ?_ | refine JE.next ?_ | refine JE.blk_normal ?_ | refine JE.then_exit ?_ | refine JE.blk_hit ?_ | refine JE.blk_miss rfl ?_ | refine JE.then_ret ?_ | refine JE.blk_ret ?_ | refine JC.label ?_ | refine JL.gon rfl rfl ?_ | refine JL.gskip rfl rfl rfl rfl ?_ | refine JL.gskipU rfl rfl rfl rfl ?_)
        exact JE.mid () trivial (by repeat (first | exact SubE.nil | refine SubE.cons _ _ _ rfl ?_)) (Less.refl _)
    have hdl := doneB_le (pick s.l i)
    have cd := fun w' => done_any (pick s.l i) w'
    generalize doneB (pick s.l i) = d at hdl cd eU2
    generalize pick s.l i = pk at cd
    repeat (first | refine JL.q (by first | (apply OQ.move; exact rfl) | (apply OQ.assign; exact rfl) | (apply OQ.nilc; exact rfl) | (apply OQ.len; exact rfl; exact rfl) | (apply OQ.addN; exact rfl; exact rfl; exact (by (try simp only []); omega)) | (apply OQ.remN; exact rfl; exact rfl; exact (by (try simp only []); omega)) | (apply OQ.lssN; exact rfl; exact rfl) | (apply OQ.gtrN; exact rfl; exact rfl) | (apply OQ.idxS; exact rfl; exact rfl; exact rfl; exact rfl; exact (by (try simp only []); omega)) | (apply OQ.fld; exact rfl; exact rfl; exact rfl; exact (by decide); exact rfl)) rfl ?_ | refine JC.seq ?_ | refine JC.region ?_ | refine JC.block ?_ | refine JC.skip ?_ | refine JC.exit ?_ | refine JL.nil ?_ | refine JE.next ?_ | refine JE.blk_normal ?_ | refine JE.then_exit ?_ | refine JE.blk_hit ?_ | refine JE.blk_miss rfl ?_ | refine JE.then_ret ?_ | refine JE.blk_ret ?_ | refine JC.label ?_ | refine JL.gon rfl rfl ?_ | refine JL.gskip rfl rfl rfl rfl ?_ | refine JL.gskipU rfl rfl rfl rfl ?_)
    refine JC.tail 12 mixT (by kernel_rfl) ?_
    simp only [List.take_succ_cons, List.take_zero, List.drop_succ_cons, List.drop_zero]
    repeat (first | refine JL.q (by first | (apply OQ.load; exact bsC; exact rfl; exact (.there .here); exact (Row.cell (v := .slice (some ⟨x.q, 0, none⟩) L.length x.cap) rfl)) | (apply OQ.load; exact intC; exact rfl; exact .here; exact (Row.cell (v := N v.1) rfl)) | (apply OQ.idxS (i := v.1); exact Try.underlying22; exact dkB; exact rfl; exact rfl; exact hv1) | (apply OQ.callx (vs := [U8 pk]); exact goes_done; exact rfl; exact (fun w' _ => cd w')) | (apply OQ.slA_hi; exact Try.underlying83; exact u8s; exact rfl; exact rfl; exact hdl) | (apply OQ.slA; exact Try.underlying83; exact u8s; exact rfl) | (apply OQ.move; exact rfl) | (apply OQ.assign; exact rfl) | (apply OQ.nilc; exact rfl) | (apply OQ.len; exact rfl; exact rfl) | (apply OQ.addN; exact rfl; exact rfl; exact (by (try simp only []); omega)) | (apply OQ.remN; exact rfl; exact rfl; exact (by (try simp only []); omega)) | (apply OQ.lssN; exact rfl; exact rfl) | (apply OQ.gtrN; exact rfl; exact rfl) | (apply OQ.idxS; exact rfl; exact rfl; exact rfl; exact rfl; exact (by (try simp only []); omega)) | (apply OQ.fld; exact rfl; exact rfl; exact rfl; exact (by decide); exact rfl)) rfl ?_ | refine JQ.q (by first | (apply OQ.load; exact bsC; exact rfl; exact (.there .here); exact (Row.cell (v := .slice (some ⟨x.q, 0, none⟩) L.length x.cap) rfl)) | (apply OQ.load; exact intC; exact rfl; exact .here; exact (Row.cell (v := N v.1) rfl)) | (apply OQ.idxS (i := v.1); exact Try.underlying22; exact dkB; exact rfl; exact rfl; exact hv1) | (apply OQ.callx (vs := [U8 pk]); exact goes_done; exact rfl; exact (fun w' _ => cd w')) | (apply OQ.slA_hi; exact Try.underlying83; exact u8s; exact rfl; exact rfl; exact hdl) | (apply OQ.slA; exact Try.underlying83; exact u8s; exact rfl) | (apply OQ.move; exact rfl) | (apply OQ.assign; exact rfl) | (apply OQ.nilc; exact rfl) | (apply OQ.len; exact rfl; exact rfl) | (apply OQ.addN; exact rfl; exact rfl; exact (by (try simp only []); omega)) | (apply OQ.remN; exact rfl; exact rfl; exact (by (try simp only []); omega)) | (apply OQ.lssN; exact rfl; exact rfl) | (apply OQ.gtrN; exact rfl; exact rfl) | (apply OQ.idxS; exact rfl; exact rfl; exact rfl; exact rfl; exact (by (try simp only []); omega)) | (apply OQ.fld; exact rfl; exact rfl; exact rfl; exact (by decide); exact rfl)) rfl ?_ | refine JC.seq ?_ | refine JC.region ?_ | refine JC.block ?_ | refine JC.skip ?_ | refine JC.exit ?_ | refine JL.nil ?_ | refine JQ.nil ?_ | refine JQ.nil_tail ?_ | refine JE.next ?_ | refine JE.blk_normal ?_ | refine JE.then_exit ?_ | refine JE.blk_hit ?_ | refine JE.blk_miss rfl ?_ | refine JE.then_ret ?_ | refine JE.blk_ret ?_ | refine JC.label ?_ | refine JL.gon rfl rfl ?_ | refine JQ.gon rfl rfl ?_ | refine JL.gskip rfl rfl rfl rfl ?_ | refine JQ.gskip rfl rfl rfl rfl ?_ | refine JL.gskipU rfl rfl rfl rfl ?_ | refine JQ.gskipU rfl rfl rfl rfl ?_)
    refine JL.copyO (m := d) (sz := 1) (cs := (bc v.2).take d) (j := 0 + v.1 * 64) (A := Sl.Own 83 64 L.length x.cap (bcs L).flatten) (A' := Sl.Own 83 64 L.length x.cap ((bcs L).set v.1 (((bcs L).getD v.1 []).take 0 ++ (bc v.2).take d ++ ((bcs L).getD v.1 []).drop (0 + d))).flatten) Try.underlying31 u8s rfl rfl (.there (.there .here)) (Nat.min_eq_right hdl) (by rw [List.length_take, bc_len hv2]; omega) (fun w' hw' => ?_) (fun c hc => List.all_eq_true.1 (bc_cell v.2) c (List.mem_of_mem_take hc)) (fun o ho => ?_) rfl ?_
    · obtain ⟨o, ho, hA⟩ := hw'.get (b := b5) (A := Row 115 (wc v)) (wr := true) .here
      exact (Reads.block ho (Row.cells (wc_tail v) o hA)).take d
    · have hle : v.1 * 64 + 64 ≤ (bcs L).flatten.length := by rw [chunk_len (bcs_len okL), bcs_n, ← Nat.succ_mul]; exact Nat.mul_le_mul_right _ hv1
      have hcp := chunk_part (c := (bc v.2).take d) (off := 0) (sz' := d) (i := v.1) (bcs_len okL) (by rw [bcs_n]; exact hv1) (by omega)
      rw [Nat.add_zero] at hcp
      obtain ⟨sp, rfl, q1, q2, q3⟩ := ho
      have hxl : ((bcs L).flatten.take (v.1 * 64) ++ (bc v.2).take d ++ (bcs L).flatten.drop (v.1 * 64 + d)).length = (bcs L).flatten.length := by
        have : ((bc v.2).take d).length = d := by rw [List.length_take, bc_len hv2]; omega
        simp only [List.length_append, List.length_take, List.length_drop, this]
        omega
      refine ⟨_, _, rfl, by rw [List.length_append]; omega, sp, ?_, ?_, ?_, q3⟩
      · rw [← hcp, Nat.zero_add, Nat.mul_one, List.take_append_of_le_length (by omega), List.drop_append_of_le_length (by omega)]
        simp
      · rw [← hcp, List.length_append, hxl, ← List.length_append]
        exact q1
      · rw [← hcp, hxl]
        exact q2
    repeat (first | refine JL.q (by first | (apply OQ.move; exact rfl) | (apply OQ.assign; exact rfl) | (apply OQ.nilc; exact rfl) | (apply OQ.len; exact rfl; exact rfl) | (apply OQ.addN; exact rfl; exact rfl; exact (by (try simp only []); omega)) | (apply OQ.remN; exact rfl; exact rfl; exact (by (try simp only []); omega)) | (apply OQ.lssN; exact rfl; exact rfl) | (apply OQ.gtrN; exact rfl; exact rfl) | (apply OQ.idxS; exact rfl; exact rfl; exact rfl; exact rfl; exact (by (try simp only []); omega)) | (apply OQ.fld; exact rfl; exact rfl; exact rfl; exact (by decide); exact rfl)) rfl ?_ | refine JQ.q (by first | (apply OQ.move; exact rfl) | (apply OQ.assign; exact rfl) | (apply OQ.nilc; exact rfl) | (apply OQ.len; exact rfl; exact rfl) | (apply OQ.addN; exact rfl; exact rfl; exact (by (try simp only []); omega)) | (apply OQ.remN; exact rfl; exact rfl; exact (by (try simp only []); omega)) | (apply OQ.lssN; exact rfl; exact rfl) | (apply OQ.gtrN; exact rfl; exact rfl) | (apply OQ.idxS; exact rfl; exact rfl; exact rfl; exact rfl; exact (by (try simp only []); omega)) | (apply OQ.fld; exact rfl; exact rfl; exact rfl; exact (by decide); exact rfl)) rfl ?_ | refine JC.seq ?_ | refine JC.region ?_ | refine JC.block ?_ | refine JC.skip ?_ | refine JC.exit ?_ | refine JL.nil ?_ | refine JQ.nil ?_ | refine JQ.nil_tail ?_ | refine JE.next ?_ | refine JE.blk_normal ?_ | refine JE.then_exit ?_ | refine JE.blk_hit ?_ | refine JE.blk_miss rfl ?_ | refine JE.then_ret ?_ | refine JE.blk_ret ?_ | refine JC.label ?_ | refine JL.gon rfl rfl ?_ | refine JQ.gon rfl rfl ?_ | refine JL.gskip rfl rfl rfl rfl ?_ | refine JQ.gskip rfl rfl rfl rfl ?_ | refine JL.gskipU rfl rfl rfl rfl ?_ | refine JQ.gskipU rfl rfl rfl rfl ?_)
    refine JE.again (i := i) (i + 1) hi' (by omega) ?_ ?_
    · exact (by repeat (first | exact SubE.nil | refine SubE.cons _ _ _ rfl ?_))
    · rw [eU2]
      exact .drop _ _ _ (Less.refl _)
  · have hi' : i = pd.length := by have := of_decide_eq_false h2; omega
    subst hi'
    repeat (first | refine JL.q (by first | (apply OQ.move; exact rfl) | (apply OQ.assign; exact rfl) | (apply OQ.nilc; exact rfl) | (apply OQ.len; exact rfl; exact rfl) | (apply OQ.addN; exact rfl; exact rfl; exact (by (try simp only []); omega)) | (apply OQ.remN; exact rfl; exact rfl; exact (by (try simp only []); omega)) | (apply OQ.lssN; exact rfl; exact rfl) | (apply OQ.gtrN; exact rfl; exact rfl) | (apply OQ.idxS; exact rfl; exact rfl; exact rfl; exact rfl; exact (by (try simp only []); omega)) | (apply OQ.fld; exact rfl; exact rfl; exact rfl; exact (by decide); exact rfl)) rfl ?_ | refine JQ.q (by first | (apply OQ.move; exact rfl) | (apply OQ.assign; exact rfl) | (apply OQ.nilc; exact rfl) | (apply OQ.len; exact rfl; exact rfl) | (apply OQ.addN; exact rfl; exact rfl; exact (by (try simp only []); omega)) | (apply OQ.remN; exact rfl; exact rfl; exact (by (try simp only []); omega)) | (apply OQ.lssN; exact rfl; exact rfl) | (apply OQ.gtrN; exact rfl; exact rfl) | (apply OQ.idxS; exact rfl; exact rfl; exact rfl; exact rfl; exact (by (try simp only []); omega)) | (apply OQ.fld; exact rfl; exact rfl; exact rfl; exact (by decide); exact rfl)) rfl ?_ | refine JC.seq ?_ | refine JC.region ?_ | refine JC.block ?_ | refine JC.skip ?_ | refine JC.exit ?_ | refine JL.nil ?_ | refine JQ.nil ?_ | refine JQ.nil_tail ?_ | refine JE.next ?_ | refine JE.blk_normal ?_ | refine JE.then_exit ?_ | refine JE.blk_hit ?_ | refine JE.blk_miss rfl ?_ | refine JE.then_ret ?_ | refine JE.blk_ret ?_ | refine JC.label ?_ | refine JL.gon rfl rfl ?_ | refine JQ.gon rfl rfl ?_ | refine JL.gskip rfl rfl rfl rfl ?_ | refine JQ.gskip rfl rfl rfl rfl ?_ | refine JL.gskipU rfl rfl rfl rfl ?_ | refine JQ.gskipU rfl rfl rfl rfl ?_)
    refine JE.end0 rfl fun w' hw' => ⟨rfl, hw'.weak ?_⟩
    rw [hcr, hul.2]
    exact .keep _ _ _ _ _ _ (fun _ h => h) (.keep _ _ _ _ _ _ (fun _ h => h) (.nil _))
end Go.Proofs.Ytkadoibacliepaa
