/-
  Of no statement by itself: rules for calls of the landed disk's functions; slices.Clone of blocks, Twin.
  Conditions: each theorem's own.
-/
import Derived.Test.YtkadoibacliepaaDskD
import Derived.Laws.Cover3
namespace Go.Proofs.Ytkadoibacliepaa
set_option maxRecDepth 10000
open Sl Dsk
section
variable {P : Program} {n : Nat} {w0 : World} {S : List Nat} {ops : Array Oper} {Q : Exit → Act → World → Prop} {l : List Oper} {E : Env} {M : List Ent} {C : World → Prop}
variable {dst : Option Tmp} {d : Nat} {t t' e ty : TypeId} {pos : String} {aft : Array Edge} {g : Option (Nat × Bool)} {x y : Operand}
/-- a call that writes what came in, told of the world that it is called in -/
theorem JL.callV {ι : Type} {X M0 : List Ent} (vf : ι → Value) (Yf : ι → List Ent) {f : FuncId} {xs : List Operand} {ats : Array TypeId} {vs : List Value} (hg : Goes P f) (hx : evs E xs = some vs) (hd : Nat.blt d n = true) (hX : ∀ e ∈ X, e.wr = true) (hY : ∀ i, ∀ e ∈ Yf i, e.wr = true)
    (hc : ∀ w, Holds w0 S (X ++ M0) w → Holds w (keys X) X w → Calls P f vs.toArray w fun e w' => ∃ i, e = .returned (vf i) ∧ Holds w (keys X) (Yf i) w')
    (k : ∀ i, JL P n w0 S ops Q l ((d, vf i) :: E) (Yf i ++ M0)) : JL P n w0 S ops Q (⟨some d, .call ⟨.value (.func f), xs.toArray, ats⟩, ty, pos, aft, none⟩ :: l) E (X ++ M0) :=
  JL.call (ι := ι) vf (fun i => Yf i ++ M0) hg hx hd (fun w hw => (hc w hw (hw.own.weak (less_pre _ _))).mono fun _ _ ⟨i, h1, h2⟩ => ⟨i, h1, hw.swapW h2 hX (hY i)⟩) k
theorem OQ.isNilD {ad : Option Addr} {k cap : Nat} (hu : P.underlying t = some (.slice e)) (hx : ev E x = some (.slice ad k cap)) (hy : ev E y = some (.slice none 0 0)) :
    OQ P n E C ⟨dst, .binOp .eql t x y t', ty, pos, aft, g⟩ (.bool ad.isNone) :=
  OQ.run fun c ha w _ => by
    have h1 := ha.eval hx
    have h2 := ha.eval hy
    have h4 : (binOp .eql t (.slice ad k cap) (.slice none 0 0)).run P w = .ok (.bool ad.isNone) w := by
      show (do pure (.bool (← Op.equal t (.slice ad k cap) (.slice none 0 0))) : Sem Value).run P w = _
      simp [Sem.run_bind, run_equal_slice_nil w t e ad k cap hu]
    simp [execOp, h1, h2, eqGuard, h4]
theorem OQ.ptrNil {a : Option Addr} (hu : P.underlying t = some (.pointer e)) (hx : ev E x = some (.pointer a)) (hy : ev E y = some (.pointer none)) :
    OQ P n E C ⟨dst, .binOp .eql t x y t', ty, pos, aft, g⟩ (.bool a.isNone) :=
  OQ.run fun c ha w _ => by
    have h1 := ha.eval hx
    have h2 := ha.eval hy
    have h3 : ∀ w, (underlying t).run P w = .ok (.pointer e) w := run_underlying hu
    have h4 : (binOp .eql t (.pointer a) (.pointer none)).run P w = .ok (.bool a.isNone) w := by
      show (do pure (.bool (← Op.equalIn (9999 + 1) t (.pointer a) (.pointer none))) : Sem Value).run P w = _
      unfold Op.equalIn
      cases a <;> simp [Sem.run_bind, h3]
    simp [execOp, h1, h2, eqGuard, h4]
theorem OQ.idxSk {k : IntKind} {len cap b j i sz : Nat} (hu : P.underlying t = some (.slice e)) (hz : szT P e = some sz) (hx : ev E x = some (.slice (some ⟨b, j, none⟩) len cap)) (hy : ev E y = some (.int k (i : Int))) (hi : i < len) :
    OQ P n E C ⟨dst, .indexAddr t x y, ty, pos, aft, g⟩ (.pointer (some ⟨b, j + i * sz, none⟩)) :=
  OQ.run fun a ha w _ => by
    have h1 := ha.eval hx
    have h2 := ha.eval hy
    have h3 : (underlying t).run P w = .ok (.slice e) w := run_underlying hu w
    simp [execOp, h1, h2, Instr.indexAt, asIntOf, Sem.run_bind, h3, hi, sizeOf_run hz, add_off]
end
theorem gdBlk : Try.prog.eqGuardType Try.prog.depth 83 = false := by kernel_rfl
theorem away_old {w0 w : World} {X M : List Ent} {s : Sl8} (hw : Holds w0 [] (X ++ M) w) (hX : ∀ e ∈ X, e.wr = true) (hs : s.ok w0) : Away s (keys X) := by
  intro h0 a ha hm
  obtain ⟨e, he, hb⟩ := List.mem_map.1 hm
  have h1 := hs.lt h0 a ha
  rcases (hw.all e (List.mem_append_left _ he)).2 (hX e he) with h | h
  · cases h
  · omega
theorem away_has {w0 w : World} {S : List Nat} {X M : List Ent} {b : Nat} {A : Obj → Prop} {wr : Bool} (hw : Holds w0 S (X ++ M) w) (hM : Has M b A wr) : b ∉ keys X := by
  have hn := hw.nodup
  rw [List.map_append, List.nodup_append] at hn
  intro hm
  exact hn.2.2 b hm b (List.mem_map_of_mem (f := Ent.b) hM.mem) rfl
theorem DkOk.write {x : Dp} {bl : List Bk} {pd : List (Nat × Bk)} (h : DkOk x bl pd) {n : Nat} {b : Bk} (hn : n < bl.length) (hb : b.length = 64) (hm : pd.length + 1 ≤ 1000000) (y : Nat × Nat) : DkOk ⟨x.p, x.q, x.cap, some y⟩ (bl.set n b) (wrote bl pd n) where
  ok := h.ok.write hn hb
  n0 := by rw [List.length_set]; exact h.n0
  n1 := by rw [List.length_set]; exact h.n1
  m := by rw [wrote, List.length_append]; exact hm
  a := nofun
theorem DkOk.sync {x : Dp} {bl : List Bk} {pd : List (Nat × Bk)} (h : DkOk x bl pd) : DkOk ⟨x.p, x.q, x.cap, none⟩ bl [] := ⟨h.ok.sync, h.n0, h.n1, by simp, fun _ => rfl⟩
theorem DkOk.crash {x : Dp} {bl : List Bk} {pd : List (Nat × Bk)} (h : DkOk x bl pd) (ps : List Bt) : DkOk ⟨x.p, x.q, x.cap, none⟩ (crash ps bl pd) [] := ⟨h.ok.crash, by rw [crash_len]; exact h.n0, by rw [crash_len]; exact h.n1, by simp, fun _ => rfl⟩
theorem DkOk.new {x : Dp} {n : Nat} (h1 : 1 ≤ n) (h2 : n ≤ 65536) : DkOk x (newB n) [] := ⟨Ok.new n, by rw [newB, List.length_replicate]; exact h1, by rw [newB, List.length_replicate]; exact h2, by simp, fun _ => rfl⟩
section
variable {n : Nat} {w0 : World} {S : List Nat} {ops : Array Oper} {Q : Exit → Act → World → Prop} {l : List Oper} {E : Env} {M : List Ent}
variable {d : Nat} {ty : TypeId} {pos : String} {aft : Array Edge} {x1 x2 x3 : Operand} {ats : Array TypeId} {x : Dp} {bl : List Bk} {pd : List (Nat × Bk)}
theorem JL.dnew {k : Nat} (h1 : 1 ≤ k) (h2 : k ≤ 65536) (e1 : ev E x1 = some (N k)) (hd : Nat.blt d n = true)
    (kk : ∀ x : Dp, DkOk x (newB k) [] → JL Try.prog n w0 S ops Q l ((d, .tuple #[Pt x.p 0, N 0]) :: E) (dkE x (newB k) [] ++ M)) : JL Try.prog n w0 S ops Q (⟨some d, .call ⟨.value (.func 27), #[x1], ats⟩, ty, pos, aft, none⟩ :: l) E M :=
  JL.callg (ι := { x : Dp // DkOk x (newB k) [] }) (xs := [x1]) (vs := [N k]) (fun x => .tuple #[Pt x.1.p 0, N 0]) (fun x => dkE x.1 (newB k) []) goes_dnew (by simp [evs, e1]) hd (fun x => dkE_wr _ _ _)
    (fun w _ => (dnew_ok k h1 h2 w).mono fun e w' ⟨x, g1, _, g3⟩ => ⟨⟨x, DkOk.new h1 h2⟩, g1, g3⟩) fun x => kk x.1 x.2
theorem JL.dwrite {k : Nat} {b : Bk} (h : DkOk x bl pd) (hn : k < bl.length) (hb : b.length = 64) (e1 : ev E x1 = some (Pt x.p 0)) (e2 : ev E x2 = some (N k)) (e3 : ev E x3 = some (.agg (bc b).toArray)) (hd : Nat.blt d n = true)
    (kk : ∀ y, JL Try.prog n w0 S ops Q l ((d, N 0) :: E) (dkE ⟨x.p, x.q, x.cap, some y⟩ (bl.set k b) (wrote bl pd k) ++ M)) : JL Try.prog n w0 S ops Q (⟨some d, .call ⟨.value (.func 45), #[x1, x2, x3], ats⟩, ty, pos, aft, none⟩ :: l) E (dkE x bl pd ++ M) :=
  JL.callV (ι := Nat × Nat) (xs := [x1, x2, x3]) (vs := [Pt x.p 0, N k, .agg (bc b).toArray]) (fun _ => N 0) (fun y => dkE ⟨x.p, x.q, x.cap, some y⟩ (bl.set k b) (wrote bl pd k)) goes_dwrite (by simp [evs, e1, e2, e3]) hd (dkE_wr _ _ _) (fun _ => dkE_wr _ _ _)
    (fun w _ hw => dwrite_ok x bl pd k b hn hb h w hw) kk
theorem JL.dsync (e1 : ev E x1 = some (Pt x.p 0)) (hd : Nat.blt d n = true)
    (kk : JL Try.prog n w0 S ops Q l ((d, .tuple #[]) :: E) (dkE ⟨x.p, x.q, x.cap, none⟩ bl [] ++ M)) : JL Try.prog n w0 S ops Q (⟨some d, .call ⟨.value (.func 47), #[x1], ats⟩, ty, pos, aft, none⟩ :: l) E (dkE x bl pd ++ M) :=
  JL.callV (ι := Unit) (xs := [x1]) (vs := [Pt x.p 0]) (fun _ => .tuple #[]) (fun _ => dkE ⟨x.p, x.q, x.cap, none⟩ bl []) goes_dsync (by simp [evs, e1]) hd (dkE_wr _ _ _) (fun _ => dkE_wr _ _ _)
    (fun w _ hw => (dsync_any x bl pd w hw).mono fun e w' ⟨g1, g2⟩ => ⟨(), g1, g2⟩) fun _ => kk
theorem JL.dcrash {s : Sl8} (h : DkOk x bl pd) (hl : s.l.length ≤ 1000000) (hs : ∀ w, Holds w0 S (dkE x bl pd ++ M) w → s.ok w ∧ Away s (keys (dkE x bl pd))) (e1 : ev E x1 = some (Pt x.p 0)) (e2 : ev E x2 = some s.v) (hd : Nat.blt d n = true)
    (kk : JL Try.prog n w0 S ops Q l ((d, .tuple #[]) :: E) (dkE ⟨x.p, x.q, x.cap, none⟩ (crash s.l bl pd) [] ++ M)) : JL Try.prog n w0 S ops Q (⟨some d, .call ⟨.value (.func 29), #[x1, x2], ats⟩, ty, pos, aft, none⟩ :: l) E (dkE x bl pd ++ M) :=
  JL.callV (ι := Unit) (xs := [x1, x2]) (vs := [Pt x.p 0, s.v]) (fun _ => .tuple #[]) (fun _ => dkE ⟨x.p, x.q, x.cap, none⟩ (crash s.l bl pd) []) goes_crash (by simp [evs, e1, e2]) hd (dkE_wr _ _ _) (fun _ => dkE_wr _ _ _)
    (fun w h0 hw => (crash_any x bl pd s h w (hs w h0).1 hl (hs w h0).2 hw).mono fun e w' ⟨g1, g2⟩ => ⟨(), g1, g2⟩) fun _ => kk
end
theorem goes_dclone : Goes Try.prog 70 := ⟨_, Try.func70, rfl, by kernel_rfl⟩
theorem all_cells {L : List (List Value)} (h : ∀ c ∈ L, c.all Value.oneCell' = true) : ∀ v ∈ L.flatten, v.oneCell' = true := by
  intro v hv
  obtain ⟨c, hc, hv⟩ := List.mem_flatten.1 hv
  exact List.all_eq_true.1 (h c hc) v hv
theorem bcs_cell (bl : List Bk) : ∀ v ∈ (bcs bl).flatten, v.oneCell' = true := all_cells fun c hc => by
  obtain ⟨b, _, rfl⟩ := List.mem_map.1 hc
  exact bc_cell b
set_option maxHeartbeats 4000000 in
theorem dclone_any (ad : Addr) (cap : Nat) (bl : List Bk) (hb : ∀ x ∈ bl, x.length = 64) (h1 : bl.length ≤ 65536) (w : World) (hr : Reads w (some ad) (bcs bl).flatten) : Calls Try.prog 70 [.slice (some ad) bl.length cap].toArray w fun e w' => ∃ y : Nat × Nat, e = .returned (.slice (some ⟨y.1, 0, none⟩) bl.length y.2) ∧ Holds w [] [⟨y.1, Sl.Own 83 64 bl.length y.2 (bcs bl).flatten, true⟩] w' := by
  refine enter (n := 8) Try.func70 rfl rfl rfl (Holds.start w []) ?_
  have hlen : (bcs bl).flatten.length = bl.length * 64 := by rw [chunk_len (bcs_len (pd := []) ⟨hb, by simp⟩), bcs_n]
  repeat (first | refine JL.q (by first | (apply OQ.isNilD; exact Try.underlying22; exact rfl; exact rfl) | (apply OQ.move; exact rfl) | (apply OQ.assign; exact rfl) | (apply OQ.nilc; exact rfl) | (apply OQ.len; exact rfl; exact rfl) | (apply OQ.addN; exact rfl; exact rfl; exact (by (try simp only []); omega)) | (apply OQ.remN; exact rfl; exact rfl; exact (by (try simp only []); omega)) | (apply OQ.lssN; exact rfl; exact rfl) | (apply OQ.gtrN; exact rfl; exact rfl) | (apply OQ.idxS; exact rfl; exact rfl; exact rfl; exact rfl; exact (by (try simp only []); omega)) | (apply OQ.fld; exact rfl; exact rfl; exact rfl; exact (by decide); exact rfl)) rfl ?_ | refine JC.seq ?_ | refine JC.region ?_ | refine JC.block ?_ | refine JC.skip ?_ | refine JC.exit ?_ | refine JL.nil ?_ | refine JE.next ?_ | refine JE.blk_normal ?_ | refine JE.then_exit ?_ | refine JE.blk_hit ?_ | refine JE.blk_miss rfl ?_ | refine JE.then_ret ?_ | refine JE.blk_ret ?_ | refine JC.label ?_ | refine JL.gon rfl rfl ?_ | refine JL.gskip rfl rfl rfl rfl ?_ | refine JL.gskipU rfl rfl rfl rfl ?_)
  refine JC.cond_false rfl rfl ?_
  repeat (first | refine JL.q (by first | (apply OQ.move; exact rfl) | (apply OQ.assign; exact rfl) | (apply OQ.nilc; exact rfl) | (apply OQ.len; exact rfl; exact rfl) | (apply OQ.addN; exact rfl; exact rfl; exact (by (try simp only []); omega)) | (apply OQ.remN; exact rfl; exact rfl; exact (by (try simp only []); omega)) | (apply OQ.lssN; exact rfl; exact rfl) | (apply OQ.gtrN; exact rfl; exact rfl) | (apply OQ.idxS; exact rfl; exact rfl; exact rfl; exact rfl; exact (by (try simp only []); omega)) | (apply OQ.fld; exact rfl; exact rfl; exact rfl; exact (by decide); exact rfl)) rfl ?_ | refine JC.seq ?_ | refine JC.region ?_ | refine JC.block ?_ | refine JC.skip ?_ | refine JC.exit ?_ | refine JL.nil ?_ | refine JE.next ?_ | refine JE.blk_normal ?_ | refine JE.then_exit ?_ | refine JE.blk_hit ?_ | refine JE.blk_miss rfl ?_ | refine JE.then_ret ?_ | refine JE.blk_ret ?_ | refine JC.label ?_ | refine JL.gon rfl rfl ?_ | refine JL.gskip rfl rfl rfl rfl ?_ | refine JL.gskipU rfl rfl rfl rfl ?_)
  refine JL.litZ Try.underlying22 dkI rfl fun b0 _ => ?_
  repeat (first | refine JL.q (by first | (apply OQ.move; exact rfl) | (apply OQ.assign; exact rfl) | (apply OQ.nilc; exact rfl) | (apply OQ.len; exact rfl; exact rfl) | (apply OQ.addN; exact rfl; exact rfl; exact (by (try simp only []); omega)) | (apply OQ.remN; exact rfl; exact rfl; exact (by (try simp only []); omega)) | (apply OQ.lssN; exact rfl; exact rfl) | (apply OQ.gtrN; exact rfl; exact rfl) | (apply OQ.idxS; exact rfl; exact rfl; exact rfl; exact rfl; exact (by (try simp only []); omega)) | (apply OQ.fld; exact rfl; exact rfl; exact rfl; exact (by decide); exact rfl)) rfl ?_ | refine JC.seq ?_ | refine JC.region ?_ | refine JC.block ?_ | refine JC.skip ?_ | refine JC.exit ?_ | refine JL.nil ?_ | refine JE.next ?_ | refine JE.blk_normal ?_ | refine JE.then_exit ?_ | refine JE.blk_hit ?_ | refine JE.blk_miss rfl ?_ | refine JE.then_ret ?_ | refine JE.blk_ret ?_ | refine JC.label ?_ | refine JL.gon rfl rfl ?_ | refine JL.gskip rfl rfl rfl rfl ?_ | refine JL.gskipU rfl rfl rfl rfl ?_)
  refine JL.append (cs := (bcs bl).flatten) (m := bl.length) (ad := some ad) (sc := cap) (xs := []) (fun b' cap' => [⟨b', Sl.Own 83 64 (0 + bl.length) cap' ([] ++ (bcs bl).flatten), true⟩]) Try.underlying22 dkI rfl rfl (by intro _ _; repeat (first | exact Repl.here | apply Repl.there)) hlen (fun w' hw' => hw'.reads hr (fun _ _ _ => by simp)) (bcs_cell bl) rfl (by decide) (by omega) (by omega) rfl fun b2 cap2 => ?_
  rw [Nat.zero_add, List.nil_append]
  repeat (first | refine JL.q (by first | (apply OQ.move; exact rfl) | (apply OQ.assign; exact rfl) | (apply OQ.nilc; exact rfl) | (apply OQ.len; exact rfl; exact rfl) | (apply OQ.addN; exact rfl; exact rfl; exact (by (try simp only []); omega)) | (apply OQ.remN; exact rfl; exact rfl; exact (by (try simp only []); omega)) | (apply OQ.lssN; exact rfl; exact rfl) | (apply OQ.gtrN; exact rfl; exact rfl) | (apply OQ.idxS; exact rfl; exact rfl; exact rfl; exact rfl; exact (by (try simp only []); omega)) | (apply OQ.fld; exact rfl; exact rfl; exact rfl; exact (by decide); exact rfl)) rfl ?_ | refine JC.seq ?_ | refine JC.region ?_ | refine JC.block ?_ | refine JC.skip ?_ | refine JC.exit ?_ | refine JL.nil ?_ | refine JE.next ?_ | refine JE.blk_normal ?_ | refine JE.then_exit ?_ | refine JE.blk_hit ?_ | refine JE.blk_miss rfl ?_ | refine JE.then_ret ?_ | refine JE.blk_ret ?_ | refine JC.label ?_ | refine JL.gon rfl rfl ?_ | refine JL.gskip rfl rfl rfl rfl ?_ | refine JL.gskipU rfl rfl rfl rfl ?_)
  exact JC.ret (JE.ret1 rfl (RV.tmp rfl) fun w' hw => ⟨(b2, cap2), rfl, hw⟩)
theorem goes_twin : Goes Try.prog 44 := ⟨_, Try.func44, rfl, by kernel_rfl⟩
set_option maxHeartbeats 4000000 in
theorem dtwin_any (x : Dp) (bl : List Bk) (pd : List (Nat × Bk)) (h : DkOk x bl pd) {u w : World} {S : List Nat} {M : List Ent} (hw : Holds u S (dkE x bl pd ++ M) w) : Calls Try.prog 44 [Pt x.p 0].toArray w fun e w' => ∃ z : Dp, e = .returned (Pt z.p 0) ∧ Holds w [] (dkE ⟨z.p, z.q, z.cap, none⟩ bl []) w' := by
  have hc := (dk_cell hw).1
  have hr : Reads w (some ⟨x.q, 0, none⟩) (bcs bl).flatten := by
    obtain ⟨o, ho, hA⟩ := hw.get (b := x.q) (A := Sl.Own 83 64 bl.length x.cap (bcs bl).flatten) (wr := true) (.there .here)
    exact Reads.block ho (Own.cells o hA)
  refine enter (n := 10) Try.func44 rfl rfl rfl (Holds.start w []) ?_
  repeat (first | refine JL.q (by first | (apply OQ.load_old; exact bsC; exact rfl; exact (block_lt_of_cell hc); exact (by simp); exact hc) | (apply OQ.move; exact rfl) | (apply OQ.assign; exact rfl) | (apply OQ.nilc; exact rfl) | (apply OQ.len; exact rfl; exact rfl) | (apply OQ.addN; exact rfl; exact rfl; exact (by (try simp only []); omega)) | (apply OQ.remN; exact rfl; exact rfl; exact (by (try simp only []); omega)) | (apply OQ.lssN; exact rfl; exact rfl) | (apply OQ.gtrN; exact rfl; exact rfl) | (apply OQ.idxS; exact rfl; exact rfl; exact rfl; exact rfl; exact (by (try simp only []); omega)) | (apply OQ.fld; exact rfl; exact rfl; exact rfl; exact (by decide); exact rfl)) rfl ?_ | refine JC.seq ?_ | refine JC.region ?_ | refine JC.block ?_ | refine JC.skip ?_ | refine JC.exit ?_ | refine JL.nil ?_ | refine JE.next ?_ | refine JE.blk_normal ?_ | refine JE.then_exit ?_ | refine JE.blk_hit ?_ | refine JE.blk_miss rfl ?_ | refine JE.then_ret ?_ | refine JE.blk_ret ?_ | refine JC.label ?_ | refine JL.gon rfl rfl ?_ | refine JL.gskip rfl rfl rfl rfl ?_ | refine JL.gskipU rfl rfl rfl rfl ?_)
  refine JL.callg (ι := Nat × Nat) (vs := [.slice (some ⟨x.q, 0, none⟩) bl.length x.cap]) (fun y => .slice (some ⟨y.1, 0, none⟩) bl.length y.2) (fun y => [⟨y.1, Sl.Own 83 64 bl.length y.2 (bcs bl).flatten, true⟩]) goes_dclone rfl rfl (fun y e he => by rw [List.mem_singleton.1 he]) (fun w' hw' => dclone_any _ _ bl h.ok.b h.n1 w' (hw'.reads hr (fun _ _ _ => by simp))) fun y => ?_
  repeat (first | refine JL.q (by first | (apply OQ.buildD; exact rfl) | (apply OQ.move; exact rfl) | (apply OQ.assign; exact rfl) | (apply OQ.nilc; exact rfl) | (apply OQ.len; exact rfl; exact rfl) | (apply OQ.addN; exact rfl; exact rfl; exact (by (try simp only []); omega)) | (apply OQ.remN; exact rfl; exact rfl; exact (by (try simp only []); omega)) | (apply OQ.lssN; exact rfl; exact rfl) | (apply OQ.gtrN; exact rfl; exact rfl) | (apply OQ.idxS; exact rfl; exact rfl; exact rfl; exact rfl; exact (by (try simp only []); omega)) | (apply OQ.fld; exact rfl; exact rfl; exact rfl; exact (by decide); exact rfl)) rfl ?_ | refine JC.seq ?_ | refine JC.region ?_ | refine JC.block ?_ | refine JC.skip ?_ | refine JC.exit ?_ | refine JL.nil ?_ | refine JE.next ?_ | refine JE.blk_normal ?_ | refine JE.then_exit ?_ | refine JE.blk_hit ?_ | refine JE.blk_miss rfl ?_ | refine JE.then_ret ?_ | refine JE.blk_ret ?_ | refine JC.label ?_ | refine JL.gon rfl rfl ?_ | refine JL.gskip rfl rfl rfl rfl ?_ | refine JL.gskipU rfl rfl rfl rfl ?_)
  refine JL.box (r := [.slice (some ⟨y.1, 0, none⟩) bl.length y.2, .slice none 0 0]) rfl rfl rfl fun p hp => ?_
  repeat (first | refine JL.q (by first | (apply OQ.move; exact rfl) | (apply OQ.assign; exact rfl) | (apply OQ.nilc; exact rfl) | (apply OQ.len; exact rfl; exact rfl) | (apply OQ.addN; exact rfl; exact rfl; exact (by (try simp only []); omega)) | (apply OQ.remN; exact rfl; exact rfl; exact (by (try simp only []); omega)) | (apply OQ.lssN; exact rfl; exact rfl) | (apply OQ.gtrN; exact rfl; exact rfl) | (apply OQ.idxS; exact rfl; exact rfl; exact rfl; exact rfl; exact (by (try simp only []); omega)) | (apply OQ.fld; exact rfl; exact rfl; exact rfl; exact (by decide); exact rfl)) rfl ?_ | refine JC.seq ?_ | refine JC.region ?_ | refine JC.block ?_ | refine JC.skip ?_ | refine JC.exit ?_ | refine JL.nil ?_ | refine JE.next ?_ | refine JE.blk_normal ?_ | refine JE.then_exit ?_ | refine JE.blk_hit ?_ | refine JE.blk_miss rfl ?_ | refine JE.then_ret ?_ | refine JE.blk_ret ?_ | refine JC.label ?_ | refine JL.gon rfl rfl ?_ | refine JL.gskip rfl rfl rfl rfl ?_ | refine JL.gskipU rfl rfl rfl rfl ?_)
  refine JC.ret (JE.ret1 rfl (RV.tmp rfl) fun w' hw => ⟨⟨p, y.1, y.2, none⟩, rfl, hw⟩)
end Go.Proofs.Ytkadoibacliepaa
