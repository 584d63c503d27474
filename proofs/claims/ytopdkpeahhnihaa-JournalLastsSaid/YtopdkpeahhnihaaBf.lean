/-
  Of no statement by itself: the texts JrnR, JrnS, Plain, MimR in one.
  Conditions: each theorem's own.
-/
import Derived.Test.YtopdkpeahhnihaaBe
import Derived.Test.YtopdkpeahhnihaaProg
import Derived.Test.YtopdkpeahhnihaaRows
import Derived.ProofKit
import Derived.OpenShut
import Derived.Below
import Derived.Stop.Joined
import Derived.ChangeMaps5
import Derived.Deep.Slices
/-
  Of no statement by itself: rules for calls of a journal; the law's speaks, SameList.
  Conditions: each theorem's own.
-/
namespace Go.Proofs.Ytopdkpeahhnihaa
set_option maxRecDepth 10000
open Sl Dsk Jrn
section
variable {n : Nat} {w0 : World} {S : List Nat} {ops : Array Oper} {Q : Exit → Act → World → Prop} {l : List Oper} {E : Env} {M : List Ent}
variable {d : Nat} {ty : TypeId} {pos : String} {aft : Array Edge} {x1 x2 x3 : Operand} {ats : Array TypeId} {x : Dp} {bl recs : List Bk} {pd : List (Nat × Bk)} {j : Nat} {h : Hf} {s : Sl8}
theorem JL.jopen (hd : DkOk x bl pd) (hp : pd.length ≤ 900000) (hno : noOpen bl = 0) (e1 : ev E x1 = some (Pt x.p 0)) (hn : Nat.blt d n = true)
    (kk : ∀ j, JL Try.prog n w0 S ops Q l ((d, .tuple #[Pt j 0, N 0]) :: E) (jnE j (opnJ x bl) (opnD bl) [] ++ M)) : JL Try.prog n w0 S ops Q (⟨some d, .call ⟨.value (.func 36), #[x1], ats⟩, ty, pos, aft, none⟩ :: l) E (dkE x bl pd ++ M) :=
  JL.callV (ι := Nat) (xs := [x1]) (vs := [Pt x.p 0]) (fun j => .tuple #[Pt j 0, N 0]) (fun j => jnE j (opnJ x bl) (opnD bl) []) goes_jOpen (by simp [evs, e1]) hn (dkE_wr _ _ _) (fun _ => jnE_wr _ _ _ _)
    (fun w _ hw => Open_yes x bl pd hd hp hno w hw) kk
theorem JL.japp (v : Jv h bl recs) (hd : DkOk h.x bl pd) (hp : pd.length ≤ 900000) (hyes : nb s.l.length ≤ h.size - h.used) (hs : ∀ w, Holds w0 S (jnE j h bl pd ++ M) w → s.ok w ∧ Away s (keys (jnE j h bl pd))) (e1 : ev E x1 = some (Pt j 0)) (e2 : ev E x2 = some s.v) (hn : Nat.blt d n = true)
    (kk : JL Try.prog n w0 S ops Q l ((d, N 0) :: E) (jnE j (appJ h s.l) (appD h bl s.l) [] ++ M)) : JL Try.prog n w0 S ops Q (⟨some d, .call ⟨.value (.func 29), #[x1, x2], ats⟩, ty, pos, aft, none⟩ :: l) E (jnE j h bl pd ++ M) :=
  have h1 := v.fs; have h2 := v.u; have h3 := v.r; have h4 := v.c; have h5 := room_ge recs
  JL.callV (ι := Unit) (xs := [x1, x2]) (vs := [Pt j 0, s.v]) (fun _ => N 0) (fun _ => jnE j (appJ h s.l) (appD h bl s.l) []) goes_app (by simp [evs, e1, e2]) hn (jnE_wr _ _ _ _) (fun _ => jnE_wr _ _ _ _)
    (fun w h0 hw => (app_yes j h bl pd s hd h1.1 (by omega) hp (by omega) hyes w (hs w h0).1 (hs w h0).2 hw).mono fun e w' ⟨g1, g2⟩ => ⟨(), g1, g2⟩) fun _ => kk
theorem JL.jrst (v : Jv h bl recs) (hd : DkOk h.x bl pd) (hp : pd.length ≤ 900000) (hyes : ¬ noRst h bl s.l.length) (hs : ∀ w, Holds w0 S (jnE j h bl pd ++ M) w → s.ok w ∧ Away s (keys (jnE j h bl pd))) (e1 : ev E x1 = some (Pt j 0)) (e2 : ev E x2 = some s.v) (hn : Nat.blt d n = true)
    (kk : JL Try.prog n w0 S ops Q l ((d, N 0) :: E) (jnE j (rstJ h bl s.l) (rstD h bl s.l) [] ++ M)) : JL Try.prog n w0 S ops Q (⟨some d, .call ⟨.value (.func 32), #[x1, x2], ats⟩, ty, pos, aft, none⟩ :: l) E (jnE j h bl pd ++ M) :=
  have h1 := v.fs
  JL.callV (ι := Unit) (xs := [x1, x2]) (vs := [Pt j 0, s.v]) (fun _ => N 0) (fun _ => jnE j (rstJ h bl s.l) (rstD h bl s.l) []) goes_rst (by simp [evs, e1, e2]) hn (jnE_wr _ _ _ _) (fun _ => jnE_wr _ _ _ _)
    (fun w h0 hw => (rst_yes j h bl pd s hd h1.2.2.1 h1.2.1 hp hyes w (hs w h0).1 (hs w h0).2 hw).mono fun e w' ⟨g1, g2⟩ => ⟨(), g1, g2⟩) fun _ => kk
theorem JL.jrecs (v : Jv h bl recs) (hd : DkOk h.x bl pd) (e1 : ev E x1 = some (Pt j 0)) (hn : Nat.blt d n = true)
    (kk : ∀ z : GrOf recs h.size, JL Try.prog n w0 S ops Q l ((d, z.1.v) :: E) (z.1.E ++ (jnE j h bl pd ++ M))) : JL Try.prog n w0 S ops Q (⟨some d, .call ⟨.value (.func 26), #[x1], ats⟩, ty, pos, aft, none⟩ :: l) E (jnE j h bl pd ++ M) :=
  JL.callg (xs := [x1]) (ι := GrOf recs h.size) (vs := [Pt j 0]) (fun z => z.1.v) (fun z => z.1.E) goes_recs (by simp [evs, e1]) hn (fun z => z.1.wr)
    (fun w hw => by have := recs_any j h bl pd hd.ok hd.n1 v.fs.1 w (jnR_of hw); rwa [v.told] at this) kk
end
/-- what a journal is that is opened -/
theorem Jv.opn {x : Dp} {bl : List Bk} (hb : ∀ b ∈ bl, b.length = 64) (n5 : bl.length ≤ 65536) (hno : noOpen bl = 0) : Jv (opnJ x bl) (opnD bl) (curF bl).2.2 := by
  have h4 : ¬ bl.length < 4 := fun h => by unfold noOpen at hno; rw [if_pos h] at hno; cases hno
  have hg : ¬ gm bl = 4294967295#32 := fun h => by unfold noOpen at hno; rw [if_neg h4, if_pos h] at hno; cases hno
  have ⟨h1, h2, h3⟩ := curF_room (bl := bl) hb (by omega)
  have hf : bl.length / 2 - (curF bl).1 = 0 ∨ bl.length / 2 - (curF bl).1 = bl.length / 2 := by
    unfold curF
    split
    · right; rfl
    · split
      · left; exact Nat.sub_self _
      · left; exact Nat.sub_self _
  exact Jv.beg (x := sync0 x) (by omega) n5 rfl hf h1 (fun e => by rw [e] at h2; cases h2) hg
theorem Jv.no (h : Hf) (bl recs : List Bk) (v : Jv h bl recs) (hg : h.g.toNat < 4294967295) : noOpen bl = 0 := by
  have := v.gm_le
  have h4 := v.n4
  unfold noOpen
  rw [if_neg (by omega), if_neg (fun e => by rw [e] at this; rw [show (4294967295#32).toNat = 4294967295 from rfl] at this; omega)]
theorem gm_succ {bl : List Bk} {m : Nat} (h : (gm bl).toNat ≤ m) (hm : m < 4294967295) : (gm bl + 1#32).toNat ≤ m + 1 := by
  rw [BitVec.toNat_add, show (1#32).toNat = 1 from rfl]
  omega
theorem told_none {g : BitVec 32} {bs : List Bk} (h : ∀ b ∈ bs, wholeB b = false) : told g bs = [] := by
  unfold told toldN
  have : rd g 0 bs 0 [] = none := by
    cases bs with
    | nil => rfl
    | cons b bs => rw [rd, if_neg (fun hh => by rw [h b (by simp)] at hh; cases hh.1)]
  rw [this]
theorem zero_whole : wholeB zero = false := by kernel_rfl
theorem zero_below : Below 1 zero := ⟨by decide, by decide⟩
theorem newB_mem {n : Nat} : ∀ b ∈ newB n, b = zero := fun b hb => List.eq_of_mem_replicate hb
theorem newB_cur (n : Nat) : (curF (newB n)).2.2 = [[]] ∧ (gm (newB n)).toNat = 0 := by
  have h0 : ∀ f, genH (newB n) f = 0 := fun f => by
    unfold genH
    rw [if_pos]
    unfold recH toldH
    rw [told_none]
    · rfl
    · intro b hb
      unfold bsOf at hb
      rw [newB_mem b (List.mem_of_mem_drop (List.mem_of_mem_take (List.mem_of_mem_drop hb)))]
      exact zero_whole
  refine ⟨?_, ?_⟩
  · unfold curF
    rw [h0, h0, if_neg (by decide), if_neg (by decide)]
  · have := gm_lt (m := 1) (bl := newB n) (by decide) fun b hb => by rw [newB_mem b hb]; exact zero_below
    omega
theorem newB_no {n : Nat} (h : 4 ≤ n) : noOpen (newB n) = 0 := by
  have := (newB_cur n).2
  unfold noOpen
  rw [if_neg (by rw [newB_len]; omega), if_neg (fun e => by rw [e] at this; cases this)]
theorem DkOk.opn {x : Dp} {bl : List Bk} {pd : List (Nat × Bk)} (hd : DkOk x bl pd) (hno : noOpen bl = 0) : DkOk (opnJ x bl).x (opnD bl) [] := by
  have h4 : ¬ bl.length < 4 := fun h => by unfold noOpen at hno; rw [if_pos h] at hno; cases hno
  have ⟨h1, h2, h3⟩ := curF_room (bl := bl) hd.ok.b (by omega)
  have := hd.n1
  exact hd.put (by rw [allB_len]; omega) fun b hb => (allB_mark _ _ (by omega) b hb).2.2
theorem DkOk.app {h : Hf} {bl recs : List Bk} {pd : List (Nat × Bk)} (hd : DkOk h.x bl pd) (v : Jv h bl recs) {l : Bk} (hf : nb l.length ≤ h.size - h.used) : DkOk (appJ h l).x (appD h bl l) [] := by
  have h1 := v.fs; have h2 := v.r; have h3 := v.u
  exact hd.put (by rw [blks_len]; omega) fun b hb => (blks_mark (by omega) b hb).2.2
theorem DkOk.rst {h : Hf} {bl recs : List Bk} {pd : List (Nat × Bk)} (hd : DkOk h.x bl pd) (v : Jv h bl recs) {l : Bk} (hf : ¬ noRst h bl l.length) : DkOk (rstJ h bl l).x (rstD h bl l) [] := by
  have h1 := v.fs
  have hfit : nb l.length ≤ h.size := Nat.le_of_not_lt fun e => hf (.inl e)
  have hr : room [l] = nb l.length := by simp [room]
  exact hd.put (by rw [allB_len, hr]; omega) fun b hb => (allB_mark _ _ (by omega) b hb).2.2
theorem Jv.rst {h : Hf} {bl recs : List Bk} (v : Jv h bl recs) {l : Bk} (hf : ¬ noRst h bl l.length) : Jv (rstJ h bl l) (rstD h bl l) [l] := by
  have h1 := v.fs
  have hfit : nb l.length ≤ h.size := Nat.le_of_not_lt fun e => hf (.inl e)
  have hr : room [l] = nb l.length := by simp [room]
  exact Jv.beg (x := sync0 h.x) v.n4 v.n5 v.n (by show h.size - h.first = 0 ∨ h.size - h.first = h.size; rcases v.f with e | e <;> omega) (by rw [hr]; exact hfit) (by simp) (fun e => hf (.inr e))
theorem OQ.ptrNe {P : Program} {n : Nat} {E : Env} {C : World → Prop} {dst : Option Tmp} {t t' ty e : TypeId} {pos : String} {aft : Array Edge} {g : Option (Nat × Bool)} {x y : Operand} {a : Option Addr} (hu : P.underlying t = some (.pointer e)) (hx : ev E x = some (.pointer a)) (hy : ev E y = some (.pointer none)) :
    OQ P n E C ⟨dst, .binOp .neq t x y t', ty, pos, aft, g⟩ (.bool (!a.isNone)) :=
  OQ.run fun c ha w _ => by
    have h1 := ha.eval hx
    have h2 := ha.eval hy
    have h3 : ∀ w, (underlying t).run P w = .ok (.pointer e) w := run_underlying hu
    have h4 : (binOp .neq t (.pointer a) (.pointer none)).run P w = .ok (.bool (!a.isNone)) w := by
      show (do pure (.bool (!(← Op.equalIn (9999 + 1) t (.pointer a) (.pointer none)))) : Sem Value).run P w = _
      unfold Op.equalIn
      cases a <;> simp [Sem.run_bind, h3]
    simp [execOp, h1, h2, eqGuard, h4]
theorem goes_speaks15 : Goes Try.prog 22 := ⟨_, Try.func22, rfl, by kernel_rfl⟩
set_option maxHeartbeats 16000000 in
theorem speaks15_any (w : World) : Calls Try.prog 22 [].toArray w fun e w' => e = .returned (.bool true) ∧ Ext w w' := by
  refine enter (n := 46) Try.func22 rfl rfl rfl (Holds.start w []) ?_
  repeat (first | refine JL.q (by first | (apply OQ.move; exact rfl) | (apply OQ.assign; exact rfl) | (apply OQ.nilc; exact rfl) | (apply OQ.len; exact rfl; exact rfl) | (apply OQ.addN; exact rfl; exact rfl; exact (by (try simp only []); omega)) | (apply OQ.subN; exact rfl; exact rfl; exact (by (try simp only []); omega); exact (by (try simp only []); omega)) | (apply OQ.lssN; exact rfl; exact rfl) | (apply OQ.gtrN; exact rfl; exact rfl) | (apply OQ.fld; exact rfl; exact rfl; exact rfl; exact (by decide); exact rfl)) rfl ?_ | refine JC.seq ?_ | refine JC.region ?_ | refine JC.block ?_ | refine JC.skip ?_ | refine JC.exit ?_ | refine JL.nil ?_ | refine JE.next ?_ | refine JE.blk_normal ?_ | refine JE.then_exit ?_ | refine JE.blk_hit ?_ | refine JE.blk_miss rfl ?_ | refine JE.then_ret ?_ | refine JE.blk_ret ?_ | refine JC.label ?_ | refine JL.gon rfl rfl ?_ | refine JL.gskip rfl rfl rfl rfl ?_ | refine JL.gskipU rfl rfl rfl rfl ?_)
  refine JL.dnew (k := 4) (by decide) (by decide) rfl rfl fun x hx => ?_
  repeat (first | refine JL.q (by first | (apply OQ.extract; exact rfl; exact rfl) | (apply OQ.neB (a := 0) (b := 0) (c := true); exact rfl; exact rfl; exact rfl) | (apply OQ.ptrNil; exact Try.underlying24; exact rfl; exact rfl) | (apply OQ.pick_f; exact rfl; exact rfl) | (apply OQ.move; exact rfl) | (apply OQ.assign; exact rfl) | (apply OQ.nilc; exact rfl) | (apply OQ.len; exact rfl; exact rfl) | (apply OQ.addN; exact rfl; exact rfl; exact (by (try simp only []); omega)) | (apply OQ.subN; exact rfl; exact rfl; exact (by (try simp only []); omega); exact (by (try simp only []); omega)) | (apply OQ.lssN; exact rfl; exact rfl) | (apply OQ.gtrN; exact rfl; exact rfl) | (apply OQ.fld; exact rfl; exact rfl; exact rfl; exact (by decide); exact rfl)) rfl ?_ | refine JC.seq ?_ | refine JC.region ?_ | refine JC.block ?_ | refine JC.skip ?_ | refine JC.exit ?_ | refine JL.nil ?_ | refine JE.next ?_ | refine JE.blk_normal ?_ | refine JE.then_exit ?_ | refine JE.blk_hit ?_ | refine JE.blk_miss rfl ?_ | refine JE.then_ret ?_ | refine JE.blk_ret ?_ | refine JC.label ?_ | refine JL.gon rfl rfl ?_ | refine JL.gskip rfl rfl rfl rfl ?_ | refine JL.gskipU rfl rfl rfl rfl ?_)
  refine JC.cond_false rfl rfl ?_
  repeat (first | refine JL.q (by first | (apply OQ.move; exact rfl) | (apply OQ.assign; exact rfl) | (apply OQ.nilc; exact rfl) | (apply OQ.len; exact rfl; exact rfl) | (apply OQ.addN; exact rfl; exact rfl; exact (by (try simp only []); omega)) | (apply OQ.subN; exact rfl; exact rfl; exact (by (try simp only []); omega); exact (by (try simp only []); omega)) | (apply OQ.lssN; exact rfl; exact rfl) | (apply OQ.gtrN; exact rfl; exact rfl) | (apply OQ.fld; exact rfl; exact rfl; exact rfl; exact (by decide); exact rfl)) rfl ?_ | refine JC.seq ?_ | refine JC.region ?_ | refine JC.block ?_ | refine JC.skip ?_ | refine JC.exit ?_ | refine JL.nil ?_ | refine JE.next ?_ | refine JE.blk_normal ?_ | refine JE.then_exit ?_ | refine JE.blk_hit ?_ | refine JE.blk_miss rfl ?_ | refine JE.then_ret ?_ | refine JE.blk_ret ?_ | refine JC.label ?_ | refine JL.gon rfl rfl ?_ | refine JL.gskip rfl rfl rfl rfl ?_ | refine JL.gskipU rfl rfl rfl rfl ?_)
  have hno : noOpen (newB 4) = 0 := newB_no (by decide)
  have hcu := newB_cur 4
  have v := Jv.opn (x := x) hx.ok.b (by rw [newB_len]; decide) hno
  have hd := hx.opn hno
  have hsz : (opnJ x (newB 4)).size = 2 := rfl
  rw [hcu.1] at v
  have hu : (opnJ x (newB 4)).used = 1 := by rw [v.u]; rfl
  refine JL.jopen hx (by decide) hno rfl rfl fun j => ?_
  generalize opnJ x (newB 4) = h at v hd hsz hu ⊢
  generalize opnD (newB 4) = bl at v hd ⊢
  repeat (first | refine JL.q (by first | (apply OQ.extract; exact rfl; exact rfl) | (apply OQ.eqB (a := 0) (b := 0) (c := true); exact rfl; exact rfl; exact rfl) | (apply OQ.ptrNe; exact Try.underlying52; exact rfl; exact rfl) | (apply OQ.pick_t; exact rfl; exact rfl) | (apply OQ.move; exact rfl) | (apply OQ.assign; exact rfl) | (apply OQ.nilc; exact rfl) | (apply OQ.len; exact rfl; exact rfl) | (apply OQ.addN; exact rfl; exact rfl; exact (by (try simp only []); omega)) | (apply OQ.subN; exact rfl; exact rfl; exact (by (try simp only []); omega); exact (by (try simp only []); omega)) | (apply OQ.lssN; exact rfl; exact rfl) | (apply OQ.gtrN; exact rfl; exact rfl) | (apply OQ.fld; exact rfl; exact rfl; exact rfl; exact (by decide); exact rfl)) rfl ?_ | refine JC.seq ?_ | refine JC.region ?_ | refine JC.block ?_ | refine JC.skip ?_ | refine JC.exit ?_ | refine JL.nil ?_ | refine JE.next ?_ | refine JE.blk_normal ?_ | refine JE.then_exit ?_ | refine JE.blk_hit ?_ | refine JE.blk_miss rfl ?_ | refine JE.then_ret ?_ | refine JE.blk_ret ?_ | refine JC.label ?_ | refine JL.gon rfl rfl ?_ | refine JL.gskip rfl rfl rfl rfl ?_ | refine JL.gskipU rfl rfl rfl rfl ?_)
  refine JL.jrecs v hd rfl rfl fun z => ?_
  obtain ⟨⟨q1, rs1, hq1, hr1⟩, hz1, hz1n⟩ := z
  have hl1 : rs1.length = 1 := by have := congrArg List.length hz1; rw [Gr.l, List.length_map] at this; exact this
  have hq0 : q1 = none → rs1.length = 0 := fun e => by rw [hq1 e]; rfl
  dsimp only [Gr.v]
  repeat (first | refine JL.q (by first | (apply OQ.lenV (q := q1) (k := rs1.length); exact Try.underlying57; exact hq0; exact rfl) | (apply OQ.eqB (a := (rs1.length : Int)) (b := 1) (c := true); exact rfl; exact rfl; exact (decide_eq_true (by omega))) | (apply OQ.pick_t; exact rfl; exact rfl) | (apply OQ.move; exact rfl) | (apply OQ.assign; exact rfl) | (apply OQ.nilc; exact rfl) | (apply OQ.len; exact rfl; exact rfl) | (apply OQ.addN; exact rfl; exact rfl; exact (by (try simp only []); omega)) | (apply OQ.subN; exact rfl; exact rfl; exact (by (try simp only []); omega); exact (by (try simp only []); omega)) | (apply OQ.lssN; exact rfl; exact rfl) | (apply OQ.gtrN; exact rfl; exact rfl) | (apply OQ.fld; exact rfl; exact rfl; exact rfl; exact (by decide); exact rfl)) rfl ?_ | refine JC.seq ?_ | refine JC.region ?_ | refine JC.block ?_ | refine JC.skip ?_ | refine JC.exit ?_ | refine JL.nil ?_ | refine JE.next ?_ | refine JE.blk_normal ?_ | refine JE.then_exit ?_ | refine JE.blk_hit ?_ | refine JE.blk_miss rfl ?_ | refine JE.then_ret ?_ | refine JE.blk_ret ?_ | refine JC.label ?_ | refine JL.gon rfl rfl ?_ | refine JL.gskip rfl rfl rfl rfl ?_ | refine JL.gskipU rfl rfl rfl rfl ?_)
  refine JL.perm (M' := jnE j h bl [] ++ ((Gr.mk q1 rs1 hq1 hr1).E ++ [])) ?_ (by exact List.perm_append_comm_assoc _ _ _)
  refine JL.jrecs v hd rfl rfl fun z => ?_
  obtain ⟨⟨q2, rs2, hq2, hr2⟩, hz2, hz2n⟩ := z
  obtain ⟨p, s0, rfl, rfl⟩ : ∃ p s0, q2 = some p ∧ rs2 = [s0] := by
    have hl2 : rs2.length = 1 := by have := congrArg List.length hz2; rw [Gr.l, List.length_map] at this; exact this
    cases q2 with
    | none => rw [hq2 rfl] at hl2; cases hl2
    | some p =>
      cases rs2 with
      | nil => cases hl2
      | cons a l =>
        cases l with
        | nil => exact ⟨p, a, rfl, rfl⟩
        | cons c l => simp at hl2
  have hs0 : s0.l = [] := by have := hz2; simpa [Gr.l] using this
  dsimp only [Gr.v, Gr.E]
  repeat (first | refine JL.q (by first | (apply OQ.idxS1 (i := 0) (b := p.1) (j := 0) (len := 1) (cap := p.2); exact Try.underlying57; exact sleJ; exact rfl; exact rfl; exact (by decide)) | (apply OQ.load; exact slCj; exact rfl; exact .here; exact (Own.cell (v := s0.v) rfl)) | (apply OQ.len (k := s0.l.length) (ad := s0.ad) (cap := s0.cap); exact Try.underlying33; exact rfl) | (apply OQ.eqB (a := (s0.l.length : Int)) (b := 0) (c := true); exact rfl; exact rfl; exact (by rw [hs0]; rfl)) | (apply OQ.pick_t; exact rfl; exact rfl) | (apply OQ.move; exact rfl) | (apply OQ.assign; exact rfl) | (apply OQ.nilc; exact rfl) | (apply OQ.len; exact rfl; exact rfl) | (apply OQ.addN; exact rfl; exact rfl; exact (by (try simp only []); omega)) | (apply OQ.subN; exact rfl; exact rfl; exact (by (try simp only []); omega); exact (by (try simp only []); omega)) | (apply OQ.lssN; exact rfl; exact rfl) | (apply OQ.gtrN; exact rfl; exact rfl) | (apply OQ.fld; exact rfl; exact rfl; exact rfl; exact (by decide); exact rfl)) rfl ?_ | refine JC.seq ?_ | refine JC.region ?_ | refine JC.block ?_ | refine JC.skip ?_ | refine JC.exit ?_ | refine JL.nil ?_ | refine JE.next ?_ | refine JE.blk_normal ?_ | refine JE.then_exit ?_ | refine JE.blk_hit ?_ | refine JE.blk_miss rfl ?_ | refine JE.then_ret ?_ | refine JE.blk_ret ?_ | refine JC.label ?_ | refine JL.gon rfl rfl ?_ | refine JL.gskip rfl rfl rfl rfl ?_ | refine JL.gskipU rfl rfl rfl rfl ?_)
  refine JL.lit1 (v := U8 1) Try.underlying33 u8e rfl rfl rfl rfl fun b5 _ => ?_
  refine JL.perm (M' := jnE j h bl [] ++ ((⟨b5, Row 5 [U8 1], true⟩ :: (accE 33 (some p) ([s0].map Sl8.v) ++ flatE [s0])) ++ ((accE 33 q1 (rs1.map Sl8.v) ++ flatE rs1) ++ []))) ?_ (by exact List.perm_append_comm_assoc (_ :: _) _ _)
  repeat (first | refine JL.q (by first | (apply OQ.move; exact rfl) | (apply OQ.assign; exact rfl) | (apply OQ.nilc; exact rfl) | (apply OQ.len; exact rfl; exact rfl) | (apply OQ.addN; exact rfl; exact rfl; exact (by (try simp only []); omega)) | (apply OQ.subN; exact rfl; exact rfl; exact (by (try simp only []); omega); exact (by (try simp only []); omega)) | (apply OQ.lssN; exact rfl; exact rfl) | (apply OQ.gtrN; exact rfl; exact rfl) | (apply OQ.fld; exact rfl; exact rfl; exact rfl; exact (by decide); exact rfl)) rfl ?_ | refine JC.seq ?_ | refine JC.region ?_ | refine JC.block ?_ | refine JC.skip ?_ | refine JC.exit ?_ | refine JL.nil ?_ | refine JE.next ?_ | refine JE.blk_normal ?_ | refine JE.then_exit ?_ | refine JE.blk_hit ?_ | refine JE.blk_miss rfl ?_ | refine JE.then_ret ?_ | refine JE.blk_ret ?_ | refine JC.label ?_ | refine JL.gon rfl rfl ?_ | refine JL.gskip rfl rfl rfl rfl ?_ | refine JL.gskipU rfl rfl rfl rfl ?_)
  refine JL.japp (s := ⟨some ⟨b5, 0, none⟩, 1, [1]⟩) v hd (by decide) (by rw [hsz, hu]; show nb 1 ≤ 2 - 1; decide) (fun w' hw' => ⟨row_ok hw' (hasR (N := jnE j h bl []) .here) rfl (by decide), fun _ a ha => by cases ha; exact away_has (b := b5) hw' .here⟩) rfl rfl rfl ?_
  repeat (first | refine JL.q (by first | (apply OQ.eqB (a := 0) (b := 0) (c := true); exact rfl; exact rfl; exact rfl) | (apply OQ.pick_t; exact rfl; exact rfl) | (apply OQ.move; exact rfl) | (apply OQ.assign; exact rfl) | (apply OQ.nilc; exact rfl) | (apply OQ.len; exact rfl; exact rfl) | (apply OQ.addN; exact rfl; exact rfl; exact (by (try simp only []); omega)) | (apply OQ.subN; exact rfl; exact rfl; exact (by (try simp only []); omega); exact (by (try simp only []); omega)) | (apply OQ.lssN; exact rfl; exact rfl) | (apply OQ.gtrN; exact rfl; exact rfl) | (apply OQ.fld; exact rfl; exact rfl; exact rfl; exact (by decide); exact rfl)) rfl ?_ | refine JC.seq ?_ | refine JC.region ?_ | refine JC.block ?_ | refine JC.skip ?_ | refine JC.exit ?_ | refine JL.nil ?_ | refine JE.next ?_ | refine JE.blk_normal ?_ | refine JE.then_exit ?_ | refine JE.blk_hit ?_ | refine JE.blk_miss rfl ?_ | refine JE.then_ret ?_ | refine JE.blk_ret ?_ | refine JC.label ?_ | refine JL.gon rfl rfl ?_ | refine JL.gskip rfl rfl rfl rfl ?_ | refine JL.gskipU rfl rfl rfl rfl ?_)
  exact JC.ret (JE.ret1 rfl (RV.tmp rfl) fun w' hw => ⟨rfl, hw.chg⟩)
theorem goes_samel : Goes Try.prog 31 := ⟨_, Try.func31, rfl, by kernel_rfl⟩
set_option maxHeartbeats 16000000 in
theorem samel_any (a b : SlL) (w : World) (ha : a.ok w) (hb : b.ok w) (hn : a.rs.length ≤ 1000000) (hl : ∀ y ∈ a.rs, y.l.length < 4611686018427387904) : Calls Try.prog 31 [a.v, b.v].toArray w fun e w' => e = .returned (.bool (decide (a.rs.map Sl8.l = b.rs.map Sl8.l))) ∧ Ext w w' := by
  refine enter (n := 27) Try.func31 rfl rfl rfl (Holds.start w []) ?_
  cases g1 : decide ((a.rs.length : Int) = (b.rs.length : Int))
  case false =>
    have hne : ¬ a.rs.map Sl8.l = b.rs.map Sl8.l := fun e => of_decide_eq_false g1 (by have := congrArg List.length e; rw [List.length_map, List.length_map] at this; omega)
    rw [decide_eq_false hne]
    repeat (first | refine JL.q (by first | (apply OQ.len (k := a.rs.length) (ad := a.ad) (cap := a.cap); exact Try.underlying57; exact rfl) | (apply OQ.len (k := b.rs.length) (ad := b.ad) (cap := b.cap); exact Try.underlying57; exact rfl) | (apply OQ.neB; exact rfl; exact rfl; exact g1) | (apply OQ.move; exact rfl) | (apply OQ.assign; exact rfl) | (apply OQ.nilc; exact rfl) | (apply OQ.len; exact rfl; exact rfl) | (apply OQ.addN; exact rfl; exact rfl; exact (by (try simp only []); omega)) | (apply OQ.subN; exact rfl; exact rfl; exact (by (try simp only []); omega); exact (by (try simp only []); omega)) | (apply OQ.lssN; exact rfl; exact rfl) | (apply OQ.gtrN; exact rfl; exact rfl) | (apply OQ.fld; exact rfl; exact rfl; exact rfl; exact (by decide); exact rfl)) rfl ?_ | refine JC.seq ?_ | refine JC.region ?_ | refine JC.block ?_ | refine JC.skip ?_ | refine JC.exit ?_ | refine JL.nil ?_ | refine JE.next ?_ | refine JE.blk_normal ?_ | refine JE.then_exit ?_ | refine JE.blk_hit ?_ | refine JE.blk_miss rfl ?_ | refine JE.then_ret ?_ | refine JE.blk_ret ?_ | refine JC.label ?_ | refine JL.gon rfl rfl ?_ | refine JL.gskip rfl rfl rfl rfl ?_ | refine JL.gskipU rfl rfl rfl rfl ?_)
    refine JC.cond_true rfl rfl ?_
    repeat (first | refine JL.q (by first | (apply OQ.move; exact rfl) | (apply OQ.assign; exact rfl) | (apply OQ.nilc; exact rfl) | (apply OQ.len; exact rfl; exact rfl) | (apply OQ.addN; exact rfl; exact rfl; exact (by (try simp only []); omega)) | (apply OQ.subN; exact rfl; exact rfl; exact (by (try simp only []); omega); exact (by (try simp only []); omega)) | (apply OQ.lssN; exact rfl; exact rfl) | (apply OQ.gtrN; exact rfl; exact rfl) | (apply OQ.fld; exact rfl; exact rfl; exact rfl; exact (by decide); exact rfl)) rfl ?_ | refine JC.seq ?_ | refine JC.region ?_ | refine JC.block ?_ | refine JC.skip ?_ | refine JC.exit ?_ | refine JL.nil ?_ | refine JE.next ?_ | refine JE.blk_normal ?_ | refine JE.then_exit ?_ | refine JE.blk_hit ?_ | refine JE.blk_miss rfl ?_ | refine JE.then_ret ?_ | refine JE.blk_ret ?_ | refine JC.label ?_ | refine JL.gon rfl rfl ?_ | refine JL.gskip rfl rfl rfl rfl ?_ | refine JL.gskipU rfl rfl rfl rfl ?_)
    refine JC.ret ?_
    repeat (first | refine JL.q (by first | (apply OQ.move; exact rfl) | (apply OQ.assign; exact rfl) | (apply OQ.nilc; exact rfl) | (apply OQ.len; exact rfl; exact rfl) | (apply OQ.addN; exact rfl; exact rfl; exact (by (try simp only []); omega)) | (apply OQ.subN; exact rfl; exact rfl; exact (by (try simp only []); omega); exact (by (try simp only []); omega)) | (apply OQ.lssN; exact rfl; exact rfl) | (apply OQ.gtrN; exact rfl; exact rfl) | (apply OQ.fld; exact rfl; exact rfl; exact rfl; exact (by decide); exact rfl)) rfl ?_ | refine JC.seq ?_ | refine JC.region ?_ | refine JC.block ?_ | refine JC.skip ?_ | refine JC.exit ?_ | refine JL.nil ?_ | refine JE.next ?_ | refine JE.blk_normal ?_ | refine JE.then_exit ?_ | refine JE.blk_hit ?_ | refine JE.blk_miss rfl ?_ | refine JE.then_ret ?_ | refine JE.blk_ret ?_ | refine JC.label ?_ | refine JL.gon rfl rfl ?_ | refine JL.gskip rfl rfl rfl rfl ?_ | refine JL.gskipU rfl rfl rfl rfl ?_)
    exact JE.ret1 rfl (RV.tmp rfl) fun w' hw => ⟨rfl, hw.chg⟩
  have hab : a.rs.length = b.rs.length := by have := of_decide_eq_true g1; omega
  repeat (first | refine JL.q (by first | (apply OQ.len (k := a.rs.length) (ad := a.ad) (cap := a.cap); exact Try.underlying57; exact rfl) | (apply OQ.len (k := b.rs.length) (ad := b.ad) (cap := b.cap); exact Try.underlying57; exact rfl) | (apply OQ.neB; exact rfl; exact rfl; exact g1) | (apply OQ.move; exact rfl) | (apply OQ.assign; exact rfl) | (apply OQ.nilc; exact rfl) | (apply OQ.len; exact rfl; exact rfl) | (apply OQ.addN; exact rfl; exact rfl; exact (by (try simp only []); omega)) | (apply OQ.subN; exact rfl; exact rfl; exact (by (try simp only []); omega); exact (by (try simp only []); omega)) | (apply OQ.lssN; exact rfl; exact rfl) | (apply OQ.gtrN; exact rfl; exact rfl) | (apply OQ.fld; exact rfl; exact rfl; exact rfl; exact (by decide); exact rfl)) rfl ?_ | refine JC.seq ?_ | refine JC.region ?_ | refine JC.block ?_ | refine JC.skip ?_ | refine JC.exit ?_ | refine JL.nil ?_ | refine JE.next ?_ | refine JE.blk_normal ?_ | refine JE.then_exit ?_ | refine JE.blk_hit ?_ | refine JE.blk_miss rfl ?_ | refine JE.then_ret ?_ | refine JE.blk_ret ?_ | refine JC.label ?_ | refine JL.gon rfl rfl ?_ | refine JL.gskip rfl rfl rfl rfl ?_ | refine JL.gskipU rfl rfl rfl rfl ?_)
  refine JC.cond_false rfl rfl ?_
  repeat (first | refine JL.q (by first | (apply OQ.move; exact rfl) | (apply OQ.assign; exact rfl) | (apply OQ.nilc; exact rfl) | (apply OQ.len; exact rfl; exact rfl) | (apply OQ.addN; exact rfl; exact rfl; exact (by (try simp only []); omega)) | (apply OQ.subN; exact rfl; exact rfl; exact (by (try simp only []); omega); exact (by (try simp only []); omega)) | (apply OQ.lssN; exact rfl; exact rfl) | (apply OQ.gtrN; exact rfl; exact rfl) | (apply OQ.fld; exact rfl; exact rfl; exact rfl; exact (by decide); exact rfl)) rfl ?_ | refine JC.seq ?_ | refine JC.region ?_ | refine JC.block ?_ | refine JC.skip ?_ | refine JC.exit ?_ | refine JL.nil ?_ | refine JE.next ?_ | refine JE.blk_normal ?_ | refine JE.then_exit ?_ | refine JE.blk_hit ?_ | refine JE.blk_miss rfl ?_ | refine JE.then_ret ?_ | refine JE.blk_ret ?_ | refine JC.label ?_ | refine JL.gon rfl rfl ?_ | refine JL.gskip rfl rfl rfl rfl ?_ | refine JL.gskipU rfl rfl rfl rfl ?_)
  refine JC.loop (fun i : Nat => [(0, a.v), (1, b.v), (5, N i)]) (fun _ => []) (fun i => a.rs.length - i) (fun i => i ≤ a.rs.length ∧ (a.rs.map Sl8.l).take i = (b.rs.map Sl8.l).take i) 0 ⟨Nat.zero_le _, rfl⟩ (by repeat (first | exact SubE.nil | refine SubE.cons _ _ _ rfl ?_)) (Less.refl _) ?_
  rintro i ⟨hi, ht⟩
  repeat (first | refine JL.q (by first | (apply OQ.len (k := a.rs.length) (ad := a.ad) (cap := a.cap); exact Try.underlying57; exact rfl) | (apply OQ.move; exact rfl) | (apply OQ.assign; exact rfl) | (apply OQ.nilc; exact rfl) | (apply OQ.len; exact rfl; exact rfl) | (apply OQ.addN; exact rfl; exact rfl; exact (by (try simp only []); omega)) | (apply OQ.subN; exact rfl; exact rfl; exact (by (try simp only []); omega); exact (by (try simp only []); omega)) | (apply OQ.lssN; exact rfl; exact rfl) | (apply OQ.gtrN; exact rfl; exact rfl) | (apply OQ.fld; exact rfl; exact rfl; exact rfl; exact (by decide); exact rfl)) rfl ?_ | refine JC.seq ?_ | refine JC.region ?_ | refine JC.block ?_ | refine JC.skip ?_ | refine JC.exit ?_ | refine JL.nil ?_ | refine JE.next ?_ | refine JE.blk_normal ?_ | refine JE.then_exit ?_ | refine JE.blk_hit ?_ | refine JE.blk_miss rfl ?_ | refine JE.then_ret ?_ | refine JE.blk_ret ?_ | refine JC.label ?_ | refine JL.gon rfl rfl ?_ | refine JL.gskip rfl rfl rfl rfl ?_ | refine JL.gskipU rfl rfl rfl rfl ?_)
  refine JC.cond rfl (fun hc => ?_) (fun hc => ?_)
  · have hi' : i < a.rs.length := by have := of_decide_eq_true hc; omega
    clear hc
    obtain ⟨ba, ja, ea, la, ca⟩ := slLj_at ha (by omega)
    obtain ⟨bb, jb, eb, lb, cb⟩ := slLj_at hb (by omega)
    have cai := ca i hi'
    have cbi := cb i (by omega)
    have oka := ha.all _ (getD_mem' hi')
    have okb := hb.all _ (getD_mem' (show i < b.rs.length by omega))
    have hla := hl _ (getD_mem' hi')
    have eqi : (a.rs.map Sl8.l).take (i + 1) = (a.rs.map Sl8.l).take i ++ [(a.rs.getD i nilS).l] := by
      rw [List.take_add_one]; simp [List.getD_eq_getElem?_getD, hi']
    have eqj : (b.rs.map Sl8.l).take (i + 1) = (b.rs.map Sl8.l).take i ++ [(b.rs.getD i nilS).l] := by
      rw [List.take_add_one]; simp [List.getD_eq_getElem?_getD, show i < b.rs.length by omega]
    generalize a.rs.getD i nilS = sa at cai oka hla eqi
    generalize b.rs.getD i nilS = sb at cbi okb eqj
    have hva : a.v = .slice (some ⟨ba, ja, none⟩) a.rs.length a.cap := by rw [← ea]; rfl
    have hvb : b.v = .slice (some ⟨bb, jb, none⟩) b.rs.length b.cap := by rw [← eb]; rfl
    rw [hva, hvb]
    repeat (first | refine JL.q (by first | (apply OQ.move; exact rfl) | (apply OQ.assign; exact rfl) | (apply OQ.nilc; exact rfl) | (apply OQ.len; exact rfl; exact rfl) | (apply OQ.addN; exact rfl; exact rfl; exact (by (try simp only []); omega)) | (apply OQ.subN; exact rfl; exact rfl; exact (by (try simp only []); omega); exact (by (try simp only []); omega)) | (apply OQ.lssN; exact rfl; exact rfl) | (apply OQ.gtrN; exact rfl; exact rfl) | (apply OQ.fld; exact rfl; exact rfl; exact rfl; exact (by decide); exact rfl)) rfl ?_ | refine JC.seq ?_ | refine JC.region ?_ | refine JC.block ?_ | refine JC.skip ?_ | refine JC.exit ?_ | refine JL.nil ?_ | refine JE.next ?_ | refine JE.blk_normal ?_ | refine JE.then_exit ?_ | refine JE.blk_hit ?_ | refine JE.blk_miss rfl ?_ | refine JE.then_ret ?_ | refine JE.blk_ret ?_ | refine JC.label ?_ | refine JL.gon rfl rfl ?_ | refine JL.gskip rfl rfl rfl rfl ?_ | refine JL.gskipU rfl rfl rfl rfl ?_)
    refine JC.quiet mixT (by kernel_rfl) ?_
    repeat (first | refine JL.q (by first | (apply OQ.idxS1 (i := i) (b := ba) (j := ja); exact Try.underlying57; exact sleJ; exact rfl; exact rfl; exact hi') | (apply OQ.idxS1 (i := i) (b := bb) (j := jb); exact Try.underlying57; exact sleJ; exact rfl; exact rfl; exact (show i < b.rs.length by omega)) | (apply OQ.load_old; exact slCj; exact rfl; exact la; exact (by simp); exact cai) | (apply OQ.load_old; exact slCj; exact rfl; exact lb; exact (by simp); exact cbi) | (apply OQ.callx (vs := [sa.v, sb.v]); exact goes_same; exact rfl; exact (fun w' hw' => same_any sa sb w' (oka.holds hw' rfl) (okb.holds hw' rfl) hla)) | (apply OQ.not; exact rfl) | (apply OQ.move; exact rfl) | (apply OQ.assign; exact rfl) | (apply OQ.nilc; exact rfl) | (apply OQ.len; exact rfl; exact rfl) | (apply OQ.addN; exact rfl; exact rfl; exact (by (try simp only []); omega)) | (apply OQ.subN; exact rfl; exact rfl; exact (by (try simp only []); omega); exact (by (try simp only []); omega)) | (apply OQ.lssN; exact rfl; exact rfl) | (apply OQ.gtrN; exact rfl; exact rfl) | (apply OQ.fld; exact rfl; exact rfl; exact rfl; exact (by decide); exact rfl)) rfl ?_ | refine JQ.q (by first | (apply OQ.idxS1 (i := i) (b := ba) (j := ja); exact Try.underlying57; exact sleJ; exact rfl; exact rfl; exact hi') | (apply OQ.idxS1 (i := i) (b := bb) (j := jb); exact Try.underlying57; exact sleJ; exact rfl; exact rfl; exact (show i < b.rs.length by omega)) | (apply OQ.load_old; exact slCj; exact rfl; exact la; exact (by simp); exact cai) | (apply OQ.load_old; exact slCj; exact rfl; exact lb; exact (by simp); exact cbi) | (apply OQ.callx (vs := [sa.v, sb.v]); exact goes_same; exact rfl; exact (fun w' hw' => same_any sa sb w' (oka.holds hw' rfl) (okb.holds hw' rfl) hla)) | (apply OQ.not; exact rfl) | (apply OQ.move; exact rfl) | (apply OQ.assign; exact rfl) | (apply OQ.nilc; exact rfl) | (apply OQ.len; exact rfl; exact rfl) | (apply OQ.addN; exact rfl; exact rfl; exact (by (try simp only []); omega)) | (apply OQ.subN; exact rfl; exact rfl; exact (by (try simp only []); omega); exact (by (try simp only []); omega)) | (apply OQ.lssN; exact rfl; exact rfl) | (apply OQ.gtrN; exact rfl; exact rfl) | (apply OQ.fld; exact rfl; exact rfl; exact rfl; exact (by decide); exact rfl)) rfl ?_ | refine JC.seq ?_ | refine JC.region ?_ | refine JC.block ?_ | refine JC.skip ?_ | refine JC.exit ?_ | refine JL.nil ?_ | refine JQ.nil ?_ | refine JQ.nil_tail ?_ | refine JE.next ?_ | refine JE.blk_normal ?_ | refine JE.then_exit ?_ | refine JE.blk_hit ?_ | refine JE.blk_miss rfl ?_ | refine JE.then_ret ?_ | refine JE.blk_ret ?_ | refine JC.label ?_ | refine JL.gon rfl rfl ?_ | refine JQ.gon rfl rfl ?_ | refine JL.gskip rfl rfl rfl rfl ?_ | refine JQ.gskip rfl rfl rfl rfl ?_ | refine JL.gskipU rfl rfl rfl rfl ?_ | refine JQ.gskipU rfl rfl rfl rfl ?_)
    cases g2 : decide (sa.l = sb.l)
    case false =>
      refine JC.cond_true rfl rfl ?_
      have hne : ¬ a.rs.map Sl8.l = b.rs.map Sl8.l := fun e => by
        rw [e, eqj] at eqi
        exact of_decide_eq_false g2 (by simpa using (List.append_cancel_left eqi).symm)
      rw [decide_eq_false hne]
      repeat (first | refine JL.q (by first | (apply OQ.move; exact rfl) | (apply OQ.assign; exact rfl) | (apply OQ.nilc; exact rfl) | (apply OQ.len; exact rfl; exact rfl) | (apply OQ.addN; exact rfl; exact rfl; exact (by (try simp only []); omega)) | (apply OQ.subN; exact rfl; exact rfl; exact (by (try simp only []); omega); exact (by (try simp only []); omega)) | (apply OQ.lssN; exact rfl; exact rfl) | (apply OQ.gtrN; exact rfl; exact rfl) | (apply OQ.fld; exact rfl; exact rfl; exact rfl; exact (by decide); exact rfl)) rfl ?_ | refine JQ.q (by first | (apply OQ.move; exact rfl) | (apply OQ.assign; exact rfl) | (apply OQ.nilc; exact rfl) | (apply OQ.len; exact rfl; exact rfl) | (apply OQ.addN; exact rfl; exact rfl; exact (by (try simp only []); omega)) | (apply OQ.subN; exact rfl; exact rfl; exact (by (try simp only []); omega); exact (by (try simp only []); omega)) | (apply OQ.lssN; exact rfl; exact rfl) | (apply OQ.gtrN; exact rfl; exact rfl) | (apply OQ.fld; exact rfl; exact rfl; exact rfl; exact (by decide); exact rfl)) rfl ?_ | refine JC.seq ?_ | refine JC.region ?_ | refine JC.block ?_ | refine JC.skip ?_ | refine JC.exit ?_ | refine JL.nil ?_ | refine JQ.nil ?_ | refine JQ.nil_tail ?_ | refine JE.next ?_ | refine JE.blk_normal ?_ | refine JE.then_exit ?_ | refine JE.blk_hit ?_ | refine JE.blk_miss rfl ?_ | refine JE.then_ret ?_ | refine JE.blk_ret ?_ | refine JC.label ?_ | refine JL.gon rfl rfl ?_ | refine JQ.gon rfl rfl ?_ | refine JL.gskip rfl rfl rfl rfl ?_ | refine JQ.gskip rfl rfl rfl rfl ?_ | refine JL.gskipU rfl rfl rfl rfl ?_ | refine JQ.gskipU rfl rfl rfl rfl ?_)
      refine JC.ret ?_
      repeat (first | refine JL.q (by first | (apply OQ.move; exact rfl) | (apply OQ.assign; exact rfl) | (apply OQ.nilc; exact rfl) | (apply OQ.len; exact rfl; exact rfl) | (apply OQ.addN; exact rfl; exact rfl; exact (by (try simp only []); omega)) | (apply OQ.subN; exact rfl; exact rfl; exact (by (try simp only []); omega); exact (by (try simp only []); omega)) | (apply OQ.lssN; exact rfl; exact rfl) | (apply OQ.gtrN; exact rfl; exact rfl) | (apply OQ.fld; exact rfl; exact rfl; exact rfl; exact (by decide); exact rfl)) rfl ?_ | refine JQ.q (by first | (apply OQ.move; exact rfl) | (apply OQ.assign; exact rfl) | (apply OQ.nilc; exact rfl) | (apply OQ.len; exact rfl; exact rfl) | (apply OQ.addN; exact rfl; exact rfl; exact (by (try simp only []); omega)) | (apply OQ.subN; exact rfl; exact rfl; exact (by (try simp only []); omega); exact (by (try simp only []); omega)) | (apply OQ.lssN; exact rfl; exact rfl) | (apply OQ.gtrN; exact rfl; exact rfl) | (apply OQ.fld; exact rfl; exact rfl; exact rfl; exact (by decide); exact rfl)) rfl ?_ | refine JC.seq ?_ | refine JC.region ?_ | refine JC.block ?_ | refine JC.skip ?_ | refine JC.exit ?_ | refine JL.nil ?_ | refine JQ.nil ?_ | refine JQ.nil_tail ?_ | refine JE.next ?_ | refine JE.blk_normal ?_ | refine JE.then_exit ?_ | refine JE.blk_hit ?_ | refine JE.blk_miss rfl ?_ | refine JE.then_ret ?_ | refine JE.blk_ret ?_ | refine JC.label ?_ | refine JL.gon rfl rfl ?_ | refine JQ.gon rfl rfl ?_ | refine JL.gskip rfl rfl rfl rfl ?_ | refine JQ.gskip rfl rfl rfl rfl ?_ | refine JL.gskipU rfl rfl rfl rfl ?_ | refine JQ.gskipU rfl rfl rfl rfl ?_)
      exact JE.ret1 rfl (RV.tmp rfl) fun w' hw => ⟨rfl, hw.chg⟩
    case true =>
      refine JC.cond_false rfl rfl ?_
      repeat (first | refine JL.q (by first | (apply OQ.move; exact rfl) | (apply OQ.assign; exact rfl) | (apply OQ.nilc; exact rfl) | (apply OQ.len; exact rfl; exact rfl) | (apply OQ.addN; exact rfl; exact rfl; exact (by (try simp only []); omega)) | (apply OQ.subN; exact rfl; exact rfl; exact (by (try simp only []); omega); exact (by (try simp only []); omega)) | (apply OQ.lssN; exact rfl; exact rfl) | (apply OQ.gtrN; exact rfl; exact rfl) | (apply OQ.fld; exact rfl; exact rfl; exact rfl; exact (by decide); exact rfl)) rfl ?_ | refine JQ.q (by first | (apply OQ.move; exact rfl) | (apply OQ.assign; exact rfl) | (apply OQ.nilc; exact rfl) | (apply OQ.len; exact rfl; exact rfl) | (apply OQ.addN; exact rfl; exact rfl; exact (by (try simp only []); omega)) | (apply OQ.subN; exact rfl; exact rfl; exact (by (try simp only []); omega); exact (by (try simp only []); omega)) | (apply OQ.lssN; exact rfl; exact rfl) | (apply OQ.gtrN; exact rfl; exact rfl) | (apply OQ.fld; exact rfl; exact rfl; exact rfl; exact (by decide); exact rfl)) rfl ?_ | refine JC.seq ?_ | refine JC.region ?_ | refine JC.block ?_ | refine JC.skip ?_ | refine JC.exit ?_ | refine JL.nil ?_ | refine JQ.nil ?_ | refine JQ.nil_tail ?_ | refine JE.next ?_ | refine JE.blk_normal ?_ | refine JE.then_exit ?_ | refine JE.blk_hit ?_ | refine JE.blk_miss rfl ?_ | refine JE.then_ret ?_ | refine JE.blk_ret ?_ | refine JC.label ?_ | refine JL.gon rfl rfl ?_ | refine JQ.gon rfl rfl ?_ | refine JL.gskip rfl rfl rfl rfl ?_ | refine JQ.gskip rfl rfl rfl rfl ?_ | refine JL.gskipU rfl rfl rfl rfl ?_ | refine JQ.gskipU rfl rfl rfl rfl ?_)
      exact JE.again (i := i) (i + 1) ⟨hi', by rw [eqi, eqj, ht, of_decide_eq_true g2]⟩ (by omega) (by repeat (first | exact SubE.nil | refine SubE.cons _ _ _ rfl ?_)) (Less.refl _)
  · have hi' : i = a.rs.length := by have := of_decide_eq_false hc; omega
    have he : a.rs.map Sl8.l = b.rs.map Sl8.l := by
      rw [hi', List.take_of_length_le (by rw [List.length_map]; exact Nat.le_refl _), List.take_of_length_le (by rw [List.length_map]; omega)] at ht
      exact ht
    rw [decide_eq_true he]
    repeat (first | refine JL.q (by first | (apply OQ.move; exact rfl) | (apply OQ.assign; exact rfl) | (apply OQ.nilc; exact rfl) | (apply OQ.len; exact rfl; exact rfl) | (apply OQ.addN; exact rfl; exact rfl; exact (by (try simp only []); omega)) | (apply OQ.subN; exact rfl; exact rfl; exact (by (try simp only []); omega); exact (by (try simp only []); omega)) | (apply OQ.lssN; exact rfl; exact rfl) | (apply OQ.gtrN; exact rfl; exact rfl) | (apply OQ.fld; exact rfl; exact rfl; exact rfl; exact (by decide); exact rfl)) rfl ?_ | refine JQ.q (by first | (apply OQ.move; exact rfl) | (apply OQ.assign; exact rfl) | (apply OQ.nilc; exact rfl) | (apply OQ.len; exact rfl; exact rfl) | (apply OQ.addN; exact rfl; exact rfl; exact (by (try simp only []); omega)) | (apply OQ.subN; exact rfl; exact rfl; exact (by (try simp only []); omega); exact (by (try simp only []); omega)) | (apply OQ.lssN; exact rfl; exact rfl) | (apply OQ.gtrN; exact rfl; exact rfl) | (apply OQ.fld; exact rfl; exact rfl; exact rfl; exact (by decide); exact rfl)) rfl ?_ | refine JC.seq ?_ | refine JC.region ?_ | refine JC.block ?_ | refine JC.skip ?_ | refine JC.exit ?_ | refine JL.nil ?_ | refine JQ.nil ?_ | refine JQ.nil_tail ?_ | refine JE.next ?_ | refine JE.blk_normal ?_ | refine JE.then_exit ?_ | refine JE.blk_hit ?_ | refine JE.blk_miss rfl ?_ | refine JE.then_ret ?_ | refine JE.blk_ret ?_ | refine JC.label ?_ | refine JL.gon rfl rfl ?_ | refine JQ.gon rfl rfl ?_ | refine JL.gskip rfl rfl rfl rfl ?_ | refine JQ.gskip rfl rfl rfl rfl ?_ | refine JL.gskipU rfl rfl rfl rfl ?_ | refine JQ.gskipU rfl rfl rfl rfl ?_)
    exact JC.ret (JE.ret1 rfl (RV.tmp rfl) fun w' hw => ⟨rfl, hw.chg⟩)
end Go.Proofs.Ytopdkpeahhnihaa

/-
  Of no statement by itself: what JournalLasts gives.
  Conditions: each theorem's own.
-/
namespace Go.Proofs.Ytopdkpeahhnihaa
set_option maxRecDepth 10000
open Sl Dsk Jrn
/-- a state between two calls: the journal, its disk, and what is wanted of it -/
structure Lz where
  i : Nat
  j : Nat
  h : Hf
  bl : List Bk
  q : Nat × Nat
  rs : List Sl8
def Lz.recs (z : Lz) : List Bk := z.rs.map Sl8.l
def Lz.E (z : Lz) : List Ent := jnE z.j z.h z.bl [] ++ accE 33 (some z.q) (z.rs.map Sl8.v)
structure Lz.ok (z : Lz) (w : World) (g : Nat) : Prop where
  v : Jv z.h z.bl z.recs
  d : DkOk z.h.x z.bl []
  g : z.h.g.toNat ≤ g
  n : z.rs.length ≤ z.i + 1
  a : ∀ y ∈ z.rs, y.ok w ∧ y.l.length ≤ 2000
def Lz.s (z : Lz) : SlL := ⟨some ⟨z.q.1, 0, none⟩, z.q.2, z.rs⟩
theorem Lz.sok {z : Lz} {w w' : World} {g : Nat} {A M : List Ent} (hz : z.ok w g) (hw : Holds w [] (A ++ (accE 33 (some z.q) (z.rs.map Sl8.v) ++ M)) w') : z.s.ok w' := by
  obtain ⟨o, ho, hA⟩ := hw.get (b := z.q.1) (A := Sl.Own 33 1 (z.rs.map Sl8.v).length z.q.2 (z.rs.map Sl8.v)) (wr := true) (hasR (N := A) .here)
  have hc := hA
  obtain ⟨sp, _, _, _, h4⟩ := hc
  refine ⟨by rw [List.length_map] at h4; exact h4, Reads.block ho (Own.cells o hA), fun y hy => (hz.a y hy).1.holds hw rfl⟩
theorem crash_nil (ps : List Bt) (bl : List Bk) : crash ps bl [] = bl := rfl
set_option maxHeartbeats 64000000 in
theorem law_journalLasts (n : Int) (list : SlL) (picks : Sl8) (w : World) (hl : list.ok w) (hp : picks.ok w) : Calls Try.prog 7 [.int .i64 n, list.v, picks.v].toArray w fun e w' => e = .returned (.bool true) ∧ Ext w w' := by
  refine enter (n := 99) Try.func7 rfl rfl rfl (Holds.start w []) ?_
  repeat (first | refine JL.q (by first | (apply OQ.callx (vs := []); exact goes_speaks15; exact rfl; exact (fun w' _ => speaks15_any w')) | (apply OQ.not; exact rfl) | (apply OQ.move; exact rfl) | (apply OQ.assign; exact rfl) | (apply OQ.nilc; exact rfl) | (apply OQ.len; exact rfl; exact rfl) | (apply OQ.addN; exact rfl; exact rfl; exact (by (try simp only []); omega)) | (apply OQ.subN; exact rfl; exact rfl; exact (by (try simp only []); omega); exact (by (try simp only []); omega)) | (apply OQ.lssN; exact rfl; exact rfl) | (apply OQ.gtrN; exact rfl; exact rfl) | (apply OQ.fld; exact rfl; exact rfl; exact rfl; exact (by decide); exact rfl)) rfl ?_ | refine JC.seq ?_ | refine JC.region ?_ | refine JC.block ?_ | refine JC.skip ?_ | refine JC.exit ?_ | refine JL.nil ?_ | refine JE.next ?_ | refine JE.blk_normal ?_ | refine JE.then_exit ?_ | refine JE.blk_hit ?_ | refine JE.blk_miss rfl ?_ | refine JE.then_ret ?_ | refine JE.blk_ret ?_ | refine JC.label ?_ | refine JL.gon rfl rfl ?_ | refine JL.gskip rfl rfl rfl rfl ?_ | refine JL.gskipU rfl rfl rfl rfl ?_)
  refine JC.cond_false rfl rfl ?_
  cases g1 : decide (n < 4)
  case true =>
    repeat (first | refine JL.q (by first | (apply OQ.lssB (b := 4); exact rfl; exact rfl; exact g1) | (apply OQ.pick_t; exact rfl; exact rfl) | (apply OQ.move; exact rfl) | (apply OQ.assign; exact rfl) | (apply OQ.nilc; exact rfl) | (apply OQ.len; exact rfl; exact rfl) | (apply OQ.addN; exact rfl; exact rfl; exact (by (try simp only []); omega)) | (apply OQ.subN; exact rfl; exact rfl; exact (by (try simp only []); omega); exact (by (try simp only []); omega)) | (apply OQ.lssN; exact rfl; exact rfl) | (apply OQ.gtrN; exact rfl; exact rfl) | (apply OQ.fld; exact rfl; exact rfl; exact rfl; exact (by decide); exact rfl)) rfl ?_ | refine JC.seq ?_ | refine JC.region ?_ | refine JC.block ?_ | refine JC.skip ?_ | refine JC.exit ?_ | refine JL.nil ?_ | refine JE.next ?_ | refine JE.blk_normal ?_ | refine JE.then_exit ?_ | refine JE.blk_hit ?_ | refine JE.blk_miss rfl ?_ | refine JE.then_ret ?_ | refine JE.blk_ret ?_ | refine JC.label ?_ | refine JL.gon rfl rfl ?_ | refine JL.gskip rfl rfl rfl rfl ?_ | refine JL.gskipU rfl rfl rfl rfl ?_)
    refine JC.cond_true rfl rfl ?_
    repeat (first | refine JL.q (by first | (apply OQ.move; exact rfl) | (apply OQ.assign; exact rfl) | (apply OQ.nilc; exact rfl) | (apply OQ.len; exact rfl; exact rfl) | (apply OQ.addN; exact rfl; exact rfl; exact (by (try simp only []); omega)) | (apply OQ.subN; exact rfl; exact rfl; exact (by (try simp only []); omega); exact (by (try simp only []); omega)) | (apply OQ.lssN; exact rfl; exact rfl) | (apply OQ.gtrN; exact rfl; exact rfl) | (apply OQ.fld; exact rfl; exact rfl; exact rfl; exact (by decide); exact rfl)) rfl ?_ | refine JC.seq ?_ | refine JC.region ?_ | refine JC.block ?_ | refine JC.skip ?_ | refine JC.exit ?_ | refine JL.nil ?_ | refine JE.next ?_ | refine JE.blk_normal ?_ | refine JE.then_exit ?_ | refine JE.blk_hit ?_ | refine JE.blk_miss rfl ?_ | refine JE.then_ret ?_ | refine JE.blk_ret ?_ | refine JC.label ?_ | refine JL.gon rfl rfl ?_ | refine JL.gskip rfl rfl rfl rfl ?_ | refine JL.gskipU rfl rfl rfl rfl ?_)
    refine JC.ret ?_
    repeat (first | refine JL.q (by first | (apply OQ.move; exact rfl) | (apply OQ.assign; exact rfl) | (apply OQ.nilc; exact rfl) | (apply OQ.len; exact rfl; exact rfl) | (apply OQ.addN; exact rfl; exact rfl; exact (by (try simp only []); omega)) | (apply OQ.subN; exact rfl; exact rfl; exact (by (try simp only []); omega); exact (by (try simp only []); omega)) | (apply OQ.lssN; exact rfl; exact rfl) | (apply OQ.gtrN; exact rfl; exact rfl) | (apply OQ.fld; exact rfl; exact rfl; exact rfl; exact (by decide); exact rfl)) rfl ?_ | refine JC.seq ?_ | refine JC.region ?_ | refine JC.block ?_ | refine JC.skip ?_ | refine JC.exit ?_ | refine JL.nil ?_ | refine JE.next ?_ | refine JE.blk_normal ?_ | refine JE.then_exit ?_ | refine JE.blk_hit ?_ | refine JE.blk_miss rfl ?_ | refine JE.then_ret ?_ | refine JE.blk_ret ?_ | refine JC.label ?_ | refine JL.gon rfl rfl ?_ | refine JL.gskip rfl rfl rfl rfl ?_ | refine JL.gskipU rfl rfl rfl rfl ?_)
    exact JE.ret1 rfl (RV.tmp rfl) fun w' hw => ⟨rfl, hw.chg⟩
  cases g2 : decide ((200 : Int) < n)
  case true =>
    repeat (first | refine JL.q (by first | (apply OQ.lssB (b := 4); exact rfl; exact rfl; exact g1) | (apply OQ.gtrB (b := 200); exact rfl; exact rfl; exact g2) | (apply OQ.pick_t; exact rfl; exact rfl) | (apply OQ.pick_f; exact rfl; exact rfl) | (apply OQ.move; exact rfl) | (apply OQ.assign; exact rfl) | (apply OQ.nilc; exact rfl) | (apply OQ.len; exact rfl; exact rfl) | (apply OQ.addN; exact rfl; exact rfl; exact (by (try simp only []); omega)) | (apply OQ.subN; exact rfl; exact rfl; exact (by (try simp only []); omega); exact (by (try simp only []); omega)) | (apply OQ.lssN; exact rfl; exact rfl) | (apply OQ.gtrN; exact rfl; exact rfl) | (apply OQ.fld; exact rfl; exact rfl; exact rfl; exact (by decide); exact rfl)) rfl ?_ | refine JC.seq ?_ | refine JC.region ?_ | refine JC.block ?_ | refine JC.skip ?_ | refine JC.exit ?_ | refine JL.nil ?_ | refine JE.next ?_ | refine JE.blk_normal ?_ | refine JE.then_exit ?_ | refine JE.blk_hit ?_ | refine JE.blk_miss rfl ?_ | refine JE.then_ret ?_ | refine JE.blk_ret ?_ | refine JC.label ?_ | refine JL.gon rfl rfl ?_ | refine JL.gskip rfl rfl rfl rfl ?_ | refine JL.gskipU rfl rfl rfl rfl ?_)
    refine JC.cond_true rfl rfl ?_
    repeat (first | refine JL.q (by first | (apply OQ.move; exact rfl) | (apply OQ.assign; exact rfl) | (apply OQ.nilc; exact rfl) | (apply OQ.len; exact rfl; exact rfl) | (apply OQ.addN; exact rfl; exact rfl; exact (by (try simp only []); omega)) | (apply OQ.subN; exact rfl; exact rfl; exact (by (try simp only []); omega); exact (by (try simp only []); omega)) | (apply OQ.lssN; exact rfl; exact rfl) | (apply OQ.gtrN; exact rfl; exact rfl) | (apply OQ.fld; exact rfl; exact rfl; exact rfl; exact (by decide); exact rfl)) rfl ?_ | refine JC.seq ?_ | refine JC.region ?_ | refine JC.block ?_ | refine JC.skip ?_ | refine JC.exit ?_ | refine JL.nil ?_ | refine JE.next ?_ | refine JE.blk_normal ?_ | refine JE.then_exit ?_ | refine JE.blk_hit ?_ | refine JE.blk_miss rfl ?_ | refine JE.then_ret ?_ | refine JE.blk_ret ?_ | refine JC.label ?_ | refine JL.gon rfl rfl ?_ | refine JL.gskip rfl rfl rfl rfl ?_ | refine JL.gskipU rfl rfl rfl rfl ?_)
    refine JC.ret ?_
    repeat (first | refine JL.q (by first | (apply OQ.move; exact rfl) | (apply OQ.assign; exact rfl) | (apply OQ.nilc; exact rfl) | (apply OQ.len; exact rfl; exact rfl) | (apply OQ.addN; exact rfl; exact rfl; exact (by (try simp only []); omega)) | (apply OQ.subN; exact rfl; exact rfl; exact (by (try simp only []); omega); exact (by (try simp only []); omega)) | (apply OQ.lssN; exact rfl; exact rfl) | (apply OQ.gtrN; exact rfl; exact rfl) | (apply OQ.fld; exact rfl; exact rfl; exact rfl; exact (by decide); exact rfl)) rfl ?_ | refine JC.seq ?_ | refine JC.region ?_ | refine JC.block ?_ | refine JC.skip ?_ | refine JC.exit ?_ | refine JL.nil ?_ | refine JE.next ?_ | refine JE.blk_normal ?_ | refine JE.then_exit ?_ | refine JE.blk_hit ?_ | refine JE.blk_miss rfl ?_ | refine JE.then_ret ?_ | refine JE.blk_ret ?_ | refine JC.label ?_ | refine JL.gon rfl rfl ?_ | refine JL.gskip rfl rfl rfl rfl ?_ | refine JL.gskipU rfl rfl rfl rfl ?_)
    exact JE.ret1 rfl (RV.tmp rfl) fun w' hw => ⟨rfl, hw.chg⟩
  obtain ⟨m, rfl⟩ := Int.eq_ofNat_of_zero_le (show 0 ≤ n by have := of_decide_eq_false g1; omega)
  have hm4 : 4 ≤ m := by have := of_decide_eq_false g1; omega
  have hm2 : m ≤ 200 := by have := of_decide_eq_false g2; omega
  cases g3 : decide ((60 : Int) < (list.rs.length : Int))
  case true =>
    repeat (first | refine JL.q (by first | (apply OQ.lssB (b := 4); exact rfl; exact rfl; exact g1) | (apply OQ.gtrB (b := 200); exact rfl; exact rfl; exact g2) | (apply OQ.len (k := list.rs.length) (ad := list.ad) (cap := list.cap); exact Try.underlying57; exact rfl) | (apply OQ.gtrB (b := 60); exact rfl; exact rfl; exact g3) | (apply OQ.pick_t; exact rfl; exact rfl) | (apply OQ.pick_f; exact rfl; exact rfl) | (apply OQ.move; exact rfl) | (apply OQ.assign; exact rfl) | (apply OQ.nilc; exact rfl) | (apply OQ.len; exact rfl; exact rfl) | (apply OQ.addN; exact rfl; exact rfl; exact (by (try simp only []); omega)) | (apply OQ.subN; exact rfl; exact rfl; exact (by (try simp only []); omega); exact (by (try simp only []); omega)) | (apply OQ.lssN; exact rfl; exact rfl) | (apply OQ.gtrN; exact rfl; exact rfl) | (apply OQ.fld; exact rfl; exact rfl; exact rfl; exact (by decide); exact rfl)) rfl ?_ | refine JC.seq ?_ | refine JC.region ?_ | refine JC.block ?_ | refine JC.skip ?_ | refine JC.exit ?_ | refine JL.nil ?_ | refine JE.next ?_ | refine JE.blk_normal ?_ | refine JE.then_exit ?_ | refine JE.blk_hit ?_ | refine JE.blk_miss rfl ?_ | refine JE.then_ret ?_ | refine JE.blk_ret ?_ | refine JC.label ?_ | refine JL.gon rfl rfl ?_ | refine JL.gskip rfl rfl rfl rfl ?_ | refine JL.gskipU rfl rfl rfl rfl ?_)
    refine JC.cond_true rfl rfl ?_
    repeat (first | refine JL.q (by first | (apply OQ.move; exact rfl) | (apply OQ.assign; exact rfl) | (apply OQ.nilc; exact rfl) | (apply OQ.len; exact rfl; exact rfl) | (apply OQ.addN; exact rfl; exact rfl; exact (by (try simp only []); omega)) | (apply OQ.subN; exact rfl; exact rfl; exact (by (try simp only []); omega); exact (by (try simp only []); omega)) | (apply OQ.lssN; exact rfl; exact rfl) | (apply OQ.gtrN; exact rfl; exact rfl) | (apply OQ.fld; exact rfl; exact rfl; exact rfl; exact (by decide); exact rfl)) rfl ?_ | refine JC.seq ?_ | refine JC.region ?_ | refine JC.block ?_ | refine JC.skip ?_ | refine JC.exit ?_ | refine JL.nil ?_ | refine JE.next ?_ | refine JE.blk_normal ?_ | refine JE.then_exit ?_ | refine JE.blk_hit ?_ | refine JE.blk_miss rfl ?_ | refine JE.then_ret ?_ | refine JE.blk_ret ?_ | refine JC.label ?_ | refine JL.gon rfl rfl ?_ | refine JL.gskip rfl rfl rfl rfl ?_ | refine JL.gskipU rfl rfl rfl rfl ?_)
    refine JC.ret ?_
    repeat (first | refine JL.q (by first | (apply OQ.move; exact rfl) | (apply OQ.assign; exact rfl) | (apply OQ.nilc; exact rfl) | (apply OQ.len; exact rfl; exact rfl) | (apply OQ.addN; exact rfl; exact rfl; exact (by (try simp only []); omega)) | (apply OQ.subN; exact rfl; exact rfl; exact (by (try simp only []); omega); exact (by (try simp only []); omega)) | (apply OQ.lssN; exact rfl; exact rfl) | (apply OQ.gtrN; exact rfl; exact rfl) | (apply OQ.fld; exact rfl; exact rfl; exact rfl; exact (by decide); exact rfl)) rfl ?_ | refine JC.seq ?_ | refine JC.region ?_ | refine JC.block ?_ | refine JC.skip ?_ | refine JC.exit ?_ | refine JL.nil ?_ | refine JE.next ?_ | refine JE.blk_normal ?_ | refine JE.then_exit ?_ | refine JE.blk_hit ?_ | refine JE.blk_miss rfl ?_ | refine JE.then_ret ?_ | refine JE.blk_ret ?_ | refine JC.label ?_ | refine JL.gon rfl rfl ?_ | refine JL.gskip rfl rfl rfl rfl ?_ | refine JL.gskipU rfl rfl rfl rfl ?_)
    exact JE.ret1 rfl (RV.tmp rfl) fun w' hw => ⟨rfl, hw.chg⟩
  cases g4 : decide ((200 : Int) < (picks.l.length : Int))
  case true =>
    repeat (first | refine JL.q (by first | (apply OQ.lssB (b := 4); exact rfl; exact rfl; exact g1) | (apply OQ.gtrB (b := 200); exact rfl; exact rfl; exact g2) | (apply OQ.len (k := list.rs.length) (ad := list.ad) (cap := list.cap); exact Try.underlying57; exact rfl) | (apply OQ.gtrB (b := 60); exact rfl; exact rfl; exact g3) | (apply OQ.len (k := picks.l.length) (ad := picks.ad) (cap := picks.cap); exact Try.underlying33; exact rfl) | (apply OQ.gtrB (b := 200); exact rfl; exact rfl; exact g4) | (apply OQ.pick_t; exact rfl; exact rfl) | (apply OQ.pick_f; exact rfl; exact rfl) | (apply OQ.move; exact rfl) | (apply OQ.assign; exact rfl) | (apply OQ.nilc; exact rfl) | (apply OQ.len; exact rfl; exact rfl) | (apply OQ.addN; exact rfl; exact rfl; exact (by (try simp only []); omega)) | (apply OQ.subN; exact rfl; exact rfl; exact (by (try simp only []); omega); exact (by (try simp only []); omega)) | (apply OQ.lssN; exact rfl; exact rfl) | (apply OQ.gtrN; exact rfl; exact rfl) | (apply OQ.fld; exact rfl; exact rfl; exact rfl; exact (by decide); exact rfl)) rfl ?_ | refine JC.seq ?_ | refine JC.region ?_ | refine JC.block ?_ | refine JC.skip ?_ | refine JC.exit ?_ | refine JL.nil ?_ | refine JE.next ?_ | refine JE.blk_normal ?_ | refine JE.then_exit ?_ | refine JE.blk_hit ?_ | refine JE.blk_miss rfl ?_ | refine JE.then_ret ?_ | refine JE.blk_ret ?_ | refine JC.label ?_ | refine JL.gon rfl rfl ?_ | refine JL.gskip rfl rfl rfl rfl ?_ | refine JL.gskipU rfl rfl rfl rfl ?_)
    refine JC.cond_true rfl rfl ?_
    repeat (first | refine JL.q (by first | (apply OQ.move; exact rfl) | (apply OQ.assign; exact rfl) | (apply OQ.nilc; exact rfl) | (apply OQ.len; exact rfl; exact rfl) | (apply OQ.addN; exact rfl; exact rfl; exact (by (try simp only []); omega)) | (apply OQ.subN; exact rfl; exact rfl; exact (by (try simp only []); omega); exact (by (try simp only []); omega)) | (apply OQ.lssN; exact rfl; exact rfl) | (apply OQ.gtrN; exact rfl; exact rfl) | (apply OQ.fld; exact rfl; exact rfl; exact rfl; exact (by decide); exact rfl)) rfl ?_ | refine JC.seq ?_ | refine JC.region ?_ | refine JC.block ?_ | refine JC.skip ?_ | refine JC.exit ?_ | refine JL.nil ?_ | refine JE.next ?_ | refine JE.blk_normal ?_ | refine JE.then_exit ?_ | refine JE.blk_hit ?_ | refine JE.blk_miss rfl ?_ | refine JE.then_ret ?_ | refine JE.blk_ret ?_ | refine JC.label ?_ | refine JL.gon rfl rfl ?_ | refine JL.gskip rfl rfl rfl rfl ?_ | refine JL.gskipU rfl rfl rfl rfl ?_)
    refine JC.ret ?_
    repeat (first | refine JL.q (by first | (apply OQ.move; exact rfl) | (apply OQ.assign; exact rfl) | (apply OQ.nilc; exact rfl) | (apply OQ.len; exact rfl; exact rfl) | (apply OQ.addN; exact rfl; exact rfl; exact (by (try simp only []); omega)) | (apply OQ.subN; exact rfl; exact rfl; exact (by (try simp only []); omega); exact (by (try simp only []); omega)) | (apply OQ.lssN; exact rfl; exact rfl) | (apply OQ.gtrN; exact rfl; exact rfl) | (apply OQ.fld; exact rfl; exact rfl; exact rfl; exact (by decide); exact rfl)) rfl ?_ | refine JC.seq ?_ | refine JC.region ?_ | refine JC.block ?_ | refine JC.skip ?_ | refine JC.exit ?_ | refine JL.nil ?_ | refine JE.next ?_ | refine JE.blk_normal ?_ | refine JE.then_exit ?_ | refine JE.blk_hit ?_ | refine JE.blk_miss rfl ?_ | refine JE.then_ret ?_ | refine JE.blk_ret ?_ | refine JC.label ?_ | refine JL.gon rfl rfl ?_ | refine JL.gskip rfl rfl rfl rfl ?_ | refine JL.gskipU rfl rfl rfl rfl ?_)
    exact JE.ret1 rfl (RV.tmp rfl) fun w' hw => ⟨rfl, hw.chg⟩
  have h3 : list.rs.length ≤ 60 := by have := of_decide_eq_false g3; omega
  have h4 : picks.l.length ≤ 200 := by have := of_decide_eq_false g4; omega
  repeat (first | refine JL.q (by first | (apply OQ.lssB (b := 4); exact rfl; exact rfl; exact g1) | (apply OQ.gtrB (b := 200); exact rfl; exact rfl; exact g2) | (apply OQ.len (k := list.rs.length) (ad := list.ad) (cap := list.cap); exact Try.underlying57; exact rfl) | (apply OQ.gtrB (b := 60); exact rfl; exact rfl; exact g3) | (apply OQ.len (k := picks.l.length) (ad := picks.ad) (cap := picks.cap); exact Try.underlying33; exact rfl) | (apply OQ.gtrB (b := 200); exact rfl; exact rfl; exact g4) | (apply OQ.pick_t; exact rfl; exact rfl) | (apply OQ.pick_f; exact rfl; exact rfl) | (apply OQ.move; exact rfl) | (apply OQ.assign; exact rfl) | (apply OQ.nilc; exact rfl) | (apply OQ.len; exact rfl; exact rfl) | (apply OQ.addN; exact rfl; exact rfl; exact (by (try simp only []); omega)) | (apply OQ.subN; exact rfl; exact rfl; exact (by (try simp only []); omega); exact (by (try simp only []); omega)) | (apply OQ.lssN; exact rfl; exact rfl) | (apply OQ.gtrN; exact rfl; exact rfl) | (apply OQ.fld; exact rfl; exact rfl; exact rfl; exact (by decide); exact rfl)) rfl ?_ | refine JC.seq ?_ | refine JC.region ?_ | refine JC.block ?_ | refine JC.skip ?_ | refine JC.exit ?_ | refine JL.nil ?_ | refine JE.next ?_ | refine JE.blk_normal ?_ | refine JE.then_exit ?_ | refine JE.blk_hit ?_ | refine JE.blk_miss rfl ?_ | refine JE.then_ret ?_ | refine JE.blk_ret ?_ | refine JC.label ?_ | refine JL.gon rfl rfl ?_ | refine JL.gskip rfl rfl rfl rfl ?_ | refine JL.gskipU rfl rfl rfl rfl ?_)
  refine JC.cond_false rfl rfl ?_
  clear g1 g2 g3 g4
  repeat (first | refine JL.q (by first | (apply OQ.move; exact rfl) | (apply OQ.assign; exact rfl) | (apply OQ.nilc; exact rfl) | (apply OQ.len; exact rfl; exact rfl) | (apply OQ.addN; exact rfl; exact rfl; exact (by (try simp only []); omega)) | (apply OQ.subN; exact rfl; exact rfl; exact (by (try simp only []); omega); exact (by (try simp only []); omega)) | (apply OQ.lssN; exact rfl; exact rfl) | (apply OQ.gtrN; exact rfl; exact rfl) | (apply OQ.fld; exact rfl; exact rfl; exact rfl; exact (by decide); exact rfl)) rfl ?_ | refine JC.seq ?_ | refine JC.region ?_ | refine JC.block ?_ | refine JC.skip ?_ | refine JC.exit ?_ | refine JL.nil ?_ | refine JE.next ?_ | refine JE.blk_normal ?_ | refine JE.then_exit ?_ | refine JE.blk_hit ?_ | refine JE.blk_miss rfl ?_ | refine JE.then_ret ?_ | refine JE.blk_ret ?_ | refine JC.label ?_ | refine JL.gon rfl rfl ?_ | refine JL.gskip rfl rfl rfl rfl ?_ | refine JL.gskipU rfl rfl rfl rfl ?_)
  refine JL.dnew (k := m) (by omega) (by omega) rfl rfl fun x hx => ?_
  repeat (first | refine JL.q (by first | (apply OQ.extract; exact rfl; exact rfl) | (apply OQ.neB (a := 0) (b := 0) (c := true); exact rfl; exact rfl; exact rfl) | (apply OQ.ptrNil; exact Try.underlying24; exact rfl; exact rfl) | (apply OQ.pick_f; exact rfl; exact rfl) | (apply OQ.move; exact rfl) | (apply OQ.assign; exact rfl) | (apply OQ.nilc; exact rfl) | (apply OQ.len; exact rfl; exact rfl) | (apply OQ.addN; exact rfl; exact rfl; exact (by (try simp only []); omega)) | (apply OQ.subN; exact rfl; exact rfl; exact (by (try simp only []); omega); exact (by (try simp only []); omega)) | (apply OQ.lssN; exact rfl; exact rfl) | (apply OQ.gtrN; exact rfl; exact rfl) | (apply OQ.fld; exact rfl; exact rfl; exact rfl; exact (by decide); exact rfl)) rfl ?_ | refine JC.seq ?_ | refine JC.region ?_ | refine JC.block ?_ | refine JC.skip ?_ | refine JC.exit ?_ | refine JL.nil ?_ | refine JE.next ?_ | refine JE.blk_normal ?_ | refine JE.then_exit ?_ | refine JE.blk_hit ?_ | refine JE.blk_miss rfl ?_ | refine JE.then_ret ?_ | refine JE.blk_ret ?_ | refine JC.label ?_ | refine JL.gon rfl rfl ?_ | refine JL.gskip rfl rfl rfl rfl ?_ | refine JL.gskipU rfl rfl rfl rfl ?_)
  refine JC.cond_false rfl rfl ?_
  have hno : noOpen (newB m) = 0 := newB_no hm4
  have hcu := newB_cur m
  have v := Jv.opn (x := x) hx.ok.b (by rw [newB_len]; omega) hno
  have hd := hx.opn hno
  rw [hcu.1] at v
  have hg : (opnJ x (newB m)).g.toNat ≤ 1 := gm_succ (by rw [hcu.2]; exact Nat.le_refl 0) (by decide)
  have hxp : (opnJ x (newB m)).x.p = x.p := rfl
  repeat (first | refine JL.q (by first | (apply OQ.move; exact rfl) | (apply OQ.assign; exact rfl) | (apply OQ.nilc; exact rfl) | (apply OQ.len; exact rfl; exact rfl) | (apply OQ.addN; exact rfl; exact rfl; exact (by (try simp only []); omega)) | (apply OQ.subN; exact rfl; exact rfl; exact (by (try simp only []); omega); exact (by (try simp only []); omega)) | (apply OQ.lssN; exact rfl; exact rfl) | (apply OQ.gtrN; exact rfl; exact rfl) | (apply OQ.fld; exact rfl; exact rfl; exact rfl; exact (by decide); exact rfl)) rfl ?_ | refine JC.seq ?_ | refine JC.region ?_ | refine JC.block ?_ | refine JC.skip ?_ | refine JC.exit ?_ | refine JL.nil ?_ | refine JE.next ?_ | refine JE.blk_normal ?_ | refine JE.then_exit ?_ | refine JE.blk_hit ?_ | refine JE.blk_miss rfl ?_ | refine JE.then_ret ?_ | refine JE.blk_ret ?_ | refine JC.label ?_ | refine JL.gon rfl rfl ?_ | refine JL.gskip rfl rfl rfl rfl ?_ | refine JL.gskipU rfl rfl rfl rfl ?_)
  refine JL.jopen hx (Nat.zero_le _) hno rfl rfl fun j => ?_
  rw [← hxp]
  generalize opnJ x (newB m) = h at v hd hg ⊢
  generalize opnD (newB m) = bl at v hd ⊢
  repeat (first | refine JL.q (by first | (apply OQ.extract; exact rfl; exact rfl) | (apply OQ.neB (a := 0) (b := 0) (c := true); exact rfl; exact rfl; exact rfl) | (apply OQ.ptrNil; exact Try.underlying52; exact rfl; exact rfl) | (apply OQ.pick_f; exact rfl; exact rfl) | (apply OQ.move; exact rfl) | (apply OQ.assign; exact rfl) | (apply OQ.nilc; exact rfl) | (apply OQ.len; exact rfl; exact rfl) | (apply OQ.addN; exact rfl; exact rfl; exact (by (try simp only []); omega)) | (apply OQ.subN; exact rfl; exact rfl; exact (by (try simp only []); omega); exact (by (try simp only []); omega)) | (apply OQ.lssN; exact rfl; exact rfl) | (apply OQ.gtrN; exact rfl; exact rfl) | (apply OQ.fld; exact rfl; exact rfl; exact rfl; exact (by decide); exact rfl)) rfl ?_ | refine JC.seq ?_ | refine JC.region ?_ | refine JC.block ?_ | refine JC.skip ?_ | refine JC.exit ?_ | refine JL.nil ?_ | refine JE.next ?_ | refine JE.blk_normal ?_ | refine JE.then_exit ?_ | refine JE.blk_hit ?_ | refine JE.blk_miss rfl ?_ | refine JE.then_ret ?_ | refine JE.blk_ret ?_ | refine JC.label ?_ | refine JL.gon rfl rfl ?_ | refine JL.gskip rfl rfl rfl rfl ?_ | refine JL.gskipU rfl rfl rfl rfl ?_)
  refine JC.cond_false rfl rfl ?_
  repeat (first | refine JL.q (by first | (apply OQ.move; exact rfl) | (apply OQ.assign; exact rfl) | (apply OQ.nilc; exact rfl) | (apply OQ.len; exact rfl; exact rfl) | (apply OQ.addN; exact rfl; exact rfl; exact (by (try simp only []); omega)) | (apply OQ.subN; exact rfl; exact rfl; exact (by (try simp only []); omega); exact (by (try simp only []); omega)) | (apply OQ.lssN; exact rfl; exact rfl) | (apply OQ.gtrN; exact rfl; exact rfl) | (apply OQ.fld; exact rfl; exact rfl; exact rfl; exact (by decide); exact rfl)) rfl ?_ | refine JC.seq ?_ | refine JC.region ?_ | refine JC.block ?_ | refine JC.skip ?_ | refine JC.exit ?_ | refine JL.nil ?_ | refine JE.next ?_ | refine JE.blk_normal ?_ | refine JE.then_exit ?_ | refine JE.blk_hit ?_ | refine JE.blk_miss rfl ?_ | refine JE.then_ret ?_ | refine JE.blk_ret ?_ | refine JC.label ?_ | refine JL.gon rfl rfl ?_ | refine JL.gskip rfl rfl rfl rfl ?_ | refine JL.gskipU rfl rfl rfl rfl ?_)
  refine JL.lit0O Try.underlying33 u8e rfl fun b0 _ => ?_
  refine JL.lit1 (v := .slice (some ⟨b0, 0, none⟩) 0 0) Try.underlying57 slEj rfl rfl rfl rfl fun b1 _ => ?_
  refine JL.perm (M' := jnE j h bl [] ++ ([⟨b1, Row 33 [.slice (some ⟨b0, 0, none⟩) 0 0], true⟩, ⟨b0, Sl.Own 5 1 0 0 [], true⟩] ++ [])) ?_ (by rw [List.append_nil, List.append_nil]; exact List.perm_append_comm (l₁ := [_, _]))
  repeat (first | refine JL.q (by first | (apply OQ.len (k := list.rs.length) (ad := list.ad) (cap := list.cap); exact Try.underlying57; exact rfl) | (apply OQ.move; exact rfl) | (apply OQ.assign; exact rfl) | (apply OQ.nilc; exact rfl) | (apply OQ.len; exact rfl; exact rfl) | (apply OQ.addN; exact rfl; exact rfl; exact (by (try simp only []); omega)) | (apply OQ.subN; exact rfl; exact rfl; exact (by (try simp only []); omega); exact (by (try simp only []); omega)) | (apply OQ.lssN; exact rfl; exact rfl) | (apply OQ.gtrN; exact rfl; exact rfl) | (apply OQ.fld; exact rfl; exact rfl; exact rfl; exact (by decide); exact rfl)) rfl ?_ | refine JC.seq ?_ | refine JC.region ?_ | refine JC.block ?_ | refine JC.skip ?_ | refine JC.exit ?_ | refine JL.nil ?_ | refine JE.next ?_ | refine JE.blk_normal ?_ | refine JE.then_exit ?_ | refine JE.blk_hit ?_ | refine JE.blk_miss rfl ?_ | refine JE.then_ret ?_ | refine JE.blk_ret ?_ | refine JC.label ?_ | refine JL.gon rfl rfl ?_ | refine JL.gskip rfl rfl rfl rfl ?_ | refine JL.gskipU rfl rfl rfl rfl ?_)
  refine JC.loop (fun z : Lz => [(2, picks.v), (7, Pt z.h.x.p 0), (9, Pt z.j 0), (11, accV (some z.q) z.rs.length), (56, list.v), (57, N list.rs.length), (58, N z.i)]) (fun z => z.E) (fun z => list.rs.length - z.i) (fun z => z.i ≤ list.rs.length ∧ z.ok w (z.i + 1)) ⟨0, j, h, bl, (b1, 1), [⟨some ⟨b0, 0, none⟩, 0, []⟩]⟩ ⟨Nat.zero_le _, v, hd, hg, Nat.le_refl _, fun y hy => by rw [List.mem_singleton.1 hy]; exact ⟨⟨Nat.le_refl _, Reads.nil _ _⟩, Nat.zero_le _⟩⟩ (by repeat (first | exact SubE.nil | refine SubE.cons _ _ _ rfl ?_)) (less_two (Less.refl _) (.keep _ _ _ _ _ _ (row_ownG rfl) (.nil _))) ?_
  clear v hd hg hxp hcu hno
  rintro ⟨i, j, h, bl, q, rs⟩ ⟨hi, hz⟩
  dsimp only at hi hz ⊢
  repeat (first | refine JL.q (by first | (apply OQ.move; exact rfl) | (apply OQ.assign; exact rfl) | (apply OQ.nilc; exact rfl) | (apply OQ.len; exact rfl; exact rfl) | (apply OQ.addN; exact rfl; exact rfl; exact (by (try simp only []); omega)) | (apply OQ.subN; exact rfl; exact rfl; exact (by (try simp only []); omega); exact (by (try simp only []); omega)) | (apply OQ.lssN; exact rfl; exact rfl) | (apply OQ.gtrN; exact rfl; exact rfl) | (apply OQ.fld; exact rfl; exact rfl; exact rfl; exact (by decide); exact rfl)) rfl ?_ | refine JC.seq ?_ | refine JC.region ?_ | refine JC.block ?_ | refine JC.skip ?_ | refine JC.exit ?_ | refine JL.nil ?_ | refine JE.next ?_ | refine JE.blk_normal ?_ | refine JE.then_exit ?_ | refine JE.blk_hit ?_ | refine JE.blk_miss rfl ?_ | refine JE.then_ret ?_ | refine JE.blk_ret ?_ | refine JC.label ?_ | refine JL.gon rfl rfl ?_ | refine JL.gskip rfl rfl rfl rfl ?_ | refine JL.gskipU rfl rfl rfl rfl ?_)
  refine JC.cond rfl (fun hc => ?_) (fun hc => ?_)
  · have hi' : i < list.rs.length := by have := of_decide_eq_true hc; omega
    clear hc
    obtain ⟨bL, jL, eL, lL, cL⟩ := slLj_at hl (by omega)
    have cLi := cL i hi'
    have okb := hl.all _ (getD_mem' hi')
    have hvL : list.v = .slice (some ⟨bL, jL, none⟩) list.rs.length list.cap := by rw [← eL]; rfl
    generalize list.rs.getD i nilS = b at cLi okb
    rw [hvL]
    cases g5 : decide ((2000 : Int) < (b.l.length : Int))
    case true =>
      repeat (first | refine JL.q (by first | (apply OQ.idxS1 (i := i) (b := bL) (j := jL); exact Try.underlying57; exact sleJ; exact rfl; exact rfl; exact hi') | (apply OQ.load_old; exact slCj; exact rfl; exact lL; exact (by simp); exact cLi) | (apply OQ.len (k := b.l.length) (ad := b.ad) (cap := b.cap); exact Try.underlying33; exact rfl) | (apply OQ.gtrB (b := 2000); exact rfl; exact rfl; exact g5) | (apply OQ.move; exact rfl) | (apply OQ.assign; exact rfl) | (apply OQ.nilc; exact rfl) | (apply OQ.len; exact rfl; exact rfl) | (apply OQ.addN; exact rfl; exact rfl; exact (by (try simp only []); omega)) | (apply OQ.subN; exact rfl; exact rfl; exact (by (try simp only []); omega); exact (by (try simp only []); omega)) | (apply OQ.lssN; exact rfl; exact rfl) | (apply OQ.gtrN; exact rfl; exact rfl) | (apply OQ.fld; exact rfl; exact rfl; exact rfl; exact (by decide); exact rfl)) rfl ?_ | refine JC.seq ?_ | refine JC.region ?_ | refine JC.block ?_ | refine JC.skip ?_ | refine JC.exit ?_ | refine JL.nil ?_ | refine JE.next ?_ | refine JE.blk_normal ?_ | refine JE.then_exit ?_ | refine JE.blk_hit ?_ | refine JE.blk_miss rfl ?_ | refine JE.then_ret ?_ | refine JE.blk_ret ?_ | refine JC.label ?_ | refine JL.gon rfl rfl ?_ | refine JL.gskip rfl rfl rfl rfl ?_ | refine JL.gskipU rfl rfl rfl rfl ?_)
      refine JC.cond_true rfl rfl ?_
      repeat (first | refine JL.q (by first | (apply OQ.move; exact rfl) | (apply OQ.assign; exact rfl) | (apply OQ.nilc; exact rfl) | (apply OQ.len; exact rfl; exact rfl) | (apply OQ.addN; exact rfl; exact rfl; exact (by (try simp only []); omega)) | (apply OQ.subN; exact rfl; exact rfl; exact (by (try simp only []); omega); exact (by (try simp only []); omega)) | (apply OQ.lssN; exact rfl; exact rfl) | (apply OQ.gtrN; exact rfl; exact rfl) | (apply OQ.fld; exact rfl; exact rfl; exact rfl; exact (by decide); exact rfl)) rfl ?_ | refine JC.seq ?_ | refine JC.region ?_ | refine JC.block ?_ | refine JC.skip ?_ | refine JC.exit ?_ | refine JL.nil ?_ | refine JE.next ?_ | refine JE.blk_normal ?_ | refine JE.then_exit ?_ | refine JE.blk_hit ?_ | refine JE.blk_miss rfl ?_ | refine JE.then_ret ?_ | refine JE.blk_ret ?_ | refine JC.label ?_ | refine JL.gon rfl rfl ?_ | refine JL.gskip rfl rfl rfl rfl ?_ | refine JL.gskipU rfl rfl rfl rfl ?_)
      refine JC.ret ?_
      repeat (first | refine JL.q (by first | (apply OQ.move; exact rfl) | (apply OQ.assign; exact rfl) | (apply OQ.nilc; exact rfl) | (apply OQ.len; exact rfl; exact rfl) | (apply OQ.addN; exact rfl; exact rfl; exact (by (try simp only []); omega)) | (apply OQ.subN; exact rfl; exact rfl; exact (by (try simp only []); omega); exact (by (try simp only []); omega)) | (apply OQ.lssN; exact rfl; exact rfl) | (apply OQ.gtrN; exact rfl; exact rfl) | (apply OQ.fld; exact rfl; exact rfl; exact rfl; exact (by decide); exact rfl)) rfl ?_ | refine JC.seq ?_ | refine JC.region ?_ | refine JC.block ?_ | refine JC.skip ?_ | refine JC.exit ?_ | refine JL.nil ?_ | refine JE.next ?_ | refine JE.blk_normal ?_ | refine JE.then_exit ?_ | refine JE.blk_hit ?_ | refine JE.blk_miss rfl ?_ | refine JE.then_ret ?_ | refine JE.blk_ret ?_ | refine JC.label ?_ | refine JL.gon rfl rfl ?_ | refine JL.gskip rfl rfl rfl rfl ?_ | refine JL.gskipU rfl rfl rfl rfl ?_)
      exact JE.ret1 rfl (RV.tmp rfl) fun w' hw => ⟨rfl, hw.chg⟩
    have hb2 : b.l.length ≤ 2000 := by have := of_decide_eq_false g5; omega
    repeat (first | refine JL.q (by first | (apply OQ.idxS1 (i := i) (b := bL) (j := jL); exact Try.underlying57; exact sleJ; exact rfl; exact rfl; exact hi') | (apply OQ.load_old; exact slCj; exact rfl; exact lL; exact (by simp); exact cLi) | (apply OQ.len (k := b.l.length) (ad := b.ad) (cap := b.cap); exact Try.underlying33; exact rfl) | (apply OQ.gtrB (b := 2000); exact rfl; exact rfl; exact g5) | (apply OQ.move; exact rfl) | (apply OQ.assign; exact rfl) | (apply OQ.nilc; exact rfl) | (apply OQ.len; exact rfl; exact rfl) | (apply OQ.addN; exact rfl; exact rfl; exact (by (try simp only []); omega)) | (apply OQ.subN; exact rfl; exact rfl; exact (by (try simp only []); omega); exact (by (try simp only []); omega)) | (apply OQ.lssN; exact rfl; exact rfl) | (apply OQ.gtrN; exact rfl; exact rfl) | (apply OQ.fld; exact rfl; exact rfl; exact rfl; exact (by decide); exact rfl)) rfl ?_ | refine JC.seq ?_ | refine JC.region ?_ | refine JC.block ?_ | refine JC.skip ?_ | refine JC.exit ?_ | refine JL.nil ?_ | refine JE.next ?_ | refine JE.blk_normal ?_ | refine JE.then_exit ?_ | refine JE.blk_hit ?_ | refine JE.blk_miss rfl ?_ | refine JE.then_ret ?_ | refine JE.blk_ret ?_ | refine JC.label ?_ | refine JL.gon rfl rfl ?_ | refine JL.gskip rfl rfl rfl rfl ?_ | refine JL.gskipU rfl rfl rfl rfl ?_)
    refine JC.cond_false rfl rfl ?_
    clear g5
    repeat (first | refine JL.q (by first | (apply OQ.move; exact rfl) | (apply OQ.assign; exact rfl) | (apply OQ.nilc; exact rfl) | (apply OQ.len; exact rfl; exact rfl) | (apply OQ.addN; exact rfl; exact rfl; exact (by (try simp only []); omega)) | (apply OQ.subN; exact rfl; exact rfl; exact (by (try simp only []); omega); exact (by (try simp only []); omega)) | (apply OQ.lssN; exact rfl; exact rfl) | (apply OQ.gtrN; exact rfl; exact rfl) | (apply OQ.fld; exact rfl; exact rfl; exact rfl; exact (by decide); exact rfl)) rfl ?_ | refine JC.seq ?_ | refine JC.region ?_ | refine JC.block ?_ | refine JC.skip ?_ | refine JC.exit ?_ | refine JL.nil ?_ | refine JE.next ?_ | refine JE.blk_normal ?_ | refine JE.then_exit ?_ | refine JE.blk_hit ?_ | refine JE.blk_miss rfl ?_ | refine JE.then_ret ?_ | refine JE.blk_ret ?_ | refine JC.label ?_ | refine JL.gon rfl rfl ?_ | refine JL.gskip rfl rfl rfl rfl ?_ | refine JL.gskipU rfl rfl rfl rfl ?_)
    by_cases hf : nb b.l.length ≤ h.size - h.used
    · have va := hz.v.app hf
      have da := hz.d.app hz.v hf
      have hn0 : rs.length ≤ i + 1 := hz.n
      refine JL.perm (M' := jnE j h bl [] ++ (accE 33 (some q) (rs.map Sl8.v) ++ [])) ?_ (by rw [List.append_nil]; exact List.Perm.refl _)
      repeat (first | refine JL.q (by first | (apply OQ.move; exact rfl) | (apply OQ.assign; exact rfl) | (apply OQ.nilc; exact rfl) | (apply OQ.len; exact rfl; exact rfl) | (apply OQ.addN; exact rfl; exact rfl; exact (by (try simp only []); omega)) | (apply OQ.subN; exact rfl; exact rfl; exact (by (try simp only []); omega); exact (by (try simp only []); omega)) | (apply OQ.lssN; exact rfl; exact rfl) | (apply OQ.gtrN; exact rfl; exact rfl) | (apply OQ.fld; exact rfl; exact rfl; exact rfl; exact (by decide); exact rfl)) rfl ?_ | refine JC.seq ?_ | refine JC.region ?_ | refine JC.block ?_ | refine JC.skip ?_ | refine JC.exit ?_ | refine JL.nil ?_ | refine JE.next ?_ | refine JE.blk_normal ?_ | refine JE.then_exit ?_ | refine JE.blk_hit ?_ | refine JE.blk_miss rfl ?_ | refine JE.then_ret ?_ | refine JE.blk_ret ?_ | refine JC.label ?_ | refine JL.gon rfl rfl ?_ | refine JL.gskip rfl rfl rfl rfl ?_ | refine JL.gskipU rfl rfl rfl rfl ?_)
      refine JL.japp (s := b) hz.v hz.d (Nat.zero_le _) hf (fun w' hw' => ⟨okb.holds hw' rfl, away_old hw' (jnE_wr _ _ _ _) okb⟩) rfl rfl rfl ?_
      repeat (first | refine JL.q (by first | (apply OQ.eqB (a := 0) (b := 0) (c := true); exact rfl; exact rfl; exact rfl) | (apply OQ.move; exact rfl) | (apply OQ.assign; exact rfl) | (apply OQ.nilc; exact rfl) | (apply OQ.len; exact rfl; exact rfl) | (apply OQ.addN; exact rfl; exact rfl; exact (by (try simp only []); omega)) | (apply OQ.subN; exact rfl; exact rfl; exact (by (try simp only []); omega); exact (by (try simp only []); omega)) | (apply OQ.lssN; exact rfl; exact rfl) | (apply OQ.gtrN; exact rfl; exact rfl) | (apply OQ.fld; exact rfl; exact rfl; exact rfl; exact (by decide); exact rfl)) rfl ?_ | refine JC.seq ?_ | refine JC.region ?_ | refine JC.block ?_ | refine JC.skip ?_ | refine JC.exit ?_ | refine JL.nil ?_ | refine JE.next ?_ | refine JE.blk_normal ?_ | refine JE.then_exit ?_ | refine JE.blk_hit ?_ | refine JE.blk_miss rfl ?_ | refine JE.then_ret ?_ | refine JE.blk_ret ?_ | refine JC.label ?_ | refine JL.gon rfl rfl ?_ | refine JL.gskip rfl rfl rfl rfl ?_ | refine JL.gskipU rfl rfl rfl rfl ?_)
      refine JC.cond_true rfl rfl ?_
      repeat (first | refine JL.q (by first | (apply OQ.move; exact rfl) | (apply OQ.assign; exact rfl) | (apply OQ.nilc; exact rfl) | (apply OQ.len; exact rfl; exact rfl) | (apply OQ.addN; exact rfl; exact rfl; exact (by (try simp only []); omega)) | (apply OQ.subN; exact rfl; exact rfl; exact (by (try simp only []); omega); exact (by (try simp only []); omega)) | (apply OQ.lssN; exact rfl; exact rfl) | (apply OQ.gtrN; exact rfl; exact rfl) | (apply OQ.fld; exact rfl; exact rfl; exact rfl; exact (by decide); exact rfl)) rfl ?_ | refine JC.seq ?_ | refine JC.region ?_ | refine JC.block ?_ | refine JC.skip ?_ | refine JC.exit ?_ | refine JL.nil ?_ | refine JE.next ?_ | refine JE.blk_normal ?_ | refine JE.then_exit ?_ | refine JE.blk_hit ?_ | refine JE.blk_miss rfl ?_ | refine JE.then_ret ?_ | refine JE.blk_ret ?_ | refine JC.label ?_ | refine JL.gon rfl rfl ?_ | refine JL.gskip rfl rfl rfl rfl ?_ | refine JL.gskipU rfl rfl rfl rfl ?_)
      refine JL.lit1 (v := b.v) Try.underlying57 slEj rfl rfl rfl rfl fun b4 _ => ?_
      refine JL.perm (M' := accE 33 (some q) (rs.map Sl8.v) ++ (⟨b4, Row 33 [b.v], true⟩ :: jnE j (appJ h b.l) (appD h bl b.l) [])) ?_ (by rw [List.append_nil]; exact (List.Perm.cons _ List.perm_append_comm).trans List.perm_middle.symm)
      refine JL.appendQ (xs := rs.map Sl8.v) (cs := [b.v]) (m := 1) (ad := some ⟨b4, 0, none⟩) (sc := 1) (some q) Try.underlying57 slEj nofun (by rw [List.length_map]; rfl) rfl rfl (fun w' hw' => ?_) (fun v hv => by rw [List.mem_singleton.1 hv]; rfl) rfl (by rw [List.length_map]; omega) (by rw [List.length_map]; omega) rfl fun q3 hq3 => ?_
      · obtain ⟨o, ho, hA⟩ := hw'.get (b := b4) (A := Row 33 [b.v]) (wr := true) (hasR (N := accE 33 (some q) (rs.map Sl8.v)) .here)
        exact Reads.block ho (Row.all _ hA)
      cases q3 with
      | none => have := congrArg List.length (hq3 rfl); simp at this
      | some zq =>
      clear hq3
      have eM : rs.map Sl8.v ++ [b.v] = (rs ++ [b]).map Sl8.v := by rw [List.map_append, List.map_singleton]
      rw [eM, List.length_map]
      have hz' : Lz.ok ⟨i + 1, j, appJ h b.l, appD h bl b.l, zq, rs ++ [b]⟩ w (i + 1) := ⟨by
        show Jv _ _ ((rs ++ [b]).map Sl8.l)
        rw [List.map_append, List.map_singleton]
        exact va, da, hz.g, by show (rs ++ [b]).length ≤ _; rw [List.length_append, List.length_singleton]; show _ ≤ i + 1 + 1; omega, fun y hy => by
          rcases List.mem_append.1 hy with hy | hy
          · exact hz.a y hy
          · rw [List.mem_singleton.1 hy]; exact ⟨okb, hb2⟩⟩
      refine JL.perm (M' := jnE j (appJ h b.l) (appD h bl b.l) [] ++ (accE 33 (some zq) ((rs ++ [b]).map Sl8.v) ++ [⟨b4, Row 33 [b.v], true⟩])) ?_ (by
        refine (List.Perm.append_left _ (List.perm_append_singleton _ _).symm).trans ?_
        exact List.perm_append_comm_assoc _ _ _)
      have e7 : h.x.p = (appJ h b.l).x.p := rfl
      rw [e7]
      generalize appJ h b.l = zh at hz' ⊢
      generalize appD h bl b.l = zbl at hz' ⊢
      generalize rs ++ [b] = zrs at hz' ⊢
      have ⟨zj, ezj⟩ : ∃ zj, zj = j := ⟨_, rfl⟩
      rw [← ezj] at hz' ⊢
      have hgi : zh.g.toNat < 4294967295 := by have := hz'.g; dsimp only at this; omega
      have hno : noOpen zbl = 0 := Jv.no _ _ _ hz'.v hgi
      have hcu := hz'.v.cur
      have v2 := Jv.opn (x := sync0 zh.x) hz'.d.ok.b hz'.d.n1 hno
      have d2 := DkOk.opn (x := sync0 zh.x) (pd := []) hz'.d.sync hno
      have hg2 : (opnJ (sync0 zh.x) zbl).g.toNat ≤ i + 1 + 1 := gm_succ (Nat.le_trans hz'.v.gm_le hz'.g) (by omega)
      have hxp : (opnJ (sync0 zh.x) zbl).x.p = zh.x.p := rfl
      have zd : DkOk zh.x zbl [] := hz'.d
      have zn : zrs.length ≤ i + 1 + 1 := hz'.n
      have za : ∀ y ∈ zrs, y.ok w ∧ y.l.length ≤ 2000 := hz'.a
      have hcu2 : (curF zbl).2.2 = zrs.map Sl8.l := by rw [hcu]; rfl
      rw [hcu2] at v2
      repeat (first | refine JL.q (by first | (apply OQ.move; exact rfl) | (apply OQ.assign; exact rfl) | (apply OQ.nilc; exact rfl) | (apply OQ.len; exact rfl; exact rfl) | (apply OQ.addN; exact rfl; exact rfl; exact (by (try simp only []); omega)) | (apply OQ.subN; exact rfl; exact rfl; exact (by (try simp only []); omega); exact (by (try simp only []); omega)) | (apply OQ.lssN; exact rfl; exact rfl) | (apply OQ.gtrN; exact rfl; exact rfl) | (apply OQ.fld; exact rfl; exact rfl; exact rfl; exact (by decide); exact rfl)) rfl ?_ | refine JC.seq ?_ | refine JC.region ?_ | refine JC.block ?_ | refine JC.skip ?_ | refine JC.exit ?_ | refine JL.nil ?_ | refine JE.next ?_ | refine JE.blk_normal ?_ | refine JE.then_exit ?_ | refine JE.blk_hit ?_ | refine JE.blk_miss rfl ?_ | refine JE.then_ret ?_ | refine JE.blk_ret ?_ | refine JC.label ?_ | refine JL.gon rfl rfl ?_ | refine JL.gskip rfl rfl rfl rfl ?_ | refine JL.gskipU rfl rfl rfl rfl ?_)
      refine JL.perm (M' := dkE zh.x zbl [] ++ (⟨zj, Row 88 (hfc zh), true⟩ :: (accE 33 (some zq) (zrs.map Sl8.v) ++ [⟨b4, Row 33 [b.v], true⟩]))) ?_ (by exact (List.perm_middle).symm)
      refine JL.dcrash (s := picks) zd (by omega) (fun w' hw' => ⟨hp.holds hw' rfl, away_old hw' (dkE_wr _ _ _) hp⟩) rfl rfl rfl ?_
      rw [crash_nil]
      repeat (first | refine JL.q (by first | (apply OQ.move; exact rfl) | (apply OQ.assign; exact rfl) | (apply OQ.nilc; exact rfl) | (apply OQ.len; exact rfl; exact rfl) | (apply OQ.addN; exact rfl; exact rfl; exact (by (try simp only []); omega)) | (apply OQ.subN; exact rfl; exact rfl; exact (by (try simp only []); omega); exact (by (try simp only []); omega)) | (apply OQ.lssN; exact rfl; exact rfl) | (apply OQ.gtrN; exact rfl; exact rfl) | (apply OQ.fld; exact rfl; exact rfl; exact rfl; exact (by decide); exact rfl)) rfl ?_ | refine JC.seq ?_ | refine JC.region ?_ | refine JC.block ?_ | refine JC.skip ?_ | refine JC.exit ?_ | refine JL.nil ?_ | refine JE.next ?_ | refine JE.blk_normal ?_ | refine JE.then_exit ?_ | refine JE.blk_hit ?_ | refine JE.blk_miss rfl ?_ | refine JE.then_ret ?_ | refine JE.blk_ret ?_ | refine JC.label ?_ | refine JL.gon rfl rfl ?_ | refine JL.gskip rfl rfl rfl rfl ?_ | refine JL.gskipU rfl rfl rfl rfl ?_)
      refine JL.jopen (x := sync0 zh.x) zd.sync (Nat.zero_le _) hno rfl rfl fun j2 => ?_
      rw [← hxp]
      generalize opnJ (sync0 zh.x) zbl = h2 at v2 d2 hg2 ⊢
      generalize opnD zbl = bl2 at v2 d2 ⊢
      have hz2 : Lz.ok ⟨i + 1, j2, h2, bl2, zq, zrs⟩ w (i + 1 + 1) := ⟨v2, d2, hg2, zn, za⟩
      repeat (first | refine JL.q (by first | (apply OQ.extract; exact rfl; exact rfl) | (apply OQ.neB (a := 0) (b := 0) (c := true); exact rfl; exact rfl; exact rfl) | (apply OQ.ptrNil; exact Try.underlying52; exact rfl; exact rfl) | (apply OQ.pick_f; exact rfl; exact rfl) | (apply OQ.move; exact rfl) | (apply OQ.assign; exact rfl) | (apply OQ.nilc; exact rfl) | (apply OQ.len; exact rfl; exact rfl) | (apply OQ.addN; exact rfl; exact rfl; exact (by (try simp only []); omega)) | (apply OQ.subN; exact rfl; exact rfl; exact (by (try simp only []); omega); exact (by (try simp only []); omega)) | (apply OQ.lssN; exact rfl; exact rfl) | (apply OQ.gtrN; exact rfl; exact rfl) | (apply OQ.fld; exact rfl; exact rfl; exact rfl; exact (by decide); exact rfl)) rfl ?_ | refine JC.seq ?_ | refine JC.region ?_ | refine JC.block ?_ | refine JC.skip ?_ | refine JC.exit ?_ | refine JL.nil ?_ | refine JE.next ?_ | refine JE.blk_normal ?_ | refine JE.then_exit ?_ | refine JE.blk_hit ?_ | refine JE.blk_miss rfl ?_ | refine JE.then_ret ?_ | refine JE.blk_ret ?_ | refine JC.label ?_ | refine JL.gon rfl rfl ?_ | refine JL.gskip rfl rfl rfl rfl ?_ | refine JL.gskipU rfl rfl rfl rfl ?_)
      refine JL.jrecs v2 d2 rfl rfl fun zr => ?_
      obtain ⟨zr, hzr1, hzr2⟩ := zr
      have h2n := v2.fs
      have hyl : ∀ y ∈ zr.s.rs, y.l.length < 4611686018427387904 := fun y hy => by
        have hm : y.l ∈ zr.s.rs.map Sl8.l := List.mem_map_of_mem hy
        rw [zr.rs_eq] at hm
        have he : zr.rs.map Sl8.l = zrs.map Sl8.l := hzr1
        rw [he] at hm
        obtain ⟨u, hu, hul⟩ := List.mem_map.1 hm
        have := (za u hu).2
        rw [← hul]
        omega
      have hsm := fun {w' : World} (hw' : Holds w [] (zr.E ++ (jnE j2 h2 bl2 [] ++ (⟨zj, Row 88 (hfc zh), true⟩ :: (accE 33 (some zq) (zrs.map Sl8.v) ++ [⟨b4, Row 33 [b.v], true⟩])))) w') => samel_any zr.s (Lz.s ⟨i + 1, j2, h2, bl2, zq, zrs⟩) w' (zr.ok (hw'.weak (less_pre _ _))) (Lz.sok hz2 (A := zr.E ++ (jnE j2 h2 bl2 [] ++ [⟨zj, Row 88 (hfc zh), true⟩])) (M := [⟨b4, Row 33 [b.v], true⟩]) (by simpa [List.append_assoc] using hw')) (by rw [zr.rs_eq]; omega) hyl
      have heq : decide (zr.s.rs.map Sl8.l = (Lz.s ⟨i + 1, j2, h2, bl2, zq, zrs⟩).rs.map Sl8.l) = true := decide_eq_true (by rw [zr.rs_eq]; exact hzr1)
      rw [heq, zr.v_eq] at hsm
      repeat (first | refine JL.q (by first | (apply OQ.callx (vs := [zr.v, (Lz.s ⟨i + 1, j2, h2, bl2, zq, zrs⟩).v]); exact goes_samel; exact rfl; exact (fun w' hw' => hsm hw')) | (apply OQ.not; exact rfl) | (apply OQ.pick_f; exact rfl; exact rfl) | (apply OQ.move; exact rfl) | (apply OQ.assign; exact rfl) | (apply OQ.nilc; exact rfl) | (apply OQ.len; exact rfl; exact rfl) | (apply OQ.addN; exact rfl; exact rfl; exact (by (try simp only []); omega)) | (apply OQ.subN; exact rfl; exact rfl; exact (by (try simp only []); omega); exact (by (try simp only []); omega)) | (apply OQ.lssN; exact rfl; exact rfl) | (apply OQ.gtrN; exact rfl; exact rfl) | (apply OQ.fld; exact rfl; exact rfl; exact rfl; exact (by decide); exact rfl)) rfl ?_ | refine JC.seq ?_ | refine JC.region ?_ | refine JC.block ?_ | refine JC.skip ?_ | refine JC.exit ?_ | refine JL.nil ?_ | refine JE.next ?_ | refine JE.blk_normal ?_ | refine JE.then_exit ?_ | refine JE.blk_hit ?_ | refine JE.blk_miss rfl ?_ | refine JE.then_ret ?_ | refine JE.blk_ret ?_ | refine JC.label ?_ | refine JL.gon rfl rfl ?_ | refine JL.gskip rfl rfl rfl rfl ?_ | refine JL.gskipU rfl rfl rfl rfl ?_)
      refine JC.cond_false rfl rfl ?_
      repeat (first | refine JL.q (by first | (apply OQ.move; exact rfl) | (apply OQ.assign; exact rfl) | (apply OQ.nilc; exact rfl) | (apply OQ.len; exact rfl; exact rfl) | (apply OQ.addN; exact rfl; exact rfl; exact (by (try simp only []); omega)) | (apply OQ.subN; exact rfl; exact rfl; exact (by (try simp only []); omega); exact (by (try simp only []); omega)) | (apply OQ.lssN; exact rfl; exact rfl) | (apply OQ.gtrN; exact rfl; exact rfl) | (apply OQ.fld; exact rfl; exact rfl; exact rfl; exact (by decide); exact rfl)) rfl ?_ | refine JC.seq ?_ | refine JC.region ?_ | refine JC.block ?_ | refine JC.skip ?_ | refine JC.exit ?_ | refine JL.nil ?_ | refine JE.next ?_ | refine JE.blk_normal ?_ | refine JE.then_exit ?_ | refine JE.blk_hit ?_ | refine JE.blk_miss rfl ?_ | refine JE.then_ret ?_ | refine JE.blk_ret ?_ | refine JC.label ?_ | refine JL.gon rfl rfl ?_ | refine JL.gskip rfl rfl rfl rfl ?_ | refine JL.gskipU rfl rfl rfl rfl ?_)
      exact JE.again (i := Lz.mk i j h bl q rs) ⟨i + 1, j2, h2, bl2, zq, zrs⟩ ⟨hi', hz2⟩ (by dsimp only; omega) (by repeat (first | exact SubE.nil | refine SubE.cons _ _ _ rfl ?_)) (less_app _ (less_two (Less.refl _) (.drop _ _ _ (less_pre _ _))))
    · have hu := hz.v.u; have hr := hz.v.r; have hfs := hz.v.fs
      dsimp only at hu hr hfs
      have hn0 : rs.length ≤ i + 1 := hz.n
      have hz' : Lz.ok ⟨i + 1, j, h, bl, q, rs⟩ w (i + 1) := ⟨hz.v, hz.d, hz.g, by show rs.length ≤ i + 1 + 1; omega, hz.a⟩
      have cA := fun {w' : World} {M : List Ent} (hw' : Holds w [] (jnE j h bl [] ++ M) w') => app_no j h b (by omega) (by omega) (by omega) hf w' (ro_one hw')
      have cF := fun {w' : World} {M : List Ent} (hw' : Holds w [] (jnE j h bl [] ++ M) w') => fits_nat j h b.l.length (by omega) (by omega) (by omega) w' (ro_one hw')
      rw [decide_eq_false hf] at cF
      refine JL.perm (M' := jnE j h bl [] ++ (accE 33 (some q) (rs.map Sl8.v) ++ [])) ?_ (by rw [List.append_nil]; exact List.Perm.refl _)
      repeat (first | refine JL.q (by first | (apply OQ.callx (vs := [Pt j 0, b.v]); exact goes_app; exact rfl; exact (fun w' hw' => cA hw')) | (apply OQ.eqB (a := 6) (b := 0) (c := false); exact rfl; exact rfl; exact rfl) | (apply OQ.move; exact rfl) | (apply OQ.assign; exact rfl) | (apply OQ.nilc; exact rfl) | (apply OQ.len; exact rfl; exact rfl) | (apply OQ.addN; exact rfl; exact rfl; exact (by (try simp only []); omega)) | (apply OQ.subN; exact rfl; exact rfl; exact (by (try simp only []); omega); exact (by (try simp only []); omega)) | (apply OQ.lssN; exact rfl; exact rfl) | (apply OQ.gtrN; exact rfl; exact rfl) | (apply OQ.fld; exact rfl; exact rfl; exact rfl; exact (by decide); exact rfl)) rfl ?_ | refine JC.seq ?_ | refine JC.region ?_ | refine JC.block ?_ | refine JC.skip ?_ | refine JC.exit ?_ | refine JL.nil ?_ | refine JE.next ?_ | refine JE.blk_normal ?_ | refine JE.then_exit ?_ | refine JE.blk_hit ?_ | refine JE.blk_miss rfl ?_ | refine JE.then_ret ?_ | refine JE.blk_ret ?_ | refine JC.label ?_ | refine JL.gon rfl rfl ?_ | refine JL.gskip rfl rfl rfl rfl ?_ | refine JL.gskipU rfl rfl rfl rfl ?_)
      refine JC.cond_false rfl rfl ?_
      repeat (first | refine JL.q (by first | (apply OQ.len (k := b.l.length) (ad := b.ad) (cap := b.cap); exact Try.underlying33; exact rfl) | (apply OQ.callx (vs := [Pt j 0, N b.l.length]); exact goes_fits; exact rfl; exact (fun w' hw' => cF hw')) | (apply OQ.move; exact rfl) | (apply OQ.assign; exact rfl) | (apply OQ.nilc; exact rfl) | (apply OQ.len; exact rfl; exact rfl) | (apply OQ.addN; exact rfl; exact rfl; exact (by (try simp only []); omega)) | (apply OQ.subN; exact rfl; exact rfl; exact (by (try simp only []); omega); exact (by (try simp only []); omega)) | (apply OQ.lssN; exact rfl; exact rfl) | (apply OQ.gtrN; exact rfl; exact rfl) | (apply OQ.fld; exact rfl; exact rfl; exact rfl; exact (by decide); exact rfl)) rfl ?_ | refine JC.seq ?_ | refine JC.region ?_ | refine JC.block ?_ | refine JC.skip ?_ | refine JC.exit ?_ | refine JL.nil ?_ | refine JE.next ?_ | refine JE.blk_normal ?_ | refine JE.then_exit ?_ | refine JE.blk_hit ?_ | refine JE.blk_miss rfl ?_ | refine JE.then_ret ?_ | refine JE.blk_ret ?_ | refine JC.label ?_ | refine JL.gon rfl rfl ?_ | refine JL.gskip rfl rfl rfl rfl ?_ | refine JL.gskipU rfl rfl rfl rfl ?_)
      refine JC.cond_false rfl rfl ?_
      have ⟨zh, ezh⟩ : ∃ zh, zh = h := ⟨_, rfl⟩
      have ⟨zj, ezj⟩ : ∃ zj, zj = j := ⟨_, rfl⟩
      have ⟨zbl, ezbl⟩ : ∃ zbl, zbl = bl := ⟨_, rfl⟩
      have ⟨zq, ezq⟩ : ∃ zq, zq = q := ⟨_, rfl⟩
      have ⟨zrs, ezrs⟩ : ∃ zrs, zrs = rs := ⟨_, rfl⟩
      rw [← ezh, ← ezj, ← ezbl, ← ezq, ← ezrs] at hz' ⊢
      have hgi : zh.g.toNat < 4294967295 := by have := hz'.g; dsimp only at this; omega
      have hno : noOpen zbl = 0 := Jv.no _ _ _ hz'.v hgi
      have hcu := hz'.v.cur
      have v2 := Jv.opn (x := sync0 zh.x) hz'.d.ok.b hz'.d.n1 hno
      have d2 := DkOk.opn (x := sync0 zh.x) (pd := []) hz'.d.sync hno
      have hg2 : (opnJ (sync0 zh.x) zbl).g.toNat ≤ i + 1 + 1 := gm_succ (Nat.le_trans hz'.v.gm_le hz'.g) (by omega)
      have hxp : (opnJ (sync0 zh.x) zbl).x.p = zh.x.p := rfl
      have zd : DkOk zh.x zbl [] := hz'.d
      have zn : zrs.length ≤ i + 1 + 1 := hz'.n
      have za : ∀ y ∈ zrs, y.ok w ∧ y.l.length ≤ 2000 := hz'.a
      have hcu2 : (curF zbl).2.2 = zrs.map Sl8.l := by rw [hcu]; rfl
      rw [hcu2] at v2
      repeat (first | refine JL.q (by first | (apply OQ.move; exact rfl) | (apply OQ.assign; exact rfl) | (apply OQ.nilc; exact rfl) | (apply OQ.len; exact rfl; exact rfl) | (apply OQ.addN; exact rfl; exact rfl; exact (by (try simp only []); omega)) | (apply OQ.subN; exact rfl; exact rfl; exact (by (try simp only []); omega); exact (by (try simp only []); omega)) | (apply OQ.lssN; exact rfl; exact rfl) | (apply OQ.gtrN; exact rfl; exact rfl) | (apply OQ.fld; exact rfl; exact rfl; exact rfl; exact (by decide); exact rfl)) rfl ?_ | refine JC.seq ?_ | refine JC.region ?_ | refine JC.block ?_ | refine JC.skip ?_ | refine JC.exit ?_ | refine JL.nil ?_ | refine JE.next ?_ | refine JE.blk_normal ?_ | refine JE.then_exit ?_ | refine JE.blk_hit ?_ | refine JE.blk_miss rfl ?_ | refine JE.then_ret ?_ | refine JE.blk_ret ?_ | refine JC.label ?_ | refine JL.gon rfl rfl ?_ | refine JL.gskip rfl rfl rfl rfl ?_ | refine JL.gskipU rfl rfl rfl rfl ?_)
      refine JL.perm (M' := dkE zh.x zbl [] ++ (⟨zj, Row 88 (hfc zh), true⟩ :: (accE 33 (some zq) (zrs.map Sl8.v) ++ []))) ?_ (by exact (List.perm_middle).symm)
      refine JL.dcrash (s := picks) zd (by omega) (fun w' hw' => ⟨hp.holds hw' rfl, away_old hw' (dkE_wr _ _ _) hp⟩) rfl rfl rfl ?_
      rw [crash_nil]
      repeat (first | refine JL.q (by first | (apply OQ.move; exact rfl) | (apply OQ.assign; exact rfl) | (apply OQ.nilc; exact rfl) | (apply OQ.len; exact rfl; exact rfl) | (apply OQ.addN; exact rfl; exact rfl; exact (by (try simp only []); omega)) | (apply OQ.subN; exact rfl; exact rfl; exact (by (try simp only []); omega); exact (by (try simp only []); omega)) | (apply OQ.lssN; exact rfl; exact rfl) | (apply OQ.gtrN; exact rfl; exact rfl) | (apply OQ.fld; exact rfl; exact rfl; exact rfl; exact (by decide); exact rfl)) rfl ?_ | refine JC.seq ?_ | refine JC.region ?_ | refine JC.block ?_ | refine JC.skip ?_ | refine JC.exit ?_ | refine JL.nil ?_ | refine JE.next ?_ | refine JE.blk_normal ?_ | refine JE.then_exit ?_ | refine JE.blk_hit ?_ | refine JE.blk_miss rfl ?_ | refine JE.then_ret ?_ | refine JE.blk_ret ?_ | refine JC.label ?_ | refine JL.gon rfl rfl ?_ | refine JL.gskip rfl rfl rfl rfl ?_ | refine JL.gskipU rfl rfl rfl rfl ?_)
      refine JL.jopen (x := sync0 zh.x) zd.sync (Nat.zero_le _) hno rfl rfl fun j2 => ?_
      rw [← hxp]
      generalize opnJ (sync0 zh.x) zbl = h2 at v2 d2 hg2 ⊢
      generalize opnD zbl = bl2 at v2 d2 ⊢
      have hz2 : Lz.ok ⟨i + 1, j2, h2, bl2, zq, zrs⟩ w (i + 1 + 1) := ⟨v2, d2, hg2, zn, za⟩
      repeat (first | refine JL.q (by first | (apply OQ.extract; exact rfl; exact rfl) | (apply OQ.neB (a := 0) (b := 0) (c := true); exact rfl; exact rfl; exact rfl) | (apply OQ.ptrNil; exact Try.underlying52; exact rfl; exact rfl) | (apply OQ.pick_f; exact rfl; exact rfl) | (apply OQ.move; exact rfl) | (apply OQ.assign; exact rfl) | (apply OQ.nilc; exact rfl) | (apply OQ.len; exact rfl; exact rfl) | (apply OQ.addN; exact rfl; exact rfl; exact (by (try simp only []); omega)) | (apply OQ.subN; exact rfl; exact rfl; exact (by (try simp only []); omega); exact (by (try simp only []); omega)) | (apply OQ.lssN; exact rfl; exact rfl) | (apply OQ.gtrN; exact rfl; exact rfl) | (apply OQ.fld; exact rfl; exact rfl; exact rfl; exact (by decide); exact rfl)) rfl ?_ | refine JC.seq ?_ | refine JC.region ?_ | refine JC.block ?_ | refine JC.skip ?_ | refine JC.exit ?_ | refine JL.nil ?_ | refine JE.next ?_ | refine JE.blk_normal ?_ | refine JE.then_exit ?_ | refine JE.blk_hit ?_ | refine JE.blk_miss rfl ?_ | refine JE.then_ret ?_ | refine JE.blk_ret ?_ | refine JC.label ?_ | refine JL.gon rfl rfl ?_ | refine JL.gskip rfl rfl rfl rfl ?_ | refine JL.gskipU rfl rfl rfl rfl ?_)
      refine JL.jrecs v2 d2 rfl rfl fun zr => ?_
      obtain ⟨zr, hzr1, hzr2⟩ := zr
      have h2n := v2.fs
      have hyl : ∀ y ∈ zr.s.rs, y.l.length < 4611686018427387904 := fun y hy => by
        have hm : y.l ∈ zr.s.rs.map Sl8.l := List.mem_map_of_mem hy
        rw [zr.rs_eq] at hm
        have he : zr.rs.map Sl8.l = zrs.map Sl8.l := hzr1
        rw [he] at hm
        obtain ⟨u, hu, hul⟩ := List.mem_map.1 hm
        have := (za u hu).2
        rw [← hul]
        omega
      have hsm := fun {w' : World} (hw' : Holds w [] (zr.E ++ (jnE j2 h2 bl2 [] ++ (⟨zj, Row 88 (hfc zh), true⟩ :: (accE 33 (some zq) (zrs.map Sl8.v) ++ [])))) w') => samel_any zr.s (Lz.s ⟨i + 1, j2, h2, bl2, zq, zrs⟩) w' (zr.ok (hw'.weak (less_pre _ _))) (Lz.sok hz2 (A := zr.E ++ (jnE j2 h2 bl2 [] ++ [⟨zj, Row 88 (hfc zh), true⟩])) (M := []) (by simpa [List.append_assoc] using hw')) (by rw [zr.rs_eq]; omega) hyl
      have heq : decide (zr.s.rs.map Sl8.l = (Lz.s ⟨i + 1, j2, h2, bl2, zq, zrs⟩).rs.map Sl8.l) = true := decide_eq_true (by rw [zr.rs_eq]; exact hzr1)
      rw [heq, zr.v_eq] at hsm
      repeat (first | refine JL.q (by first | (apply OQ.callx (vs := [zr.v, (Lz.s ⟨i + 1, j2, h2, bl2, zq, zrs⟩).v]); exact goes_samel; exact rfl; exact (fun w' hw' => hsm hw')) | (apply OQ.not; exact rfl) | (apply OQ.pick_f; exact rfl; exact rfl) | (apply OQ.move; exact rfl) | (apply OQ.assign; exact rfl) | (apply OQ.nilc; exact rfl) | (apply OQ.len; exact rfl; exact rfl) | (apply OQ.addN; exact rfl; exact rfl; exact (by (try simp only []); omega)) | (apply OQ.subN; exact rfl; exact rfl; exact (by (try simp only []); omega); exact (by (try simp only []); omega)) | (apply OQ.lssN; exact rfl; exact rfl) | (apply OQ.gtrN; exact rfl; exact rfl) | (apply OQ.fld; exact rfl; exact rfl; exact rfl; exact (by decide); exact rfl)) rfl ?_ | refine JC.seq ?_ | refine JC.region ?_ | refine JC.block ?_ | refine JC.skip ?_ | refine JC.exit ?_ | refine JL.nil ?_ | refine JE.next ?_ | refine JE.blk_normal ?_ | refine JE.then_exit ?_ | refine JE.blk_hit ?_ | refine JE.blk_miss rfl ?_ | refine JE.then_ret ?_ | refine JE.blk_ret ?_ | refine JC.label ?_ | refine JL.gon rfl rfl ?_ | refine JL.gskip rfl rfl rfl rfl ?_ | refine JL.gskipU rfl rfl rfl rfl ?_)
      refine JC.cond_false rfl rfl ?_
      repeat (first | refine JL.q (by first | (apply OQ.move; exact rfl) | (apply OQ.assign; exact rfl) | (apply OQ.nilc; exact rfl) | (apply OQ.len; exact rfl; exact rfl) | (apply OQ.addN; exact rfl; exact rfl; exact (by (try simp only []); omega)) | (apply OQ.subN; exact rfl; exact rfl; exact (by (try simp only []); omega); exact (by (try simp only []); omega)) | (apply OQ.lssN; exact rfl; exact rfl) | (apply OQ.gtrN; exact rfl; exact rfl) | (apply OQ.fld; exact rfl; exact rfl; exact rfl; exact (by decide); exact rfl)) rfl ?_ | refine JC.seq ?_ | refine JC.region ?_ | refine JC.block ?_ | refine JC.skip ?_ | refine JC.exit ?_ | refine JL.nil ?_ | refine JE.next ?_ | refine JE.blk_normal ?_ | refine JE.then_exit ?_ | refine JE.blk_hit ?_ | refine JE.blk_miss rfl ?_ | refine JE.then_ret ?_ | refine JE.blk_ret ?_ | refine JC.label ?_ | refine JL.gon rfl rfl ?_ | refine JL.gskip rfl rfl rfl rfl ?_ | refine JL.gskipU rfl rfl rfl rfl ?_)
      exact JE.again (i := Lz.mk i j h bl q rs) ⟨i + 1, j2, h2, bl2, zq, zrs⟩ ⟨hi', hz2⟩ (by dsimp only; omega) (by repeat (first | exact SubE.nil | refine SubE.cons _ _ _ rfl ?_)) (less_app _ (less_two (Less.refl _) (.drop _ _ _ (less_pre _ _))))
  · repeat (first | refine JL.q (by first | (apply OQ.move; exact rfl) | (apply OQ.assign; exact rfl) | (apply OQ.nilc; exact rfl) | (apply OQ.len; exact rfl; exact rfl) | (apply OQ.addN; exact rfl; exact rfl; exact (by (try simp only []); omega)) | (apply OQ.subN; exact rfl; exact rfl; exact (by (try simp only []); omega); exact (by (try simp only []); omega)) | (apply OQ.lssN; exact rfl; exact rfl) | (apply OQ.gtrN; exact rfl; exact rfl) | (apply OQ.fld; exact rfl; exact rfl; exact rfl; exact (by decide); exact rfl)) rfl ?_ | refine JC.seq ?_ | refine JC.region ?_ | refine JC.block ?_ | refine JC.skip ?_ | refine JC.exit ?_ | refine JL.nil ?_ | refine JE.next ?_ | refine JE.blk_normal ?_ | refine JE.then_exit ?_ | refine JE.blk_hit ?_ | refine JE.blk_miss rfl ?_ | refine JE.then_ret ?_ | refine JE.blk_ret ?_ | refine JC.label ?_ | refine JL.gon rfl rfl ?_ | refine JL.gskip rfl rfl rfl rfl ?_ | refine JL.gskipU rfl rfl rfl rfl ?_)
    refine JC.ret ?_
    repeat (first | refine JL.q (by first | (apply OQ.move; exact rfl) | (apply OQ.assign; exact rfl) | (apply OQ.nilc; exact rfl) | (apply OQ.len; exact rfl; exact rfl) | (apply OQ.addN; exact rfl; exact rfl; exact (by (try simp only []); omega)) | (apply OQ.subN; exact rfl; exact rfl; exact (by (try simp only []); omega); exact (by (try simp only []); omega)) | (apply OQ.lssN; exact rfl; exact rfl) | (apply OQ.gtrN; exact rfl; exact rfl) | (apply OQ.fld; exact rfl; exact rfl; exact rfl; exact (by decide); exact rfl)) rfl ?_ | refine JC.seq ?_ | refine JC.region ?_ | refine JC.block ?_ | refine JC.skip ?_ | refine JC.exit ?_ | refine JL.nil ?_ | refine JE.next ?_ | refine JE.blk_normal ?_ | refine JE.then_exit ?_ | refine JE.blk_hit ?_ | refine JE.blk_miss rfl ?_ | refine JE.then_ret ?_ | refine JE.blk_ret ?_ | refine JC.label ?_ | refine JL.gon rfl rfl ?_ | refine JL.gskip rfl rfl rfl rfl ?_ | refine JL.gskipU rfl rfl rfl rfl ?_)
    exact JE.ret1 rfl (RV.tmp rfl) fun w' hw => ⟨rfl, hw.chg⟩
end Go.Proofs.Ytopdkpeahhnihaa

/-
  Of no statement by itself: what a plain row's proof opens its arguments with (keys, bytes, slices of bytes and of int).
  Conditions: each theorem's own.
-/
namespace Go.Proofs.Ytopdkpeahhnihaa
set_option maxRecDepth 10000
open Go.ChangeShapes Go.WideShapes Go.ChangeAt Go.RowKit
open Sl
set_option linter.unusedVariables false
theorem ownQ : ownKnob Try.prog.godebug = none := by kernel_rfl
theorem laidOutQ : laidOutB Try.prog = true := by kernel_rfl
theorem u8_of {z : Int} (h : (Lit.int .u8 z).wf = true) : U8 (BitVec.ofInt 8 z) = .int .u8 z := by
  have h0 : 0 ≤ z ∧ z ≤ 255 := by
    have h1 : (decide (0 ≤ z) && decide (z ≤ 255)) = true := h
    simpa using h1
  have h2 : ((BitVec.ofInt 8 z).toNat : Int) = z := by
    rw [BitVec.toNat_ofInt]
    omega
  unfold U8
  rw [h2]
theorem arr8_of {H : Type} {enc : TypeId × Value → H} {W : World} {base fuel m : Nat} {t : TypeId} (hu : Try.prog.underlying t = some (.array m 5)) (hc : Try.prog.cellsOf t = m) {v : Value} {x : DataW H × List MemPlace} (hok : Value.okWide Try.prog W .any base t v) (h : DataW.trod enc Try.prog W 0 (fun _ => true) true fuel t v.cells.toList = some x) :
    ∃ r : List (BitVec 8), v = .agg (r.map U8).toArray ∧ r.length = m := by
  obtain ⟨xs, m', _, ex, _, hl, hel⟩ := DataW.trod_array hu h
  have c5 : Try.prog.cellsOf 5 = 1 := by kernel_rfl
  simp only [Value.okWide, hu] at hok
  obtain ⟨cs, rfl, hsz, _⟩ := hok
  rw [hc] at hsz
  have hk : ∀ i, ∃ k : BitVec 8, i < m → cs[i]? = some (U8 k) := by
    intro i
    by_cases hi : i < m
    · have h1 := hel i hi
      rw [c5, Nat.mul_one, List.getElem?_eq_getElem (by omega)] at h1
      obtain ⟨z, e1, e2, hw⟩ := DataW.trod_int (show Try.prog.underlying 5 = some (.int .u8) by kernel_rfl) h1
      refine ⟨BitVec.ofInt 8 z, fun _ => ?_⟩
      have h0 : ((cs.toList.drop i).take 1)[0]? = some (.int .u8 z) := by
        have : (Value.agg cs).cells = cs := rfl
        rw [this] at e1
        rw [e1]; rfl
      rw [u8_of hw]
      simpa using h0
    · exact ⟨0, fun h => absurd h hi⟩
  let f : Nat → BitVec 8 := fun i => Classical.choose (hk i)
  have hf : ∀ i, i < m → cs[i]? = some (U8 (f i)) := fun i => Classical.choose_spec (hk i)
  refine ⟨(List.range m).map f, ?_, by simp⟩
  congr 1
  apply Array.ext_getElem?
  intro i
  by_cases hi : i < m
  · rw [hf i hi]
    simp [hi]
  · rw [Array.getElem?_eq_none (by omega), Array.getElem?_eq_none (by simp; omega)]
theorem block_of {H : Type} {enc : TypeId × Value → H} {W : World} {base fuel : Nat} {v : Value} {x : DataW H × List MemPlace} (hok : Value.okWide Try.prog W .any base 32 v) (h : DataW.trod enc Try.prog W 0 (fun _ => true) true fuel 32 v.cells.toList = some x) :
    ∃ r : List (BitVec 8), v = .agg (r.map U8).toArray ∧ r.length = 64 := arr8_of (by kernel_rfl) (by kernel_rfl) hok h
def fldIs (P : Program) (t : TypeId) (i : Nat) (ty : TypeId) (off : Nat) : Bool := match (P.fieldsOf t)[i]? with
  | some f => f.type == ty && f.offset == off
  | none => false
theorem fldIs_get {P : Program} {t : TypeId} {i : Nat} {ty : TypeId} {off : Nat} (h : fldIs P t i ty off = true) : ∃ f, (P.fieldsOf t)[i]? = some f ∧ f.type = ty ∧ f.offset = off := by
  unfold fldIs at h
  split at h
  · next f e =>
    simp only [Bool.and_eq_true, beq_iff_eq] at h
    exact ⟨f, e, h.1, h.2⟩
  · cases h
theorem u8_nat {z : Int} (h : (Lit.int .u8 z).wf = true) : ∃ a : BitVec 8, z = (a.toNat : Int) := by
  have h1 := u8_of h
  unfold U8 at h1
  exact ⟨_, (Value.int.inj h1).2.symm⟩
def bits8 (zs : List Int) : List (BitVec 8) := zs.map (BitVec.ofInt 8)
theorem sl8_of {H : Type} {enc : TypeId × Value → H} {W : World} {fuel : Nat} {v : Value} {x : DataW H × List MemPlace} (h : DataW.trod enc Try.prog W 0 (fun _ => true) true fuel 33 [v] = some x) : ∃ k : Sl8, v = k.v ∧ k.ok W ∧ k.cap ≤ maxLen := by
  rcases open_ints (show Try.prog.underlying 33 = some (.slice 5) by kernel_rfl) (show Try.prog.underlying 5 = some (.int .u8) by kernel_rfl) (by kernel_rfl) h with ⟨hcs, _⟩ | ⟨x, l, c, zs, hcs, _, hl, hm, hz, _, hcell, hwz⟩
  · cases hcs
    exact ⟨⟨none, 0, []⟩, rfl, ⟨by simp, Reads.nil _ _⟩, by decide⟩
  · cases hcs
    simp only [if_true] at hz
    have hlen : (bits8 (zs.take l)).length = l := by simp [bits8]; omega
    refine ⟨⟨some x, c, bits8 (zs.take l)⟩, by simp [Sl8.v, hlen], ⟨by rw [hlen]; exact hl, ?_⟩, hm⟩
    intro i v hv
    have hi : i < l := by
      have := (List.getElem?_eq_some_iff.1 hv).1
      simpa [hlen] using this
    have hc := hcell i (by omega)
    obtain ⟨b, o, sp⟩ := x
    cases sp with
    | some s =>
      have hc := hcell 0 (by omega)
      simp only [World.cell?, Addr.add, if_true] at hc
      split at hc <;> simp at hc
    | none =>
      refine ⟨b, o, rfl, ?_⟩
      have e1 : zs.getD i 0 = zs[i]'(by omega) := by simp [List.getD, show i < zs.length by omega]
      have e2 := u8_of (hwz (zs[i]'(by omega)) (List.getElem_mem _))
      have e3 : v = .int .u8 (zs.getD i 0) := by
        simp only [bits8, List.map_map, List.getElem?_map, List.getElem?_take] at hv
        rw [if_pos hi, List.getElem?_eq_getElem (by omega)] at hv
        simp only [Option.map_some, Function.comp, Option.some.injEq] at hv
        rw [← hv, e2, e1]
      rw [e3]
      have e4 : (⟨b, o, none⟩ : Addr).add i = ⟨b, o + i, none⟩ := by
        unfold Addr.add
        split
        · subst i; rfl
        · rfl
      rw [e4] at hc
      exact hc
theorem sli_of {H : Type} {enc : TypeId × Value → H} {W : World} {fuel : Nat} {v : Value} {x : DataW H × List MemPlace} (h : DataW.trod enc Try.prog W 0 (fun _ => true) true fuel 42 [v] = some x) : ∃ k : SlI, v = k.v ∧ k.ok W ∧ k.cap ≤ maxLen := by
  rcases open_ints (show Try.prog.underlying 42 = some (.slice 3) by kernel_rfl) (show Try.prog.underlying 3 = some (.int .i64) by kernel_rfl) (by kernel_rfl) h with ⟨hcs, _⟩ | ⟨x, l, c, zs, hcs, _, hl, hm, hz, _, hcell, hwz⟩
  · cases hcs
    exact ⟨⟨none, 0, []⟩, rfl, ⟨by simp, Reads.nil _ _⟩, by decide⟩
  · cases hcs
    simp only [if_true] at hz
    have hlen : (zs.take l).length = l := by simp; omega
    refine ⟨⟨some x, c, zs.take l⟩, by simp [SlI.v, hlen], ⟨by rw [hlen]; exact hl, ?_⟩, hm⟩
    intro i v hv
    have hi : i < l := by
      have := (List.getElem?_eq_some_iff.1 hv).1
      rw [List.length_map, hlen] at this
      exact this
    have hc := hcell i (by omega)
    obtain ⟨b, o, sp⟩ := x
    cases sp with
    | some s =>
      have hc := hcell 0 (by omega)
      simp only [World.cell?, Addr.add, if_true] at hc
      split at hc <;> simp at hc
    | none =>
      refine ⟨b, o, rfl, ?_⟩
      have e1 : zs.getD i 0 = zs[i]'(by omega) := by simp [List.getD, show i < zs.length by omega]
      have e3 : v = .int .i64 (zs.getD i 0) := by
        simp only [List.getElem?_map, List.getElem?_take] at hv
        rw [if_pos hi, List.getElem?_eq_getElem (by omega)] at hv
        simp only [Option.map_some, Option.some.injEq] at hv
        rw [← hv, e1]
      rw [e3]
      have e4 : (⟨b, o, none⟩ : Addr).add i = ⟨b, o + i, none⟩ := by
        unfold Addr.add
        split
        · subst i; rfl
        · rfl
      rw [e4] at hc
      exact hc
end Go.Proofs.Ytopdkpeahhnihaa

/-
  Of no statement by itself: what a row's proof opens a slice of slices of bytes with, with its bulk.
  Conditions: each theorem's own.
-/
namespace Go.Proofs.Ytopdkpeahhnihaa
set_option maxRecDepth 10000
open Go.ChangeShapes Go.WideShapes Go.ChangeAt Go.RowKit
open Sl
set_option linter.unusedVariables false
theorem tinyR {l : List Bt} (h : (strB l).size ≤ maxLen) : l.length < 9223372036854775808 := by
  rw [strB_size] at h
  unfold maxLen at h
  omega
theorem bulk_memR {H : Type} {d : DataW H} {l : List (DataW H)} (h : d ∈ l) : Rows.uptoBulk d ≤ Rows.uptoBulkAll l := by
  induction l with
  | nil => cases h
  | cons x r ih =>
    simp only [Rows.uptoBulkAll]
    cases List.mem_cons.1 h with
    | inl e => subst e; omega
    | inr e => have := ih e; omega
theorem bulk_lits {H : Type} (k : IntKind) : ∀ zs : List Int, Rows.uptoBulkAll (lits k zs : List (DataW H)) = zs.length
  | [] => rfl
  | z :: zs => by
    have := bulk_lits (H := H) k zs
    show Rows.uptoBulk (DataW.lit (.int k z) : DataW H) + Rows.uptoBulkAll (lits k zs) = _
    rw [this]
    simp only [Rows.uptoBulk, List.length_cons]
    omega
theorem sl8_full {H : Type} {enc : TypeId × Value → H} {W : World} {fuel : Nat} {v : Value} {x : DataW H × List MemPlace} (h : DataW.trod enc Try.prog W 0 (fun _ => true) true fuel 33 [v] = some x) : ∃ k : Sl8, v = k.v ∧ k.ok W ∧ k.l.length ≤ Rows.uptoBulk x.1 := by
  obtain ⟨k, hk, ok, _⟩ := sl8_of h
  refine ⟨k, hk, ok, ?_⟩
  rcases open_ints (show Try.prog.underlying 33 = some (.slice 5) by kernel_rfl) (show Try.prog.underlying 5 = some (.int .u8) by kernel_rfl) (by kernel_rfl) h with ⟨hcs, _⟩ | ⟨a, l, c, zs, hcs, _, hl, hm, hz, hxx, _, _⟩
  · cases hcs
    have e : (Value.slice none 0 0) = .slice k.ad k.l.length k.cap := hk
    have : k.l.length = 0 := ((Value.slice.inj e).2.1).symm
    omega
  · cases hcs
    have e : (Value.slice (some a) l c) = .slice k.ad k.l.length k.cap := hk
    have hl2 : k.l.length = l := ((Value.slice.inj e).2.1).symm
    simp only [if_true] at hz
    rw [hxx]
    simp only [Rows.uptoBulk, bulk_lits, List.length_take, List.length_drop]
    omega
theorem parts_full {H : Type} {enc : TypeId × Value → H} {W : World} {base fuel : Nat} {v : Value} {x : DataW H × List MemPlace} (hok : Value.okWide Try.prog W .any base 57 v) (h : DataW.trod enc Try.prog W 0 (fun _ => true) true fuel 57 v.cells.toList = some x) :
    ∃ k : SlL, v = k.v ∧ k.ok W ∧ (∀ p ∈ k.rs, p.l.length ≤ Rows.uptoBulk x.1) := by
  obtain ⟨a, l, c, rfl⟩ := okWide_slice (show Try.prog.underlying 57 = some (.slice 33) by kernel_rfl) hok
  have hc1 : Try.prog.cellsOf 33 = 1 := by kernel_rfl
  rcases Go.Deep.open_slice (show Try.prog.underlying 57 = some (.slice 33) by kernel_rfl) h with ⟨hcs, _⟩ | ⟨a', len, cap, m, n, D, Pl, hcs, _, hl, hm, hmm, hxx, hel⟩
  · cases hcs
    exact ⟨⟨none, 0, []⟩, rfl, ⟨Nat.le_refl _, Reads.nil _ _, nofun⟩, nofun⟩
  · cases hcs
    simp only [if_true] at hmm
    subst hmm
    simp only [hc1, Nat.mul_one] at hel
    have hk : ∀ i, ∃ k : Sl8, i < l → W.cell? (a'.add i) = some k.v ∧ k.ok W ∧ k.l.length ≤ Rows.uptoBulk x.1 := by
      intro i
      by_cases hi : i < l
      · obtain ⟨cs', h1, h2⟩ := hel i (by omega)
        obtain ⟨_, hlen, hcell⟩ := World.cells?_some h1
        match cs', hlen with
        | [u], _ =>
          obtain ⟨k, rfl, hk, hb⟩ := sl8_full h2
          refine ⟨k, fun _ => ⟨?_, hk, ?_⟩⟩
          · have := hcell 0 (by omega)
            simpa [Addr.add] using this
          · have hm2 := bulk_memR (H := H) (d := D i) (l := (List.range l).map D) (List.mem_map.2 ⟨i, List.mem_range.2 hi, rfl⟩)
            rw [hxx]
            simp only [Rows.uptoBulk]
            dsimp only at hb
            omega
      · exact ⟨⟨none, 0, []⟩, fun h => absurd h hi⟩
    let f : Nat → Sl8 := fun i => Classical.choose (hk i)
    have hf : ∀ i, i < l → W.cell? (a'.add i) = some (f i).v ∧ (f i).ok W ∧ (f i).l.length ≤ Rows.uptoBulk x.1 := fun i => Classical.choose_spec (hk i)
    have hlen : ((List.range l).map f).length = l := by simp
    refine ⟨⟨some a', m, (List.range l).map f⟩, by simp [SlL.v], ⟨by show ((List.range l).map f).length ≤ m; rw [hlen]; exact hl, ?_, ?_⟩, ?_⟩
    · intro i v hv
      have hi : i < l := by
        have := (List.getElem?_eq_some_iff.1 hv).1
        simpa using this
      have hc := (hf i hi).1
      have hv' : v = (f i).v := by
        simp [hi] at hv
        exact hv.symm
      obtain ⟨b, o, sp⟩ := a'
      cases sp with
      | some s =>
        have hc := (hf 0 (by omega)).1
        simp only [World.cell?, Addr.add, if_true] at hc
        split at hc <;> simp at hc
      | none =>
        refine ⟨b, o, rfl, ?_⟩
        have e4 : (⟨b, o, none⟩ : Addr).add i = ⟨b, o + i, none⟩ := by
          unfold Addr.add
          split
          · subst i; rfl
          · rfl
        rw [e4] at hc
        rw [hv']
        exact hc
    · intro p hp
      simp only [List.mem_map, List.mem_range] at hp
      obtain ⟨i, hi, rfl⟩ := hp
      exact (hf i hi).2.1
    · intro p hp
      simp only [List.mem_map, List.mem_range] at hp
      obtain ⟨i, hi, rfl⟩ := hp
      exact (hf i hi).2.2
end Go.Proofs.Ytopdkpeahhnihaa
