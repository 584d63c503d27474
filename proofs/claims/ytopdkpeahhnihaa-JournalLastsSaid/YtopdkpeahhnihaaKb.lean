/-
  Of no statement by itself: the texts JrnL, JrnQ, JrnR, JrnS in one.
  Conditions: each theorem's own.
-/
import Derived.Test.YtopdkpeahhnihaaKa
import Derived.Test.YtopdkpeahhnihaaSame
/-
  Of no statement by itself: the landed journal's Append, Restart.
  Conditions: each theorem's own.
-/
namespace Go.Proofs.Ytopdkpeahhnihaa
set_option maxRecDepth 10000
open Sl Dsk Jrn
theorem jnR_of {j : Nat} {h : Hf} {bl : List Bk} {pd : List (Nat × Bk)} {u w : World} {S : List Nat} {M : List Ent} (hw : Holds u S (jnE j h bl pd ++ M) w) : Holds w [] (jnR j h bl pd) w :=
  (ro_holds hw).weak (.keep _ _ _ _ _ _ (fun _ h => h) (.keep _ _ _ _ _ _ (fun _ h => h) (.keep _ _ _ _ _ _ (fun _ h => h) (.nil _))))
theorem dkR_jn {j : Nat} {h : Hf} {bl : List Bk} {pd : List (Nat × Bk)} {u w : World} {S : List Nat} {M : List Ent} (hw : Holds u S (jnE j h bl pd ++ M) w) : Holds w [] (dkR h.x bl pd) w :=
  (jnR_of hw).weak (.drop _ _ _ (Less.refl _))
theorem dkR_jr {j : Nat} {h : Hf} {bl : List Bk} {pd : List (Nat × Bk)} {u w : World} {S : List Nat} {M : List Ent} (hw : Holds u S (jnR j h bl pd ++ M) w) : Holds w [] (dkR h.x bl pd) w :=
  dkR_front (A := [⟨j, Row 88 (hfc h), false⟩]) (M := M) hw
theorem fits_nat (j : Nat) (h : Hf) (n : Nat) (hu : h.used ≤ h.size) (hb : h.size < 4611686018427387904) (hn : n < 4611686018427387904) (w : World) (h0 : Holds w [] [⟨j, Row 88 (hfc h), false⟩] w) :
    Calls Try.prog 34 [Pt j 0, N n].toArray w fun e w' => e = .returned (.bool (decide (nb n ≤ h.size - h.used))) ∧ Ext w w' := by
  have := fits_any j h (n : Int) hu hb (by omega) w h0
  rwa [show decide ((0 : Int) ≤ (n : Int) ∧ nb (n : Int).toNat ≤ h.size - h.used) = decide (nb n ≤ h.size - h.used) from decide_eq_decide.2 (by simp)] at this
theorem ro_one {j : Nat} {h : Hf} {u w : World} {S : List Nat} {M : List Ent} {wr : Bool} (hw : Holds u S (⟨j, Row 88 (hfc h), wr⟩ :: M) w) : Holds w [] [⟨j, Row 88 (hfc h), false⟩] w :=
  (ro_holds hw).weak (.keep _ _ _ _ _ _ (fun _ h => h) (.nil _))
theorem goes_app : Goes Try.prog 29 := ⟨_, Try.func29, rfl, by kernel_rfl⟩
theorem goes_rst : Goes Try.prog 32 := ⟨_, Try.func32, rfl, by kernel_rfl⟩
set_option maxHeartbeats 16000000 in
theorem app_no (j : Nat) (h : Hf) (s : Sl8) (hu : h.used ≤ h.size) (hb : h.size ≤ 65536) (hl : s.l.length < 4611686018427387904) (hno : ¬ nb s.l.length ≤ h.size - h.used) (w : World) (h0 : Holds w [] [⟨j, Row 88 (hfc h), false⟩] w) :
    Calls Try.prog 29 [Pt j 0, s.v].toArray w fun e w' => e = .returned (N 6) ∧ Ext w w' := by
  have cF := fun {u w' : World} {S : List Nat} {M : List Ent} (hw' : Holds u S (⟨j, Row 88 (hfc h), false⟩ :: M) w') => fits_nat j h s.l.length hu (by omega) hl w' (ro_one hw')
  rw [decide_eq_false hno] at cF
  refine enter (n := 21) Try.func29 rfl rfl rfl h0 ?_
  repeat (first | refine JL.q (by first | (apply OQ.len (k := s.l.length) (ad := s.ad) (cap := s.cap); exact Try.underlying33; exact rfl) | (apply OQ.callx (vs := [Pt j 0, N s.l.length]); exact goes_fits; exact rfl; exact (fun w' hw' => cF hw')) | (apply OQ.not; exact rfl) | (apply OQ.move; exact rfl) | (apply OQ.assign; exact rfl) | (apply OQ.nilc; exact rfl) | (apply OQ.len; exact rfl; exact rfl) | (apply OQ.addN; exact rfl; exact rfl; exact (by (try simp only []); omega)) | (apply OQ.subN; exact rfl; exact rfl; exact (by (try simp only []); omega); exact (by (try simp only []); omega)) | (apply OQ.lssN; exact rfl; exact rfl) | (apply OQ.gtrN; exact rfl; exact rfl) | (apply OQ.fld; exact rfl; exact rfl; exact rfl; exact (by decide); exact rfl)) rfl ?_ | refine JC.seq ?_ | refine JC.region ?_ | refine JC.block ?_ | refine JC.skip ?_ | refine JC.exit ?_ | refine JL.nil ?_ | refine JE.next ?_ | refine JE.blk_normal ?_ | refine JE.then_exit ?_ | refine JE.blk_hit ?_ | refine JE.blk_miss rfl ?_ | refine JE.then_ret ?_ | refine JE.blk_ret ?_ | refine JC.label ?_ | refine JL.gon rfl rfl ?_ | refine JL.gskip rfl rfl rfl rfl ?_ | refine JL.gskipU rfl rfl rfl rfl ?_)
  refine JC.cond_true rfl rfl ?_
  repeat (first | refine JL.q (by first | (apply OQ.move; exact rfl) | (apply OQ.assign; exact rfl) | (apply OQ.nilc; exact rfl) | (apply OQ.len; exact rfl; exact rfl) | (apply OQ.addN; exact rfl; exact rfl; exact (by (try simp only []); omega)) | (apply OQ.subN; exact rfl; exact rfl; exact (by (try simp only []); omega); exact (by (try simp only []); omega)) | (apply OQ.lssN; exact rfl; exact rfl) | (apply OQ.gtrN; exact rfl; exact rfl) | (apply OQ.fld; exact rfl; exact rfl; exact rfl; exact (by decide); exact rfl)) rfl ?_ | refine JC.seq ?_ | refine JC.region ?_ | refine JC.block ?_ | refine JC.skip ?_ | refine JC.exit ?_ | refine JL.nil ?_ | refine JE.next ?_ | refine JE.blk_normal ?_ | refine JE.then_exit ?_ | refine JE.blk_hit ?_ | refine JE.blk_miss rfl ?_ | refine JE.then_ret ?_ | refine JE.blk_ret ?_ | refine JC.label ?_ | refine JL.gon rfl rfl ?_ | refine JL.gskip rfl rfl rfl rfl ?_ | refine JL.gskipU rfl rfl rfl rfl ?_)
  refine JC.ret ?_
  repeat (first | refine JL.q (by first | (apply OQ.move; exact rfl) | (apply OQ.assign; exact rfl) | (apply OQ.nilc; exact rfl) | (apply OQ.len; exact rfl; exact rfl) | (apply OQ.addN; exact rfl; exact rfl; exact (by (try simp only []); omega)) | (apply OQ.subN; exact rfl; exact rfl; exact (by (try simp only []); omega); exact (by (try simp only []); omega)) | (apply OQ.lssN; exact rfl; exact rfl) | (apply OQ.gtrN; exact rfl; exact rfl) | (apply OQ.fld; exact rfl; exact rfl; exact rfl; exact (by decide); exact rfl)) rfl ?_ | refine JC.seq ?_ | refine JC.region ?_ | refine JC.block ?_ | refine JC.skip ?_ | refine JC.exit ?_ | refine JL.nil ?_ | refine JE.next ?_ | refine JE.blk_normal ?_ | refine JE.then_exit ?_ | refine JE.blk_hit ?_ | refine JE.blk_miss rfl ?_ | refine JE.then_ret ?_ | refine JE.blk_ret ?_ | refine JC.label ?_ | refine JL.gon rfl rfl ?_ | refine JL.gskip rfl rfl rfl rfl ?_ | refine JL.gskipU rfl rfl rfl rfl ?_)
  exact JE.ret1 rfl (RV.tmp rfl) fun w' hw => ⟨rfl, hw.chg⟩
/-- the journal behind one more record, and its disk's blocks -/
def appJ (h : Hf) (l : Bk) : Hf := syH (putH h l.length)
def appD (h : Hf) (bl : List Bk) (l : Bk) : List Bk := putAt bl (h.first + h.used) (blks h.g h.count l)
set_option maxHeartbeats 16000000 in
theorem app_yes (j : Nat) (h : Hf) (bl : List Bk) (pd : List (Nat × Bk)) (s : Sl8) (hd : DkOk h.x bl pd) (hs : h.first + h.size ≤ bl.length) (hc : h.count ≤ h.size) (hp : pd.length ≤ 900000) (hu : h.used ≤ h.size) (hyes : nb s.l.length ≤ h.size - h.used) (w : World) (hok : s.ok w) (hap : Away s (keys (jnE j h bl pd))) (h0 : Holds w (keys (jnE j h bl pd)) (jnE j h bl pd) w) :
    Calls Try.prog 29 [Pt j 0, s.v].toArray w fun e w' => e = .returned (N 0) ∧ Holds w (keys (jnE j h bl pd)) (jnE j (appJ h s.l) (appD h bl s.l) []) w' := by
  have hn1 := hd.n1
  have hl : s.l.length < 4611686018427387904 := by have := nb_le s.l.length; omega
  have cF := fun {u w' : World} {S : List Nat} {M : List Ent} (hw' : Holds u S (jnE j h bl pd ++ M) w') => fits_nat j h s.l.length hu (by omega) hl w' (ro_one hw')
  rw [decide_eq_true hyes] at cF
  generalize hS : keys (jnE j h bl pd) = S at hap h0 ⊢
  refine enter (n := 21) Try.func29 rfl rfl rfl h0 ?_
  repeat (first | refine JL.q (by first | (apply OQ.len (k := s.l.length) (ad := s.ad) (cap := s.cap); exact Try.underlying33; exact rfl) | (apply OQ.callx (vs := [Pt j 0, N s.l.length]); exact goes_fits; exact rfl; exact (fun w' hw' => cF (M := []) (by rw [List.append_nil]; exact hw'))) | (apply OQ.not; exact rfl) | (apply OQ.move; exact rfl) | (apply OQ.assign; exact rfl) | (apply OQ.nilc; exact rfl) | (apply OQ.len; exact rfl; exact rfl) | (apply OQ.addN; exact rfl; exact rfl; exact (by (try simp only []); omega)) | (apply OQ.subN; exact rfl; exact rfl; exact (by (try simp only []); omega); exact (by (try simp only []); omega)) | (apply OQ.lssN; exact rfl; exact rfl) | (apply OQ.gtrN; exact rfl; exact rfl) | (apply OQ.fld; exact rfl; exact rfl; exact rfl; exact (by decide); exact rfl)) rfl ?_ | refine JC.seq ?_ | refine JC.region ?_ | refine JC.block ?_ | refine JC.skip ?_ | refine JC.exit ?_ | refine JL.nil ?_ | refine JE.next ?_ | refine JE.blk_normal ?_ | refine JE.then_exit ?_ | refine JE.blk_hit ?_ | refine JE.blk_miss rfl ?_ | refine JE.then_ret ?_ | refine JE.blk_ret ?_ | refine JC.label ?_ | refine JL.gon rfl rfl ?_ | refine JL.gskip rfl rfl rfl rfl ?_ | refine JL.gskipU rfl rfl rfl rfl ?_)
  refine JC.cond_false rfl rfl ?_
  repeat (first | refine JL.q (by first | (apply OQ.move; exact rfl) | (apply OQ.assign; exact rfl) | (apply OQ.nilc; exact rfl) | (apply OQ.len; exact rfl; exact rfl) | (apply OQ.addN; exact rfl; exact rfl; exact (by (try simp only []); omega)) | (apply OQ.subN; exact rfl; exact rfl; exact (by (try simp only []); omega); exact (by (try simp only []); omega)) | (apply OQ.lssN; exact rfl; exact rfl) | (apply OQ.gtrN; exact rfl; exact rfl) | (apply OQ.fld; exact rfl; exact rfl; exact rfl; exact (by decide); exact rfl)) rfl ?_ | refine JC.seq ?_ | refine JC.region ?_ | refine JC.block ?_ | refine JC.skip ?_ | refine JC.exit ?_ | refine JL.nil ?_ | refine JE.next ?_ | refine JE.blk_normal ?_ | refine JE.then_exit ?_ | refine JE.blk_hit ?_ | refine JE.blk_miss rfl ?_ | refine JE.then_ret ?_ | refine JE.blk_ret ?_ | refine JC.label ?_ | refine JL.gon rfl rfl ?_ | refine JL.gskip rfl rfl rfl rfl ?_ | refine JL.gskipU rfl rfl rfl rfl ?_)
  refine JL.perm ?_ (List.Perm.of_eq (List.append_nil _).symm)
  refine JL.callV (ι := Dw h.x (appD h bl s.l) (pd.length + nb s.l.length)) (vs := [Pt j 0, s.v]) (fun _ => .tuple #[]) (fun z => z.J j (putH h s.l.length)) goes_put rfl rfl (jnE_wr _ _ _ _) (fun z => z.Jwr _ _) (fun w' hw' hx' => put_any j h bl pd s hd hs (by omega) hc (by omega) w' (hok.away hw' hap) (away_mid hw' (jnE_wr _ _ _ _) hok hap) hx') fun z => ?_
  rw [List.append_nil]
  repeat (first | refine JL.q (by first | (apply OQ.load; exact jbC; exact rfl; exact .here; exact (Row.cell (v := ifD h.x) rfl)) | (apply OQ.move; exact rfl) | (apply OQ.assign; exact rfl) | (apply OQ.nilc; exact rfl) | (apply OQ.len; exact rfl; exact rfl) | (apply OQ.addN; exact rfl; exact rfl; exact (by (try simp only []); omega)) | (apply OQ.subN; exact rfl; exact rfl; exact (by (try simp only []); omega); exact (by (try simp only []); omega)) | (apply OQ.lssN; exact rfl; exact rfl) | (apply OQ.gtrN; exact rfl; exact rfl) | (apply OQ.fld; exact rfl; exact rfl; exact rfl; exact (by decide); exact rfl)) rfl ?_ | refine JC.seq ?_ | refine JC.region ?_ | refine JC.block ?_ | refine JC.skip ?_ | refine JC.exit ?_ | refine JL.nil ?_ | refine JE.next ?_ | refine JE.blk_normal ?_ | refine JE.then_exit ?_ | refine JE.blk_hit ?_ | refine JE.blk_miss rfl ?_ | refine JE.then_ret ?_ | refine JE.blk_ret ?_ | refine JC.label ?_ | refine JL.gon rfl rfl ?_ | refine JL.gskip rfl rfl rfl rfl ?_ | refine JL.gskipU rfl rfl rfl rfl ?_)
  refine JL.perm (M' := dkE ⟨h.x.p, h.x.q, h.x.cap, z.a⟩ (appD h bl s.l) z.pd ++ [⟨j, Row 88 (hfc (putH h s.l.length)), true⟩]) ?_ (by exact List.perm_append_comm (l₁ := [_]))
  refine JL.isync rfl rfl ?_
  repeat (first | refine JL.q (by first | (apply OQ.move; exact rfl) | (apply OQ.assign; exact rfl) | (apply OQ.nilc; exact rfl) | (apply OQ.len; exact rfl; exact rfl) | (apply OQ.addN; exact rfl; exact rfl; exact (by (try simp only []); omega)) | (apply OQ.subN; exact rfl; exact rfl; exact (by (try simp only []); omega); exact (by (try simp only []); omega)) | (apply OQ.lssN; exact rfl; exact rfl) | (apply OQ.gtrN; exact rfl; exact rfl) | (apply OQ.fld; exact rfl; exact rfl; exact rfl; exact (by decide); exact rfl)) rfl ?_ | refine JC.seq ?_ | refine JC.region ?_ | refine JC.block ?_ | refine JC.skip ?_ | refine JC.exit ?_ | refine JL.nil ?_ | refine JE.next ?_ | refine JE.blk_normal ?_ | refine JE.then_exit ?_ | refine JE.blk_hit ?_ | refine JE.blk_miss rfl ?_ | refine JE.then_ret ?_ | refine JE.blk_ret ?_ | refine JC.label ?_ | refine JL.gon rfl rfl ?_ | refine JL.gskip rfl rfl rfl rfl ?_ | refine JL.gskipU rfl rfl rfl rfl ?_)
  refine JC.ret ?_
  repeat (first | refine JL.q (by first | (apply OQ.move; exact rfl) | (apply OQ.assign; exact rfl) | (apply OQ.nilc; exact rfl) | (apply OQ.len; exact rfl; exact rfl) | (apply OQ.addN; exact rfl; exact rfl; exact (by (try simp only []); omega)) | (apply OQ.subN; exact rfl; exact rfl; exact (by (try simp only []); omega); exact (by (try simp only []); omega)) | (apply OQ.lssN; exact rfl; exact rfl) | (apply OQ.gtrN; exact rfl; exact rfl) | (apply OQ.fld; exact rfl; exact rfl; exact rfl; exact (by decide); exact rfl)) rfl ?_ | refine JC.seq ?_ | refine JC.region ?_ | refine JC.block ?_ | refine JC.skip ?_ | refine JC.exit ?_ | refine JL.nil ?_ | refine JE.next ?_ | refine JE.blk_normal ?_ | refine JE.then_exit ?_ | refine JE.blk_hit ?_ | refine JE.blk_miss rfl ?_ | refine JE.then_ret ?_ | refine JE.blk_ret ?_ | refine JC.label ?_ | refine JL.gon rfl rfl ?_ | refine JL.gskip rfl rfl rfl rfl ?_ | refine JL.gskipU rfl rfl rfl rfl ?_)
  exact JE.ret1 rfl (RV.tmp rfl) fun w' hw => ⟨rfl, hw.perm' (by exact List.perm_append_comm (l₂ := [_]))⟩
/-- why a journal doesn't begin anew -/
def noRst (h : Hf) (bl : List Bk) (n : Nat) : Prop := h.size < nb n ∨ gm bl = 4294967295#32
def rstH (h : Hf) : Hf := ⟨h.x, h.size - h.first, h.size, 0, 0, 0⟩
def rstJ (h : Hf) (bl : List Bk) (l : Bk) : Hf := syH (begH (rstH h) (gm bl + 1#32) [l])
def rstD (h : Hf) (bl : List Bk) (l : Bk) : List Bk := putAt bl (h.size - h.first) (allB (gm bl + 1#32) 0 [l])
set_option maxHeartbeats 16000000 in
theorem rst_no (j : Nat) (h : Hf) (bl : List Bk) (pd : List (Nat × Bk)) (s : Sl8) (ok : Ok bl pd) (hn : bl.length ≤ 65536) (hb : h.size ≤ 65536) (hl : s.l.length < 4611686018427387904) (hno : noRst h bl s.l.length) (w : World) (h0 : Holds w [] (jnR j h bl pd) w) :
    Calls Try.prog 32 [Pt j 0, s.v].toArray w fun e w' => e = .returned (N 6) ∧ Ext w w' := by
  refine enter (n := 43) Try.func32 rfl rfl rfl h0 ?_
  repeat (first | refine JL.q (by first | (apply OQ.move; exact rfl) | (apply OQ.assign; exact rfl) | (apply OQ.nilc; exact rfl) | (apply OQ.len; exact rfl; exact rfl) | (apply OQ.addN; exact rfl; exact rfl; exact (by (try simp only []); omega)) | (apply OQ.subN; exact rfl; exact rfl; exact (by (try simp only []); omega); exact (by (try simp only []); omega)) | (apply OQ.lssN; exact rfl; exact rfl) | (apply OQ.gtrN; exact rfl; exact rfl) | (apply OQ.fld; exact rfl; exact rfl; exact rfl; exact (by decide); exact rfl)) rfl ?_ | refine JC.seq ?_ | refine JC.region ?_ | refine JC.block ?_ | refine JC.skip ?_ | refine JC.exit ?_ | refine JL.nil ?_ | refine JE.next ?_ | refine JE.blk_normal ?_ | refine JE.then_exit ?_ | refine JE.blk_hit ?_ | refine JE.blk_miss rfl ?_ | refine JE.then_ret ?_ | refine JE.blk_ret ?_ | refine JC.label ?_ | refine JL.gon rfl rfl ?_ | refine JL.gskip rfl rfl rfl rfl ?_ | refine JL.gskipU rfl rfl rfl rfl ?_)
  refine JC.quiet mixT (by kernel_rfl) ?_
  cases c1 : decide ((h.size : Int) < (nb s.l.length : Nat))
  case true =>
    repeat (first | refine JL.q (by first | (apply OQ.len (k := s.l.length) (ad := s.ad) (cap := s.cap); exact Try.underlying33; exact rfl) | (apply OQ.callx (vs := [N s.l.length]); exact goes_bfor; exact rfl; exact (fun w' _ => bfor_any s.l.length hl w')) | (apply OQ.load; exact intC; exact rfl; exact .here; exact (Row.cell (v := N h.size) rfl)) | (apply OQ.gtrB; exact rfl; exact rfl; exact c1) | (apply OQ.move; exact rfl) | (apply OQ.assign; exact rfl) | (apply OQ.nilc; exact rfl) | (apply OQ.len; exact rfl; exact rfl) | (apply OQ.addN; exact rfl; exact rfl; exact (by (try simp only []); omega)) | (apply OQ.subN; exact rfl; exact rfl; exact (by (try simp only []); omega); exact (by (try simp only []); omega)) | (apply OQ.lssN; exact rfl; exact rfl) | (apply OQ.gtrN; exact rfl; exact rfl) | (apply OQ.fld; exact rfl; exact rfl; exact rfl; exact (by decide); exact rfl)) rfl ?_ | refine JQ.q (by first | (apply OQ.len (k := s.l.length) (ad := s.ad) (cap := s.cap); exact Try.underlying33; exact rfl) | (apply OQ.callx (vs := [N s.l.length]); exact goes_bfor; exact rfl; exact (fun w' _ => bfor_any s.l.length hl w')) | (apply OQ.load; exact intC; exact rfl; exact .here; exact (Row.cell (v := N h.size) rfl)) | (apply OQ.gtrB; exact rfl; exact rfl; exact c1) | (apply OQ.move; exact rfl) | (apply OQ.assign; exact rfl) | (apply OQ.nilc; exact rfl) | (apply OQ.len; exact rfl; exact rfl) | (apply OQ.addN; exact rfl; exact rfl; exact (by (try simp only []); omega)) | (apply OQ.subN; exact rfl; exact rfl; exact (by (try simp only []); omega); exact (by (try simp only []); omega)) | (apply OQ.lssN; exact rfl; exact rfl) | (apply OQ.gtrN; exact rfl; exact rfl) | (apply OQ.fld; exact rfl; exact rfl; exact rfl; exact (by decide); exact rfl)) rfl ?_ | refine JC.seq ?_ | refine JC.region ?_ | refine JC.block ?_ | refine JC.skip ?_ | refine JC.exit ?_ | refine JL.nil ?_ | refine JQ.nil ?_ | refine JQ.nil_tail ?_ | refine JE.next ?_ | refine JE.blk_normal ?_ | refine JE.then_exit ?_ | refine JE.blk_hit ?_ | refine JE.blk_miss rfl ?_ | refine JE.then_ret ?_ | refine JE.blk_ret ?_ | refine JC.label ?_ | refine JL.gon rfl rfl ?_ | refine JQ.gon rfl rfl ?_ | refine JL.gskip rfl rfl rfl rfl ?_ | refine JQ.gskip rfl rfl rfl rfl ?_ | refine JL.gskipU rfl rfl rfl rfl ?_ | refine JQ.gskipU rfl rfl rfl rfl ?_)
    refine JC.cond_true rfl rfl ?_
    repeat (first | refine JL.q (by first | (apply OQ.move; exact rfl) | (apply OQ.assign; exact rfl) | (apply OQ.nilc; exact rfl) | (apply OQ.len; exact rfl; exact rfl) | (apply OQ.addN; exact rfl; exact rfl; exact (by (try simp only []); omega)) | (apply OQ.subN; exact rfl; exact rfl; exact (by (try simp only []); omega); exact (by (try simp only []); omega)) | (apply OQ.lssN; exact rfl; exact rfl) | (apply OQ.gtrN; exact rfl; exact rfl) | (apply OQ.fld; exact rfl; exact rfl; exact rfl; exact (by decide); exact rfl)) rfl ?_ | refine JQ.q (by first | (apply OQ.move; exact rfl) | (apply OQ.assign; exact rfl) | (apply OQ.nilc; exact rfl) | (apply OQ.len; exact rfl; exact rfl) | (apply OQ.addN; exact rfl; exact rfl; exact (by (try simp only []); omega)) | (apply OQ.subN; exact rfl; exact rfl; exact (by (try simp only []); omega); exact (by (try simp only []); omega)) | (apply OQ.lssN; exact rfl; exact rfl) | (apply OQ.gtrN; exact rfl; exact rfl) | (apply OQ.fld; exact rfl; exact rfl; exact rfl; exact (by decide); exact rfl)) rfl ?_ | refine JC.seq ?_ | refine JC.region ?_ | refine JC.block ?_ | refine JC.skip ?_ | refine JC.exit ?_ | refine JL.nil ?_ | refine JQ.nil ?_ | refine JQ.nil_tail ?_ | refine JE.next ?_ | refine JE.blk_normal ?_ | refine JE.then_exit ?_ | refine JE.blk_hit ?_ | refine JE.blk_miss rfl ?_ | refine JE.then_ret ?_ | refine JE.blk_ret ?_ | refine JC.label ?_ | refine JL.gon rfl rfl ?_ | refine JQ.gon rfl rfl ?_ | refine JL.gskip rfl rfl rfl rfl ?_ | refine JQ.gskip rfl rfl rfl rfl ?_ | refine JL.gskipU rfl rfl rfl rfl ?_ | refine JQ.gskipU rfl rfl rfl rfl ?_)
    refine JC.ret ?_
    repeat (first | refine JL.q (by first | (apply OQ.move; exact rfl) | (apply OQ.assign; exact rfl) | (apply OQ.nilc; exact rfl) | (apply OQ.len; exact rfl; exact rfl) | (apply OQ.addN; exact rfl; exact rfl; exact (by (try simp only []); omega)) | (apply OQ.subN; exact rfl; exact rfl; exact (by (try simp only []); omega); exact (by (try simp only []); omega)) | (apply OQ.lssN; exact rfl; exact rfl) | (apply OQ.gtrN; exact rfl; exact rfl) | (apply OQ.fld; exact rfl; exact rfl; exact rfl; exact (by decide); exact rfl)) rfl ?_ | refine JQ.q (by first | (apply OQ.move; exact rfl) | (apply OQ.assign; exact rfl) | (apply OQ.nilc; exact rfl) | (apply OQ.len; exact rfl; exact rfl) | (apply OQ.addN; exact rfl; exact rfl; exact (by (try simp only []); omega)) | (apply OQ.subN; exact rfl; exact rfl; exact (by (try simp only []); omega); exact (by (try simp only []); omega)) | (apply OQ.lssN; exact rfl; exact rfl) | (apply OQ.gtrN; exact rfl; exact rfl) | (apply OQ.fld; exact rfl; exact rfl; exact rfl; exact (by decide); exact rfl)) rfl ?_ | refine JC.seq ?_ | refine JC.region ?_ | refine JC.block ?_ | refine JC.skip ?_ | refine JC.exit ?_ | refine JL.nil ?_ | refine JQ.nil ?_ | refine JQ.nil_tail ?_ | refine JE.next ?_ | refine JE.blk_normal ?_ | refine JE.then_exit ?_ | refine JE.blk_hit ?_ | refine JE.blk_miss rfl ?_ | refine JE.then_ret ?_ | refine JE.blk_ret ?_ | refine JC.label ?_ | refine JL.gon rfl rfl ?_ | refine JQ.gon rfl rfl ?_ | refine JL.gskip rfl rfl rfl rfl ?_ | refine JQ.gskip rfl rfl rfl rfl ?_ | refine JL.gskipU rfl rfl rfl rfl ?_ | refine JQ.gskipU rfl rfl rfl rfl ?_)
    exact JE.ret1 rfl (RV.tmp rfl) fun w' hw => ⟨rfl, hw.chg⟩
  case false =>
    have hg : gm bl = 4294967295#32 := by
      rcases hno with h | h
      · exact absurd (by exact_mod_cast h) (of_decide_eq_false c1)
      · exact h
    have eG : newG bl = .tuple #[U32 0, N 6] := by unfold newG; rw [if_pos hg]
    have cN := fun {u w' : World} {S : List Nat} {M : List Ent} (hw' : Holds u S (jnR j h bl pd ++ M) w') => newGen_any h.x bl pd ok hn w' (dkR_jr hw')
    rw [eG] at cN
    repeat (first | refine JL.q (by first | (apply OQ.len (k := s.l.length) (ad := s.ad) (cap := s.cap); exact Try.underlying33; exact rfl) | (apply OQ.callx (vs := [N s.l.length]); exact goes_bfor; exact rfl; exact (fun w' _ => bfor_any s.l.length hl w')) | (apply OQ.load; exact intC; exact rfl; exact .here; exact (Row.cell (v := N h.size) rfl)) | (apply OQ.gtrB; exact rfl; exact rfl; exact c1) | (apply OQ.move; exact rfl) | (apply OQ.assign; exact rfl) | (apply OQ.nilc; exact rfl) | (apply OQ.len; exact rfl; exact rfl) | (apply OQ.addN; exact rfl; exact rfl; exact (by (try simp only []); omega)) | (apply OQ.subN; exact rfl; exact rfl; exact (by (try simp only []); omega); exact (by (try simp only []); omega)) | (apply OQ.lssN; exact rfl; exact rfl) | (apply OQ.gtrN; exact rfl; exact rfl) | (apply OQ.fld; exact rfl; exact rfl; exact rfl; exact (by decide); exact rfl)) rfl ?_ | refine JQ.q (by first | (apply OQ.len (k := s.l.length) (ad := s.ad) (cap := s.cap); exact Try.underlying33; exact rfl) | (apply OQ.callx (vs := [N s.l.length]); exact goes_bfor; exact rfl; exact (fun w' _ => bfor_any s.l.length hl w')) | (apply OQ.load; exact intC; exact rfl; exact .here; exact (Row.cell (v := N h.size) rfl)) | (apply OQ.gtrB; exact rfl; exact rfl; exact c1) | (apply OQ.move; exact rfl) | (apply OQ.assign; exact rfl) | (apply OQ.nilc; exact rfl) | (apply OQ.len; exact rfl; exact rfl) | (apply OQ.addN; exact rfl; exact rfl; exact (by (try simp only []); omega)) | (apply OQ.subN; exact rfl; exact rfl; exact (by (try simp only []); omega); exact (by (try simp only []); omega)) | (apply OQ.lssN; exact rfl; exact rfl) | (apply OQ.gtrN; exact rfl; exact rfl) | (apply OQ.fld; exact rfl; exact rfl; exact rfl; exact (by decide); exact rfl)) rfl ?_ | refine JC.seq ?_ | refine JC.region ?_ | refine JC.block ?_ | refine JC.skip ?_ | refine JC.exit ?_ | refine JL.nil ?_ | refine JQ.nil ?_ | refine JQ.nil_tail ?_ | refine JE.next ?_ | refine JE.blk_normal ?_ | refine JE.then_exit ?_ | refine JE.blk_hit ?_ | refine JE.blk_miss rfl ?_ | refine JE.then_ret ?_ | refine JE.blk_ret ?_ | refine JC.label ?_ | refine JL.gon rfl rfl ?_ | refine JQ.gon rfl rfl ?_ | refine JL.gskip rfl rfl rfl rfl ?_ | refine JQ.gskip rfl rfl rfl rfl ?_ | refine JL.gskipU rfl rfl rfl rfl ?_ | refine JQ.gskipU rfl rfl rfl rfl ?_)
    refine JC.cond_false rfl rfl ?_
    repeat (first | refine JL.q (by first | (apply OQ.load; exact jbC; exact rfl; exact .here; exact (Row.cell (v := ifD h.x) rfl)) | (apply OQ.callx (vs := [ifD h.x]); exact goes_newGen; exact rfl; exact (fun w' hw' => cN (M := []) (by rw [List.append_nil]; exact hw'))) | (apply OQ.extract; exact rfl; exact rfl) | (apply OQ.neB (a := 6) (b := 0) (c := false); exact rfl; exact rfl; exact rfl) | (apply OQ.move; exact rfl) | (apply OQ.assign; exact rfl) | (apply OQ.nilc; exact rfl) | (apply OQ.len; exact rfl; exact rfl) | (apply OQ.addN; exact rfl; exact rfl; exact (by (try simp only []); omega)) | (apply OQ.subN; exact rfl; exact rfl; exact (by (try simp only []); omega); exact (by (try simp only []); omega)) | (apply OQ.lssN; exact rfl; exact rfl) | (apply OQ.gtrN; exact rfl; exact rfl) | (apply OQ.fld; exact rfl; exact rfl; exact rfl; exact (by decide); exact rfl)) rfl ?_ | refine JQ.q (by first | (apply OQ.load; exact jbC; exact rfl; exact .here; exact (Row.cell (v := ifD h.x) rfl)) | (apply OQ.callx (vs := [ifD h.x]); exact goes_newGen; exact rfl; exact (fun w' hw' => cN (M := []) (by rw [List.append_nil]; exact hw'))) | (apply OQ.extract; exact rfl; exact rfl) | (apply OQ.neB (a := 6) (b := 0) (c := false); exact rfl; exact rfl; exact rfl) | (apply OQ.move; exact rfl) | (apply OQ.assign; exact rfl) | (apply OQ.nilc; exact rfl) | (apply OQ.len; exact rfl; exact rfl) | (apply OQ.addN; exact rfl; exact rfl; exact (by (try simp only []); omega)) | (apply OQ.subN; exact rfl; exact rfl; exact (by (try simp only []); omega); exact (by (try simp only []); omega)) | (apply OQ.lssN; exact rfl; exact rfl) | (apply OQ.gtrN; exact rfl; exact rfl) | (apply OQ.fld; exact rfl; exact rfl; exact rfl; exact (by decide); exact rfl)) rfl ?_ | refine JC.seq ?_ | refine JC.region ?_ | refine JC.block ?_ | refine JC.skip ?_ | refine JC.exit ?_ | refine JL.nil ?_ | refine JQ.nil ?_ | refine JQ.nil_tail ?_ | refine JE.next ?_ | refine JE.blk_normal ?_ | refine JE.then_exit ?_ | refine JE.blk_hit ?_ | refine JE.blk_miss rfl ?_ | refine JE.then_ret ?_ | refine JE.blk_ret ?_ | refine JC.label ?_ | refine JL.gon rfl rfl ?_ | refine JQ.gon rfl rfl ?_ | refine JL.gskip rfl rfl rfl rfl ?_ | refine JQ.gskip rfl rfl rfl rfl ?_ | refine JL.gskipU rfl rfl rfl rfl ?_ | refine JQ.gskipU rfl rfl rfl rfl ?_)
    refine JC.cond_true rfl rfl ?_
    repeat (first | refine JL.q (by first | (apply OQ.move; exact rfl) | (apply OQ.assign; exact rfl) | (apply OQ.nilc; exact rfl) | (apply OQ.len; exact rfl; exact rfl) | (apply OQ.addN; exact rfl; exact rfl; exact (by (try simp only []); omega)) | (apply OQ.subN; exact rfl; exact rfl; exact (by (try simp only []); omega); exact (by (try simp only []); omega)) | (apply OQ.lssN; exact rfl; exact rfl) | (apply OQ.gtrN; exact rfl; exact rfl) | (apply OQ.fld; exact rfl; exact rfl; exact rfl; exact (by decide); exact rfl)) rfl ?_ | refine JQ.q (by first | (apply OQ.move; exact rfl) | (apply OQ.assign; exact rfl) | (apply OQ.nilc; exact rfl) | (apply OQ.len; exact rfl; exact rfl) | (apply OQ.addN; exact rfl; exact rfl; exact (by (try simp only []); omega)) | (apply OQ.subN; exact rfl; exact rfl; exact (by (try simp only []); omega); exact (by (try simp only []); omega)) | (apply OQ.lssN; exact rfl; exact rfl) | (apply OQ.gtrN; exact rfl; exact rfl) | (apply OQ.fld; exact rfl; exact rfl; exact rfl; exact (by decide); exact rfl)) rfl ?_ | refine JC.seq ?_ | refine JC.region ?_ | refine JC.block ?_ | refine JC.skip ?_ | refine JC.exit ?_ | refine JL.nil ?_ | refine JQ.nil ?_ | refine JQ.nil_tail ?_ | refine JE.next ?_ | refine JE.blk_normal ?_ | refine JE.then_exit ?_ | refine JE.blk_hit ?_ | refine JE.blk_miss rfl ?_ | refine JE.then_ret ?_ | refine JE.blk_ret ?_ | refine JC.label ?_ | refine JL.gon rfl rfl ?_ | refine JQ.gon rfl rfl ?_ | refine JL.gskip rfl rfl rfl rfl ?_ | refine JQ.gskip rfl rfl rfl rfl ?_ | refine JL.gskipU rfl rfl rfl rfl ?_ | refine JQ.gskipU rfl rfl rfl rfl ?_)
    refine JC.ret ?_
    repeat (first | refine JL.q (by first | (apply OQ.move; exact rfl) | (apply OQ.assign; exact rfl) | (apply OQ.nilc; exact rfl) | (apply OQ.len; exact rfl; exact rfl) | (apply OQ.addN; exact rfl; exact rfl; exact (by (try simp only []); omega)) | (apply OQ.subN; exact rfl; exact rfl; exact (by (try simp only []); omega); exact (by (try simp only []); omega)) | (apply OQ.lssN; exact rfl; exact rfl) | (apply OQ.gtrN; exact rfl; exact rfl) | (apply OQ.fld; exact rfl; exact rfl; exact rfl; exact (by decide); exact rfl)) rfl ?_ | refine JQ.q (by first | (apply OQ.move; exact rfl) | (apply OQ.assign; exact rfl) | (apply OQ.nilc; exact rfl) | (apply OQ.len; exact rfl; exact rfl) | (apply OQ.addN; exact rfl; exact rfl; exact (by (try simp only []); omega)) | (apply OQ.subN; exact rfl; exact rfl; exact (by (try simp only []); omega); exact (by (try simp only []); omega)) | (apply OQ.lssN; exact rfl; exact rfl) | (apply OQ.gtrN; exact rfl; exact rfl) | (apply OQ.fld; exact rfl; exact rfl; exact rfl; exact (by decide); exact rfl)) rfl ?_ | refine JC.seq ?_ | refine JC.region ?_ | refine JC.block ?_ | refine JC.skip ?_ | refine JC.exit ?_ | refine JL.nil ?_ | refine JQ.nil ?_ | refine JQ.nil_tail ?_ | refine JE.next ?_ | refine JE.blk_normal ?_ | refine JE.then_exit ?_ | refine JE.blk_hit ?_ | refine JE.blk_miss rfl ?_ | refine JE.then_ret ?_ | refine JE.blk_ret ?_ | refine JC.label ?_ | refine JL.gon rfl rfl ?_ | refine JQ.gon rfl rfl ?_ | refine JL.gskip rfl rfl rfl rfl ?_ | refine JQ.gskip rfl rfl rfl rfl ?_ | refine JL.gskipU rfl rfl rfl rfl ?_ | refine JQ.gskipU rfl rfl rfl rfl ?_)
    exact JE.ret1 rfl (RV.tmp rfl) fun w' hw => ⟨rfl, hw.chg⟩
set_option maxHeartbeats 32000000 in
theorem rst_yes (j : Nat) (h : Hf) (bl : List Bk) (pd : List (Nat × Bk)) (s : Sl8) (hd : DkOk h.x bl pd) (hs : h.size + h.size ≤ bl.length) (hf : h.first ≤ h.size) (hp : pd.length ≤ 900000) (hyes : ¬ noRst h bl s.l.length) (w : World) (hok : s.ok w) (hap : Away s (keys (jnE j h bl pd))) (h0 : Holds w (keys (jnE j h bl pd)) (jnE j h bl pd) w) :
    Calls Try.prog 32 [Pt j 0, s.v].toArray w fun e w' => e = .returned (N 0) ∧ Holds w (keys (jnE j h bl pd)) (jnE j (rstJ h bl s.l) (rstD h bl s.l) []) w' := by
  have hn1 := hd.n1
  have hfit : nb s.l.length ≤ h.size := Nat.le_of_not_lt fun e => hyes (.inl e)
  have hg : ¬ gm bl = 4294967295#32 := fun e => hyes (.inr e)
  have hl : s.l.length < 4611686018427387904 := by have := nb_le s.l.length; omega
  have eG : newG bl = .tuple #[U32 (gm bl + 1#32), N 0] := by unfold newG; rw [if_neg hg]
  have cN := fun {u w' : World} {S : List Nat} {M : List Ent} (hw' : Holds u S (jnE j h bl pd ++ M) w') => newGen_any h.x bl pd hd.ok hn1 w' (dkR_jn hw')
  rw [eG] at cN
  have cO := fun w' => other_any h hf (by omega) w'
  have c1 : decide ((h.size : Int) < (nb s.l.length : Nat)) = false := decide_eq_false (by omega)
  generalize hS : keys (jnE j h bl pd) = S at hap h0 ⊢
  refine enter (n := 43) Try.func32 rfl rfl rfl h0 ?_
  repeat (first | refine JL.q (by first | (apply OQ.move; exact rfl) | (apply OQ.assign; exact rfl) | (apply OQ.nilc; exact rfl) | (apply OQ.len; exact rfl; exact rfl) | (apply OQ.addN; exact rfl; exact rfl; exact (by (try simp only []); omega)) | (apply OQ.subN; exact rfl; exact rfl; exact (by (try simp only []); omega); exact (by (try simp only []); omega)) | (apply OQ.lssN; exact rfl; exact rfl) | (apply OQ.gtrN; exact rfl; exact rfl) | (apply OQ.fld; exact rfl; exact rfl; exact rfl; exact (by decide); exact rfl)) rfl ?_ | refine JC.seq ?_ | refine JC.region ?_ | refine JC.block ?_ | refine JC.skip ?_ | refine JC.exit ?_ | refine JL.nil ?_ | refine JE.next ?_ | refine JE.blk_normal ?_ | refine JE.then_exit ?_ | refine JE.blk_hit ?_ | refine JE.blk_miss rfl ?_ | refine JE.then_ret ?_ | refine JE.blk_ret ?_ | refine JC.label ?_ | refine JL.gon rfl rfl ?_ | refine JL.gskip rfl rfl rfl rfl ?_ | refine JL.gskipU rfl rfl rfl rfl ?_)
  refine JC.quiet mixT (by kernel_rfl) ?_
  repeat (first | refine JL.q (by first | (apply OQ.len (k := s.l.length) (ad := s.ad) (cap := s.cap); exact Try.underlying33; exact rfl) | (apply OQ.callx (vs := [N s.l.length]); exact goes_bfor; exact rfl; exact (fun w' _ => bfor_any s.l.length hl w')) | (apply OQ.load; exact intC; exact rfl; exact .here; exact (Row.cell (v := N h.size) rfl)) | (apply OQ.gtrB; exact rfl; exact rfl; exact c1) | (apply OQ.move; exact rfl) | (apply OQ.assign; exact rfl) | (apply OQ.nilc; exact rfl) | (apply OQ.len; exact rfl; exact rfl) | (apply OQ.addN; exact rfl; exact rfl; exact (by (try simp only []); omega)) | (apply OQ.subN; exact rfl; exact rfl; exact (by (try simp only []); omega); exact (by (try simp only []); omega)) | (apply OQ.lssN; exact rfl; exact rfl) | (apply OQ.gtrN; exact rfl; exact rfl) | (apply OQ.fld; exact rfl; exact rfl; exact rfl; exact (by decide); exact rfl)) rfl ?_ | refine JQ.q (by first | (apply OQ.len (k := s.l.length) (ad := s.ad) (cap := s.cap); exact Try.underlying33; exact rfl) | (apply OQ.callx (vs := [N s.l.length]); exact goes_bfor; exact rfl; exact (fun w' _ => bfor_any s.l.length hl w')) | (apply OQ.load; exact intC; exact rfl; exact .here; exact (Row.cell (v := N h.size) rfl)) | (apply OQ.gtrB; exact rfl; exact rfl; exact c1) | (apply OQ.move; exact rfl) | (apply OQ.assign; exact rfl) | (apply OQ.nilc; exact rfl) | (apply OQ.len; exact rfl; exact rfl) | (apply OQ.addN; exact rfl; exact rfl; exact (by (try simp only []); omega)) | (apply OQ.subN; exact rfl; exact rfl; exact (by (try simp only []); omega); exact (by (try simp only []); omega)) | (apply OQ.lssN; exact rfl; exact rfl) | (apply OQ.gtrN; exact rfl; exact rfl) | (apply OQ.fld; exact rfl; exact rfl; exact rfl; exact (by decide); exact rfl)) rfl ?_ | refine JC.seq ?_ | refine JC.region ?_ | refine JC.block ?_ | refine JC.skip ?_ | refine JC.exit ?_ | refine JL.nil ?_ | refine JQ.nil ?_ | refine JQ.nil_tail ?_ | refine JE.next ?_ | refine JE.blk_normal ?_ | refine JE.then_exit ?_ | refine JE.blk_hit ?_ | refine JE.blk_miss rfl ?_ | refine JE.then_ret ?_ | refine JE.blk_ret ?_ | refine JC.label ?_ | refine JL.gon rfl rfl ?_ | refine JQ.gon rfl rfl ?_ | refine JL.gskip rfl rfl rfl rfl ?_ | refine JQ.gskip rfl rfl rfl rfl ?_ | refine JL.gskipU rfl rfl rfl rfl ?_ | refine JQ.gskipU rfl rfl rfl rfl ?_)
  refine JC.cond_false rfl rfl ?_
  repeat (first | refine JL.q (by first | (apply OQ.load; exact jbC; exact rfl; exact .here; exact (Row.cell (v := ifD h.x) rfl)) | (apply OQ.callx (vs := [ifD h.x]); exact goes_newGen; exact rfl; exact (fun w' hw' => cN (M := []) (by rw [List.append_nil]; exact hw'))) | (apply OQ.extract; exact rfl; exact rfl) | (apply OQ.neB (a := 0) (b := 0) (c := true); exact rfl; exact rfl; exact rfl) | (apply OQ.move; exact rfl) | (apply OQ.assign; exact rfl) | (apply OQ.nilc; exact rfl) | (apply OQ.len; exact rfl; exact rfl) | (apply OQ.addN; exact rfl; exact rfl; exact (by (try simp only []); omega)) | (apply OQ.subN; exact rfl; exact rfl; exact (by (try simp only []); omega); exact (by (try simp only []); omega)) | (apply OQ.lssN; exact rfl; exact rfl) | (apply OQ.gtrN; exact rfl; exact rfl) | (apply OQ.fld; exact rfl; exact rfl; exact rfl; exact (by decide); exact rfl)) rfl ?_ | refine JQ.q (by first | (apply OQ.load; exact jbC; exact rfl; exact .here; exact (Row.cell (v := ifD h.x) rfl)) | (apply OQ.callx (vs := [ifD h.x]); exact goes_newGen; exact rfl; exact (fun w' hw' => cN (M := []) (by rw [List.append_nil]; exact hw'))) | (apply OQ.extract; exact rfl; exact rfl) | (apply OQ.neB (a := 0) (b := 0) (c := true); exact rfl; exact rfl; exact rfl) | (apply OQ.move; exact rfl) | (apply OQ.assign; exact rfl) | (apply OQ.nilc; exact rfl) | (apply OQ.len; exact rfl; exact rfl) | (apply OQ.addN; exact rfl; exact rfl; exact (by (try simp only []); omega)) | (apply OQ.subN; exact rfl; exact rfl; exact (by (try simp only []); omega); exact (by (try simp only []); omega)) | (apply OQ.lssN; exact rfl; exact rfl) | (apply OQ.gtrN; exact rfl; exact rfl) | (apply OQ.fld; exact rfl; exact rfl; exact rfl; exact (by decide); exact rfl)) rfl ?_ | refine JC.seq ?_ | refine JC.region ?_ | refine JC.block ?_ | refine JC.skip ?_ | refine JC.exit ?_ | refine JL.nil ?_ | refine JQ.nil ?_ | refine JQ.nil_tail ?_ | refine JE.next ?_ | refine JE.blk_normal ?_ | refine JE.then_exit ?_ | refine JE.blk_hit ?_ | refine JE.blk_miss rfl ?_ | refine JE.then_ret ?_ | refine JE.blk_ret ?_ | refine JC.label ?_ | refine JL.gon rfl rfl ?_ | refine JQ.gon rfl rfl ?_ | refine JL.gskip rfl rfl rfl rfl ?_ | refine JQ.gskip rfl rfl rfl rfl ?_ | refine JL.gskipU rfl rfl rfl rfl ?_ | refine JQ.gskipU rfl rfl rfl rfl ?_)
  refine JC.cond_false rfl rfl ?_
  repeat (first | refine JL.q (by first | (apply OQ.load_agg (cs := hfc h); exact hfAg; exact hf6; exact rfl; exact .here; exact rfl; exact Row.all) | (apply OQ.callx (vs := [.agg (hfc h).toArray]); exact goes_other; exact rfl; exact (fun w' _ => cO w')) | (apply OQ.move; exact rfl) | (apply OQ.assign; exact rfl) | (apply OQ.nilc; exact rfl) | (apply OQ.len; exact rfl; exact rfl) | (apply OQ.addN; exact rfl; exact rfl; exact (by (try simp only []); omega)) | (apply OQ.subN; exact rfl; exact rfl; exact (by (try simp only []); omega); exact (by (try simp only []); omega)) | (apply OQ.lssN; exact rfl; exact rfl) | (apply OQ.gtrN; exact rfl; exact rfl) | (apply OQ.fld; exact rfl; exact rfl; exact rfl; exact (by decide); exact rfl)) rfl ?_ | refine JQ.q (by first | (apply OQ.load_agg (cs := hfc h); exact hfAg; exact hf6; exact rfl; exact .here; exact rfl; exact Row.all) | (apply OQ.callx (vs := [.agg (hfc h).toArray]); exact goes_other; exact rfl; exact (fun w' _ => cO w')) | (apply OQ.move; exact rfl) | (apply OQ.assign; exact rfl) | (apply OQ.nilc; exact rfl) | (apply OQ.len; exact rfl; exact rfl) | (apply OQ.addN; exact rfl; exact rfl; exact (by (try simp only []); omega)) | (apply OQ.subN; exact rfl; exact rfl; exact (by (try simp only []); omega); exact (by (try simp only []); omega)) | (apply OQ.lssN; exact rfl; exact rfl) | (apply OQ.gtrN; exact rfl; exact rfl) | (apply OQ.fld; exact rfl; exact rfl; exact rfl; exact (by decide); exact rfl)) rfl ?_ | refine JC.seq ?_ | refine JC.region ?_ | refine JC.block ?_ | refine JC.skip ?_ | refine JC.exit ?_ | refine JL.nil ?_ | refine JQ.nil ?_ | refine JQ.nil_tail ?_ | refine JE.next ?_ | refine JE.blk_normal ?_ | refine JE.then_exit ?_ | refine JE.blk_hit ?_ | refine JE.blk_miss rfl ?_ | refine JE.then_ret ?_ | refine JE.blk_ret ?_ | refine JC.label ?_ | refine JL.gon rfl rfl ?_ | refine JQ.gon rfl rfl ?_ | refine JL.gskip rfl rfl rfl rfl ?_ | refine JQ.gskip rfl rfl rfl rfl ?_ | refine JL.gskipU rfl rfl rfl rfl ?_ | refine JQ.gskipU rfl rfl rfl rfl ?_)
  refine JL.store_all (cs := hfc (rstH h)) hf6 rfl rfl rfl rfl .here rfl ?_
  repeat (first | refine JL.q (by first | (apply OQ.move; exact rfl) | (apply OQ.assign; exact rfl) | (apply OQ.nilc; exact rfl) | (apply OQ.len; exact rfl; exact rfl) | (apply OQ.addN; exact rfl; exact rfl; exact (by (try simp only []); omega)) | (apply OQ.subN; exact rfl; exact rfl; exact (by (try simp only []); omega); exact (by (try simp only []); omega)) | (apply OQ.lssN; exact rfl; exact rfl) | (apply OQ.gtrN; exact rfl; exact rfl) | (apply OQ.fld; exact rfl; exact rfl; exact rfl; exact (by decide); exact rfl)) rfl ?_ | refine JQ.q (by first | (apply OQ.move; exact rfl) | (apply OQ.assign; exact rfl) | (apply OQ.nilc; exact rfl) | (apply OQ.len; exact rfl; exact rfl) | (apply OQ.addN; exact rfl; exact rfl; exact (by (try simp only []); omega)) | (apply OQ.subN; exact rfl; exact rfl; exact (by (try simp only []); omega); exact (by (try simp only []); omega)) | (apply OQ.lssN; exact rfl; exact rfl) | (apply OQ.gtrN; exact rfl; exact rfl) | (apply OQ.fld; exact rfl; exact rfl; exact rfl; exact (by decide); exact rfl)) rfl ?_ | refine JC.seq ?_ | refine JC.region ?_ | refine JC.block ?_ | refine JC.skip ?_ | refine JC.exit ?_ | refine JL.nil ?_ | refine JQ.nil ?_ | refine JQ.nil_tail ?_ | refine JE.next ?_ | refine JE.blk_normal ?_ | refine JE.then_exit ?_ | refine JE.blk_hit ?_ | refine JE.blk_miss rfl ?_ | refine JE.then_ret ?_ | refine JE.blk_ret ?_ | refine JC.label ?_ | refine JL.gon rfl rfl ?_ | refine JQ.gon rfl rfl ?_ | refine JL.gskip rfl rfl rfl rfl ?_ | refine JQ.gskip rfl rfl rfl rfl ?_ | refine JL.gskipU rfl rfl rfl rfl ?_ | refine JQ.gskipU rfl rfl rfl rfl ?_)
  refine JL.lit1 (v := s.v) Try.underlying57 slEj rfl rfl rfl rfl fun bl2 _ => ?_
  refine JL.perm (M' := jnE j (rstH h) bl pd ++ [⟨bl2, Row 33 [s.v], true⟩]) ?_ (by exact List.perm_append_comm (l₁ := [_]))
  have cB := fun w' (hw' : Holds w S (jnE j (rstH h) bl pd ++ [⟨bl2, Row 33 [s.v], true⟩]) w') hx' => begin_any j (rstH h) bl pd (gm bl + 1#32) ⟨some ⟨bl2, 0, none⟩, 1, [s]⟩ hd (by show h.size - h.first + h.size ≤ bl.length; omega) (by show 0 < 1; decide) (by show nb s.l.length + 0 ≤ h.size; omega) (by show pd.length + (h.size + h.size) ≤ _; omega) w' ⟨Nat.le_refl _, (by
      obtain ⟨o, ho, hA⟩ := hw'.get (b := bl2) (A := Row 33 [s.v]) (wr := true) (hasR (N := jnE j (rstH h) bl pd) .here)
      exact Reads.block ho (Row.all _ hA)), fun y hy => by rw [List.mem_singleton.1 hy]; exact hok.away hw' hap⟩ ⟨fun _ a ha => by cases ha; exact away_has (b := bl2) hw' .here, fun y hy => by rw [List.mem_singleton.1 hy]; exact away_mid hw' (jnE_wr _ _ _ _) hok hap⟩ hx'
  repeat (first | refine JL.q (by first | (apply OQ.move; exact rfl) | (apply OQ.assign; exact rfl) | (apply OQ.nilc; exact rfl) | (apply OQ.len; exact rfl; exact rfl) | (apply OQ.addN; exact rfl; exact rfl; exact (by (try simp only []); omega)) | (apply OQ.subN; exact rfl; exact rfl; exact (by (try simp only []); omega); exact (by (try simp only []); omega)) | (apply OQ.lssN; exact rfl; exact rfl) | (apply OQ.gtrN; exact rfl; exact rfl) | (apply OQ.fld; exact rfl; exact rfl; exact rfl; exact (by decide); exact rfl)) rfl ?_ | refine JQ.q (by first | (apply OQ.move; exact rfl) | (apply OQ.assign; exact rfl) | (apply OQ.nilc; exact rfl) | (apply OQ.len; exact rfl; exact rfl) | (apply OQ.addN; exact rfl; exact rfl; exact (by (try simp only []); omega)) | (apply OQ.subN; exact rfl; exact rfl; exact (by (try simp only []); omega); exact (by (try simp only []); omega)) | (apply OQ.lssN; exact rfl; exact rfl) | (apply OQ.gtrN; exact rfl; exact rfl) | (apply OQ.fld; exact rfl; exact rfl; exact rfl; exact (by decide); exact rfl)) rfl ?_ | refine JC.seq ?_ | refine JC.region ?_ | refine JC.block ?_ | refine JC.skip ?_ | refine JC.exit ?_ | refine JL.nil ?_ | refine JQ.nil ?_ | refine JQ.nil_tail ?_ | refine JE.next ?_ | refine JE.blk_normal ?_ | refine JE.then_exit ?_ | refine JE.blk_hit ?_ | refine JE.blk_miss rfl ?_ | refine JE.then_ret ?_ | refine JE.blk_ret ?_ | refine JC.label ?_ | refine JL.gon rfl rfl ?_ | refine JQ.gon rfl rfl ?_ | refine JL.gskip rfl rfl rfl rfl ?_ | refine JQ.gskip rfl rfl rfl rfl ?_ | refine JL.gskipU rfl rfl rfl rfl ?_ | refine JQ.gskipU rfl rfl rfl rfl ?_)
  refine JL.callV (ι := Unit) (vs := [Pt j 0, U32 (gm bl + 1#32), .slice (some ⟨bl2, 0, none⟩) 1 1]) (fun _ => .tuple #[]) (fun _ => jnE j (rstJ h bl s.l) (rstD h bl s.l) []) goes_begin rfl rfl (jnE_wr _ _ _ _) (fun _ => jnE_wr _ _ _ _) (fun w' hw' hx' => (cB w' hw' hx').mono fun e w2 ⟨h1, h2⟩ => ⟨(), h1, h2⟩) fun _ => ?_
  repeat (first | refine JL.q (by first | (apply OQ.move; exact rfl) | (apply OQ.assign; exact rfl) | (apply OQ.nilc; exact rfl) | (apply OQ.len; exact rfl; exact rfl) | (apply OQ.addN; exact rfl; exact rfl; exact (by (try simp only []); omega)) | (apply OQ.subN; exact rfl; exact rfl; exact (by (try simp only []); omega); exact (by (try simp only []); omega)) | (apply OQ.lssN; exact rfl; exact rfl) | (apply OQ.gtrN; exact rfl; exact rfl) | (apply OQ.fld; exact rfl; exact rfl; exact rfl; exact (by decide); exact rfl)) rfl ?_ | refine JQ.q (by first | (apply OQ.move; exact rfl) | (apply OQ.assign; exact rfl) | (apply OQ.nilc; exact rfl) | (apply OQ.len; exact rfl; exact rfl) | (apply OQ.addN; exact rfl; exact rfl; exact (by (try simp only []); omega)) | (apply OQ.subN; exact rfl; exact rfl; exact (by (try simp only []); omega); exact (by (try simp only []); omega)) | (apply OQ.lssN; exact rfl; exact rfl) | (apply OQ.gtrN; exact rfl; exact rfl) | (apply OQ.fld; exact rfl; exact rfl; exact rfl; exact (by decide); exact rfl)) rfl ?_ | refine JC.seq ?_ | refine JC.region ?_ | refine JC.block ?_ | refine JC.skip ?_ | refine JC.exit ?_ | refine JL.nil ?_ | refine JQ.nil ?_ | refine JQ.nil_tail ?_ | refine JE.next ?_ | refine JE.blk_normal ?_ | refine JE.then_exit ?_ | refine JE.blk_hit ?_ | refine JE.blk_miss rfl ?_ | refine JE.then_ret ?_ | refine JE.blk_ret ?_ | refine JC.label ?_ | refine JL.gon rfl rfl ?_ | refine JQ.gon rfl rfl ?_ | refine JL.gskip rfl rfl rfl rfl ?_ | refine JQ.gskip rfl rfl rfl rfl ?_ | refine JL.gskipU rfl rfl rfl rfl ?_ | refine JQ.gskipU rfl rfl rfl rfl ?_)
  refine JC.ret ?_
  repeat (first | refine JL.q (by first | (apply OQ.move; exact rfl) | (apply OQ.assign; exact rfl) | (apply OQ.nilc; exact rfl) | (apply OQ.len; exact rfl; exact rfl) | (apply OQ.addN; exact rfl; exact rfl; exact (by (try simp only []); omega)) | (apply OQ.subN; exact rfl; exact rfl; exact (by (try simp only []); omega); exact (by (try simp only []); omega)) | (apply OQ.lssN; exact rfl; exact rfl) | (apply OQ.gtrN; exact rfl; exact rfl) | (apply OQ.fld; exact rfl; exact rfl; exact rfl; exact (by decide); exact rfl)) rfl ?_ | refine JQ.q (by first | (apply OQ.move; exact rfl) | (apply OQ.assign; exact rfl) | (apply OQ.nilc; exact rfl) | (apply OQ.len; exact rfl; exact rfl) | (apply OQ.addN; exact rfl; exact rfl; exact (by (try simp only []); omega)) | (apply OQ.subN; exact rfl; exact rfl; exact (by (try simp only []); omega); exact (by (try simp only []); omega)) | (apply OQ.lssN; exact rfl; exact rfl) | (apply OQ.gtrN; exact rfl; exact rfl) | (apply OQ.fld; exact rfl; exact rfl; exact rfl; exact (by decide); exact rfl)) rfl ?_ | refine JC.seq ?_ | refine JC.region ?_ | refine JC.block ?_ | refine JC.skip ?_ | refine JC.exit ?_ | refine JL.nil ?_ | refine JQ.nil ?_ | refine JQ.nil_tail ?_ | refine JE.next ?_ | refine JE.blk_normal ?_ | refine JE.then_exit ?_ | refine JE.blk_hit ?_ | refine JE.blk_miss rfl ?_ | refine JE.then_ret ?_ | refine JE.blk_ret ?_ | refine JC.label ?_ | refine JL.gon rfl rfl ?_ | refine JQ.gon rfl rfl ?_ | refine JL.gskip rfl rfl rfl rfl ?_ | refine JQ.gskip rfl rfl rfl rfl ?_ | refine JL.gskipU rfl rfl rfl rfl ?_ | refine JQ.gskipU rfl rfl rfl rfl ?_)
  exact JE.ret1 rfl (RV.tmp rfl) fun w' hw => ⟨rfl, hw.weak (less_pre _ _)⟩
end Go.Proofs.Ytopdkpeahhnihaa

/-
  Of no statement by itself: what holds of a journal and its disk between the calls, by definition.
  Conditions: each theorem's own.
-/
namespace Go.Proofs.Ytopdkpeahhnihaa
open Sl Dsk Jrn
theorem mx_toNat (a b : BitVec 32) : (mx a b).toNat = max a.toNat b.toNat := by
  unfold mx
  split <;> omega
/-- both ends of a block tell generations below a number -/
def Below (m : Nat) (b : Bk) : Prop := (markIn b).1.toNat < m ∧ (markIn (b.drop 54)).1.toNat < m
theorem gm_fold (m : Nat) : ∀ (bl : List Bk) (a : BitVec 32), a.toNat < m → (∀ b ∈ bl, Below m b) → (bl.foldl (fun m b => mx (mx m (markIn b).1) (markIn (b.drop 54)).1) a).toNat < m
  | [], a, h, _ => h
  | b :: bl, a, h, hb => by
    have h1 := hb b (by simp)
    refine gm_fold m bl _ ?_ fun x hx => hb x (by simp [hx])
    rw [mx_toNat, mx_toNat]
    have := h1.1
    have := h1.2
    omega
theorem gm_lt {m : Nat} {bl : List Bk} (h0 : 0 < m) (h : ∀ b ∈ bl, Below m b) : (gm bl).toNat < m := gm_fold m bl 0 h0 h
theorem gm_up : ∀ (bl : List Bk) (a : BitVec 32), a.toNat ≤ (bl.foldl (fun m b => mx (mx m (markIn b).1) (markIn (b.drop 54)).1) a).toNat ∧ ∀ b ∈ bl, Below ((bl.foldl (fun m b => mx (mx m (markIn b).1) (markIn (b.drop 54)).1) a).toNat + 1) b
  | [], a => ⟨Nat.le_refl _, nofun⟩
  | b :: bl, a => by
    have ⟨h1, h2⟩ := gm_up bl (mx (mx a (markIn b).1) (markIn (b.drop 54)).1)
    have hm := mx_toNat (mx a (markIn b).1) (markIn (b.drop 54)).1
    rw [mx_toNat a] at hm
    refine ⟨?_, fun x hx => ?_⟩
    · simp only [List.foldl_cons]
      omega
    · simp only [List.foldl_cons]
      rcases List.mem_cons.1 hx with rfl | hx
      · exact ⟨by omega, by omega⟩
      · exact h2 x hx
theorem gm_below {bl : List Bk} : ∀ b ∈ bl, Below ((gm bl).toNat + 1) b := (gm_up bl 0).2
theorem mk1_ok {g : BitVec 32} {r n i : Nat} (h : i < n) (hn : n ≤ 32768) : okM (mk1 g r n i) := by
  show (BitVec.ofNat 16 i).toNat < 32768
  rw [BitVec.toNat_ofNat]
  omega
theorem blk_mark {g : BitVec 32} {r : Nat} {rec : Bk} {i : Nat} (h : i < nb rec.length) (hn : nb rec.length ≤ 32768) : (markIn (blk g r rec i)).1 = g ∧ (markIn ((blk g r rec i).drop 54)).1 = g ∧ (blk g r rec i).length = 64 := by
  have hc : (chunk rec i).length ≤ 42 := by rw [Jrn.chunk_len]; omega
  have hk := mk1_ok (g := g) (r := r) h hn
  refine ⟨?_, ?_, block_len hc⟩
  · rw [show blk g r rec i = blockOf (mk1 g r (nb rec.length) i) (chunk rec i) from rfl, block_mark hk]; rfl
  · rw [show blk g r rec i = blockOf (mk1 g r (nb rec.length) i) (chunk rec i) from rfl, block_back hk hc]; rfl
theorem blks_mark {g : BitVec 32} {r : Nat} {rec : Bk} (hn : nb rec.length ≤ 32768) : ∀ b ∈ blks g r rec, (markIn b).1 = g ∧ (markIn (b.drop 54)).1 = g ∧ b.length = 64 := by
  intro b hb
  unfold blks at hb
  obtain ⟨i, hi, rfl⟩ := List.mem_map.1 hb
  exact blk_mark (List.mem_range.1 hi) hn
theorem allB_mark {g : BitVec 32} : ∀ (recs : List Bk) (n : Nat), room recs ≤ 32768 → ∀ b ∈ allB g n recs, (markIn b).1 = g ∧ (markIn (b.drop 54)).1 = g ∧ b.length = 64
  | [], _, _, b, hb => by simp [allB] at hb
  | r :: rs, n, h, b, hb => by
    rw [room_cons] at h
    rw [allB] at hb
    rcases List.mem_append.1 hb with hb | hb
    · exact blks_mark (by omega) b hb
    · exact allB_mark rs (n + 1) (by omega) b hb
theorem old_get {bl : List Bk} {i : Nat} (h : i < bl.length) : old bl i = bl[i] := by simp [old, List.getD_eq_getElem?_getD, h]
theorem old_putAt {bl : List Bk} {k : Nat} {l : List Bk} {i : Nat} (hk : k + l.length ≤ bl.length) (hi : i < bl.length) (ho : ¬ (k ≤ i ∧ i < k + l.length)) : old (putAt bl k l) i = old bl i := by
  have hl := putAt_len hk
  have h1 : (bl.take k ++ l).length = k + l.length := by rw [List.length_append, List.length_take]; omega
  rw [old_get (by omega), old_get hi]
  simp only [putAt]
  by_cases h : i < k
  · rw [List.getElem_append_left (by rw [h1]; omega), List.getElem_append_left (by rw [List.length_take]; omega), List.getElem_take]
  · rw [List.getElem_append_right (by rw [h1]; omega), List.getElem_drop]
    congr 1
    omega
theorem putAt_at {bl : List Bk} {k : Nat} {l : List Bk} (hk : k + l.length ≤ bl.length) : ((putAt bl k l).drop k).take l.length = l := by
  have h1 : (bl.take k).length = k := by rw [List.length_take]; omega
  unfold putAt
  rw [List.append_assoc, List.drop_left' h1, List.take_left' rfl]
theorem putAt_mem {bl : List Bk} {k : Nat} {l : List Bk} {P : Bk → Prop} (h : ∀ b ∈ bl, P b) (hl : ∀ b ∈ l, P b) : ∀ b ∈ putAt bl k l, P b := by
  intro b hb
  unfold putAt at hb
  rcases List.mem_append.1 hb with hb | hb
  · rcases List.mem_append.1 hb with hb | hb
    · exact h b (List.mem_of_mem_take hb)
    · exact hl b hb
  · exact h b (List.mem_of_mem_drop hb)
theorem DkOk.put {x : Dp} {bl : List Bk} {pd : List (Nat × Bk)} (h : DkOk x bl pd) {k : Nat} {l : List Bk} (hk : k + l.length ≤ bl.length) (hl : ∀ b ∈ l, b.length = 64) : DkOk (sync0 x) (putAt bl k l) [] where
  ok := ⟨putAt_mem h.ok.b hl, by simp⟩
  n0 := by rw [putAt_len hk]; exact h.n0
  n1 := by rw [putAt_len hk]; exact h.n1
  m := by simp
  a := fun _ => rfl
/-- what holds of a journal between calls -/
structure Jv (h : Hf) (bl : List Bk) (recs : List Bk) : Prop where
  n4 : 4 ≤ bl.length
  n5 : bl.length ≤ 65536
  n : h.size = bl.length / 2
  f : h.first = 0 ∨ h.first = h.size
  c : h.count = recs.length
  u : h.used = room recs
  r : room recs ≤ h.size
  ne : recs ≠ []
  at' : (bl.drop h.first).take (room recs) = allB h.g 0 recs
  o : ∀ i, i < bl.length → ¬ (h.first ≤ i ∧ i < h.first + room recs) → Below h.g.toNat (old bl i)
theorem room_pos {recs : List Bk} (h : recs ≠ []) : 0 < room recs := by
  cases recs with
  | nil => exact absurd rfl h
  | cons r rs => rw [room_cons]; have := nb_pos r.length; omega
namespace Jv
variable {h : Hf} {bl recs : List Bk}
theorem fs (v : Jv h bl recs) : h.first + h.size ≤ bl.length ∧ h.first ≤ h.size ∧ h.size + h.size ≤ bl.length ∧ h.size ≤ 32768 := by
  have := v.n; have := v.n5
  rcases v.f with e | e <;> omega
theorem inn (v : Jv h bl recs) {k : Nat} (hk : k < room recs) : old bl (h.first + k) ∈ allB h.g 0 recs := by
  have h1 := v.fs; have h2 := v.r
  rw [← v.at', old_get (by omega)]
  have : ((bl.drop h.first).take (room recs))[k]'(by rw [List.length_take, List.length_drop]; omega) = bl[h.first + k]'(by omega) := by simp
  rw [← this]
  exact List.getElem_mem _
theorem all (v : Jv h bl recs) : ∀ b ∈ bl, Below (h.g.toNat + 1) b := by
  intro b hb
  have h1 := v.fs; have h2 := v.r
  obtain ⟨i, hi, rfl⟩ := List.mem_iff_getElem.1 hb
  rw [← old_get hi]
  by_cases ho : h.first ≤ i ∧ i < h.first + room recs
  · have := allB_mark recs 0 (by omega) _ (v.inn (k := i - h.first) (by omega))
    rw [show h.first + (i - h.first) = i by omega] at this
    exact ⟨by rw [this.1]; omega, by rw [this.2.1]; omega⟩
  · have := v.o i hi ho
    exact ⟨Nat.lt_succ_of_lt this.1, Nat.lt_succ_of_lt this.2⟩
theorem gm_le (v : Jv h bl recs) : (gm bl).toNat ≤ h.g.toNat := Nat.le_of_lt_succ (gm_lt (Nat.succ_pos _) v.all)
theorem g0 (v : Jv h bl recs) : 0 < h.g.toNat := by
  have h1 := v.fs; have h2 := v.r; have h3 := v.n4; have h4 := v.n
  have := v.o (h.size - h.first) (by omega) (by rcases v.f with e | e <;> omega)
  have := this.1
  omega
theorem told (v : Jv h bl recs) : toldH bl h.first h.size h.g = recs := by
  have h1 := v.fs; have h2 := v.r
  have e : bsOf bl h.first h.size 0 = allB h.g 0 recs ++ ((bl.drop h.first).take h.size).drop (room recs) := by
    rw [← v.at']
    conv => lhs; rw [bsOf, List.drop_zero, ← List.take_append_drop (room recs) ((bl.drop h.first).take h.size), List.take_take, Nat.min_eq_left h2]
  unfold toldH
  rw [e]
  refine told_all (fun b hb => ?_) (by omega)
  obtain ⟨k, hk, rfl⟩ := List.mem_iff_getElem.1 hb
  have hk' := hk
  rw [List.length_drop, List.length_take, List.length_drop] at hk'
  have : (((bl.drop h.first).take h.size).drop (room recs))[k] = old bl (h.first + (room recs + k)) := by
    rw [old_get (by omega)]
    simp
  rw [this]
  intro hg
  have := (v.o (h.first + (room recs + k)) (by omega) (by omega)).1
  rw [hg] at this
  omega
theorem recH (v : Jv h bl recs) : recH bl h.first = recs ∧ genH bl h.first = h.g := by
  have h0 := v.inn (k := 0) (room_pos v.ne)
  have h1 := v.fs; have h2 := v.r
  rw [Nat.add_zero] at h0
  have hm := (allB_mark recs 0 (by omega) _ h0).1
  have e : Go.Proofs.Ytopdkpeahhnihaa.recH bl h.first = recs := by
    unfold Go.Proofs.Ytopdkpeahhnihaa.recH
    rw [hm, ← v.n]
    exact v.told
  refine ⟨e, ?_⟩
  unfold genH
  rw [e, hm, if_neg]
  intro h
  exact v.ne (List.length_eq_zero_iff.1 h)
theorem other (v : Jv h bl recs) : (genH bl (h.size - h.first)).toNat < h.g.toNat := by
  have h1 := v.fs; have h2 := v.r; have h3 := v.n4; have h4 := v.n
  have := (v.o (h.size - h.first) (by omega) (by rcases v.f with e | e <;> omega)).1
  have h5 := v.g0
  unfold genH
  split
  · exact h5
  · exact this
theorem cur (v : Jv h bl recs) : curF bl = (h.first, h.g, recs) := by
  have h5 := v.g0
  have ⟨e1, e2⟩ := v.recH
  have e3 := v.other
  have hn := v.n
  unfold curF
  rcases v.f with e | e
  · rw [e] at e1 e2 e3
    rw [e, ← hn]
    rw [Nat.sub_zero] at e3
    rw [e1, e2, if_pos ⟨by omega, by omega⟩]
  · rw [e] at e1 e2 e3
    rw [Nat.sub_self] at e3
    rw [e, ← hn, e1, e2, if_neg (fun hh => by have := hh.2; omega), if_pos (by omega)]
end Jv
/-- a journal that begins with a generation behind all others -/
theorem Jv.beg {x : Dp} {bl recs : List Bk} {first size : Nat} (n4 : 4 ≤ bl.length) (n5 : bl.length ≤ 65536) (n : size = bl.length / 2) (f : first = 0 ∨ first = size) (r : room recs ≤ size) (ne : recs ≠ []) (hg : gm bl ≠ 4294967295#32) :
    Jv ⟨x, first, size, gm bl + 1#32, recs.length, room recs⟩ (putAt bl first (allB (gm bl + 1#32) 0 recs)) recs := by
  have hs : first + size ≤ bl.length := by rcases f with e | e <;> omega
  have hk : first + (allB (gm bl + 1#32) 0 recs).length ≤ bl.length := by rw [allB_len]; omega
  have hl := putAt_len hk
  have hgl : (gm bl).toNat ≠ 4294967295 := fun e => hg (BitVec.eq_of_toNat_eq e)
  have hg1 : (gm bl + 1#32).toNat = (gm bl).toNat + 1 := by
    rw [BitVec.toNat_add, show (1#32).toNat = 1 from rfl]
    have := (gm bl).isLt
    omega
  refine ⟨by rw [hl]; exact n4, by rw [hl]; exact n5, by rw [hl]; exact n, f, rfl, rfl, r, ne, ?_, fun i hi ho => ?_⟩
  · have := putAt_at hk
    rw [allB_len] at this
    exact this
  · dsimp only at ho ⊢
    rw [hl] at hi
    rw [old_putAt hk hi (by rw [allB_len]; exact ho), hg1]
    exact gm_below _ (old_mem hi)
theorem Jv.app {h : Hf} {bl recs : List Bk} (v : Jv h bl recs) {l : Bk} (hf : nb l.length ≤ h.size - h.used) : Jv (appJ h l) (appD h bl l) (recs ++ [l]) := by
  have h1 := v.fs; have h2 := v.r; have h3 := v.u; have h4 := v.c; have hn := v.n
  have hr : room (recs ++ [l]) = room recs + nb l.length := by rw [room_append]; simp [room]
  have hk : h.first + h.used + (blks h.g h.count l).length ≤ bl.length := by rw [blks_len]; omega
  have hl := putAt_len hk
  refine ⟨by unfold appD; rw [hl]; exact v.n4, by unfold appD; rw [hl]; exact v.n5, by unfold appD; rw [hl]; exact hn, v.f, by show h.count + 1 = _; rw [h4, List.length_append]; rfl, by show h.used + nb l.length = _; rw [hr, h3], by rw [hr]; show _ ≤ h.size; omega, by simp, ?_, fun i hi ho => ?_⟩
  · show ((appD h bl l).drop h.first).take _ = allB h.g 0 _
    have e1 : bl.take (h.first + h.used) = bl.take h.first ++ allB h.g 0 recs := by rw [← v.at', h3, List.take_add]
    have e2 : (bl.take h.first).length = h.first := by rw [List.length_take]; omega
    unfold appD putAt
    rw [e1, List.append_assoc, List.append_assoc, List.drop_left' e2, ← List.append_assoc, allB_append, Nat.zero_add, ← h4, List.take_left' (by rw [List.length_append, allB_len, blks_len, hr])]
    congr 1
    rw [allB, allB, List.append_nil]
  · unfold appD at hi ⊢
    rw [hl] at hi
    rw [hr] at ho
    have ho' : ¬ (h.first ≤ i ∧ i < h.first + (room recs + nb l.length)) := ho
    rw [old_putAt hk hi (by rw [blks_len]; omega)]
    exact v.o i hi (by omega)
end Go.Proofs.Ytopdkpeahhnihaa

/-
  Of no statement by itself: rules for calls of a journal; the law's speaks, SameList.
  Conditions: each theorem's own.
-/
namespace Go.Proofs.Ytopdkpeahhnihaa
set_option maxRecDepth 10000
open Sl Dsk Jrn
section
variable {n : Nat} {w0 : World} {S : List Nat} {ops : Array Oper} {Q : Exit → Act → World → Prop} {l : List Oper} {E : Env} {M : List Ent}
variable {d : Nat} {ty : TypeId} {pos : String} {aft : Array Edge} {x1 x2 x3 : Operand} {ats : Array TypeId} {x : Dp} {bl recs : List Bk} {pd : List (Nat × Bk)} {j : Nat} {h : Hf} {s : Sl8}
theorem JL.jopen (hd : DkOk x bl pd) (hp : pd.length ≤ 900000) (hno : noOpen bl = 0) (e1 : ev E x1 = some (Pt x.p 0)) (hn : Nat.blt d n = true)
    (kk : ∀ j, JL Try.prog n w0 S ops Q l ((d, .tuple #[Pt j 0, N 0]) :: E) (jnE j (opnJ x bl) (opnD bl) [] ++ M)) : JL Try.prog n w0 S ops Q (⟨some d, .call ⟨.value (.func 36), #[x1], ats⟩, ty, pos, aft, none⟩ :: l) E (dkE x bl pd ++ M) :=
  JL.callV (ι := Nat) (xs := [x1]) (vs := [Pt x.p 0]) (fun j => .tuple #[Pt j 0, N 0]) (fun j => jnE j (opnJ x bl) (opnD bl) []) goes_jOpen (by simp [evs, e1]) hn (dkE_wr _ _ _) (fun _ => jnE_wr _ _ _ _)
    (fun w _ hw => Open_yes x bl pd hd hp hno w hw) kk
theorem JL.japp (v : Jv h bl recs) (hd : DkOk h.x bl pd) (hp : pd.length ≤ 900000) (hyes : nb s.l.length ≤ h.size - h.used) (hs : ∀ w, Holds w0 S (jnE j h bl pd ++ M) w → s.ok w ∧ Away s (keys (jnE j h bl pd))) (e1 : ev E x1 = some (Pt j 0)) (e2 : ev E x2 = some s.v) (hn : Nat.blt d n = true)
    (kk : JL Try.prog n w0 S ops Q l ((d, N 0) :: E) (jnE j (appJ h s.l) (appD h bl s.l) [] ++ M)) : JL Try.prog n w0 S ops Q (⟨some d, .call ⟨.value (.func 29), #[x1, x2], ats⟩, ty, pos, aft, none⟩ :: l) E (jnE j h bl pd ++ M) :=
  have h1 := v.fs; have h2 := v.u; have h3 := v.r; have h4 := v.c; have h5 := room_ge recs
  JL.callV (ι := Unit) (xs := [x1, x2]) (vs := [Pt j 0, s.v]) (fun _ => N 0) (fun _ => jnE j (appJ h s.l) (appD h bl s.l) []) goes_app (by simp [evs, e1, e2]) hn (jnE_wr _ _ _ _) (fun _ => jnE_wr _ _ _ _)
    (fun w h0 hw => (app_yes j h bl pd s hd h1.1 (by omega) hp (by omega) hyes w (hs w h0).1 (hs w h0).2 hw).mono fun e w' ⟨g1, g2⟩ => ⟨(), g1, g2⟩) fun _ => kk
theorem JL.jrst (v : Jv h bl recs) (hd : DkOk h.x bl pd) (hp : pd.length ≤ 900000) (hyes : ¬ noRst h bl s.l.length) (hs : ∀ w, Holds w0 S (jnE j h bl pd ++ M) w → s.ok w ∧ Away s (keys (jnE j h bl pd))) (e1 : ev E x1 = some (Pt j 0)) (e2 : ev E x2 = some s.v) (hn : Nat.blt d n = true)
    (kk : JL Try.prog n w0 S ops Q l ((d, N 0) :: E) (jnE j (rstJ h bl s.l) (rstD h bl s.l) [] ++ M)) : JL Try.prog n w0 S ops Q (⟨some d, .call ⟨.value (.func 32), #[x1, x2], ats⟩, ty, pos, aft, none⟩ :: l) E (jnE j h bl pd ++ M) :=
  have h1 := v.fs
  JL.callV (ι := Unit) (xs := [x1, x2]) (vs := [Pt j 0, s.v]) (fun _ => N 0) (fun _ => jnE j (rstJ h bl s.l) (rstD h bl s.l) []) goes_rst (by simp [evs, e1, e2]) hn (jnE_wr _ _ _ _) (fun _ => jnE_wr _ _ _ _)
    (fun w h0 hw => (rst_yes j h bl pd s hd h1.2.2.1 h1.2.1 hp hyes w (hs w h0).1 (hs w h0).2 hw).mono fun e w' ⟨g1, g2⟩ => ⟨(), g1, g2⟩) fun _ => kk
theorem JL.jrecs (v : Jv h bl recs) (hd : DkOk h.x bl pd) (e1 : ev E x1 = some (Pt j 0)) (hn : Nat.blt d n = true)
    (kk : ∀ z : GrOf recs h.size, JL Try.prog n w0 S ops Q l ((d, z.1.v) :: E) (z.1.E ++ (jnE j h bl pd ++ M))) : JL Try.prog n w0 S ops Q (⟨some d, .call ⟨.value (.func 26), #[x1], ats⟩, ty, pos, aft, none⟩ :: l) E (jnE j h bl pd ++ M) :=
  JL.callg (xs := [x1]) (ι := GrOf recs h.size) (vs := [Pt j 0]) (fun z => z.1.v) (fun z => z.1.E) goes_recs (by simp [evs, e1]) hn (fun z => z.1.wr)
    (fun w hw => by have := recs_any j h bl pd hd.ok hd.n1 v.fs.1 w (jnR_of hw); rwa [v.told] at this) kk
end
/-- what a journal is that is opened -/
theorem Jv.opn {x : Dp} {bl : List Bk} (hb : ∀ b ∈ bl, b.length = 64) (n5 : bl.length ≤ 65536) (hno : noOpen bl = 0) : Jv (opnJ x bl) (opnD bl) (curF bl).2.2 := by
  have h4 : ¬ bl.length < 4 := fun h => by unfold noOpen at hno; rw [if_pos h] at hno; cases hno
  have hg : ¬ gm bl = 4294967295#32 := fun h => by unfold noOpen at hno; rw [if_neg h4, if_pos h] at hno; cases hno
  have ⟨h1, h2, h3⟩ := curF_room (bl := bl) hb (by omega)
  have hf : bl.length / 2 - (curF bl).1 = 0 ∨ bl.length / 2 - (curF bl).1 = bl.length / 2 := by
    unfold curF
    split
    · right; rfl
    · split
      · left; exact Nat.sub_self _
      · left; exact Nat.sub_self _
  exact Jv.beg (x := sync0 x) (by omega) n5 rfl hf h1 (fun e => by rw [e] at h2; cases h2) hg
theorem Jv.no (h : Hf) (bl recs : List Bk) (v : Jv h bl recs) (hg : h.g.toNat < 4294967295) : noOpen bl = 0 := by
  have := v.gm_le
  have h4 := v.n4
  unfold noOpen
  rw [if_neg (by omega), if_neg (fun e => by rw [e] at this; rw [show (4294967295#32).toNat = 4294967295 from rfl] at this; omega)]
theorem gm_succ {bl : List Bk} {m : Nat} (h : (gm bl).toNat ≤ m) (hm : m < 4294967295) : (gm bl + 1#32).toNat ≤ m + 1 := by
  rw [BitVec.toNat_add, show (1#32).toNat = 1 from rfl]
  omega
theorem told_none {g : BitVec 32} {bs : List Bk} (h : ∀ b ∈ bs, wholeB b = false) : told g bs = [] := by
  unfold told toldN
  have : rd g 0 bs 0 [] = none := by
    cases bs with
    | nil => rfl
    | cons b bs => rw [rd, if_neg (fun hh => by rw [h b (by simp)] at hh; cases hh.1)]
  rw [this]
theorem zero_whole : wholeB zero = false := by kernel_rfl
theorem zero_below : Below 1 zero := ⟨by decide, by decide⟩
theorem newB_mem {n : Nat} : ∀ b ∈ newB n, b = zero := fun b hb => List.eq_of_mem_replicate hb
theorem newB_cur (n : Nat) : (curF (newB n)).2.2 = [[]] ∧ (gm (newB n)).toNat = 0 := by
  have h0 : ∀ f, genH (newB n) f = 0 := fun f => by
    unfold genH
    rw [if_pos]
    unfold recH toldH
    rw [told_none]
    · rfl
    · intro b hb
      unfold bsOf at hb
      rw [newB_mem b (List.mem_of_mem_drop (List.mem_of_mem_take (List.mem_of_mem_drop hb)))]
      exact zero_whole
  refine ⟨?_, ?_⟩
  · unfold curF
    rw [h0, h0, if_neg (by decide), if_neg (by decide)]
  · have := gm_lt (m := 1) (bl := newB n) (by decide) fun b hb => by rw [newB_mem b hb]; exact zero_below
    omega
theorem newB_no {n : Nat} (h : 4 ≤ n) : noOpen (newB n) = 0 := by
  have := (newB_cur n).2
  unfold noOpen
  rw [if_neg (by rw [newB_len]; omega), if_neg (fun e => by rw [e] at this; cases this)]
theorem DkOk.opn {x : Dp} {bl : List Bk} {pd : List (Nat × Bk)} (hd : DkOk x bl pd) (hno : noOpen bl = 0) : DkOk (opnJ x bl).x (opnD bl) [] := by
  have h4 : ¬ bl.length < 4 := fun h => by unfold noOpen at hno; rw [if_pos h] at hno; cases hno
  have ⟨h1, h2, h3⟩ := curF_room (bl := bl) hd.ok.b (by omega)
  have := hd.n1
  exact hd.put (by rw [allB_len]; omega) fun b hb => (allB_mark _ _ (by omega) b hb).2.2
theorem DkOk.app {h : Hf} {bl recs : List Bk} {pd : List (Nat × Bk)} (hd : DkOk h.x bl pd) (v : Jv h bl recs) {l : Bk} (hf : nb l.length ≤ h.size - h.used) : DkOk (appJ h l).x (appD h bl l) [] := by
  have h1 := v.fs; have h2 := v.r; have h3 := v.u
  exact hd.put (by rw [blks_len]; omega) fun b hb => (blks_mark (by omega) b hb).2.2
theorem DkOk.rst {h : Hf} {bl recs : List Bk} {pd : List (Nat × Bk)} (hd : DkOk h.x bl pd) (v : Jv h bl recs) {l : Bk} (hf : ¬ noRst h bl l.length) : DkOk (rstJ h bl l).x (rstD h bl l) [] := by
  have h1 := v.fs
  have hfit : nb l.length ≤ h.size := Nat.le_of_not_lt fun e => hf (.inl e)
  have hr : room [l] = nb l.length := by simp [room]
  exact hd.put (by rw [allB_len, hr]; omega) fun b hb => (allB_mark _ _ (by omega) b hb).2.2
theorem Jv.rst {h : Hf} {bl recs : List Bk} (v : Jv h bl recs) {l : Bk} (hf : ¬ noRst h bl l.length) : Jv (rstJ h bl l) (rstD h bl l) [l] := by
  have h1 := v.fs
  have hfit : nb l.length ≤ h.size := Nat.le_of_not_lt fun e => hf (.inl e)
  have hr : room [l] = nb l.length := by simp [room]
  exact Jv.beg (x := sync0 h.x) v.n4 v.n5 v.n (by show h.size - h.first = 0 ∨ h.size - h.first = h.size; rcases v.f with e | e <;> omega) (by rw [hr]; exact hfit) (by simp) (fun e => hf (.inr e))
theorem OQ.ptrNe {P : Program} {n : Nat} {E : Env} {C : World → Prop} {dst : Option Tmp} {t t' ty e : TypeId} {pos : String} {aft : Array Edge} {g : Option (Nat × Bool)} {x y : Operand} {a : Option Addr} (hu : P.underlying t = some (.pointer e)) (hx : ev E x = some (.pointer a)) (hy : ev E y = some (.pointer none)) :
    OQ P n E C ⟨dst, .binOp .neq t x y t', ty, pos, aft, g⟩ (.bool (!a.isNone)) :=
  OQ.run fun c ha w _ => by
    have h1 := ha.eval hx
    have h2 := ha.eval hy
    have h3 : ∀ w, (underlying t).run P w = .ok (.pointer e) w := run_underlying hu
    have h4 : (binOp .neq t (.pointer a) (.pointer none)).run P w = .ok (.bool (!a.isNone)) w := by
      show (do pure (.bool (!(← Op.equalIn (9999 + 1) t (.pointer a) (.pointer none)))) : Sem Value).run P w = _
      unfold Op.equalIn
      cases a <;> simp [Sem.run_bind, h3]
    simp [execOp, h1, h2, eqGuard, h4]
theorem goes_speaks15 : Goes Try.prog 22 := ⟨_, Try.func22, rfl, by kernel_rfl⟩
set_option maxHeartbeats 16000000 in
theorem speaks15_any (w : World) : Calls Try.prog 22 [].toArray w fun e w' => e = .returned (.bool true) ∧ Ext w w' := by
  refine enter (n := 46) Try.func22 rfl rfl rfl (Holds.start w []) ?_
  repeat (first | refine JL.q (by first | (apply OQ.move; exact rfl) | (apply OQ.assign; exact rfl) | (apply OQ.nilc; exact rfl) | (apply OQ.len; exact rfl; exact rfl) | (apply OQ.addN; exact rfl; exact rfl; exact (by (try simp only []); omega)) | (apply OQ.subN; exact rfl; exact rfl; exact (by (try simp only []); omega); exact (by (try simp only []); omega)) | (apply OQ.lssN; exact rfl; exact rfl) | (apply OQ.gtrN; exact rfl; exact rfl) | (apply OQ.fld; exact rfl; exact rfl; exact rfl; exact (by decide); exact rfl)) rfl ?_ | refine JC.seq ?_ | refine JC.region ?_ | refine JC.block ?_ | refine JC.skip ?_ | refine JC.exit ?_ | refine JL.nil ?_ | refine JE.next ?_ | refine JE.blk_normal ?_ | refine JE.then_exit ?_ | refine JE.blk_hit ?_ | refine JE.blk_miss rfl ?_ | refine JE.then_ret ?_ | refine JE.blk_ret ?_ | refine JC.label ?_ | refine JL.gon rfl rfl ?_ | refine JL.gskip rfl rfl rfl rfl ?_ | refine JL.gskipU rfl rfl rfl rfl ?_)
  refine JL.dnew (k := 4) (by decide) (by decide) rfl rfl fun x hx => ?_
  repeat (first | refine JL.q (by first | (apply OQ.extract; exact rfl; exact rfl) | (apply OQ.neB (a := 0) (b := 0) (c := true); exact rfl; exact rfl; exact rfl) | (apply OQ.ptrNil; exact Try.underlying24; exact rfl; exact rfl) | (apply OQ.pick_f; exact rfl; exact rfl) | (apply OQ.move; exact rfl) | (apply OQ.assign; exact rfl) | (apply OQ.nilc; exact rfl) | (apply OQ.len; exact rfl; exact rfl) | (apply OQ.addN; exact rfl; exact rfl; exact (by (try simp only []); omega)) | (apply OQ.subN; exact rfl; exact rfl; exact (by (try simp only []); omega); exact (by (try simp only []); omega)) | (apply OQ.lssN; exact rfl; exact rfl) | (apply OQ.gtrN; exact rfl; exact rfl) | (apply OQ.fld; exact rfl; exact rfl; exact rfl; exact (by decide); exact rfl)) rfl ?_ | refine JC.seq ?_ | refine JC.region ?_ | refine JC.block ?_ | refine JC.skip ?_ | refine JC.exit ?_ | refine JL.nil ?_ | refine JE.next ?_ | refine JE.blk_normal ?_ | refine JE.then_exit ?_ | refine JE.blk_hit ?_ | refine JE.blk_miss rfl ?_ | refine JE.then_ret ?_ | refine JE.blk_ret ?_ | refine JC.label ?_ | refine JL.gon rfl rfl ?_ | refine JL.gskip rfl rfl rfl rfl ?_ | refine JL.gskipU rfl rfl rfl rfl ?_)
  refine JC.cond_false rfl rfl ?_
  repeat (first | refine JL.q (by first | (apply OQ.move; exact rfl) | (apply OQ.assign; exact rfl) | (apply OQ.nilc; exact rfl) | (apply OQ.len; exact rfl; exact rfl) | (apply OQ.addN; exact rfl; exact rfl; exact (by (try simp only []); omega)) | (apply OQ.subN; exact rfl; exact rfl; exact (by (try simp only []); omega); exact (by (try simp only []); omega)) | (apply OQ.lssN; exact rfl; exact rfl) | (apply OQ.gtrN; exact rfl; exact rfl) | (apply OQ.fld; exact rfl; exact rfl; exact rfl; exact (by decide); exact rfl)) rfl ?_ | refine JC.seq ?_ | refine JC.region ?_ | refine JC.block ?_ | refine JC.skip ?_ | refine JC.exit ?_ | refine JL.nil ?_ | refine JE.next ?_ | refine JE.blk_normal ?_ | refine JE.then_exit ?_ | refine JE.blk_hit ?_ | refine JE.blk_miss rfl ?_ | refine JE.then_ret ?_ | refine JE.blk_ret ?_ | refine JC.label ?_ | refine JL.gon rfl rfl ?_ | refine JL.gskip rfl rfl rfl rfl ?_ | refine JL.gskipU rfl rfl rfl rfl ?_)
  have hno : noOpen (newB 4) = 0 := newB_no (by decide)
  have hcu := newB_cur 4
  have v := Jv.opn (x := x) hx.ok.b (by rw [newB_len]; decide) hno
  have hd := hx.opn hno
  have hsz : (opnJ x (newB 4)).size = 2 := rfl
  rw [hcu.1] at v
  have hu : (opnJ x (newB 4)).used = 1 := by rw [v.u]; rfl
  refine JL.jopen hx (by decide) hno rfl rfl fun j => ?_
  generalize opnJ x (newB 4) = h at v hd hsz hu ⊢
  generalize opnD (newB 4) = bl at v hd ⊢
  repeat (first | refine JL.q (by first | (apply OQ.extract; exact rfl; exact rfl) | (apply OQ.eqB (a := 0) (b := 0) (c := true); exact rfl; exact rfl; exact rfl) | (apply OQ.ptrNe; exact Try.underlying52; exact rfl; exact rfl) | (apply OQ.pick_t; exact rfl; exact rfl) | (apply OQ.move; exact rfl) | (apply OQ.assign; exact rfl) | (apply OQ.nilc; exact rfl) | (apply OQ.len; exact rfl; exact rfl) | (apply OQ.addN; exact rfl; exact rfl; exact (by (try simp only []); omega)) | (apply OQ.subN; exact rfl; exact rfl; exact (by (try simp only []); omega); exact (by (try simp only []); omega)) | (apply OQ.lssN; exact rfl; exact rfl) | (apply OQ.gtrN; exact rfl; exact rfl) | (apply OQ.fld; exact rfl; exact rfl; exact rfl; exact (by decide); exact rfl)) rfl ?_ | refine JC.seq ?_ | refine JC.region ?_ | refine JC.block ?_ | refine JC.skip ?_ | refine JC.exit ?_ | refine JL.nil ?_ | refine JE.next ?_ | refine JE.blk_normal ?_ | refine JE.then_exit ?_ | refine JE.blk_hit ?_ | refine JE.blk_miss rfl ?_ | refine JE.then_ret ?_ | refine JE.blk_ret ?_ | refine JC.label ?_ | refine JL.gon rfl rfl ?_ | refine JL.gskip rfl rfl rfl rfl ?_ | refine JL.gskipU rfl rfl rfl rfl ?_)
  refine JL.jrecs v hd rfl rfl fun z => ?_
  obtain ⟨⟨q1, rs1, hq1, hr1⟩, hz1, hz1n⟩ := z
  have hl1 : rs1.length = 1 := by have := congrArg List.length hz1; rw [Gr.l, List.length_map] at this; exact this
  have hq0 : q1 = none → rs1.length = 0 := fun e => by rw [hq1 e]; rfl
  dsimp only [Gr.v]
  repeat (first | refine JL.q (by first | (apply OQ.lenV (q := q1) (k := rs1.length); exact Try.underlying57; exact hq0; exact rfl) | (apply OQ.eqB (a := (rs1.length : Int)) (b := 1) (c := true); exact rfl; exact rfl; exact (decide_eq_true (by omega))) | (apply OQ.pick_t; exact rfl; exact rfl) | (apply OQ.move; exact rfl) | (apply OQ.assign; exact rfl) | (apply OQ.nilc; exact rfl) | (apply OQ.len; exact rfl; exact rfl) | (apply OQ.addN; exact rfl; exact rfl; exact (by (try simp only []); omega)) | (apply OQ.subN; exact rfl; exact rfl; exact (by (try simp only []); omega); exact (by (try simp only []); omega)) | (apply OQ.lssN; exact rfl; exact rfl) | (apply OQ.gtrN; exact rfl; exact rfl) | (apply OQ.fld; exact rfl; exact rfl; exact rfl; exact (by decide); exact rfl)) rfl ?_ | refine JC.seq ?_ | refine JC.region ?_ | refine JC.block ?_ | refine JC.skip ?_ | refine JC.exit ?_ | refine JL.nil ?_ | refine JE.next ?_ | refine JE.blk_normal ?_ | refine JE.then_exit ?_ | refine JE.blk_hit ?_ | refine JE.blk_miss rfl ?_ | refine JE.then_ret ?_ | refine JE.blk_ret ?_ | refine JC.label ?_ | refine JL.gon rfl rfl ?_ | refine JL.gskip rfl rfl rfl rfl ?_ | refine JL.gskipU rfl rfl rfl rfl ?_)
  refine JL.perm (M' := jnE j h bl [] ++ ((Gr.mk q1 rs1 hq1 hr1).E ++ [])) ?_ (by exact List.perm_append_comm_assoc _ _ _)
  refine JL.jrecs v hd rfl rfl fun z => ?_
  obtain ⟨⟨q2, rs2, hq2, hr2⟩, hz2, hz2n⟩ := z
  obtain ⟨p, s0, rfl, rfl⟩ : ∃ p s0, q2 = some p ∧ rs2 = [s0] := by
    have hl2 : rs2.length = 1 := by have := congrArg List.length hz2; rw [Gr.l, List.length_map] at this; exact this
    cases q2 with
    | none => rw [hq2 rfl] at hl2; cases hl2
    | some p =>
      cases rs2 with
      | nil => cases hl2
      | cons a l =>
        cases l with
        | nil => exact ⟨p, a, rfl, rfl⟩
        | cons c l => simp at hl2
  have hs0 : s0.l = [] := by have := hz2; simpa [Gr.l] using this
  dsimp only [Gr.v, Gr.E]
  repeat (first | refine JL.q (by first | (apply OQ.idxS1 (i := 0) (b := p.1) (j := 0) (len := 1) (cap := p.2); exact Try.underlying57; exact sleJ; exact rfl; exact rfl; exact (by decide)) | (apply OQ.load; exact slCj; exact rfl; exact .here; exact (Own.cell (v := s0.v) rfl)) | (apply OQ.len (k := s0.l.length) (ad := s0.ad) (cap := s0.cap); exact Try.underlying33; exact rfl) | (apply OQ.eqB (a := (s0.l.length : Int)) (b := 0) (c := true); exact rfl; exact rfl; exact (by rw [hs0]; rfl)) | (apply OQ.pick_t; exact rfl; exact rfl) | (apply OQ.move; exact rfl) | (apply OQ.assign; exact rfl) | (apply OQ.nilc; exact rfl) | (apply OQ.len; exact rfl; exact rfl) | (apply OQ.addN; exact rfl; exact rfl; exact (by (try simp only []); omega)) | (apply OQ.subN; exact rfl; exact rfl; exact (by (try simp only []); omega); exact (by (try simp only []); omega)) | (apply OQ.lssN; exact rfl; exact rfl) | (apply OQ.gtrN; exact rfl; exact rfl) | (apply OQ.fld; exact rfl; exact rfl; exact rfl; exact (by decide); exact rfl)) rfl ?_ | refine JC.seq ?_ | refine JC.region ?_ | refine JC.block ?_ | refine JC.skip ?_ | refine JC.exit ?_ | refine JL.nil ?_ | refine JE.next ?_ | refine JE.blk_normal ?_ | refine JE.then_exit ?_ | refine JE.blk_hit ?_ | refine JE.blk_miss rfl ?_ | refine JE.then_ret ?_ | refine JE.blk_ret ?_ | refine JC.label ?_ | refine JL.gon rfl rfl ?_ | refine JL.gskip rfl rfl rfl rfl ?_ | refine JL.gskipU rfl rfl rfl rfl ?_)
  refine JL.lit1 (v := U8 1) Try.underlying33 u8e rfl rfl rfl rfl fun b5 _ => ?_
  refine JL.perm (M' := jnE j h bl [] ++ ((⟨b5, Row 5 [U8 1], true⟩ :: (accE 33 (some p) ([s0].map Sl8.v) ++ flatE [s0])) ++ ((accE 33 q1 (rs1.map Sl8.v) ++ flatE rs1) ++ []))) ?_ (by exact List.perm_append_comm_assoc (_ :: _) _ _)
  repeat (first | refine JL.q (by first | (apply OQ.move; exact rfl) | (apply OQ.assign; exact rfl) | (apply OQ.nilc; exact rfl) | (apply OQ.len; exact rfl; exact rfl) | (apply OQ.addN; exact rfl; exact rfl; exact (by (try simp only []); omega)) | (apply OQ.subN; exact rfl; exact rfl; exact (by (try simp only []); omega); exact (by (try simp only []); omega)) | (apply OQ.lssN; exact rfl; exact rfl) | (apply OQ.gtrN; exact rfl; exact rfl) | (apply OQ.fld; exact rfl; exact rfl; exact rfl; exact (by decide); exact rfl)) rfl ?_ | refine JC.seq ?_ | refine JC.region ?_ | refine JC.block ?_ | refine JC.skip ?_ | refine JC.exit ?_ | refine JL.nil ?_ | refine JE.next ?_ | refine JE.blk_normal ?_ | refine JE.then_exit ?_ | refine JE.blk_hit ?_ | refine JE.blk_miss rfl ?_ | refine JE.then_ret ?_ | refine JE.blk_ret ?_ | refine JC.label ?_ | refine JL.gon rfl rfl ?_ | refine JL.gskip rfl rfl rfl rfl ?_ | refine JL.gskipU rfl rfl rfl rfl ?_)
  refine JL.japp (s := ⟨some ⟨b5, 0, none⟩, 1, [1]⟩) v hd (by decide) (by rw [hsz, hu]; show nb 1 ≤ 2 - 1; decide) (fun w' hw' => ⟨row_ok hw' (hasR (N := jnE j h bl []) .here) rfl (by decide), fun _ a ha => by cases ha; exact away_has (b := b5) hw' .here⟩) rfl rfl rfl ?_
  repeat (first | refine JL.q (by first | (apply OQ.eqB (a := 0) (b := 0) (c := true); exact rfl; exact rfl; exact rfl) | (apply OQ.pick_t; exact rfl; exact rfl) | (apply OQ.move; exact rfl) | (apply OQ.assign; exact rfl) | (apply OQ.nilc; exact rfl) | (apply OQ.len; exact rfl; exact rfl) | (apply OQ.addN; exact rfl; exact rfl; exact (by (try simp only []); omega)) | (apply OQ.subN; exact rfl; exact rfl; exact (by (try simp only []); omega); exact (by (try simp only []); omega)) | (apply OQ.lssN; exact rfl; exact rfl) | (apply OQ.gtrN; exact rfl; exact rfl) | (apply OQ.fld; exact rfl; exact rfl; exact rfl; exact (by decide); exact rfl)) rfl ?_ | refine JC.seq ?_ | refine JC.region ?_ | refine JC.block ?_ | refine JC.skip ?_ | refine JC.exit ?_ | refine JL.nil ?_ | refine JE.next ?_ | refine JE.blk_normal ?_ | refine JE.then_exit ?_ | refine JE.blk_hit ?_ | refine JE.blk_miss rfl ?_ | refine JE.then_ret ?_ | refine JE.blk_ret ?_ | refine JC.label ?_ | refine JL.gon rfl rfl ?_ | refine JL.gskip rfl rfl rfl rfl ?_ | refine JL.gskipU rfl rfl rfl rfl ?_)
  exact JC.ret (JE.ret1 rfl (RV.tmp rfl) fun w' hw => ⟨rfl, hw.chg⟩)
theorem goes_samel : Goes Try.prog 31 := ⟨_, Try.func31, rfl, by kernel_rfl⟩
set_option maxHeartbeats 16000000 in
theorem samel_any (a b : SlL) (w : World) (ha : a.ok w) (hb : b.ok w) (hn : a.rs.length ≤ 1000000) (hl : ∀ y ∈ a.rs, y.l.length < 4611686018427387904) : Calls Try.prog 31 [a.v, b.v].toArray w fun e w' => e = .returned (.bool (decide (a.rs.map Sl8.l = b.rs.map Sl8.l))) ∧ Ext w w' := by
  refine enter (n := 27) Try.func31 rfl rfl rfl (Holds.start w []) ?_
  cases g1 : decide ((a.rs.length : Int) = (b.rs.length : Int))
  case false =>
    have hne : ¬ a.rs.map Sl8.l = b.rs.map Sl8.l := fun e => of_decide_eq_false g1 (by have := congrArg List.length e; rw [List.length_map, List.length_map] at this; omega)
    rw [decide_eq_false hne]
    repeat (first | refine JL.q (by first | (apply OQ.len (k := a.rs.length) (ad := a.ad) (cap := a.cap); exact Try.underlying57; exact rfl) | (apply OQ.len (k := b.rs.length) (ad := b.ad) (cap := b.cap); exact Try.underlying57; exact rfl) | (apply OQ.neB; exact rfl; exact rfl; exact g1) | (apply OQ.move; exact rfl) | (apply OQ.assign; exact rfl) | (apply OQ.nilc; exact rfl) | (apply OQ.len; exact rfl; exact rfl) | (apply OQ.addN; exact rfl; exact rfl; exact (by (try simp only []); omega)) | (apply OQ.subN; exact rfl; exact rfl; exact (by (try simp only []); omega); exact (by (try simp only []); omega)) | (apply OQ.lssN; exact rfl; exact rfl) | (apply OQ.gtrN; exact rfl; exact rfl) | (apply OQ.fld; exact rfl; exact rfl; exact rfl; exact (by decide); exact rfl)) rfl ?_ | refine JC.seq ?_ | refine JC.region ?_ | refine JC.block ?_ | refine JC.skip ?_ | refine JC.exit ?_ | refine JL.nil ?_ | refine JE.next ?_ | refine JE.blk_normal ?_ | refine JE.then_exit ?_ | refine JE.blk_hit ?_ | refine JE.blk_miss rfl ?_ | refine JE.then_ret ?_ | refine JE.blk_ret ?_ | refine JC.label ?_ | refine JL.gon rfl rfl ?_ | refine JL.gskip rfl rfl rfl rfl ?_ | refine JL.gskipU rfl rfl rfl rfl ?_)
    refine JC.cond_true rfl rfl ?_
    repeat (first | refine JL.q (by first | (apply OQ.move; exact rfl) | (apply OQ.assign; exact rfl) | (apply OQ.nilc; exact rfl) | (apply OQ.len; exact rfl; exact rfl) | (apply OQ.addN; exact rfl; exact rfl; exact (by (try simp only []); omega)) | (apply OQ.subN; exact rfl; exact rfl; exact (by (try simp only []); omega); exact (by (try simp only []); omega)) | (apply OQ.lssN; exact rfl; exact rfl) | (apply OQ.gtrN; exact rfl; exact rfl) | (apply OQ.fld; exact rfl; exact rfl; exact rfl; exact (by decide); exact rfl)) rfl ?_ | refine JC.seq ?_ | refine JC.region ?_ | refine JC.block ?_ | refine JC.skip ?_ | refine JC.exit ?_ | refine JL.nil ?_ | refine JE.next ?_ | refine JE.blk_normal ?_ | refine JE.then_exit ?_ | refine JE.blk_hit ?_ | refine JE.blk_miss rfl ?_ | refine JE.then_ret ?_ | refine JE.blk_ret ?_ | refine JC.label ?_ | refine JL.gon rfl rfl ?_ | refine JL.gskip rfl rfl rfl rfl ?_ | refine JL.gskipU rfl rfl rfl rfl ?_)
    refine JC.ret ?_
    repeat (first | refine JL.q (by first | (apply OQ.move; exact rfl) | (apply OQ.assign; exact rfl) | (apply OQ.nilc; exact rfl) | (apply OQ.len; exact rfl; exact rfl) | (apply OQ.addN; exact rfl; exact rfl; exact (by (try simp only []); omega)) | (apply OQ.subN; exact rfl; exact rfl; exact (by (try simp only []); omega); exact (by (try simp only []); omega)) | (apply OQ.lssN; exact rfl; exact rfl) | (apply OQ.gtrN; exact rfl; exact rfl) | (apply OQ.fld; exact rfl; exact rfl; exact rfl; exact (by decide); exact rfl)) rfl ?_ | refine JC.seq ?_ | refine JC.region ?_ | refine JC.block ?_ | refine JC.skip ?_ | refine JC.exit ?_ | refine JL.nil ?_ | refine JE.next ?_ | refine JE.blk_normal ?_ | refine JE.then_exit ?_ | refine JE.blk_hit ?_ | refine JE.blk_miss rfl ?_ | refine JE.then_ret ?_ | refine JE.blk_ret ?_ | refine JC.label ?_ | refine JL.gon rfl rfl ?_ | refine JL.gskip rfl rfl rfl rfl ?_ | refine JL.gskipU rfl rfl rfl rfl ?_)
    exact JE.ret1 rfl (RV.tmp rfl) fun w' hw => ⟨rfl, hw.chg⟩
  have hab : a.rs.length = b.rs.length := by have := of_decide_eq_true g1; omega
  repeat (first | refine JL.q (by first | (apply OQ.len (k := a.rs.length) (ad := a.ad) (cap := a.cap); exact Try.underlying57; exact rfl) | (apply OQ.len (k := b.rs.length) (ad := b.ad) (cap := b.cap); exact Try.underlying57; exact rfl) | (apply OQ.neB; exact rfl; exact rfl; exact g1) | (apply OQ.move; exact rfl) | (apply OQ.assign; exact rfl) | (apply OQ.nilc; exact rfl) | (apply OQ.len; exact rfl; exact rfl) | (apply OQ.addN; exact rfl; exact rfl; exact (by (try simp only []); omega)) | (apply OQ.subN; exact rfl; exact rfl; exact (by (try simp only []); omega); exact (by (try simp only []); omega)) | (apply OQ.lssN; exact rfl; exact rfl) | (apply OQ.gtrN; exact rfl; exact rfl) | (apply OQ.fld; exact rfl; exact rfl; exact rfl; exact (by decide); exact rfl)) rfl ?_ | refine JC.seq ?_ | refine JC.region ?_ | refine JC.block ?_ | refine JC.skip ?_ | refine JC.exit ?_ | refine JL.nil ?_ | refine JE.next ?_ | refine JE.blk_normal ?_ | refine JE.then_exit ?_ | refine JE.blk_hit ?_ | refine JE.blk_miss rfl ?_ | refine JE.then_ret ?_ | refine JE.blk_ret ?_ | refine JC.label ?_ | refine JL.gon rfl rfl ?_ | refine JL.gskip rfl rfl rfl rfl ?_ | refine JL.gskipU rfl rfl rfl rfl ?_)
  refine JC.cond_false rfl rfl ?_
  repeat (first | refine JL.q (by first | (apply OQ.move; exact rfl) | (apply OQ.assign; exact rfl) | (apply OQ.nilc; exact rfl) | (apply OQ.len; exact rfl; exact rfl) | (apply OQ.addN; exact rfl; exact rfl; exact (by (try simp only []); omega)) | (apply OQ.subN; exact rfl; exact rfl; exact (by (try simp only []); omega); exact (by (try simp only []); omega)) | (apply OQ.lssN; exact rfl; exact rfl) | (apply OQ.gtrN; exact rfl; exact rfl) | (apply OQ.fld; exact rfl; exact rfl; exact rfl; exact (by decide); exact rfl)) rfl ?_ | refine JC.seq ?_ | refine JC.region ?_ | refine JC.block ?_ | refine JC.skip ?_ | refine JC.exit ?_ | refine JL.nil ?_ | refine JE.next ?_ | refine JE.blk_normal ?_ | refine JE.then_exit ?_ | refine JE.blk_hit ?_ | refine JE.blk_miss rfl ?_ | refine JE.then_ret ?_ | refine JE.blk_ret ?_ | refine JC.label ?_ | refine JL.gon rfl rfl ?_ | refine JL.gskip rfl rfl rfl rfl ?_ | refine JL.gskipU rfl rfl rfl rfl ?_)
  refine JC.loop (fun i : Nat => [(0, a.v), (1, b.v), (5, N i)]) (fun _ => []) (fun i => a.rs.length - i) (fun i => i ≤ a.rs.length ∧ (a.rs.map Sl8.l).take i = (b.rs.map Sl8.l).take i) 0 ⟨Nat.zero_le _, rfl⟩ (by repeat (first | exact SubE.nil | refine SubE.cons _ _ _ rfl ?_)) (Less.refl _) ?_
  rintro i ⟨hi, ht⟩
  repeat (first | refine JL.q (by first | (apply OQ.len (k := a.rs.length) (ad := a.ad) (cap := a.cap); exact Try.underlying57; exact rfl) | (apply OQ.move; exact rfl) | (apply OQ.assign; exact rfl) | (apply OQ.nilc; exact rfl) | (apply OQ.len; exact rfl; exact rfl) | (apply OQ.addN; exact rfl; exact rfl; exact (by (try simp only []); omega)) | (apply OQ.subN; exact rfl; exact rfl; exact (by (try simp only []); omega); exact (by (try simp only []); omega)) | (apply OQ.lssN; exact rfl; exact rfl) | (apply OQ.gtrN; exact rfl; exact rfl) | (apply OQ.fld; exact rfl; exact rfl; exact rfl; exact (by decide); exact rfl)) rfl ?_ | refine JC.seq ?_ | refine JC.region ?_ | refine JC.block ?_ | refine JC.skip ?_ | refine JC.exit ?_ | refine JL.nil ?_ | refine JE.next ?_ | refine JE.blk_normal ?_ | refine JE.then_exit ?_ | refine JE.blk_hit ?_ | refine JE.blk_miss rfl ?_ | refine JE.then_ret ?_ | refine JE.blk_ret ?_ | refine JC.label ?_ | refine JL.gon rfl rfl ?_ | refine JL.gskip rfl rfl rfl rfl ?_ | refine JL.gskipU rfl rfl rfl rfl ?_)
  refine JC.cond rfl (fun hc => ?_) (fun hc => ?_)
  · have hi' : i < a.rs.length := by have := of_decide_eq_true hc; omega
    clear hc
    obtain ⟨ba, ja, ea, la, ca⟩ := slLj_at ha (by omega)
    obtain ⟨bb, jb, eb, lb, cb⟩ := slLj_at hb (by omega)
    have cai := ca i hi'
    have cbi := cb i (by omega)
    have oka := ha.all _ (getD_mem' hi')
    have okb := hb.all _ (getD_mem' (show i < b.rs.length by omega))
    have hla := hl _ (getD_mem' hi')
    have eqi : (a.rs.map Sl8.l).take (i + 1) = (a.rs.map Sl8.l).take i ++ [(a.rs.getD i nilS).l] := by
      rw [List.take_add_one]; simp [List.getD_eq_getElem?_getD, hi']
    have eqj : (b.rs.map Sl8.l).take (i + 1) = (b.rs.map Sl8.l).take i ++ [(b.rs.getD i nilS).l] := by
      rw [List.take_add_one]; simp [List.getD_eq_getElem?_getD, show i < b.rs.length by omega]
    generalize a.rs.getD i nilS = sa at cai oka hla eqi
    generalize b.rs.getD i nilS = sb at cbi okb eqj
    have hva : a.v = .slice (some ⟨ba, ja, none⟩) a.rs.length a.cap := by rw [← ea]; rfl
    have hvb : b.v = .slice (some ⟨bb, jb, none⟩) b.rs.length b.cap := by rw [← eb]; rfl
    rw [hva, hvb]
    repeat (first | refine JL.q (by first | (apply OQ.move; exact rfl) | (apply OQ.assign; exact rfl) | (apply OQ.nilc; exact rfl) | (apply OQ.len; exact rfl; exact rfl) | (apply OQ.addN; exact rfl; exact rfl; exact (by (try simp only []); omega)) | (apply OQ.subN; exact rfl; exact rfl; exact (by (try simp only []); omega); exact (by (try simp only []); omega)) | (apply OQ.lssN; exact rfl; exact rfl) | (apply OQ.gtrN; exact rfl; exact rfl) | (apply OQ.fld; exact rfl; exact rfl; exact rfl; exact (by decide); exact rfl)) rfl ?_ | refine JC.seq ?_ | refine JC.region ?_ | refine JC.block ?_ | refine JC.skip ?_ | refine JC.exit ?_ | refine JL.nil ?_ | refine JE.next ?_ | refine JE.blk_normal ?_ | refine JE.then_exit ?_ | refine JE.blk_hit ?_ | refine JE.blk_miss rfl ?_ | refine JE.then_ret ?_ | refine JE.blk_ret ?_ | refine JC.label ?_ | refine JL.gon rfl rfl ?_ | refine JL.gskip rfl rfl rfl rfl ?_ | refine JL.gskipU rfl rfl rfl rfl ?_)
    refine JC.quiet mixT (by kernel_rfl) ?_
    repeat (first | refine JL.q (by first | (apply OQ.idxS1 (i := i) (b := ba) (j := ja); exact Try.underlying57; exact sleJ; exact rfl; exact rfl; exact hi') | (apply OQ.idxS1 (i := i) (b := bb) (j := jb); exact Try.underlying57; exact sleJ; exact rfl; exact rfl; exact (show i < b.rs.length by omega)) | (apply OQ.load_old; exact slCj; exact rfl; exact la; exact (by simp); exact cai) | (apply OQ.load_old; exact slCj; exact rfl; exact lb; exact (by simp); exact cbi) | (apply OQ.callx (vs := [sa.v, sb.v]); exact goes_same; exact rfl; exact (fun w' hw' => same_any sa sb w' (oka.holds hw' rfl) (okb.holds hw' rfl) hla)) | (apply OQ.not; exact rfl) | (apply OQ.move; exact rfl) | (apply OQ.assign; exact rfl) | (apply OQ.nilc; exact rfl) | (apply OQ.len; exact rfl; exact rfl) | (apply OQ.addN; exact rfl; exact rfl; exact (by (try simp only []); omega)) | (apply OQ.subN; exact rfl; exact rfl; exact (by (try simp only []); omega); exact (by (try simp only []); omega)) | (apply OQ.lssN; exact rfl; exact rfl) | (apply OQ.gtrN; exact rfl; exact rfl) | (apply OQ.fld; exact rfl; exact rfl; exact rfl; exact (by decide); exact rfl)) rfl ?_ | refine JQ.q (by first | (apply OQ.idxS1 (i := i) (b := ba) (j := ja); exact Try.underlying57; exact sleJ; exact rfl; exact rfl; exact hi') | (apply OQ.idxS1 (i := i) (b := bb) (j := jb); exact Try.underlying57; exact sleJ; exact rfl; exact rfl; exact (show i < b.rs.length by omega)) | (apply OQ.load_old; exact slCj; exact rfl; exact la; exact (by simp); exact cai) | (apply OQ.load_old; exact slCj; exact rfl; exact lb; exact (by simp); exact cbi) | (apply OQ.callx (vs := [sa.v, sb.v]); exact goes_same; exact rfl; exact (fun w' hw' => same_any sa sb w' (oka.holds hw' rfl) (okb.holds hw' rfl) hla)) | (apply OQ.not; exact rfl) | (apply OQ.move; exact rfl) | (apply OQ.assign; exact rfl) | (apply OQ.nilc; exact rfl) | (apply OQ.len; exact rfl; exact rfl) | (apply OQ.addN; exact rfl; exact rfl; exact (by (try simp only []); omega)) | (apply OQ.subN; exact rfl; exact rfl; exact (by (try simp only []); omega); exact (by (try simp only []); omega)) | (apply OQ.lssN; exact rfl; exact rfl) | (apply OQ.gtrN; exact rfl; exact rfl) | (apply OQ.fld; exact rfl; exact rfl; exact rfl; exact (by decide); exact rfl)) rfl ?_ | refine JC.seq ?_ | refine JC.region ?_ | refine JC.block ?_ | refine JC.skip ?_ | refine JC.exit ?_ | refine JL.nil ?_ | refine JQ.nil ?_ | refine JQ.nil_tail ?_ | refine JE.next ?_ | refine JE.blk_normal ?_ | refine JE.then_exit ?_ | refine JE.blk_hit ?_ | refine JE.blk_miss rfl ?_ | refine JE.then_ret ?_ | refine JE.blk_ret ?_ | refine JC.label ?_ | refine JL.gon rfl rfl ?_ | refine JQ.gon rfl rfl ?_ | refine JL.gskip rfl rfl rfl rfl ?_ | refine JQ.gskip rfl rfl rfl rfl ?_ | refine JL.gskipU rfl rfl rfl rfl ?_ | refine JQ.gskipU rfl rfl rfl rfl ?_)
    cases g2 : decide (sa.l = sb.l)
    case false =>
      refine JC.cond_true rfl rfl ?_
      have hne : ¬ a.rs.map Sl8.l = b.rs.map Sl8.l := fun e => by
        rw [e, eqj] at eqi
        exact of_decide_eq_false g2 (by simpa using (List.append_cancel_left eqi).symm)
      rw [decide_eq_false hne]
      repeat (first | refine JL.q (by first | (apply OQ.move; exact rfl) | (apply OQ.assign; exact rfl) | (apply OQ.nilc; exact rfl) | (apply OQ.len; exact rfl; exact rfl) | (apply OQ.addN; exact rfl; exact rfl; exact (by (try simp only []); omega)) | (apply OQ.subN; exact rfl; exact rfl; exact (by (try simp only []); omega); exact (by (try simp only []); omega)) | (apply OQ.lssN; exact rfl; exact rfl) | (apply OQ.gtrN; exact rfl; exact rfl) | (apply OQ.fld; exact rfl; exact rfl; exact rfl; exact (by decide); exact rfl)) rfl ?_ | refine JQ.q (by first | (apply OQ.move; exact rfl) | (apply OQ.assign; exact rfl) | (apply OQ.nilc; exact rfl) | (apply OQ.len; exact rfl; exact rfl) | (apply OQ.addN; exact rfl; exact rfl; exact (by (try simp only []); omega)) | (apply OQ.subN; exact rfl; exact rfl; exact (by (try simp only []); omega); exact (by (try simp only []); omega)) | (apply OQ.lssN; exact rfl; exact rfl) | (apply OQ.gtrN; exact rfl; exact rfl) | (apply OQ.fld; exact rfl; exact rfl; exact rfl; exact (by decide); exact rfl)) rfl ?_ | refine JC.seq ?_ | refine JC.region ?_ | refine JC.block ?_ | refine JC.skip ?_ | refine JC.exit ?_ | refine JL.nil ?_ | refine JQ.nil ?_ | refine JQ.nil_tail ?_ | refine JE.next ?_ | refine JE.blk_normal ?_ | refine JE.then_exit ?_ | refine JE.blk_hit ?_ | refine JE.blk_miss rfl ?_ | refine JE.then_ret ?_ | refine JE.blk_ret ?_ | refine JC.label ?_ | refine JL.gon rfl rfl ?_ | refine JQ.gon rfl rfl ?_ | refine JL.gskip rfl rfl rfl rfl ?_ | refine JQ.gskip rfl rfl rfl rfl ?_ | refine JL.gskipU rfl rfl rfl rfl ?_ | refine JQ.gskipU rfl rfl rfl rfl ?_)
      refine JC.ret ?_
      repeat (first | refine JL.q (by first | (apply OQ.move; exact rfl) | (apply OQ.assign; exact rfl) | (apply OQ.nilc; exact rfl) | (apply OQ.len; exact rfl; exact rfl) | (apply OQ.addN; exact rfl; exact rfl; exact (by (try simp only []); omega)) | (apply OQ.subN; exact rfl; exact rfl; exact (by (try simp only []); omega); exact (by (try simp only []); omega)) | (apply OQ.lssN; exact rfl; exact rfl) | (apply OQ.gtrN; exact rfl; exact rfl) | (apply OQ.fld; exact rfl; exact rfl; exact rfl; exact (by decide); exact rfl)) rfl ?_ | refine JQ.q (by first | (apply OQ.move; exact rfl) | (apply OQ.assign; exact rfl) | (apply OQ.nilc; exact rfl) | (apply OQ.len; exact rfl; exact rfl) | (apply OQ.addN; exact rfl; exact rfl; exact (by (try simp only []); omega)) | (apply OQ.subN; exact rfl; exact rfl; exact (by (try simp only []); omega); exact (by (try simp only []); omega)) | (apply OQ.lssN; exact rfl; exact rfl) | (apply OQ.gtrN; exact rfl; exact rfl) | (apply OQ.fld; exact rfl; exact rfl; exact rfl; exact (by decide); exact rfl)) rfl ?_ | refine JC.seq ?_ | refine JC.region ?_ | refine JC.block ?_ | refine JC.skip ?_ | refine JC.exit ?_ | refine JL.nil ?_ | refine JQ.nil ?_ | refine JQ.nil_tail ?_ | refine JE.next ?_ | refine JE.blk_normal ?_ | refine JE.then_exit ?_ | refine JE.blk_hit ?_ | refine JE.blk_miss rfl ?_ | refine JE.then_ret ?_ | refine JE.blk_ret ?_ | refine JC.label ?_ | refine JL.gon rfl rfl ?_ | refine JQ.gon rfl rfl ?_ | refine JL.gskip rfl rfl rfl rfl ?_ | refine JQ.gskip rfl rfl rfl rfl ?_ | refine JL.gskipU rfl rfl rfl rfl ?_ | refine JQ.gskipU rfl rfl rfl rfl ?_)
      exact JE.ret1 rfl (RV.tmp rfl) fun w' hw => ⟨rfl, hw.chg⟩
    case true =>
      refine JC.cond_false rfl rfl ?_
      repeat (first | refine JL.q (by first | (apply OQ.move; exact rfl) | (apply OQ.assign; exact rfl) | (apply OQ.nilc; exact rfl) | (apply OQ.len; exact rfl; exact rfl) | (apply OQ.addN; exact rfl; exact rfl; exact (by (try simp only []); omega)) | (apply OQ.subN; exact rfl; exact rfl; exact (by (try simp only []); omega); exact (by (try simp only []); omega)) | (apply OQ.lssN; exact rfl; exact rfl) | (apply OQ.gtrN; exact rfl; exact rfl) | (apply OQ.fld; exact rfl; exact rfl; exact rfl; exact (by decide); exact rfl)) rfl ?_ | refine JQ.q (by first | (apply OQ.move; exact rfl) | (apply OQ.assign; exact rfl) | (apply OQ.nilc; exact rfl) | (apply OQ.len; exact rfl; exact rfl) | (apply OQ.addN; exact rfl; exact rfl; exact (by (try simp only []); omega)) | (apply OQ.subN; exact rfl; exact rfl; exact (by (try simp only []); omega); exact (by (try simp only []); omega)) | (apply OQ.lssN; exact rfl; exact rfl) | (apply OQ.gtrN; exact rfl; exact rfl) | (apply OQ.fld; exact rfl; exact rfl; exact rfl; exact (by decide); exact rfl)) rfl ?_ | refine JC.seq ?_ | refine JC.region ?_ | refine JC.block ?_ | refine JC.skip ?_ | refine JC.exit ?_ | refine JL.nil ?_ | refine JQ.nil ?_ | refine JQ.nil_tail ?_ | refine JE.next ?_ | refine JE.blk_normal ?_ | refine JE.then_exit ?_ | refine JE.blk_hit ?_ | refine JE.blk_miss rfl ?_ | refine JE.then_ret ?_ | refine JE.blk_ret ?_ | refine JC.label ?_ | refine JL.gon rfl rfl ?_ | refine JQ.gon rfl rfl ?_ | refine JL.gskip rfl rfl rfl rfl ?_ | refine JQ.gskip rfl rfl rfl rfl ?_ | refine JL.gskipU rfl rfl rfl rfl ?_ | refine JQ.gskipU rfl rfl rfl rfl ?_)
      exact JE.again (i := i) (i + 1) ⟨hi', by rw [eqi, eqj, ht, of_decide_eq_true g2]⟩ (by omega) (by repeat (first | exact SubE.nil | refine SubE.cons _ _ _ rfl ?_)) (Less.refl _)
  · have hi' : i = a.rs.length := by have := of_decide_eq_false hc; omega
    have he : a.rs.map Sl8.l = b.rs.map Sl8.l := by
      rw [hi', List.take_of_length_le (by rw [List.length_map]; exact Nat.le_refl _), List.take_of_length_le (by rw [List.length_map]; omega)] at ht
      exact ht
    rw [decide_eq_true he]
    repeat (first | refine JL.q (by first | (apply OQ.move; exact rfl) | (apply OQ.assign; exact rfl) | (apply OQ.nilc; exact rfl) | (apply OQ.len; exact rfl; exact rfl) | (apply OQ.addN; exact rfl; exact rfl; exact (by (try simp only []); omega)) | (apply OQ.subN; exact rfl; exact rfl; exact (by (try simp only []); omega); exact (by (try simp only []); omega)) | (apply OQ.lssN; exact rfl; exact rfl) | (apply OQ.gtrN; exact rfl; exact rfl) | (apply OQ.fld; exact rfl; exact rfl; exact rfl; exact (by decide); exact rfl)) rfl ?_ | refine JQ.q (by first | (apply OQ.move; exact rfl) | (apply OQ.assign; exact rfl) | (apply OQ.nilc; exact rfl) | (apply OQ.len; exact rfl; exact rfl) | (apply OQ.addN; exact rfl; exact rfl; exact (by (try simp only []); omega)) | (apply OQ.subN; exact rfl; exact rfl; exact (by (try simp only []); omega); exact (by (try simp only []); omega)) | (apply OQ.lssN; exact rfl; exact rfl) | (apply OQ.gtrN; exact rfl; exact rfl) | (apply OQ.fld; exact rfl; exact rfl; exact rfl; exact (by decide); exact rfl)) rfl ?_ | refine JC.seq ?_ | refine JC.region ?_ | refine JC.block ?_ | refine JC.skip ?_ | refine JC.exit ?_ | refine JL.nil ?_ | refine JQ.nil ?_ | refine JQ.nil_tail ?_ | refine JE.next ?_ | refine JE.blk_normal ?_ | refine JE.then_exit ?_ | refine JE.blk_hit ?_ | refine JE.blk_miss rfl ?_ | refine JE.then_ret ?_ | refine JE.blk_ret ?_ | refine JC.label ?_ | refine JL.gon rfl rfl ?_ | refine JQ.gon rfl rfl ?_ | refine JL.gskip rfl rfl rfl rfl ?_ | refine JQ.gskip rfl rfl rfl rfl ?_ | refine JL.gskipU rfl rfl rfl rfl ?_ | refine JQ.gskipU rfl rfl rfl rfl ?_)
    exact JC.ret (JE.ret1 rfl (RV.tmp rfl) fun w' hw => ⟨rfl, hw.chg⟩)
end Go.Proofs.Ytopdkpeahhnihaa

/-
  Of no statement by itself: what JournalLasts gives.
  Conditions: each theorem's own.
-/
namespace Go.Proofs.Ytopdkpeahhnihaa
set_option maxRecDepth 10000
open Sl Dsk Jrn
/-- a state between two calls: the journal, its disk, and what is wanted of it -/
structure Lz where
  i : Nat
  j : Nat
  h : Hf
  bl : List Bk
  q : Nat × Nat
  rs : List Sl8
def Lz.recs (z : Lz) : List Bk := z.rs.map Sl8.l
def Lz.E (z : Lz) : List Ent := jnE z.j z.h z.bl [] ++ accE 33 (some z.q) (z.rs.map Sl8.v)
structure Lz.ok (z : Lz) (w : World) (g : Nat) : Prop where
  v : Jv z.h z.bl z.recs
  d : DkOk z.h.x z.bl []
  g : z.h.g.toNat ≤ g
  n : z.rs.length ≤ z.i + 1
  a : ∀ y ∈ z.rs, y.ok w ∧ y.l.length ≤ 2000
def Lz.s (z : Lz) : SlL := ⟨some ⟨z.q.1, 0, none⟩, z.q.2, z.rs⟩
theorem Lz.sok {z : Lz} {w w' : World} {g : Nat} {A M : List Ent} (hz : z.ok w g) (hw : Holds w [] (A ++ (accE 33 (some z.q) (z.rs.map Sl8.v) ++ M)) w') : z.s.ok w' := by
  obtain ⟨o, ho, hA⟩ := hw.get (b := z.q.1) (A := Sl.Own 33 1 (z.rs.map Sl8.v).length z.q.2 (z.rs.map Sl8.v)) (wr := true) (hasR (N := A) .here)
  have hc := hA
  obtain ⟨sp, _, _, _, h4⟩ := hc
  refine ⟨by rw [List.length_map] at h4; exact h4, Reads.block ho (Own.cells o hA), fun y hy => (hz.a y hy).1.holds hw rfl⟩
theorem crash_nil (ps : List Bt) (bl : List Bk) : crash ps bl [] = bl := rfl
set_option maxHeartbeats 64000000 in
theorem law_journalLasts (n : Int) (list : SlL) (picks : Sl8) (w : World) (hl : list.ok w) (hp : picks.ok w) : Calls Try.prog 7 [.int .i64 n, list.v, picks.v].toArray w fun e w' => e = .returned (.bool true) ∧ Ext w w' := by
  refine enter (n := 99) Try.func7 rfl rfl rfl (Holds.start w []) ?_
  repeat (first | refine JL.q (by first | (apply OQ.callx (vs := []); exact goes_speaks15; exact rfl; exact (fun w' _ => speaks15_any w')) | (apply OQ.not; exact rfl) | (apply OQ.move; exact rfl) | (apply OQ.assign; exact rfl) | (apply OQ.nilc; exact rfl) | (apply OQ.len; exact rfl; exact rfl) | (apply OQ.addN; exact rfl; exact rfl; exact (by (try simp only []); omega)) | (apply OQ.subN; exact rfl; exact rfl; exact (by (try simp only []); omega); exact (by (try simp only []); omega)) | (apply OQ.lssN; exact rfl; exact rfl) | (apply OQ.gtrN; exact rfl; exact rfl) | (apply OQ.fld; exact rfl; exact rfl; exact rfl; exact (by decide); exact rfl)) rfl ?_ | refine JC.seq ?_ | refine JC.region ?_ | refine JC.block ?_ | refine JC.skip ?_ | refine JC.exit ?_ | refine JL.nil ?_ | refine JE.next ?_ | refine JE.blk_normal ?_ | refine JE.then_exit ?_ | refine JE.blk_hit ?_ | refine JE.blk_miss rfl ?_ | refine JE.then_ret ?_ | refine JE.blk_ret ?_ | refine JC.label ?_ | refine JL.gon rfl rfl ?_ | refine JL.gskip rfl rfl rfl rfl ?_ | refine JL.gskipU rfl rfl rfl rfl ?_)
  refine JC.cond_false rfl rfl ?_
  cases g1 : decide (n < 4)
  case true =>
    repeat (first | refine JL.q (by first | (apply OQ.lssB (b := 4); exact rfl; exact rfl; exact g1) | (apply OQ.pick_t; exact rfl; exact rfl) | (apply OQ.move; exact rfl) | (apply OQ.assign; exact rfl) | (apply OQ.nilc; exact rfl) | (apply OQ.len; exact rfl; exact rfl) | (apply OQ.addN; exact rfl; exact rfl; exact (by (try simp only []); omega)) | (apply OQ.subN; exact rfl; exact rfl; exact (by (try simp only []); omega); exact (by (try simp only []); omega)) | (apply OQ.lssN; exact rfl; exact rfl) | (apply OQ.gtrN; exact rfl; exact rfl) | (apply OQ.fld; exact rfl; exact rfl; exact rfl; exact (by decide); exact rfl)) rfl ?_ | refine JC.seq ?_ | refine JC.region ?_ | refine JC.block ?_ | refine JC.skip ?_ | refine JC.exit ?_ | refine JL.nil ?_ | refine JE.next ?_ | refine JE.blk_normal ?_ | refine JE.then_exit ?_ | refine JE.blk_hit ?_ | refine JE.blk_miss rfl ?_ | refine JE.then_ret ?_ | refine JE.blk_ret ?_ | refine JC.label ?_ | refine JL.gon rfl rfl ?_ | refine JL.gskip rfl rfl rfl rfl ?_ | refine JL.gskipU rfl rfl rfl rfl ?_)
    refine JC.cond_true rfl rfl ?_
    repeat (first | refine JL.q (by first | (apply OQ.move; exact rfl) | (apply OQ.assign; exact rfl) | (apply OQ.nilc; exact rfl) | (apply OQ.len; exact rfl; exact rfl) | (apply OQ.addN; exact rfl; exact rfl; exact (by (try simp only []); omega)) | (apply OQ.subN; exact rfl; exact rfl; exact (by (try simp only []); omega); exact (by (try simp only []); omega)) | (apply OQ.lssN; exact rfl; exact rfl) | (apply OQ.gtrN; exact rfl; exact rfl) | (apply OQ.fld; exact rfl; exact rfl; exact rfl; exact (by decide); exact rfl)) rfl ?_ | refine JC.seq ?_ | refine JC.region ?_ | refine JC.block ?_ | refine JC.skip ?_ | refine JC.exit ?_ | refine JL.nil ?_ | refine JE.next ?_ | refine JE.blk_normal ?_ | refine JE.then_exit ?_ | refine JE.blk_hit ?_ | refine JE.blk_miss rfl ?_ | refine JE.then_ret ?_ | refine JE.blk_ret ?_ | refine JC.label ?_ | refine JL.gon rfl rfl ?_ | refine JL.gskip rfl rfl rfl rfl ?_ | refine JL.gskipU rfl rfl rfl rfl ?_)
    refine JC.ret ?_
    repeat (first | refine JL.q (by first | (apply OQ.move; exact rfl) | (apply OQ.assign; exact rfl) | (apply OQ.nilc; exact rfl) | (apply OQ.len; exact rfl; exact rfl) | (apply OQ.addN; exact rfl; exact rfl; exact (by (try simp only []); omega)) | (apply OQ.subN; exact rfl; exact rfl; exact (by (try simp only []); omega); exact (by (try simp only []); omega)) | (apply OQ.lssN; exact rfl; exact rfl) | (apply OQ.gtrN; exact rfl; exact rfl) | (apply OQ.fld; exact rfl; exact rfl; exact rfl; exact (by decide); exact rfl)) rfl ?_ | refine JC.seq ?_ | refine JC.region ?_ | refine JC.block ?_ | refine JC.skip ?_ | refine JC.exit ?_ | refine JL.nil ?_ | refine JE.next ?_ | refine JE.blk_normal ?_ | refine JE.then_exit ?_ | refine JE.blk_hit ?_ | refine JE.blk_miss rfl ?_ | refine JE.then_ret ?_ | refine JE.blk_ret ?_ | refine JC.label ?_ | refine JL.gon rfl rfl ?_ | refine JL.gskip rfl rfl rfl rfl ?_ | refine JL.gskipU rfl rfl rfl rfl ?_)
    exact JE.ret1 rfl (RV.tmp rfl) fun w' hw => ⟨rfl, hw.chg⟩
  cases g2 : decide ((200 : Int) < n)
  case true =>
    repeat (first | refine JL.q (by first | (apply OQ.lssB (b := 4); exact rfl; exact rfl; exact g1) | (apply OQ.gtrB (b := 200); exact rfl; exact rfl; exact g2) | (apply OQ.pick_t; exact rfl; exact rfl) | (apply OQ.pick_f; exact rfl; exact rfl) | (apply OQ.move; exact rfl) | (apply OQ.assign; exact rfl) | (apply OQ.nilc; exact rfl) | (apply OQ.len; exact rfl; exact rfl) | (apply OQ.addN; exact rfl; exact rfl; exact (by (try simp only []); omega)) | (apply OQ.subN; exact rfl; exact rfl; exact (by (try simp only []); omega); exact (by (try simp only []); omega)) | (apply OQ.lssN; exact rfl; exact rfl) | (apply OQ.gtrN; exact rfl; exact rfl) | (apply OQ.fld; exact rfl; exact rfl; exact rfl; exact (by decide); exact rfl)) rfl ?_ | refine JC.seq ?_ | refine JC.region ?_ | refine JC.block ?_ | refine JC.skip ?_ | refine JC.exit ?_ | refine JL.nil ?_ | refine JE.next ?_ | refine JE.blk_normal ?_ | refine JE.then_exit ?_ | refine JE.blk_hit ?_ | refine JE.blk_miss rfl ?_ | refine JE.then_ret ?_ | refine JE.blk_ret ?_ | refine JC.label ?_ | refine JL.gon rfl rfl ?_ | refine JL.gskip rfl rfl rfl rfl ?_ | refine JL.gskipU rfl rfl rfl rfl ?_)
    refine JC.cond_true rfl rfl ?_
    repeat (first | refine JL.q (by first | (apply OQ.move; exact rfl) | (apply OQ.assign; exact rfl) | (apply OQ.nilc; exact rfl) | (apply OQ.len; exact rfl; exact rfl) | (apply OQ.addN; exact rfl; exact rfl; exact (by (try simp only []); omega)) | (apply OQ.subN; exact rfl; exact rfl; exact (by (try simp only []); omega); exact (by (try simp only []); omega)) | (apply OQ.lssN; exact rfl; exact rfl) | (apply OQ.gtrN; exact rfl; exact rfl) | (apply OQ.fld; exact rfl; exact rfl; exact rfl; exact (by decide); exact rfl)) rfl ?_ | refine JC.seq ?_ | refine JC.region ?_ | refine JC.block ?_ | refine JC.skip ?_ | refine JC.exit ?_ | refine JL.nil ?_ | refine JE.next ?_ | refine JE.blk_normal ?_ | refine JE.then_exit ?_ | refine JE.blk_hit ?_ | refine JE.blk_miss rfl ?_ | refine JE.then_ret ?_ | refine JE.blk_ret ?_ | refine JC.label ?_ | refine JL.gon rfl rfl ?_ | refine JL.gskip rfl rfl rfl rfl ?_ | refine JL.gskipU rfl rfl rfl rfl ?_)
    refine JC.ret ?_
    repeat (first | refine JL.q (by first | (apply OQ.move; exact rfl) | (apply OQ.assign; exact rfl) | (apply OQ.nilc; exact rfl) | (apply OQ.len; exact rfl; exact rfl) | (apply OQ.addN; exact rfl; exact rfl; exact (by (try simp only []); omega)) | (apply OQ.subN; exact rfl; exact rfl; exact (by (try simp only []); omega); exact (by (try simp only []); omega)) | (apply OQ.lssN; exact rfl; exact rfl) | (apply OQ.gtrN; exact rfl; exact rfl) | (apply OQ.fld; exact rfl; exact rfl; exact rfl; exact (by decide); exact rfl)) rfl ?_ | refine JC.seq ?_ | refine JC.region ?_ | refine JC.block ?_ | refine JC.skip ?_ | refine JC.exit ?_ | refine JL.nil ?_ | refine JE.next ?_ | refine JE.blk_normal ?_ | refine JE.then_exit ?_ | refine JE.blk_hit ?_ | refine JE.blk_miss rfl ?_ | refine JE.then_ret ?_ | refine JE.blk_ret ?_ | refine JC.label ?_ | refine JL.gon rfl rfl ?_ | refine JL.gskip rfl rfl rfl rfl ?_ | refine JL.gskipU rfl rfl rfl rfl ?_)
    exact JE.ret1 rfl (RV.tmp rfl) fun w' hw => ⟨rfl, hw.chg⟩
  obtain ⟨m, rfl⟩ := Int.eq_ofNat_of_zero_le (show 0 ≤ n by have := of_decide_eq_false g1; omega)
  have hm4 : 4 ≤ m := by have := of_decide_eq_false g1; omega
  have hm2 : m ≤ 200 := by have := of_decide_eq_false g2; omega
  cases g3 : decide ((60 : Int) < (list.rs.length : Int))
  case true =>
    repeat (first | refine JL.q (by first | (apply OQ.lssB (b := 4); exact rfl; exact rfl; exact g1) | (apply OQ.gtrB (b := 200); exact rfl; exact rfl; exact g2) | (apply OQ.len (k := list.rs.length) (ad := list.ad) (cap := list.cap); exact Try.underlying57; exact rfl) | (apply OQ.gtrB (b := 60); exact rfl; exact rfl; exact g3) | (apply OQ.pick_t; exact rfl; exact rfl) | (apply OQ.pick_f; exact rfl; exact rfl) | (apply OQ.move; exact rfl) | (apply OQ.assign; exact rfl) | (apply OQ.nilc; exact rfl) | (apply OQ.len; exact rfl; exact rfl) | (apply OQ.addN; exact rfl; exact rfl; exact (by (try simp only []); omega)) | (apply OQ.subN; exact rfl; exact rfl; exact (by (try simp only []); omega); exact (by (try simp only []); omega)) | (apply OQ.lssN; exact rfl; exact rfl) | (apply OQ.gtrN; exact rfl; exact rfl) | (apply OQ.fld; exact rfl; exact rfl; exact rfl; exact (by decide); exact rfl)) rfl ?_ | refine JC.seq ?_ | refine JC.region ?_ | refine JC.block ?_ | refine JC.skip ?_ | refine JC.exit ?_ | refine JL.nil ?_ | refine JE.next ?_ | refine JE.blk_normal ?_ | refine JE.then_exit ?_ | refine JE.blk_hit ?_ | refine JE.blk_miss rfl ?_ | refine JE.then_ret ?_ | refine JE.blk_ret ?_ | refine JC.label ?_ | refine JL.gon rfl rfl ?_ | refine JL.gskip rfl rfl rfl rfl ?_ | refine JL.gskipU rfl rfl rfl rfl ?_)
    refine JC.cond_true rfl rfl ?_
    repeat (first | refine JL.q (by first | (apply OQ.move; exact rfl) | (apply OQ.assign; exact rfl) | (apply OQ.nilc; exact rfl) | (apply OQ.len; exact rfl; exact rfl) | (apply OQ.addN; exact rfl; exact rfl; exact (by (try simp only []); omega)) | (apply OQ.subN; exact rfl; exact rfl; exact (by (try simp only []); omega); exact (by (try simp only []); omega)) | (apply OQ.lssN; exact rfl; exact rfl) | (apply OQ.gtrN; exact rfl; exact rfl) | (apply OQ.fld; exact rfl; exact rfl; exact rfl; exact (by decide); exact rfl)) rfl ?_ | refine JC.seq ?_ | refine JC.region ?_ | refine JC.block ?_ | refine JC.skip ?_ | refine JC.exit ?_ | refine JL.nil ?_ | refine JE.next ?_ | refine JE.blk_normal ?_ | refine JE.then_exit ?_ | refine JE.blk_hit ?_ | refine JE.blk_miss rfl ?_ | refine JE.then_ret ?_ | refine JE.blk_ret ?_ | refine JC.label ?_ | refine JL.gon rfl rfl ?_ | refine JL.gskip rfl rfl rfl rfl ?_ | refine JL.gskipU rfl rfl rfl rfl ?_)
    refine JC.ret ?_
    repeat (first | refine JL.q (by first | (apply OQ.move; exact rfl) | (apply OQ.assign; exact rfl) | (apply OQ.nilc; exact rfl) | (apply OQ.len; exact rfl; exact rfl) | (apply OQ.addN; exact rfl; exact rfl; exact (by (try simp only []); omega)) | (apply OQ.subN; exact rfl; exact rfl; exact (by (try simp only []); omega); exact (by (try simp only []); omega)) | (apply OQ.lssN; exact rfl; exact rfl) | (apply OQ.gtrN; exact rfl; exact rfl) | (apply OQ.fld; exact rfl; exact rfl; exact rfl; exact (by decide); exact rfl)) rfl ?_ | refine JC.seq ?_ | refine JC.region ?_ | refine JC.block ?_ | refine JC.skip ?_ | refine JC.exit ?_ | refine JL.nil ?_ | refine JE.next ?_ | refine JE.blk_normal ?_ | refine JE.then_exit ?_ | refine JE.blk_hit ?_ | refine JE.blk_miss rfl ?_ | refine JE.then_ret ?_ | refine JE.blk_ret ?_ | refine JC.label ?_ | refine JL.gon rfl rfl ?_ | refine JL.gskip rfl rfl rfl rfl ?_ | refine JL.gskipU rfl rfl rfl rfl ?_)
    exact JE.ret1 rfl (RV.tmp rfl) fun w' hw => ⟨rfl, hw.chg⟩
  cases g4 : decide ((200 : Int) < (picks.l.length : Int))
  case true =>
    repeat (first | refine JL.q (by first | (apply OQ.lssB (b := 4); exact rfl; exact rfl; exact g1) | (apply OQ.gtrB (b := 200); exact rfl; exact rfl; exact g2) | (apply OQ.len (k := list.rs.length) (ad := list.ad) (cap := list.cap); exact Try.underlying57; exact rfl) | (apply OQ.gtrB (b := 60); exact rfl; exact rfl; exact g3) | (apply OQ.len (k := picks.l.length) (ad := picks.ad) (cap := picks.cap); exact Try.underlying33; exact rfl) | (apply OQ.gtrB (b := 200); exact rfl; exact rfl; exact g4) | (apply OQ.pick_t; exact rfl; exact rfl) | (apply OQ.pick_f; exact rfl; exact rfl) | (apply OQ.move; exact rfl) | (apply OQ.assign; exact rfl) | (apply OQ.nilc; exact rfl) | (apply OQ.len; exact rfl; exact rfl) | (apply OQ.addN; exact rfl; exact rfl; exact (by (try simp only []); omega)) | (apply OQ.subN; exact rfl; exact rfl; exact (by (try simp only []); omega); exact (by (try simp only []); omega)) | (apply OQ.lssN; exact rfl; exact rfl) | (apply OQ.gtrN; exact rfl; exact rfl) | (apply OQ.fld; exact rfl; exact rfl; exact rfl; exact (by decide); exact rfl)) rfl ?_ | refine JC.seq ?_ | refine JC.region ?_ | refine JC.block ?_ | refine JC.skip ?_ | refine JC.exit ?_ | refine JL.nil ?_ | refine JE.next ?_ | refine JE.blk_normal ?_ | refine JE.then_exit ?_ | refine JE.blk_hit ?_ | refine JE.blk_miss rfl ?_ | refine JE.then_ret ?_ | refine JE.blk_ret ?_ | refine JC.label ?_ | refine JL.gon rfl rfl ?_ | refine JL.gskip rfl rfl rfl rfl ?_ | refine JL.gskipU rfl rfl rfl rfl ?_)
    refine JC.cond_true rfl rfl ?_
    repeat (first | refine JL.q (by first | (apply OQ.move; exact rfl) | (apply OQ.assign; exact rfl) | (apply OQ.nilc; exact rfl) | (apply OQ.len; exact rfl; exact rfl) | (apply OQ.addN; exact rfl; exact rfl; exact (by (try simp only []); omega)) | (apply OQ.subN; exact rfl; exact rfl; exact (by (try simp only []); omega); exact (by (try simp only []); omega)) | (apply OQ.lssN; exact rfl; exact rfl) | (apply OQ.gtrN; exact rfl; exact rfl) | (apply OQ.fld; exact rfl; exact rfl; exact rfl; exact (by decide); exact rfl)) rfl ?_ | refine JC.seq ?_ | refine JC.region ?_ | refine JC.block ?_ | refine JC.skip ?_ | refine JC.exit ?_ | refine JL.nil ?_ | refine JE.next ?_ | refine JE.blk_normal ?_ | refine JE.then_exit ?_ | refine JE.blk_hit ?_ | refine JE.blk_miss rfl ?_ | refine JE.then_ret ?_ | refine JE.blk_ret ?_ | refine JC.label ?_ | refine JL.gon rfl rfl ?_ | refine JL.gskip rfl rfl rfl rfl ?_ | refine JL.gskipU rfl rfl rfl rfl ?_)
    refine JC.ret ?_
    repeat (first | refine JL.q (by first | (apply OQ.move; exact rfl) | (apply OQ.assign; exact rfl) | (apply OQ.nilc; exact rfl) | (apply OQ.len; exact rfl; exact rfl) | (apply OQ.addN; exact rfl; exact rfl; exact (by (try simp only []); omega)) | (apply OQ.subN; exact rfl; exact rfl; exact (by (try simp only []); omega); exact (by (try simp only []); omega)) | (apply OQ.lssN; exact rfl; exact rfl) | (apply OQ.gtrN; exact rfl; exact rfl) | (apply OQ.fld; exact rfl; exact rfl; exact rfl; exact (by decide); exact rfl)) rfl ?_ | refine JC.seq ?_ | refine JC.region ?_ | refine JC.block ?_ | refine JC.skip ?_ | refine JC.exit ?_ | refine JL.nil ?_ | refine JE.next ?_ | refine JE.blk_normal ?_ | refine JE.then_exit ?_ | refine JE.blk_hit ?_ | refine JE.blk_miss rfl ?_ | refine JE.then_ret ?_ | refine JE.blk_ret ?_ | refine JC.label ?_ | refine JL.gon rfl rfl ?_ | refine JL.gskip rfl rfl rfl rfl ?_ | refine JL.gskipU rfl rfl rfl rfl ?_)
    exact JE.ret1 rfl (RV.tmp rfl) fun w' hw => ⟨rfl, hw.chg⟩
  have h3 : list.rs.length ≤ 60 := by have := of_decide_eq_false g3; omega
  have h4 : picks.l.length ≤ 200 := by have := of_decide_eq_false g4; omega
  repeat (first | refine JL.q (by first | (apply OQ.lssB (b := 4); exact rfl; exact rfl; exact g1) | (apply OQ.gtrB (b := 200); exact rfl; exact rfl; exact g2) | (apply OQ.len (k := list.rs.length) (ad := list.ad) (cap := list.cap); exact Try.underlying57; exact rfl) | (apply OQ.gtrB (b := 60); exact rfl; exact rfl; exact g3) | (apply OQ.len (k := picks.l.length) (ad := picks.ad) (cap := picks.cap); exact Try.underlying33; exact rfl) | (apply OQ.gtrB (b := 200); exact rfl; exact rfl; exact g4) | (apply OQ.pick_t; exact rfl; exact rfl) | (apply OQ.pick_f; exact rfl; exact rfl) | (apply OQ.move; exact rfl) | (apply OQ.assign; exact rfl) | (apply OQ.nilc; exact rfl) | (apply OQ.len; exact rfl; exact rfl) | (apply OQ.addN; exact rfl; exact rfl; exact (by (try simp only []); omega)) | (apply OQ.subN; exact rfl; exact rfl; exact (by (try simp only []); omega); exact (by (try simp only []); omega)) | (apply OQ.lssN; exact rfl; exact rfl) | (apply OQ.gtrN; exact rfl; exact rfl) | (apply OQ.fld; exact rfl; exact rfl; exact rfl; exact (by decide); exact rfl)) rfl ?_ | refine JC.seq ?_ | refine JC.region ?_ | refine JC.block ?_ | refine JC.skip ?_ | refine JC.exit ?_ | refine JL.nil ?_ | refine JE.next ?_ | refine JE.blk_normal ?_ | refine JE.then_exit ?_ | refine JE.blk_hit ?_ | refine JE.blk_miss rfl ?_ | refine JE.then_ret ?_ | refine JE.blk_ret ?_ | refine JC.label ?_ | refine JL.gon rfl rfl ?_ | refine JL.gskip rfl rfl rfl rfl ?_ | refine JL.gskipU rfl rfl rfl rfl ?_)
  refine JC.cond_false rfl rfl ?_
  clear g1 g2 g3 g4
  repeat (first | refine JL.q (by first | (apply OQ.move; exact rfl) | (apply OQ.assign; exact rfl) | (apply OQ.nilc; exact rfl) | (apply OQ.len; exact rfl; exact rfl) | (apply OQ.addN; exact rfl; exact rfl; exact (by (try simp only []); omega)) | (apply OQ.subN; exact rfl; exact rfl; exact (by (try simp only []); omega); exact (by (try simp only []); omega)) | (apply OQ.lssN; exact rfl; exact rfl) | (apply OQ.gtrN; exact rfl; exact rfl) | (apply OQ.fld; exact rfl; exact rfl; exact rfl; exact (by decide); exact rfl)) rfl ?_ | refine JC.seq ?_ | refine JC.region ?_ | refine JC.block ?_ | refine JC.skip ?_ | refine JC.exit ?_ | refine JL.nil ?_ | refine JE.next ?_ | refine JE.blk_normal ?_ | refine JE.then_exit ?_ | refine JE.blk_hit ?_ | refine JE.blk_miss rfl ?_ | refine JE.then_ret ?_ | refine JE.blk_ret ?_ | refine JC.label ?_ | refine JL.gon rfl rfl ?_ | refine JL.gskip rfl rfl rfl rfl ?_ | refine JL.gskipU rfl rfl rfl rfl ?_)
  refine JL.dnew (k := m) (by omega) (by omega) rfl rfl fun x hx => ?_
  repeat (first | refine JL.q (by first | (apply OQ.extract; exact rfl; exact rfl) | (apply OQ.neB (a := 0) (b := 0) (c := true); exact rfl; exact rfl; exact rfl) | (apply OQ.ptrNil; exact Try.underlying24; exact rfl; exact rfl) | (apply OQ.pick_f; exact rfl; exact rfl) | (apply OQ.move; exact rfl) | (apply OQ.assign; exact rfl) | (apply OQ.nilc; exact rfl) | (apply OQ.len; exact rfl; exact rfl) | (apply OQ.addN; exact rfl; exact rfl; exact (by (try simp only []); omega)) | (apply OQ.subN; exact rfl; exact rfl; exact (by (try simp only []); omega); exact (by (try simp only []); omega)) | (apply OQ.lssN; exact rfl; exact rfl) | (apply OQ.gtrN; exact rfl; exact rfl) | (apply OQ.fld; exact rfl; exact rfl; exact rfl; exact (by decide); exact rfl)) rfl ?_ | refine JC.seq ?_ | refine JC.region ?_ | refine JC.block ?_ | refine JC.skip ?_ | refine JC.exit ?_ | refine JL.nil ?_ | refine JE.next ?_ | refine JE.blk_normal ?_ | refine JE.then_exit ?_ | refine JE.blk_hit ?_ | refine JE.blk_miss rfl ?_ | refine JE.then_ret ?_ | refine JE.blk_ret ?_ | refine JC.label ?_ | refine JL.gon rfl rfl ?_ | refine JL.gskip rfl rfl rfl rfl ?_ | refine JL.gskipU rfl rfl rfl rfl ?_)
  refine JC.cond_false rfl rfl ?_
  have hno : noOpen (newB m) = 0 := newB_no hm4
  have hcu := newB_cur m
  have v := Jv.opn (x := x) hx.ok.b (by rw [newB_len]; omega) hno
  have hd := hx.opn hno
  rw [hcu.1] at v
  have hg : (opnJ x (newB m)).g.toNat ≤ 1 := gm_succ (by rw [hcu.2]; exact Nat.le_refl 0) (by decide)
  have hxp : (opnJ x (newB m)).x.p = x.p := rfl
  repeat (first | refine JL.q (by first | (apply OQ.move; exact rfl) | (apply OQ.assign; exact rfl) | (apply OQ.nilc; exact rfl) | (apply OQ.len; exact rfl; exact rfl) | (apply OQ.addN; exact rfl; exact rfl; exact (by (try simp only []); omega)) | (apply OQ.subN; exact rfl; exact rfl; exact (by (try simp only []); omega); exact (by (try simp only []); omega)) | (apply OQ.lssN; exact rfl; exact rfl) | (apply OQ.gtrN; exact rfl; exact rfl) | (apply OQ.fld; exact rfl; exact rfl; exact rfl; exact (by decide); exact rfl)) rfl ?_ | refine JC.seq ?_ | refine JC.region ?_ | refine JC.block ?_ | refine JC.skip ?_ | refine JC.exit ?_ | refine JL.nil ?_ | refine JE.next ?_ | refine JE.blk_normal ?_ | refine JE.then_exit ?_ | refine JE.blk_hit ?_ | refine JE.blk_miss rfl ?_ | refine JE.then_ret ?_ | refine JE.blk_ret ?_ | refine JC.label ?_ | refine JL.gon rfl rfl ?_ | refine JL.gskip rfl rfl rfl rfl ?_ | refine JL.gskipU rfl rfl rfl rfl ?_)
  refine JL.jopen hx (Nat.zero_le _) hno rfl rfl fun j => ?_
  rw [← hxp]
  generalize opnJ x (newB m) = h at v hd hg ⊢
  generalize opnD (newB m) = bl at v hd ⊢
  repeat (first | refine JL.q (by first | (apply OQ.extract; exact rfl; exact rfl) | (apply OQ.neB (a := 0) (b := 0) (c := true); exact rfl; exact rfl; exact rfl) | (apply OQ.ptrNil; exact Try.underlying52; exact rfl; exact rfl) | (apply OQ.pick_f; exact rfl; exact rfl) | (apply OQ.move; exact rfl) | (apply OQ.assign; exact rfl) | (apply OQ.nilc; exact rfl) | (apply OQ.len; exact rfl; exact rfl) | (apply OQ.addN; exact rfl; exact rfl; exact (by (try simp only []); omega)) | (apply OQ.subN; exact rfl; exact rfl; exact (by (try simp only []); omega); exact (by (try simp only []); omega)) | (apply OQ.lssN; exact rfl; exact rfl) | (apply OQ.gtrN; exact rfl; exact rfl) | (apply OQ.fld; exact rfl; exact rfl; exact rfl; exact (by decide); exact rfl)) rfl ?_ | refine JC.seq ?_ | refine JC.region ?_ | refine JC.block ?_ | refine JC.skip ?_ | refine JC.exit ?_ | refine JL.nil ?_ | refine JE.next ?_ | refine JE.blk_normal ?_ | refine JE.then_exit ?_ | refine JE.blk_hit ?_ | refine JE.blk_miss rfl ?_ | refine JE.then_ret ?_ | refine JE.blk_ret ?_ | refine JC.label ?_ | refine JL.gon rfl rfl ?_ | refine JL.gskip rfl rfl rfl rfl ?_ | refine JL.gskipU rfl rfl rfl rfl ?_)
  refine JC.cond_false rfl rfl ?_
  repeat (first | refine JL.q (by first | (apply OQ.move; exact rfl) | (apply OQ.assign; exact rfl) | (apply OQ.nilc; exact rfl) | (apply OQ.len; exact rfl; exact rfl) | (apply OQ.addN; exact rfl; exact rfl; exact (by (try simp only []); omega)) | (apply OQ.subN; exact rfl; exact rfl; exact (by (try simp only []); omega); exact (by (try simp only []); omega)) | (apply OQ.lssN; exact rfl; exact rfl) | (apply OQ.gtrN; exact rfl; exact rfl) | (apply OQ.fld; exact rfl; exact rfl; exact rfl; exact (by decide); exact rfl)) rfl ?_ | refine JC.seq ?_ | refine JC.region ?_ | refine JC.block ?_ | refine JC.skip ?_ | refine JC.exit ?_ | refine JL.nil ?_ | refine JE.next ?_ | refine JE.blk_normal ?_ | refine JE.then_exit ?_ | refine JE.blk_hit ?_ | refine JE.blk_miss rfl ?_ | refine JE.then_ret ?_ | refine JE.blk_ret ?_ | refine JC.label ?_ | refine JL.gon rfl rfl ?_ | refine JL.gskip rfl rfl rfl rfl ?_ | refine JL.gskipU rfl rfl rfl rfl ?_)
  refine JL.lit0O Try.underlying33 u8e rfl fun b0 _ => ?_
  refine JL.lit1 (v := .slice (some ⟨b0, 0, none⟩) 0 0) Try.underlying57 slEj rfl rfl rfl rfl fun b1 _ => ?_
  refine JL.perm (M' := jnE j h bl [] ++ ([⟨b1, Row 33 [.slice (some ⟨b0, 0, none⟩) 0 0], true⟩, ⟨b0, Sl.Own 5 1 0 0 [], true⟩] ++ [])) ?_ (by rw [List.append_nil, List.append_nil]; exact List.perm_append_comm (l₁ := [_, _]))
  repeat (first | refine JL.q (by first | (apply OQ.len (k := list.rs.length) (ad := list.ad) (cap := list.cap); exact Try.underlying57; exact rfl) | (apply OQ.move; exact rfl) | (apply OQ.assign; exact rfl) | (apply OQ.nilc; exact rfl) | (apply OQ.len; exact rfl; exact rfl) | (apply OQ.addN; exact rfl; exact rfl; exact (by (try simp only []); omega)) | (apply OQ.subN; exact rfl; exact rfl; exact (by (try simp only []); omega); exact (by (try simp only []); omega)) | (apply OQ.lssN; exact rfl; exact rfl) | (apply OQ.gtrN; exact rfl; exact rfl) | (apply OQ.fld; exact rfl; exact rfl; exact rfl; exact (by decide); exact rfl)) rfl ?_ | refine JC.seq ?_ | refine JC.region ?_ | refine JC.block ?_ | refine JC.skip ?_ | refine JC.exit ?_ | refine JL.nil ?_ | refine JE.next ?_ | refine JE.blk_normal ?_ | refine JE.then_exit ?_ | refine JE.blk_hit ?_ | refine JE.blk_miss rfl ?_ | refine JE.then_ret ?_ | refine JE.blk_ret ?_ | refine JC.label ?_ | refine JL.gon rfl rfl ?_ | refine JL.gskip rfl rfl rfl rfl ?_ | refine JL.gskipU rfl rfl rfl rfl ?_)
  refine JC.loop (fun z : Lz => [(2, picks.v), (7, Pt z.h.x.p 0), (9, Pt z.j 0), (11, accV (some z.q) z.rs.length), (56, list.v), (57, N list.rs.length), (58, N z.i)]) (fun z => z.E) (fun z => list.rs.length - z.i) (fun z => z.i ≤ list.rs.length ∧ z.ok w (z.i + 1)) ⟨0, j, h, bl, (b1, 1), [⟨some ⟨b0, 0, none⟩, 0, []⟩]⟩ ⟨Nat.zero_le _, v, hd, hg, Nat.le_refl _, fun y hy => by rw [List.mem_singleton.1 hy]; exact ⟨⟨Nat.le_refl _, Reads.nil _ _⟩, Nat.zero_le _⟩⟩ (by repeat (first | exact SubE.nil | refine SubE.cons _ _ _ rfl ?_)) (less_two (Less.refl _) (.keep _ _ _ _ _ _ (row_ownG rfl) (.nil _))) ?_
  clear v hd hg hxp hcu hno
  rintro ⟨i, j, h, bl, q, rs⟩ ⟨hi, hz⟩
  dsimp only at hi hz ⊢
  repeat (first | refine JL.q (by first | (apply OQ.move; exact rfl) | (apply OQ.assign; exact rfl) | (apply OQ.nilc; exact rfl) | (apply OQ.len; exact rfl; exact rfl) | (apply OQ.addN; exact rfl; exact rfl; exact (by (try simp only []); omega)) | (apply OQ.subN; exact rfl; exact rfl; exact (by (try simp only []); omega); exact (by (try simp only []); omega)) | (apply OQ.lssN; exact rfl; exact rfl) | (apply OQ.gtrN; exact rfl; exact rfl) | (apply OQ.fld; exact rfl; exact rfl; exact rfl; exact (by decide); exact rfl)) rfl ?_ | refine JC.seq ?_ | refine JC.region ?_ | refine JC.block ?_ | refine JC.skip ?_ | refine JC.exit ?_ | refine JL.nil ?_ | refine JE.next ?_ | refine JE.blk_normal ?_ | refine JE.then_exit ?_ | refine JE.blk_hit ?_ | refine JE.blk_miss rfl ?_ | refine JE.then_ret ?_ | refine JE.blk_ret ?_ | refine JC.label ?_ | refine JL.gon rfl rfl ?_ | refine JL.gskip rfl rfl rfl rfl ?_ | refine JL.gskipU rfl rfl rfl rfl ?_)
  refine JC.cond rfl (fun hc => ?_) (fun hc => ?_)
  · have hi' : i < list.rs.length := by have := of_decide_eq_true hc; omega
    clear hc
    obtain ⟨bL, jL, eL, lL, cL⟩ := slLj_at hl (by omega)
    have cLi := cL i hi'
    have okb := hl.all _ (getD_mem' hi')
    have hvL : list.v = .slice (some ⟨bL, jL, none⟩) list.rs.length list.cap := by rw [← eL]; rfl
    generalize list.rs.getD i nilS = b at cLi okb
    rw [hvL]
    cases g5 : decide ((2000 : Int) < (b.l.length : Int))
    case true =>
      repeat (first | refine JL.q (by first | (apply OQ.idxS1 (i := i) (b := bL) (j := jL); exact Try.underlying57; exact sleJ; exact rfl; exact rfl; exact hi') | (apply OQ.load_old; exact slCj; exact rfl; exact lL; exact (by simp); exact cLi) | (apply OQ.len (k := b.l.length) (ad := b.ad) (cap := b.cap); exact Try.underlying33; exact rfl) | (apply OQ.gtrB (b := 2000); exact rfl; exact rfl; exact g5) | (apply OQ.move; exact rfl) | (apply OQ.assign; exact rfl) | (apply OQ.nilc; exact rfl) | (apply OQ.len; exact rfl; exact rfl) | (apply OQ.addN; exact rfl; exact rfl; exact (by (try simp only []); omega)) | (apply OQ.subN; exact rfl; exact rfl; exact (by (try simp only []); omega); exact (by (try simp only []); omega)) | (apply OQ.lssN; exact rfl; exact rfl) | (apply OQ.gtrN; exact rfl; exact rfl) | (apply OQ.fld; exact rfl; exact rfl; exact rfl; exact (by decide); exact rfl)) rfl ?_ | refine JC.seq ?_ | refine JC.region ?_ | refine JC.block ?_ | refine JC.skip ?_ | refine JC.exit ?_ | refine JL.nil ?_ | refine JE.next ?_ | refine JE.blk_normal ?_ | refine JE.then_exit ?_ | refine JE.blk_hit ?_ | refine JE.blk_miss rfl ?_ | refine JE.then_ret ?_ | refine JE.blk_ret ?_ | refine JC.label ?_ | refine JL.gon rfl rfl ?_ | refine JL.gskip rfl rfl rfl rfl ?_ | refine JL.gskipU rfl rfl rfl rfl ?_)
      refine JC.cond_true rfl rfl ?_
      repeat (first | refine JL.q (by first | (apply OQ.move; exact rfl) | (apply OQ.assign; exact rfl) | (apply OQ.nilc; exact rfl) | (apply OQ.len; exact rfl; exact rfl) | (apply OQ.addN; exact rfl; exact rfl; exact (by (try simp only []); omega)) | (apply OQ.subN; exact rfl; exact rfl; exact (by (try simp only []); omega); exact (by (try simp only []); omega)) | (apply OQ.lssN; exact rfl; exact rfl) | (apply OQ.gtrN; exact rfl; exact rfl) | (apply OQ.fld; exact rfl; exact rfl; exact rfl; exact (by decide); exact rfl)) rfl ?_ | refine JC.seq ?_ | refine JC.region ?_ | refine JC.block ?_ | refine JC.skip ?_ | refine JC.exit ?_ | refine JL.nil ?_ | refine JE.next ?_ | refine JE.blk_normal ?_ | refine JE.then_exit ?_ | refine JE.blk_hit ?_ | refine JE.blk_miss rfl ?_ | refine JE.then_ret ?_ | refine JE.blk_ret ?_ | refine JC.label ?_ | refine JL.gon rfl rfl ?_ | refine JL.gskip rfl rfl rfl rfl ?_ | refine JL.gskipU rfl rfl rfl rfl ?_)
      refine JC.ret ?_
      repeat (first | refine JL.q (by first | (apply OQ.move; exact rfl) | (apply OQ.assign; exact rfl) | (apply OQ.nilc; exact rfl) | (apply OQ.len; exact rfl; exact rfl) | (apply OQ.addN; exact rfl; exact rfl; exact (by (try simp only []); omega)) | (apply OQ.subN; exact rfl; exact rfl; exact (by (try simp only []); omega); exact (by (try simp only []); omega)) | (apply OQ.lssN; exact rfl; exact rfl) | (apply OQ.gtrN; exact rfl; exact rfl) | (apply OQ.fld; exact rfl; exact rfl; exact rfl; exact (by decide); exact rfl)) rfl ?_ | refine JC.seq ?_ | refine JC.region ?_ | refine JC.block ?_ | refine JC.skip ?_ | refine JC.exit ?_ | refine JL.nil ?_ | refine JE.next ?_ | refine JE.blk_normal ?_ | refine JE.then_exit ?_ | refine JE.blk_hit ?_ | refine JE.blk_miss rfl ?_ | refine JE.then_ret ?_ | refine JE.blk_ret ?_ | refine JC.label ?_ | refine JL.gon rfl rfl ?_ | refine JL.gskip rfl rfl rfl rfl ?_ | refine JL.gskipU rfl rfl rfl rfl ?_)
      exact JE.ret1 rfl (RV.tmp rfl) fun w' hw => ⟨rfl, hw.chg⟩
    have hb2 : b.l.length ≤ 2000 := by have := of_decide_eq_false g5; omega
    repeat (first | refine JL.q (by first | (apply OQ.idxS1 (i := i) (b := bL) (j := jL); exact Try.underlying57; exact sleJ; exact rfl; exact rfl; exact hi') | (apply OQ.load_old; exact slCj; exact rfl; exact lL; exact (by simp); exact cLi) | (apply OQ.len (k := b.l.length) (ad := b.ad) (cap := b.cap); exact Try.underlying33; exact rfl) | (apply OQ.gtrB (b := 2000); exact rfl; exact rfl; exact g5) | (apply OQ.move; exact rfl) | (apply OQ.assign; exact rfl) | (apply OQ.nilc; exact rfl) | (apply OQ.len; exact rfl; exact rfl) | (apply OQ.addN; exact rfl; exact rfl; exact (by (try simp only []); omega)) | (apply OQ.subN; exact rfl; exact rfl; exact (by (try simp only []); omega); exact (by (try simp only []); omega)) | (apply OQ.lssN; exact rfl; exact rfl) | (apply OQ.gtrN; exact rfl; exact rfl) | (apply OQ.fld; exact rfl; exact rfl; exact rfl; exact (by decide); exact rfl)) rfl ?_ | refine JC.seq ?_ | refine JC.region ?_ | refine JC.block ?_ | refine JC.skip ?_ | refine JC.exit ?_ | refine JL.nil ?_ | refine JE.next ?_ | refine JE.blk_normal ?_ | refine JE.then_exit ?_ | refine JE.blk_hit ?_ | refine JE.blk_miss rfl ?_ | refine JE.then_ret ?_ | refine JE.blk_ret ?_ | refine JC.label ?_ | refine JL.gon rfl rfl ?_ | refine JL.gskip rfl rfl rfl rfl ?_ | refine JL.gskipU rfl rfl rfl rfl ?_)
    refine JC.cond_false rfl rfl ?_
    clear g5
    repeat (first | refine JL.q (by first | (apply OQ.move; exact rfl) | (apply OQ.assign; exact rfl) | (apply OQ.nilc; exact rfl) | (apply OQ.len; exact rfl; exact rfl) | (apply OQ.addN; exact rfl; exact rfl; exact (by (try simp only []); omega)) | (apply OQ.subN; exact rfl; exact rfl; exact (by (try simp only []); omega); exact (by (try simp only []); omega)) | (apply OQ.lssN; exact rfl; exact rfl) | (apply OQ.gtrN; exact rfl; exact rfl) | (apply OQ.fld; exact rfl; exact rfl; exact rfl; exact (by decide); exact rfl)) rfl ?_ | refine JC.seq ?_ | refine JC.region ?_ | refine JC.block ?_ | refine JC.skip ?_ | refine JC.exit ?_ | refine JL.nil ?_ | refine JE.next ?_ | refine JE.blk_normal ?_ | refine JE.then_exit ?_ | refine JE.blk_hit ?_ | refine JE.blk_miss rfl ?_ | refine JE.then_ret ?_ | refine JE.blk_ret ?_ | refine JC.label ?_ | refine JL.gon rfl rfl ?_ | refine JL.gskip rfl rfl rfl rfl ?_ | refine JL.gskipU rfl rfl rfl rfl ?_)
    by_cases hf : nb b.l.length ≤ h.size - h.used
    · have va := hz.v.app hf
      have da := hz.d.app hz.v hf
      have hn0 : rs.length ≤ i + 1 := hz.n
      refine JL.perm (M' := jnE j h bl [] ++ (accE 33 (some q) (rs.map Sl8.v) ++ [])) ?_ (by rw [List.append_nil]; exact List.Perm.refl _)
      repeat (first | refine JL.q (by first | (apply OQ.move; exact rfl) | (apply OQ.assign; exact rfl) | (apply OQ.nilc; exact rfl) | (apply OQ.len; exact rfl; exact rfl) | (apply OQ.addN; exact rfl; exact rfl; exact (by (try simp only []); omega)) | (apply OQ.subN; exact rfl; exact rfl; exact (by (try simp only []); omega); exact (by (try simp only []); omega)) | (apply OQ.lssN; exact rfl; exact rfl) | (apply OQ.gtrN; exact rfl; exact rfl) | (apply OQ.fld; exact rfl; exact rfl; exact rfl; exact (by decide); exact rfl)) rfl ?_ | refine JC.seq ?_ | refine JC.region ?_ | refine JC.block ?_ | refine JC.skip ?_ | refine JC.exit ?_ | refine JL.nil ?_ | refine JE.next ?_ | refine JE.blk_normal ?_ | refine JE.then_exit ?_ | refine JE.blk_hit ?_ | refine JE.blk_miss rfl ?_ | refine JE.then_ret ?_ | refine JE.blk_ret ?_ | refine JC.label ?_ | refine JL.gon rfl rfl ?_ | refine JL.gskip rfl rfl rfl rfl ?_ | refine JL.gskipU rfl rfl rfl rfl ?_)
      refine JL.japp (s := b) hz.v hz.d (Nat.zero_le _) hf (fun w' hw' => ⟨okb.holds hw' rfl, away_old hw' (jnE_wr _ _ _ _) okb⟩) rfl rfl rfl ?_
      repeat (first | refine JL.q (by first | (apply OQ.eqB (a := 0) (b := 0) (c := true); exact rfl; exact rfl; exact rfl) | (apply OQ.move; exact rfl) | (apply OQ.assign; exact rfl) | (apply OQ.nilc; exact rfl) | (apply OQ.len; exact rfl; exact rfl) | (apply OQ.addN; exact rfl; exact rfl; exact (by (try simp only []); omega)) | (apply OQ.subN; exact rfl; exact rfl; exact (by (try simp only []); omega); exact (by (try simp only []); omega)) | (apply OQ.lssN; exact rfl; exact rfl) | (apply OQ.gtrN; exact rfl; exact rfl) | (apply OQ.fld; exact rfl; exact rfl; exact rfl; exact (by decide); exact rfl)) rfl ?_ | refine JC.seq ?_ | refine JC.region ?_ | refine JC.block ?_ | refine JC.skip ?_ | refine JC.exit ?_ | refine JL.nil ?_ | refine JE.next ?_ | refine JE.blk_normal ?_ | refine JE.then_exit ?_ | refine JE.blk_hit ?_ | refine JE.blk_miss rfl ?_ | refine JE.then_ret ?_ | refine JE.blk_ret ?_ | refine JC.label ?_ | refine JL.gon rfl rfl ?_ | refine JL.gskip rfl rfl rfl rfl ?_ | refine JL.gskipU rfl rfl rfl rfl ?_)
      refine JC.cond_true rfl rfl ?_
      repeat (first | refine JL.q (by first | (apply OQ.move; exact rfl) | (apply OQ.assign; exact rfl) | (apply OQ.nilc; exact rfl) | (apply OQ.len; exact rfl; exact rfl) | (apply OQ.addN; exact rfl; exact rfl; exact (by (try simp only []); omega)) | (apply OQ.subN; exact rfl; exact rfl; exact (by (try simp only []); omega); exact (by (try simp only []); omega)) | (apply OQ.lssN; exact rfl; exact rfl) | (apply OQ.gtrN; exact rfl; exact rfl) | (apply OQ.fld; exact rfl; exact rfl; exact rfl; exact (by decide); exact rfl)) rfl ?_ | refine JC.seq ?_ | refine JC.region ?_ | refine JC.block ?_ | refine JC.skip ?_ | refine JC.exit ?_ | refine JL.nil ?_ | refine JE.next ?_ | refine JE.blk_normal ?_ | refine JE.then_exit ?_ | refine JE.blk_hit ?_ | refine JE.blk_miss rfl ?_ | refine JE.then_ret ?_ | refine JE.blk_ret ?_ | refine JC.label ?_ | refine JL.gon rfl rfl ?_ | refine JL.gskip rfl rfl rfl rfl ?_ | refine JL.gskipU rfl rfl rfl rfl ?_)
      refine JL.lit1 (v := b.v) Try.underlying57 slEj rfl rfl rfl rfl fun b4 _ => ?_
      refine JL.perm (M' := accE 33 (some q) (rs.map Sl8.v) ++ (⟨b4, Row 33 [b.v], true⟩ :: jnE j (appJ h b.l) (appD h bl b.l) [])) ?_ (by rw [List.append_nil]; exact (List.Perm.cons _ List.perm_append_comm).trans List.perm_middle.symm)
      refine JL.appendQ (xs := rs.map Sl8.v) (cs := [b.v]) (m := 1) (ad := some ⟨b4, 0, none⟩) (sc := 1) (some q) Try.underlying57 slEj nofun (by rw [List.length_map]; rfl) rfl rfl (fun w' hw' => ?_) (fun v hv => by rw [List.mem_singleton.1 hv]; rfl) rfl (by rw [List.length_map]; omega) (by rw [List.length_map]; omega) rfl fun q3 hq3 => ?_
      · obtain ⟨o, ho, hA⟩ := hw'.get (b := b4) (A := Row 33 [b.v]) (wr := true) (hasR (N := accE 33 (some q) (rs.map Sl8.v)) .here)
        exact Reads.block ho (Row.all _ hA)
      cases q3 with
      | none => have := congrArg List.length (hq3 rfl); simp at this
      | some zq =>
      clear hq3
      have eM : rs.map Sl8.v ++ [b.v] = (rs ++ [b]).map Sl8.v := by rw [List.map_append, List.map_singleton]
      rw [eM, List.length_map]
      have hz' : Lz.ok ⟨i + 1, j, appJ h b.l, appD h bl b.l, zq, rs ++ [b]⟩ w (i + 1) := ⟨by
        show Jv _ _ ((rs ++ [b]).map Sl8.l)
        rw [List.map_append, List.map_singleton]
        exact va, da, hz.g, by show (rs ++ [b]).length ≤ _; rw [List.length_append, List.length_singleton]; show _ ≤ i + 1 + 1; omega, fun y hy => by
          rcases List.mem_append.1 hy with hy | hy
          · exact hz.a y hy
          · rw [List.mem_singleton.1 hy]; exact ⟨okb, hb2⟩⟩
      refine JL.perm (M' := jnE j (appJ h b.l) (appD h bl b.l) [] ++ (accE 33 (some zq) ((rs ++ [b]).map Sl8.v) ++ [⟨b4, Row 33 [b.v], true⟩])) ?_ (by
        refine (List.Perm.append_left _ (List.perm_append_singleton _ _).symm).trans ?_
        exact List.perm_append_comm_assoc _ _ _)
      have e7 : h.x.p = (appJ h b.l).x.p := rfl
      rw [e7]
      generalize appJ h b.l = zh at hz' ⊢
      generalize appD h bl b.l = zbl at hz' ⊢
      generalize rs ++ [b] = zrs at hz' ⊢
      have ⟨zj, ezj⟩ : ∃ zj, zj = j := ⟨_, rfl⟩
      rw [← ezj] at hz' ⊢
      have hgi : zh.g.toNat < 4294967295 := by have := hz'.g; dsimp only at this; omega
      have hno : noOpen zbl = 0 := Jv.no _ _ _ hz'.v hgi
      have hcu := hz'.v.cur
      have v2 := Jv.opn (x := sync0 zh.x) hz'.d.ok.b hz'.d.n1 hno
      have d2 := DkOk.opn (x := sync0 zh.x) (pd := []) hz'.d.sync hno
      have hg2 : (opnJ (sync0 zh.x) zbl).g.toNat ≤ i + 1 + 1 := gm_succ (Nat.le_trans hz'.v.gm_le hz'.g) (by omega)
      have hxp : (opnJ (sync0 zh.x) zbl).x.p = zh.x.p := rfl
      have zd : DkOk zh.x zbl [] := hz'.d
      have zn : zrs.length ≤ i + 1 + 1 := hz'.n
      have za : ∀ y ∈ zrs, y.ok w ∧ y.l.length ≤ 2000 := hz'.a
      have hcu2 : (curF zbl).2.2 = zrs.map Sl8.l := by rw [hcu]; rfl
      rw [hcu2] at v2
      repeat (first | refine JL.q (by first | (apply OQ.move; exact rfl) | (apply OQ.assign; exact rfl) | (apply OQ.nilc; exact rfl) | (apply OQ.len; exact rfl; exact rfl) | (apply OQ.addN; exact rfl; exact rfl; exact (by (try simp only []); omega)) | (apply OQ.subN; exact rfl; exact rfl; exact (by (try simp only []); omega); exact (by (try simp only []); omega)) | (apply OQ.lssN; exact rfl; exact rfl) | (apply OQ.gtrN; exact rfl; exact rfl) | (apply OQ.fld; exact rfl; exact rfl; exact rfl; exact (by decide); exact rfl)) rfl ?_ | refine JC.seq ?_ | refine JC.region ?_ | refine JC.block ?_ | refine JC.skip ?_ | refine JC.exit ?_ | refine JL.nil ?_ | refine JE.next ?_ | refine JE.blk_normal ?_ | refine JE.then_exit ?_ | refine JE.blk_hit ?_ | refine JE.blk_miss rfl ?_ | refine JE.then_ret ?_ | refine JE.blk_ret ?_ | refine JC.label ?_ | refine JL.gon rfl rfl ?_ | refine JL.gskip rfl rfl rfl rfl ?_ | refine JL.gskipU rfl rfl rfl rfl ?_)
      refine JL.perm (M' := dkE zh.x zbl [] ++ (⟨zj, Row 88 (hfc zh), true⟩ :: (accE 33 (some zq) (zrs.map Sl8.v) ++ [⟨b4, Row 33 [b.v], true⟩]))) ?_ (by exact (List.perm_middle).symm)
      refine JL.dcrash (s := picks) zd (by omega) (fun w' hw' => ⟨hp.holds hw' rfl, away_old hw' (dkE_wr _ _ _) hp⟩) rfl rfl rfl ?_
      rw [crash_nil]
      repeat (first | refine JL.q (by first | (apply OQ.move; exact rfl) | (apply OQ.assign; exact rfl) | (apply OQ.nilc; exact rfl) | (apply OQ.len; exact rfl; exact rfl) | (apply OQ.addN; exact rfl; exact rfl; exact (by (try simp only []); omega)) | (apply OQ.subN; exact rfl; exact rfl; exact (by (try simp only []); omega); exact (by (try simp only []); omega)) | (apply OQ.lssN; exact rfl; exact rfl) | (apply OQ.gtrN; exact rfl; exact rfl) | (apply OQ.fld; exact rfl; exact rfl; exact rfl; exact (by decide); exact rfl)) rfl ?_ | refine JC.seq ?_ | refine JC.region ?_ | refine JC.block ?_ | refine JC.skip ?_ | refine JC.exit ?_ | refine JL.nil ?_ | refine JE.next ?_ | refine JE.blk_normal ?_ | refine JE.then_exit ?_ | refine JE.blk_hit ?_ | refine JE.blk_miss rfl ?_ | refine JE.then_ret ?_ | refine JE.blk_ret ?_ | refine JC.label ?_ | refine JL.gon rfl rfl ?_ | refine JL.gskip rfl rfl rfl rfl ?_ | refine JL.gskipU rfl rfl rfl rfl ?_)
      refine JL.jopen (x := sync0 zh.x) zd.sync (Nat.zero_le _) hno rfl rfl fun j2 => ?_
      rw [← hxp]
      generalize opnJ (sync0 zh.x) zbl = h2 at v2 d2 hg2 ⊢
      generalize opnD zbl = bl2 at v2 d2 ⊢
      have hz2 : Lz.ok ⟨i + 1, j2, h2, bl2, zq, zrs⟩ w (i + 1 + 1) := ⟨v2, d2, hg2, zn, za⟩
      repeat (first | refine JL.q (by first | (apply OQ.extract; exact rfl; exact rfl) | (apply OQ.neB (a := 0) (b := 0) (c := true); exact rfl; exact rfl; exact rfl) | (apply OQ.ptrNil; exact Try.underlying52; exact rfl; exact rfl) | (apply OQ.pick_f; exact rfl; exact rfl) | (apply OQ.move; exact rfl) | (apply OQ.assign; exact rfl) | (apply OQ.nilc; exact rfl) | (apply OQ.len; exact rfl; exact rfl) | (apply OQ.addN; exact rfl; exact rfl; exact (by (try simp only []); omega)) | (apply OQ.subN; exact rfl; exact rfl; exact (by (try simp only []); omega); exact (by (try simp only []); omega)) | (apply OQ.lssN; exact rfl; exact rfl) | (apply OQ.gtrN; exact rfl; exact rfl) | (apply OQ.fld; exact rfl; exact rfl; exact rfl; exact (by decide); exact rfl)) rfl ?_ | refine JC.seq ?_ | refine JC.region ?_ | refine JC.block ?_ | refine JC.skip ?_ | refine JC.exit ?_ | refine JL.nil ?_ | refine JE.next ?_ | refine JE.blk_normal ?_ | refine JE.then_exit ?_ | refine JE.blk_hit ?_ | refine JE.blk_miss rfl ?_ | refine JE.then_ret ?_ | refine JE.blk_ret ?_ | refine JC.label ?_ | refine JL.gon rfl rfl ?_ | refine JL.gskip rfl rfl rfl rfl ?_ | refine JL.gskipU rfl rfl rfl rfl ?_)
      refine JL.jrecs v2 d2 rfl rfl fun zr => ?_
      obtain ⟨zr, hzr1, hzr2⟩ := zr
      have h2n := v2.fs
      have hyl : ∀ y ∈ zr.s.rs, y.l.length < 4611686018427387904 := fun y hy => by
        have hm : y.l ∈ zr.s.rs.map Sl8.l := List.mem_map_of_mem hy
        rw [zr.rs_eq] at hm
        have he : zr.rs.map Sl8.l = zrs.map Sl8.l := hzr1
        rw [he] at hm
        obtain ⟨u, hu, hul⟩ := List.mem_map.1 hm
        have := (za u hu).2
        rw [← hul]
        omega
      have hsm := fun {w' : World} (hw' : Holds w [] (zr.E ++ (jnE j2 h2 bl2 [] ++ (⟨zj, Row 88 (hfc zh), true⟩ :: (accE 33 (some zq) (zrs.map Sl8.v) ++ [⟨b4, Row 33 [b.v], true⟩])))) w') => samel_any zr.s (Lz.s ⟨i + 1, j2, h2, bl2, zq, zrs⟩) w' (zr.ok (hw'.weak (less_pre _ _))) (Lz.sok hz2 (A := zr.E ++ (jnE j2 h2 bl2 [] ++ [⟨zj, Row 88 (hfc zh), true⟩])) (M := [⟨b4, Row 33 [b.v], true⟩]) (by simpa [List.append_assoc] using hw')) (by rw [zr.rs_eq]; omega) hyl
      have heq : decide (zr.s.rs.map Sl8.l = (Lz.s ⟨i + 1, j2, h2, bl2, zq, zrs⟩).rs.map Sl8.l) = true := decide_eq_true (by rw [zr.rs_eq]; exact hzr1)
      rw [heq, zr.v_eq] at hsm
      repeat (first | refine JL.q (by first | (apply OQ.callx (vs := [zr.v, (Lz.s ⟨i + 1, j2, h2, bl2, zq, zrs⟩).v]); exact goes_samel; exact rfl; exact (fun w' hw' => hsm hw')) | (apply OQ.not; exact rfl) | (apply OQ.pick_f; exact rfl; exact rfl) | (apply OQ.move; exact rfl) | (apply OQ.assign; exact rfl) | (apply OQ.nilc; exact rfl) | (apply OQ.len; exact rfl; exact rfl) | (apply OQ.addN; exact rfl; exact rfl; exact (by (try simp only []); omega)) | (apply OQ.subN; exact rfl; exact rfl; exact (by (try simp only []); omega); exact (by (try simp only []); omega)) | (apply OQ.lssN; exact rfl; exact rfl) | (apply OQ.gtrN; exact rfl; exact rfl) | (apply OQ.fld; exact rfl; exact rfl; exact rfl; exact (by decide); exact rfl)) rfl ?_ | refine JC.seq ?_ | refine JC.region ?_ | refine JC.block ?_ | refine JC.skip ?_ | refine JC.exit ?_ | refine JL.nil ?_ | refine JE.next ?_ | refine JE.blk_normal ?_ | refine JE.then_exit ?_ | refine JE.blk_hit ?_ | refine JE.blk_miss rfl ?_ | refine JE.then_ret ?_ | refine JE.blk_ret ?_ | refine JC.label ?_ | refine JL.gon rfl rfl ?_ | refine JL.gskip rfl rfl rfl rfl ?_ | refine JL.gskipU rfl rfl rfl rfl ?_)
      refine JC.cond_false rfl rfl ?_
      repeat (first | refine JL.q (by first | (apply OQ.move; exact rfl) | (apply OQ.assign; exact rfl) | (apply OQ.nilc; exact rfl) | (apply OQ.len; exact rfl; exact rfl) | (apply OQ.addN; exact rfl; exact rfl; exact (by (try simp only []); omega)) | (apply OQ.subN; exact rfl; exact rfl; exact (by (try simp only []); omega); exact (by (try simp only []); omega)) | (apply OQ.lssN; exact rfl; exact rfl) | (apply OQ.gtrN; exact rfl; exact rfl) | (apply OQ.fld; exact rfl; exact rfl; exact rfl; exact (by decide); exact rfl)) rfl ?_ | refine JC.seq ?_ | refine JC.region ?_ | refine JC.block ?_ | refine JC.skip ?_ | refine JC.exit ?_ | refine JL.nil ?_ | refine JE.next ?_ | refine JE.blk_normal ?_ | refine JE.then_exit ?_ | refine JE.blk_hit ?_ | refine JE.blk_miss rfl ?_ | refine JE.then_ret ?_ | refine JE.blk_ret ?_ | refine JC.label ?_ | refine JL.gon rfl rfl ?_ | refine JL.gskip rfl rfl rfl rfl ?_ | refine JL.gskipU rfl rfl rfl rfl ?_)
      exact JE.again (i := Lz.mk i j h bl q rs) ⟨i + 1, j2, h2, bl2, zq, zrs⟩ ⟨hi', hz2⟩ (by dsimp only; omega) (by repeat (first | exact SubE.nil | refine SubE.cons _ _ _ rfl ?_)) (less_app _ (less_two (Less.refl _) (.drop _ _ _ (less_pre _ _))))
    · have hu := hz.v.u; have hr := hz.v.r; have hfs := hz.v.fs
      dsimp only at hu hr hfs
      have hn0 : rs.length ≤ i + 1 := hz.n
      have hz' : Lz.ok ⟨i + 1, j, h, bl, q, rs⟩ w (i + 1) := ⟨hz.v, hz.d, hz.g, by show rs.length ≤ i + 1 + 1; omega, hz.a⟩
      have cA := fun {w' : World} {M : List Ent} (hw' : Holds w [] (jnE j h bl [] ++ M) w') => app_no j h b (by omega) (by omega) (by omega) hf w' (ro_one hw')
      have cF := fun {w' : World} {M : List Ent} (hw' : Holds w [] (jnE j h bl [] ++ M) w') => fits_nat j h b.l.length (by omega) (by omega) (by omega) w' (ro_one hw')
      rw [decide_eq_false hf] at cF
      refine JL.perm (M' := jnE j h bl [] ++ (accE 33 (some q) (rs.map Sl8.v) ++ [])) ?_ (by rw [List.append_nil]; exact List.Perm.refl _)
      repeat (first | refine JL.q (by first | (apply OQ.callx (vs := [Pt j 0, b.v]); exact goes_app; exact rfl; exact (fun w' hw' => cA hw')) | (apply OQ.eqB (a := 6) (b := 0) (c := false); exact rfl; exact rfl; exact rfl) | (apply OQ.move; exact rfl) | (apply OQ.assign; exact rfl) | (apply OQ.nilc; exact rfl) | (apply OQ.len; exact rfl; exact rfl) | (apply OQ.addN; exact rfl; exact rfl; exact (by (try simp only []); omega)) | (apply OQ.subN; exact rfl; exact rfl; exact (by (try simp only []); omega); exact (by (try simp only []); omega)) | (apply OQ.lssN; exact rfl; exact rfl) | (apply OQ.gtrN; exact rfl; exact rfl) | (apply OQ.fld; exact rfl; exact rfl; exact rfl; exact (by decide); exact rfl)) rfl ?_ | refine JC.seq ?_ | refine JC.region ?_ | refine JC.block ?_ | refine JC.skip ?_ | refine JC.exit ?_ | refine JL.nil ?_ | refine JE.next ?_ | refine JE.blk_normal ?_ | refine JE.then_exit ?_ | refine JE.blk_hit ?_ | refine JE.blk_miss rfl ?_ | refine JE.then_ret ?_ | refine JE.blk_ret ?_ | refine JC.label ?_ | refine JL.gon rfl rfl ?_ | refine JL.gskip rfl rfl rfl rfl ?_ | refine JL.gskipU rfl rfl rfl rfl ?_)
      refine JC.cond_false rfl rfl ?_
      repeat (first | refine JL.q (by first | (apply OQ.len (k := b.l.length) (ad := b.ad) (cap := b.cap); exact Try.underlying33; exact rfl) | (apply OQ.callx (vs := [Pt j 0, N b.l.length]); exact goes_fits; exact rfl; exact (fun w' hw' => cF hw')) | (apply OQ.move; exact rfl) | (apply OQ.assign; exact rfl) | (apply OQ.nilc; exact rfl) | (apply OQ.len; exact rfl; exact rfl) | (apply OQ.addN; exact rfl; exact rfl; exact (by (try simp only []); omega)) | (apply OQ.subN; exact rfl; exact rfl; exact (by (try simp only []); omega); exact (by (try simp only []); omega)) | (apply OQ.lssN; exact rfl; exact rfl) | (apply OQ.gtrN; exact rfl; exact rfl) | (apply OQ.fld; exact rfl; exact rfl; exact rfl; exact (by decide); exact rfl)) rfl ?_ | refine JC.seq ?_ | refine JC.region ?_ | refine JC.block ?_ | refine JC.skip ?_ | refine JC.exit ?_ | refine JL.nil ?_ | refine JE.next ?_ | refine JE.blk_normal ?_ | refine JE.then_exit ?_ | refine JE.blk_hit ?_ | refine JE.blk_miss rfl ?_ | refine JE.then_ret ?_ | refine JE.blk_ret ?_ | refine JC.label ?_ | refine JL.gon rfl rfl ?_ | refine JL.gskip rfl rfl rfl rfl ?_ | refine JL.gskipU rfl rfl rfl rfl ?_)
      refine JC.cond_false rfl rfl ?_
      have ⟨zh, ezh⟩ : ∃ zh, zh = h := ⟨_, rfl⟩
      have ⟨zj, ezj⟩ : ∃ zj, zj = j := ⟨_, rfl⟩
      have ⟨zbl, ezbl⟩ : ∃ zbl, zbl = bl := ⟨_, rfl⟩
      have ⟨zq, ezq⟩ : ∃ zq, zq = q := ⟨_, rfl⟩
      have ⟨zrs, ezrs⟩ : ∃ zrs, zrs = rs := ⟨_, rfl⟩
      rw [← ezh, ← ezj, ← ezbl, ← ezq, ← ezrs] at hz' ⊢
      have hgi : zh.g.toNat < 4294967295 := by have := hz'.g; dsimp only at this; omega
      have hno : noOpen zbl = 0 := Jv.no _ _ _ hz'.v hgi
      have hcu := hz'.v.cur
      have v2 := Jv.opn (x := sync0 zh.x) hz'.d.ok.b hz'.d.n1 hno
      have d2 := DkOk.opn (x := sync0 zh.x) (pd := []) hz'.d.sync hno
      have hg2 : (opnJ (sync0 zh.x) zbl).g.toNat ≤ i + 1 + 1 := gm_succ (Nat.le_trans hz'.v.gm_le hz'.g) (by omega)
      have hxp : (opnJ (sync0 zh.x) zbl).x.p = zh.x.p := rfl
      have zd : DkOk zh.x zbl [] := hz'.d
      have zn : zrs.length ≤ i + 1 + 1 := hz'.n
      have za : ∀ y ∈ zrs, y.ok w ∧ y.l.length ≤ 2000 := hz'.a
      have hcu2 : (curF zbl).2.2 = zrs.map Sl8.l := by rw [hcu]; rfl
      rw [hcu2] at v2
      repeat (first | refine JL.q (by first | (apply OQ.move; exact rfl) | (apply OQ.assign; exact rfl) | (apply OQ.nilc; exact rfl) | (apply OQ.len; exact rfl; exact rfl) | (apply OQ.addN; exact rfl; exact rfl; exact (by (try simp only []); omega)) | (apply OQ.subN; exact rfl; exact rfl; exact (by (try simp only []); omega); exact (by (try simp only []); omega)) | (apply OQ.lssN; exact rfl; exact rfl) | (apply OQ.gtrN; exact rfl; exact rfl) | (apply OQ.fld; exact rfl; exact rfl; exact rfl; exact (by decide); exact rfl)) rfl ?_ | refine JC.seq ?_ | refine JC.region ?_ | refine JC.block ?_ | refine JC.skip ?_ | refine JC.exit ?_ | refine JL.nil ?_ | refine JE.next ?_ | refine JE.blk_normal ?_ | refine JE.then_exit ?_ | refine JE.blk_hit ?_ | refine JE.blk_miss rfl ?_ | refine JE.then_ret ?_ | refine JE.blk_ret ?_ | refine JC.label ?_ | refine JL.gon rfl rfl ?_ | refine JL.gskip rfl rfl rfl rfl ?_ | refine JL.gskipU rfl rfl rfl rfl ?_)
      refine JL.perm (M' := dkE zh.x zbl [] ++ (⟨zj, Row 88 (hfc zh), true⟩ :: (accE 33 (some zq) (zrs.map Sl8.v) ++ []))) ?_ (by exact (List.perm_middle).symm)
      refine JL.dcrash (s := picks) zd (by omega) (fun w' hw' => ⟨hp.holds hw' rfl, away_old hw' (dkE_wr _ _ _) hp⟩) rfl rfl rfl ?_
      rw [crash_nil]
      repeat (first | refine JL.q (by first | (apply OQ.move; exact rfl) | (apply OQ.assign; exact rfl) | (apply OQ.nilc; exact rfl) | (apply OQ.len; exact rfl; exact rfl) | (apply OQ.addN; exact rfl; exact rfl; exact (by (try simp only []); omega)) | (apply OQ.subN; exact rfl; exact rfl; exact (by (try simp only []); omega); exact (by (try simp only []); omega)) | (apply OQ.lssN; exact rfl; exact rfl) | (apply OQ.gtrN; exact rfl; exact rfl) | (apply OQ.fld; exact rfl; exact rfl; exact rfl; exact (by decide); exact rfl)) rfl ?_ | refine JC.seq ?_ | refine JC.region ?_ | refine JC.block ?_ | refine JC.skip ?_ | refine JC.exit ?_ | refine JL.nil ?_ | refine JE.next ?_ | refine JE.blk_normal ?_ | refine JE.then_exit ?_ | refine JE.blk_hit ?_ | refine JE.blk_miss rfl ?_ | refine JE.then_ret ?_ | refine JE.blk_ret ?_ | refine JC.label ?_ | refine JL.gon rfl rfl ?_ | refine JL.gskip rfl rfl rfl rfl ?_ | refine JL.gskipU rfl rfl rfl rfl ?_)
      refine JL.jopen (x := sync0 zh.x) zd.sync (Nat.zero_le _) hno rfl rfl fun j2 => ?_
      rw [← hxp]
      generalize opnJ (sync0 zh.x) zbl = h2 at v2 d2 hg2 ⊢
      generalize opnD zbl = bl2 at v2 d2 ⊢
      have hz2 : Lz.ok ⟨i + 1, j2, h2, bl2, zq, zrs⟩ w (i + 1 + 1) := ⟨v2, d2, hg2, zn, za⟩
      repeat (first | refine JL.q (by first | (apply OQ.extract; exact rfl; exact rfl) | (apply OQ.neB (a := 0) (b := 0) (c := true); exact rfl; exact rfl; exact rfl) | (apply OQ.ptrNil; exact Try.underlying52; exact rfl; exact rfl) | (apply OQ.pick_f; exact rfl; exact rfl) | (apply OQ.move; exact rfl) | (apply OQ.assign; exact rfl) | (apply OQ.nilc; exact rfl) | (apply OQ.len; exact rfl; exact rfl) | (apply OQ.addN; exact rfl; exact rfl; exact (by (try simp only []); omega)) | (apply OQ.subN; exact rfl; exact rfl; exact (by (try simp only []); omega); exact (by (try simp only []); omega)) | (apply OQ.lssN; exact rfl; exact rfl) | (apply OQ.gtrN; exact rfl; exact rfl) | (apply OQ.fld; exact rfl; exact rfl; exact rfl; exact (by decide); exact rfl)) rfl ?_ | refine JC.seq ?_ | refine JC.region ?_ | refine JC.block ?_ | refine JC.skip ?_ | refine JC.exit ?_ | refine JL.nil ?_ | refine JE.next ?_ | refine JE.blk_normal ?_ | refine JE.then_exit ?_ | refine JE.blk_hit ?_ | refine JE.blk_miss rfl ?_ | refine JE.then_ret ?_ | refine JE.blk_ret ?_ | refine JC.label ?_ | refine JL.gon rfl rfl ?_ | refine JL.gskip rfl rfl rfl rfl ?_ | refine JL.gskipU rfl rfl rfl rfl ?_)
      refine JL.jrecs v2 d2 rfl rfl fun zr => ?_
      obtain ⟨zr, hzr1, hzr2⟩ := zr
      have h2n := v2.fs
      have hyl : ∀ y ∈ zr.s.rs, y.l.length < 4611686018427387904 := fun y hy => by
        have hm : y.l ∈ zr.s.rs.map Sl8.l := List.mem_map_of_mem hy
        rw [zr.rs_eq] at hm
        have he : zr.rs.map Sl8.l = zrs.map Sl8.l := hzr1
        rw [he] at hm
        obtain ⟨u, hu, hul⟩ := List.mem_map.1 hm
        have := (za u hu).2
        rw [← hul]
        omega
      have hsm := fun {w' : World} (hw' : Holds w [] (zr.E ++ (jnE j2 h2 bl2 [] ++ (⟨zj, Row 88 (hfc zh), true⟩ :: (accE 33 (some zq) (zrs.map Sl8.v) ++ [])))) w') => samel_any zr.s (Lz.s ⟨i + 1, j2, h2, bl2, zq, zrs⟩) w' (zr.ok (hw'.weak (less_pre _ _))) (Lz.sok hz2 (A := zr.E ++ (jnE j2 h2 bl2 [] ++ [⟨zj, Row 88 (hfc zh), true⟩])) (M := []) (by simpa [List.append_assoc] using hw')) (by rw [zr.rs_eq]; omega) hyl
      have heq : decide (zr.s.rs.map Sl8.l = (Lz.s ⟨i + 1, j2, h2, bl2, zq, zrs⟩).rs.map Sl8.l) = true := decide_eq_true (by rw [zr.rs_eq]; exact hzr1)
      rw [heq, zr.v_eq] at hsm
      repeat (first | refine JL.q (by first | (apply OQ.callx (vs := [zr.v, (Lz.s ⟨i + 1, j2, h2, bl2, zq, zrs⟩).v]); exact goes_samel; exact rfl; exact (fun w' hw' => hsm hw')) | (apply OQ.not; exact rfl) | (apply OQ.pick_f; exact rfl; exact rfl) | (apply OQ.move; exact rfl) | (apply OQ.assign; exact rfl) | (apply OQ.nilc; exact rfl) | (apply OQ.len; exact rfl; exact rfl) | (apply OQ.addN; exact rfl; exact rfl; exact (by (try simp only []); omega)) | (apply OQ.subN; exact rfl; exact rfl; exact (by (try simp only []); omega); exact (by (try simp only []); omega)) | (apply OQ.lssN; exact rfl; exact rfl) | (apply OQ.gtrN; exact rfl; exact rfl) | (apply OQ.fld; exact rfl; exact rfl; exact rfl; exact (by decide); exact rfl)) rfl ?_ | refine JC.seq ?_ | refine JC.region ?_ | refine JC.block ?_ | refine JC.skip ?_ | refine JC.exit ?_ | refine JL.nil ?_ | refine JE.next ?_ | refine JE.blk_normal ?_ | refine JE.then_exit ?_ | refine JE.blk_hit ?_ | refine JE.blk_miss rfl ?_ | refine JE.then_ret ?_ | refine JE.blk_ret ?_ | refine JC.label ?_ | refine JL.gon rfl rfl ?_ | refine JL.gskip rfl rfl rfl rfl ?_ | refine JL.gskipU rfl rfl rfl rfl ?_)
      refine JC.cond_false rfl rfl ?_
      repeat (first | refine JL.q (by first | (apply OQ.move; exact rfl) | (apply OQ.assign; exact rfl) | (apply OQ.nilc; exact rfl) | (apply OQ.len; exact rfl; exact rfl) | (apply OQ.addN; exact rfl; exact rfl; exact (by (try simp only []); omega)) | (apply OQ.subN; exact rfl; exact rfl; exact (by (try simp only []); omega); exact (by (try simp only []); omega)) | (apply OQ.lssN; exact rfl; exact rfl) | (apply OQ.gtrN; exact rfl; exact rfl) | (apply OQ.fld; exact rfl; exact rfl; exact rfl; exact (by decide); exact rfl)) rfl ?_ | refine JC.seq ?_ | refine JC.region ?_ | refine JC.block ?_ | refine JC.skip ?_ | refine JC.exit ?_ | refine JL.nil ?_ | refine JE.next ?_ | refine JE.blk_normal ?_ | refine JE.then_exit ?_ | refine JE.blk_hit ?_ | refine JE.blk_miss rfl ?_ | refine JE.then_ret ?_ | refine JE.blk_ret ?_ | refine JC.label ?_ | refine JL.gon rfl rfl ?_ | refine JL.gskip rfl rfl rfl rfl ?_ | refine JL.gskipU rfl rfl rfl rfl ?_)
      exact JE.again (i := Lz.mk i j h bl q rs) ⟨i + 1, j2, h2, bl2, zq, zrs⟩ ⟨hi', hz2⟩ (by dsimp only; omega) (by repeat (first | exact SubE.nil | refine SubE.cons _ _ _ rfl ?_)) (less_app _ (less_two (Less.refl _) (.drop _ _ _ (less_pre _ _))))
  · repeat (first | refine JL.q (by first | (apply OQ.move; exact rfl) | (apply OQ.assign; exact rfl) | (apply OQ.nilc; exact rfl) | (apply OQ.len; exact rfl; exact rfl) | (apply OQ.addN; exact rfl; exact rfl; exact (by (try simp only []); omega)) | (apply OQ.subN; exact rfl; exact rfl; exact (by (try simp only []); omega); exact (by (try simp only []); omega)) | (apply OQ.lssN; exact rfl; exact rfl) | (apply OQ.gtrN; exact rfl; exact rfl) | (apply OQ.fld; exact rfl; exact rfl; exact rfl; exact (by decide); exact rfl)) rfl ?_ | refine JC.seq ?_ | refine JC.region ?_ | refine JC.block ?_ | refine JC.skip ?_ | refine JC.exit ?_ | refine JL.nil ?_ | refine JE.next ?_ | refine JE.blk_normal ?_ | refine JE.then_exit ?_ | refine JE.blk_hit ?_ | refine JE.blk_miss rfl ?_ | refine JE.then_ret ?_ | refine JE.blk_ret ?_ | refine JC.label ?_ | refine JL.gon rfl rfl ?_ | refine JL.gskip rfl rfl rfl rfl ?_ | refine JL.gskipU rfl rfl rfl rfl ?_)
    refine JC.ret ?_
    repeat (first | refine JL.q (by first | (apply OQ.move; exact rfl) | (apply OQ.assign; exact rfl) | (apply OQ.nilc; exact rfl) | (apply OQ.len; exact rfl; exact rfl) | (apply OQ.addN; exact rfl; exact rfl; exact (by (try simp only []); omega)) | (apply OQ.subN; exact rfl; exact rfl; exact (by (try simp only []); omega); exact (by (try simp only []); omega)) | (apply OQ.lssN; exact rfl; exact rfl) | (apply OQ.gtrN; exact rfl; exact rfl) | (apply OQ.fld; exact rfl; exact rfl; exact rfl; exact (by decide); exact rfl)) rfl ?_ | refine JC.seq ?_ | refine JC.region ?_ | refine JC.block ?_ | refine JC.skip ?_ | refine JC.exit ?_ | refine JL.nil ?_ | refine JE.next ?_ | refine JE.blk_normal ?_ | refine JE.then_exit ?_ | refine JE.blk_hit ?_ | refine JE.blk_miss rfl ?_ | refine JE.then_ret ?_ | refine JE.blk_ret ?_ | refine JC.label ?_ | refine JL.gon rfl rfl ?_ | refine JL.gskip rfl rfl rfl rfl ?_ | refine JL.gskipU rfl rfl rfl rfl ?_)
    exact JE.ret1 rfl (RV.tmp rfl) fun w' hw => ⟨rfl, hw.chg⟩
end Go.Proofs.Ytopdkpeahhnihaa
