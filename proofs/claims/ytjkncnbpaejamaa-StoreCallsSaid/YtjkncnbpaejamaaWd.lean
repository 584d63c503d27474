/-
  Of no statement by itself: the texts Shpx, StoD, StoE, StoF, StoG, StoH, StoI, Slja, Slj3, StoJ, StoAb, StoAc, StoAe, StoAa, StoAd, StoK, Plain, Elm, StoT, StoU, StoV, JrnV, StoX in one.
  Conditions: each theorem's own.
-/
import Derived.Test.YtjkncnbpaejamaaWc
import Derived.Test.YtjkncnbpaejamaaProg
import Derived.Test.YtjkncnbpaejamaaRows
import Derived.ProofKit
import Derived.OpenShut
import Derived.Below
import Derived.Stop.Joined
import Derived.ChangeMaps5
import Derived.Deep.Slices
import Derived.Deep.SlicePairs
set_option linter.unusedSimpArgs false
set_option linter.unusedVariables false
/-
  Of no statement by itself: strings.HasPrefix at any texts.
  Conditions: each theorem's own.
-/
namespace Go.Proofs.Ytjkncnbpaejamaa
set_option maxRecDepth 10000
open Sl
theorem goes_shpx : Goes Try.prog 53 := ⟨_, Try.func53, rfl, by kernel_rfl⟩
theorem goes_shpy : Goes Try.prog 65 := ⟨_, Try.func65, rfl, by kernel_rfl⟩
set_option maxHeartbeats 2000000 in
theorem shpy_any (s d : List Bt) (w : World) : Calls Try.prog 65 [Z s, Z d].toArray w fun e w' => e = .returned (.bool (decide (s.take d.length = d))) ∧ Ext w w' := by
  refine enter (n := 18) Try.func65 rfl rfl rfl (Holds.start w []) ?_
  cases h1 : decide ((d.length : Int) ≤ (s.length : Int))
  · have hF : decide (s.take d.length = d) = false := decide_eq_false fun e => by
      have := congrArg List.length e
      rw [List.length_take] at this
      have := of_decide_eq_false h1
      omega
    rw [hF]
    repeat (first | refine JL.q (by first | (apply OQ.lenS; exact Try.underlying9; exact rfl) | (apply OQ.geqB (b := (d.length : Int)); exact rfl; exact rfl; exact h1) | (apply OQ.pick_f; exact rfl; exact rfl) | (apply OQ.move; exact rfl) | (apply OQ.assign; exact rfl)) rfl ?_ | refine JC.seq ?_ | refine JC.region ?_ | refine JL.nil ?_ | refine JE.next ?_ | refine JL.gskip rfl rfl rfl rfl ?_)
    exact JC.ret (JE.ret1 rfl (RV.tmp rfl) fun w' hw => ⟨rfl, hw.chg⟩)
  · have hle : d.length ≤ s.length := by have := of_decide_eq_true h1; omega
    cases h2 : decide (s.take d.length = d)
    all_goals (repeat (first | refine JL.q (by first | (apply OQ.lenS; exact Try.underlying9; exact rfl) | (apply OQ.geqB (b := (d.length : Int)); exact rfl; exact rfl; exact h1) | (apply OQ.subS_hi (j := d.length); exact Try.underlying9; exact rfl; exact rfl; exact hle) | (apply OQ.eqSB; exact rfl; exact rfl; exact h2) | (apply OQ.pick_t; exact rfl; exact rfl) | (apply OQ.move; exact rfl) | (apply OQ.assign; exact rfl)) rfl ?_ | refine JC.seq ?_ | refine JC.region ?_ | refine JL.nil ?_ | refine JE.next ?_ | refine JL.gon rfl rfl ?_))
    all_goals exact JC.ret (JE.ret1 rfl (RV.tmp rfl) fun w' hw => ⟨rfl, hw.chg⟩)
theorem shpx_any (s d : List Bt) (w : World) : Calls Try.prog 53 [Z s, Z d].toArray w fun e w' => e = .returned (.bool (decide (s.take d.length = d))) ∧ Ext w w' := by
  refine enter (n := 8) Try.func53 rfl rfl rfl (Holds.start w []) ?_
  have hq := fun w' => shpy_any s d w'
  repeat (first | refine JL.q (by first | (apply OQ.callx (vs := [Z s, Z d]); exact goes_shpy; exact rfl; exact (fun w' _ => hq w')) | (apply OQ.move; exact rfl) | (apply OQ.assign; exact rfl)) rfl ?_ | refine JC.seq ?_ | refine JC.region ?_ | refine JL.nil ?_ | refine JE.next ?_)
  exact JC.ret (JE.ret1 rfl (RV.tmp rfl) fun w' hw => ⟨rfl, hw.chg⟩)
end Go.Proofs.Ytjkncnbpaejamaa

/-
  Of no statement by itself: the landed store's values: keys, pairs.
  Conditions: each theorem's own.
-/
namespace Go.Proofs.Ytjkncnbpaejamaa
set_option maxRecDepth 10000
open Sl Dsk Jrn Sto
theorem strS16 : szT Try.prog 9 = some 1 := by kernel_rfl
theorem strI16 : EI Try.prog 9 (Z []) 1 16 := by unfold EI; kernel_rfl
def preB16 (front k : Bk) : Bool := decide (k.take front.length = front)
/-- the keys with a front, rising -/
def keysM (mm : MV) (front : Bk) : List Bk := sortK ((mm.filter fun e => preB16 front e.key).map ME.key)
theorem sortK_eq {ks ts : List Bk} (h : ks.Perm ts) : sortK ks = sortK ts :=
  List.Perm.eq_of_pairwise (le := fun a b => klt b a = false) (fun a b _ _ h1 h2 => by
    by_cases e : a = b
    · exact e
    · have := klt_total a b e h2; rw [h1] at this; cases this) (sortK_pair ks) (sortK_pair ts) ((sortK_perm ks).trans (h.trans (sortK_perm ts).symm))
theorem keysM_is {mm : MV} {vs : VL} (hs : Srt vs) (hm : MapIs mm vs) (front : Bk) : keysM mm front = (vs.filter fun p => preB16 front p.1).map Prod.fst := by
  unfold keysM
  refine sortK_is ?_ ?_
  · have h := (hm.filter fun p => preB16 front p.1).map Prod.fst
    unfold mvp at h
    rw [List.filter_map, List.map_map] at h
    exact h
  · rw [List.pairwise_map]
    exact hs.sublist List.filter_sublist
theorem keysM_len {mm : MV} {front : Bk} : (keysM mm front).length ≤ mm.length := by
  unfold keysM
  rw [sortK_len, List.length_map]
  exact List.length_filter_le _ _
structure Ks where
  q : Acc
  done : MV
  rest : MV
def Ks.ks (z : Ks) (front : Bk) : List Bk := (z.done.filter fun e => preB16 front e.key).map ME.key
theorem goes_keys : Goes Try.prog 35 := ⟨_, Try.func35, rfl, by kernel_rfl⟩
set_option maxHeartbeats 16000000 in
theorem keys_any (b : Nat) (mm : MV) (c : Nat) (front : Bk) (w : World) (hf : WF mm c) (hb : ∃ o, w.heap[b]? = some o ∧ MvB (mm, c) o) (hn : mm.length ≤ 4294967296) :
    Calls Try.prog 35 [.map (some b), Z front].toArray w fun e w' => ∃ q : {q : Acc // q = none → keysM mm front = []}, e = .returned (accV q.1 (keysM mm front).length) ∧ Holds w [] (accE 9 q.1 ((keysM mm front).map Z)) w' := by
  obtain ⟨o, ho, hA⟩ := hb
  refine enter (n := 23) Try.func35 rfl rfl rfl (Holds.seen (S := []) ho hA) ?_
  repeat (first | refine JL.q (by first | (apply OQ.move; exact rfl) | (apply OQ.assign; exact rfl)) rfl ?_ | refine JC.seq ?_ | refine JC.region ?_ | refine JL.nil ?_ | refine JE.next ?_)
  refine JL.mapRange Try.underlying65 rfl .here rfl fun r _ => ?_
  repeat (first | refine JC.block ?_ | refine JL.nil ?_ | refine JE.next ?_)
  refine JC.loop (fun z : Ks => [(1, Z front), (5, accV z.q (z.ks front).length), (8, Pt r 0)]) (fun z => ⟨r, IB b c (z.done.map ME.born) c, true⟩ :: ⟨b, MvB (mm, c), false⟩ :: accE 9 z.q ((z.ks front).map Z)) (fun z => z.rest.length) (fun z => (z.done ++ z.rest).Perm mm ∧ (z.q = none → z.ks front = [])) ⟨none, [], mm⟩ ⟨.refl _, fun _ => rfl⟩ (by repeat (first | exact SubE.nil | refine SubE.cons _ _ _ rfl ?_)) (Less.refl _) ?_
  rintro ⟨q, done, rest⟩ ⟨hp, hq⟩
  dsimp only [Ks.ks] at hp hq ⊢
  generalize hks : (done.filter fun e => preB16 front e.key).map ME.key = ks at hq
  have hlen : ks.length ≤ mm.length := by
    rw [← hks, List.length_map]
    refine Nat.le_trans (List.length_filter_le _ _) ?_
    rw [← hp.length_eq, List.length_append]
    omega
  repeat (first | refine JC.seq ?_ | refine JC.region ?_)
  refine JL.mapNext (f := Sl8.v) hf rfl (.there .here) (fun s' => .here) rfl (fun hall => ?_) (fun m hm hnew => ?_)
  · repeat (first | refine JL.q (by (apply OQ.extract; exact rfl; exact rfl)) rfl ?_ | refine JC.seq ?_ | refine JL.nil ?_ | refine JE.next ?_)
    refine JC.cond_false rfl rfl ?_
    have hr : rest = [] := by
      cases rest with
      | nil => rfl
      | cons x rest =>
        obtain ⟨y, hy, e⟩ := List.mem_map.1 (hall x (hp.mem_iff.1 (by simp)))
        have hnd := (hp.map ME.born).nodup_iff.2 hf.borns
        rw [List.map_append, List.map_cons, List.nodup_append] at hnd
        exact absurd e (hnd.2.2 _ (List.mem_map_of_mem hy) _ (by simp))
    subst hr
    rw [List.append_nil] at hp
    have hkk : sortK ks = keysM mm front := by
      rw [← hks]
      exact sortK_eq ((hp.filter _).map _)
    repeat (first | refine JL.q (by (apply OQ.move; exact rfl)) rfl ?_ | refine JC.seq ?_ | refine JC.region ?_ | refine JC.exit ?_ | refine JE.next ?_ | refine JE.then_exit ?_ | refine JE.blk_hit ?_)
    refine JL.perm (M' := accE 9 q (ks.map Z) ++ [⟨r, IB b c (done.map ME.born) c, true⟩, ⟨b, MvB (mm, c), false⟩]) ?_ (by exact List.perm_append_comm (l₁ := [_, _]))
    refine JL.callV (ι := Unit) (vs := [accV q ks.length]) (fun _ => .tuple #[]) (fun _ => accE 9 q ((sortK ks).map Z)) goes_sortS rfl rfl (accE_wr _ _ _) (fun _ => accE_wr _ _ _) (fun w' h0 hw' => (sorts_any q ks hq (by omega) w' hw').mono fun _ _ ⟨h1, h2⟩ => ⟨(), h1, h2⟩) fun _ => ?_
    rw [hkk]
    have hl2 : ks.length = (keysM mm front).length := by rw [← hkk, sortK_len]
    rw [hl2]
    repeat (first | refine JL.q (by first | (apply OQ.move; exact rfl) | (apply OQ.assign; exact rfl)) rfl ?_ | refine JC.seq ?_ | refine JC.region ?_ | refine JL.nil ?_ | refine JE.next ?_)
    exact JC.ret (JE.ret1 rfl (RV.tmp rfl) fun w' hw => ⟨⟨q, fun e => by rw [← hkk, hq e]; exact List.length_eq_zero_iff.1 (sortK_len [])⟩, rfl, hw.weak (less_pre _ _)⟩)
  · have hmr : m ∈ rest := by
      rcases List.mem_append.1 (hp.mem_iff.2 hm) with h | h
      · exact absurd (List.mem_map_of_mem h) hnew
      · exact h
    obtain ⟨s1, s2, rfl⟩ := List.append_of_mem hmr
    have hp' : ((done ++ [m]) ++ (s1 ++ s2)).Perm mm := by
      refine List.Perm.trans ?_ hp
      rw [List.append_assoc]
      exact (List.Perm.append_left _ (by rw [List.singleton_append]; exact List.perm_middle.symm))
    have hmu : (s1 ++ s2).length < (s1 ++ m :: s2).length := by simp
    repeat (first | refine JL.q (by (apply OQ.extract; exact rfl; exact rfl)) rfl ?_ | refine JC.seq ?_ | refine JL.nil ?_ | refine JE.next ?_)
    refine JC.cond_true rfl rfl ?_
    have hpx := fun w' => shpx_any m.key front w'
    cases g1 : decide (m.key.take front.length = front)
    · rw [g1] at hpx
      repeat (first | refine JL.q (by first | (apply OQ.entry; exact hf; exact rfl; exact (.there .here); exact .here; exact hm) | (apply OQ.extract; exact rfl; exact rfl) | (apply OQ.callx (vs := [Z m.key, Z front]); exact goes_shpx; exact rfl; exact (fun w' _ => hpx w')) | (apply OQ.move; exact rfl) | (apply OQ.assign; exact rfl)) rfl ?_ | refine JC.seq ?_ | refine JC.region ?_ | refine JC.block ?_ | refine JC.skip ?_ | refine JL.nil ?_ | refine JE.next ?_)
      refine JC.cond_false rfl rfl ?_
      repeat (first | refine JC.skip ?_ | refine JE.blk_normal ?_)
      have hk2 : ((done ++ [m]).filter fun e => preB16 front e.key).map ME.key = ks := by
        rw [List.filter_append, List.map_append, hks]
        have : preB16 front m.key = false := g1
        simp [this]
      refine JE.again (i := Ks.mk q done (s1 ++ m :: s2)) ⟨q, done ++ [m], s1 ++ s2⟩ ⟨hp', ?_⟩ hmu ?_ ?_
      · dsimp only [Ks.ks]; rw [hk2]; exact hq
      · dsimp only [Ks.ks]; rw [hk2]; exact (by repeat (first | exact SubE.nil | refine SubE.cons _ _ _ rfl ?_))
      · dsimp only [Ks.ks]; rw [hk2, List.map_append]; exact Less.refl _
    · rw [g1] at hpx
      repeat (first | refine JL.q (by first | (apply OQ.entry; exact hf; exact rfl; exact (.there .here); exact .here; exact hm) | (apply OQ.extract; exact rfl; exact rfl) | (apply OQ.callx (vs := [Z m.key, Z front]); exact goes_shpx; exact rfl; exact (fun w' _ => hpx w')) | (apply OQ.move; exact rfl) | (apply OQ.assign; exact rfl)) rfl ?_ | refine JC.seq ?_ | refine JC.region ?_ | refine JC.block ?_ | refine JC.skip ?_ | refine JL.nil ?_ | refine JE.next ?_)
      refine JC.cond_true rfl rfl ?_
      repeat (first | refine JL.q (by (apply OQ.move; exact rfl)) rfl ?_ | refine JC.region ?_)
      refine JL.lit1 (v := Z m.key) Try.underlying41 strI16 rfl rfl rfl rfl fun bl _ => ?_
      refine JL.perm (M' := accE 9 q (ks.map Z) ++ [⟨bl, Row 9 [Z m.key], true⟩, ⟨r, IB b c (done.map ME.born ++ [m.born]) c, true⟩, ⟨b, MvB (mm, c), false⟩]) ?_ (by exact List.perm_append_comm (l₁ := [_, _, _]))
      refine JL.appendQ (xs := ks.map Z) (cs := [Z m.key]) (m := 1) (ad := some ⟨bl, 0, none⟩) (sc := 1) q Try.underlying41 strI16 (fun e => by rw [hq e]; rfl) (by rw [List.length_map]; rfl) rfl rfl (fun w' hw' => ?_) (by simp [Value.oneCell']) rfl (by rw [List.length_map]; omega) (by rw [List.length_map]; omega) rfl fun q1 hq1 => ?_
      · obtain ⟨o, ho, hA⟩ := hw'.get (b := bl) (A := Row 9 [Z m.key]) (wr := true) (hasR .here)
        exact Reads.block ho (Row.all o hA)
      have hk2 : ((done ++ [m]).filter fun e => preB16 front e.key).map ME.key = ks ++ [m.key] := by
        rw [List.filter_append, List.map_append, hks]
        have : preB16 front m.key = true := g1
        simp [this]
      rw [show ks.map Z ++ [Z m.key] = (ks ++ [m.key]).map Z by simp, List.length_map]
      repeat (first | refine JL.q (by (apply OQ.assign; exact rfl)) rfl ?_ | refine JL.nil ?_ | refine JE.blk_normal ?_)
      refine JE.perm (List.perm_append_comm (l₂ := [_, _, _])) ?_
      refine JE.again (i := Ks.mk q done (s1 ++ m :: s2)) ⟨q1, done ++ [m], s1 ++ s2⟩ ⟨hp', ?_⟩ hmu ?_ ?_
      · dsimp only [Ks.ks]; rw [hk2]; intro e; have := hq1 e; simp at this
      · dsimp only [Ks.ks]; rw [hk2]; exact (by repeat (first | exact SubE.nil | refine SubE.cons _ _ _ rfl ?_))
      · dsimp only [Ks.ks]; rw [hk2, List.map_append]; exact .drop _ _ _ (Less.refl _)
/-- the pairs that make the values of nothing, in memory -/
def pairsM (mm : MV) : List PqS := (keysM mm []).map fun k => ⟨k, (look mm k).getD nilS, false⟩
theorem look_in {mm : MV} {k : Bk} {s : Sl8} : look mm k = some s → ∃ e ∈ mm, e.key = k ∧ e.val = s := by
  induction mm with
  | nil => intro h; cases h
  | cons x mm ih =>
    intro h
    rw [look_cons] at h
    split at h
    · next hk => exact ⟨x, by simp, hk.symm, Option.some.inj h⟩
    · obtain ⟨e, he, h1⟩ := ih h
      exact ⟨e, by simp [he], h1⟩
theorem look_get {mm : MV} {vs : VL} {c : Nat} (hf : WF mm c) (hs : Srt vs) (hm : MapIs mm vs) (k : Bk) : (look mm k).map Sl8.l = getV vs k := by
  cases h : look mm k with
  | none =>
    have h1 := look_none.1 h
    cases h2 : getV vs k with
    | none => rfl
    | some v =>
      have := hm.mem_iff.2 ((getV_mem hs.keys).1 h2)
      obtain ⟨e, he, h3⟩ := List.mem_map.1 this
      exact absurd (List.mem_map.2 ⟨e, he, congrArg Prod.fst h3⟩) h1
  | some s =>
    obtain ⟨e, he, h1, h2⟩ := look_in h
    exact ((getV_mem hs.keys).2 (hm.mem_iff.1 (List.mem_map.2 ⟨e, he, by rw [h1, h2]⟩))).symm
theorem pairsM_is {mm : MV} {vs : VL} {c : Nat} (hf : WF mm c) (hs : Srt vs) (hm : MapIs mm vs) : (pairsM mm).map PqS.p = pairsV vs := by
  unfold pairsM pairsV
  rw [keysM_is hs hm, List.filter_eq_self.2 fun p _ => by show decide (p.1.take 0 = []) = true; simp, List.map_map, List.map_map]
  refine List.map_congr_left fun p hp => ?_
  have h := look_get hf hs hm p.1
  rw [(getV_mem hs.keys).2 (show (p.1, p.2) ∈ vs from hp)] at h
  cases h2 : look mm p.1 with
  | none => rw [h2] at h; cases h
  | some s =>
    rw [h2] at h
    simp only [Option.map_some, Option.some.injEq] at h
    simp [PqS.p, h2, h]
theorem pairsM_in {mm : MV} {p : PqS} (h : p ∈ pairsM mm) : p.s = nilS ∨ p.s ∈ mm.map ME.val := by
  obtain ⟨k, _, rfl⟩ := List.mem_map.1 h
  dsimp only
  cases h2 : look mm k with
  | none => exact .inl rfl
  | some s =>
    obtain ⟨e, he, _, h1⟩ := look_in h2
    exact .inr (List.mem_map.2 ⟨e, he, h1⟩)
theorem pairsM_len {mm : MV} : (pairsM mm).length ≤ mm.length := by unfold pairsM; rw [List.length_map]; exact keysM_len
section
variable {n : Nat} {E : Env} {C : World → Prop} {dst : Option Tmp} {ty : TypeId} {pos : String} {aft : Array Edge} {g : Option (Nat × Bool)} {x1 x2 : Operand} {s : Sl8}
theorem OQ.buildP2 {key : Bk} (h1 : ev E x1 = some (Z key)) (h2 : ev E x2 = some s.v) :
    OQ Try.prog n E C ⟨dst, .build 44 #[(0, x1), (1, x2)], ty, pos, aft, g⟩ (.agg #[Z key, s.v, .bool false]) :=
  OQ.run fun a ha w _ => by
    have e1 := ha.eval h1
    have e2 := ha.eval h2
    have r := run_build (P := Try.prog) w 44 #[(0, Z key), (1, s.v)] #[Z key, s.v, .bool false] (by kernel_rfl)
    simp [execOp, e1, e2, r]
end
theorem sl8Z16 : (Try.prog.info? 33).bind (·.zero) = some (.slice none 0 0) := by kernel_rfl
theorem look_v (o : Option Sl8) : lookV (o.map Sl8.v) (.slice none 0 0) false = (o.getD nilS).v := by cases o <;> rfl
theorem goes_pairs : Goes Try.prog 51 := ⟨_, Try.func51, rfl, by kernel_rfl⟩
set_option maxHeartbeats 16000000 in
theorem pairs_any (b : Nat) (mm : MV) (c : Nat) (w : World) (hf : WF mm c) (hb : ∃ o, w.heap[b]? = some o ∧ MvB (mm, c) o) (hn : mm.length ≤ 4294967296) :
    Calls Try.prog 51 [.map (some b)].toArray w fun e w' => ∃ q : {q : Acc // q = none → pairsM mm = []}, e = .returned (accV q.1 (pairsM mm).length) ∧ Holds w [] (accC 44 3 q.1 ((pairsM mm).map PqS.cs)) w' := by
  have hb0 := hb
  obtain ⟨o, ho, hA⟩ := hb
  have hlen := pairsM_len (mm := mm)
  refine enter (n := 23) Try.func51 rfl rfl rfl (Holds.seen (S := []) ho hA) ?_
  repeat (first | refine JL.q (by first | (apply OQ.move; exact rfl) | (apply OQ.assign; exact rfl)) rfl ?_ | refine JC.seq ?_ | refine JC.region ?_ | refine JL.nil ?_ | refine JE.next ?_)
  refine JL.callg (ι := {q : Acc // q = none → keysM mm [] = []}) (vs := [.map (some b), Z []]) (fun q => accV q.1 (keysM mm []).length) (fun q => accE 9 q.1 ((keysM mm []).map Z)) goes_keys rfl rfl (fun _ => accE_wr _ _ _) (fun w' hw' => keys_any b mm c [] w' hf (hw'.get .here) hn) fun qk => ?_
  obtain ⟨qk, hqk⟩ := qk
  dsimp only
  have hpk : (pairsM mm).length = (keysM mm []).length := by unfold pairsM; rw [List.length_map]
  generalize hks : keysM mm [] = ks at hqk hpk
  have hav : ∃ (ad : Option Addr) (cap : Nat), accV qk ks.length = .slice ad ks.length cap := by
    cases qk with
    | none => exact ⟨none, 0, by rw [hqk rfl]; rfl⟩
    | some p => exact ⟨_, _, rfl⟩
  obtain ⟨ad, cap, hav⟩ := hav
  rw [hav]
  repeat (first | refine JL.q (by first | (apply OQ.len (k := ks.length) (ad := ad) (cap := cap); exact Try.underlying41; exact rfl) | (apply OQ.move; exact rfl)) rfl ?_ | refine JC.block ?_ | refine JL.nil ?_ | refine JE.next ?_)
  rw [← hav]
  refine JC.loop (fun z : Nat × Acc => [(0, .map (some b)), (3, accV z.2 ((pairsM mm).take z.1).length), (7, accV qk ks.length), (8, N ks.length), (9, N z.1)]) (fun z => accC 44 3 z.2 (((pairsM mm).take z.1).map PqS.cs) ++ (accE 9 qk (ks.map Z) ++ [⟨b, MvB (mm, c), false⟩])) (fun z => ks.length - z.1) (fun z => z.1 ≤ ks.length ∧ (z.2 = none → (pairsM mm).take z.1 = [])) (0, none) ⟨Nat.zero_le _, fun _ => rfl⟩ (by repeat (first | exact SubE.nil | refine SubE.cons _ _ _ rfl ?_)) (Less.refl _) ?_
  rintro ⟨i, q⟩ ⟨hi, hq⟩
  dsimp only at hi hq ⊢
  repeat (first | refine JL.q (by (apply OQ.lssN; exact rfl; exact rfl)) rfl ?_ | refine JC.seq ?_ | refine JC.region ?_ | refine JL.nil ?_ | refine JE.next ?_)
  refine JC.cond rfl (fun hc => ?_) (fun hc => ?_)
  · have hi' : i < ks.length := Nat.lt_of_not_le fun h => by have := of_decide_eq_true hc; omega
    clear hc
    cases qk with
    | none => rw [hqk rfl] at hi'; cases hi'
    | some p =>
    obtain ⟨gk, ck⟩ := p
    have hki : ks[i]? = some ks[i] := List.getElem?_eq_getElem hi'
    generalize ks[i] = key at hki
    have hav2 : accV (some (gk, ck)) ks.length = .slice (some ⟨gk, 0, none⟩) ks.length ck := rfl
    have ht : (pairsM mm).take (i + 1) = (pairsM mm).take i ++ [⟨key, (look mm key).getD nilS, false⟩] := by
      rw [List.take_add_one]
      unfold pairsM
      rw [hks, List.getElem?_map, hki]
      rfl
    have hlv : ∃ sl, (look mm key).getD nilS = sl := ⟨_, rfl⟩
    obtain ⟨sl, hsl⟩ := hlv
    have hlv : lookV ((look mm key).map Sl8.v) (.slice none 0 0) false = sl.v := by rw [look_v, hsl]
    rw [hsl] at ht
    have hq0 : q = none → ((pairsM mm).take i).map PqS.cs = [] := fun e => by rw [hq e]; rfl
    have hm : (((pairsM mm).take i).map PqS.cs).length = ((pairsM mm).take i).length := List.length_map _
    have hml : ((pairsM mm).take i).length ≤ 4294967296 := by rw [List.length_take]; omega
    have hkz : (ks.map Z)[i]? = some (Z key) := by rw [List.getElem?_map, hki]; rfl
    repeat (first | refine JL.q (by first | (apply OQ.idxS0 (i := i); exact Try.underlying41; exact strS16; exact (congrArg some hav2); exact rfl; exact hi') | (apply OQ.load; exact strC; exact rfl; exact (hasR .here); exact (Sl.Own.cell hkz)) | (apply OQ.to; exact (OQ.look (ok := false) Try.underlying65 Try.underlying9 sl8Z16 rfl rfl (hasR (.there .here))); exact hlv) | (apply OQ.buildP2; exact rfl; exact rfl) | (apply OQ.move; exact rfl) | (apply OQ.assign; exact rfl)) rfl ?_ | refine JC.seq ?_ | refine JC.region ?_ | refine JC.block ?_ | refine JC.skip ?_ | refine JL.nil ?_ | refine JE.next ?_)
    refine JL.litA (cs := (PqS.mk key sl false).cs) Try.underlying32 prI rfl (by decide) (by decide) rfl rfl rfl fun bl _ => ?_
    refine JL.appendC (c := (PqS.mk key sl false).cs) (L := ((pairsM mm).take i).map PqS.cs) q Try.underlying32 prI hq0 (by rw [hm]; rfl) rfl rfl (fun u hu => List.all_eq_true.1 (PqS.one _) u hu) rfl (by decide) (by rw [hm]; omega) (by rw [hm]; omega) rfl fun b' cap' => ?_
    have eM : ((pairsM mm).take i).map PqS.cs ++ [(PqS.mk key sl false).cs] = ((pairsM mm).take (i + 1)).map PqS.cs := by rw [ht, List.map_append, List.map_singleton]
    rw [eM, List.length_map]
    repeat (first | refine JL.q (by first | (apply OQ.move; exact rfl) | (apply OQ.assign; exact rfl) | (apply OQ.addN; exact rfl; exact rfl; exact (by (try simp only []); omega))) rfl ?_ | refine JC.region ?_ | refine JL.nil ?_ | refine JE.next ?_ | refine JE.blk_normal ?_)
    exact JE.again (i := (i, q)) (i + 1, some (b', cap')) ⟨hi', nofun⟩ (by dsimp only; omega) (by repeat (first | exact SubE.nil | refine SubE.cons _ _ _ rfl ?_)) (Less.refl _)
  · have hi' : i = ks.length := by have := of_decide_eq_false hc; omega
    have hf : (pairsM mm).take i = pairsM mm := List.take_of_length_le (by omega)
    rw [hf] at hq ⊢
    repeat (first | refine JL.q (by first | (apply OQ.move; exact rfl) | (apply OQ.assign; exact rfl)) rfl ?_ | refine JC.seq ?_ | refine JC.region ?_ | refine JC.exit ?_ | refine JL.nil ?_ | refine JE.next ?_ | refine JE.then_exit ?_ | refine JE.blk_hit ?_)
    exact JC.ret (JE.ret1 rfl (RV.tmp rfl) fun w' hw => ⟨⟨q, hq⟩, rfl, hw.weak (less_pre _ _)⟩)
end Go.Proofs.Ytjkncnbpaejamaa

/-
  Of no statement by itself: a store in memory; the landed store's Get, Keys.
  Conditions: each theorem's own.
-/
namespace Go.Proofs.Ytjkncnbpaejamaa
set_option maxRecDepth 10000
open Sl Dsk Jrn Sto
namespace Sto
/-! ### how great values are -/
def szP (p : Pq) : Nat := 7 + p.key.length + p.val.length
def szL (l : List Pq) : Nat := (l.map szP).sum
def szV (vs : VL) : Nat := (vs.map fun p => 7 + p.1.length + p.2.length).sum
theorem szV_cons (p : Bk × Bk) (vs : VL) : szV (p :: vs) = 7 + p.1.length + p.2.length + szV vs := by simp [szV]
theorem szL_cons (p : Pq) (l : List Pq) : szL (p :: l) = szP p + szL l := by simp [szL]
theorem szL_append (a b : List Pq) : szL (a ++ b) = szL a + szL b := by simp [szL]
theorem insV_sz (k v : Bk) : ∀ (vs : VL), szV (insV k v vs) ≤ 7 + k.length + v.length + szV vs
  | [] => by simp [insV, szV]
  | p :: vs => by
    have ih := insV_sz k v vs
    rw [insV]
    split
    · rw [szV_cons, szV_cons]; omega
    · split
      · rw [szV_cons, szV_cons]; simp only; omega
      · rw [szV_cons]; simp only; omega
theorem delV_sz (k : Bk) : ∀ (vs : VL), szV (delV k vs) ≤ szV vs
  | [] => Nat.le_refl _
  | p :: vs => by
    have ih := delV_sz k vs
    rw [delV]
    split
    · rw [szV_cons, szV_cons]; omega
    · split
      · rw [szV_cons]; omega
      · exact Nat.le_refl _
theorem doV_sz (vs : VL) (p : Pq) : szV (doV vs p) ≤ szV vs + szP p := by
  unfold doV szP
  split
  · have := delV_sz p.key vs; omega
  · have := insV_sz p.key p.val vs; omega
theorem doL_sz : ∀ (l : List Pq) (vs : VL), szV (doL vs l) ≤ szV vs + szL l
  | [], vs => by simp [doL]
  | p :: l, vs => by
    have h1 := doL_sz l (doV vs p)
    have h2 := doV_sz vs p
    rw [szL_cons]
    show szV (doL (doV vs p) l) ≤ _
    omega
theorem szV_len (vs : VL) : 7 * vs.length ≤ szV vs := by
  induction vs with
  | nil => simp [szV]
  | cons p vs ih => rw [szV_cons, List.length_cons]; omega
theorem szV_mem {vs : VL} {p : Bk × Bk} (h : p ∈ vs) : p.1.length + p.2.length ≤ szV vs := by
  induction vs with
  | nil => cases h
  | cons q vs ih =>
    rw [szV_cons]
    rcases List.mem_cons.1 h with rfl | h
    · omega
    · have := ih h; omega
theorem encL_sz (l : List Pq) : (encL l).length = szL l := by
  induction l with
  | nil => rfl
  | cons p l ih =>
    have e : encL (p :: l) = encP p ++ encL l := rfl
    rw [e, List.length_append, encP_len, ih, szL_cons]
    rfl
theorem szL_pairs (vs : VL) : szL (pairsV vs) = szV vs := by
  unfold szL szV pairsV
  rw [List.map_map]
  rfl
/-! ### keys that may be -/
def okV (vs : VL) : Prop := ∀ p ∈ vs, 1 ≤ p.1.length ∧ p.1.length ≤ 1000
theorem okP_keep {p : Pq} (h : okP p = true) : 1 ≤ p.key.length ∧ p.key.length ≤ 1000 := ⟨(okP_len h).1, (okP_len h).2.1⟩
theorem doV_ok {vs : VL} {p : Pq} (h : okV vs) (hp : okP p = true) : okV (doV vs p) := by
  unfold doV
  split
  · exact fun q hq => h q ((delV_sub _ _).subset hq)
  · intro q hq
    rcases insV_mem hq with rfl | hq
    · exact okP_keep hp
    · exact h q hq
theorem doL_ok : ∀ {l : List Pq} {vs : VL}, okV vs → okL l = true → okV (doL vs l)
  | [], _, h, _ => h
  | p :: l, vs, h, hl => by
    unfold okL at hl
    rw [List.all_cons, Bool.and_eq_true] at hl
    exact doL_ok (l := l) (doV_ok h hl.1) hl.2
theorem okV_pairs {vs : VL} (h : okV vs) : okL (pairsV vs) = true := by
  unfold okL pairsV
  rw [List.all_map, List.all_eq_true]
  intro p hp
  have := h p hp
  show okP ⟨p.1, p.2, false⟩ = true
  unfold okP
  simp only [Bool.and_eq_true, decide_eq_true_eq, Bool.false_and, Bool.not_false, and_true]
  exact ⟨this.1, this.2⟩
theorem decAll_ok : ∀ {rs : List Bk} {l : List Pq}, decAll rs = some l → okL l = true ∧ szL l = (rs.map List.length).sum
  | [], l, h => by rw [decAll, Option.some.injEq] at h; subst h; exact ⟨rfl, rfl⟩
  | r :: rs, l, h => by
    rw [decAll] at h
    cases h1 : dec r with
    | none => rw [h1] at h; cases h
    | some a =>
      cases h2 : decAll rs with
      | none => rw [h1, h2] at h; cases h
      | some b =>
        rw [h1, h2] at h
        cases h
        have ⟨i1, i2⟩ := decAll_ok h2
        have ⟨j1, j2⟩ := dec_ok h1
        refine ⟨by unfold okL at *; rw [List.all_append, j1, i1]; rfl, ?_⟩
        rw [szL_append, i2, List.map_cons, List.sum_cons, ← j2]
        rfl
theorem room_sz (rs : List Bk) : (rs.map List.length).sum ≤ 42 * room rs := by
  induction rs with
  | nil => simp
  | cons r rs ih =>
    rw [room_cons, List.map_cons, List.sum_cons]
    have : r.length ≤ 42 * nb r.length := by unfold nb; omega
    omega
end Sto
/-! ### a store in memory -/
structure Sz where
  p : Nat
  mb : Nat
  mm : MV
  c : Nat
  j : Nat
  h : Hf
  bl : List Bk
def Sz.cs (z : Sz) : List Value := [Pt z.j 0, .map (some z.mb)]
def Sz.E (z : Sz) : List Ent := ⟨z.p, Row 72 z.cs, true⟩ :: ⟨z.mb, MvB (z.mm, z.c), true⟩ :: (jnE z.j z.h z.bl [] ++ flatE (z.mm.map ME.val))
theorem Sz.wr (z : Sz) : ∀ e ∈ z.E, e.wr = true := by
  intro e he
  rcases List.mem_cons.1 he with rfl | he
  · rfl
  · rcases List.mem_cons.1 he with rfl | he
    · rfl
    · rcases List.mem_append.1 he with he | he
      · exact jnE_wr _ _ _ _ e he
      · exact flatE_wr _ e he
structure Sz.ok (z : Sz) (recs : List Bk) (vs : VL) : Prop where
  wf : WF z.mm z.c
  is : MapIs z.mm vs
  srt : Srt vs
  h0 : ∀ x ∈ z.mm.map ME.val, x.ad = none → x.l = []
  jv : Jv z.h z.bl recs
  dk : DkOk z.h.x z.bl []
  vals : valsOf recs = some vs
namespace Sz.ok
variable {z : Sz} {recs : List Bk} {vs : VL}
theorem sz (k : z.ok recs vs) : szV vs ≤ 1400000 ∧ okV vs := by
  have h := k.vals
  unfold valsOf at h
  cases hd : decAll recs with
  | none => rw [hd] at h; cases h
  | some l =>
    rw [hd, Option.map_some, Option.some.injEq] at h
    have ⟨h1, h2⟩ := decAll_ok hd
    have h3 := doL_sz l []
    rw [h] at h3
    have h4 := room_sz recs
    have h5 := k.jv.r
    have h6 := k.jv.fs
    refine ⟨?_, h ▸ doL_ok (fun _ h => by cases h) h1⟩
    have : szV ([] : VL) = 0 := rfl
    omega
theorem len (k : z.ok recs vs) : z.mm.length = vs.length := by have := k.is.length_eq; unfold mvp at this; rwa [List.length_map] at this
theorem lenb (k : z.ok recs vs) : z.mm.length ≤ 200000 := by have := k.len; have := szV_len vs; have := k.sz.1; omega
theorem val (k : z.ok recs vs) {x : Sl8} (h : x ∈ z.mm.map ME.val) : x.l.length ≤ 1400000 := by
  obtain ⟨e, he, rfl⟩ := List.mem_map.1 h
  have := szV_mem (k.is.mem_iff.1 (List.mem_map.2 ⟨e, he, rfl⟩))
  have := k.sz.1
  dsimp only at *
  omega
theorem vok (k : z.ok recs vs) {u w : World} {S : List Nat} {M : List Ent} (hw : Holds u S (z.E ++ M) w) : ∀ x ∈ z.mm.map ME.val, x.ok w :=
  flat_ok (A := [⟨z.p, Row 72 z.cs, true⟩, ⟨z.mb, MvB (z.mm, z.c), true⟩] ++ jnE z.j z.h z.bl []) (by
    have h := hw.weak (M' := z.E) (less_pre _ _)
    unfold Sz.E at h
    simpa using h) k.h0
end Sz.ok
/-- what is only read of a store -/
def stR (p mb : Nat) (cs : List Value) (z : MV × Nat) : List Ent := [⟨p, Row 72 cs, false⟩, ⟨mb, MvB z, false⟩]
theorem stR_of {z : Sz} {u w : World} {S : List Nat} {M : List Ent} (hw : Holds u S (z.E ++ M) w) : Holds w [] (stR z.p z.mb z.cs (z.mm, z.c)) w :=
  (ro_holds hw).weak (.keep _ _ _ _ _ _ (fun _ h => h) (.keep _ _ _ _ _ _ (fun _ h => h) (.nil _)))
theorem ptC16 : scal Try.prog 68 = true := by kernel_rfl
theorem mpC16 : scal Try.prog 65 = true := by kernel_rfl
theorem goes_sGet : Goes Try.prog 24 := ⟨_, Try.func24, rfl, by kernel_rfl⟩
theorem goes_sKeys : Goes Try.prog 15 := ⟨_, Try.func15, rfl, by kernel_rfl⟩
theorem look_vt (o : Option Sl8) : lookV (o.map Sl8.v) (.slice none 0 0) true = .tuple #[(o.getD nilS).v, .bool o.isSome] := by cases o <;> rfl
set_option maxHeartbeats 8000000 in
theorem get_any (p mb : Nat) (j : Value) (mm : MV) (c : Nat) (key : Bk) (w : World) (h0 : Holds w [] (stR p mb [j, .map (some mb)] (mm, c)) w) (hv : ∀ x ∈ mm.map ME.val, x.ok w ∧ x.l.length ≤ 4294967296) :
    Calls Try.prog 24 [Pt p 0, Z key].toArray w fun e w' => ∃ q : {q : Acc // q = none → ((look mm key).getD nilS).l = []}, e = .returned (.tuple #[accV q.1 ((look mm key).getD nilS).l.length, .bool (look mm key).isSome]) ∧ Holds w [] (accE 5 q.1 (((look mm key).getD nilS).l.map U8)) w' := by
  have hs : ((look mm key).getD nilS).ok w ∧ ((look mm key).getD nilS).l.length ≤ 4294967296 := by
    cases h2 : look mm key with
    | none => exact ⟨nilS_ok w, by show (0 : Nat) ≤ _; omega⟩
    | some s =>
      obtain ⟨e, he, _, h1⟩ := look_in h2
      exact hv s (List.mem_map.2 ⟨e, he, h1⟩)
  have hlv := look_vt (look mm key)
  refine enter (n := 20) Try.func24 rfl rfl rfl h0 ?_
  unfold stR
  generalize hsl : (look mm key).getD nilS = sl at hs hlv
  generalize (look mm key).isSome = is at hlv
  repeat (first | refine JL.q (by first | (apply OQ.load; exact mpC16; exact rfl; exact .here; exact (Row.cell (v := .map (some mb)) rfl)) | (apply OQ.to; exact (OQ.look (ok := true) Try.underlying65 Try.underlying9 sl8Z16 rfl rfl (.there .here)); exact hlv) | (apply OQ.extract; exact rfl; exact rfl) | (apply OQ.move; exact rfl) | (apply OQ.assign; exact rfl) | (apply OQ.nilc; exact rfl) | (apply OQ.fld; exact rfl; exact rfl; exact rfl; exact (by decide); exact rfl)) rfl ?_ | refine JC.seq ?_ | refine JC.region ?_ | refine JL.nil ?_ | refine JE.next ?_)
  refine JL.callg (ι := { q : Acc // q = none → sl.l = [] }) (vs := [sl.v]) (fun q => accV q.1 sl.l.length) (fun q => accE 5 q.1 (sl.l.map U8)) goes_clone rfl rfl (fun q => accE_wr _ _ _) (fun w' hw' => (clone_any sl w' (hs.1.holds hw' rfl) hs.2).mono fun e w2 ⟨q, h1, h2, h3⟩ => ⟨⟨q, h2⟩, h1, h3⟩) fun q => ?_
  repeat (first | refine JL.q (by first | (apply OQ.move; exact rfl) | (apply OQ.assign; exact rfl)) rfl ?_ | refine JL.nil ?_ | refine JE.next ?_)
  exact JC.ret (JE.ret2 rfl (RV.tmp rfl) (RV.tmp rfl) fun w' hw => ⟨q, rfl, hw.weak (less_pre _ _)⟩)
set_option maxHeartbeats 8000000 in
theorem skeys_any (p mb : Nat) (j : Value) (mm : MV) (c : Nat) (front : Bk) (w : World) (hf : WF mm c) (h0 : Holds w [] (stR p mb [j, .map (some mb)] (mm, c)) w) (hn : mm.length ≤ 4294967296) :
    Calls Try.prog 15 [Pt p 0, Z front].toArray w fun e w' => ∃ q : {q : Acc // q = none → keysM mm front = []}, e = .returned (accV q.1 (keysM mm front).length) ∧ Holds w [] (accE 9 q.1 ((keysM mm front).map Z)) w' := by
  refine enter (n := 11) Try.func15 rfl rfl rfl h0 ?_
  unfold stR
  repeat (first | refine JL.q (by first | (apply OQ.load; exact mpC16; exact rfl; exact .here; exact (Row.cell (v := .map (some mb)) rfl)) | (apply OQ.move; exact rfl) | (apply OQ.assign; exact rfl) | (apply OQ.nilc; exact rfl) | (apply OQ.fld; exact rfl; exact rfl; exact rfl; exact (by decide); exact rfl)) rfl ?_ | refine JC.seq ?_ | refine JC.region ?_ | refine JL.nil ?_ | refine JE.next ?_)
  refine JL.callg (ι := {q : Acc // q = none → keysM mm front = []}) (vs := [.map (some mb), Z front]) (fun q => accV q.1 (keysM mm front).length) (fun q => accE 9 q.1 ((keysM mm front).map Z)) goes_keys rfl rfl (fun _ => accE_wr _ _ _) (fun w' hw' => keys_any mb mm c front w' hf (hw'.get (.there .here)) hn) fun q => ?_
  repeat (first | refine JL.q (by (apply OQ.assign; exact rfl)) rfl ?_ | refine JL.nil ?_ | refine JE.next ?_)
  exact JC.ret (JE.ret1 rfl (RV.tmp rfl) fun w' hw => ⟨q, rfl, hw.weak (less_pre _ _)⟩)
end Go.Proofs.Ytjkncnbpaejamaa

/-
  Of no statement by itself: the landed store's restart.
  Conditions: each theorem's own.
-/
namespace Go.Proofs.Ytjkncnbpaejamaa
set_option maxRecDepth 10000
open Sl Dsk Jrn Sto
/-- a slice of pairs of one's own, whose values' bytes lie elsewhere -/
def gpS (q : Acc) (l : List PqS) : SlP := match q with
  | none => ⟨none, 0, []⟩
  | some p => ⟨some ⟨p.1, 0, none⟩, p.2, l⟩
theorem gpS_l {q : Acc} {l : List PqS} (h : q = none → l = []) : (gpS q l).l = l := by
  cases q with
  | none => exact (h rfl).symm
  | some p => rfl
theorem gpS_v {q : Acc} {l : List PqS} (h : q = none → l = []) : (gpS q l).v = accV q l.length := by
  cases q with
  | none => rw [h rfl]; rfl
  | some p => rfl
theorem gpS_ok {q : Acc} {l : List PqS} {w0 w : World} {S : List Nat} {M : List Ent} (h : q = none → l = []) (hw : Holds w0 S (accC 44 3 q (l.map PqS.cs) ++ M) w) (ha : ∀ p ∈ l, p.s.ok w) : (gpS q l).ok w := by
  cases q with
  | none => exact ⟨Nat.le_refl _, Reads.nil _ _, nofun⟩
  | some p =>
    obtain ⟨o, ho, hA⟩ := hw.get (b := p.1) (A := Sl.Own 44 3 (l.map PqS.cs).length p.2 (l.map PqS.cs).flatten) (wr := true) .here
    have hc := hA
    obtain ⟨sp, _, _, _, h4⟩ := hc
    rw [List.length_map] at h4
    exact ⟨h4, Reads.block ho (Sl.Own.cells o hA), ha⟩
theorem perm_j (A B : List Ent) (c p m : Ent) (J F : List Ent) : (A ++ (B ++ (c :: p :: m :: (J ++ F)))).Perm (J ++ (A ++ (B ++ (c :: p :: m :: F)))) := by
  have := List.perm_append_comm_assoc (A ++ (B ++ [c, p, m])) J F
  simpa using this
/-- a store with other values, another journal -/
def Sz.put (z : Sz) (mc : MV × Nat) (h : Hf) (bl : List Bk) : Sz := ⟨z.p, z.mb, mc.1, mc.2, z.j, h, bl⟩
theorem goes_srst : Goes Try.prog 32 := ⟨_, Try.func32, rfl, by kernel_rfl⟩
/-- the bytes of the base that a store begins anew with -/
def baseOf (vs : VL) (l : List Pq) : Bk := encL (pairsV (doL vs l))
def rstV (z : Sz) (b : Bk) : Nat × Sz := if z.h.size < nb b.length ∨ gm z.bl = 4294967295#32 then (6, z) else (0, z.put (z.mm, z.c) (rstJ z.h z.bl b) (rstD z.h z.bl b))
set_option maxHeartbeats 16000000 in
theorem srst_any (z : Sz) (recs : List Bk) (vs : VL) (k : z.ok recs vs) (s : SlP) (w : World) (hs : s.ok w) (ha : AwayP s (keys z.E)) (hok : okL s.ps = true) (hz : szL s.ps ≤ 2500000) (h0 : Holds w (keys z.E) z.E w) :
    Calls Try.prog 32 [Pt z.p 0, s.v].toArray w fun e w' => e = .returned (N (rstV z (baseOf vs s.ps)).1) ∧ Holds w (keys z.E) (rstV z (baseOf vs s.ps)).2.E w' := by
  generalize hS : keys z.E = S at h0 ha ⊢
  have hsl : s.l.length ≤ 400000 := by
    have h1 : 7 * s.ps.length ≤ szL s.ps := by
      generalize s.ps = l
      induction l with
      | nil => simp [szL]
      | cons p l ih => rw [szL_cons, List.length_cons]; unfold szP; omega
    unfold SlP.ps at h1 hz
    rw [List.length_map] at h1
    omega
  have hsv : ∀ p ∈ s.l, p.s.l.length ≤ 2500000 := fun p hp => by
    have : ∀ l : List Pq, ∀ q ∈ l, q.val.length ≤ szL l := by
      intro l
      induction l with
      | nil => intro q h; cases h
      | cons x l ih =>
        intro q h
        rw [szL_cons]
        rcases List.mem_cons.1 h with rfl | h
        · unfold szP; omega
        · have := ih q h; omega
    have := this s.ps p.p (List.mem_map_of_mem hp)
    unfold PqS.p at this
    dsimp only at this
    omega
  have hwf := doMs_wf s.l (z := (z.mm, z.c)) k.wf
  have his := doMs_is s.l (z := (z.mm, z.c)) k.wf k.srt k.is
  have hsrt := doL_srt (l := s.ps) k.srt
  have hps := pairsM_is hwf hsrt his
  have hsz := doL_sz s.ps vs
  have hvz := k.sz
  have hlen2 : (pairsM (doMs (z.mm, z.c) s.l).1).length ≤ 600000 := by
    have h1 := congrArg List.length hps
    rw [List.length_map] at h1
    unfold pairsV at h1
    rw [List.length_map] at h1
    have := szV_len (doL vs s.ps)
    omega
  have hmlen : (doMs (z.mm, z.c) s.l).1.length ≤ 600000 := by
    have h1 := his.length_eq
    unfold mvp at h1
    rw [List.length_map] at h1
    have h2 : (s.l.map PqS.p) = s.ps := rfl
    rw [h2] at h1
    have := szV_len (doL vs s.ps)
    omega
  have hval : ∀ p ∈ pairsM (doMs (z.mm, z.c) s.l).1, p.s.l.length ≤ 4000000 := fun p hp => by
    have h1 : p.p ∈ pairsV (doL vs s.ps) := hps ▸ List.mem_map_of_mem hp
    obtain ⟨q, hq, e⟩ := List.mem_map.1 h1
    have h2 := szV_mem hq
    have h3 : q.2.length = p.s.l.length := by rw [show p.s.l = p.p.val from rfl, ← e]
    omega
  have hok2 : okL (pairsV (doL vs s.ps)) = true := okV_pairs (doL_ok hvz.2 hok)
  have hin : ∀ p ∈ pairsM (doMs (z.mm, z.c) s.l).1, p.s = nilS ∨ p.s ∈ z.mm.map ME.val ∨ ∃ y ∈ s.l, p.s = y.s := fun p hp => by
    rcases pairsM_in hp with h | h
    · exact .inl h
    · obtain ⟨r, hr⟩ := doMs_sub s.l (z := (z.mm, z.c)) k.wf
      rcases List.mem_append.1 (hr.mem_iff.1 (List.mem_append_left r h)) with h | h
      · exact .inr (.inl h)
      · obtain ⟨y, hy, e⟩ := List.mem_map.1 h
        exact .inr (.inr ⟨y, hy, e.symm⟩)
  unfold baseOf
  rw [← hps]
  rw [← hps] at hok2
  obtain ⟨mc, hmc⟩ : ∃ mc, doMs (z.mm, z.c) s.l = mc := ⟨_, rfl⟩
  rw [hmc] at hwf his hps hlen2 hmlen hval hin hok2 ⊢
  refine enter (n := 24) Try.func32 rfl rfl rfl h0 ?_
  show JC _ _ _ _ _ _ _ (⟨z.p, Row 72 z.cs, true⟩ :: ⟨z.mb, MvB (z.mm, z.c), true⟩ :: (jnE z.j z.h z.bl [] ++ flatE (z.mm.map ME.val)))
  repeat (first | refine JL.q (by first | (apply OQ.load; exact mpC16; exact rfl; exact .here; exact (Row.cell (v := .map (some z.mb)) rfl)) | (apply OQ.move; exact rfl) | (apply OQ.assign; exact rfl) | (apply OQ.nilc; exact rfl) | (apply OQ.fld; exact rfl; exact rfl; exact rfl; exact (by decide); exact rfl)) rfl ?_ | refine JC.seq ?_ | refine JC.region ?_ | refine JL.nil ?_ | refine JE.next ?_)
  refine JL.callg (ι := Nat) (vs := [.map (some z.mb), s.v]) (fun b' => .map (some b')) (fun b' => [⟨b', MvB mc, true⟩]) goes_behind rfl rfl (by simp) (fun w' hw' => by have := behind_any z.mb (z.mm, z.c) s w' (hw'.get (.there .here)) (hs.away hw' ha) (by omega); rwa [hmc] at this) fun b' => ?_
  refine JL.callg (ι := {q : Acc // q = none → pairsM mc.1 = []}) (vs := [.map (some b')]) (fun q => accV q.1 (pairsM mc.1).length) (fun q => accC 44 3 q.1 ((pairsM mc.1).map PqS.cs)) goes_pairs rfl rfl (fun _ => accC_wr _ _ _ _) (fun w' hw' => pairs_any b' mc.1 mc.2 w' hwf (hw'.get .here) (by omega)) fun q2 => ?_
  obtain ⟨q2, hq2⟩ := q2
  dsimp only
  have hv2 := gpS_v hq2
  have hl2 := gpS_l hq2
  have hps2 : (gpS q2 (pairsM mc.1)).ps = (pairsM mc.1).map PqS.p := by unfold SlP.ps; rw [hl2]
  refine JL.callg (ι := {q : Acc // q = none → encL ((pairsM mc.1).map PqS.p) = []}) (vs := [(gpS q2 (pairsM mc.1)).v]) (fun q => .tuple #[accV q.1 (encL ((pairsM mc.1).map PqS.p)).length, N 0]) (fun q => accE 5 q.1 ((encL ((pairsM mc.1).map PqS.p)).map U8)) goes_sEnc (by rw [hv2]; rfl) rfl (fun _ => accE_wr _ _ _) (fun w' hw' => ?_) fun q3 => ?_
  · have hz' : Holds w S (([⟨b', MvB mc, true⟩] ++ (accC 44 3 q2 ((pairsM mc.1).map PqS.cs))) ++ (z.E ++ [])) w' := by
      rw [List.append_nil]
      refine hw'.perm' ?_
      rw [← List.append_assoc]
      exact (List.perm_append_comm).append_right _
    have hvok := k.vok (M := []) (hz'.weak (less_app _ (Less.refl _)))
    have hsok := hs.away hw' ha
    have hg := gpS_ok hq2 hw' fun p hp => by
      rcases hin p hp with h | h | ⟨y, hy, h⟩
      · rw [h]; exact nilS_ok _
      · exact hvok _ h
      · rw [h]; exact hsok.all y hy
    have := sEnc_any _ w' hg (by rw [hl2]; omega) (by rw [hl2]; exact hval)
    rw [hps2, hok2] at this
    exact this
  obtain ⟨q3, hq3⟩ := q3
  dsimp only
  have hrl : (encL ((pairsM mc.1).map PqS.p)).length < 4611686018427387904 := by
    rw [hps, encL_sz, szL_pairs]
    omega
  generalize encL ((pairsM mc.1).map PqS.p) = rec at hq3 hrl ⊢
  have hfs := k.jv.fs
  have hl3 := accS_l hq3
  have hv3 := accS_v q3 rec
  have hwr := accE_wr 5 q3 (rec.map U8)
  repeat (first | refine JL.q (by first | (apply OQ.extract; exact rfl; exact rfl) | (apply OQ.load; exact ptC16; exact rfl; exact (hasR (hasR (.there .here))); exact (Row.cell (v := Pt z.j 0) rfl)) | (apply OQ.move; exact rfl) | (apply OQ.assign; exact rfl) | (apply OQ.nilc; exact rfl) | (apply OQ.fld; exact rfl; exact rfl; exact rfl; exact (by decide); exact rfl)) rfl ?_ | refine JC.seq ?_ | refine JC.region ?_ | refine JL.nil ?_ | refine JE.next ?_)
  unfold rstV
  by_cases hno : z.h.size < nb rec.length ∨ gm z.bl = 4294967295#32
  · rw [if_pos hno]
    have cN : ∀ w', Holds w S (accE 5 q3 (rec.map U8) ++ (accC 44 3 q2 ((pairsM mc.1).map PqS.cs) ++ (⟨b', MvB mc, true⟩ :: ⟨z.p, Row 72 z.cs, true⟩ :: ⟨z.mb, MvB (z.mm, z.c), true⟩ :: (jnE z.j z.h z.bl [] ++ flatE (z.mm.map ME.val))))) w' → Calls Try.prog 52 [Pt z.j 0, accV q3 rec.length].toArray w' fun e w2 => e = .returned (N 6) ∧ Ext w' w2 := fun w' hw' => by
      have := rst_no z.j z.h z.bl [] (accS q3 rec) k.dk.ok k.jv.n5 (by omega) (by rw [hl3]; exact hrl) (by rw [hl3]; exact hno) w' (jnR_of (hw'.perm' (perm_j _ _ _ _ _ _ _)))
      rwa [hv3] at this
    repeat (first | refine JL.q (by first | (apply OQ.callx (vs := [Pt z.j 0, accV q3 rec.length]); exact goes_rst; exact rfl; exact (fun w' hw' => cN w' hw')) | (apply OQ.assign; exact rfl)) rfl ?_ | refine JL.nil ?_ | refine JE.next ?_)
    exact JC.ret (JE.ret1 rfl (RV.tmp rfl) fun w' hw => ⟨rfl, hw.weak (less_app _ (less_app _ (.drop _ _ _ (Less.refl _))))⟩)
  · rw [if_neg hno]
    refine JL.perm (M' := jnE z.j z.h z.bl [] ++ (accE 5 q3 (rec.map U8) ++ (accC 44 3 q2 ((pairsM mc.1).map PqS.cs) ++ (⟨b', MvB mc, true⟩ :: ⟨z.p, Row 72 z.cs, true⟩ :: ⟨z.mb, MvB (z.mm, z.c), true⟩ :: flatE (z.mm.map ME.val))))) ?_ (perm_j _ _ _ _ _ _ _)
    refine JL.jrst (s := accS q3 rec) k.jv k.dk (by decide) (by rw [hl3]; exact hno) (fun w' hw' => ?_) rfl (by rw [hv3]; rfl) rfl ?_
    · refine ⟨acc_ok (hw'.weak (less_app _ (Less.refl _))), ?_⟩
      intro h0' a ea
      cases q3 with
      | none => cases ea
      | some p =>
        have e : a = ⟨p.1, 0, none⟩ := by cases ea; rfl
        rw [e]
        exact away_has (b := p.1) (A := Sl.Own 5 1 (rec.map U8).length p.2 (rec.map U8)) hw' .here
    rw [hl3]
    repeat (first | refine JL.q (by (apply OQ.assign; exact rfl)) rfl ?_ | refine JL.nil ?_ | refine JE.next ?_)
    exact JC.ret (JE.ret1 rfl (RV.tmp rfl) fun w' hw => ⟨rfl, (hw.perm' (perm_j _ _ _ _ _ _ _).symm).weak (less_app _ (less_app _ (.drop _ _ _ (Less.refl _))))⟩)
end Go.Proofs.Ytjkncnbpaejamaa

/-
  Of no statement by itself: the landed store's Commit.
  Conditions: each theorem's own.
-/
namespace Go.Proofs.Ytjkncnbpaejamaa
set_option maxRecDepth 10000
open Sl Dsk Jrn Sto
theorem away_gp {w0 w : World} {S : List Nat} {X M : List Ent} {z : Gp} (hw : Holds w0 S (X ++ (z.E ++ M)) w) : AwayP z.s (keys X) := by
  have key : ∀ b, b ∈ z.E.map Ent.b → b ∉ keys X := fun b hb hm => by
    have hn := hw.nodup
    rw [List.map_append, List.nodup_append] at hn
    exact hn.2.2 b hm b (by rw [List.map_append]; exact List.mem_append_left _ hb) rfl
  have hl := z.s_l
  obtain ⟨q, ps, hq, h0⟩ := z
  refine ⟨fun _ a ha => ?_, fun y hy h0 a ha => ?_⟩
  · cases q with
    | none => cases ha
    | some p =>
      have : a = ⟨p.1, 0, none⟩ := by cases ha; rfl
      rw [this]
      exact key p.1 (by unfold Gp.E; rw [List.map_append]; exact List.mem_append_left _ (by simp [accC]))
  · have hy' : y ∈ ps := by rwa [hl] at hy
    refine key a.block ?_
    unfold Gp.E
    rw [List.map_append]
    refine List.mem_append_right _ ?_
    unfold flatE
    rw [List.map_flatMap, List.mem_flatMap]
    exact ⟨y.s, List.mem_map_of_mem hy', by unfold Sl8.ents; rw [ha]; simp⟩
/-- what a Commit comes to -/
def Step (z : Sz) (recs : List Bk) (vs : VL) (ps : List Pq) (code : Nat) (z' : Sz) (recs' : List Bk) (vs' : VL) : Prop :=
  z'.ok recs' vs' ∧ z'.p = z.p ∧
  ((z' = z ∧ recs' = recs ∧ vs' = vs ∧ ((okL ps = false ∧ code = 1) ∨ (okL ps = true ∧ code = 6 ∧ ¬ nb (encL ps).length ≤ z.h.size - z.h.used ∧ noRst z.h z.bl (baseOf vs ps).length))) ∨
   (okL ps = true ∧ code = 0 ∧ vs' = doL vs ps ∧
     ((nb (encL ps).length ≤ z.h.size - z.h.used ∧ z'.h = appJ z.h (encL ps) ∧ z'.bl = appD z.h z.bl (encL ps) ∧ recs' = recs ++ [encL ps]) ∨
      (¬ nb (encL ps).length ≤ z.h.size - z.h.used ∧ ¬ noRst z.h z.bl (baseOf vs ps).length ∧ z'.h = rstJ z.h z.bl (baseOf vs ps) ∧ z'.bl = rstD z.h z.bl (baseOf vs ps) ∧ recs' = [baseOf vs ps]))))
structure StepTo (z : Sz) (recs : List Bk) (vs : VL) (ps : List Pq) where
  code : Nat
  z' : Sz
  recs' : List Bk
  vs' : VL
  st : Step z recs vs ps code z' recs' vs'
theorem valsOf_app {recs : List Bk} {vs : VL} {r : Bk} {l : List Pq} (h : valsOf recs = some vs) (hd : dec r = some l) : valsOf (recs ++ [r]) = some (doL vs l) := by
  unfold valsOf at *
  rw [decAll_append, decAll_one, hd]
  cases h1 : decAll recs with
  | none => rw [h1] at h; cases h
  | some a =>
    rw [h1, Option.map_some, Option.some.injEq] at h
    simp only [Option.map_some, Option.some.injEq]
    rw [doL_append, h]
theorem valsOf_base {vs : VL} (hs : Srt vs) (hk : okV vs) (hz : szV vs < 4294967296) : valsOf [encL (pairsV vs)] = some vs := by
  unfold valsOf
  rw [decAll_one, dec_enc (okV_pairs hk) fun p hp => by
    obtain ⟨q, hq, rfl⟩ := List.mem_map.1 hp
    have := szV_mem hq
    show q.2.length < _
    omega]
  simp only [Option.map_some, Option.some.injEq]
  exact doL_nil hs
/-- the values' bytes behind pairs, as memory -/
theorem flatE_perm {a b : List Sl8} (h : a.Perm b) : (flatE a).Perm (flatE b) := h.flatMap_right _
theorem flatE_app (a b : List Sl8) : flatE (a ++ b) = flatE a ++ flatE b := List.flatMap_append
theorem Holds.values {w0 w : World} {S : List Nat} {A : List Ent} {mc : MV × Nat} {l : List PqS} (hf : WF mc.1 mc.2) (h : Holds w0 S (A ++ (flatE (mc.1.map ME.val) ++ flatE (l.map PqS.s))) w) : Holds w0 S (A ++ flatE ((doMs mc l).1.map ME.val)) w := by
  obtain ⟨r, hr⟩ := doMs_sub l hf
  rw [← flatE_app] at h
  have h2 := h.perm' ((flatE_perm hr.symm).append_left A)
  rw [flatE_app, ← List.append_assoc] at h2
  exact h2.weak (less_pre _ _)
/-- the state behind pairs that are done -/
theorem Sz.ok.step {z : Sz} {recs : List Bk} {vs : VL} (k : z.ok recs vs) {l : List PqS} (h0 : ∀ p ∈ l, p.s.ad = none → p.s.l = []) {h : Hf} {bl recs' : List Bk} (jv : Jv h bl recs') (dk : DkOk h.x bl []) (hv : valsOf recs' = some (doL vs (l.map PqS.p))) :
    (z.put (doMs (z.mm, z.c) l) h bl).ok recs' (doL vs (l.map PqS.p)) where
  wf := doMs_wf l (z := (z.mm, z.c)) k.wf
  is := doMs_is l (z := (z.mm, z.c)) k.wf k.srt k.is
  srt := doL_srt k.srt
  h0 := fun x hx => by
    obtain ⟨r, hr⟩ := doMs_sub l (z := (z.mm, z.c)) k.wf
    rcases List.mem_append.1 (hr.mem_iff.1 (List.mem_append_left r hx)) with h1 | h1
    · exact k.h0 x h1
    · obtain ⟨p, hp, rfl⟩ := List.mem_map.1 h1
      exact h0 p hp
  jv := jv
  dk := dk
  vals := hv
theorem goes_com : Goes Try.prog 13 := ⟨_, Try.func13, rfl, by kernel_rfl⟩
theorem perm_k (A B : List Ent) (p m : Ent) (J F : List Ent) : (A ++ (B ++ (p :: m :: (J ++ F)))).Perm (J ++ (A ++ (B ++ (p :: m :: F)))) := by
  have := List.perm_append_comm_assoc (A ++ (B ++ [p, m])) J F
  simpa using this
theorem perm_m (J A B : List Ent) (p m : Ent) (F : List Ent) : (J ++ (A ++ (B ++ (p :: m :: F)))).Perm (m :: (J ++ (A ++ (B ++ (p :: F))))) := by
  have := List.perm_middle (a := m) (l₁ := J ++ (A ++ (B ++ [p]))) (l₂ := F)
  simpa using this
theorem perm_e (m p : Ent) (J C G A F : List Ent) : (m :: (J ++ ((C ++ G) ++ (A ++ (p :: F))))).Perm (((p :: m :: J) ++ (F ++ G)) ++ (C ++ A)) := by
  have h1 := List.perm_middle (a := p) (l₁ := m :: (J ++ ((C ++ G) ++ A))) (l₂ := F)
  have h2 : ((C ++ G) ++ A ++ F).Perm (F ++ G ++ (C ++ A)) := by
    refine List.perm_append_comm.trans ?_
    have h3 : ((C ++ G) ++ A).Perm (G ++ C ++ A) := List.perm_append_comm.append_right _
    have := h3.append_left F
    simpa using this
  have h4 := (h2.append_left J).cons m |>.cons p
  have e1 : m :: (J ++ ((C ++ G) ++ (A ++ (p :: F)))) = (m :: (J ++ ((C ++ G) ++ A))) ++ (p :: F) := by simp
  have e2 : ((p :: m :: J) ++ (F ++ G)) ++ (C ++ A) = p :: m :: (J ++ (F ++ G ++ (C ++ A))) := by simp
  rw [e1, e2]
  refine h1.trans ?_
  have e3 : p :: (m :: (J ++ ((C ++ G) ++ A)) ++ F) = p :: m :: (J ++ ((C ++ G) ++ A ++ F)) := by simp
  rw [e3]
  exact h4
theorem Sz.close {z : Sz} {g : Gp} {A : List Ent} {h : Hf} {bl : List Bk} {w0 w : World} {S : List Nat} (hf : WF z.mm z.c) (hw : Holds w0 S (⟨z.mb, MvB (doMs (z.mm, z.c) g.ps), true⟩ :: (jnE z.j h bl [] ++ (g.E ++ (A ++ (⟨z.p, Row 72 z.cs, true⟩ :: flatE (z.mm.map ME.val)))))) w) : Holds w0 S (z.put (doMs (z.mm, z.c) g.ps) h bl).E w := by
  have h1 := (hw.perm' (perm_e _ _ _ _ _ _ _)).weak (less_pre _ _)
  exact Holds.values (mc := (z.mm, z.c)) (l := g.ps) hf h1
set_option maxHeartbeats 16000000 in
theorem com_any (z : Sz) (recs : List Bk) (vs : VL) (k : z.ok recs vs) (s : SlP) (w : World) (hs : s.ok w) (ha : AwayP s (keys z.E)) (hz : szL s.ps ≤ 2500000) (h0 : Holds w (keys z.E) z.E w) :
    Calls Try.prog 13 [Pt z.p 0, s.v].toArray w fun e w' => ∃ r : StepTo z recs vs s.ps, e = .returned (N r.code) ∧ Holds w (keys z.E) r.z'.E w' := by
  generalize hS : keys z.E = S at h0 ha ⊢
  have hsl : s.l.length ≤ 400000 := by
    have h1 : 7 * s.ps.length ≤ szL s.ps := by
      generalize s.ps = l
      induction l with
      | nil => simp [szL]
      | cons p l ih => rw [szL_cons, List.length_cons]; unfold szP; omega
    unfold SlP.ps at h1 hz
    rw [List.length_map] at h1
    omega
  have hsv : ∀ q ∈ s.ps, q.val.length ≤ 2500000 := fun q hq => by
    have : ∀ l : List Pq, ∀ q ∈ l, q.val.length ≤ szL l := by
      intro l
      induction l with
      | nil => intro q h; cases h
      | cons x l ih =>
        intro q h
        rw [szL_cons]
        rcases List.mem_cons.1 h with rfl | h
        · unfold szP; omega
        · have := ih q h; omega
    have := this s.ps q hq
    omega
  refine enter (n := 47) Try.func13 rfl rfl rfl h0 ?_
  show JC _ _ _ _ _ _ _ (⟨z.p, Row 72 z.cs, true⟩ :: ⟨z.mb, MvB (z.mm, z.c), true⟩ :: (jnE z.j z.h z.bl [] ++ flatE (z.mm.map ME.val)))
  repeat (first | refine JL.q (by first | (apply OQ.move; exact rfl) | (apply OQ.assign; exact rfl)) rfl ?_ | refine JC.seq ?_ | refine JC.region ?_ | refine JL.nil ?_ | refine JE.next ?_)
  cases hok : okL s.ps
  case false =>
    refine JL.callg (ι := Acc) (vs := [s.v]) (fun q => .tuple #[accV q 0, N 1]) (fun q => accE 5 q []) goes_sEnc rfl rfl (fun _ => accE_wr _ _ _) (fun w' hw' => ?_) fun q => ?_
    · have := sEnc_any s w' (hs.away hw' ha) (by omega) (fun p hp => by have := hsv p.p (List.mem_map_of_mem hp); unfold PqS.p at this; dsimp only at this; omega)
      rw [hok] at this
      exact this.mono fun e w2 ⟨q, h1, h2⟩ => ⟨q.1, h1, h2⟩
    repeat (first | refine JL.q (by first | (apply OQ.extract; exact rfl; exact rfl) | (apply OQ.neB (a := 1) (b := 0) (c := false); exact rfl; exact rfl; exact rfl) | (apply OQ.move; exact rfl) | (apply OQ.assign; exact rfl)) rfl ?_ | refine JC.seq ?_ | refine JC.region ?_ | refine JL.nil ?_ | refine JE.next ?_)
    refine JC.cond_true rfl rfl ?_
    repeat (first | refine JL.q (by first | (apply OQ.move; exact rfl) | (apply OQ.assign; exact rfl)) rfl ?_ | refine JC.seq ?_ | refine JC.region ?_ | refine JL.nil ?_ | refine JE.next ?_)
    refine JC.ret ?_
    repeat (refine JE.then_ret ?_)
    exact JE.ret1 rfl (RV.tmp rfl) fun w' hw => ⟨⟨1, z, recs, vs, k, rfl, .inl ⟨rfl, rfl, rfl, .inl ⟨hok, rfl⟩⟩⟩, rfl, hw.weak (less_app _ (Less.refl _))⟩
  refine JL.callg (ι := {q : Acc // q = none → encL s.ps = []}) (vs := [s.v]) (fun q => .tuple #[accV q.1 (encL s.ps).length, N 0]) (fun q => accE 5 q.1 ((encL s.ps).map U8)) goes_sEnc rfl rfl (fun _ => accE_wr _ _ _) (fun w' hw' => ?_) fun q1 => ?_
  · have := sEnc_any s w' (hs.away hw' ha) (by omega) (fun p hp => by have := hsv p.p (List.mem_map_of_mem hp); unfold PqS.p at this; dsimp only at this; omega)
    rw [hok] at this
    exact this
  obtain ⟨q1, hq1⟩ := q1
  dsimp only
  have hdec : dec (encL s.ps) = some s.ps := dec_enc hok fun p hp => by have := hsv p hp; omega
  have hrl : (encL s.ps).length ≤ 2500000 := by rw [encL_sz]; exact hz
  have hl1 := accS_l hq1
  have hv1 := accS_v q1 (encL s.ps)
  repeat (first | refine JL.q (by first | (apply OQ.extract; exact rfl; exact rfl) | (apply OQ.neB (a := 0) (b := 0) (c := true); exact rfl; exact rfl; exact rfl) | (apply OQ.move; exact rfl) | (apply OQ.assign; exact rfl)) rfl ?_ | refine JC.seq ?_ | refine JC.region ?_ | refine JL.nil ?_ | refine JE.next ?_)
  refine JC.cond_false rfl rfl ?_
  repeat (first | refine JL.q (by (apply OQ.move; exact rfl)) rfl ?_ | refine JC.seq ?_ | refine JC.region ?_ | refine JC.skip ?_ | refine JE.next ?_)
  refine JL.callg (ι := GpOf (some s.ps)) (vs := [(accS q1 (encL s.ps)).v]) (fun g => decV (some s.ps) g.1) (fun g => g.1.E) goes_sDec (by rw [hv1]; rfl) rfl (fun g => g.1.wr) (fun w' hw' => ?_) fun g => ?_
  · have := sDec_any (accS q1 (encL s.ps)) w' (acc_ok hw') (by rw [hl1]; omega)
    rw [hl1, hdec] at this
    exact this
  obtain ⟨g, hg⟩ := g
  have hg : g.l = s.ps := hg
  dsimp only [decV]
  have hfs := k.jv.fs
  have hju := k.jv.u; have hjr := k.jv.r
  have hps : g.ps.map PqS.p = s.ps := hg
  have hgl : g.ps.length ≤ 4294967296 := by
    have := congrArg List.length hps
    unfold SlP.ps at this
    rw [List.length_map, List.length_map] at this
    omega
  have hq0 : q1 = none → (encL s.ps).length = 0 := fun e => by rw [hq1 e]; rfl
  have cF : ∀ w', Holds w S (g.E ++ (accE 5 q1 ((encL s.ps).map U8) ++ (⟨z.p, Row 72 z.cs, true⟩ :: ⟨z.mb, MvB (z.mm, z.c), true⟩ :: (jnE z.j z.h z.bl [] ++ flatE (z.mm.map ME.val))))) w' → Calls Try.prog 30 [Pt z.j 0, N (encL s.ps).length].toArray w' fun e w2 => e = .returned (.bool (decide (nb (encL s.ps).length ≤ z.h.size - z.h.used))) ∧ Ext w' w2 := fun w' hw' =>
    fits_nat z.j z.h _ (by omega) (by omega) (by omega) w' (ro_one (hw'.perm' (perm_k _ _ _ _ _ _)))
  obtain ⟨fit, g1⟩ : ∃ c, decide (nb (encL s.ps).length ≤ z.h.size - z.h.used) = c := ⟨_, rfl⟩
  rw [g1] at cF
  repeat (first | refine JL.q (by first | (apply OQ.extract; exact rfl; exact rfl) | (apply OQ.load; exact ptC16; exact rfl; exact (hasR (hasR .here)); exact (Row.cell (v := Pt z.j 0) rfl)) | (apply OQ.lenV (q := q1) (k := (encL s.ps).length); exact Try.underlying33; exact hq0; exact rfl) | (apply OQ.callx (vs := [Pt z.j 0, N (encL s.ps).length]); exact goes_fits; exact rfl; exact (fun w' hw' => cF w' hw')) | (apply OQ.move; exact rfl) | (apply OQ.assign; exact rfl) | (apply OQ.nilc; exact rfl) | (apply OQ.fld; exact rfl; exact rfl; exact rfl; exact (by decide); exact rfl)) rfl ?_ | refine JC.seq ?_ | refine JC.region ?_ | refine JL.nil ?_ | refine JE.next ?_)
  have hgS : g.v = g.s.v := g.v_eq.symm
  cases fit
  case true =>
    have hfit := of_decide_eq_true g1
    refine JC.cond_true rfl rfl ?_
    repeat (first | refine JL.q (by first | (apply OQ.load; exact ptC16; exact rfl; exact (hasR (hasR .here)); exact (Row.cell (v := Pt z.j 0) rfl)) | (apply OQ.move; exact rfl) | (apply OQ.nilc; exact rfl) | (apply OQ.fld; exact rfl; exact rfl; exact rfl; exact (by decide); exact rfl)) rfl ?_ | refine JC.region ?_)
    refine JL.perm (M' := jnE z.j z.h z.bl [] ++ (g.E ++ (accE 5 q1 ((encL s.ps).map U8) ++ (⟨z.p, Row 72 z.cs, true⟩ :: ⟨z.mb, MvB (z.mm, z.c), true⟩ :: flatE (z.mm.map ME.val))))) ?_ (perm_k _ _ _ _ _ _)
    refine JL.japp (s := accS q1 (encL s.ps)) k.jv k.dk (by decide) (by rw [hl1]; exact hfit) (fun w' hw' => ?_) rfl (by rw [hv1]; rfl) rfl ?_
    · refine ⟨acc_ok (hw'.weak (less_app _ (less_app _ (Less.refl _)))), ?_⟩
      intro h0' a ea
      cases q1 with
      | none => cases ea
      | some p =>
        have e : a = ⟨p.1, 0, none⟩ := by cases ea; rfl
        rw [e]
        exact away_has (b := p.1) (A := Sl.Own 5 1 ((encL s.ps).map U8).length p.2 ((encL s.ps).map U8)) hw' (hasR .here)
    rw [hl1]
    obtain ⟨HJ, hHJ⟩ : ∃ HJ, jnE z.j (appJ z.h (encL s.ps)) (appD z.h z.bl (encL s.ps)) [] = HJ := ⟨_, rfl⟩
    rw [hHJ]
    refine JL.perm (M' := ⟨z.mb, MvB (z.mm, z.c), true⟩ :: (HJ ++ (g.E ++ (accE 5 q1 ((encL s.ps).map U8) ++ (⟨z.p, Row 72 z.cs, true⟩ :: flatE (z.mm.map ME.val)))))) ?_ (perm_m _ _ _ _ _ _)
    repeat (first | refine JL.q (by first | (apply OQ.eqB (a := 0) (b := 0) (c := true); exact rfl; exact rfl; exact rfl) | (apply OQ.move; exact rfl) | (apply OQ.assign; exact rfl)) rfl ?_ | refine JC.seq ?_ | refine JC.region ?_ | refine JL.nil ?_ | refine JE.next ?_)
    refine JC.cond_true rfl rfl ?_
    repeat (first | refine JL.q (by first | (apply OQ.load; exact mpC16; exact rfl; exact (.there (hasR (hasR (hasR .here)))); exact (Row.cell (v := .map (some z.mb)) rfl)) | (apply OQ.move; exact rfl) | (apply OQ.nilc; exact rfl) | (apply OQ.fld; exact rfl; exact rfl; exact rfl; exact (by decide); exact rfl)) rfl ?_ | refine JC.region ?_)
    refine JL.callV (ι := Unit) (X := [⟨z.mb, MvB (z.mm, z.c), true⟩]) (vs := [.map (some z.mb), g.v]) (fun _ => .tuple #[]) (fun _ => [⟨z.mb, MvB (doMs (z.mm, z.c) g.ps), true⟩]) goes_do rfl rfl (by simp) (by simp) (fun w' h1 hw' => ?_) fun _ => ?_
    · have h2 : Holds w S ([⟨z.mb, MvB (z.mm, z.c), true⟩] ++ (g.E ++ (HJ ++ (accE 5 q1 ((encL s.ps).map U8) ++ (⟨z.p, Row 72 z.cs, true⟩ :: flatE (z.mm.map ME.val)))))) w' := h1.perm' ((List.perm_append_comm_assoc HJ g.E _).cons _)
      have hgo := Gp.ok h2
      have hga := away_gp h2
      have := do_any g.s z.mb z.mm z.c w' hgo (by rw [g.s_l]; exact hgl) hga hw'
      rw [g.v_eq, g.s_l] at this
      exact this.mono fun _ _ ⟨h1, h2⟩ => ⟨(), h1, h2⟩
    repeat (first | refine JL.q (by first | (apply OQ.move; exact rfl) | (apply OQ.assign; exact rfl)) rfl ?_ | refine JC.seq ?_ | refine JC.region ?_ | refine JL.nil ?_ | refine JE.next ?_)
    refine JC.ret (JE.ret1 rfl (RV.tmp rfl) fun w' hw => ⟨⟨0, z.put (doMs (z.mm, z.c) g.ps) (appJ z.h (encL s.ps)) (appD z.h z.bl (encL s.ps)), recs ++ [encL s.ps], doL vs s.ps, ?_, rfl, .inr ⟨hok, rfl, rfl, .inl ⟨hfit, rfl, rfl, rfl⟩⟩⟩, rfl, ?_⟩)
    · have := k.step g.h0 (k.jv.app hfit) (k.dk.app k.jv hfit) (recs' := recs ++ [encL s.ps]) (by rw [hps]; exact valsOf_app k.vals hdec)
      rwa [hps] at this
    · rw [← hHJ] at hw
      exact Sz.close k.wf hw
  case false =>
    have hfit := of_decide_eq_false g1
    refine JC.cond_false rfl rfl ?_
    repeat (first | refine JL.q (by (apply OQ.move; exact rfl)) rfl ?_ | refine JC.region ?_)
    refine JL.perm (M' := z.E ++ (g.E ++ accE 5 q1 ((encL s.ps).map U8))) ?_ (by
      show _
      have := List.perm_append_comm (l₁ := g.E ++ accE 5 q1 ((encL s.ps).map U8)) (l₂ := z.E)
      rw [List.append_assoc] at this
      exact this)
    refine JL.callV (ι := Unit) (X := z.E) (vs := [Pt z.p 0, g.v]) (fun _ => N (rstV z (baseOf vs s.ps)).1) (fun _ => (rstV z (baseOf vs s.ps)).2.E) goes_srst rfl rfl z.wr (fun _ => Sz.wr _) (fun w' h1 hw' => ?_) fun _ => ?_
    · have hgo := Gp.ok (M := accE 5 q1 ((encL s.ps).map U8)) h1
      have hga := away_gp h1
      have := srst_any z recs vs k g.s w' hgo hga (by rw [g.s_ps, hg]; exact hok) (by rw [g.s_ps, hg]; exact hz) hw'
      rw [g.v_eq, g.s_ps, hg] at this
      exact this.mono fun _ _ ⟨h1, h2⟩ => ⟨(), h1, h2⟩
    unfold rstV
    by_cases hno : z.h.size < nb (baseOf vs s.ps).length ∨ gm z.bl = 4294967295#32
    · rw [if_pos hno]
      repeat (first | refine JL.q (by first | (apply OQ.eqB (a := 6) (b := 0) (c := false); exact rfl; exact rfl; exact rfl) | (apply OQ.move; exact rfl) | (apply OQ.assign; exact rfl)) rfl ?_ | refine JC.seq ?_ | refine JC.region ?_ | refine JL.nil ?_ | refine JE.next ?_)
      refine JC.cond_false rfl rfl ?_
      repeat (first | refine JL.q (by first | (apply OQ.move; exact rfl) | (apply OQ.assign; exact rfl)) rfl ?_ | refine JC.seq ?_ | refine JC.region ?_ | refine JC.skip ?_ | refine JL.nil ?_ | refine JE.next ?_)
      exact JC.ret (JE.ret1 rfl (RV.tmp rfl) fun w' hw => ⟨⟨6, z, recs, vs, k, rfl, .inl ⟨rfl, rfl, rfl, .inr ⟨hok, rfl, hfit, hno⟩⟩⟩, rfl, hw.weak (less_pre _ _)⟩)
    · rw [if_neg hno]
      obtain ⟨HJ, hHJ⟩ : ∃ HJ, jnE z.j (rstJ z.h z.bl (baseOf vs s.ps)) (rstD z.h z.bl (baseOf vs s.ps)) [] = HJ := ⟨_, rfl⟩
      refine JL.perm (M' := ⟨z.mb, MvB (z.mm, z.c), true⟩ :: (HJ ++ (g.E ++ (accE 5 q1 ((encL s.ps).map U8) ++ (⟨z.p, Row 72 z.cs, true⟩ :: flatE (z.mm.map ME.val)))))) ?_ (by
        rw [← hHJ]
        refine List.Perm.trans ?_ (perm_m _ _ _ _ _ _)
        refine List.Perm.trans (List.perm_append_comm (l₁ := (z.put (z.mm, z.c) (rstJ z.h z.bl (baseOf vs s.ps)) (rstD z.h z.bl (baseOf vs s.ps))).E)) ?_
        rw [List.append_assoc]
        exact perm_k _ _ _ _ _ _)
      repeat (first | refine JL.q (by first | (apply OQ.eqB (a := 0) (b := 0) (c := true); exact rfl; exact rfl; exact rfl) | (apply OQ.move; exact rfl) | (apply OQ.assign; exact rfl)) rfl ?_ | refine JC.seq ?_ | refine JC.region ?_ | refine JL.nil ?_ | refine JE.next ?_)
      refine JC.cond_true rfl rfl ?_
      repeat (first | refine JL.q (by first | (apply OQ.load; exact mpC16; exact rfl; exact (.there (hasR (hasR (hasR .here)))); exact (Row.cell (v := .map (some z.mb)) rfl)) | (apply OQ.move; exact rfl) | (apply OQ.nilc; exact rfl) | (apply OQ.fld; exact rfl; exact rfl; exact rfl; exact (by decide); exact rfl)) rfl ?_ | refine JC.region ?_)
      refine JL.callV (ι := Unit) (X := [⟨z.mb, MvB (z.mm, z.c), true⟩]) (vs := [.map (some z.mb), g.v]) (fun _ => .tuple #[]) (fun _ => [⟨z.mb, MvB (doMs (z.mm, z.c) g.ps), true⟩]) goes_do rfl rfl (by simp) (by simp) (fun w' h1 hw' => ?_) fun _ => ?_
      · have h2 : Holds w S ([⟨z.mb, MvB (z.mm, z.c), true⟩] ++ (g.E ++ (HJ ++ (accE 5 q1 ((encL s.ps).map U8) ++ (⟨z.p, Row 72 z.cs, true⟩ :: flatE (z.mm.map ME.val)))))) w' := h1.perm' ((List.perm_append_comm_assoc HJ g.E _).cons _)
        have hgo := Gp.ok h2
        have hga := away_gp h2
        have := do_any g.s z.mb z.mm z.c w' hgo (by rw [g.s_l]; exact hgl) hga hw'
        rw [g.v_eq, g.s_l] at this
        exact this.mono fun _ _ ⟨h1, h2⟩ => ⟨(), h1, h2⟩
      repeat (first | refine JL.q (by first | (apply OQ.move; exact rfl) | (apply OQ.assign; exact rfl)) rfl ?_ | refine JC.seq ?_ | refine JC.region ?_ | refine JL.nil ?_ | refine JE.next ?_)
      refine JC.ret (JE.ret1 rfl (RV.tmp rfl) fun w' hw => ⟨⟨0, z.put (doMs (z.mm, z.c) g.ps) (rstJ z.h z.bl (baseOf vs s.ps)) (rstD z.h z.bl (baseOf vs s.ps)), [baseOf vs s.ps], doL vs s.ps, ?_, rfl, .inr ⟨hok, rfl, rfl, .inr ⟨hfit, hno, rfl, rfl, rfl⟩⟩⟩, rfl, ?_⟩)
      · have hvz := k.sz
        have := doL_sz s.ps vs
        have := k.step g.h0 (k.jv.rst hno) (k.dk.rst k.jv hno) (recs' := [baseOf vs s.ps]) (by rw [hps]; exact valsOf_base (doL_srt k.srt) (doL_ok hvz.2 hok) (by omega))
        rwa [hps] at this
      · rw [← hHJ] at hw
        exact Sz.close k.wf hw
end Go.Proofs.Ytjkncnbpaejamaa

/-
  Of no statement by itself: the landed store's valuesOn, Open.
  Conditions: each theorem's own.
-/
namespace Go.Proofs.Ytjkncnbpaejamaa
set_option maxRecDepth 10000
open Sl Dsk Jrn Sto
theorem goes_von : Goes Try.prog 25 := ⟨_, Try.func25, rfl, by kernel_rfl⟩
theorem goes_sOpen : Goes Try.prog 9 := ⟨_, Try.func9, rfl, by kernel_rfl⟩
theorem decAll_take {rs : List Bk} {i : Nat} {r : Bk} (h : rs[i]? = some r) : decAll (rs.take (i + 1)) = match decAll (rs.take i), dec r with | some l, some m => some (l ++ m) | _, _ => none := by
  have e : rs.take (i + 1) = rs.take i ++ [r] := by rw [List.take_add_one, h]; rfl
  rw [e, decAll_append, decAll_one]
  cases decAll (rs.take i) <;> cases dec r <;> rfl
theorem mem_sum16 {α : Type} (f : α → Nat) : ∀ {l : List α} {a : α}, a ∈ l → f a ≤ (l.map f).sum
  | b :: l, a, h => by
    rw [List.map_cons, List.sum_cons]
    rcases List.mem_cons.1 h with rfl | h
    · omega
    · have := mem_sum16 f h; omega
theorem len_le_sz : ∀ (m : List Pq), m.length ≤ (m.map fun p => 7 + p.key.length + p.val.length).sum
  | [] => Nat.le_refl _
  | p :: m => by
    have := len_le_sz m
    rw [List.map_cons, List.sum_cons, List.length_cons]
    omega
theorem decAll_none {rs : List Bk} {i : Nat} (h : decAll (rs.take i) = none) : decAll rs = none := by
  rw [← List.take_append_drop i rs, decAll_append, h]
/-- values in memory, of no store yet -/
structure Vz where
  mb : Nat
  mc : MV × Nat
structure Vz.ok (z : Vz) (l : List Pq) : Prop where
  wf : WF z.mc.1 z.mc.2
  is : MapIs z.mc.1 (doL [] l)
  h0 : ∀ x ∈ z.mc.1.map ME.val, x.ad = none → x.l = []
def Vz.E (z : Vz) : List Ent := ⟨z.mb, MvB z.mc, true⟩ :: flatE (z.mc.1.map ME.val)
theorem Vz.wr (z : Vz) : ∀ e ∈ z.E, e.wr = true := by
  intro e he
  rcases List.mem_cons.1 he with rfl | he
  · rfl
  · exact flatE_wr _ e he
def vonV (o : Option (List Pq)) (z : Vz) : Value := match o with
  | none => .tuple #[.map none, N 9]
  | some _ => .tuple #[.map (some z.mb), N 0]
def vonE (o : Option (List Pq)) (z : Vz) : List Ent := match o with
  | none => []
  | some _ => z.E
abbrev VzOf (o : Option (List Pq)) := {z : Vz // ∀ l, o = some l → z.ok l}
theorem perm_v (m : Ent) (C G F R : List Ent) (F' r : List Ent) (h : (F ++ G).Perm (F' ++ r)) : (m :: ((C ++ G) ++ (F ++ R))).Perm (m :: (F' ++ (R ++ (r ++ C)))) := by
  refine List.Perm.cons _ ?_
  have h1 : ((C ++ G) ++ (F ++ R)).Perm (C ++ ((F ++ G) ++ R)) := by
    have := (List.perm_append_comm_assoc G F R).append_left C
    simpa using this
  refine h1.trans ((h.append_right R).append_left C |>.trans ?_)
  have h2 : (C ++ (F' ++ r ++ R)).Perm ((F' ++ r ++ R) ++ C) := List.perm_append_comm
  refine h2.trans ?_
  have h3 := ((List.perm_append_comm (l₁ := r) (l₂ := R)).append_right C).append_left F'
  simpa using h3
set_option maxHeartbeats 16000000 in
theorem von_any (x : Dp) (bl : List Bk) (hd : DkOk x bl []) (hno : noOpen bl = 0) (w : World) (h0 : Holds w (keys (dkE x bl [])) (dkE x bl []) w) :
    Calls Try.prog 25 [Pt x.p 0].toArray w fun e w' => ∃ z : VzOf (decAll (curF bl).2.2), e = .returned (vonV (decAll (curF bl).2.2) z.1) ∧ Holds w (keys (dkE x bl [])) (vonE (decAll (curF bl).2.2) z.1) w' := by
  have v := Jv.opn (x := x) hd.ok.b hd.n1 hno
  have hdj := hd.opn hno
  generalize hR : (curF bl).2.2 = recs at v ⊢
  generalize keys (dkE x bl []) = S at h0 ⊢
  refine enter (n := 39) Try.func25 rfl rfl rfl h0 ?_
  repeat (first | refine JL.q (by first | (apply OQ.move; exact rfl) | (apply OQ.assign; exact rfl)) rfl ?_ | refine JC.seq ?_ | refine JC.region ?_ | refine JL.nil ?_ | refine JE.next ?_)
  refine JL.perm ?_ (List.Perm.of_eq (List.append_nil _).symm)
  refine JL.jopen hd (by decide) hno rfl rfl fun j => ?_
  generalize opnJ x bl = h at v hdj ⊢
  generalize opnD bl = bj at v hdj ⊢
  rw [List.append_nil]
  repeat (first | refine JL.q (by first | (apply OQ.extract; exact rfl; exact rfl) | (apply OQ.neB (a := 0) (b := 0) (c := true); exact rfl; exact rfl; exact rfl) | (apply OQ.move; exact rfl) | (apply OQ.assign; exact rfl)) rfl ?_ | refine JC.seq ?_ | refine JC.region ?_ | refine JL.nil ?_ | refine JE.next ?_)
  refine JC.cond_false rfl rfl ?_
  repeat (first | refine JC.seq ?_ | refine JC.region ?_ | refine JC.skip ?_ | refine JE.next ?_)
  refine JL.makeMap Sl8.v rfl rfl fun mb _ => ?_
  repeat (first | refine JL.q (by first | (apply OQ.move; exact rfl) | (apply OQ.assign; exact rfl)) rfl ?_ | refine JC.seq ?_ | refine JC.region ?_ | refine JL.nil ?_ | refine JE.next ?_)
  refine JL.perm (M' := jnE j h bj [] ++ [⟨mb, MvB ([], 0), true⟩]) ?_ (List.perm_append_singleton _ _).symm
  refine JL.jrecs v hdj rfl rfl fun z => ?_
  obtain ⟨⟨q, rs, hq, hr0⟩, hy1, hy2⟩ := z
  have hz1 : rs.map Sl8.l = recs := hy1
  have hz2 : rs.length ≤ h.size := hy2
  dsimp only [Gr.v, Gr.E]
  clear hy1 hy2
  have hfs := v.fs
  have hro := v.r
  refine JL.perm (M' := ⟨mb, MvB ([], 0), true⟩ :: ((accE 33 q (rs.map Sl8.v) ++ flatE rs) ++ jnE j h bj [])) ?_ (by rw [← List.append_assoc]; exact List.perm_append_singleton _ _)
  have hq0 : q = none → rs.length = 0 := fun e => by rw [hq e]; rfl
  repeat (first | refine JL.q (by first | (apply OQ.lenV (q := q) (k := rs.length); exact Try.underlying34; exact hq0; exact rfl) | (apply OQ.move; exact rfl)) rfl ?_ | refine JC.block ?_ | refine JL.nil ?_ | refine JE.next ?_)
  obtain ⟨R, hRR⟩ : ∃ R, (accE 33 q (rs.map Sl8.v) ++ flatE rs) ++ jnE j h bj [] = R := ⟨_, rfl⟩
  refine JC.loop (fun z : Nat × (MV × Nat) => [(6, .map (some mb)), (21, accV q rs.length), (22, N rs.length), (23, N z.1)]) (fun z => ⟨mb, MvB z.2, true⟩ :: (flatE (z.2.1.map ME.val) ++ R)) (fun z => rs.length - z.1) (fun z => z.1 ≤ rs.length ∧ ∃ l, decAll (recs.take z.1) = some l ∧ (Vz.mk mb z.2).ok l) (0, ([], 0)) ⟨Nat.zero_le _, [], rfl, ⟨WF.nil, .refl _, nofun⟩⟩ (by repeat (first | exact SubE.nil | refine SubE.cons _ _ _ rfl ?_)) (by rw [← hRR]; exact Less.refl _) ?_
  rintro ⟨i, mc⟩ ⟨hi, l, hl, hv⟩
  dsimp only at hi hl hv ⊢
  repeat (first | refine JL.q (by (apply OQ.lssN; exact rfl; exact rfl)) rfl ?_ | refine JC.seq ?_ | refine JC.region ?_ | refine JL.nil ?_ | refine JE.next ?_)
  refine JC.cond rfl (fun hc => ?_) (fun hc => ?_)
  · have hi' : i < rs.length := Nat.lt_of_not_le fun h => by have := of_decide_eq_true hc; omega
    clear hc
    cases q with
    | none => rw [hq rfl] at hi'; cases hi'
    | some p =>
    obtain ⟨gk, ck⟩ := p
    have hki : rs[i]? = some rs[i] := List.getElem?_eq_getElem hi'
    have hmem : rs[i] ∈ rs := List.getElem_mem hi'
    generalize rs[i] = rec at hki hmem
    have hri : recs[i]? = some rec.l := by rw [← hz1, List.getElem?_map, hki]; rfl
    have hrlen : rec.l.length ≤ 2000000 := by
      have h1 := room_sz recs
      have h2 := mem_sum16 List.length (List.mem_of_getElem? hri)
      omega
    have hav2 : accV (some (gk, ck)) rs.length = .slice (some ⟨gk, 0, none⟩) rs.length ck := rfl
    have hkz : (rs.map Sl8.v)[i]? = some rec.v := by rw [List.getElem?_map, hki]; rfl
    have hR' : R = ⟨gk, Sl.Own 33 1 (rs.map Sl8.v).length ck (rs.map Sl8.v), true⟩ :: (flatE rs ++ jnE j h bj []) := hRR.symm
    subst hR'
    have okR : ∀ w', Holds w S (⟨mb, MvB mc, true⟩ :: (flatE (mc.1.map ME.val) ++ (⟨gk, Sl.Own 33 1 (rs.map Sl8.v).length ck (rs.map Sl8.v), true⟩ :: (flatE rs ++ jnE j h bj [])))) w' → rec.ok w' := fun w' hw' =>
      flat_ok (A := []) (hw'.weak (.drop _ _ _ (less_app _ (.drop _ _ _ (less_pre (flatE rs) _))))) hr0 rec hmem
    repeat (first | refine JL.q (by first | (apply OQ.idxS0 (i := i); exact Try.underlying34; exact sleJ; exact (congrArg some hav2); exact rfl; exact hi') | (apply OQ.load; exact slCj; exact rfl; exact (.there (hasR .here)); exact (Sl.Own.cell hkz)) | (apply OQ.move; exact rfl) | (apply OQ.assign; exact rfl)) rfl ?_ | refine JC.seq ?_ | refine JC.region ?_ | refine JC.block ?_ | refine JC.skip ?_ | refine JL.nil ?_ | refine JE.next ?_)
    cases hdr : dec rec.l with
    | none =>
      have hno2 : decAll recs = none := decAll_none (i := i + 1) (by rw [decAll_take hri, hl, hdr])
      refine JL.callg (ι := GpOf none) (vs := [rec.v]) (fun g => decV none g.1) (fun g => g.1.E) goes_sDec rfl rfl (fun g => g.1.wr) (fun w' hw' => by have := sDec_any rec w' (okR w' hw') (by omega); rwa [hdr] at this) fun g => ?_
      dsimp only [decV]
      repeat (first | refine JL.q (by first | (apply OQ.extract; exact rfl; exact rfl) | (apply OQ.neB (a := 3) (b := 0) (c := false); exact rfl; exact rfl; exact rfl) | (apply OQ.move; exact rfl) | (apply OQ.assign; exact rfl)) rfl ?_ | refine JC.seq ?_ | refine JC.region ?_ | refine JL.nil ?_ | refine JE.next ?_)
      refine JC.cond_true rfl rfl ?_
      repeat (first | refine JL.q (by (apply OQ.assign; exact rfl)) rfl ?_ | refine JC.seq ?_ | refine JC.region ?_ | refine JL.nil ?_ | refine JE.next ?_)
      refine JC.ret ?_
      repeat (first | refine JE.then_ret ?_ | refine JE.blk_ret ?_)
      rw [hno2]
      exact JE.ret2 rfl (RV.tmp rfl) (RV.tmp rfl) fun w' hw => ⟨⟨⟨0, ([], 0)⟩, nofun⟩, rfl, hw.weak (.nil _)⟩
    | some m =>
      refine JL.callg (ι := GpOf (some m)) (vs := [rec.v]) (fun g => decV (some m) g.1) (fun g => g.1.E) goes_sDec rfl rfl (fun g => g.1.wr) (fun w' hw' => by have := sDec_any rec w' (okR w' hw') (by omega); rwa [hdr] at this) fun g => ?_
      obtain ⟨g, hg⟩ := g
      have hg : g.ps.map PqS.p = m := hg
      dsimp only [decV]
      have hgl : g.ps.length ≤ 4294967296 := by
        have h1 := congrArg List.length hg
        rw [List.length_map] at h1
        have h2 := (dec_ok hdr).2
        have h3 := len_le_sz m
        omega
      repeat (first | refine JL.q (by first | (apply OQ.extract; exact rfl; exact rfl) | (apply OQ.neB (a := 0) (b := 0) (c := true); exact rfl; exact rfl; exact rfl) | (apply OQ.move; exact rfl) | (apply OQ.assign; exact rfl)) rfl ?_ | refine JC.seq ?_ | refine JC.region ?_ | refine JL.nil ?_ | refine JE.next ?_)
      refine JC.cond_false rfl rfl ?_
      obtain ⟨R, hRR⟩ : ∃ R, (⟨gk, Sl.Own 33 1 (rs.map Sl8.v).length ck (rs.map Sl8.v), true⟩ :: (flatE rs ++ jnE j h bj [])) = R := ⟨_, rfl⟩
      rw [hRR]
      repeat (first | refine JL.q (by (apply OQ.move; exact rfl)) rfl ?_ | refine JC.region ?_ | refine JC.skip ?_ | refine JE.next ?_)
      refine JL.perm (M' := ⟨mb, MvB mc, true⟩ :: (g.E ++ (flatE (mc.1.map ME.val) ++ R))) ?_ List.perm_middle
      refine JL.callV (ι := Unit) (X := [⟨mb, MvB mc, true⟩]) (vs := [.map (some mb), g.v]) (fun _ => .tuple #[]) (fun _ => [⟨mb, MvB (doMs mc g.ps), true⟩]) goes_do rfl rfl (by simp) (by simp) (fun w' h1 hw' => ?_) fun _ => ?_
      · have hgo := Gp.ok (A := [_]) h1
        have hga := away_gp (X := [_]) h1
        have := do_any g.s mb mc.1 mc.2 w' hgo (by rw [g.s_l]; exact hgl) hga hw'
        rw [g.v_eq, g.s_l] at this
        exact this.mono fun _ _ ⟨h1, h2⟩ => ⟨(), h1, h2⟩
      repeat (first | refine JL.q (by first | (apply OQ.move; exact rfl) | (apply OQ.addN; exact rfl; exact rfl; exact (by (try simp only []); omega))) rfl ?_ | refine JC.region ?_ | refine JL.nil ?_ | refine JE.next ?_ | refine JE.blk_normal ?_)
      obtain ⟨r, hr⟩ := doMs_sub g.ps hv.wf
      refine JE.perm (perm_v _ _ (flatE (g.ps.map PqS.s)) (flatE (mc.1.map ME.val)) R (flatE ((doMs mc g.ps).1.map ME.val)) (flatE r) (by rw [← flatE_app, ← flatE_app]; exact flatE_perm hr.symm)) ?_
      refine JE.again (i := (i, mc)) (i + 1, doMs mc g.ps) ⟨hi', l ++ m, by dsimp only; rw [decAll_take hri, hl, hdr], ⟨doMs_wf _ hv.wf, ?_, ?_⟩⟩ (by dsimp only; omega) (by repeat (first | exact SubE.nil | refine SubE.cons _ _ _ rfl ?_)) ?_
      · have := doMs_is g.ps hv.wf (doL_srt (l := l) (vs := []) .nil) hv.is
        rw [hg, ← doL_append] at this
        exact this
      · intro x hx
        rcases List.mem_append.1 (hr.mem_iff.1 (List.mem_append_left r hx)) with h1 | h1
        · exact hv.h0 x h1
        · obtain ⟨p, hp, rfl⟩ := List.mem_map.1 h1
          exact g.h0 p hp
      · refine .keep _ _ _ _ _ _ (fun _ h => h) ?_
        rw [← List.append_assoc]
        exact less_pre _ _
  · have hi' : i = rs.length := by have := of_decide_eq_false hc; omega
    have hfl : recs.take i = recs := List.take_of_length_le (by rw [← hz1, List.length_map]; omega)
    rw [hfl] at hl
    rw [hl]
    repeat (first | refine JL.q (by first | (apply OQ.move; exact rfl) | (apply OQ.assign; exact rfl)) rfl ?_ | refine JC.seq ?_ | refine JC.region ?_ | refine JC.exit ?_ | refine JL.nil ?_ | refine JE.next ?_ | refine JE.then_exit ?_ | refine JE.blk_hit ?_)
    exact JC.ret (JE.ret2 rfl (RV.tmp rfl) (RV.tmp rfl) fun w' hw => ⟨⟨⟨mb, mc⟩, fun l' h => by cases h; exact hv⟩, rfl, hw.weak (.keep _ _ _ _ _ _ (fun _ h => h) (less_pre _ _))⟩)
end Go.Proofs.Ytjkncnbpaejamaa

/-
  Of no statement by itself: the landed store's Open.
  Conditions: each theorem's own.
-/
namespace Go.Proofs.Ytjkncnbpaejamaa
set_option maxRecDepth 10000
open Sl Dsk Jrn Sto
section
variable {n : Nat} {E : Env} {C : World → Prop} {dst : Option Tmp} {ty : TypeId} {pos : String} {aft : Array Edge} {g : Option (Nat × Bool)} {x1 x2 : Operand}
theorem OQ.buildSt {j mb : Nat} (h1 : ev E x1 = some (Pt j 0)) (h2 : ev E x2 = some (.map (some mb))) :
    OQ Try.prog n E C ⟨dst, .build 72 #[(0, x1), (1, x2)], ty, pos, aft, g⟩ (.agg #[Pt j 0, .map (some mb)]) :=
  OQ.run fun a ha w _ => by
    have e1 := ha.eval h1
    have e2 := ha.eval h2
    have r := run_build (P := Try.prog) w 72 #[(0, Pt j 0), (1, .map (some mb))] #[Pt j 0, .map (some mb)] (by kernel_rfl)
    simp [execOp, e1, e2, r]
end
theorem DkOk.twin {x z : Dp} {bl : List Bk} (h : DkOk x bl []) : DkOk ⟨z.p, z.q, z.cap, none⟩ bl [] := ⟨h.ok, h.n0, h.n1, h.m, fun _ => rfl⟩
theorem vonE_wr (o : Option (List Pq)) (z : Vz) : ∀ e ∈ vonE o z, e.wr = true := by
  intro e he
  cases o with
  | none => cases he
  | some l => exact z.wr e he
set_option maxHeartbeats 16000000 in
theorem sOpen_yes (x : Dp) (bl : List Bk) (l : List Pq) (hd : DkOk x bl []) (hno : noOpen bl = 0) (ho : decAll (curF bl).2.2 = some l) (w : World) (h0 : Holds w (keys (dkE x bl [])) (dkE x bl []) w) :
    Calls Try.prog 9 [Pt x.p 0].toArray w fun e w' => ∃ z : {z : Sz // z.ok (curF bl).2.2 (doL [] l) ∧ z.h = opnJ x bl ∧ z.bl = opnD bl}, e = .returned (.tuple #[Pt z.1.p 0, N 0]) ∧ Holds w (keys (dkE x bl [])) z.1.E w' := by
  have v := Jv.opn (x := x) hd.ok.b hd.n1 hno
  have hdj := hd.opn hno
  generalize keys (dkE x bl []) = S at h0 ⊢
  refine enter (n := 28) Try.func9 rfl rfl rfl h0 ?_
  repeat (first | refine JL.q (by first | (apply OQ.move; exact rfl) | (apply OQ.assign; exact rfl)) rfl ?_ | refine JC.seq ?_ | refine JC.region ?_ | refine JL.nil ?_ | refine JE.next ?_)
  refine JL.callg (ι := Dp) (vs := [Pt x.p 0]) (fun z => Pt z.p 0) (fun z => dkE ⟨z.p, z.q, z.cap, none⟩ bl []) goes_twin rfl rfl (fun z => dkE_wr _ _ _) (fun w' hw' => dtwin_any x bl [] hd (M := []) (by rw [List.append_nil]; exact hw')) fun t => ?_
  refine JL.callV (ι := VzOf (some l)) (X := dkE ⟨t.p, t.q, t.cap, none⟩ bl []) (vs := [Pt t.p 0]) (fun z => vonV (some l) z.1) (fun z => vonE (some l) z.1) goes_von rfl rfl (dkE_wr _ _ _) (fun z => vonE_wr _ _) (fun w' _ hw' => by have := von_any ⟨t.p, t.q, t.cap, none⟩ bl hd.twin hno w' hw'; rwa [ho] at this) fun z => ?_
  obtain ⟨⟨mb, mm, c⟩, hz⟩ := z
  have hz := hz l rfl
  dsimp only [vonV, vonE, Vz.E]
  repeat (first | refine JL.q (by first | (apply OQ.extract; exact rfl; exact rfl) | (apply OQ.neB (a := 0) (b := 0) (c := true); exact rfl; exact rfl; exact rfl) | (apply OQ.move; exact rfl) | (apply OQ.assign; exact rfl)) rfl ?_ | refine JC.seq ?_ | refine JC.region ?_ | refine JL.nil ?_ | refine JE.next ?_)
  refine JC.cond_false rfl rfl ?_
  repeat (first | refine JL.q (by (apply OQ.move; exact rfl)) rfl ?_ | refine JC.seq ?_ | refine JC.region ?_ | refine JC.skip ?_ | refine JE.next ?_)
  refine JL.perm (M' := dkE x bl [] ++ (⟨mb, MvB (mm, c), true⟩ :: flatE (mm.map ME.val))) ?_ List.perm_append_comm
  refine JL.jopen hd (by decide) hno rfl rfl fun j => ?_
  repeat (first | refine JL.q (by first | (apply OQ.extract; exact rfl; exact rfl) | (apply OQ.neB (a := 0) (b := 0) (c := true); exact rfl; exact rfl; exact rfl) | (apply OQ.move; exact rfl) | (apply OQ.assign; exact rfl)) rfl ?_ | refine JC.seq ?_ | refine JC.region ?_ | refine JL.nil ?_ | refine JE.next ?_)
  refine JC.cond_false rfl rfl ?_
  repeat (first | refine JL.q (by first | (apply OQ.buildSt; exact rfl; exact rfl) | (apply OQ.move; exact rfl)) rfl ?_ | refine JC.seq ?_ | refine JC.region ?_ | refine JC.skip ?_ | refine JE.next ?_)
  refine JL.box (r := [Pt j 0, .map (some mb)]) rfl rfl rfl fun p _ => ?_
  repeat (first | refine JL.q (by (apply OQ.assign; exact rfl)) rfl ?_ | refine JL.nil ?_ | refine JE.next ?_)
  exact JC.ret (JE.ret2 rfl (RV.tmp rfl) (RV.tmp rfl) fun w' hw => ⟨⟨⟨p, mb, mm, c, j, opnJ x bl, opnD bl⟩, ⟨hz.wf, hz.is, doL_srt .nil, hz.h0, v, hdj, by show valsOf _ = _; unfold valsOf; rw [ho]; rfl⟩, rfl, rfl⟩, rfl, hw.perm' (List.Perm.cons _ List.perm_middle)⟩)
end Go.Proofs.Ytjkncnbpaejamaa

/-
  Of no statement by itself: literals of slices of two elements with many cells; over X's partial knowledge, for any program P.
  Conditions: each rule's own hypotheses.
-/
namespace Go.Proofs.Ytjkncnbpaejamaa
namespace Sl
section
variable {P : Program} {n : Nat} {w0 : World} {S : List Nat} {ops : Array Oper} {Q : Exit → Act → World → Prop} {l : List Oper} {E : Env} {M : List Ent}
variable {d : Nat} {t e ty : TypeId} {pos : String} {aft : Array Edge} {v z : Value} {x y : Operand} {sz by' : Nat} {cs ds : List Value}
end
end Sl
end Go.Proofs.Ytjkncnbpaejamaa

/-
  Of no statement by itself: literals of slices of three elements with many cells; over X's partial knowledge, for any program P.
  Conditions: each rule's own hypotheses.
-/
namespace Go.Proofs.Ytjkncnbpaejamaa
namespace Sl
section
variable {P : Program} {n : Nat} {w0 : World} {S : List Nat} {ops : Array Oper} {Q : Exit → Act → World → Prop} {l : List Oper} {E : Env} {M : List Ent}
variable {d : Nat} {t e ty : TypeId} {pos : String} {aft : Array Edge} {v z : Value} {x y u : Operand} {sz by' : Nat} {cs ds es : List Value}
theorem buildA3_run {w : World} (hu : P.underlying t = some (.slice e)) (hi : EI P e z sz by') (_hz : z.cells.size = sz) (h0 : 0 < sz) (hsm : sz ≤ 4000000) (hl : cs.length = sz) (hl2 : ds.length = sz) (hl3 : es.length = sz) :
    (Instr.buildSlice t 3 #[(0, .agg cs.toArray), (1, .agg ds.toArray), (2, .agg es.toArray)]).run P w = .ok (.slice (some ⟨w.heap.size, 0, none⟩) 3 3) { w with heap := w.heap.push (.cells (cs ++ (ds ++ es)).toArray e (0, 0)) } := by
  have h3 : (underlying t).run P w = .ok (.slice e) w := run_underlying hu w
  obtain ⟨i, h4, h5, _⟩ := hi.get
  obtain ⟨r, h6, h7, h8⟩ := Great.fill_dense h0 [.agg cs.toArray, .agg ds.toArray, .agg es.toArray] 0 ((Array.range (3 * sz)).map (z.cells[· % z.cells.size]!)) (by intro v hv; simp only [List.mem_cons, List.not_mem_nil, or_false] at hv; rcases hv with rfl | rfl | rfl <;> simp [Value.cells, hl, hl2, hl3]) (by simp)
  have hr : r = (cs ++ (ds ++ es)).toArray := by
    apply Array.ext_getElem?
    intro k
    rw [h8 k]
    by_cases hk : k < 3 * sz
    · rw [if_pos (by simp; omega)]
      by_cases h1 : k < sz
      · rw [List.getElem?_toArray, List.getElem?_append_left (by omega)]
        simp [Nat.div_eq_of_lt h1, Nat.mod_eq_of_lt h1, Value.cells]
      · by_cases h2 : k < 2 * sz
        · have e1 : k / sz = 1 := by
            rw [Nat.div_eq_iff h0]; omega
          have e2 : k % sz = k - sz := by
            rw [Nat.mod_eq_sub_mod (by omega), Nat.mod_eq_of_lt (by omega)]
          rw [List.getElem?_toArray, List.getElem?_append_right (by omega), hl, List.getElem?_append_left (by omega)]
          simp [e1, e2, Value.cells]
        · have e1 : k / sz = 2 := by
            rw [Nat.div_eq_iff h0]; omega
          have e2 : k % sz = k - sz - sz := by
            rw [Nat.mod_eq_sub_mod (by omega), Nat.mod_eq_sub_mod (by omega), Nat.mod_eq_of_lt (by omega)]
          rw [List.getElem?_toArray, List.getElem?_append_right (by omega), hl, List.getElem?_append_right (by omega), hl2]
          simp [e1, e2, Value.cells]
    · rw [if_neg (by simp; omega), Array.getElem?_eq_none (by simp; omega), Array.getElem?_eq_none (by simp; omega)]
  subst hr
  have h11 : (zeroValue e).run P w = .ok z w := by simp [zeroValue, typeInfo, h4, h5]
  have h12 : ¬ (16777216 < 3 * sz) := by omega
  have h13 : ¬ (3 * sz = 0) := by omega
  have h14 : ¬ (sz = 0) := by omega
  simp only [List.zipIdx_cons, List.zipIdx_nil, List.map_cons, List.map_nil] at h6
  simp [Instr.buildSlice, Sem.run_bind, h3, sizeOf_run hi.sz, h11, h12, h13, h14, h6, newRow, newObj, Sem.run]
theorem JL.litA3 (hu : P.underlying t = some (.slice e)) (hi : EI P e z sz by') (hz : z.cells.size = sz) (h0 : 0 < sz) (hsm : sz ≤ 4000000) (hx : ev E x = some (.agg cs.toArray)) (hy : ev E y = some (.agg ds.toArray)) (hu2 : ev E u = some (.agg es.toArray)) (hl : cs.length = sz) (hl2 : ds.length = sz) (hl3 : es.length = sz) (hd : Nat.blt d n = true)
    (k : ∀ b, w0.heap.size ≤ b → JL P n w0 S ops Q l ((d, .slice (some ⟨b, 0, none⟩) 3 3) :: E) (⟨b, Row e (cs ++ (ds ++ es)), true⟩ :: M)) : JL P n w0 S ops Q (⟨some d, .buildSlice t 3 #[(0, x), (1, y), (2, u)], ty, pos, aft, none⟩ :: l) E M :=
  ⟨fun a w ha hw => wpList_plain rfl fun K hK => by
    unfold Oper.wp
    have hm : (#[(0, x), (1, y), (2, u)] : Array (Nat × Operand)).map (fun (i, x) => (i, a.eval x)) = #[(0, .agg cs.toArray), (1, .agg ds.toArray), (2, .agg es.toArray)] := by simp [ha.eval hx, ha.eval hy, ha.eval hu2]
    simp only [execOp, hm, Sem.run_bind, buildA3_run hu hi hz h0 hsm hl hl2 hl3, Result.andThen_ok]
    exact hK _ _ ((k w.heap.size hw.chg.size).go _ _ (ha.put d _ hd) (hw.push _ rfl rfl rfl rfl rfl))⟩
end
end Sl
end Go.Proofs.Ytjkncnbpaejamaa

/-
  Of no statement by itself: rules for calls of a store; the law's speaks.
  Conditions: each theorem's own.
-/
namespace Go.Proofs.Ytjkncnbpaejamaa
set_option maxRecDepth 10000
open Sl Dsk Jrn Sto
theorem lss_is : ∀ (a b : Bk), Op.bytesLess (toU a) (toU b) = klt a b
  | [], [] => rfl
  | [], _ :: _ => rfl
  | _ :: _, [] => rfl
  | a :: l, b :: r => by
    have ih := lss_is l r
    show (decide (UInt8.ofBitVec a < UInt8.ofBitVec b) || ((UInt8.ofBitVec a == UInt8.ofBitVec b) && Op.bytesLess (toU l) (toU r))) = _
    rw [ih, klt]
    have h1 : (UInt8.ofBitVec a < UInt8.ofBitVec b) ↔ a.toNat < b.toNat := Iff.rfl
    have h2 : (UInt8.ofBitVec a == UInt8.ofBitVec b) = decide (a.toNat = b.toNat) := by
      rw [Bool.eq_iff_iff]
      simp only [beq_iff_eq, decide_eq_true_eq]
      exact ⟨fun h => by have := congrArg UInt8.toBitVec h; simpa using congrArg BitVec.toNat this, fun h => by rw [BitVec.eq_of_toNat_eq h]⟩
    rw [h2]
    by_cases c1 : a.toNat < b.toNat
    · rw [if_pos c1, decide_eq_true (h1.2 c1)]; rfl
    · rw [if_neg c1, decide_eq_false (fun h => c1 (h1.1 h))]
      by_cases c2 : b.toNat < a.toNat
      · rw [if_pos c2, decide_eq_false (by omega)]; rfl
      · rw [if_neg c2, decide_eq_true (by omega)]; rfl
theorem strB_list (l : Bk) : (strB l).toList = toU l := by
  rw [ByteArray.toList_eq]
  show (l.map UInt8.ofBitVec).toArray.toList = _
  rfl
section
variable {P : Program} {n : Nat} {E : Env} {C : World → Prop} {dst : Option Tmp} {ty t t' : TypeId} {pos : String} {aft : Array Edge} {g : Option (Nat × Bool)} {x y : Operand} {l r : Bk}
theorem OQ.lssZ (hx : ev E x = some (Z l)) (hy : ev E y = some (Z r)) : OQ P n E C ⟨dst, .binOp .lss t x y t', ty, pos, aft, g⟩ (.bool (klt l r)) :=
  OQ.run fun a ha w _ => by
    have h1 := ha.eval hx
    have h2 := ha.eval hy
    simp [execOp, h1, h2, eqGuard, binOp, Op.stringOp, strB_list, lss_is]
end
/-- the keys of values with a front -/
def keysV (vs : VL) (front : Bk) : List Bk := (vs.filter fun p => preB16 front p.1).map Prod.fst
section
variable {n : Nat} {w0 : World} {S : List Nat} {ops : Array Oper} {Q : Exit → Act → World → Prop} {l : List Oper} {E : Env} {M : List Ent}
variable {d : Nat} {ty : TypeId} {pos : String} {aft : Array Edge} {x1 x2 : Operand} {ats : Array TypeId} {x : Dp} {bl recs : List Bk} {vs : VL} {z : Sz} {s : SlP} {key : Bk} {ls : List Pq}
abbrev SzOf (x : Dp) (bl : List Bk) (ls : List Pq) := {z : Sz // z.ok (curF bl).2.2 (doL [] ls) ∧ z.h = opnJ x bl ∧ z.bl = opnD bl}
theorem JL.sopen (hd : DkOk x bl []) (hno : noOpen bl = 0) (ho : decAll (curF bl).2.2 = some ls) (e1 : ev E x1 = some (Pt x.p 0)) (hn : Nat.blt d n = true)
    (kk : ∀ z : SzOf x bl ls, JL Try.prog n w0 S ops Q l ((d, .tuple #[Pt z.1.p 0, N 0]) :: E) (z.1.E ++ M)) : JL Try.prog n w0 S ops Q (⟨some d, .call ⟨.value (.func 9), #[x1], ats⟩, ty, pos, aft, none⟩ :: l) E (dkE x bl [] ++ M) :=
  JL.callV (ι := SzOf x bl ls) (xs := [x1]) (vs := [Pt x.p 0]) (fun z => .tuple #[Pt z.1.p 0, N 0]) (fun z => z.1.E) goes_sOpen (by simp [evs, e1]) hn (dkE_wr _ _ _) (fun z => z.1.wr)
    (fun w _ hw => sOpen_yes x bl ls hd hno ho w hw) kk
theorem JL.scom (k : z.ok recs vs) (hz : szL s.ps ≤ 2500000) (hs : ∀ w, Holds w0 S (z.E ++ M) w → s.ok w ∧ AwayP s (keys z.E)) (e1 : ev E x1 = some (Pt z.p 0)) (e2 : ev E x2 = some s.v) (hn : Nat.blt d n = true)
    (kk : ∀ r : StepTo z recs vs s.ps, JL Try.prog n w0 S ops Q l ((d, N r.code) :: E) (r.z'.E ++ M)) : JL Try.prog n w0 S ops Q (⟨some d, .call ⟨.value (.func 13), #[x1, x2], ats⟩, ty, pos, aft, none⟩ :: l) E (z.E ++ M) :=
  JL.callV (ι := StepTo z recs vs s.ps) (xs := [x1, x2]) (vs := [Pt z.p 0, s.v]) (fun r => N r.code) (fun r => r.z'.E) goes_com (by simp [evs, e1, e2]) hn z.wr (fun r => r.z'.wr)
    (fun w h0 hw => com_any z recs vs k s w (hs w h0).1 (hs w h0).2 hz hw) kk
theorem JL.sget {v : Bk} {is : Bool} (k : z.ok recs vs) (hv : (getV vs key).getD [] = v) (hi : (getV vs key).isSome = is) (e1 : ev E x1 = some (Pt z.p 0)) (e2 : ev E x2 = some (Z key)) (hn : Nat.blt d n = true)
    (kk : ∀ q : {q : Acc // q = none → v = []}, JL Try.prog n w0 S ops Q l ((d, .tuple #[accV q.1 v.length, .bool is]) :: E) (accE 5 q.1 (v.map U8) ++ (z.E ++ M))) : JL Try.prog n w0 S ops Q (⟨some d, .call ⟨.value (.func 24), #[x1, x2], ats⟩, ty, pos, aft, none⟩ :: l) E (z.E ++ M) := by
  have hl := look_get k.wf k.srt k.is key
  have h1 : ((look z.mm key).getD nilS).l = v := by
    rw [← hv, ← hl]
    cases look z.mm key <;> rfl
  have h2 : (look z.mm key).isSome = is := by rw [← hi, ← hl, Option.isSome_map]
  refine JL.callg (ι := {q : Acc // q = none → v = []}) (xs := [x1, x2]) (vs := [Pt z.p 0, Z key]) (fun q => .tuple #[accV q.1 v.length, .bool is]) (fun q => accE 5 q.1 (v.map U8)) goes_sGet (by simp [evs, e1, e2]) hn (fun _ => accE_wr _ _ _) (fun w hw => ?_) kk
  have := get_any z.p z.mb (Pt z.j 0) z.mm z.c key w (stR_of hw) fun x hx => ⟨k.vok hw x hx, by have := k.val hx; omega⟩
  rwa [h1, h2] at this
theorem JL.skeys {front : Bk} {ks : List Bk} (k : z.ok recs vs) (hk : keysV vs front = ks) (e1 : ev E x1 = some (Pt z.p 0)) (e2 : ev E x2 = some (Z front)) (hn : Nat.blt d n = true)
    (kk : ∀ q : {q : Acc // q = none → ks = []}, JL Try.prog n w0 S ops Q l ((d, accV q.1 ks.length) :: E) (accE 9 q.1 (ks.map Z) ++ (z.E ++ M))) : JL Try.prog n w0 S ops Q (⟨some d, .call ⟨.value (.func 15), #[x1, x2], ats⟩, ty, pos, aft, none⟩ :: l) E (z.E ++ M) := by
  have h1 : keysM z.mm front = ks := by rw [← hk]; exact keysM_is k.srt k.is front
  refine JL.callg (ι := {q : Acc // q = none → ks = []}) (xs := [x1, x2]) (vs := [Pt z.p 0, Z front]) (fun q => accV q.1 ks.length) (fun q => accE 9 q.1 (ks.map Z)) goes_sKeys (by simp [evs, e1, e2]) hn (fun _ => accE_wr _ _ _) (fun w hw => ?_) kk
  have := skeys_any z.p z.mb (Pt z.j 0) z.mm z.c front w k.wf (stR_of hw) (by have := k.lenb; omega)
  rwa [h1] at this
end
theorem newB_dec (n : Nat) : decAll (curF (newB n)).2.2 = some [] := by rw [(newB_cur n).1]; rfl
section
variable {n : Nat} {E : Env} {C : World → Prop} {dst : Option Tmp} {ty : TypeId} {pos : String} {aft : Array Edge} {g : Option (Nat × Bool)} {x1 x2 : Operand}
theorem OQ.buildP1 {key : Bk} (h1 : ev E x1 = some (Z key)) :
    OQ Try.prog n E C ⟨dst, .build 44 #[(0, x1)], ty, pos, aft, g⟩ (.agg #[Z key, .slice none 0 0, .bool false]) :=
  OQ.run fun a ha w _ => by
    have e1 := ha.eval h1
    have r := run_build (P := Try.prog) w 44 #[(0, Z key)] #[Z key, .slice none 0 0, .bool false] (by kernel_rfl)
    simp [execOp, e1, r]
theorem OQ.buildPg {key : Bk} {b : Bool} (h1 : ev E x1 = some (Z key)) (h2 : ev E x2 = some (.bool b)) :
    OQ Try.prog n E C ⟨dst, .build 44 #[(0, x1), (2, x2)], ty, pos, aft, g⟩ (.agg #[Z key, .slice none 0 0, .bool b]) :=
  OQ.run fun a ha w _ => by
    have e1 := ha.eval h1
    have e2 := ha.eval h2
    have r := run_build (P := Try.prog) w 44 #[(0, Z key), (2, .bool b)] #[Z key, .slice none 0 0, .bool b] (by kernel_rfl)
    simp [execOp, e1, e2, r]
end
theorem goes_speaks16 : Goes Try.prog 6 := ⟨_, Try.func6, rfl, by kernel_rfl⟩
/-- pairs in a row of one's own -/
theorem row3_ok {b : Nat} {l : List PqS} {w0 w : World} {S : List Nat} {M : List Ent} {wr : Bool} (hw : Holds w0 S M w) (hM : Has M b (Row 44 (l.map PqS.cs).flatten) wr) (ha : ∀ p ∈ l, p.s.ok w) : (SlP.mk (some ⟨b, 0, none⟩) l.length l).ok w := by
  obtain ⟨o, ho, hA⟩ := hw.get hM
  exact ⟨Nat.le_refl _, Reads.block ho (Row.all o hA), ha⟩
def spk16 : List Pq := [⟨[98], [], false⟩, ⟨[97], [1], false⟩, ⟨[97], [], true⟩]
set_option maxHeartbeats 16000000 in
theorem speaks16_any (w : World) : Calls Try.prog 6 [].toArray w fun e w' => e = .returned (.bool true) ∧ Ext w w' := by
  refine enter (n := 51) Try.func6 rfl rfl rfl (Holds.start w []) ?_
  repeat (first | refine JL.q (by (apply OQ.assign; exact rfl)) rfl ?_ | refine JC.seq ?_ | refine JC.region ?_ | refine JL.nil ?_ | refine JE.next ?_)
  refine JL.dnew (k := 20) (by decide) (by decide) rfl rfl fun x hx => ?_
  repeat (first | refine JL.q (by first | (apply OQ.extract; exact rfl; exact rfl) | (apply OQ.neB (a := 0) (b := 0) (c := true); exact rfl; exact rfl; exact rfl) | (apply OQ.ptrNil; exact Try.underlying25; exact rfl; exact rfl) | (apply OQ.pick_f; exact rfl; exact rfl) | (apply OQ.move; exact rfl) | (apply OQ.assign; exact rfl)) rfl ?_ | refine JC.seq ?_ | refine JC.region ?_ | refine JL.nil ?_ | refine JE.next ?_ | refine JL.gon rfl rfl ?_)
  refine JC.cond_false rfl rfl ?_
  repeat (first | refine JL.q (by (apply OQ.move; exact rfl)) rfl ?_ | refine JC.seq ?_ | refine JC.region ?_ | refine JC.skip ?_ | refine JE.next ?_)
  have hno : noOpen (newB 20) = 0 := newB_no (by decide)
  refine JL.sopen hx hno (newB_dec 20) rfl rfl fun z => ?_
  obtain ⟨z, k, hh, hbl⟩ := z
  have hsz : z.h.size = 10 := by rw [hh]; rfl
  have hus : z.h.used = 1 := by rw [k.jv.u, (newB_cur 20).1]; rfl
  dsimp only
  repeat (first | refine JL.q (by first | (apply OQ.extract; exact rfl; exact rfl) | (apply OQ.neB (a := 0) (b := 0) (c := true); exact rfl; exact rfl; exact rfl) | (apply OQ.ptrNil; exact Try.underlying29; exact rfl; exact rfl) | (apply OQ.pick_f; exact rfl; exact rfl) | (apply OQ.buildP1 (key := [98]); exact rfl) | (apply OQ.move; exact rfl) | (apply OQ.assign; exact rfl)) rfl ?_ | refine JC.seq ?_ | refine JC.region ?_ | refine JL.nil ?_ | refine JE.next ?_ | refine JL.gon rfl rfl ?_)
  try refine JL.gon rfl rfl ?_
  refine JL.lit1 (v := U8 1) Try.underlying33 u8e rfl rfl rfl rfl fun b5 _ => ?_
  repeat (first | refine JL.q (by first | (apply OQ.buildP2 (key := [97]) (s := ⟨some ⟨b5, 0, none⟩, 1, [1]⟩); exact rfl; exact rfl) | (apply OQ.buildPg (key := [97]) (b := true); exact rfl; exact rfl)) rfl ?_ | refine JL.gon rfl rfl ?_)
  try refine JL.gon rfl rfl ?_
  refine JL.litA3 (cs := (PqS.mk [98] nilS false).cs) (ds := (PqS.mk [97] ⟨some ⟨b5, 0, none⟩, 1, [1]⟩ false).cs) (es := (PqS.mk [97] nilS true).cs) Try.underlying32 prI rfl (by decide) (by decide) rfl rfl rfl rfl rfl rfl rfl fun bl _ => ?_
  refine JL.perm (M' := z.E ++ [⟨bl, Row 44 ((PqS.mk [98] nilS false).cs ++ ((PqS.mk [97] ⟨some ⟨b5, 0, none⟩, 1, [1]⟩ false).cs ++ (PqS.mk [97] nilS true).cs)), true⟩, ⟨b5, Row 5 [U8 1], true⟩]) ?_ (by rw [List.append_nil]; exact List.perm_append_comm (l₁ := [_, _]))
  try refine JL.gon rfl rfl ?_
  refine JL.scom (s := ⟨some ⟨bl, 0, none⟩, 3, [⟨[98], nilS, false⟩, ⟨[97], ⟨some ⟨b5, 0, none⟩, 1, [1]⟩, false⟩, ⟨[97], nilS, true⟩]⟩) k (by show szL spk16 ≤ 2500000; decide) (fun w' hw' => ⟨row3_ok (l := [_, _, _]) hw' (hasR (N := z.E) .here) ?_, ?_⟩) rfl rfl rfl fun r => ?_
  · intro p hp
    simp only [List.mem_cons, List.not_mem_nil, or_false] at hp
    rcases hp with rfl | rfl | rfl
    · exact nilS_ok _
    · exact row_ok hw' (hasR (N := z.E) (.there .here)) rfl (by decide)
    · exact nilS_ok _
  · refine ⟨fun _ a ea => ?_, fun p hp => ?_⟩
    · cases ea
      exact away_has (b := bl) hw' .here
    · simp only [List.mem_cons, List.not_mem_nil, or_false] at hp
      rcases hp with rfl | rfl | rfl
      · intro _ a ea; cases ea
      · intro _ a ea; cases ea; exact away_has (b := b5) hw' (.there .here)
      · intro _ a ea; cases ea
  obtain ⟨code, z', recs', vs', k', hp, st⟩ := r
  dsimp only
  have hst : code = 0 ∧ vs' = [([98], [])] := by
    rcases st with ⟨_, _, _, h | h⟩ | ⟨_, h1, h2, _⟩
    · exact absurd h.1 (by show ¬ okL spk16 = false; decide)
    · exact absurd (by rw [hsz, hus]; show nb (encL spk16).length ≤ 10 - 1; decide) h.2.2.1
    · exact ⟨h1, by rw [h2]; rfl⟩
  obtain ⟨rfl, rfl⟩ := hst
  rw [← hp]
  repeat (first | refine JL.q (by first | (apply OQ.neB (a := 0) (b := 0) (c := true); exact rfl; exact rfl; exact rfl) | (apply OQ.pick_f; exact rfl; exact rfl)) rfl ?_ | refine JL.nil ?_ | refine JE.next ?_ | refine JL.gon rfl rfl ?_)
  refine JC.cond_false rfl rfl ?_
  repeat (first | refine JL.q (by (apply OQ.move; exact rfl)) rfl ?_ | refine JC.seq ?_ | refine JC.region ?_ | refine JC.skip ?_ | refine JE.next ?_)
  refine JL.sget (key := [97]) (v := []) (is := false) k' rfl rfl rfl rfl rfl fun q => ?_
  repeat (first | refine JL.q (by first | (apply OQ.extract; exact rfl; exact rfl) | (apply OQ.not; exact rfl) | (apply OQ.move; exact rfl) | (apply OQ.assign; exact rfl)) rfl ?_ | refine JC.seq ?_ | refine JC.region ?_ | refine JL.nil ?_ | refine JE.next ?_ | refine JL.gon rfl rfl ?_)
  refine JL.perm (M' := z'.E ++ (accE 5 q.1 (([] : Bk).map U8) ++ [⟨bl, Row 44 ((PqS.mk [98] nilS false).cs ++ ((PqS.mk [97] ⟨some ⟨b5, 0, none⟩, 1, [1]⟩ false).cs ++ (PqS.mk [97] nilS true).cs)), true⟩, ⟨b5, Row 5 [U8 1], true⟩])) ?_ (by exact List.perm_append_comm_assoc _ _ _)
  try refine JL.gon rfl rfl ?_
  refine JL.skeys (front := []) (ks := [[98]]) k' rfl rfl rfl rfl fun q2 => ?_
  have hq0 : q2.1 = none → ([[98]] : List Bk).length = 0 := fun e => by cases q2.2 e
  repeat (first | refine JL.q (by first | (apply OQ.lenV (q := q2.1) (k := 1); exact Try.underlying41; exact hq0; exact rfl) | (apply OQ.eqB (a := 1) (b := 1) (c := true); exact rfl; exact rfl; exact rfl) | (apply OQ.pick_t; exact rfl; exact rfl) | (apply OQ.assign; exact rfl)) rfl ?_ | refine JL.nil ?_ | refine JE.next ?_ | refine JL.gon rfl rfl ?_)
  exact JC.ret (JE.ret1 rfl (RV.tmp rfl) fun w' hw => ⟨rfl, hw.chg⟩)
end Go.Proofs.Ytjkncnbpaejamaa

/-
  Of no statement by itself: the reference's Do (layer 16): what it walks, and rules for it.
  Conditions: each theorem's own.
-/
namespace Go.Proofs.Ytjkncnbpaejamaa
set_option maxRecDepth 10000
open Sl Dsk Jrn Sto
section
variable {P : Program} {n : Nat} {w0 : World} {S : List Nat} {ops : Array Oper} {Q : Exit → Act → World → Prop} {l : List Oper} {E : Env} {M : List Ent}
variable {d : Nat} {dst : Option Tmp} {t e ty : TypeId} {pos : String} {aft : Array Edge} {g : Option (Nat × Bool)} {x y : Operand} {v : Value} {b j : Nat} {cs : List Value} {z : Value} {by' sz : Nat}
/-- a cell that all worlds of the class hold -/
theorem OQ.loadW (hs : scal P t = true) (hx : ev E x = some (.pointer (some ⟨b, j, none⟩))) (hc : ∀ w, Holds w0 S M w → w.cell? ⟨b, j, none⟩ = some v) : OQ P n E (Holds w0 S M) ⟨dst, .load t x, ty, pos, aft, g⟩ v :=
  OQ.load_at (fun w hw => loadVar_scal hs (hc w hw)) hx
theorem OQ.loadW_agg (ha : aggT P t = true) (hx : ev E x = some (.pointer (some ⟨b, j, none⟩))) (hz : szT P t = some cs.length) (hc : ∀ w, Holds w0 S M w → ∀ i u, cs[i]? = some u → w.cell? ⟨b, j + i, none⟩ = some u) : OQ P n E (Holds w0 S M) ⟨dst, .load t x, ty, pos, aft, g⟩ (.agg cs.toArray) :=
  OQ.load_at (fun w hw => loadVar_agg ha hz (hc w hw)) hx
/-- append of many elements of many cells -/
theorem JL.appendCs {ad : Option Addr} {sc m : Nat} {L L2 : List (List Value)} {q : Nat × Nat} {M0 : List Ent} (hu : P.underlying t = some (.slice e)) (hi : EI P e z sz by') (hx : ev E x = some (accV (some q) L.length)) (hy : ev E y = some (.slice ad m sc))
    (hl2 : L2.length = m) (hcl : ∀ c ∈ L2, c.length = sz) (hr : ∀ w, Holds w0 S (accC e sz (some q) L ++ M0) w → Reads w ad L2.flatten) (h1 : ∀ v ∈ L2.flatten, v.oneCell' = true) (hzz : z.cells.size = sz) (h0 : 0 < sz) (hsm : (L.length + m) * by' ≤ 140737488355328) (hsm2 : L.length + m < 9223372036854775808) (hd : Nat.blt d n = true)
    (kk : ∀ r : Nat × Nat, JL P n w0 S ops Q l ((d, accV (some r) (L ++ L2).length) :: E) (accC e sz (some r) (L ++ L2) ++ M0)) :
    JL P n w0 S ops Q (⟨some d, .call ⟨.builtin .append, #[x, y], #[t, t]⟩, ty, pos, aft, none⟩ :: l) E (accC e sz (some q) L ++ M0) := by
  have eN : (L ++ L2).length = L.length + m := by rw [List.length_append, hl2]
  have eF : (L ++ L2).flatten = L.flatten ++ L2.flatten := List.flatten_append
  refine JL.append (b := q.1) (cap := q.2) (k := L.length) (xs := L.flatten) (ad := ad) (m := m) (sc := sc) (cs := L2.flatten) (fun b' cap' => accC e sz (some (b', cap')) (L ++ L2) ++ M0) hu hi hx hy (fun b' cap' => ?_) (by rw [chunk_len hcl, hl2]) hr h1 hzz h0 hsm hsm2 hd fun b' cap' => ?_
  · show Repl (⟨q.1, Sl.Own e sz L.length q.2 L.flatten, true⟩ :: M0) q.1 _ b' _ (⟨b', Sl.Own e sz (L ++ L2).length cap' (L ++ L2).flatten, true⟩ :: M0)
    rw [eN, eF]
    exact .here
  · have := kk (b', cap')
    rwa [show accV (some (b', cap')) (L ++ L2).length = .slice (some ⟨b', 0, none⟩) (L.length + m) cap' by rw [eN]; rfl] at this
end
/-- the values as Do has them: what was handed in, or a slice of its own -/
structure Cu where
  q : Acc
  ps : List PqS
def Cu.s (z : Cu) (a : SlP) : SlP := match z.q with
  | none => a
  | some p => ⟨some ⟨p.1, 0, none⟩, p.2, z.ps⟩
def Cu.E (z : Cu) : List Ent := match z.q with
  | none => []
  | some p => accC 44 3 (some p) (z.ps.map PqS.cs)
structure Cu.okw (z : Cu) (a : SlP) (w : World) : Prop where
  a0 : z.q = none → z.ps = a.l
  all : ∀ p ∈ z.ps, p.s.ok w
theorem Cu.l {z : Cu} {a : SlP} (h : z.q = none → z.ps = a.l) : (z.s a).l = z.ps := by
  obtain ⟨q, ps⟩ := z
  cases q with
  | none => exact (h rfl).symm
  | some p => rfl
theorem Cu.ok {z : Cu} {a : SlP} {w w' : World} {A M : List Ent} (k : z.okw a w) (ha : a.ok w) (hw : Holds w [] (A ++ (z.E ++ M)) w') : (z.s a).ok w' := by
  obtain ⟨q, ps⟩ := z
  cases q with
  | none => exact ha.holds hw rfl
  | some p => exact gpS_ok (q := some p) (l := ps) (M := M) nofun (hw.weak (less_app A (Less.refl _))) fun y hy => (k.all y hy).holds hw rfl
/-- where the values stand, whatever world of the class it is -/
theorem Cu.at {z : Cu} {a : SlP} {w : World} {i : Nat} (k : z.okw a w) (ha : a.ok w) (hi : i < z.ps.length) : ∃ b j, (z.s a).ad = some ⟨b, j, none⟩ ∧ ∀ (A M : List Ent) (w' : World), Holds w [] (A ++ (z.E ++ M)) w' → ∀ m u, ((z.ps.getD i noP).cs)[m]? = some u → w'.cell? ⟨b, j + i * 3 + m, none⟩ = some u := by
  have hl := Cu.l k.a0
  have had : ∃ b j, (z.s a).ad = some ⟨b, j, none⟩ := by
    cases hq : z.q with
    | none =>
      have e : z.s a = a := by unfold Cu.s; rw [hq]
      rw [e]
      have hi' : i < a.l.length := by rw [← k.a0 hq]; exact hi
      obtain ⟨b, j, e, _⟩ := ha.at hi'
      exact ⟨b, j, e⟩
    | some p => exact ⟨p.1, 0, by unfold Cu.s; rw [hq]⟩
  obtain ⟨b, j, e⟩ := had
  refine ⟨b, j, e, fun A M w' hw m u hu => ?_⟩
  have ok := Cu.ok k ha hw
  obtain ⟨b2, j2, e2, _, hc⟩ := ok.at (i := i) (by rw [hl]; exact hi)
  rw [e, Option.some.injEq, Addr.mk.injEq] at e2
  obtain ⟨rfl, rfl, _⟩ := e2
  rw [hl] at hc
  exact hc m u hu
/-- a pair done to pairs by rising keys, as the reference does it -/
def dpS (cur : List PqS) (p : PqS) : List PqS :=
  cur.takeWhile (fun c => klt c.key p.key) ++ ((if p.gone then [] else [p]) ++ (match cur.dropWhile (fun c => klt c.key p.key) with
    | [] => []
    | c :: r => if c.key = p.key then r else c :: r))
theorem dpS_is (p : PqS) : ∀ {cur : List PqS} {vs : VL}, cur.map PqS.p = pairsV vs → (dpS cur p).map PqS.p = pairsV (doV vs p.p)
  | [], [], _ => by
    unfold dpS doV pairsV
    cases hg : p.gone
    · rw [if_neg (show ¬ p.p.gone = true by show ¬ p.gone = true; rw [hg]; simp)]
      simp [PqS.p, insV, hg]
    · rw [if_pos (show p.p.gone = true from hg)]
      simp [delV]
  | [], _ :: _, h => by cases h
  | _ :: _, [], h => by cases h
  | c :: cur, v :: vs, h => by
    have h1 : c.p = ⟨v.1, v.2, false⟩ := by simpa [pairsV] using congrArg List.head? h
    have h2 : cur.map PqS.p = pairsV vs := by simpa [pairsV] using congrArg List.tail h
    have hk : c.key = v.1 := congrArg Pq.key h1
    have ih := dpS_is p h2
    by_cases hlt : klt v.1 p.key = true
    · have e1 : dpS (c :: cur) p = c :: dpS cur p := by
        unfold dpS
        rw [List.takeWhile_cons_of_pos (by rw [hk]; exact hlt), List.dropWhile_cons_of_pos (by rw [hk]; exact hlt)]
        rfl
      have e2 : doV (v :: vs) p.p = v :: doV vs p.p := by
        unfold doV
        split
        · rw [delV, if_pos (show klt v.1 p.p.key = true from hlt)]
        · rw [insV, if_pos (show klt v.1 p.p.key = true from hlt)]
      rw [e1, e2, List.map_cons, ih, h1]
      rfl
    · have e1 : dpS (c :: cur) p = (if p.gone then [] else [p]) ++ (if c.key = p.key then cur else c :: cur) := by
        unfold dpS
        rw [List.takeWhile_cons_of_neg (by rw [hk]; exact hlt), List.dropWhile_cons_of_neg (by rw [hk]; exact hlt)]
        rfl
      have e3 : doV (v :: vs) p.p = (if p.gone then [] else [(p.key, p.s.l)]) ++ (if v.1 = p.key then vs else v :: vs) := by
        unfold doV
        cases hg : p.gone
        · rw [if_neg (show ¬ p.p.gone = true by show ¬ p.gone = true; rw [hg]; simp), insV, if_neg (show ¬ klt v.1 p.p.key = true from hlt)]
          by_cases he : v.1 = p.key
          · rw [if_pos (show v.1 = p.p.key from he), if_pos he]; rfl
          · rw [if_neg (show ¬ v.1 = p.p.key from he), if_neg he]; rfl
        · rw [if_pos (show p.p.gone = true from hg), delV, if_neg (show ¬ klt v.1 p.p.key = true from hlt)]
          by_cases he : v.1 = p.key
          · rw [if_pos (show v.1 = p.p.key from he), if_pos he]; rfl
          · rw [if_neg (show ¬ v.1 = p.p.key from he), if_neg he]; rfl
      rw [e1, e3, hk]
      cases hg : p.gone <;> by_cases he : v.1 = p.key <;> simp [he, h2, h1, pairsV, PqS.p, hg] <;> exact ⟨hk, congrArg Pq.val h1, congrArg Pq.gone h1⟩
end Go.Proofs.Ytjkncnbpaejamaa

/-
  Of no statement by itself: the reference's Do (layer 16).
  Conditions: each theorem's own.
-/
namespace Go.Proofs.Ytjkncnbpaejamaa
set_option maxRecDepth 10000
open Sl Dsk Jrn Sto
theorem one3 (l : List PqS) : ∀ v ∈ (l.map PqS.cs).flatten, v.oneCell' = true := by
  intro v hv
  obtain ⟨c, hc, hv⟩ := List.mem_flatten.1 hv
  obtain ⟨q, _, rfl⟩ := List.mem_map.1 hc
  exact List.all_eq_true.1 (PqS.one q) v hv
theorem goes_rDo : Goes Try.prog 11 := ⟨_, Try.func11, rfl, by kernel_rfl⟩
theorem dpS_at {cur : List PqS} {p : PqS} {k : Nat} (hk : k ≤ cur.length) (ha : (cur.take k).all (fun c => klt c.key p.key) = true) (hb : ∀ c, cur[k]? = some c → klt c.key p.key = false) :
    dpS cur p = cur.take k ++ ((if p.gone then [] else [p]) ++ (match cur[k]? with | none => [] | some c => if c.key = p.key then cur.drop (k + 1) else cur.drop k)) := by
  unfold dpS
  induction cur generalizing k with
  | nil =>
    have : k = 0 := Nat.le_zero.1 hk
    subst this
    rfl
  | cons c cur ih =>
    cases k with
    | zero =>
      have h := hb c rfl
      rw [List.takeWhile_cons_of_neg (by rw [h]; simp), List.dropWhile_cons_of_neg (by rw [h]; simp)]
      rfl
    | succ k =>
      rw [List.take_succ_cons, List.all_cons, Bool.and_eq_true] at ha
      rw [List.takeWhile_cons_of_pos (p := fun c : PqS => klt c.key p.key) (a := c) (l := cur) ha.1, List.dropWhile_cons_of_pos (p := fun c : PqS => klt c.key p.key) (a := c) (l := cur) ha.1]
      have := ih (k := k) (by simpa using hk) ha.2 (fun d hd => hb d (by simpa using hd))
      rw [List.cons_append, this]
      rfl
/-- the rest of a slice of pairs, as memory that is read -/
theorem reads_rest {s : SlP} {w : World} (h : s.ok w) {k : Nat} (hk : k ≤ s.l.length) : Reads w (if s.cap = k then s.ad else s.ad.map (·.add (k * 3))) ((s.l.drop k).map PqS.cs).flatten := by
  have hl := chunk_len (cs3 s.l)
  rw [List.length_map] at hl
  have h1 := h.reads.drop (len := s.l.length * 3) (cap := s.cap * 3) (lo := k * 3) hl (Nat.mul_le_mul_right 3 h.len) (Nat.mul_le_mul_right 3 hk)
  rw [chunk_drop (cs3 s.l) k, ← List.map_drop, Nat.mul_one] at h1
  by_cases e : s.cap = k
  · rw [if_pos e]
    rwa [if_pos (by rw [e])] at h1
  · rw [if_neg e]
    rwa [if_neg (fun h => e (by omega))] at h1
theorem dpS_mem {cur : List PqS} {p q : PqS} (h : q ∈ dpS cur p) : q ∈ cur ∨ q = p := by
  unfold dpS at h
  rcases List.mem_append.1 h with h | h
  · exact .inl ((List.takeWhile_sublist _).subset h)
  · rcases List.mem_append.1 h with h | h
    · split at h
      · cases h
      · exact .inr (List.mem_singleton.1 h)
    · have hd : ∀ x ∈ cur.dropWhile (fun c => klt c.key p.key), x ∈ cur := fun x hx => (List.dropWhile_sublist _).subset hx
      cases he : cur.dropWhile (fun c => klt c.key p.key) with
      | nil => rw [he] at h; cases h
      | cons c r =>
        rw [he] at h hd
        dsimp only at h
        split at h
        · exact .inl (hd q (by simp [h]))
        · exact .inl (hd q h)
theorem dpS_len (cur : List PqS) (p : PqS) : (dpS cur p).length ≤ cur.length + 1 := by
  have h1 := congrArg List.length (List.takeWhile_append_dropWhile (p := fun c : PqS => klt c.key p.key) (l := cur))
  unfold dpS
  rw [List.length_append] at h1
  rw [List.length_append, List.length_append]
  have h2 : (if p.gone = true then ([] : List PqS) else [p]).length ≤ 1 := by split <;> simp
  generalize cur.dropWhile (fun c => klt c.key p.key) = D at h1 ⊢
  cases D with
  | nil => simp only [List.length_nil] at h1 ⊢; omega
  | cons c r =>
    dsimp only
    have h3 : (if c.key = p.key then r else c :: r).length ≤ (c :: r).length := by
      by_cases he : c.key = p.key
      · rw [if_pos he, List.length_cons]; omega
      · rw [if_neg he]; exact Nat.le_refl _
    omega
structure Do1 where
  i : Nat
  z : Cu
set_option maxHeartbeats 64000000 in
theorem rDo_any (a l : SlP) (w : World) (ha : a.ok w) (hl : l.ok w) (hn : a.l.length + l.l.length ≤ 1000000) :
    Calls Try.prog 11 [a.v, l.v].toArray w fun e w' => ∃ z : {z : Cu // z.okw a w ∧ z.ps = l.l.foldl dpS a.l}, e = .returned (z.1.s a).v ∧ Holds w [] z.1.E w' := by
  refine enter (n := 79) Try.func11 rfl rfl rfl (Holds.start w []) ?_
  repeat (first | refine JL.q (by (apply OQ.assign; exact rfl)) rfl ?_ | refine JC.seq ?_ | refine JC.region ?_ | refine JC.block ?_ | refine JL.nil ?_ | refine JE.next ?_)
  refine JC.loop (fun y : Do1 => [(0, (y.z.s a).v), (1, l.v), (5, N y.i)]) (fun y => y.z.E) (fun y => l.l.length - y.i) (fun y => y.i ≤ l.l.length ∧ y.z.okw a w ∧ y.z.ps = (l.l.take y.i).foldl dpS a.l ∧ y.z.ps.length ≤ a.l.length + y.i) ⟨0, ⟨none, a.l⟩⟩ ⟨Nat.zero_le _, ⟨fun _ => rfl, ha.all⟩, rfl, Nat.le_refl _⟩ (by repeat (first | exact SubE.nil | refine SubE.cons _ _ _ rfl ?_)) (.nil _) ?_
  rintro ⟨i, z⟩ ⟨hi, hz, hzp, hzn⟩
  dsimp only at hi hz hzp hzn ⊢
  have hzl := Cu.l hz.a0
  cases g0 : decide ((i : Int) < (l.l.length : Int))
  case false =>
    have hi' : i = l.l.length := by have := of_decide_eq_false g0; omega
    rw [hi', List.take_length] at hzp
    repeat (first | refine JL.q (by first | (apply OQ.len (k := l.l.length) (ad := l.ad) (cap := l.cap); exact Try.underlying32; exact rfl) | (apply OQ.lssB (a := (i : Int)) (b := (l.l.length : Int)); exact rfl; exact rfl; exact g0) | (apply OQ.move; exact rfl)) rfl ?_ | refine JC.seq ?_ | refine JC.region ?_ | refine JL.nil ?_ | refine JE.next ?_)
    refine JC.cond_false rfl rfl ?_
    repeat (first | refine JL.q (by first | (apply OQ.move; exact rfl) | (apply OQ.assign; exact rfl)) rfl ?_ | refine JC.seq ?_ | refine JC.region ?_ | refine JC.exit ?_ | refine JL.nil ?_ | refine JE.next ?_ | refine JE.then_exit ?_ | refine JE.blk_hit ?_)
    exact JC.ret (JE.ret1 rfl (RV.tmp rfl) fun w' hw => ⟨⟨z, hz, hzp⟩, rfl, hw⟩)
  have hi' : i < l.l.length := by have := of_decide_eq_true g0; omega
  obtain ⟨bl, jl, el, ll, cl⟩ := hl.at hi'
  have hlt : l.l.take (i + 1) = l.l.take i ++ [l.l.getD i noP] := by
    rw [List.take_add_one]
    simp [List.getD_eq_getElem?_getD, hi']
  have hlm := SlP.get_mem hi'
  generalize l.l.getD i noP = p at cl hlt hlm
  have cl0 := cl 0 (Z p.key) rfl
  have cl2 := cl 2 (.bool p.gone) rfl
  have hlv : l.v = .slice (some ⟨bl, jl, none⟩) l.l.length l.cap := by rw [← el]; rfl
  have hnew : (l.l.take (i + 1)).foldl dpS a.l = dpS z.ps p := by rw [hlt, List.foldl_append, ← hzp]; rfl
  repeat (first | refine JL.q (by first | (apply OQ.len (k := l.l.length) (ad := l.ad) (cap := l.cap); exact Try.underlying32; exact rfl) | (apply OQ.lssB (a := (i : Int)) (b := (l.l.length : Int)); exact rfl; exact rfl; exact g0) | (apply OQ.move; exact rfl)) rfl ?_ | refine JC.seq ?_ | refine JC.region ?_ | refine JL.nil ?_ | refine JE.next ?_)
  refine JC.cond_true rfl rfl ?_
  repeat (first | refine JC.seq ?_ | refine JC.region ?_ | refine JC.block ?_ | refine JC.skip ?_ | refine JE.next ?_)
  refine JL.lit0N Try.underlying32 prI (by decide) rfl fun b6 _ => ?_
  repeat (first | refine JL.q (by (apply OQ.assign; exact rfl)) rfl ?_ | refine JC.seq ?_ | refine JC.region ?_ | refine JC.block ?_ | refine JL.nil ?_ | refine JE.next ?_)
  refine JC.loop (fun y : Nat × (Nat × Nat) => [(0, (z.s a).v), (1, l.v), (5, N i), (6, accV (some y.2) ((z.ps.take y.1).map PqS.cs).length), (7, N y.1)]) (fun y => accC 44 3 (some y.2) ((z.ps.take y.1).map PqS.cs) ++ z.E) (fun y => z.ps.length - y.1) (fun y => y.1 ≤ z.ps.length ∧ (z.ps.take y.1).all (fun c => klt c.key p.key) = true) (0, (b6, 0)) ⟨Nat.zero_le _, rfl⟩ (by repeat (first | exact SubE.nil | refine SubE.cons _ _ _ rfl ?_)) (Less.refl _) ?_
  rintro ⟨k, q6⟩ ⟨hk, hka⟩
  dsimp only at hk hka ⊢
  obtain ⟨c1, g1⟩ : ∃ c, decide ((k : Int) < (z.ps.length : Int)) = c := ⟨_, rfl⟩
  have hnk : (z.s a).l.length = z.ps.length := by rw [hzl]
  have hall : ∀ q ∈ dpS z.ps p, q.s.ok w := fun q hq => by
    rcases dpS_mem hq with h | rfl
    · exact hz.all q h
    · exact hl.all q hlm
  rw [← hnk] at g1
  cases c1
  case false =>
    have hkn : k = (z.s a).l.length := by have := of_decide_eq_false g1; omega
    have hdp := dpS_at hk hka (fun c hc => by rw [List.getElem?_eq_none (by omega)] at hc; cases hc)
    rw [List.getElem?_eq_none (by omega)] at hdp
    dsimp only at hdp
    have hdk : z.ps.drop k = [] := List.drop_of_length_le (by omega)
    repeat (refine JC.seq ?_)
    refine JC.quiet mixT (by kernel_rfl) ?_
    repeat (first | refine JQ.q (by first | (apply OQ.len (k := (z.s a).l.length) (ad := (z.s a).ad) (cap := (z.s a).cap); exact Try.underlying32; exact rfl) | (apply OQ.lssB (a := (k : Int)) (b := ((z.s a).l.length : Int)); exact rfl; exact rfl; exact g1) | (apply OQ.pick_f; exact rfl; exact rfl) | (apply OQ.move; exact rfl)) rfl ?_ | refine JQ.nil ?_ | refine JE.next ?_ | refine JQ.gskip rfl rfl rfl rfl ?_)
    refine JC.cond_false rfl rfl ?_
    have hO : (z.ps.take k).length ≤ 1000000 := by rw [List.length_take]; omega
    cases hg : p.gone
    case true =>
      rw [hg] at cl2 hdp
      repeat (first | refine JL.q (by first | (apply OQ.idxS (i := i); exact Try.underlying32; exact pr3; exact (congrArg some hlv); exact rfl; exact hi') | (apply OQ.load_old; exact boolC; exact rfl; exact ll; exact (by simp); exact cl2) | (apply OQ.not; exact rfl) | (apply OQ.move; exact rfl) | (apply OQ.fld; exact rfl; exact rfl; exact rfl; exact (by decide); exact rfl)) rfl ?_ | refine JC.seq ?_ | refine JC.region ?_ | refine JC.exit ?_ | refine JL.nil ?_ | refine JE.next ?_ | refine JE.then_exit ?_ | refine JE.blk_hit ?_)
      refine JC.cond_false rfl rfl ?_
      repeat (first | refine JC.seq ?_ | refine JC.skip ?_ | refine JE.next ?_)
      refine JC.quiet mixT (by kernel_rfl) ?_
      repeat (first | refine JQ.q (by first | (apply OQ.len (k := (z.s a).l.length) (ad := (z.s a).ad) (cap := (z.s a).cap); exact Try.underlying32; exact rfl) | (apply OQ.lssB (a := (k : Int)) (b := ((z.s a).l.length : Int)); exact rfl; exact rfl; exact g1) | (apply OQ.pick_f; exact rfl; exact rfl) | (apply OQ.move; exact rfl)) rfl ?_ | refine JQ.nil ?_ | refine JE.next ?_ | refine JQ.gskip rfl rfl rfl rfl ?_)
      refine JC.cond_false rfl rfl ?_
      repeat (first | refine JL.q (by first | (apply OQ.slS_lo (ad := (z.s a).ad) (len := (z.s a).l.length) (cap := (z.s a).cap) (lo := k); exact Try.underlying32; exact pr3; exact rfl; exact rfl; exact (by omega)) | (apply OQ.move; exact rfl)) rfl ?_ | refine JC.region ?_ | refine JC.skip ?_ | refine JE.next ?_)
      refine JL.appendCs (L := (z.ps.take k).map PqS.cs) (L2 := ((z.s a).l.drop k).map PqS.cs) (m := (z.s a).l.length - k) Try.underlying32 prI rfl rfl (by rw [List.length_map, List.length_drop]) (fun c hc => cs3 _ c hc) (fun w' hw' => reads_rest (Cu.ok (A := accC 44 3 _ ((z.ps.take k).map PqS.cs)) (M := []) hz ha (by rw [List.append_nil]; exact hw')) (by omega)) (one3 _) rfl (by decide) (by simp only [List.length_map, List.length_append, List.length_singleton, List.length_take]; omega) (by simp only [List.length_map, List.length_append, List.length_singleton, List.length_take]; omega) rfl fun r => ?_
      rw [← List.map_append, List.length_map, hzl]
      rw [hzl] at hnk
      have hdd : (z.ps.take k) ++ z.ps.drop k = dpS z.ps p := by rw [hdp, hdk]; simp
      rw [hdd]
      repeat (first | refine JL.q (by first | (apply OQ.move; exact rfl) | (apply OQ.assign; exact rfl) | (apply OQ.addN; exact rfl; exact rfl; exact (by (try simp only []); omega))) rfl ?_ | refine JC.region ?_ | refine JL.nil ?_ | refine JE.next ?_ | refine JE.blk_normal ?_)
      exact JE.again (i := Do1.mk i z) ⟨i + 1, ⟨some r, dpS z.ps p⟩⟩ ⟨hi', ⟨nofun, hall⟩, hnew.symm, by have := dpS_len z.ps p; dsimp only at this ⊢; omega⟩ (by dsimp only; omega) (by repeat (first | exact SubE.nil | refine SubE.cons _ _ _ rfl ?_)) (less_pre _ _)
    case false =>
      rw [hg] at cl2 hdp
      repeat (first | refine JL.q (by first | (apply OQ.idxS (i := i); exact Try.underlying32; exact pr3; exact (congrArg some hlv); exact rfl; exact hi') | (apply OQ.load_old; exact boolC; exact rfl; exact ll; exact (by simp); exact cl2) | (apply OQ.not; exact rfl) | (apply OQ.move; exact rfl) | (apply OQ.fld; exact rfl; exact rfl; exact rfl; exact (by decide); exact rfl)) rfl ?_ | refine JC.seq ?_ | refine JC.region ?_ | refine JC.exit ?_ | refine JL.nil ?_ | refine JE.next ?_ | refine JE.then_exit ?_ | refine JE.blk_hit ?_)
      refine JC.cond_true rfl rfl ?_
      repeat (first | refine JL.q (by first | (apply OQ.idxS (i := i); exact Try.underlying32; exact pr3; exact (congrArg some hlv); exact rfl; exact hi') | (apply OQ.load_agg_old (cs := p.cs); exact prAg; exact rfl; exact pr3; exact ll; exact (by simp); exact cl) | (apply OQ.move; exact rfl)) rfl ?_ | refine JC.region ?_)
      refine JL.litA (cs := p.cs) Try.underlying32 prI rfl (by decide) (by decide) rfl rfl rfl fun bn _ => ?_
      refine JL.appendC (c := p.cs) (L := (z.ps.take k).map PqS.cs) (some q6) Try.underlying32 prI nofun rfl rfl rfl (fun u hu => List.all_eq_true.1 (PqS.one _) u hu) rfl (by decide) (by rw [List.length_map]; omega) (by rw [List.length_map]; omega) rfl fun b' cap' => ?_
      have eM : (z.ps.take k).map PqS.cs ++ [p.cs] = (z.ps.take k ++ [p]).map PqS.cs := by rw [List.map_append, List.map_singleton]
      rw [eM]
      repeat (first | refine JL.q (by (apply OQ.assign; exact rfl)) rfl ?_ | refine JC.seq ?_ | refine JL.nil ?_ | refine JE.next ?_)
      refine JC.quiet mixT (by kernel_rfl) ?_
      repeat (first | refine JQ.q (by first | (apply OQ.len (k := (z.s a).l.length) (ad := (z.s a).ad) (cap := (z.s a).cap); exact Try.underlying32; exact rfl) | (apply OQ.lssB (a := (k : Int)) (b := ((z.s a).l.length : Int)); exact rfl; exact rfl; exact g1) | (apply OQ.pick_f; exact rfl; exact rfl) | (apply OQ.move; exact rfl)) rfl ?_ | refine JQ.nil ?_ | refine JE.next ?_ | refine JQ.gskip rfl rfl rfl rfl ?_)
      refine JC.cond_false rfl rfl ?_
      repeat (first | refine JL.q (by first | (apply OQ.slS_lo (ad := (z.s a).ad) (len := (z.s a).l.length) (cap := (z.s a).cap) (lo := k); exact Try.underlying32; exact pr3; exact rfl; exact rfl; exact (by omega)) | (apply OQ.move; exact rfl)) rfl ?_ | refine JC.region ?_ | refine JC.skip ?_ | refine JE.next ?_)
      refine JL.appendCs (L := (z.ps.take k ++ [p]).map PqS.cs) (L2 := ((z.s a).l.drop k).map PqS.cs) (m := (z.s a).l.length - k) Try.underlying32 prI rfl rfl (by rw [List.length_map, List.length_drop]) (fun c hc => cs3 _ c hc) (fun w' hw' => reads_rest (Cu.ok (A := accC 44 3 _ ((z.ps.take k ++ [p]).map PqS.cs)) (M := []) hz ha (by rw [List.append_nil]; exact hw')) (by omega)) (one3 _) rfl (by decide) (by simp only [List.length_map, List.length_append, List.length_singleton, List.length_take]; omega) (by simp only [List.length_map, List.length_append, List.length_singleton, List.length_take]; omega) rfl fun r => ?_
      rw [← List.map_append, List.length_map, hzl]
      rw [hzl] at hnk
      have hdd : (z.ps.take k ++ [p]) ++ z.ps.drop k = dpS z.ps p := by rw [hdp, hdk]; simp
      rw [hdd]
      repeat (first | refine JL.q (by first | (apply OQ.move; exact rfl) | (apply OQ.assign; exact rfl) | (apply OQ.addN; exact rfl; exact rfl; exact (by (try simp only []); omega))) rfl ?_ | refine JC.region ?_ | refine JL.nil ?_ | refine JE.next ?_ | refine JE.blk_normal ?_)
      exact JE.again (i := Do1.mk i z) ⟨i + 1, ⟨some r, dpS z.ps p⟩⟩ ⟨hi', ⟨nofun, hall⟩, hnew.symm, by have := dpS_len z.ps p; dsimp only at this ⊢; omega⟩ (by dsimp only; omega) (by repeat (first | exact SubE.nil | refine SubE.cons _ _ _ rfl ?_)) (less_pre _ _)
  case true =>
    have hk1 : k < (z.s a).l.length := by have := of_decide_eq_true g1; omega
    obtain ⟨bc, jc, ec, cc⟩ := Cu.at (i := k) hz ha (by omega)
    have hcv : (z.s a).v = .slice (some ⟨bc, jc, none⟩) (z.s a).l.length (z.s a).cap := by rw [← ec]; rfl
    have hkq : z.ps[k]? = some (z.ps.getD k noP) := by rw [List.getD_eq_getElem?_getD, List.getElem?_eq_getElem (by omega)]; rfl
    have htk : z.ps.take (k + 1) = z.ps.take k ++ [z.ps.getD k noP] := by rw [List.take_add_one, hkq]; rfl
    generalize z.ps.getD k noP = qk at cc hkq htk
    have hcw : ∀ (A : List Ent) (w' : World), Holds w [] (A ++ z.E) w' → w'.cell? ⟨bc, jc + k * 3 + 0, none⟩ = some (Z qk.key) := fun A w' hw' => cc A [] w' (by rw [List.append_nil]; exact hw') 0 _ rfl
    have hca : ∀ (A : List Ent) (w' : World), Holds w [] (A ++ z.E) w' → ∀ m u, qk.cs[m]? = some u → w'.cell? ⟨bc, jc + k * 3 + m, none⟩ = some u := fun A w' hw' => cc A [] w' (by rw [List.append_nil]; exact hw')
    obtain ⟨c2, g2⟩ : ∃ c, klt qk.key p.key = c := ⟨_, rfl⟩
    obtain ⟨c3, g3⟩ : ∃ c, decide (qk.key = p.key) = c := ⟨_, rfl⟩
    repeat (refine JC.seq ?_)
    refine JC.quiet mixT (by kernel_rfl) ?_
    repeat (first | refine JQ.q (by first | (apply OQ.len (k := (z.s a).l.length) (ad := (z.s a).ad) (cap := (z.s a).cap); exact Try.underlying32; exact rfl) | (apply OQ.lssB (a := (k : Int)) (b := ((z.s a).l.length : Int)); exact rfl; exact rfl; exact g1) | (apply OQ.idxS (i := k) (b := bc) (j := jc); exact Try.underlying32; exact pr3; exact (congrArg some hcv); exact rfl; exact hk1) | (apply OQ.idxS (i := i) (b := bl) (j := jl); exact Try.underlying32; exact pr3; exact (congrArg some hlv); exact rfl; exact hi') | (apply OQ.loadW; exact strC; exact rfl; exact (fun w' hw' => hcw _ w' hw')) | (apply OQ.load_old; exact strC; exact rfl; exact ll; exact (by simp); exact cl0) | (apply OQ.lssZ (l := qk.key) (r := p.key); exact rfl; exact rfl) | (apply OQ.pick_t; exact rfl; exact rfl) | (apply OQ.move; exact rfl) | (apply OQ.fld; exact rfl; exact rfl; exact rfl; exact (by decide); exact rfl)) rfl ?_ | refine JQ.nil ?_ | refine JE.next ?_ | refine JQ.gon rfl rfl ?_)
    rw [g2]
    cases c2
    case true =>
      refine JC.cond_true rfl rfl ?_
      repeat (first | refine JL.q (by first | (apply OQ.idxS (i := k) (b := bc) (j := jc); exact Try.underlying32; exact pr3; exact (congrArg some hcv); exact rfl; exact hk1) | (apply OQ.loadW_agg (cs := qk.cs); exact prAg; exact rfl; exact pr3; exact (fun w' hw' => hca _ w' hw')) | (apply OQ.move; exact rfl)) rfl ?_ | refine JC.seq ?_ | refine JC.region ?_ | refine JC.block ?_ | refine JC.skip ?_ | refine JE.next ?_)
      refine JL.litA (cs := qk.cs) Try.underlying32 prI rfl (by decide) (by decide) rfl rfl rfl fun bn _ => ?_
      refine JL.appendC (c := qk.cs) (L := (z.ps.take k).map PqS.cs) (some q6) Try.underlying32 prI nofun rfl rfl rfl (fun u hu => List.all_eq_true.1 (PqS.one _) u hu) rfl (by decide) (by rw [List.length_map, List.length_take]; omega) (by rw [List.length_map, List.length_take]; omega) rfl fun b' cap' => ?_
      have eM : (z.ps.take k).map PqS.cs ++ [qk.cs] = (z.ps.take (k + 1)).map PqS.cs := by rw [htk, List.map_append, List.map_singleton]
      rw [eM]
      repeat (first | refine JL.q (by first | (apply OQ.move; exact rfl) | (apply OQ.assign; exact rfl) | (apply OQ.addN; exact rfl; exact rfl; exact (by (try simp only []); omega))) rfl ?_ | refine JC.region ?_ | refine JL.nil ?_ | refine JE.next ?_ | refine JE.blk_normal ?_)
      refine JE.again (i := (k, q6)) (k + 1, (b', cap')) ⟨by dsimp only; omega, ?_⟩ (by dsimp only; omega) (by repeat (first | exact SubE.nil | refine SubE.cons _ _ _ rfl ?_)) (Less.refl _)
      dsimp only
      rw [htk, List.all_append, hka]
      simp [g2]
    case false =>
      have hdp := dpS_at hk hka (fun c hc => by rw [hkq] at hc; cases hc; exact g2)
      rw [hkq] at hdp
      refine JC.cond_false rfl rfl ?_
      have hO : (z.ps.take k).length ≤ 1000000 := by rw [List.length_take]; omega
      cases hg : p.gone
      case true =>
        rw [hg] at cl2 hdp
        repeat (first | refine JL.q (by first | (apply OQ.idxS (i := i); exact Try.underlying32; exact pr3; exact (congrArg some hlv); exact rfl; exact hi') | (apply OQ.load_old; exact boolC; exact rfl; exact ll; exact (by simp); exact cl2) | (apply OQ.not; exact rfl) | (apply OQ.move; exact rfl) | (apply OQ.fld; exact rfl; exact rfl; exact rfl; exact (by decide); exact rfl)) rfl ?_ | refine JC.seq ?_ | refine JC.region ?_ | refine JC.exit ?_ | refine JL.nil ?_ | refine JE.next ?_ | refine JE.then_exit ?_ | refine JE.blk_hit ?_)
        refine JC.cond_false rfl rfl ?_
        cases c3
        case false =>
          have he3 := of_decide_eq_false g3
          dsimp only at hdp
          rw [if_neg he3] at hdp
          repeat (first | refine JC.seq ?_ | refine JC.skip ?_ | refine JE.next ?_)
          refine JC.quiet mixT (by kernel_rfl) ?_
          repeat (first | refine JQ.q (by first | (apply OQ.len (k := (z.s a).l.length) (ad := (z.s a).ad) (cap := (z.s a).cap); exact Try.underlying32; exact rfl) | (apply OQ.lssB (a := (k : Int)) (b := ((z.s a).l.length : Int)); exact rfl; exact rfl; exact g1) | (apply OQ.idxS (i := k) (b := bc) (j := jc); exact Try.underlying32; exact pr3; exact (congrArg some hcv); exact rfl; exact hk1) | (apply OQ.idxS (i := i) (b := bl) (j := jl); exact Try.underlying32; exact pr3; exact (congrArg some hlv); exact rfl; exact hi') | (apply OQ.loadW; exact strC; exact rfl; exact (fun w' hw' => hcw _ w' hw')) | (apply OQ.load_old; exact strC; exact rfl; exact ll; exact (by simp); exact cl0) | (apply OQ.eqSB; exact rfl; exact rfl; exact g3) | (apply OQ.pick_t; exact rfl; exact rfl) | (apply OQ.move; exact rfl) | (apply OQ.fld; exact rfl; exact rfl; exact rfl; exact (by decide); exact rfl)) rfl ?_ | refine JQ.nil ?_ | refine JE.next ?_ | refine JQ.gon rfl rfl ?_)
          refine JC.cond_false rfl rfl ?_
          repeat (first | refine JL.q (by first | (apply OQ.slS_lo (ad := (z.s a).ad) (len := (z.s a).l.length) (cap := (z.s a).cap) (lo := k); exact Try.underlying32; exact pr3; exact rfl; exact rfl; exact (by omega)) | (apply OQ.move; exact rfl)) rfl ?_ | refine JC.region ?_ | refine JC.skip ?_ | refine JE.next ?_)
          refine JL.appendCs (L := (z.ps.take k).map PqS.cs) (L2 := ((z.s a).l.drop k).map PqS.cs) (m := (z.s a).l.length - k) Try.underlying32 prI rfl rfl (by rw [List.length_map, List.length_drop]) (fun c hc => cs3 _ c hc) (fun w' hw' => reads_rest (Cu.ok (A := accC 44 3 _ ((z.ps.take k).map PqS.cs)) (M := []) hz ha (by rw [List.append_nil]; exact hw')) (by omega)) (one3 _) rfl (by decide) (by simp only [List.length_map, List.length_append, List.length_singleton, List.length_take]; omega) (by simp only [List.length_map, List.length_append, List.length_singleton, List.length_take]; omega) rfl fun r => ?_
          rw [← List.map_append, List.length_map, hzl]
          rw [hzl] at hnk
          have hdd : (z.ps.take k) ++ z.ps.drop k = dpS z.ps p := by rw [hdp]; simp
          rw [hdd]
          repeat (first | refine JL.q (by first | (apply OQ.move; exact rfl) | (apply OQ.assign; exact rfl) | (apply OQ.addN; exact rfl; exact rfl; exact (by (try simp only []); omega))) rfl ?_ | refine JC.region ?_ | refine JL.nil ?_ | refine JE.next ?_ | refine JE.blk_normal ?_)
          exact JE.again (i := Do1.mk i z) ⟨i + 1, ⟨some r, dpS z.ps p⟩⟩ ⟨hi', ⟨nofun, hall⟩, hnew.symm, by have := dpS_len z.ps p; dsimp only at this ⊢; omega⟩ (by dsimp only; omega) (by repeat (first | exact SubE.nil | refine SubE.cons _ _ _ rfl ?_)) (less_pre _ _)
        case true =>
          have he3 := of_decide_eq_true g3
          dsimp only at hdp
          rw [if_pos he3] at hdp
          repeat (first | refine JC.seq ?_ | refine JC.skip ?_ | refine JE.next ?_)
          refine JC.quiet mixT (by kernel_rfl) ?_
          repeat (first | refine JQ.q (by first | (apply OQ.len (k := (z.s a).l.length) (ad := (z.s a).ad) (cap := (z.s a).cap); exact Try.underlying32; exact rfl) | (apply OQ.lssB (a := (k : Int)) (b := ((z.s a).l.length : Int)); exact rfl; exact rfl; exact g1) | (apply OQ.idxS (i := k) (b := bc) (j := jc); exact Try.underlying32; exact pr3; exact (congrArg some hcv); exact rfl; exact hk1) | (apply OQ.idxS (i := i) (b := bl) (j := jl); exact Try.underlying32; exact pr3; exact (congrArg some hlv); exact rfl; exact hi') | (apply OQ.loadW; exact strC; exact rfl; exact (fun w' hw' => hcw _ w' hw')) | (apply OQ.load_old; exact strC; exact rfl; exact ll; exact (by simp); exact cl0) | (apply OQ.eqSB; exact rfl; exact rfl; exact g3) | (apply OQ.pick_t; exact rfl; exact rfl) | (apply OQ.move; exact rfl) | (apply OQ.fld; exact rfl; exact rfl; exact rfl; exact (by decide); exact rfl)) rfl ?_ | refine JQ.nil ?_ | refine JE.next ?_ | refine JQ.gon rfl rfl ?_)
          refine JC.cond_true rfl rfl ?_
          repeat (first | refine JL.q (by first | (apply OQ.slS_lo (ad := (z.s a).ad) (len := (z.s a).l.length) (cap := (z.s a).cap) (lo := (k + 1)); exact Try.underlying32; exact pr3; exact rfl; exact rfl; exact (by omega)) | (apply OQ.move; exact rfl) | (apply OQ.assign; exact rfl) | (apply OQ.addN; exact rfl; exact rfl; exact (by (try simp only []); omega))) rfl ?_ | refine JC.region ?_ | refine JL.nil ?_ | refine JE.next ?_)
          refine JL.appendCs (L := (z.ps.take k).map PqS.cs) (L2 := ((z.s a).l.drop (k + 1)).map PqS.cs) (m := (z.s a).l.length - (k + 1)) Try.underlying32 prI rfl rfl (by rw [List.length_map, List.length_drop]) (fun c hc => cs3 _ c hc) (fun w' hw' => reads_rest (Cu.ok (A := accC 44 3 _ ((z.ps.take k).map PqS.cs)) (M := []) hz ha (by rw [List.append_nil]; exact hw')) (by omega)) (one3 _) rfl (by decide) (by simp only [List.length_map, List.length_append, List.length_singleton, List.length_take]; omega) (by simp only [List.length_map, List.length_append, List.length_singleton, List.length_take]; omega) rfl fun r => ?_
          rw [← List.map_append, List.length_map, hzl]
          rw [hzl] at hnk
          have hdd : (z.ps.take k) ++ z.ps.drop (k + 1) = dpS z.ps p := by rw [hdp]; simp
          rw [hdd]
          repeat (first | refine JL.q (by first | (apply OQ.move; exact rfl) | (apply OQ.assign; exact rfl) | (apply OQ.addN; exact rfl; exact rfl; exact (by (try simp only []); omega))) rfl ?_ | refine JC.region ?_ | refine JL.nil ?_ | refine JE.next ?_ | refine JE.blk_normal ?_)
          exact JE.again (i := Do1.mk i z) ⟨i + 1, ⟨some r, dpS z.ps p⟩⟩ ⟨hi', ⟨nofun, hall⟩, hnew.symm, by have := dpS_len z.ps p; dsimp only at this ⊢; omega⟩ (by dsimp only; omega) (by repeat (first | exact SubE.nil | refine SubE.cons _ _ _ rfl ?_)) (less_pre _ _)
      case false =>
        rw [hg] at cl2 hdp
        repeat (first | refine JL.q (by first | (apply OQ.idxS (i := i); exact Try.underlying32; exact pr3; exact (congrArg some hlv); exact rfl; exact hi') | (apply OQ.load_old; exact boolC; exact rfl; exact ll; exact (by simp); exact cl2) | (apply OQ.not; exact rfl) | (apply OQ.move; exact rfl) | (apply OQ.fld; exact rfl; exact rfl; exact rfl; exact (by decide); exact rfl)) rfl ?_ | refine JC.seq ?_ | refine JC.region ?_ | refine JC.exit ?_ | refine JL.nil ?_ | refine JE.next ?_ | refine JE.then_exit ?_ | refine JE.blk_hit ?_)
        refine JC.cond_true rfl rfl ?_
        repeat (first | refine JL.q (by first | (apply OQ.idxS (i := i); exact Try.underlying32; exact pr3; exact (congrArg some hlv); exact rfl; exact hi') | (apply OQ.load_agg_old (cs := p.cs); exact prAg; exact rfl; exact pr3; exact ll; exact (by simp); exact cl) | (apply OQ.move; exact rfl)) rfl ?_ | refine JC.region ?_)
        refine JL.litA (cs := p.cs) Try.underlying32 prI rfl (by decide) (by decide) rfl rfl rfl fun bn _ => ?_
        refine JL.appendC (c := p.cs) (L := (z.ps.take k).map PqS.cs) (some q6) Try.underlying32 prI nofun rfl rfl rfl (fun u hu => List.all_eq_true.1 (PqS.one _) u hu) rfl (by decide) (by rw [List.length_map]; omega) (by rw [List.length_map]; omega) rfl fun b' cap' => ?_
        have eM : (z.ps.take k).map PqS.cs ++ [p.cs] = (z.ps.take k ++ [p]).map PqS.cs := by rw [List.map_append, List.map_singleton]
        rw [eM]
        cases c3
        case false =>
          have he3 := of_decide_eq_false g3
          dsimp only at hdp
          rw [if_neg he3] at hdp
          repeat (first | refine JL.q (by (apply OQ.assign; exact rfl)) rfl ?_ | refine JC.seq ?_ | refine JL.nil ?_ | refine JE.next ?_)
          refine JC.quiet mixT (by kernel_rfl) ?_
          repeat (first | refine JQ.q (by first | (apply OQ.len (k := (z.s a).l.length) (ad := (z.s a).ad) (cap := (z.s a).cap); exact Try.underlying32; exact rfl) | (apply OQ.lssB (a := (k : Int)) (b := ((z.s a).l.length : Int)); exact rfl; exact rfl; exact g1) | (apply OQ.idxS (i := k) (b := bc) (j := jc); exact Try.underlying32; exact pr3; exact (congrArg some hcv); exact rfl; exact hk1) | (apply OQ.idxS (i := i) (b := bl) (j := jl); exact Try.underlying32; exact pr3; exact (congrArg some hlv); exact rfl; exact hi') | (apply OQ.loadW; exact strC; exact rfl; exact (fun w' hw' => hcw _ w' hw')) | (apply OQ.load_old; exact strC; exact rfl; exact ll; exact (by simp); exact cl0) | (apply OQ.eqSB; exact rfl; exact rfl; exact g3) | (apply OQ.pick_t; exact rfl; exact rfl) | (apply OQ.move; exact rfl) | (apply OQ.fld; exact rfl; exact rfl; exact rfl; exact (by decide); exact rfl)) rfl ?_ | refine JQ.nil ?_ | refine JE.next ?_ | refine JQ.gon rfl rfl ?_)
          refine JC.cond_false rfl rfl ?_
          repeat (first | refine JL.q (by first | (apply OQ.slS_lo (ad := (z.s a).ad) (len := (z.s a).l.length) (cap := (z.s a).cap) (lo := k); exact Try.underlying32; exact pr3; exact rfl; exact rfl; exact (by omega)) | (apply OQ.move; exact rfl)) rfl ?_ | refine JC.region ?_ | refine JC.skip ?_ | refine JE.next ?_)
          refine JL.appendCs (L := (z.ps.take k ++ [p]).map PqS.cs) (L2 := ((z.s a).l.drop k).map PqS.cs) (m := (z.s a).l.length - k) Try.underlying32 prI rfl rfl (by rw [List.length_map, List.length_drop]) (fun c hc => cs3 _ c hc) (fun w' hw' => reads_rest (Cu.ok (A := accC 44 3 _ ((z.ps.take k ++ [p]).map PqS.cs)) (M := []) hz ha (by rw [List.append_nil]; exact hw')) (by omega)) (one3 _) rfl (by decide) (by simp only [List.length_map, List.length_append, List.length_singleton, List.length_take]; omega) (by simp only [List.length_map, List.length_append, List.length_singleton, List.length_take]; omega) rfl fun r => ?_
          rw [← List.map_append, List.length_map, hzl]
          rw [hzl] at hnk
          have hdd : (z.ps.take k ++ [p]) ++ z.ps.drop k = dpS z.ps p := by rw [hdp]; simp
          rw [hdd]
          repeat (first | refine JL.q (by first | (apply OQ.move; exact rfl) | (apply OQ.assign; exact rfl) | (apply OQ.addN; exact rfl; exact rfl; exact (by (try simp only []); omega))) rfl ?_ | refine JC.region ?_ | refine JL.nil ?_ | refine JE.next ?_ | refine JE.blk_normal ?_)
          exact JE.again (i := Do1.mk i z) ⟨i + 1, ⟨some r, dpS z.ps p⟩⟩ ⟨hi', ⟨nofun, hall⟩, hnew.symm, by have := dpS_len z.ps p; dsimp only at this ⊢; omega⟩ (by dsimp only; omega) (by repeat (first | exact SubE.nil | refine SubE.cons _ _ _ rfl ?_)) (less_pre _ _)
        case true =>
          have he3 := of_decide_eq_true g3
          dsimp only at hdp
          rw [if_pos he3] at hdp
          repeat (first | refine JL.q (by (apply OQ.assign; exact rfl)) rfl ?_ | refine JC.seq ?_ | refine JL.nil ?_ | refine JE.next ?_)
          refine JC.quiet mixT (by kernel_rfl) ?_
          repeat (first | refine JQ.q (by first | (apply OQ.len (k := (z.s a).l.length) (ad := (z.s a).ad) (cap := (z.s a).cap); exact Try.underlying32; exact rfl) | (apply OQ.lssB (a := (k : Int)) (b := ((z.s a).l.length : Int)); exact rfl; exact rfl; exact g1) | (apply OQ.idxS (i := k) (b := bc) (j := jc); exact Try.underlying32; exact pr3; exact (congrArg some hcv); exact rfl; exact hk1) | (apply OQ.idxS (i := i) (b := bl) (j := jl); exact Try.underlying32; exact pr3; exact (congrArg some hlv); exact rfl; exact hi') | (apply OQ.loadW; exact strC; exact rfl; exact (fun w' hw' => hcw _ w' hw')) | (apply OQ.load_old; exact strC; exact rfl; exact ll; exact (by simp); exact cl0) | (apply OQ.eqSB; exact rfl; exact rfl; exact g3) | (apply OQ.pick_t; exact rfl; exact rfl) | (apply OQ.move; exact rfl) | (apply OQ.fld; exact rfl; exact rfl; exact rfl; exact (by decide); exact rfl)) rfl ?_ | refine JQ.nil ?_ | refine JE.next ?_ | refine JQ.gon rfl rfl ?_)
          refine JC.cond_true rfl rfl ?_
          repeat (first | refine JL.q (by first | (apply OQ.slS_lo (ad := (z.s a).ad) (len := (z.s a).l.length) (cap := (z.s a).cap) (lo := (k + 1)); exact Try.underlying32; exact pr3; exact rfl; exact rfl; exact (by omega)) | (apply OQ.move; exact rfl) | (apply OQ.assign; exact rfl) | (apply OQ.addN; exact rfl; exact rfl; exact (by (try simp only []); omega))) rfl ?_ | refine JC.region ?_ | refine JL.nil ?_ | refine JE.next ?_)
          refine JL.appendCs (L := (z.ps.take k ++ [p]).map PqS.cs) (L2 := ((z.s a).l.drop (k + 1)).map PqS.cs) (m := (z.s a).l.length - (k + 1)) Try.underlying32 prI rfl rfl (by rw [List.length_map, List.length_drop]) (fun c hc => cs3 _ c hc) (fun w' hw' => reads_rest (Cu.ok (A := accC 44 3 _ ((z.ps.take k ++ [p]).map PqS.cs)) (M := []) hz ha (by rw [List.append_nil]; exact hw')) (by omega)) (one3 _) rfl (by decide) (by simp only [List.length_map, List.length_append, List.length_singleton, List.length_take]; omega) (by simp only [List.length_map, List.length_append, List.length_singleton, List.length_take]; omega) rfl fun r => ?_
          rw [← List.map_append, List.length_map, hzl]
          rw [hzl] at hnk
          have hdd : (z.ps.take k ++ [p]) ++ z.ps.drop (k + 1) = dpS z.ps p := by rw [hdp]; simp
          rw [hdd]
          repeat (first | refine JL.q (by first | (apply OQ.move; exact rfl) | (apply OQ.assign; exact rfl) | (apply OQ.addN; exact rfl; exact rfl; exact (by (try simp only []); omega))) rfl ?_ | refine JC.region ?_ | refine JL.nil ?_ | refine JE.next ?_ | refine JE.blk_normal ?_)
          exact JE.again (i := Do1.mk i z) ⟨i + 1, ⟨some r, dpS z.ps p⟩⟩ ⟨hi', ⟨nofun, hall⟩, hnew.symm, by have := dpS_len z.ps p; dsimp only at this ⊢; omega⟩ (by dsimp only; omega) (by repeat (first | exact SubE.nil | refine SubE.cons _ _ _ rfl ?_)) (less_pre _ _)
end Go.Proofs.Ytjkncnbpaejamaa

/-
  Of no statement by itself: the reference's Do over rows of pairs that were made anew; what records come to.
  Conditions: each theorem's own.
-/
namespace Go.Proofs.Ytjkncnbpaejamaa
set_option maxRecDepth 10000
open Sl Dsk Jrn Sto
/-- two rows of the same elements, told by counting -/
theorem perm_cnt {α : Type} {a b : List α} (h : ∀ (_ : BEq α) (_ : LawfulBEq α) (x : α), a.count x = b.count x) : a.Perm b := by
  classical
  exact List.perm_iff_count.2 fun x => h inferInstance inferInstance x
theorem dpS_sub (cur : List PqS) (p : PqS) : ∃ r, ((dpS cur p).map PqS.s ++ r).Perm (cur.map PqS.s ++ [p.s]) := by
  have h1 : cur = cur.takeWhile (fun c => klt c.key p.key) ++ cur.dropWhile (fun c => klt c.key p.key) := List.takeWhile_append_dropWhile.symm
  unfold dpS
  generalize cur.takeWhile (fun c => klt c.key p.key) = A at h1 ⊢
  generalize cur.dropWhile (fun c => klt c.key p.key) = B at h1 ⊢
  subst h1
  refine ⟨(if p.gone then [p.s] else []) ++ (match B with | [] => [] | c :: r => if c.key = p.key then [c.s] else []), perm_cnt fun _ _ x => ?_⟩
  cases B with
  | nil => cases p.gone <;> simp
  | cons c r =>
    dsimp only
    by_cases he : c.key = p.key
    · rw [if_pos he, if_pos he]
      cases p.gone <;> simp [List.count_cons] <;> omega
    · rw [if_neg he, if_neg he]
      cases p.gone <;> simp [List.count_cons] <;> omega
theorem dpSs_sub : ∀ (l cur : List PqS), ∃ r, ((l.foldl dpS cur).map PqS.s ++ r).Perm (cur.map PqS.s ++ l.map PqS.s)
  | [], cur => ⟨[], by simp⟩
  | p :: l, cur => by
    obtain ⟨r1, h1⟩ := dpS_sub cur p
    obtain ⟨r2, h2⟩ := dpSs_sub l (dpS cur p)
    refine ⟨r2 ++ r1, perm_cnt fun _ _ x => ?_⟩
    have e1 := h1.count_eq x
    have e2 := h2.count_eq x
    simp only [List.foldl_cons, List.map_cons, List.count_append, List.count_cons, List.count_nil] at e1 e2 ⊢
    omega
theorem dpSs_mem : ∀ {l cur : List PqS} {q : PqS}, q ∈ l.foldl dpS cur → q ∈ cur ∨ q ∈ l
  | [], _, _, h => .inl h
  | p :: l, cur, q, h => by
    rcases dpSs_mem (l := l) h with h | h
    · rcases dpS_mem h with h | rfl
      · exact .inl h
      · exact .inr (by simp)
    · exact .inr (by simp [h])
theorem dpSs_len : ∀ (l cur : List PqS), (l.foldl dpS cur).length ≤ cur.length + l.length
  | [], cur => Nat.le_refl _
  | p :: l, cur => by
    have h1 := dpSs_len l (dpS cur p)
    have h2 := dpS_len cur p
    simp only [List.foldl_cons, List.length_cons]
    omega
theorem dpSs_is : ∀ (l : List PqS) {cur : List PqS} {vs : VL}, cur.map PqS.p = pairsV vs → (l.foldl dpS cur).map PqS.p = pairsV (doL vs (l.map PqS.p))
  | [], _, _, h => h
  | p :: l, _, _, h => dpSs_is l (dpS_is p h)
theorem Cu.wr (z : Cu) : ∀ e ∈ z.E, e.wr = true := by
  obtain ⟨q, ps⟩ := z
  cases q with
  | none => intro e he; cases he
  | some p => exact accC_wr 44 3 (some p) (ps.map PqS.cs)
section
variable {n : Nat} {w0 : World} {S : List Nat} {ops : Array Oper} {Q : Exit → Act → World → Prop} {l : List Oper} {E : Env} {M : List Ent}
variable {d : Nat} {ty : TypeId} {pos : String} {aft : Array Edge} {x1 x2 : Operand} {ats : Array TypeId}
end
end Go.Proofs.Ytjkncnbpaejamaa

/-
  Of no statement by itself: the law's Is.
  Conditions: each theorem's own.
-/
namespace Go.Proofs.Ytjkncnbpaejamaa
set_option maxRecDepth 10000
open Sl Dsk Jrn Sto
theorem stR_ro {p mb : Nat} {cs : List Value} {z : MV × Nat} {u w : World} {S : List Nat} {A M : List Ent} (hw : Holds u S (A ++ (stR p mb cs z ++ M)) w) : Holds w [] (stR p mb cs z) w :=
  (ro_holds (hw.weak (less_app A (Less.refl _)))).weak (.keep _ _ _ _ _ _ (fun _ h => h) (.keep _ _ _ _ _ _ (fun _ h => h) (.nil _)))
theorem keysV_all16 (vs : VL) : (vs.filter fun p => preB16 [] p.1).map Prod.fst = vs.map Prod.fst := by
  rw [List.filter_eq_self.2 fun p _ => by show decide (p.1.take 0 = []) = true; simp]
section
variable {P : Program} {n : Nat} {E : Env} {C : World → Prop} {dst : Option Tmp} {ty t t' : TypeId} {pos : String} {aft : Array Edge} {g : Option (Nat × Bool)} {x y : Operand} {l : Bk}
theorem OQ.neZq (hx : ev E x = some (Z l)) (hy : ev E y = some (Z l)) : OQ P n E C ⟨dst, .binOp .neq t x y t', ty, pos, aft, g⟩ (.bool false) := OQ.to (OQ.neS hx hy) (by simp)
end
theorem goes_Is16 : Goes Try.prog 14 := ⟨_, Try.func14, rfl, by kernel_rfl⟩
set_option maxHeartbeats 32000000 in
theorem is16_any (z : Sz) (recs : List Bk) (vs : VL) (k : z.ok recs vs) (t : SlP) (w : World) (ht : t.ok w) (heq : t.ps = pairsV vs) (h0 : Holds w [] (stR z.p z.mb z.cs (z.mm, z.c)) w) (hv : ∀ x ∈ z.mm.map ME.val, x.ok w) :
    Calls Try.prog 14 [Pt z.p 0, t.v].toArray w fun e w' => e = .returned (.bool true) ∧ Ext w w' := by
  have hkm : keysM z.mm [] = vs.map Prod.fst := by rw [keysM_is k.srt k.is]; exact keysV_all16 vs
  have htl : t.l.length = vs.length := by
    have := congrArg List.length heq
    unfold SlP.ps pairsV at this
    rwa [List.length_map, List.length_map] at this
  have hvl : vs.length ≤ 200000 := by rw [← k.len]; exact k.lenb
  refine enter (n := 54) Try.func14 rfl rfl rfl h0 ?_
  repeat (first | refine JL.q (by first | (apply OQ.ptrNil; exact Try.underlying29; exact rfl; exact rfl) | (apply OQ.move; exact rfl) | (apply OQ.assign; exact rfl)) rfl ?_ | refine JC.seq ?_ | refine JC.region ?_ | refine JL.nil ?_ | refine JE.next ?_)
  refine JC.cond_false rfl rfl ?_
  repeat (first | refine JL.q (by (apply OQ.move; exact rfl)) rfl ?_ | refine JC.seq ?_ | refine JC.region ?_ | refine JC.skip ?_ | refine JE.next ?_)
  refine JL.callg (ι := {q : Acc // q = none → keysM z.mm [] = []}) (vs := [Pt z.p 0, Z []]) (fun q => accV q.1 (keysM z.mm []).length) (fun q => accE 9 q.1 ((keysM z.mm []).map Z)) goes_sKeys rfl rfl (fun _ => accE_wr _ _ _) (fun w' hw' => skeys_any z.p z.mb (Pt z.j 0) z.mm z.c [] w' k.wf (stR_ro (A := []) (M := []) (by rw [List.append_nil]; exact hw')) (by have := k.lenb; omega)) fun q => ?_
  obtain ⟨q, hq⟩ := q
  dsimp only
  rw [hkm] at hq ⊢
  rw [List.length_map]
  have hq0 : q = none → vs.length = 0 := fun e => by have := congrArg List.length (hq e); rwa [List.length_map] at this
  repeat (first | refine JL.q (by first | (apply OQ.lenV (q := q) (k := vs.length); exact Try.underlying41; exact hq0; exact rfl) | (apply OQ.len (k := t.l.length) (ad := t.ad) (cap := t.cap); exact Try.underlying32; exact rfl) | (apply OQ.neB (a := (vs.length : Int)) (b := (t.l.length : Int)) (c := true); exact rfl; exact rfl; exact (decide_eq_true (by omega))) | (apply OQ.move; exact rfl) | (apply OQ.assign; exact rfl)) rfl ?_ | refine JC.seq ?_ | refine JC.region ?_ | refine JL.nil ?_ | refine JE.next ?_)
  refine JC.cond_false rfl rfl ?_
  repeat (first | refine JL.q (by first | (apply OQ.lenV (q := q) (k := vs.length); exact Try.underlying41; exact hq0; exact rfl) | (apply OQ.move; exact rfl)) rfl ?_ | refine JC.seq ?_ | refine JC.region ?_ | refine JC.block ?_ | refine JC.skip ?_ | refine JL.nil ?_ | refine JE.next ?_)
  refine JC.loop (fun i : Nat => [(0, Pt z.p 0), (1, t.v), (19, accV q vs.length), (20, N vs.length), (21, N i)]) (fun _ => accE 9 q ((vs.map Prod.fst).map Z) ++ stR z.p z.mb z.cs (z.mm, z.c)) (fun i => vs.length - i) (fun i => i ≤ vs.length) 0 (Nat.zero_le _) (by repeat (first | exact SubE.nil | refine SubE.cons _ _ _ rfl ?_)) (Less.refl _) ?_
  intro i hi
  repeat (first | refine JL.q (by (apply OQ.lssN; exact rfl; exact rfl)) rfl ?_ | refine JC.seq ?_ | refine JC.region ?_ | refine JL.nil ?_ | refine JE.next ?_)
  refine JC.cond rfl (fun hc => ?_) (fun hc => ?_)
  · have hi' : i < vs.length := by have := of_decide_eq_true hc; omega
    clear hc
    cases q with
    | none => have := hq0 rfl; omega
    | some p1 =>
    obtain ⟨b1, c1⟩ := p1
    have hit : i < t.l.length := by omega
    obtain ⟨bt, jt, et, lt, ct⟩ := ht.at hit
    have mt := SlP.get_mem hit
    have okt := ht.all _ mt
    have hpi : vs[i]? = some vs[i] := List.getElem?_eq_getElem hi'
    have hvm : vs[i] ∈ vs := List.getElem_mem hi'
    have hpp : (t.l.getD i noP).p = ⟨vs[i].1, vs[i].2, false⟩ := by
      have h1 : t.ps[i]? = (pairsV vs)[i]? := by rw [heq]
      unfold SlP.ps pairsV at h1
      rw [List.getElem?_map, List.getElem?_map, hpi, List.getElem?_eq_getElem hit] at h1
      have h2 : (t.l[i]).p = ⟨vs[i].1, vs[i].2, false⟩ := by simpa using h1
      rw [List.getD_eq_getElem?_getD, List.getElem?_eq_getElem hit]
      exact h2
    generalize t.l.getD i noP = tp at ct okt hpp
    generalize vs[i] = pv at hpi hvm hpp
    have e1 : tp.key = pv.1 := congrArg Pq.key hpp
    have e2 : tp.s.l = pv.2 := congrArg Pq.val hpp
    have ct0 := ct 0 (Z tp.key) rfl
    have ct1 := ct 1 tp.s.v rfl
    rw [e1] at ct0
    have hkz : ((vs.map Prod.fst).map Z)[i]? = some (Z pv.1) := by rw [List.getElem?_map, List.getElem?_map, hpi]; rfl
    have hav : accV (some (b1, c1)) vs.length = .slice (some ⟨b1, 0, none⟩) vs.length c1 := rfl
    have htv : t.v = .slice (some ⟨bt, jt, none⟩) t.l.length t.cap := by rw [← et]; rfl
    have hlk : (look z.mm pv.1).map Sl8.l = some pv.2 := by rw [look_get k.wf k.srt k.is]; exact (getV_mem k.srt.keys).2 hvm
    have hgl : ((look z.mm pv.1).getD nilS).l = pv.2 ∧ (look z.mm pv.1).isSome = true := by
      cases h : look z.mm pv.1 with
      | none => rw [h] at hlk; cases hlk
      | some sv => rw [h] at hlk; exact ⟨Option.some.inj hlk, rfl⟩
    have hpl : pv.2.length ≤ 1400000 := by have := szV_mem hvm; have := k.sz.1; omega
    repeat (first | refine JL.q (by first | (apply OQ.idxS0 (i := i); exact Try.underlying41; exact strS16; exact (congrArg some hav); exact rfl; exact hi') | (apply OQ.load; exact strC; exact rfl; exact .here; exact (Sl.Own.cell hkz)) | (apply OQ.move; exact rfl) | (apply OQ.assign; exact rfl)) rfl ?_ | refine JC.seq ?_ | refine JC.region ?_ | refine JC.block ?_ | refine JC.skip ?_ | refine JL.nil ?_ | refine JE.next ?_)
    refine JL.callg (ι := {q : Acc // q = none → pv.2 = []}) (vs := [Pt z.p 0, Z pv.1]) (fun q => .tuple #[accV q.1 pv.2.length, .bool true]) (fun q => accE 5 q.1 (pv.2.map U8)) goes_sGet rfl rfl (fun _ => accE_wr _ _ _) (fun w' hw' => ?_) fun q2 => ?_
    · have := get_any z.p z.mb (Pt z.j 0) z.mm z.c pv.1 w' (stR_ro (A := accE 9 (some (b1, c1)) ((vs.map Prod.fst).map Z)) (M := []) (by rw [List.append_nil]; exact hw')) fun x hx => ⟨(hv x hx).holds hw' rfl, by have := k.val hx; omega⟩
      rwa [hgl.1, hgl.2] at this
    obtain ⟨q2, hq2⟩ := q2
    dsimp only
    have cS : ∀ w', Holds w [] (accE 5 q2 (pv.2.map U8) ++ (accE 9 (some (b1, c1)) ((vs.map Prod.fst).map Z) ++ stR z.p z.mb z.cs (z.mm, z.c))) w' → Calls Try.prog 34 [accV q2 pv.2.length, tp.s.v].toArray w' fun e w2 => e = .returned (.bool true) ∧ Ext w' w2 := fun w' hw' => by
      have := same_any (accS q2 pv.2) tp.s w' (acc_ok hw') (okt.holds hw' rfl) (by rw [accS_l hq2]; omega)
      rw [accS_l hq2, e2, accS_v, decide_eq_true rfl] at this
      exact this
    repeat (first | refine JL.q (by first | (apply OQ.extract; exact rfl; exact rfl) | (apply OQ.not; exact rfl) | (apply OQ.idxS (i := i) (b := bt) (j := jt); exact Try.underlying32; exact pr3; exact (congrArg some htv); exact rfl; exact hit) | (apply OQ.load_old; exact strC; exact rfl; exact lt; exact (by simp); exact ct0) | (apply OQ.load_old; exact slCj; exact rfl; exact lt; exact (by simp); exact ct1) | (apply OQ.neZq; exact rfl; exact rfl) | (apply OQ.callx (vs := [accV q2 pv.2.length, tp.s.v]); exact goes_same; exact rfl; exact (fun w' hw' => cS w' hw')) | (apply OQ.pick_f; exact rfl; exact rfl) | (apply OQ.move; exact rfl) | (apply OQ.assign; exact rfl) | (apply OQ.fld; exact rfl; exact rfl; exact rfl; exact (by decide); exact rfl)) rfl ?_ | refine JC.seq ?_ | refine JC.region ?_ | refine JL.nil ?_ | refine JE.next ?_ | refine JL.gon rfl rfl ?_)
    refine JC.cond_false rfl rfl ?_
    repeat (first | refine JL.q (by first | (apply OQ.move; exact rfl) | (apply OQ.addN; exact rfl; exact rfl; exact (by (try simp only []); omega))) rfl ?_ | refine JC.region ?_ | refine JC.skip ?_ | refine JL.nil ?_ | refine JE.next ?_ | refine JE.blk_normal ?_)
    exact JE.again (i := i) (i + 1) hi' (by omega) (by repeat (first | exact SubE.nil | refine SubE.cons _ _ _ rfl ?_)) (less_app _ (Less.refl _))
  · repeat (first | refine JL.q (by (apply OQ.assign; exact rfl)) rfl ?_ | refine JC.seq ?_ | refine JC.region ?_ | refine JC.exit ?_ | refine JL.nil ?_ | refine JE.next ?_ | refine JE.then_exit ?_ | refine JE.blk_hit ?_)
    exact JC.ret (JE.ret1 rfl (RV.tmp rfl) fun w' hw => ⟨rfl, hw.chg⟩)
end Go.Proofs.Ytjkncnbpaejamaa

/-
  Of no statement by itself: the law's Is, whatever the values are.
  Conditions: each theorem's own.
-/
namespace Go.Proofs.Ytjkncnbpaejamaa
set_option maxRecDepth 10000
open Sl Dsk Jrn Sto
end Go.Proofs.Ytjkncnbpaejamaa

/-
  Of no statement by itself: what StoreLast gives.
  Conditions: each theorem's own.
-/
namespace Go.Proofs.Ytjkncnbpaejamaa
set_option maxRecDepth 10000
open Sl Dsk Jrn Sto
theorem Step.keep {z z' : Sz} {recs recs' : List Bk} {vs vs' : VL} {ps : List Pq} {code : Nat} (st : Step z recs vs ps code z' recs' vs') (k : z.ok recs vs) (hg : z.h.g.toNat < 4294967295) :
    z'.h.size = z.h.size ∧ z'.h.x.p = z.h.x.p ∧ z'.h.g.toNat ≤ z.h.g.toNat + 1 := by
  obtain ⟨_, _, st⟩ := st
  rcases st with ⟨rfl, _⟩ | ⟨_, _, _, ⟨_, e, _⟩ | ⟨_, _, e, _⟩⟩
  · exact ⟨rfl, rfl, Nat.le_succ _⟩
  · rw [e]; exact ⟨rfl, rfl, Nat.le_succ _⟩
  · rw [e]; exact ⟨rfl, rfl, gm_succ k.jv.gm_le hg⟩
theorem Step.zero {z z' : Sz} {recs recs' : List Bk} {vs vs' : VL} {ps : List Pq} {code : Nat} (st : Step z recs vs ps code z' recs' vs') (k : z.ok recs vs) (hok : okL ps = true) (hs : nb (baseOf vs ps).length ≤ z.h.size) (hg : z.h.g.toNat < 4294967295) : code = 0 ∧ vs' = doL vs ps := by
  obtain ⟨_, _, st⟩ := st
  rcases st with ⟨_, _, _, h | h⟩ | ⟨_, h1, h2, _⟩
  · rw [hok] at h; exact absurd h.1 (by decide)
  · rcases h.2.2.2 with h | h
    · omega
    · have := k.jv.gm_le
      rw [h, show (4294967295#32).toNat = 4294967295 from rfl] at this
      omega
  · exact ⟨h1, h2⟩
theorem Sz.ok.again {z : Sz} {recs : List Bk} {vs : VL} (k : z.ok recs vs) : ∃ ls, decAll (curF z.bl).2.2 = some ls ∧ doL [] ls = vs ∧ (curF z.bl).2.2 = recs := by
  have h := k.vals
  unfold valsOf at h
  have hc : (curF z.bl).2.2 = recs := by rw [k.jv.cur]
  cases hd : decAll recs with
  | none => rw [hd] at h; cases h
  | some l =>
    rw [hd, Option.map_some, Option.some.injEq] at h
    exact ⟨l, by rw [hc, hd], h, hc⟩
theorem baseOf_len (vs : VL) (ps : List Pq) : (baseOf vs ps).length = szV (doL vs ps) := by unfold baseOf; rw [encL_sz, szL_pairs]
theorem perm_z (z : Sz) (R : List Ent) : (z.E ++ R).Perm (dkE z.h.x z.bl [] ++ (⟨z.p, Row 72 z.cs, true⟩ :: ⟨z.mb, MvB (z.mm, z.c), true⟩ :: ⟨z.j, Row 104 (hfc z.h), true⟩ :: (flatE (z.mm.map ME.val) ++ R))) := by
  have := List.perm_append_comm_assoc [⟨z.p, Row 72 z.cs, true⟩, ⟨z.mb, MvB (z.mm, z.c), true⟩, ⟨z.j, Row 104 (hfc z.h), true⟩] (dkE z.h.x z.bl []) (flatE (z.mm.map ME.val) ++ R)
  unfold Sz.E jnE
  simpa using this
structure Ks16 where
  i : Nat
  z : Sz
  recs : List Bk
  q : Option Bk
end Go.Proofs.Ytjkncnbpaejamaa

/-
  Of no statement by itself: what a plain row's proof opens its arguments with (keys, bytes, slices of bytes and of int).
  Conditions: each theorem's own.
-/
namespace Go.Proofs.Ytjkncnbpaejamaa
set_option maxRecDepth 10000
open Go.ChangeShapes Go.WideShapes Go.ChangeAt Go.RowKit
open Sl
set_option linter.unusedVariables false
theorem ownQ : ownKnob Try.prog.godebug = none := by kernel_rfl
theorem laidOutQ : laidOutB Try.prog = true := by kernel_rfl
theorem u8_of {z : Int} (h : (Lit.int .u8 z).wf = true) : U8 (BitVec.ofInt 8 z) = .int .u8 z := by
  have h0 : 0 ≤ z ∧ z ≤ 255 := by
    have h1 : (decide (0 ≤ z) && decide (z ≤ 255)) = true := h
    simpa using h1
  have h2 : ((BitVec.ofInt 8 z).toNat : Int) = z := by
    rw [BitVec.toNat_ofInt]
    omega
  unfold U8
  rw [h2]
def fldIs (P : Program) (t : TypeId) (i : Nat) (ty : TypeId) (off : Nat) : Bool := match (P.fieldsOf t)[i]? with
  | some f => f.type == ty && f.offset == off
  | none => false
theorem fldIs_get {P : Program} {t : TypeId} {i : Nat} {ty : TypeId} {off : Nat} (h : fldIs P t i ty off = true) : ∃ f, (P.fieldsOf t)[i]? = some f ∧ f.type = ty ∧ f.offset = off := by
  unfold fldIs at h
  split at h
  · next f e =>
    simp only [Bool.and_eq_true, beq_iff_eq] at h
    exact ⟨f, e, h.1, h.2⟩
  · cases h
def bits8 (zs : List Int) : List (BitVec 8) := zs.map (BitVec.ofInt 8)
theorem sl8_of {H : Type} {enc : TypeId × Value → H} {W : World} {fuel : Nat} {v : Value} {x : DataW H × List MemPlace} (h : DataW.trod enc Try.prog W 0 (fun _ => true) true fuel 33 [v] = some x) : ∃ k : Sl8, v = k.v ∧ k.ok W ∧ k.cap ≤ maxLen := by
  rcases open_ints (show Try.prog.underlying 33 = some (.slice 5) by kernel_rfl) (show Try.prog.underlying 5 = some (.int .u8) by kernel_rfl) (by kernel_rfl) h with ⟨hcs, _⟩ | ⟨x, l, c, zs, hcs, _, hl, hm, hz, _, hcell, hwz⟩
  · cases hcs
    exact ⟨⟨none, 0, []⟩, rfl, ⟨by simp, Reads.nil _ _⟩, by decide⟩
  · cases hcs
    simp only [if_true] at hz
    have hlen : (bits8 (zs.take l)).length = l := by simp [bits8]; omega
    refine ⟨⟨some x, c, bits8 (zs.take l)⟩, by simp [Sl8.v, hlen], ⟨by rw [hlen]; exact hl, ?_⟩, hm⟩
    intro i v hv
    have hi : i < l := by
      have := (List.getElem?_eq_some_iff.1 hv).1
      simpa [hlen] using this
    have hc := hcell i (by omega)
    obtain ⟨b, o, sp⟩ := x
    cases sp with
    | some s =>
      have hc := hcell 0 (by omega)
      simp only [World.cell?, Addr.add, if_true] at hc
      split at hc <;> simp at hc
    | none =>
      refine ⟨b, o, rfl, ?_⟩
      have e1 : zs.getD i 0 = zs[i]'(by omega) := by simp [List.getD, show i < zs.length by omega]
      have e2 := u8_of (hwz (zs[i]'(by omega)) (List.getElem_mem _))
      have e3 : v = .int .u8 (zs.getD i 0) := by
        simp only [bits8, List.map_map, List.getElem?_map, List.getElem?_take] at hv
        rw [if_pos hi, List.getElem?_eq_getElem (by omega)] at hv
        simp only [Option.map_some, Function.comp, Option.some.injEq] at hv
        rw [← hv, e2, e1]
      rw [e3]
      have e4 : (⟨b, o, none⟩ : Addr).add i = ⟨b, o + i, none⟩ := by
        unfold Addr.add
        split
        · subst i; rfl
        · rfl
      rw [e4] at hc
      exact hc
end Go.Proofs.Ytjkncnbpaejamaa

/-
  Of no statement by itself: what a row's proof opens a slice of elements of many cells with, whatever they are.
  Conditions: each theorem's own.
-/
namespace Go.Proofs.Ytjkncnbpaejamaa
set_option maxRecDepth 10000
open Go.ChangeShapes Go.WideShapes Go.ChangeAt Go.RowKit
open Sl
set_option linter.unusedVariables false
theorem elems_of {α : Type} {H : Type} {enc : TypeId × Value → H} {W : World} {base fuel k : Nat} {t e : TypeId} {v : Value} {x : DataW H × List MemPlace} (cs : α → List Value) (P : α → Prop) (c0 : α) (hk0 : 0 < k)
    (hu : Try.prog.underlying t = some (.slice e)) (hc1 : Try.prog.cellsOf e = k) (hlen : ∀ c, P c → (cs c).length = k)
    (hel : ∀ (l : List Value) (fuel : Nat) (x : DataW H × List MemPlace), l.length = k → DataW.trod enc Try.prog W 0 (fun _ => true) true fuel e l = some x → ∃ c, l = cs c ∧ P c)
    (hok : Value.okWide Try.prog W .any base t v) (h : DataW.trod enc Try.prog W 0 (fun _ => true) true fuel t v.cells.toList = some x) :
    ∃ (ad : Option Addr) (cap : Nat) (l : List α), v = .slice ad l.length cap ∧ l.length ≤ cap ∧ Reads W ad (l.map cs).flatten ∧ ∀ c ∈ l, P c := by
  obtain ⟨a, l, c, rfl⟩ := okWide_slice hu hok
  rcases Go.Deep.open_slice hu h with ⟨hcs, _⟩ | ⟨a', len, cap, m, n, D, Pl, hcs, _, hl, hm, hmm, hxx, hel'⟩
  · cases hcs
    exact ⟨none, 0, [], rfl, Nat.le_refl _, Reads.nil _ _, nofun⟩
  · cases hcs
    simp only [if_true] at hmm
    subst hmm
    simp only [hc1] at hel'
    have hk : ∀ i, ∃ c : α, i < l → (∀ j u, (cs c)[j]? = some u → W.cell? ((a'.add (i * k)).add j) = some u) ∧ P c := by
      intro i
      by_cases hi : i < l
      · obtain ⟨cs', h1, h2⟩ := hel' i (by omega)
        obtain ⟨_, hlen', hcell⟩ := World.cells?_some h1
        obtain ⟨c, rfl, hp⟩ := hel _ _ _ hlen' h2
        refine ⟨c, fun _ => ⟨fun j u hu => ?_, hp⟩⟩
        have hj : j < (cs c).length := (List.getElem?_eq_some_iff.1 hu).1
        rw [hcell j (by omega)]
        exact hu
      · exact ⟨c0, fun h => absurd h hi⟩
    let f : Nat → α := fun i => Classical.choose (hk i)
    have hf : ∀ i, i < l → (∀ j u, (cs (f i))[j]? = some u → W.cell? ((a'.add (i * k)).add j) = some u) ∧ P (f i) := fun i => Classical.choose_spec (hk i)
    refine ⟨some a', m, (List.range l).map f, by simp, by simpa using hl, ?_, ?_⟩
    · intro i u hu
      have hcss : ∀ q ∈ ((List.range l).map f).map cs, q.length = k := by
        intro q hq
        obtain ⟨d, hd, rfl⟩ := List.mem_map.1 hq
        obtain ⟨j, hj, rfl⟩ := List.mem_map.1 hd
        exact hlen _ (hf j (List.mem_range.1 hj)).2
      have hlen2 := chunk_len hcss
      have hi : i < (((List.range l).map f).map cs).flatten.length := (List.getElem?_eq_some_iff.1 hu).1
      rw [hlen2] at hi
      simp only [List.length_map, List.length_range] at hi
      have hq : i / k < l := Nat.div_lt_of_lt_mul (by rw [Nat.mul_comm]; exact hi)
      have hr : i % k < k := Nat.mod_lt _ hk0
      have hat := chunk_at (i := i / k) hcss (by simpa using hq)
      have e2 : (((List.range l).map f).map cs).getD (i / k) [] = cs (f (i / k)) := by simp [hq]
      rw [e2] at hat
      have hdm : i / k * k + i % k = i := by rw [Nat.mul_comm]; exact Nat.div_add_mod i k
      have hu2 : (cs (f (i / k)))[i % k]? = some u := by
        rw [← hat, List.getElem?_take, if_pos hr, List.getElem?_drop, hdm]
        exact hu
      have hc := (hf (i / k) hq).1 (i % k) u hu2
      obtain ⟨b, o, sp⟩ := a'
      cases sp with
      | some s =>
        exfalso
        have h0 := hf 0 (Nat.lt_of_le_of_lt (Nat.zero_le _) hq)
        have hl0 := hlen _ h0.2
        obtain ⟨u0, hu0⟩ : ∃ u0, (cs (f 0))[0]? = some u0 := ⟨_, List.getElem?_eq_getElem (by omega)⟩
        have h00 := h0.1 0 u0 hu0
        simp only [World.cell?, Addr.add, Nat.zero_mul, if_true] at h00
        split at h00 <;> simp at h00
      | none =>
        refine ⟨b, o, rfl, ?_⟩
        rw [add_off, add_off, Nat.add_assoc, hdm] at hc
        exact hc
    · intro d hd
      obtain ⟨j, hj, rfl⟩ := List.mem_map.1 hd
      exact (hf j (List.mem_range.1 hj)).2
/-- a field of a struct that is opened -/
theorem fieldsW {H : Type} {enc : TypeId × Value → H} {W : World} {fuel nf : Nat} {t : TypeId} {cs : List Value} {x : DataW H × List MemPlace} (ht : Try.prog.underlying t = some (.struct (Try.prog.fieldsOf t))) (hsz : (Try.prog.fieldsOf t).size = nf)
    (h : DataW.trod enc Try.prog W 0 (fun _ => true) true fuel t cs = some x) : ∃ n, ∀ {i ty off}, fldIs Try.prog t i ty off = true → i < nf → ∃ y, DataW.trod enc Try.prog W 0 (fun _ => true) true n ty ((cs.drop off).take (Try.prog.cellsOf ty)) = some y := by
  obtain ⟨xs, n, _, _, _, hlen, hf⟩ := DataW.trod_struct ht h
  rw [hsz] at hlen
  refine ⟨n, fun {i ty off} h1 h2 => ?_⟩
  obtain ⟨f, e1, rfl, rfl⟩ := fldIs_get h1
  exact ⟨xs[i], by rw [hf i f e1, List.getElem?_eq_getElem (by omega)]⟩
theorem one_of {cs : List Value} {off : Nat} (h : off < cs.length) : ∃ v, (cs.drop off).take 1 = [v] ∧ cs[off]? = some v :=
  ⟨cs[off], by rw [List.drop_eq_getElem_cons h, List.take_succ_cons, List.take_zero], List.getElem?_eq_getElem h⟩
end Go.Proofs.Ytjkncnbpaejamaa

/-
  Of no statement by itself: slices of slices of pairs, as arguments; what a row's proof opens slices of pairs with.
  Conditions: each theorem's own.
-/
namespace Go.Proofs.Ytjkncnbpaejamaa
set_option maxRecDepth 10000
open Go.ChangeShapes Go.WideShapes Go.ChangeAt Go.RowKit
open Sl Dsk Jrn Sto
set_option linter.unusedVariables false
/-- a slice of slices of pairs -/
structure SlQ where
  ad : Option Addr
  cap : Nat
  l : List SlP
def SlQ.v (s : SlQ) : Value := .slice s.ad s.l.length s.cap
structure SlQ.ok (w : World) (s : SlQ) : Prop where
  len : s.l.length ≤ s.cap
  reads : Reads w s.ad (s.l.map SlP.v)
  all : ∀ p ∈ s.l, p.ok w
def noSlP : SlP := ⟨none, 0, []⟩
theorem flat_one16 {α : Type} (f : α → Value) : ∀ l : List α, (l.map fun a => [f a]).flatten = l.map f
  | [] => rfl
  | a :: l => by rw [List.map_cons, List.flatten_cons, flat_one16 f l]; rfl
theorem elems_in {α : Type} {H : Type} {enc : TypeId × Value → H} {W : World} {fuel k : Nat} {t e : TypeId} {v : Value} {x : DataW H × List MemPlace} (cs : α → List Value) (P : α → Prop) (c0 : α) (hk0 : 0 < k)
    (hu : Try.prog.underlying t = some (.slice e)) (hc1 : Try.prog.cellsOf e = k) (hlen : ∀ c, P c → (cs c).length = k)
    (hel : ∀ (l : List Value) (fuel : Nat) (x : DataW H × List MemPlace), l.length = k → DataW.trod enc Try.prog W 0 (fun _ => true) true fuel e l = some x → ∃ c, l = cs c ∧ P c)
    (h : DataW.trod enc Try.prog W 0 (fun _ => true) true fuel t [v] = some x) :
    ∃ (ad : Option Addr) (cap : Nat) (l : List α), v = .slice ad l.length cap ∧ l.length ≤ cap ∧ Reads W ad (l.map cs).flatten ∧ ∀ c ∈ l, P c := by
  rcases Go.Deep.open_slice hu h with ⟨hcs, _⟩ | ⟨a', l, cap, m, n, D, Pl, hcs, _, hl, hm, hmm, hxx, hel'⟩
  · cases hcs
    exact ⟨none, 0, [], rfl, Nat.le_refl _, Reads.nil _ _, nofun⟩
  · cases hcs
    simp only [if_true] at hmm
    subst hmm
    simp only [hc1] at hel'
    have hk : ∀ i, ∃ c : α, i < l → (∀ j u, (cs c)[j]? = some u → W.cell? ((a'.add (i * k)).add j) = some u) ∧ P c := by
      intro i
      by_cases hi : i < l
      · obtain ⟨cs', h1, h2⟩ := hel' i (by omega)
        obtain ⟨_, hlen', hcell⟩ := World.cells?_some h1
        obtain ⟨c, rfl, hp⟩ := hel _ _ _ hlen' h2
        refine ⟨c, fun _ => ⟨fun j u hu => ?_, hp⟩⟩
        have hj : j < (cs c).length := (List.getElem?_eq_some_iff.1 hu).1
        rw [hcell j (by omega)]
        exact hu
      · exact ⟨c0, fun h => absurd h hi⟩
    let f : Nat → α := fun i => Classical.choose (hk i)
    have hf : ∀ i, i < l → (∀ j u, (cs (f i))[j]? = some u → W.cell? ((a'.add (i * k)).add j) = some u) ∧ P (f i) := fun i => Classical.choose_spec (hk i)
    refine ⟨some a', m, (List.range l).map f, by simp, by simpa using hl, ?_, ?_⟩
    · intro i u hu
      have hcss : ∀ q ∈ ((List.range l).map f).map cs, q.length = k := by
        intro q hq
        obtain ⟨d, hd, rfl⟩ := List.mem_map.1 hq
        obtain ⟨j, hj, rfl⟩ := List.mem_map.1 hd
        exact hlen _ (hf j (List.mem_range.1 hj)).2
      have hlen2 := chunk_len hcss
      have hi : i < (((List.range l).map f).map cs).flatten.length := (List.getElem?_eq_some_iff.1 hu).1
      rw [hlen2] at hi
      simp only [List.length_map, List.length_range] at hi
      have hq : i / k < l := Nat.div_lt_of_lt_mul (by rw [Nat.mul_comm]; exact hi)
      have hr : i % k < k := Nat.mod_lt _ hk0
      have hat := chunk_at (i := i / k) hcss (by simpa using hq)
      have e2 : (((List.range l).map f).map cs).getD (i / k) [] = cs (f (i / k)) := by simp [hq]
      rw [e2] at hat
      have hdm : i / k * k + i % k = i := by rw [Nat.mul_comm]; exact Nat.div_add_mod i k
      have hu2 : (cs (f (i / k)))[i % k]? = some u := by
        rw [← hat, List.getElem?_take, if_pos hr, List.getElem?_drop, hdm]
        exact hu
      have hc := (hf (i / k) hq).1 (i % k) u hu2
      obtain ⟨b, o, sp⟩ := a'
      cases sp with
      | some s =>
        exfalso
        have h0 := hf 0 (Nat.lt_of_le_of_lt (Nat.zero_le _) hq)
        have hl0 := hlen _ h0.2
        obtain ⟨u0, hu0⟩ : ∃ u0, (cs (f 0))[0]? = some u0 := ⟨_, List.getElem?_eq_getElem (by omega)⟩
        have h00 := h0.1 0 u0 hu0
        simp only [World.cell?, Addr.add, Nat.zero_mul, if_true] at h00
        split at h00 <;> simp at h00
      | none =>
        refine ⟨b, o, rfl, ?_⟩
        rw [add_off, add_off, Nat.add_assoc, hdm] at hc
        exact hc
    · intro d hd
      obtain ⟨j, hj, rfl⟩ := List.mem_map.1 hd
      exact (hf j (List.mem_range.1 hj)).2
theorem pair_in {H : Type} {enc : TypeId × Value → H} {W : World} (l : List Value) (fuel : Nat) (x : DataW H × List MemPlace) (hl : l.length = 3) (hx : DataW.trod enc Try.prog W 0 (fun _ => true) true fuel 44 l = some x) : ∃ c : PqS, l = c.cs ∧ c.s.ok W := by
  obtain ⟨n, g⟩ := fieldsW (nf := 3) (by kernel_rfl) (by kernel_rfl) hx
  have c0 : Try.prog.cellsOf 9 = 1 := by kernel_rfl
  have c1 : Try.prog.cellsOf 33 = 1 := by kernel_rfl
  have c2 : Try.prog.cellsOf 4 = 1 := by kernel_rfl
  have hi : Try.prog.underlying 9 = some .string := by kernel_rfl
  have hb : Try.prog.underlying 4 = some .bool := by kernel_rfl
  obtain ⟨y0, g0⟩ := g (i := 0) (ty := 9) (off := 0) (by kernel_rfl) (by decide)
  obtain ⟨y1, g1⟩ := g (i := 1) (ty := 33) (off := 1) (by kernel_rfl) (by decide)
  obtain ⟨y2, g2⟩ := g (i := 2) (ty := 4) (off := 2) (by kernel_rfl) (by decide)
  rw [c0] at g0
  rw [c1] at g1
  rw [c2] at g2
  obtain ⟨z0, q0, _, _⟩ := DataW.trod_string hi g0
  obtain ⟨z2, q2, _⟩ := DataW.trod_bool hb g2
  obtain ⟨v, hv, _⟩ := one_of (off := 1) (by omega : 1 < l.length)
  rw [hv] at g1
  obtain ⟨k, rfl, hk, _⟩ := sl8_of g1
  refine ⟨⟨bytesOf z0, k, z2⟩, ?_, hk⟩
  have hz : Value.string z0 = Z (bytesOf z0) := by show _ = Value.string _; rw [strB_bytesOf]
  match l, hl, q0, q2, hv with
  | [a, b, c], _, q0, q2, hv =>
    simp at q0 q2 hv
    rw [q0, q2, hv, hz]
    rfl
theorem pairs_in {H : Type} {enc : TypeId × Value → H} {W : World} {fuel : Nat} {v : Value} {x : DataW H × List MemPlace} (h : DataW.trod enc Try.prog W 0 (fun _ => true) true fuel 32 [v] = some x) :
    ∃ k : SlP, v = k.v ∧ k.ok W := by
  obtain ⟨ad, cap, l, e, h1, h2, h3⟩ := elems_in (k := 3) (e := 44) PqS.cs (fun c => c.s.ok W) noP (by decide) (by kernel_rfl) (by kernel_rfl) (fun c _ => rfl) pair_in h
  exact ⟨⟨ad, cap, l⟩, e, ⟨h1, h2, h3⟩⟩
theorem lists_of {H : Type} {enc : TypeId × Value → H} {W : World} {base fuel : Nat} {v : Value} {x : DataW H × List MemPlace} (hok : Value.okWide Try.prog W .any base 22 v) (h : DataW.trod enc Try.prog W 0 (fun _ => true) true fuel 22 v.cells.toList = some x) :
    ∃ k : SlQ, v = k.v ∧ k.ok W := by
  obtain ⟨ad, cap, l, e, h1, h2, h3⟩ := elems_of (k := 1) (e := 32) (fun s : SlP => [s.v]) (fun s => s.ok W) noSlP (by decide) (by kernel_rfl) (by kernel_rfl) (fun c _ => rfl)
    (fun l fuel x hl hx => by
      match l, hl with
      | [v], _ =>
        obtain ⟨k, rfl, hk⟩ := pairs_in hx
        exact ⟨k, rfl, hk⟩) hok h
  rw [flat_one16] at h2
  exact ⟨⟨ad, cap, l⟩, e, ⟨h1, h2, h3⟩⟩
end Go.Proofs.Ytjkncnbpaejamaa

/-
  Of no statement by itself: the law's Great, great.
  Conditions: each theorem's own.
-/
namespace Go.Proofs.Ytjkncnbpaejamaa
set_option maxRecDepth 10000
open Sl Dsk Jrn Sto
def gPq (p : Pq) : Bool := decide ((1100 : Int) < (p.key.length : Int)) || decide ((2000 : Int) < (p.val.length : Int))
def gP (l : List Pq) : Bool := decide ((20 : Int) < (l.length : Int)) || l.any gPq
def gQ (l : List (List Pq)) : Bool := decide ((30 : Int) < (l.length : Int)) || l.any gP
theorem gP_no {l : List Pq} (h : gP l = false) : l.length ≤ 20 ∧ szL l ≤ 70000 ∧ ∀ p ∈ l, p.key.length ≤ 1100 ∧ p.val.length ≤ 2000 := by
  unfold gP at h
  rw [Bool.or_eq_false_iff] at h
  have h1 : l.length ≤ 20 := by have := of_decide_eq_false h.1; omega
  have h2 : ∀ p ∈ l, p.key.length ≤ 1100 ∧ p.val.length ≤ 2000 := fun p hp => by
    have := List.any_eq_false.1 h.2 p hp
    unfold gPq at this
    simp only [Bool.not_eq_true, Bool.or_eq_false_iff, decide_eq_false_iff_not] at this
    omega
  refine ⟨h1, ?_, h2⟩
  have : ∀ l : List Pq, (∀ p ∈ l, p.key.length ≤ 1100 ∧ p.val.length ≤ 2000) → szL l ≤ 3107 * l.length := by
    intro l
    induction l with
    | nil => intro _; simp [szL]
    | cons p l ih =>
      intro h
      have h3 := h p (by simp)
      have h4 := ih fun q hq => h q (by simp [hq])
      rw [szL_cons, List.length_cons]
      unfold szP
      omega
  have := this l h2
  omega
theorem goes_Great : Goes Try.prog 16 := ⟨_, Try.func16, rfl, by kernel_rfl⟩
theorem goes_great16 : Goes Try.prog 7 := ⟨_, Try.func7, rfl, by kernel_rfl⟩
theorem any_take {α : Type} {l : List α} {f : α → Bool} {i : Nat} {a : α} (h : (l.take i).any f = false) (ht : l.take (i + 1) = l.take i ++ [a]) (ha : f a = false) : (l.take (i + 1)).any f = false := by
  rw [ht, List.any_append, h]
  simp [ha]
set_option maxHeartbeats 16000000 in
theorem Great_any (s : SlP) (w : World) (hs : s.ok w) : Calls Try.prog 16 [s.v].toArray w fun e w' => e = .returned (.bool (gP s.ps)) ∧ Ext w w' := by
  have hpl : s.ps.length = s.l.length := by unfold SlP.ps; rw [List.length_map]
  refine enter (n := 25) Try.func16 rfl rfl rfl (Holds.start w []) ?_
  unfold gP
  rw [hpl]
  cases g1 : decide ((20 : Int) < (s.l.length : Int))
  case true =>
    repeat (first | refine JL.q (by first | (apply OQ.len (k := s.l.length) (ad := s.ad) (cap := s.cap); exact Try.underlying32; exact rfl) | (apply OQ.gtrB (b := 20); exact rfl; exact rfl; exact g1) | (apply OQ.move; exact rfl) | (apply OQ.assign; exact rfl)) rfl ?_ | refine JC.seq ?_ | refine JC.region ?_ | refine JL.nil ?_ | refine JE.next ?_)
    refine JC.cond_true rfl rfl ?_
    repeat (first | refine JL.q (by (apply OQ.assign; exact rfl)) rfl ?_ | refine JC.seq ?_ | refine JC.region ?_ | refine JL.nil ?_ | refine JE.next ?_)
    refine JC.ret ?_
    repeat (refine JE.then_ret ?_)
    exact JE.ret1 rfl (RV.tmp rfl) fun w' hw => ⟨rfl, hw.chg⟩
  rw [Bool.false_or]
  have hn : s.l.length ≤ 20 := by have := of_decide_eq_false g1; omega
  repeat (first | refine JL.q (by first | (apply OQ.len (k := s.l.length) (ad := s.ad) (cap := s.cap); exact Try.underlying32; exact rfl) | (apply OQ.gtrB (b := 20); exact rfl; exact rfl; exact g1) | (apply OQ.move; exact rfl) | (apply OQ.assign; exact rfl)) rfl ?_ | refine JC.seq ?_ | refine JC.region ?_ | refine JL.nil ?_ | refine JE.next ?_)
  refine JC.cond_false rfl rfl ?_
  repeat (first | refine JL.q (by first | (apply OQ.len (k := s.l.length) (ad := s.ad) (cap := s.cap); exact Try.underlying32; exact rfl) | (apply OQ.move; exact rfl)) rfl ?_ | refine JC.seq ?_ | refine JC.region ?_ | refine JC.block ?_ | refine JC.skip ?_ | refine JL.nil ?_ | refine JE.next ?_)
  refine JC.loop (fun i : Nat => [(8, s.v), (9, N s.l.length), (10, N i)]) (fun _ => []) (fun i => s.l.length - i) (fun i => i ≤ s.l.length ∧ (s.ps.take i).any gPq = false) 0 ⟨Nat.zero_le _, rfl⟩ (by repeat (first | exact SubE.nil | refine SubE.cons _ _ _ rfl ?_)) (.nil _) ?_
  rintro i ⟨hi, hav⟩
  repeat (first | refine JL.q (by (apply OQ.lssN; exact rfl; exact rfl)) rfl ?_ | refine JC.seq ?_ | refine JC.region ?_ | refine JL.nil ?_ | refine JE.next ?_)
  refine JC.cond rfl (fun hc => ?_) (fun hc => ?_)
  · have hi' : i < s.l.length := Nat.lt_of_not_le fun h => by have := of_decide_eq_true hc; omega
    clear hc
    obtain ⟨b, j, e, lb, c⟩ := hs.at hi'
    have hm := SlP.get_mem hi'
    have ht := SlP.take1 hi'
    generalize s.l.getD i noP = p at c hm ht
    have hsv : s.v = .slice (some ⟨b, j, none⟩) s.l.length s.cap := by rw [← e]; rfl
    rw [hsv]
    repeat (first | refine JL.q (by first | (apply OQ.idxS (i := i); exact Try.underlying32; exact pr3; exact rfl; exact rfl; exact hi') | (apply OQ.load_agg_old (cs := p.cs); exact prAg; exact rfl; exact pr3; exact lb; exact (by simp); exact c)) rfl ?_ | refine JC.seq ?_ | refine JC.region ?_ | refine JC.block ?_ | refine JC.skip ?_ | refine JE.next ?_)
    rw [← hsv]
    refine JL.alloc prZ rfl fun b6 _ => ?_
    refine JL.store_all (cs := p.cs) pr3 rfl rfl rfl p.one .here rfl ?_
    cases g2 : decide ((1100 : Int) < (p.key.length : Int))
    case true =>
      have ha : s.ps.any gPq = true := List.any_eq_true.2 ⟨p.p, List.mem_of_mem_take (i := i + 1) (by rw [ht]; simp), by unfold gPq; rw [show decide ((1100 : Int) < (p.p.key.length : Int)) = true from g2]; rfl⟩
      rw [ha]
      repeat (first | refine JL.q (by first | (apply OQ.load; exact strC; exact rfl; exact .here; exact (Row.cell (v := Z p.key) rfl)) | (apply OQ.lenS; exact Try.underlying9; exact rfl) | (apply OQ.gtrB (b := 1100); exact rfl; exact rfl; exact g2) | (apply OQ.pick_t; exact rfl; exact rfl) | (apply OQ.move; exact rfl) | (apply OQ.fld; exact rfl; exact rfl; exact rfl; exact (by decide); exact rfl)) rfl ?_ | refine JC.seq ?_ | refine JC.region ?_ | refine JL.nil ?_ | refine JE.next ?_ | refine JL.gskip rfl rfl rfl rfl ?_)
      refine JC.cond_true rfl rfl ?_
      repeat (first | refine JL.q (by (apply OQ.assign; exact rfl)) rfl ?_ | refine JC.seq ?_ | refine JC.region ?_ | refine JL.nil ?_ | refine JE.next ?_)
      refine JC.ret ?_
      repeat (first | refine JE.then_ret ?_ | refine JE.blk_ret ?_)
      exact JE.ret1 rfl (RV.tmp rfl) fun w' hw => ⟨rfl, hw.chg⟩
    case false =>
      cases g3 : decide ((2000 : Int) < (p.s.l.length : Int))
      case true =>
        have ha : s.ps.any gPq = true := List.any_eq_true.2 ⟨p.p, List.mem_of_mem_take (i := i + 1) (by rw [ht]; simp), by unfold gPq; rw [show decide ((1100 : Int) < (p.p.key.length : Int)) = false from g2, show decide ((2000 : Int) < (p.p.val.length : Int)) = true from g3]; rfl⟩
        rw [ha]
        repeat (first | refine JL.q (by first | (apply OQ.load; exact strC; exact rfl; exact .here; exact (Row.cell (v := Z p.key) rfl)) | (apply OQ.lenS; exact Try.underlying9; exact rfl) | (apply OQ.gtrB (b := 1100); exact rfl; exact rfl; exact g2) | (apply OQ.load; exact slCj; exact rfl; exact .here; exact (Row.cell (v := p.s.v) rfl)) | (apply OQ.len (k := p.s.l.length) (ad := p.s.ad) (cap := p.s.cap); exact Try.underlying33; exact rfl) | (apply OQ.gtrB (b := 2000); exact rfl; exact rfl; exact g3) | (apply OQ.pick_f; exact rfl; exact rfl) | (apply OQ.move; exact rfl) | (apply OQ.fld; exact rfl; exact rfl; exact rfl; exact (by decide); exact rfl)) rfl ?_ | refine JC.seq ?_ | refine JC.region ?_ | refine JL.nil ?_ | refine JE.next ?_ | refine JL.gon rfl rfl ?_)
        refine JC.cond_true rfl rfl ?_
        repeat (first | refine JL.q (by (apply OQ.assign; exact rfl)) rfl ?_ | refine JC.seq ?_ | refine JC.region ?_ | refine JL.nil ?_ | refine JE.next ?_)
        refine JC.ret ?_
        repeat (first | refine JE.then_ret ?_ | refine JE.blk_ret ?_)
        exact JE.ret1 rfl (RV.tmp rfl) fun w' hw => ⟨rfl, hw.chg⟩
      case false =>
        repeat (first | refine JL.q (by first | (apply OQ.load; exact strC; exact rfl; exact .here; exact (Row.cell (v := Z p.key) rfl)) | (apply OQ.lenS; exact Try.underlying9; exact rfl) | (apply OQ.gtrB (b := 1100); exact rfl; exact rfl; exact g2) | (apply OQ.load; exact slCj; exact rfl; exact .here; exact (Row.cell (v := p.s.v) rfl)) | (apply OQ.len (k := p.s.l.length) (ad := p.s.ad) (cap := p.s.cap); exact Try.underlying33; exact rfl) | (apply OQ.gtrB (b := 2000); exact rfl; exact rfl; exact g3) | (apply OQ.pick_f; exact rfl; exact rfl) | (apply OQ.move; exact rfl) | (apply OQ.fld; exact rfl; exact rfl; exact rfl; exact (by decide); exact rfl)) rfl ?_ | refine JC.seq ?_ | refine JC.region ?_ | refine JL.nil ?_ | refine JE.next ?_ | refine JL.gon rfl rfl ?_)
        refine JC.cond_false rfl rfl ?_
        repeat (first | refine JL.q (by first | (apply OQ.move; exact rfl) | (apply OQ.addN; exact rfl; exact rfl; exact (by (try simp only []); omega))) rfl ?_ | refine JC.region ?_ | refine JC.skip ?_ | refine JL.nil ?_ | refine JE.next ?_ | refine JE.blk_normal ?_)
        exact JE.again (i := i) (i + 1) ⟨hi', any_take hav ht (by unfold gPq; rw [show decide ((1100 : Int) < (p.p.key.length : Int)) = false from g2, show decide ((2000 : Int) < (p.p.val.length : Int)) = false from g3]; rfl)⟩ (by omega) (by repeat (first | exact SubE.nil | refine SubE.cons _ _ _ rfl ?_)) (.nil _)
  · have hi' : i = s.l.length := by have := of_decide_eq_false hc; omega
    have hf : s.ps.take i = s.ps := List.take_of_length_le (by rw [hpl]; omega)
    rw [hf] at hav
    rw [hav]
    repeat (first | refine JL.q (by (apply OQ.assign; exact rfl)) rfl ?_ | refine JC.seq ?_ | refine JC.region ?_ | refine JC.exit ?_ | refine JL.nil ?_ | refine JE.next ?_ | refine JE.then_exit ?_ | refine JE.blk_hit ?_)
    exact JC.ret (JE.ret1 rfl (RV.tmp rfl) fun w' hw => ⟨rfl, hw.chg⟩)
theorem SlQ.ok.at {w : World} {s : SlQ} (h : s.ok w) {i : Nat} (hi : i < s.l.length) : ∃ b j, s.ad = some ⟨b, j, none⟩ ∧ b < w.heap.size ∧ w.cell? ⟨b, j + i, none⟩ = some (s.l.getD i noSlP).v := by
  obtain ⟨b, j, e, hc⟩ := h.reads.at (by rw [List.length_map]; omega : 0 < (s.l.map SlP.v).length)
  have h0 := hc i (s.l.getD i noSlP).v (by rw [List.getElem?_map, List.getElem?_eq_getElem hi, List.getD_eq_getElem?_getD, List.getElem?_eq_getElem hi]; rfl)
  exact ⟨b, j, e, block_lt_of_cell h0, h0⟩
def SlQ.ps (s : SlQ) : List (List Pq) := s.l.map SlP.ps
theorem SlQ.take1 {s : SlQ} {i : Nat} (hi : i < s.l.length) : s.ps.take (i + 1) = s.ps.take i ++ [(s.l.getD i noSlP).ps] := by
  unfold SlQ.ps
  rw [List.take_add_one]
  simp [List.getD_eq_getElem?_getD, hi]
theorem SlQ.get_mem {s : SlQ} {i : Nat} (hi : i < s.l.length) : s.l.getD i noSlP ∈ s.l := by
  rw [List.getD_eq_getElem?_getD, List.getElem?_eq_getElem hi]
  exact List.getElem_mem _
theorem slPC : scal Try.prog 32 = true := by kernel_rfl
theorem slPS : szT Try.prog 32 = some 1 := by kernel_rfl
set_option maxHeartbeats 16000000 in
theorem great16_any (s : SlQ) (w : World) (hs : s.ok w) : Calls Try.prog 7 [s.v].toArray w fun e w' => e = .returned (.bool (gQ s.ps)) ∧ Ext w w' := by
  have hpl : s.ps.length = s.l.length := by unfold SlQ.ps; rw [List.length_map]
  refine enter (n := 17) Try.func7 rfl rfl rfl (Holds.start w []) ?_
  unfold gQ
  rw [hpl]
  cases g1 : decide ((30 : Int) < (s.l.length : Int))
  case true =>
    repeat (first | refine JL.q (by first | (apply OQ.len (k := s.l.length) (ad := s.ad) (cap := s.cap); exact Try.underlying22; exact rfl) | (apply OQ.gtrB (b := 30); exact rfl; exact rfl; exact g1) | (apply OQ.move; exact rfl) | (apply OQ.assign; exact rfl)) rfl ?_ | refine JC.seq ?_ | refine JC.region ?_ | refine JL.nil ?_ | refine JE.next ?_)
    refine JC.cond_true rfl rfl ?_
    repeat (first | refine JL.q (by (apply OQ.assign; exact rfl)) rfl ?_ | refine JC.seq ?_ | refine JC.region ?_ | refine JL.nil ?_ | refine JE.next ?_)
    refine JC.ret ?_
    repeat (refine JE.then_ret ?_)
    exact JE.ret1 rfl (RV.tmp rfl) fun w' hw => ⟨rfl, hw.chg⟩
  rw [Bool.false_or]
  have hn : s.l.length ≤ 30 := by have := of_decide_eq_false g1; omega
  repeat (first | refine JL.q (by first | (apply OQ.len (k := s.l.length) (ad := s.ad) (cap := s.cap); exact Try.underlying22; exact rfl) | (apply OQ.gtrB (b := 30); exact rfl; exact rfl; exact g1) | (apply OQ.move; exact rfl) | (apply OQ.assign; exact rfl)) rfl ?_ | refine JC.seq ?_ | refine JC.region ?_ | refine JL.nil ?_ | refine JE.next ?_)
  refine JC.cond_false rfl rfl ?_
  repeat (first | refine JL.q (by first | (apply OQ.len (k := s.l.length) (ad := s.ad) (cap := s.cap); exact Try.underlying22; exact rfl) | (apply OQ.move; exact rfl)) rfl ?_ | refine JC.seq ?_ | refine JC.region ?_ | refine JC.block ?_ | refine JC.skip ?_ | refine JL.nil ?_ | refine JE.next ?_)
  refine JC.loop (fun i : Nat => [(8, s.v), (9, N s.l.length), (10, N i)]) (fun _ => []) (fun i => s.l.length - i) (fun i => i ≤ s.l.length ∧ (s.ps.take i).any gP = false) 0 ⟨Nat.zero_le _, rfl⟩ (by repeat (first | exact SubE.nil | refine SubE.cons _ _ _ rfl ?_)) (.nil _) ?_
  rintro i ⟨hi, hav⟩
  repeat (first | refine JL.q (by (apply OQ.lssN; exact rfl; exact rfl)) rfl ?_ | refine JC.seq ?_ | refine JC.region ?_ | refine JL.nil ?_ | refine JE.next ?_)
  refine JC.cond rfl (fun hc => ?_) (fun hc => ?_)
  · have hi' : i < s.l.length := Nat.lt_of_not_le fun h => by have := of_decide_eq_true hc; omega
    clear hc
    obtain ⟨b, j, e, lb, c⟩ := hs.at hi'
    have hm := SlQ.get_mem hi'
    have ht := SlQ.take1 hi'
    generalize s.l.getD i noSlP = p at c hm ht
    have hsv : s.v = .slice (some ⟨b, j, none⟩) s.l.length s.cap := by rw [← e]; rfl
    rw [hsv]
    have cG := fun {M} w' (hw' : Holds w [] M w') => Great_any p w' ((hs.all p hm).holds hw' rfl)
    cases g2 : gP p.ps
    case true =>
      have ha : s.ps.any gP = true := List.any_eq_true.2 ⟨p.ps, List.mem_of_mem_take (i := i + 1) (by rw [ht]; simp), g2⟩
      rw [ha]
      rw [g2] at cG
      repeat (first | refine JL.q (by first | (apply OQ.idxS1 (i := i); exact Try.underlying22; exact slPS; exact rfl; exact rfl; exact hi') | (apply OQ.load_old; exact slPC; exact rfl; exact lb; exact (by simp); exact c) | (apply OQ.callx (vs := [p.v]); exact goes_Great; exact rfl; exact (fun w' hw' => cG w' hw')) | (apply OQ.move; exact rfl) | (apply OQ.assign; exact rfl)) rfl ?_ | refine JC.seq ?_ | refine JC.region ?_ | refine JC.block ?_ | refine JC.skip ?_ | refine JL.nil ?_ | refine JE.next ?_)
      refine JC.cond_true rfl rfl ?_
      repeat (first | refine JL.q (by (apply OQ.assign; exact rfl)) rfl ?_ | refine JC.seq ?_ | refine JC.region ?_ | refine JL.nil ?_ | refine JE.next ?_)
      refine JC.ret ?_
      repeat (first | refine JE.then_ret ?_ | refine JE.blk_ret ?_)
      exact JE.ret1 rfl (RV.tmp rfl) fun w' hw => ⟨rfl, hw.chg⟩
    case false =>
      rw [g2] at cG
      repeat (first | refine JL.q (by first | (apply OQ.idxS1 (i := i); exact Try.underlying22; exact slPS; exact rfl; exact rfl; exact hi') | (apply OQ.load_old; exact slPC; exact rfl; exact lb; exact (by simp); exact c) | (apply OQ.callx (vs := [p.v]); exact goes_Great; exact rfl; exact (fun w' hw' => cG w' hw')) | (apply OQ.move; exact rfl) | (apply OQ.assign; exact rfl)) rfl ?_ | refine JC.seq ?_ | refine JC.region ?_ | refine JC.block ?_ | refine JC.skip ?_ | refine JL.nil ?_ | refine JE.next ?_)
      refine JC.cond_false rfl rfl ?_
      rw [← hsv]
      repeat (first | refine JL.q (by first | (apply OQ.move; exact rfl) | (apply OQ.addN; exact rfl; exact rfl; exact (by (try simp only []); omega))) rfl ?_ | refine JC.region ?_ | refine JC.skip ?_ | refine JL.nil ?_ | refine JE.next ?_ | refine JE.blk_normal ?_)
      exact JE.again (i := i) (i + 1) ⟨hi', any_take hav ht g2⟩ (by omega) (by repeat (first | exact SubE.nil | refine SubE.cons _ _ _ rfl ?_)) (.nil _)
  · have hi' : i = s.l.length := by have := of_decide_eq_false hc; omega
    have hf : s.ps.take i = s.ps := List.take_of_length_le (by rw [hpl]; omega)
    rw [hf] at hav
    rw [hav]
    repeat (first | refine JL.q (by (apply OQ.assign; exact rfl)) rfl ?_ | refine JC.seq ?_ | refine JC.region ?_ | refine JC.exit ?_ | refine JL.nil ?_ | refine JE.next ?_ | refine JE.then_exit ?_ | refine JE.blk_hit ?_)
    exact JC.ret (JE.ret1 rfl (RV.tmp rfl) fun w' hw => ⟨rfl, hw.chg⟩)
end Go.Proofs.Ytjkncnbpaejamaa

/-
  Of no statement by itself: what StoreOrder gives.
  Conditions: each theorem's own.
-/
namespace Go.Proofs.Ytjkncnbpaejamaa
set_option maxRecDepth 10000
open Sl Dsk Jrn Sto
section
variable {P : Program} {n : Nat} {E : Env} {C : World → Prop} {dst : Option Tmp} {ty t t' : TypeId} {pos : String} {aft : Array Edge} {g : Option (Nat × Bool)} {x y : Operand} {l r : Bk}
theorem OQ.neZr (hx : ev E x = some (Z l)) (hy : ev E y = some (Z l)) : OQ P n E C ⟨dst, .binOp .neq t x y t', ty, pos, aft, g⟩ (.bool false) := OQ.to (OQ.neS hx hy) (by simp)
end
theorem keysV_pre (vs : VL) (front : Bk) : keysV vs front = (vs.map Prod.fst).filter (preB16 front) := by
  unfold keysV
  rw [List.filter_map]
  rfl
theorem filt_at {K : List Bk} {f : Bk → Bool} {i : Nat} {key : Bk} (h : K[i]? = some key) (hf : f key = true) : (K.filter f)[((K.take i).filter f).length]? = some key := by
  have hi := (List.getElem?_eq_some_iff.1 h).1
  have e : K = K.take i ++ key :: K.drop (i + 1) := by
    have h1 := (List.take_append_drop i K).symm
    have h2 := List.drop_eq_getElem_cons hi
    rw [(List.getElem?_eq_some_iff.1 h).2] at h2
    rwa [h2] at h1
  have h3 : K.filter f = (K.take i).filter f ++ key :: (K.drop (i + 1)).filter f := by
    conv => lhs; rw [e]
    rw [List.filter_append, List.filter_cons_of_pos hf]
  rw [h3, List.getElem?_append_right (Nat.le_refl _), Nat.sub_self]
  rfl
theorem take_filt {K : List Bk} {f : Bk → Bool} {i : Nat} {key : Bk} (h : K[i]? = some key) : ((K.take (i + 1)).filter f).length = ((K.take i).filter f).length + (if f key = true then 1 else 0) := by
  rw [List.take_add_one, h, List.filter_append]
  by_cases hf : f key = true
  · simp [hf]
  · simp [hf]
theorem SlQ.ok.holds {w0 w : World} {S : List Nat} {M : List Ent} {s : SlQ} (h : s.ok w0) (hw : Holds w0 S M w) (hS : S = []) : s.ok w := ⟨h.len, hw.reads h.reads (fun _ a _ => by rw [hS]; simp), fun p hp => (h.all p hp).holds hw hS⟩
structure Os16 where
  i : Nat
  z : Sz
  recs : List Bk
  vs : VL
end Go.Proofs.Ytjkncnbpaejamaa

/-
  Of no statement by itself: the reference's Blocks (how many), Room.
  Conditions: each theorem's own.
-/
namespace Go.Proofs.Ytjkncnbpaejamaa
set_option maxRecDepth 10000
open Sl Dsk Jrn
section
variable {P : Program} {n : Nat} {E : Env} {C : World → Prop} {dst : Option Tmp} {t t' ty : TypeId} {pos : String} {aft : Array Edge} {g : Option (Nat × Bool)} {x y : Operand}
theorem OQ.shrN {a m : Nat} {yk : IntKind} {k : Nat} (hm : (2 : Int) ^ k = (m : Int)) (hk : k ≤ 64) (hx : ev E x = some (N a)) (hy : ev E y = some (.int yk k)) : OQ P n E C ⟨dst, .binOp .shr t x y t', ty, pos, aft, g⟩ (N (a / m)) :=
  OQ.to (OQ.shrI (a := (a : Int)) hm hk hx hy) (by show Value.int .i64 ((a : Int) / (m : Int)) = .int .i64 ((a / m : Nat) : Int); rw [Int.natCast_ediv])
end
theorem set_bc {x : Bk} {i : Nat} {v : Bt} : (bc x).set i (U8 v) = bc (x.set i v) := by simp [bc, List.map_set]
theorem goes_rblocks : Goes Try.prog 21 := ⟨_, Try.func21, rfl, by kernel_rfl⟩
theorem u8sj : szT Try.prog 5 = some 1 := by kernel_rfl
set_option maxHeartbeats 64000000 in
theorem rblen_any (gen rec : Nat) (s : Sl8) (w : World) (hs : s.ok w) (hl : s.l.length ≤ 2000000) : Calls Try.prog 21 [N gen, N rec, s.v].toArray w fun e w' => ∃ z : {z : (Nat × Nat) × List Bk // z.2.length = nb s.l.length}, e = .returned (accV (some z.1.1) (bcs z.1.2).length) ∧ Holds w [] (accC 51 64 (some z.1.1) (bcs z.1.2)) w' := by
  have hcl := hs.len
  refine enter (n := 110) Try.func21 rfl rfl rfl (Holds.start w []) ?_
  repeat (first | refine JL.q (by (apply OQ.assign; exact rfl)) rfl ?_ | refine JC.seq ?_ | refine JC.region ?_ | refine JL.nil ?_ | refine JE.next ?_)
  refine JL.litZ Try.underlying48 dkI rfl fun b0 _ => ?_
  repeat (first | refine JL.q (by (apply OQ.assign; exact rfl)) rfl ?_ | refine JC.seq ?_ | refine JC.region ?_ | refine JC.block ?_ | refine JL.nil ?_ | refine JE.next ?_)
  refine JC.loop (fun z : Nat × (Nat × Nat) × List Bk => [(0, N gen), (1, N rec), (2, s.v), (7, accV (some z.2.1) (bcs z.2.2).length), (8, N (z.1 * 42))]) (fun z => accC 51 64 (some z.2.1) (bcs z.2.2)) (fun z => nb s.l.length - z.1) (fun z => z.1 ≤ nb s.l.length ∧ z.2.2.length = z.1) (0, (b0, 0), []) ⟨Nat.zero_le _, rfl⟩ (by repeat (first | exact SubE.nil | refine SubE.cons _ _ _ rfl ?_)) (Less.refl _) ?_
  rintro ⟨k, q, L⟩ ⟨hk, hL⟩
  dsimp only at hk hL ⊢
  have hnb := nb_le s.l.length
  have hbn := bcs_n L
  by_cases hk' : k < nb s.l.length
  case neg =>
    have e1 : decide (((k * 42 : Nat) : Int) < (s.l.length : Int)) = false := decide_eq_false (by omega)
    have e2 : decide (((k * 42 : Nat) : Int) = 0) = false := decide_eq_false (by have := nb_pos s.l.length; omega)
    repeat (first | refine JL.q (by first | (apply OQ.len (k := s.l.length) (ad := s.ad) (cap := s.cap); exact Try.underlying33; exact rfl) | (apply OQ.lssB; exact rfl; exact rfl; exact e1) | (apply OQ.eqB (b := 0); exact rfl; exact rfl; exact e2) | (apply OQ.pick_f; exact rfl; exact rfl) | (apply OQ.move; exact rfl)) rfl ?_ | refine JC.seq ?_ | refine JC.region ?_ | refine JL.nil ?_ | refine JE.next ?_ | refine JL.gon rfl rfl ?_)
    refine JC.cond_false rfl rfl ?_
    repeat (first | refine JL.q (by first | (apply OQ.move; exact rfl) | (apply OQ.assign; exact rfl)) rfl ?_ | refine JC.seq ?_ | refine JC.region ?_ | refine JC.exit ?_ | refine JL.nil ?_ | refine JE.next ?_ | refine JE.then_exit ?_ | refine JE.blk_hit ?_)
    refine JC.ret ?_
    skip
    exact JE.ret1 rfl (RV.tmp rfl) fun w' hw => ⟨⟨(q, L), by show L.length = _; omega⟩, rfl, hw⟩
  case pos =>
    have hlo := nb_at hk'
    have hgo : (decide (((k * 42 : Nat) : Int) < (s.l.length : Int)) = true) ∨ (decide (((k * 42 : Nat) : Int) < (s.l.length : Int)) = false ∧ decide (((k * 42 : Nat) : Int) = 0) = true) := by
      by_cases h : k * 42 < s.l.length
      · exact .inl (decide_eq_true (by omega))
      · refine .inr ⟨decide_eq_false (by omega), decide_eq_true ?_⟩
        unfold nb at hk'
        omega
    refine JC.mid (ι := Unit) (fun _ => [(0, N gen), (1, N rec), (2, s.v), (7, accV (some q) (bcs L).length), (8, N (k * 42))]) (fun _ => accC 51 64 (some q) (bcs L)) (fun _ => True) ?_ ?_
    · rcases hgo with e1 | ⟨e1, e2⟩
      · repeat (first | refine JL.q (by first | (apply OQ.len (k := s.l.length) (ad := s.ad) (cap := s.cap); exact Try.underlying33; exact rfl) | (apply OQ.lssB; exact rfl; exact rfl; exact e1) | (apply OQ.pick_t; exact rfl; exact rfl) | (apply OQ.move; exact rfl)) rfl ?_ | refine JC.seq ?_ | refine JC.region ?_ | refine JL.nil ?_ | refine JE.next ?_ | refine JL.gskip rfl rfl rfl rfl ?_)
        refine JC.cond_true rfl rfl ?_
        repeat (refine JC.skip ?_)
        exact JE.mid () trivial (by repeat (first | exact SubE.nil | refine SubE.cons _ _ _ rfl ?_)) (Less.refl _)
      · repeat (first | refine JL.q (by first | (apply OQ.len (k := s.l.length) (ad := s.ad) (cap := s.cap); exact Try.underlying33; exact rfl) | (apply OQ.lssB; exact rfl; exact rfl; exact e1) | (apply OQ.eqB (b := 0); exact rfl; exact rfl; exact e2) | (apply OQ.pick_f; exact rfl; exact rfl) | (apply OQ.move; exact rfl)) rfl ?_ | refine JC.seq ?_ | refine JC.region ?_ | refine JL.nil ?_ | refine JE.next ?_ | refine JL.gon rfl rfl ?_)
        refine JC.cond_true rfl rfl ?_
        repeat (refine JC.skip ?_)
        exact JE.mid () trivial (by repeat (first | exact SubE.nil | refine SubE.cons _ _ _ rfl ?_)) (Less.refl _)
    rintro _ _
    have e9 : decide (((s.snd (k * 42)).l.length : Int) ≤ 42) = decide (s.l.length - k * 42 ≤ 42) := decide_eq_decide.2 (by show ((s.l.drop (k * 42)).length : Int) ≤ 42 ↔ _; rw [List.length_drop]; omega)
    repeat (first | refine JL.q (by first | (apply OQ.snd (s := s) (m := k * 42); exact Try.underlying33; exact u8sj; exact rfl; exact rfl; exact hlo) | (apply OQ.len (k := (s.snd (k * 42)).l.length) (ad := (s.snd (k * 42)).ad) (cap := (s.snd (k * 42)).cap); exact Try.underlying33; exact rfl) | (apply OQ.leqB (b := 42); exact rfl; exact rfl; exact e9) | (apply OQ.not; exact rfl) | (apply OQ.move; exact rfl) | (apply OQ.assign; exact rfl)) rfl ?_ | refine JC.seq ?_ | refine JC.region ?_ | refine JC.block ?_ | refine JL.nil ?_ | refine JE.next ?_)
    refine JC.join (ι := {t : Sl8 // t.ok w ∧ t.l.length ≤ 42}) (fun t => [(0, N gen), (1, N rec), (2, s.v), (7, accV (some q) (bcs L).length), (8, N (k * 42)), (9, t.1.v), (10, .bool (decide (s.l.length - k * 42 ≤ 42)))]) (fun _ => accC 51 64 (some q) (bcs L)) (fun _ => True) ?_ ?_
    · have hd9 : (s.snd (k * 42)).l.length = s.l.length - k * 42 := by show (s.l.drop (k * 42)).length = _; rw [List.length_drop]
      cases h9 : decide (s.l.length - k * 42 ≤ 42)
      · have h10 : 42 ≤ (s.snd (k * 42)).l.length := by have := of_decide_eq_false h9; omega
        refine JC.cond_true rfl rfl ?_
        repeat (first | refine JL.q (by first | (apply OQ.fst (s := s.snd (k * 42)) (m := 42); exact Try.underlying33; exact u8sj; exact rfl; exact rfl; exact h10; exact (hs.snd _ hlo).len) | (apply OQ.move; exact rfl) | (apply OQ.assign; exact rfl)) rfl ?_ | refine JC.region ?_ | refine JL.nil ?_)
        exact JE.mid ⟨(s.snd (k * 42)).fst 42, (hs.snd _ hlo).fst 42, by show ((s.snd (k * 42)).l.take 42).length ≤ 42; rw [List.length_take]; omega⟩ trivial (by repeat (first | exact SubE.nil | refine SubE.cons _ _ _ rfl ?_)) (Less.refl _)
      · refine JC.cond_false rfl rfl ?_
        repeat (refine JC.skip ?_)
        exact JE.mid ⟨s.snd (k * 42), hs.snd _ hlo, by have := of_decide_eq_true h9; omega⟩ trivial (by repeat (first | exact SubE.nil | refine SubE.cons _ _ _ rfl ?_)) (Less.refl _)
    rintro ⟨t, ht, ht42⟩ _
    dsimp only
    generalize decide (s.l.length - k * 42 ≤ 42) = last
    have htc := ht.len
    repeat (first | refine JL.q (by (apply OQ.buildB0)) rfl ?_ | refine JC.seq ?_ | refine JC.region ?_)
    refine JL.alloc dkZ rfl fun b11 _ => ?_
    refine JL.store_all (cs := bc zero) dkB rfl rfl (bc_len rfl) (bc_cell _) .here rfl ?_
    have hq0 : some q = (none : Acc) → (bcs L).length = 0 := nofun
    repeat (first | refine JL.q (by first | (apply OQ.lenV (q := some q) (k := (bcs L).length); exact Try.underlying48; exact hq0; exact rfl) | (apply OQ.move; exact rfl) | (apply OQ.assign; exact rfl)) rfl ?_ | refine JC.seq ?_ | refine JC.region ?_ | refine JL.nil ?_ | refine JE.next ?_)
    refine JC.join (ι := {p : Nat // p ≤ 10000000}) (fun p => [(0, N gen), (1, N rec), (2, s.v), (7, accV (some q) (bcs L).length), (8, N (k * 42)), (9, t.v), (11, Pt b11 0), (12, N p.1)]) (fun _ => ⟨b11, Row 51 (bc zero), true⟩ :: accC 51 64 (some q) (bcs L)) (fun _ => True) ?_ ?_
    · have hkb : (bcs L).length + 32768 ≤ 10000000 := by unfold nb at hk'; omega
      refine JC.cond rfl (fun _ => ?_) (fun _ => ?_)
      · repeat (first | refine JL.q (by first | (apply OQ.addN (a := (bcs L).length) (b := 32768); exact rfl; exact rfl; exact (by omega)) | (apply OQ.move; exact rfl) | (apply OQ.assign; exact rfl)) rfl ?_ | refine JC.region ?_ | refine JL.nil ?_)
        exact JE.mid ⟨(bcs L).length + 32768, hkb⟩ trivial (by repeat (first | exact SubE.nil | refine SubE.cons _ _ _ rfl ?_)) (Less.refl _)
      · repeat (refine JC.skip ?_)
        exact JE.mid ⟨(bcs L).length, by omega⟩ trivial (by repeat (first | exact SubE.nil | refine SubE.cons _ _ _ rfl ?_)) (Less.refl _)
    rintro ⟨p, hp⟩ _
    dsimp only
    repeat (first | refine JL.q (by first | (apply OQ.shrN (a := gen) (m := 16777216) (k := 24); exact (by decide); exact (by decide); exact rfl; exact rfl) | (apply OQ.shrN (a := gen) (m := 65536) (k := 16); exact (by decide); exact (by decide); exact rfl; exact rfl) | (apply OQ.shrN (m := 256) (k := 8); exact (by decide); exact (by decide); exact rfl; exact rfl) | (apply OQ.shrN (a := rec) (m := 16777216) (k := 24); exact (by decide); exact (by decide); exact rfl; exact rfl) | (apply OQ.shrN (a := rec) (m := 65536) (k := 16); exact (by decide); exact (by decide); exact rfl; exact rfl) | (apply OQ.convN_8; exact Try.underlying3; exact Try.underlying5; exact rfl) | (apply OQ.move; exact rfl)) rfl ?_ | refine JC.seq ?_ | refine JC.region ?_)
    refine JL.litL (xs := [.tmp 45, .tmp 48, .tmp 51, .tmp 53, .tmp 56, .tmp 59, .tmp 62, .tmp 64, .tmp 67, .tmp 69]) (vs := ([BitVec.ofNat 8 (gen / 16777216), BitVec.ofNat 8 (gen / 65536), BitVec.ofNat 8 (gen / 256), BitVec.ofNat 8 gen, BitVec.ofNat 8 (rec / 16777216), BitVec.ofNat 8 (rec / 65536), BitVec.ofNat 8 (rec / 256), BitVec.ofNat 8 rec, BitVec.ofNat 8 (p / 256), BitVec.ofNat 8 p] : Bk).map U8) (m := 10) Try.underlying33 u8e rfl rfl rfl (by simp [Value.oneCell']) (by simp [Value.cells]) rfl (by decide) (by decide) rfl fun b13 _ => ?_
    generalize hmm : ([BitVec.ofNat 8 (gen / 16777216), BitVec.ofNat 8 (gen / 65536), BitVec.ofNat 8 (gen / 256), BitVec.ofNat 8 gen, BitVec.ofNat 8 (rec / 16777216), BitVec.ofNat 8 (rec / 65536), BitVec.ofNat 8 (rec / 256), BitVec.ofNat 8 rec, BitVec.ofNat 8 (p / 256), BitVec.ofNat 8 p] : Bk) = mm
    have hm10 : mm.length = 10 := by rw [← hmm]; rfl
    clear hmm
    repeat (first | refine JL.q (by (apply OQ.assign; exact rfl)) rfl ?_ | refine JC.seq ?_ | refine JC.region ?_ | refine JC.block ?_ | refine JL.nil ?_ | refine JE.next ?_)
    refine JC.loop (fun z : Nat × Bk => [(0, N gen), (1, N rec), (2, s.v), (7, accV (some q) (bcs L).length), (8, N (k * 42)), (9, t.v), (11, Pt b11 0), (13, .slice (some ⟨b13, 0, none⟩) 10 10), (14, N z.1)]) (fun z => ⟨b13, Row 5 (mm.map U8), true⟩ :: ⟨b11, Row 51 (bc z.2), true⟩ :: accC 51 64 (some q) (bcs L)) (fun z => 10 - z.1) (fun z => z.1 ≤ 10 ∧ z.2.length = 64) (0, zero) ⟨Nat.zero_le _, rfl⟩ (by repeat (first | exact SubE.nil | refine SubE.cons _ _ _ rfl ?_)) (Less.refl _) ?_
    rintro ⟨i, x⟩ ⟨hi, hx⟩
    dsimp only at hi hx ⊢
    repeat (first | refine JL.q (by first | (apply OQ.move; exact rfl) | (apply OQ.lssN; exact rfl; exact rfl)) rfl ?_ | refine JC.seq ?_ | refine JC.region ?_ | refine JL.nil ?_ | refine JE.next ?_)
    refine JC.cond rfl (fun hc => ?_) (fun hc => ?_)
    · have hi' : i < 10 := by have := of_decide_eq_true hc; omega
      clear hc
      have hcell : (mm.map U8)[i]? = some (U8 (mm.getD i 0)) := map_at U8 0 (by omega)
      generalize mm.getD i 0 = c at hcell
      repeat (first | refine JL.q (by first | (apply OQ.idxS0 (i := i); exact Try.underlying33; exact u8sj; exact rfl; exact rfl; exact hi') | (apply OQ.load; exact u8c; exact rfl; exact .here; exact (Row.cell (v := U8 c) hcell)) | (apply OQ.idxA0 (i := i) (len := 64); exact Try.underlying51; exact u8sj; exact rfl; exact rfl; exact (by omega)) | (apply OQ.move; exact rfl)) rfl ?_ | refine JC.seq ?_ | refine JC.region ?_ | refine JC.block ?_ | refine JC.skip ?_ | refine JE.next ?_)
      refine JL.store_eq (b := b11) (r := bc x) (r' := bc (x.set i c)) u8sj rfl rfl rfl rfl (.there .here) (by rw [bc_len hx]; omega) set_bc ?_
      repeat (first | refine JL.q (by first | (apply OQ.addN (a := 54) (b := i); exact rfl; exact rfl; exact (by omega)) | (apply OQ.idxS0 (i := i); exact Try.underlying33; exact u8sj; exact rfl; exact rfl; exact hi') | (apply OQ.load; exact u8c; exact rfl; exact .here; exact (Row.cell (v := U8 c) hcell)) | (apply OQ.idxA0 (i := 54 + i) (len := 64); exact Try.underlying51; exact u8sj; exact rfl; exact rfl; exact (by omega)) | (apply OQ.move; exact rfl)) rfl ?_ | refine JC.region ?_ | refine JL.nil ?_ | refine JE.next ?_)
      refine JL.store_eq (b := b11) (r := bc (x.set i c)) (r' := bc ((x.set i c).set (54 + i) c)) u8sj rfl rfl rfl rfl (.there .here) (by rw [bc_len (by rw [List.length_set]; exact hx)]; omega) set_bc ?_
      repeat (first | refine JL.q (by first | (apply OQ.move; exact rfl) | (apply OQ.assign; exact rfl) | (apply OQ.addN; exact rfl; exact rfl; exact (by (try simp only []); omega))) rfl ?_ | refine JC.region ?_ | refine JL.nil ?_ | refine JE.next ?_ | refine JE.blk_normal ?_)
      exact JE.again (i := (i, x)) (i + 1, (x.set i c).set (54 + i) c) ⟨hi', by dsimp only; rw [List.length_set, List.length_set]; exact hx⟩ (by dsimp only; omega) (by repeat (first | exact SubE.nil | refine SubE.cons _ _ _ rfl ?_)) (Less.refl _)
    · clear hi hc
      repeat (first | refine JL.q (by first | (apply OQ.len (k := t.l.length) (ad := t.ad) (cap := t.cap); exact Try.underlying33; exact rfl) | (apply OQ.convN_8; exact Try.underlying3; exact Try.underlying5; exact rfl) | (apply OQ.idxA0 (i := 11) (len := 64); exact Try.underlying51; exact u8sj; exact rfl; exact rfl; exact (by decide)) | (apply OQ.move; exact rfl)) rfl ?_ | refine JC.seq ?_ | refine JC.region ?_ | refine JC.exit ?_ | refine JE.next ?_ | refine JE.then_exit ?_ | refine JE.blk_hit ?_)
      refine JL.store_eq (b := b11) (r := bc x) (r' := bc (x.set 11 (BitVec.ofNat 8 t.l.length))) u8sj rfl rfl rfl rfl (.there .here) (by rw [bc_len hx]; decide) set_bc ?_
      have hx1 : (x.set 11 (BitVec.ofNat 8 t.l.length)).length = 64 := by rw [List.length_set]; exact hx
      generalize x.set 11 (BitVec.ofNat 8 t.l.length) = x1 at hx1
      repeat (first | refine JL.q (by (apply OQ.assign; exact rfl)) rfl ?_ | refine JC.seq ?_ | refine JC.region ?_ | refine JC.block ?_ | refine JL.nil ?_ | refine JE.next ?_)
      clear hx x
      refine JC.loop (fun z : Nat × Bk => [(0, N gen), (1, N rec), (2, s.v), (7, accV (some q) (bcs L).length), (8, N (k * 42)), (9, t.v), (11, Pt b11 0), (15, N z.1)]) (fun z => ⟨b11, Row 51 (bc z.2), true⟩ :: accC 51 64 (some q) (bcs L)) (fun z => t.l.length - z.1) (fun z => z.1 ≤ t.l.length ∧ z.2.length = 64) (0, x1) ⟨Nat.zero_le _, hx1⟩ (by repeat (first | exact SubE.nil | refine SubE.cons _ _ _ rfl ?_)) (.drop _ _ _ (Less.refl _)) ?_
      clear hx1 x1
      rintro ⟨i, x⟩ ⟨hi, hx⟩
      dsimp only at hi hx ⊢
      repeat (first | refine JL.q (by first | (apply OQ.len (k := t.l.length) (ad := t.ad) (cap := t.cap); exact Try.underlying33; exact rfl) | (apply OQ.move; exact rfl) | (apply OQ.lssN; exact rfl; exact rfl)) rfl ?_ | refine JC.seq ?_ | refine JC.region ?_ | refine JL.nil ?_ | refine JE.next ?_)
      refine JC.cond rfl (fun hc => ?_) (fun hc => ?_)
      · have hi' : i < t.l.length := by have := of_decide_eq_true hc; omega
        clear hc
        obtain ⟨bt, jt, et, ct⟩ := ht.reads i _ (map_at U8 0 hi')
        have hvt : t.v = .slice (some ⟨bt, jt, none⟩) t.l.length t.cap := by rw [← et]; rfl
        rw [hvt]
        generalize t.l.getD i 0 = c at ct
        repeat (first | refine JL.q (by first | (apply OQ.addN (a := 12) (b := i); exact rfl; exact rfl; exact (by omega)) | (apply OQ.idxS1 (i := i) (b := bt) (j := jt); exact Try.underlying33; exact u8sj; exact rfl; exact rfl; exact hi') | (apply OQ.load_old; exact u8c; exact rfl; exact (block_lt_of_cell ct); exact (by simp); exact ct) | (apply OQ.idxA0 (i := 12 + i) (len := 64); exact Try.underlying51; exact u8sj; exact rfl; exact rfl; exact (by omega)) | (apply OQ.move; exact rfl)) rfl ?_ | refine JC.seq ?_ | refine JC.region ?_ | refine JC.block ?_ | refine JC.skip ?_ | refine JE.next ?_)
        refine JL.store_eq (b := b11) (r := bc x) (r' := bc (x.set (12 + i) c)) u8sj rfl rfl rfl rfl .here (by rw [bc_len hx]; omega) set_bc ?_
        repeat (first | refine JL.q (by first | (apply OQ.move; exact rfl) | (apply OQ.assign; exact rfl) | (apply OQ.addN; exact rfl; exact rfl; exact (by (try simp only []); omega))) rfl ?_ | refine JC.region ?_ | refine JL.nil ?_ | refine JE.next ?_ | refine JE.blk_normal ?_)
        exact JE.again (i := (i, x)) (i + 1, x.set (12 + i) c) ⟨hi', by dsimp only; rw [List.length_set]; exact hx⟩ (by dsimp only; omega) (by repeat (first | exact SubE.nil | refine SubE.cons _ _ _ rfl ?_)) (Less.refl _)
      · repeat (first | refine JL.q (by first | (apply OQ.load_agg (cs := bc x); exact dkAg; exact dkB; exact rfl; exact .here; exact (bc_len hx); exact Row.all) | (apply OQ.move; exact rfl)) rfl ?_ | refine JC.region ?_ | refine JC.exit ?_ | refine JE.next ?_ | refine JE.then_exit ?_ | refine JE.blk_hit ?_)
        refine JL.litA (cs := bc x) Try.underlying48 dkI rfl (by decide) (by decide) rfl (bc_len hx) rfl fun b7 _ => ?_
        refine JL.perm (M' := ⟨b7, Row 51 (bc x), true⟩ :: (accC 51 64 (some q) (bcs L) ++ [⟨b11, Row 51 (bc x), true⟩])) ?_ (by exact List.Perm.cons _ (List.perm_append_singleton _ _).symm)
        refine JL.appendC (c := bc x) (L := bcs L) (some q) Try.underlying48 dkI nofun rfl rfl (bc_len hx) (fun v hv => List.all_eq_true.1 (bc_cell _) v hv) rfl (by decide) (by unfold nb at hk'; omega) (by unfold nb at hk'; omega) rfl fun b' cap' => ?_
        have eL : bcs L ++ [bc x] = bcs (L ++ [x]) := by simp [bcs]
        rw [eL]
        repeat (first | refine JL.q (by first | (apply OQ.addN (a := k * 42) (b := 42); exact rfl; exact rfl; exact (by omega)) | (apply OQ.move; exact rfl) | (apply OQ.assign; exact rfl)) rfl ?_ | refine JC.region ?_ | refine JL.nil ?_ | refine JE.next ?_ | refine JE.blk_normal ?_)
        exact JE.again (i := (k, q, L)) (k + 1, (b', cap'), L ++ [x]) ⟨hk', by dsimp only; rw [List.length_append, List.length_singleton, hL]⟩ (by dsimp only; omega) (by rw [show (k + 1) * 42 = k * 42 + 42 by omega]; exact (by repeat (first | exact SubE.nil | refine SubE.cons _ _ _ rfl ?_))) (less_pre _ _)
theorem goes_room : Goes Try.prog 12 := ⟨_, Try.func12, rfl, by kernel_rfl⟩
set_option maxHeartbeats 16000000 in
theorem room_any (s : SlL) (w : World) (hs : s.ok w) (hn : s.rs.length ≤ 1000) (hl : ∀ y ∈ s.rs, y.l.length ≤ 2000000) : Calls Try.prog 12 [s.v].toArray w fun e w' => e = .returned (N (room (s.rs.map Sl8.l))) ∧ Ext w w' := by
  refine enter (n := 20) Try.func12 rfl rfl rfl (Holds.start w []) ?_
  repeat (first | refine JL.q (by (apply OQ.assign; exact rfl)) rfl ?_ | refine JC.seq ?_ | refine JC.region ?_ | refine JC.block ?_ | refine JL.nil ?_ | refine JE.next ?_)
  refine JC.loop (fun i : Nat => [(0, s.v), (3, N (room ((s.rs.map Sl8.l).take i))), (4, N i)]) (fun _ => []) (fun i => s.rs.length - i) (fun i => i ≤ s.rs.length ∧ room ((s.rs.map Sl8.l).take i) ≤ i * 2000000) 0 ⟨Nat.zero_le _, by rw [List.take_zero]; exact Nat.zero_le _⟩ (by repeat (first | exact SubE.nil | refine SubE.cons _ _ _ rfl ?_)) (Less.refl _) ?_
  rintro i ⟨hi, hr⟩
  repeat (first | refine JL.q (by first | (apply OQ.len (k := s.rs.length) (ad := s.ad) (cap := s.cap); exact Try.underlying34; exact rfl) | (apply OQ.move; exact rfl) | (apply OQ.lssN; exact rfl; exact rfl)) rfl ?_ | refine JC.seq ?_ | refine JC.region ?_ | refine JL.nil ?_ | refine JE.next ?_)
  refine JC.cond rfl (fun hc => ?_) (fun hc => ?_)
  · have hi' : i < s.rs.length := by have := of_decide_eq_true hc; omega
    clear hc
    obtain ⟨b, j, e, lb, c⟩ := slLj_at hs (by omega)
    have ci := c i hi'
    have oki := hs.all _ (getD_mem' hi')
    have hli := hl _ (getD_mem' hi')
    have eqi : (s.rs.map Sl8.l).take (i + 1) = (s.rs.map Sl8.l).take i ++ [(s.rs.getD i nilS).l] := by
      rw [List.take_add_one]; simp [List.getD_eq_getElem?_getD, hi']
    generalize s.rs.getD i nilS = y at ci oki hli eqi
    have hv : s.v = .slice (some ⟨b, j, none⟩) s.rs.length s.cap := by rw [← e]; rfl
    rw [hv]
    have hr1 : room ((s.rs.map Sl8.l).take (i + 1)) = room ((s.rs.map Sl8.l).take i) + nb y.l.length := by rw [eqi, room_append]; simp [room]
    have hnb : nb y.l.length ≤ 2000000 := by unfold nb; omega
    generalize room ((s.rs.map Sl8.l).take i) = r0 at hr hr1 ⊢
    repeat (first | refine JL.q (by first | (apply OQ.idxS1 (i := i) (b := b) (j := j); exact Try.underlying34; exact sleJ; exact rfl; exact rfl; exact hi') | (apply OQ.load_old; exact slCj; exact rfl; exact lb; exact (by simp); exact ci) | (apply OQ.move; exact rfl)) rfl ?_ | refine JC.seq ?_ | refine JC.region ?_ | refine JC.block ?_ | refine JC.skip ?_ | refine JE.next ?_)
    refine JL.callg (ι := {z : (Nat × Nat) × List Bk // z.2.length = nb y.l.length}) (vs := [N 1, N 0, y.v]) (fun z => accV (some z.1.1) (bcs z.1.2).length) (fun z => accC 51 64 (some z.1.1) (bcs z.1.2)) goes_rblocks rfl rfl (fun _ => accC_wr _ _ _ _) (fun w' hw' => rblen_any 1 0 y w' (oki.holds hw' rfl) hli) fun z => ?_
    obtain ⟨⟨zq, zl⟩, hz⟩ := z
    have hz' : (bcs zl).length = nb y.l.length := by rw [bcs_n]; exact hz
    dsimp only
    rw [hz']
    have hq0 : some zq = (none : Acc) → nb y.l.length = 0 := nofun
    repeat (first | refine JL.q (by first | (apply OQ.lenV (q := some zq) (k := nb y.l.length); exact Try.underlying48; exact hq0; exact rfl) | (apply OQ.addN (a := r0) (b := nb y.l.length); exact rfl; exact rfl; exact (by omega)) | (apply OQ.move; exact rfl) | (apply OQ.assign; exact rfl) | (apply OQ.addN; exact rfl; exact rfl; exact (by (try simp only []); omega))) rfl ?_ | refine JC.region ?_ | refine JL.nil ?_ | refine JE.next ?_ | refine JE.blk_normal ?_)
    exact JE.again (i := i) (i + 1) ⟨hi', by rw [hr1]; omega⟩ (by omega) (by rw [hr1]; exact (by repeat (first | exact SubE.nil | refine SubE.cons _ _ _ rfl ?_))) (.nil _)
  · have hi' : i = s.rs.length := by have := of_decide_eq_false hc; omega
    rw [hi', List.take_of_length_le (by rw [List.length_map]; exact Nat.le_refl _)]
    repeat (first | refine JL.q (by first | (apply OQ.move; exact rfl) | (apply OQ.assign; exact rfl)) rfl ?_ | refine JC.seq ?_ | refine JC.region ?_ | refine JC.exit ?_ | refine JL.nil ?_ | refine JE.next ?_ | refine JE.then_exit ?_ | refine JE.blk_hit ?_)
    refine JC.ret ?_
    skip
    exact JE.ret1 rfl (RV.tmp rfl) fun w' hw => ⟨rfl, hw.chg⟩
end Go.Proofs.Ytjkncnbpaejamaa

/-
  Of no statement by itself: the reference's Encode (layer 16).
  Conditions: each theorem's own.
-/
namespace Go.Proofs.Ytjkncnbpaejamaa
set_option maxRecDepth 10000
open Sl Dsk Jrn Sto
theorem be4_16 {m : Nat} (hm : m < 4294967296) : be (BitVec.ofNat 32 m) 4 = [BitVec.ofNat 8 (m / 16777216), BitVec.ofNat 8 (m / 65536), BitVec.ofNat 8 (m / 256), BitVec.ofNat 8 m] := by
  have e : be (BitVec.ofNat 32 m) 4 = [((BitVec.ofNat 32 m) >>> 24).setWidth 8, ((BitVec.ofNat 32 m) >>> 16).setWidth 8, ((BitVec.ofNat 32 m) >>> 8).setWidth 8, ((BitVec.ofNat 32 m) >>> 0).setWidth 8] := rfl
  rw [e]
  congr 1
  · apply BitVec.eq_of_toNat_eq; simp only [BitVec.toNat_setWidth, BitVec.toNat_ushiftRight, BitVec.toNat_ofNat, Nat.shiftRight_eq_div_pow]; omega
  congr 1
  · apply BitVec.eq_of_toNat_eq; simp only [BitVec.toNat_setWidth, BitVec.toNat_ushiftRight, BitVec.toNat_ofNat, Nat.shiftRight_eq_div_pow]; omega
  congr 1
  · apply BitVec.eq_of_toNat_eq; simp only [BitVec.toNat_setWidth, BitVec.toNat_ushiftRight, BitVec.toNat_ofNat, Nat.shiftRight_eq_div_pow]; omega
  congr 1
  · apply BitVec.eq_of_toNat_eq; simp only [BitVec.toNat_setWidth, BitVec.toNat_ushiftRight, BitVec.toNat_ofNat, Nat.shiftRight_eq_div_pow]; omega
theorem be2_16 {m : Nat} (hm : m < 65536) : be (BitVec.ofNat 32 m) 2 = [BitVec.ofNat 8 (m / 256), BitVec.ofNat 8 m] := by
  have e : be (BitVec.ofNat 32 m) 2 = [((BitVec.ofNat 32 m) >>> 8).setWidth 8, ((BitVec.ofNat 32 m) >>> 0).setWidth 8] := rfl
  rw [e]
  congr 1
  · apply BitVec.eq_of_toNat_eq; simp only [BitVec.toNat_setWidth, BitVec.toNat_ushiftRight, BitVec.toNat_ofNat, Nat.shiftRight_eq_div_pow]; omega
  congr 1
  · apply BitVec.eq_of_toNat_eq; simp only [BitVec.toNat_setWidth, BitVec.toNat_ushiftRight, BitVec.toNat_ofNat, Nat.shiftRight_eq_div_pow]; omega
section
variable {n : Nat} {w0 : World} {S : List Nat} {ops : Array Oper} {Q : Exit → Act → World → Prop} {l : List Oper} {E : Env} {R : List Ent}
variable {d : Nat} {ty : TypeId} {pos : String} {aft : Array Edge} {x y : Operand}
/-- append of a row of one's own -/
theorem JL.appRow {q : Nat × Nat} {ys cs : Bk} {bl m : Nat} (hm : cs.length = m) (h0 : 0 < m) (hl : ys.length + m ≤ 70000000000000) (hx : ev E x = some (accV (some q) ys.length)) (hy : ev E y = some (.slice (some ⟨bl, 0, none⟩) m m)) (hd : Nat.blt d n = true)
    (kk : ∀ r : Nat × Nat, JL Try.prog n w0 S ops Q l ((d, accV (some r) (ys ++ cs).length) :: E) (accE 5 (some r) ((ys ++ cs).map U8) ++ R)) : JL Try.prog n w0 S ops Q (⟨some d, .call ⟨.builtin .append, #[x, y], #[33, 33]⟩, ty, pos, aft, none⟩ :: l) E (⟨bl, Row 5 (cs.map U8), true⟩ :: (accE 5 (some q) (ys.map U8) ++ R)) := by
  refine JL.perm (M' := accE 5 (some q) (ys.map U8) ++ (⟨bl, Row 5 (cs.map U8), true⟩ :: R)) ?_ List.perm_middle.symm
  refine JL.appendQ (xs := ys.map U8) (cs := cs.map U8) (m := m) (ad := some ⟨bl, 0, none⟩) (sc := m) (some q) Try.underlying33 u8e nofun (by rw [List.length_map]; exact hx) hy (by rw [List.length_map]; exact hm) (fun w' hw' => ?_) (all8U _) rfl (by rw [List.length_map]; omega) (by rw [List.length_map]; omega) hd fun q1 hq1 => ?_
  · obtain ⟨o, ho, hA⟩ := hw'.get (b := bl) (A := Row 5 (cs.map U8)) (wr := true) (hasR .here)
    exact Reads.block ho (Row.all o hA)
  cases q1 with
  | none =>
    have := congrArg List.length (List.append_eq_nil_iff.1 (hq1 rfl)).2
    rw [List.length_map, hm, List.length_nil] at this
    omega
  | some r =>
    rw [← List.map_append, List.length_map]
    exact JL.less (less_app2 (.drop _ _ _ (Less.refl _)) _) (kk r)
end
theorem goes_rEnc : Goes Try.prog 10 := ⟨_, Try.func10, rfl, by kernel_rfl⟩
set_option maxHeartbeats 32000000 in
theorem rEnc_any (s : SlP) (w : World) (hs : s.ok w) (hn : s.l.length ≤ 1000000) (hv : ∀ p ∈ s.l, p.s.l.length ≤ 4000000) :
    Calls Try.prog 10 [s.v].toArray w fun e w' => ∃ q : {q : Acc // q = none → (if okL s.ps then encL s.ps else []) = []}, e = .returned (.tuple #[accV q.1 (if okL s.ps then encL s.ps else []).length, N (if okL s.ps then 0 else 1)]) ∧ Holds w [] (accE 5 q.1 ((if okL s.ps then encL s.ps else []).map U8)) w' := by
  refine enter (n := 68) Try.func10 rfl rfl rfl (Holds.start w []) ?_
  repeat (first | refine JL.q (by (apply OQ.assign; exact rfl)) rfl ?_ | refine JC.seq ?_ | refine JC.region ?_ | refine JL.nil ?_ | refine JE.next ?_)
  refine JL.lit0O Try.underlying33 u8e rfl fun b0 _ => ?_
  repeat (first | refine JL.q (by (apply OQ.assign; exact rfl)) rfl ?_ | refine JC.seq ?_ | refine JC.region ?_ | refine JC.block ?_ | refine JL.nil ?_ | refine JE.next ?_)
  refine JC.loop (fun z : Nat × (Nat × Nat) => [(0, s.v), (4, accV (some z.2) (encL (s.ps.take z.1)).length), (5, N z.1)]) (fun z => accE 5 (some z.2) ((encL (s.ps.take z.1)).map U8)) (fun z => s.l.length - z.1) (fun z => z.1 ≤ s.l.length ∧ okL (s.ps.take z.1) = true) (0, (b0, 0)) ⟨Nat.zero_le _, rfl⟩ (by repeat (first | exact SubE.nil | refine SubE.cons _ _ _ rfl ?_)) (Less.refl _) ?_
  rintro ⟨i, q⟩ ⟨hi, hok⟩
  dsimp only at hi hok ⊢
  repeat (first | refine JL.q (by first | (apply OQ.len (k := s.l.length) (ad := s.ad) (cap := s.cap); exact Try.underlying32; exact rfl) | (apply OQ.move; exact rfl) | (apply OQ.lssN; exact rfl; exact rfl)) rfl ?_ | refine JC.seq ?_ | refine JC.region ?_ | refine JL.nil ?_ | refine JE.next ?_)
  refine JC.cond rfl (fun hc => ?_) (fun hc => ?_)
  · have hi' : i < s.l.length := Nat.lt_of_not_le fun h => by have := of_decide_eq_true hc; omega
    clear hc
    obtain ⟨b, j, e, lb, c⟩ := hs.at hi'
    have hm := SlP.get_mem hi'
    have ht := SlP.take1 hi'
    generalize s.l.getD i noP = p at c hm ht
    have hsv : s.v = .slice (some ⟨b, j, none⟩) s.l.length s.cap := by rw [← e]; rfl
    rw [hsv]
    repeat (first | refine JL.q (by first | (apply OQ.idxS (i := i); exact Try.underlying32; exact pr3; exact rfl; exact rfl; exact hi') | (apply OQ.load_agg_old (cs := p.cs); exact prAg; exact rfl; exact pr3; exact lb; exact (by simp); exact c) | (apply OQ.move; exact rfl)) rfl ?_ | refine JC.seq ?_ | refine JC.region ?_ | refine JC.block ?_ | refine JC.skip ?_ | refine JE.next ?_)
    rw [← hsv]
    refine JL.alloc prZ rfl fun b6 _ => ?_
    refine JL.store_all (cs := p.cs) pr3 rfl rfl rfl p.one .here rfl ?_
    have cM := fun (w' : World) => rRight_any p w'
    cases g1 : okP p.p
    case false =>
      have ho : okL s.ps = false := okL_take ht g1
      rw [ho]
      rw [g1] at cM
      repeat (first | refine JL.q (by first | (apply OQ.load_agg (cs := p.cs); exact prAg; exact pr3; exact rfl; exact .here; exact rfl; exact Row.all) | (apply OQ.callx (vs := [.agg p.cs.toArray]); exact goes_rRight; exact rfl; exact (fun w' _ => cM w')) | (apply OQ.not; exact rfl)) rfl ?_ | refine JC.seq ?_ | refine JC.region ?_ | refine JL.nil ?_ | refine JE.next ?_)
      refine JC.cond_true rfl rfl ?_
      repeat (first | refine JL.q (by (apply OQ.assign; exact rfl)) rfl ?_ | refine JC.seq ?_ | refine JC.region ?_ | refine JL.nil ?_ | refine JE.next ?_)
      refine JC.ret ?_
      repeat (first | refine JE.then_ret ?_ | refine JE.blk_ret ?_)
      exact JE.ret2 rfl (RV.tmp rfl) (RV.tmp rfl) fun w' hw => ⟨⟨none, fun _ => rfl⟩, rfl, hw.weak (.nil _)⟩
    case true =>
      rw [g1] at cM
      have hkl := okP_len g1
      have hvl := hv p hm
      have hle := encL_le (l := s.ps.take i) (fun p hp => by
        unfold okL at hok
        have h1 := okP_len (List.all_eq_true.1 hok p hp)
        obtain ⟨x, hx, rfl⟩ := List.mem_map.1 (List.mem_of_mem_take hp)
        exact ⟨h1.2.1, hv x hx⟩)
      have hll : (s.ps.take i).length ≤ 1000000 := by rw [List.length_take]; omega
      have hpl : p.s.l.length ≤ 4000000 := hvl
      have hnx : encL (s.ps.take (i + 1)) = encL (s.ps.take i) ++ encP p.p := by rw [ht, encL_snoc]
      have hox : okL (s.ps.take (i + 1)) = true := by
        rw [ht]
        unfold okL at hok ⊢
        rw [List.all_append, hok]
        simp [g1]
      generalize encL (s.ps.take i) = xs at hle hnx ⊢
      have okp := hs.all p hm
      repeat (first | refine JL.q (by first | (apply OQ.load_agg (cs := p.cs); exact prAg; exact pr3; exact rfl; exact .here; exact rfl; exact Row.all) | (apply OQ.callx (vs := [.agg p.cs.toArray]); exact goes_rRight; exact rfl; exact (fun w' _ => cM w')) | (apply OQ.not; exact rfl)) rfl ?_ | refine JC.seq ?_ | refine JC.region ?_ | refine JL.nil ?_ | refine JE.next ?_)
      refine JC.cond_false rfl rfl ?_
      obtain ⟨key, sl, gone⟩ := p
      dsimp only at hkl hpl okp
      repeat (first | refine JL.q (by first | (apply OQ.load; exact boolC; exact rfl; exact .here; exact (Row.cell (v := .bool gone) rfl)) | (apply OQ.fld; exact rfl; exact rfl; exact rfl; exact (by decide); exact rfl)) rfl ?_ | refine JC.seq ?_ | refine JC.region ?_ | refine JC.skip ?_ | refine JL.nil ?_ | refine JE.next ?_)
      refine JC.join (ι := Nat × Nat) (fun r => [(0, s.v), (4, accV (some r) (xs ++ [if gone then 1#8 else 0#8]).length), (5, N i), (6, Pt b6 0)]) (fun r => accE 5 (some r) ((xs ++ [if gone then 1#8 else 0#8]).map U8) ++ [⟨b6, Row 44 [Z key, sl.v, .bool gone], true⟩]) (fun _ => True) ?_ fun r _ => ?_
      · refine JC.cond rfl (fun hc => ?_) (fun hc => ?_)
        · subst hc
          repeat (first | refine JL.q (by (apply OQ.move; exact rfl)) rfl ?_ | refine JC.region ?_)
          refine JL.lit1 (v := U8 1#8) Try.underlying33 u8e rfl rfl rfl rfl fun bl _ => ?_
          refine JL.perm (M' := ⟨bl, Row 5 (([1#8] : Bk).map U8), true⟩ :: (accE 5 (some q) (xs.map U8) ++ [⟨b6, Row 44 [Z key, sl.v, .bool true], true⟩])) ?_ (List.Perm.cons _ (List.perm_append_comm (l₁ := [_])))
          refine JL.appRow (cs := [1#8]) (m := 1) rfl (by decide) (by omega) rfl rfl rfl fun r => ?_
          repeat (first | refine JL.q (by (apply OQ.assign; exact rfl)) rfl ?_ | refine JL.nil ?_)
          exact JE.mid r trivial (by repeat (first | exact SubE.nil | refine SubE.cons _ _ _ rfl ?_)) (Less.refl _)
        · subst hc
          repeat (first | refine JL.q (by (apply OQ.move; exact rfl)) rfl ?_ | refine JC.region ?_)
          refine JL.lit1 (v := U8 0#8) Try.underlying33 u8e rfl rfl rfl rfl fun bl _ => ?_
          refine JL.perm (M' := ⟨bl, Row 5 (([0#8] : Bk).map U8), true⟩ :: (accE 5 (some q) (xs.map U8) ++ [⟨b6, Row 44 [Z key, sl.v, .bool false], true⟩])) ?_ (List.Perm.cons _ (List.perm_append_comm (l₁ := [_])))
          refine JL.appRow (cs := [0#8]) (m := 1) rfl (by decide) (by omega) rfl rfl rfl fun r => ?_
          repeat (first | refine JL.q (by (apply OQ.assign; exact rfl)) rfl ?_ | refine JL.nil ?_)
          exact JE.mid r trivial (by repeat (first | exact SubE.nil | refine SubE.cons _ _ _ rfl ?_)) (Less.refl _)
      have he : xs ++ encP (PqS.p ⟨key, sl, gone⟩) = xs ++ [if gone then 1#8 else 0#8] ++ be (BitVec.ofNat 32 key.length) 2 ++ key ++ be (BitVec.ofNat 32 sl.l.length) 4 ++ sl.l := by
        unfold encP PqS.p
        simp [List.append_assoc]
      rw [he] at hnx
      have l1 : (xs ++ [if gone then 1#8 else 0#8]).length = xs.length + 1 := by simp
      generalize xs ++ [if gone = true then 1#8 else 0#8] = y1 at l1 hnx ⊢
      have hkn : key.length ≤ 1000 := hkl.2.1
      have hk1 : 1 ≤ key.length := hkl.1
      repeat (first | refine JL.q (by first | (apply OQ.load; exact strC; exact rfl; exact (hasR (N := accE 5 (some r) (y1.map U8)) .here); exact (Row.cell (v := Z key) rfl)) | (apply OQ.lenS; exact Try.underlying9; exact rfl) | (apply OQ.shrN (m := 256) (k := 8); exact (by decide); exact (by decide); exact rfl; exact rfl) | (apply OQ.convN_8; exact Try.underlying3; exact Try.underlying5; exact rfl) | (apply OQ.move; exact rfl) | (apply OQ.fld; exact rfl; exact rfl; exact rfl; exact (by decide); exact rfl)) rfl ?_ | refine JC.seq ?_ | refine JC.region ?_)
      refine JL.litL (xs := [.tmp 35, .tmp 39]) (vs := ([BitVec.ofNat 8 (key.length / 256), BitVec.ofNat 8 key.length] : Bk).map U8) (m := 2) Try.underlying33 u8e rfl rfl rfl (by simp [Value.oneCell']) (by simp [Value.cells]) rfl (by decide) (by decide) rfl fun b2 _ => ?_
      refine JL.appRow (cs := [BitVec.ofNat 8 (key.length / 256), BitVec.ofNat 8 key.length]) (m := 2) rfl (by decide) (by omega) rfl rfl rfl fun r2 => ?_
      rw [← be2_16 (m := key.length) (by omega)]
      have l2 : (y1 ++ be (BitVec.ofNat 32 key.length) 2).length = xs.length + 3 := by rw [List.length_append, be_len, l1]
      generalize y1 ++ be (BitVec.ofNat 32 key.length) 2 = y2 at l2 hnx ⊢
      repeat (first | refine JL.q (by first | (apply OQ.load; exact strC; exact rfl; exact (hasR (N := accE 5 (some r2) (y2.map U8)) .here); exact (Row.cell (v := Z key) rfl)) | (apply OQ.move; exact rfl) | (apply OQ.assign; exact rfl) | (apply OQ.fld; exact rfl; exact rfl; exact rfl; exact (by decide); exact rfl)) rfl ?_ | refine JC.seq ?_ | refine JC.region ?_ | refine JL.nil ?_ | refine JE.next ?_)
      refine JL.appendZ (r := key) (xs := y2.map U8) (some r2) Try.underlying33 Try.underlying9 u8e nofun (by rw [List.length_map]; rfl) rfl (fun e => by rw [e] at hk1; simp at hk1) (by rw [List.length_map]; omega) rfl fun r3 => ?_
      rw [← List.map_append, List.length_map]
      have l3 : (y2 ++ key).length = xs.length + 3 + key.length := by rw [List.length_append, l2]
      generalize y2 ++ key = y3 at l3 hnx ⊢
      repeat (first | refine JL.q (by first | (apply OQ.load; exact slCj; exact rfl; exact (hasR (N := accE 5 (some r3) (y3.map U8)) .here); exact (Row.cell (v := sl.v) rfl)) | (apply OQ.len (k := sl.l.length) (ad := sl.ad) (cap := sl.cap); exact Try.underlying33; exact rfl) | (apply OQ.shrN (a := sl.l.length) (m := 16777216) (k := 24); exact (by decide); exact (by decide); exact rfl; exact rfl) | (apply OQ.shrN (a := sl.l.length) (m := 65536) (k := 16); exact (by decide); exact (by decide); exact rfl; exact rfl) | (apply OQ.shrN (m := 256) (k := 8); exact (by decide); exact (by decide); exact rfl; exact rfl) | (apply OQ.convN_8; exact Try.underlying3; exact Try.underlying5; exact rfl) | (apply OQ.move; exact rfl) | (apply OQ.assign; exact rfl) | (apply OQ.fld; exact rfl; exact rfl; exact rfl; exact (by decide); exact rfl)) rfl ?_ | refine JC.seq ?_ | refine JC.region ?_ | refine JL.nil ?_ | refine JE.next ?_)
      refine JL.litL (xs := [.tmp 52, .tmp 55, .tmp 58, .tmp 60]) (vs := ([BitVec.ofNat 8 (sl.l.length / 16777216), BitVec.ofNat 8 (sl.l.length / 65536), BitVec.ofNat 8 (sl.l.length / 256), BitVec.ofNat 8 sl.l.length] : Bk).map U8) (m := 4) Try.underlying33 u8e rfl rfl rfl (by simp [Value.oneCell']) (by simp [Value.cells]) rfl (by decide) (by decide) rfl fun b4 _ => ?_
      refine JL.appRow (cs := [BitVec.ofNat 8 (sl.l.length / 16777216), BitVec.ofNat 8 (sl.l.length / 65536), BitVec.ofNat 8 (sl.l.length / 256), BitVec.ofNat 8 sl.l.length]) (m := 4) rfl (by decide) (by omega) rfl rfl rfl fun r4 => ?_
      rw [← be4_16 (m := sl.l.length) (by omega)]
      have l4 : (y3 ++ be (BitVec.ofNat 32 sl.l.length) 4).length = xs.length + 7 + key.length := by rw [List.length_append, be_len, l3]; omega
      generalize y3 ++ be (BitVec.ofNat 32 sl.l.length) 4 = y4 at l4 hnx ⊢
      repeat (first | refine JL.q (by first | (apply OQ.load; exact slCj; exact rfl; exact (hasR (N := accE 5 (some r4) (y4.map U8)) .here); exact (Row.cell (v := sl.v) rfl)) | (apply OQ.move; exact rfl) | (apply OQ.assign; exact rfl) | (apply OQ.fld; exact rfl; exact rfl; exact rfl; exact (by decide); exact rfl)) rfl ?_ | refine JC.region ?_ | refine JL.nil ?_ | refine JE.next ?_)
      refine JL.appendQ (xs := y4.map U8) (cs := sl.l.map U8) (m := sl.l.length) (ad := sl.ad) (sc := sl.cap) (some r4) Try.underlying33 u8e nofun (by rw [List.length_map]; rfl) rfl (by simp) (fun w' hw' => (okp.holds hw' rfl).reads) (all8U _) rfl (by rw [List.length_map]; omega) (by rw [List.length_map]; omega) rfl fun q5 hq5 => ?_
      cases q5 with
      | none =>
        have := congrArg List.length (List.append_eq_nil_iff.1 (hq5 rfl)).1
        rw [List.length_map, List.length_nil] at this
        omega
      | some r5 =>
      clear hq5
      rw [← List.map_append, List.length_map, ← hnx]
      repeat (first | refine JL.q (by first | (apply OQ.move; exact rfl) | (apply OQ.assign; exact rfl) | (apply OQ.addN; exact rfl; exact rfl; exact (by (try simp only []); omega))) rfl ?_ | refine JC.region ?_ | refine JL.nil ?_ | refine JE.next ?_ | refine JE.blk_normal ?_)
      exact JE.again (i := (i, q)) (i + 1, r5) ⟨hi', hox⟩ (by dsimp only; omega) (by repeat (first | exact SubE.nil | refine SubE.cons _ _ _ rfl ?_)) (less_pre _ _)
  · have hi' : i = s.l.length := by have := of_decide_eq_false hc; omega
    have hf : s.ps.take i = s.ps := List.take_of_length_le (by unfold SlP.ps; rw [List.length_map]; omega)
    rw [hf] at hok ⊢
    rw [hok]
    repeat (first | refine JL.q (by first | (apply OQ.move; exact rfl) | (apply OQ.assign; exact rfl)) rfl ?_ | refine JC.seq ?_ | refine JC.region ?_ | refine JC.exit ?_ | refine JL.nil ?_ | refine JE.next ?_ | refine JE.then_exit ?_ | refine JE.blk_hit ?_)
    exact JC.ret (JE.ret2 rfl (RV.tmp rfl) (RV.tmp rfl) fun w' hw => ⟨⟨some q, nofun⟩, rfl, hw⟩)
end Go.Proofs.Ytjkncnbpaejamaa
