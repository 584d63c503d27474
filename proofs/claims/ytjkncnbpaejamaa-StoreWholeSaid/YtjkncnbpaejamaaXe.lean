/-
  Of no statement by itself: the texts StoAb, StoAc, StoAe, StoAa, StoAd, StoK, Plain, Elm, StoT, StoU, StoV, StoX, StoAg, JrnY, JrnZ, JrnHa, JrnHb, JrnHc, JrnHd, TorC in one.
  Conditions: each theorem's own.
-/
import Derived.Test.YtjkncnbpaejamaaXd
import Derived.Test.YtjkncnbpaejamaaProg
import Derived.Test.YtjkncnbpaejamaaRows
import Derived.ProofKit
import Derived.OpenShut
import Derived.Below
import Derived.Stop.Joined
import Derived.ChangeMaps5
import Derived.Deep.Slices
import Derived.Deep.SlicePairs
set_option linter.unusedSimpArgs false
set_option linter.unusedVariables false
/-
  Of no statement by itself: the reference's Do (layer 16): what it walks, and rules for it.
  Conditions: each theorem's own.
-/
namespace Go.Proofs.Ytjkncnbpaejamaa
set_option maxRecDepth 10000
open Sl Dsk Jrn Sto
section
variable {P : Program} {n : Nat} {w0 : World} {S : List Nat} {ops : Array Oper} {Q : Exit → Act → World → Prop} {l : List Oper} {E : Env} {M : List Ent}
variable {d : Nat} {dst : Option Tmp} {t e ty : TypeId} {pos : String} {aft : Array Edge} {g : Option (Nat × Bool)} {x y : Operand} {v : Value} {b j : Nat} {cs : List Value} {z : Value} {by' sz : Nat}
/-- a cell that all worlds of the class hold -/
theorem OQ.loadW (hs : scal P t = true) (hx : ev E x = some (.pointer (some ⟨b, j, none⟩))) (hc : ∀ w, Holds w0 S M w → w.cell? ⟨b, j, none⟩ = some v) : OQ P n E (Holds w0 S M) ⟨dst, .load t x, ty, pos, aft, g⟩ v :=
  OQ.load_at (fun w hw => loadVar_scal hs (hc w hw)) hx
theorem OQ.loadW_agg (ha : aggT P t = true) (hx : ev E x = some (.pointer (some ⟨b, j, none⟩))) (hz : szT P t = some cs.length) (hc : ∀ w, Holds w0 S M w → ∀ i u, cs[i]? = some u → w.cell? ⟨b, j + i, none⟩ = some u) : OQ P n E (Holds w0 S M) ⟨dst, .load t x, ty, pos, aft, g⟩ (.agg cs.toArray) :=
  OQ.load_at (fun w hw => loadVar_agg ha hz (hc w hw)) hx
/-- append of many elements of many cells -/
theorem JL.appendCs {ad : Option Addr} {sc m : Nat} {L L2 : List (List Value)} {q : Nat × Nat} {M0 : List Ent} (hu : P.underlying t = some (.slice e)) (hi : EI P e z sz by') (hx : ev E x = some (accV (some q) L.length)) (hy : ev E y = some (.slice ad m sc))
    (hl2 : L2.length = m) (hcl : ∀ c ∈ L2, c.length = sz) (hr : ∀ w, Holds w0 S (accC e sz (some q) L ++ M0) w → Reads w ad L2.flatten) (h1 : ∀ v ∈ L2.flatten, v.oneCell' = true) (hzz : z.cells.size = sz) (h0 : 0 < sz) (hsm : (L.length + m) * by' ≤ 140737488355328) (hsm2 : L.length + m < 9223372036854775808) (hd : Nat.blt d n = true)
    (kk : ∀ r : Nat × Nat, JL P n w0 S ops Q l ((d, accV (some r) (L ++ L2).length) :: E) (accC e sz (some r) (L ++ L2) ++ M0)) :
    JL P n w0 S ops Q (⟨some d, .call ⟨.builtin .append, #[x, y], #[t, t]⟩, ty, pos, aft, none⟩ :: l) E (accC e sz (some q) L ++ M0) := by
  have eN : (L ++ L2).length = L.length + m := by rw [List.length_append, hl2]
  have eF : (L ++ L2).flatten = L.flatten ++ L2.flatten := List.flatten_append
  refine JL.append (b := q.1) (cap := q.2) (k := L.length) (xs := L.flatten) (ad := ad) (m := m) (sc := sc) (cs := L2.flatten) (fun b' cap' => accC e sz (some (b', cap')) (L ++ L2) ++ M0) hu hi hx hy (fun b' cap' => ?_) (by rw [chunk_len hcl, hl2]) hr h1 hzz h0 hsm hsm2 hd fun b' cap' => ?_
  · show Repl (⟨q.1, Sl.Own e sz L.length q.2 L.flatten, true⟩ :: M0) q.1 _ b' _ (⟨b', Sl.Own e sz (L ++ L2).length cap' (L ++ L2).flatten, true⟩ :: M0)
    rw [eN, eF]
    exact .here
  · have := kk (b', cap')
    rwa [show accV (some (b', cap')) (L ++ L2).length = .slice (some ⟨b', 0, none⟩) (L.length + m) cap' by rw [eN]; rfl] at this
end
/-- the values as Do has them: what was handed in, or a slice of its own -/
structure Cu where
  q : Acc
  ps : List PqS
def Cu.s (z : Cu) (a : SlP) : SlP := match z.q with
  | none => a
  | some p => ⟨some ⟨p.1, 0, none⟩, p.2, z.ps⟩
def Cu.E (z : Cu) : List Ent := match z.q with
  | none => []
  | some p => accC 44 3 (some p) (z.ps.map PqS.cs)
structure Cu.okw (z : Cu) (a : SlP) (w : World) : Prop where
  a0 : z.q = none → z.ps = a.l
  all : ∀ p ∈ z.ps, p.s.ok w
theorem Cu.l {z : Cu} {a : SlP} (h : z.q = none → z.ps = a.l) : (z.s a).l = z.ps := by
  obtain ⟨q, ps⟩ := z
  cases q with
  | none => exact (h rfl).symm
  | some p => rfl
theorem Cu.ok {z : Cu} {a : SlP} {w w' : World} {A M : List Ent} (k : z.okw a w) (ha : a.ok w) (hw : Holds w [] (A ++ (z.E ++ M)) w') : (z.s a).ok w' := by
  obtain ⟨q, ps⟩ := z
  cases q with
  | none => exact ha.holds hw rfl
  | some p => exact gpS_ok (q := some p) (l := ps) (M := M) nofun (hw.weak (less_app A (Less.refl _))) fun y hy => (k.all y hy).holds hw rfl
/-- where the values stand, whatever world of the class it is -/
theorem Cu.at {z : Cu} {a : SlP} {w : World} {i : Nat} (k : z.okw a w) (ha : a.ok w) (hi : i < z.ps.length) : ∃ b j, (z.s a).ad = some ⟨b, j, none⟩ ∧ ∀ (A M : List Ent) (w' : World), Holds w [] (A ++ (z.E ++ M)) w' → ∀ m u, ((z.ps.getD i noP).cs)[m]? = some u → w'.cell? ⟨b, j + i * 3 + m, none⟩ = some u := by
  have hl := Cu.l k.a0
  have had : ∃ b j, (z.s a).ad = some ⟨b, j, none⟩ := by
    cases hq : z.q with
    | none =>
      have e : z.s a = a := by unfold Cu.s; rw [hq]
      rw [e]
      have hi' : i < a.l.length := by rw [← k.a0 hq]; exact hi
      obtain ⟨b, j, e, _⟩ := ha.at hi'
      exact ⟨b, j, e⟩
    | some p => exact ⟨p.1, 0, by unfold Cu.s; rw [hq]⟩
  obtain ⟨b, j, e⟩ := had
  refine ⟨b, j, e, fun A M w' hw m u hu => ?_⟩
  have ok := Cu.ok k ha hw
  obtain ⟨b2, j2, e2, _, hc⟩ := ok.at (i := i) (by rw [hl]; exact hi)
  rw [e, Option.some.injEq, Addr.mk.injEq] at e2
  obtain ⟨rfl, rfl, _⟩ := e2
  rw [hl] at hc
  exact hc m u hu
/-- a pair done to pairs by rising keys, as the reference does it -/
def dpS (cur : List PqS) (p : PqS) : List PqS :=
  cur.takeWhile (fun c => klt c.key p.key) ++ ((if p.gone then [] else [p]) ++ (match cur.dropWhile (fun c => klt c.key p.key) with
    | [] => []
    | c :: r => if c.key = p.key then r else c :: r))
theorem dpS_is (p : PqS) : ∀ {cur : List PqS} {vs : VL}, cur.map PqS.p = pairsV vs → (dpS cur p).map PqS.p = pairsV (doV vs p.p)
  | [], [], _ => by
    unfold dpS doV pairsV
    cases hg : p.gone
    · rw [if_neg (show ¬ p.p.gone = true by show ¬ p.gone = true; rw [hg]; simp)]
      simp [PqS.p, insV, hg]
    · rw [if_pos (show p.p.gone = true from hg)]
      simp [delV]
  | [], _ :: _, h => by cases h
  | _ :: _, [], h => by cases h
  | c :: cur, v :: vs, h => by
    have h1 : c.p = ⟨v.1, v.2, false⟩ := by simpa [pairsV] using congrArg List.head? h
    have h2 : cur.map PqS.p = pairsV vs := by simpa [pairsV] using congrArg List.tail h
    have hk : c.key = v.1 := congrArg Pq.key h1
    have ih := dpS_is p h2
    by_cases hlt : klt v.1 p.key = true
    · have e1 : dpS (c :: cur) p = c :: dpS cur p := by
        unfold dpS
        rw [List.takeWhile_cons_of_pos (by rw [hk]; exact hlt), List.dropWhile_cons_of_pos (by rw [hk]; exact hlt)]
        rfl
      have e2 : doV (v :: vs) p.p = v :: doV vs p.p := by
        unfold doV
        split
        · rw [delV, if_pos (show klt v.1 p.p.key = true from hlt)]
        · rw [insV, if_pos (show klt v.1 p.p.key = true from hlt)]
      rw [e1, e2, List.map_cons, ih, h1]
      rfl
    · have e1 : dpS (c :: cur) p = (if p.gone then [] else [p]) ++ (if c.key = p.key then cur else c :: cur) := by
        unfold dpS
        rw [List.takeWhile_cons_of_neg (by rw [hk]; exact hlt), List.dropWhile_cons_of_neg (by rw [hk]; exact hlt)]
        rfl
      have e3 : doV (v :: vs) p.p = (if p.gone then [] else [(p.key, p.s.l)]) ++ (if v.1 = p.key then vs else v :: vs) := by
        unfold doV
        cases hg : p.gone
        · rw [if_neg (show ¬ p.p.gone = true by show ¬ p.gone = true; rw [hg]; simp), insV, if_neg (show ¬ klt v.1 p.p.key = true from hlt)]
          by_cases he : v.1 = p.key
          · rw [if_pos (show v.1 = p.p.key from he), if_pos he]; rfl
          · rw [if_neg (show ¬ v.1 = p.p.key from he), if_neg he]; rfl
        · rw [if_pos (show p.p.gone = true from hg), delV, if_neg (show ¬ klt v.1 p.p.key = true from hlt)]
          by_cases he : v.1 = p.key
          · rw [if_pos (show v.1 = p.p.key from he), if_pos he]; rfl
          · rw [if_neg (show ¬ v.1 = p.p.key from he), if_neg he]; rfl
      rw [e1, e3, hk]
      cases hg : p.gone <;> by_cases he : v.1 = p.key <;> simp [he, h2, h1, pairsV, PqS.p, hg] <;> exact ⟨hk, congrArg Pq.val h1, congrArg Pq.gone h1⟩
end Go.Proofs.Ytjkncnbpaejamaa

/-
  Of no statement by itself: the reference's Do (layer 16).
  Conditions: each theorem's own.
-/
namespace Go.Proofs.Ytjkncnbpaejamaa
set_option maxRecDepth 10000
open Sl Dsk Jrn Sto
theorem one3 (l : List PqS) : ∀ v ∈ (l.map PqS.cs).flatten, v.oneCell' = true := by
  intro v hv
  obtain ⟨c, hc, hv⟩ := List.mem_flatten.1 hv
  obtain ⟨q, _, rfl⟩ := List.mem_map.1 hc
  exact List.all_eq_true.1 (PqS.one q) v hv
theorem goes_rDo : Goes Try.prog 11 := ⟨_, Try.func11, rfl, by kernel_rfl⟩
theorem dpS_at {cur : List PqS} {p : PqS} {k : Nat} (hk : k ≤ cur.length) (ha : (cur.take k).all (fun c => klt c.key p.key) = true) (hb : ∀ c, cur[k]? = some c → klt c.key p.key = false) :
    dpS cur p = cur.take k ++ ((if p.gone then [] else [p]) ++ (match cur[k]? with | none => [] | some c => if c.key = p.key then cur.drop (k + 1) else cur.drop k)) := by
  unfold dpS
  induction cur generalizing k with
  | nil =>
    have : k = 0 := Nat.le_zero.1 hk
    subst this
    rfl
  | cons c cur ih =>
    cases k with
    | zero =>
      have h := hb c rfl
      rw [List.takeWhile_cons_of_neg (by rw [h]; simp), List.dropWhile_cons_of_neg (by rw [h]; simp)]
      rfl
    | succ k =>
      rw [List.take_succ_cons, List.all_cons, Bool.and_eq_true] at ha
      rw [List.takeWhile_cons_of_pos (p := fun c : PqS => klt c.key p.key) (a := c) (l := cur) ha.1, List.dropWhile_cons_of_pos (p := fun c : PqS => klt c.key p.key) (a := c) (l := cur) ha.1]
      have := ih (k := k) (by simpa using hk) ha.2 (fun d hd => hb d (by simpa using hd))
      rw [List.cons_append, this]
      rfl
/-- the rest of a slice of pairs, as memory that is read -/
theorem reads_rest {s : SlP} {w : World} (h : s.ok w) {k : Nat} (hk : k ≤ s.l.length) : Reads w (if s.cap = k then s.ad else s.ad.map (·.add (k * 3))) ((s.l.drop k).map PqS.cs).flatten := by
  have hl := chunk_len (cs3 s.l)
  rw [List.length_map] at hl
  have h1 := h.reads.drop (len := s.l.length * 3) (cap := s.cap * 3) (lo := k * 3) hl (Nat.mul_le_mul_right 3 h.len) (Nat.mul_le_mul_right 3 hk)
  rw [chunk_drop (cs3 s.l) k, ← List.map_drop, Nat.mul_one] at h1
  by_cases e : s.cap = k
  · rw [if_pos e]
    rwa [if_pos (by rw [e])] at h1
  · rw [if_neg e]
    rwa [if_neg (fun h => e (by omega))] at h1
theorem dpS_mem {cur : List PqS} {p q : PqS} (h : q ∈ dpS cur p) : q ∈ cur ∨ q = p := by
  unfold dpS at h
  rcases List.mem_append.1 h with h | h
  · exact .inl ((List.takeWhile_sublist _).subset h)
  · rcases List.mem_append.1 h with h | h
    · split at h
      · cases h
      · exact .inr (List.mem_singleton.1 h)
    · have hd : ∀ x ∈ cur.dropWhile (fun c => klt c.key p.key), x ∈ cur := fun x hx => (List.dropWhile_sublist _).subset hx
      cases he : cur.dropWhile (fun c => klt c.key p.key) with
      | nil => rw [he] at h; cases h
      | cons c r =>
        rw [he] at h hd
        dsimp only at h
        split at h
        · exact .inl (hd q (by simp [h]))
        · exact .inl (hd q h)
theorem dpS_len (cur : List PqS) (p : PqS) : (dpS cur p).length ≤ cur.length + 1 := by
  have h1 := congrArg List.length (List.takeWhile_append_dropWhile (p := fun c : PqS => klt c.key p.key) (l := cur))
  unfold dpS
  rw [List.length_append] at h1
  rw [List.length_append, List.length_append]
  have h2 : (if p.gone = true then ([] : List PqS) else [p]).length ≤ 1 := by split <;> simp
  generalize cur.dropWhile (fun c => klt c.key p.key) = D at h1 ⊢
  cases D with
  | nil => simp only [List.length_nil] at h1 ⊢; omega
  | cons c r =>
    dsimp only
    have h3 : (if c.key = p.key then r else c :: r).length ≤ (c :: r).length := by
      by_cases he : c.key = p.key
      · rw [if_pos he, List.length_cons]; omega
      · rw [if_neg he]; exact Nat.le_refl _
    omega
structure Do1 where
  i : Nat
  z : Cu
set_option maxHeartbeats 64000000 in
theorem rDo_any (a l : SlP) (w : World) (ha : a.ok w) (hl : l.ok w) (hn : a.l.length + l.l.length ≤ 1000000) :
    Calls Try.prog 11 [a.v, l.v].toArray w fun e w' => ∃ z : {z : Cu // z.okw a w ∧ z.ps = l.l.foldl dpS a.l}, e = .returned (z.1.s a).v ∧ Holds w [] z.1.E w' := by
  refine enter (n := 79) Try.func11 rfl rfl rfl (Holds.start w []) ?_
  repeat (first | refine JL.q (by (apply OQ.assign; exact rfl)) rfl ?_ | refine JC.seq ?_ | refine JC.region ?_ | refine JC.block ?_ | refine JL.nil ?_ | refine JE.next ?_)
  refine JC.loop (fun y : Do1 => [(0, (y.z.s a).v), (1, l.v), (5, N y.i)]) (fun y => y.z.E) (fun y => l.l.length - y.i) (fun y => y.i ≤ l.l.length ∧ y.z.okw a w ∧ y.z.ps = (l.l.take y.i).foldl dpS a.l ∧ y.z.ps.length ≤ a.l.length + y.i) ⟨0, ⟨none, a.l⟩⟩ ⟨Nat.zero_le _, ⟨fun _ => rfl, ha.all⟩, rfl, Nat.le_refl _⟩ (by repeat (first | exact SubE.nil | refine SubE.cons _ _ _ rfl ?_)) (.nil _) ?_
  rintro ⟨i, z⟩ ⟨hi, hz, hzp, hzn⟩
  dsimp only at hi hz hzp hzn ⊢
  have hzl := Cu.l hz.a0
  cases g0 : decide ((i : Int) < (l.l.length : Int))
  case false =>
    have hi' : i = l.l.length := by have := of_decide_eq_false g0; omega
    rw [hi', List.take_length] at hzp
    repeat (first | refine JL.q (by first | (apply OQ.len (k := l.l.length) (ad := l.ad) (cap := l.cap); exact Try.underlying32; exact rfl) | (apply OQ.lssB (a := (i : Int)) (b := (l.l.length : Int)); exact rfl; exact rfl; exact g0) | (apply OQ.move; exact rfl)) rfl ?_ | refine JC.seq ?_ | refine JC.region ?_ | refine JL.nil ?_ | refine JE.next ?_)
    refine JC.cond_false rfl rfl ?_
    repeat (first | refine JL.q (by first | (apply OQ.move; exact rfl) | (apply OQ.assign; exact rfl)) rfl ?_ | refine JC.seq ?_ | refine JC.region ?_ | refine JC.exit ?_ | refine JL.nil ?_ | refine JE.next ?_ | refine JE.then_exit ?_ | refine JE.blk_hit ?_)
    exact JC.ret (JE.ret1 rfl (RV.tmp rfl) fun w' hw => ⟨⟨z, hz, hzp⟩, rfl, hw⟩)
  have hi' : i < l.l.length := by have := of_decide_eq_true g0; omega
  obtain ⟨bl, jl, el, ll, cl⟩ := hl.at hi'
  have hlt : l.l.take (i + 1) = l.l.take i ++ [l.l.getD i noP] := by
    rw [List.take_add_one]
    simp [List.getD_eq_getElem?_getD, hi']
  have hlm := SlP.get_mem hi'
  generalize l.l.getD i noP = p at cl hlt hlm
  have cl0 := cl 0 (Z p.key) rfl
  have cl2 := cl 2 (.bool p.gone) rfl
  have hlv : l.v = .slice (some ⟨bl, jl, none⟩) l.l.length l.cap := by rw [← el]; rfl
  have hnew : (l.l.take (i + 1)).foldl dpS a.l = dpS z.ps p := by rw [hlt, List.foldl_append, ← hzp]; rfl
  repeat (first | refine JL.q (by first | (apply OQ.len (k := l.l.length) (ad := l.ad) (cap := l.cap); exact Try.underlying32; exact rfl) | (apply OQ.lssB (a := (i : Int)) (b := (l.l.length : Int)); exact rfl; exact rfl; exact g0) | (apply OQ.move; exact rfl)) rfl ?_ | refine JC.seq ?_ | refine JC.region ?_ | refine JL.nil ?_ | refine JE.next ?_)
  refine JC.cond_true rfl rfl ?_
  repeat (first | refine JC.seq ?_ | refine JC.region ?_ | refine JC.block ?_ | refine JC.skip ?_ | refine JE.next ?_)
  refine JL.lit0N Try.underlying32 prI (by decide) rfl fun b6 _ => ?_
  repeat (first | refine JL.q (by (apply OQ.assign; exact rfl)) rfl ?_ | refine JC.seq ?_ | refine JC.region ?_ | refine JC.block ?_ | refine JL.nil ?_ | refine JE.next ?_)
  refine JC.loop (fun y : Nat × (Nat × Nat) => [(0, (z.s a).v), (1, l.v), (5, N i), (6, accV (some y.2) ((z.ps.take y.1).map PqS.cs).length), (7, N y.1)]) (fun y => accC 44 3 (some y.2) ((z.ps.take y.1).map PqS.cs) ++ z.E) (fun y => z.ps.length - y.1) (fun y => y.1 ≤ z.ps.length ∧ (z.ps.take y.1).all (fun c => klt c.key p.key) = true) (0, (b6, 0)) ⟨Nat.zero_le _, rfl⟩ (by repeat (first | exact SubE.nil | refine SubE.cons _ _ _ rfl ?_)) (Less.refl _) ?_
  rintro ⟨k, q6⟩ ⟨hk, hka⟩
  dsimp only at hk hka ⊢
  obtain ⟨c1, g1⟩ : ∃ c, decide ((k : Int) < (z.ps.length : Int)) = c := ⟨_, rfl⟩
  have hnk : (z.s a).l.length = z.ps.length := by rw [hzl]
  have hall : ∀ q ∈ dpS z.ps p, q.s.ok w := fun q hq => by
    rcases dpS_mem hq with h | rfl
    · exact hz.all q h
    · exact hl.all q hlm
  rw [← hnk] at g1
  cases c1
  case false =>
    have hkn : k = (z.s a).l.length := by have := of_decide_eq_false g1; omega
    have hdp := dpS_at hk hka (fun c hc => by rw [List.getElem?_eq_none (by omega)] at hc; cases hc)
    rw [List.getElem?_eq_none (by omega)] at hdp
    dsimp only at hdp
    have hdk : z.ps.drop k = [] := List.drop_of_length_le (by omega)
    repeat (refine JC.seq ?_)
    refine JC.quiet mixT (by kernel_rfl) ?_
    repeat (first | refine JQ.q (by first | (apply OQ.len (k := (z.s a).l.length) (ad := (z.s a).ad) (cap := (z.s a).cap); exact Try.underlying32; exact rfl) | (apply OQ.lssB (a := (k : Int)) (b := ((z.s a).l.length : Int)); exact rfl; exact rfl; exact g1) | (apply OQ.pick_f; exact rfl; exact rfl) | (apply OQ.move; exact rfl)) rfl ?_ | refine JQ.nil ?_ | refine JE.next ?_ | refine JQ.gskip rfl rfl rfl rfl ?_)
    refine JC.cond_false rfl rfl ?_
    have hO : (z.ps.take k).length ≤ 1000000 := by rw [List.length_take]; omega
    cases hg : p.gone
    case true =>
      rw [hg] at cl2 hdp
      repeat (first | refine JL.q (by first | (apply OQ.idxS (i := i); exact Try.underlying32; exact pr3; exact (congrArg some hlv); exact rfl; exact hi') | (apply OQ.load_old; exact boolC; exact rfl; exact ll; exact (by simp); exact cl2) | (apply OQ.not; exact rfl) | (apply OQ.move; exact rfl) | (apply OQ.fld; exact rfl; exact rfl; exact rfl; exact (by decide); exact rfl)) rfl ?_ | refine JC.seq ?_ | refine JC.region ?_ | refine JC.exit ?_ | refine JL.nil ?_ | refine JE.next ?_ | refine JE.then_exit ?_ | refine JE.blk_hit ?_)
      refine JC.cond_false rfl rfl ?_
      repeat (first | refine JC.seq ?_ | refine JC.skip ?_ | refine JE.next ?_)
      refine JC.quiet mixT (by kernel_rfl) ?_
      repeat (first | refine JQ.q (by first | (apply OQ.len (k := (z.s a).l.length) (ad := (z.s a).ad) (cap := (z.s a).cap); exact Try.underlying32; exact rfl) | (apply OQ.lssB (a := (k : Int)) (b := ((z.s a).l.length : Int)); exact rfl; exact rfl; exact g1) | (apply OQ.pick_f; exact rfl; exact rfl) | (apply OQ.move; exact rfl)) rfl ?_ | refine JQ.nil ?_ | refine JE.next ?_ | refine JQ.gskip rfl rfl rfl rfl ?_)
      refine JC.cond_false rfl rfl ?_
      repeat (first | refine JL.q (by first | (apply OQ.slS_lo (ad := (z.s a).ad) (len := (z.s a).l.length) (cap := (z.s a).cap) (lo := k); exact Try.underlying32; exact pr3; exact rfl; exact rfl; exact (by omega)) | (apply OQ.move; exact rfl)) rfl ?_ | refine JC.region ?_ | refine JC.skip ?_ | refine JE.next ?_)
      refine JL.appendCs (L := (z.ps.take k).map PqS.cs) (L2 := ((z.s a).l.drop k).map PqS.cs) (m := (z.s a).l.length - k) Try.underlying32 prI rfl rfl (by rw [List.length_map, List.length_drop]) (fun c hc => cs3 _ c hc) (fun w' hw' => reads_rest (Cu.ok (A := accC 44 3 _ ((z.ps.take k).map PqS.cs)) (M := []) hz ha (by rw [List.append_nil]; exact hw')) (by omega)) (one3 _) rfl (by decide) (by simp only [List.length_map, List.length_append, List.length_singleton, List.length_take]; omega) (by simp only [List.length_map, List.length_append, List.length_singleton, List.length_take]; omega) rfl fun r => ?_
      rw [← List.map_append, List.length_map, hzl]
      rw [hzl] at hnk
      have hdd : (z.ps.take k) ++ z.ps.drop k = dpS z.ps p := by rw [hdp, hdk]; simp
      rw [hdd]
      repeat (first | refine JL.q (by first | (apply OQ.move; exact rfl) | (apply OQ.assign; exact rfl) | (apply OQ.addN; exact rfl; exact rfl; exact (by (try simp only []); omega))) rfl ?_ | refine JC.region ?_ | refine JL.nil ?_ | refine JE.next ?_ | refine JE.blk_normal ?_)
      exact JE.again (i := Do1.mk i z) ⟨i + 1, ⟨some r, dpS z.ps p⟩⟩ ⟨hi', ⟨nofun, hall⟩, hnew.symm, by have := dpS_len z.ps p; dsimp only at this ⊢; omega⟩ (by dsimp only; omega) (by repeat (first | exact SubE.nil | refine SubE.cons _ _ _ rfl ?_)) (less_pre _ _)
    case false =>
      rw [hg] at cl2 hdp
      repeat (first | refine JL.q (by first | (apply OQ.idxS (i := i); exact Try.underlying32; exact pr3; exact (congrArg some hlv); exact rfl; exact hi') | (apply OQ.load_old; exact boolC; exact rfl; exact ll; exact (by simp); exact cl2) | (apply OQ.not; exact rfl) | (apply OQ.move; exact rfl) | (apply OQ.fld; exact rfl; exact rfl; exact rfl; exact (by decide); exact rfl)) rfl ?_ | refine JC.seq ?_ | refine JC.region ?_ | refine JC.exit ?_ | refine JL.nil ?_ | refine JE.next ?_ | refine JE.then_exit ?_ | refine JE.blk_hit ?_)
      refine JC.cond_true rfl rfl ?_
      repeat (first | refine JL.q (by first | (apply OQ.idxS (i := i); exact Try.underlying32; exact pr3; exact (congrArg some hlv); exact rfl; exact hi') | (apply OQ.load_agg_old (cs := p.cs); exact prAg; exact rfl; exact pr3; exact ll; exact (by simp); exact cl) | (apply OQ.move; exact rfl)) rfl ?_ | refine JC.region ?_)
      refine JL.litA (cs := p.cs) Try.underlying32 prI rfl (by decide) (by decide) rfl rfl rfl fun bn _ => ?_
      refine JL.appendC (c := p.cs) (L := (z.ps.take k).map PqS.cs) (some q6) Try.underlying32 prI nofun rfl rfl rfl (fun u hu => List.all_eq_true.1 (PqS.one _) u hu) rfl (by decide) (by rw [List.length_map]; omega) (by rw [List.length_map]; omega) rfl fun b' cap' => ?_
      have eM : (z.ps.take k).map PqS.cs ++ [p.cs] = (z.ps.take k ++ [p]).map PqS.cs := by rw [List.map_append, List.map_singleton]
      rw [eM]
      repeat (first | refine JL.q (by (apply OQ.assign; exact rfl)) rfl ?_ | refine JC.seq ?_ | refine JL.nil ?_ | refine JE.next ?_)
      refine JC.quiet mixT (by kernel_rfl) ?_
      repeat (first | refine JQ.q (by first | (apply OQ.len (k := (z.s a).l.length) (ad := (z.s a).ad) (cap := (z.s a).cap); exact Try.underlying32; exact rfl) | (apply OQ.lssB (a := (k : Int)) (b := ((z.s a).l.length : Int)); exact rfl; exact rfl; exact g1) | (apply OQ.pick_f; exact rfl; exact rfl) | (apply OQ.move; exact rfl)) rfl ?_ | refine JQ.nil ?_ | refine JE.next ?_ | refine JQ.gskip rfl rfl rfl rfl ?_)
      refine JC.cond_false rfl rfl ?_
      repeat (first | refine JL.q (by first | (apply OQ.slS_lo (ad := (z.s a).ad) (len := (z.s a).l.length) (cap := (z.s a).cap) (lo := k); exact Try.underlying32; exact pr3; exact rfl; exact rfl; exact (by omega)) | (apply OQ.move; exact rfl)) rfl ?_ | refine JC.region ?_ | refine JC.skip ?_ | refine JE.next ?_)
      refine JL.appendCs (L := (z.ps.take k ++ [p]).map PqS.cs) (L2 := ((z.s a).l.drop k).map PqS.cs) (m := (z.s a).l.length - k) Try.underlying32 prI rfl rfl (by rw [List.length_map, List.length_drop]) (fun c hc => cs3 _ c hc) (fun w' hw' => reads_rest (Cu.ok (A := accC 44 3 _ ((z.ps.take k ++ [p]).map PqS.cs)) (M := []) hz ha (by rw [List.append_nil]; exact hw')) (by omega)) (one3 _) rfl (by decide) (by simp only [List.length_map, List.length_append, List.length_singleton, List.length_take]; omega) (by simp only [List.length_map, List.length_append, List.length_singleton, List.length_take]; omega) rfl fun r => ?_
      rw [← List.map_append, List.length_map, hzl]
      rw [hzl] at hnk
      have hdd : (z.ps.take k ++ [p]) ++ z.ps.drop k = dpS z.ps p := by rw [hdp, hdk]; simp
      rw [hdd]
      repeat (first | refine JL.q (by first | (apply OQ.move; exact rfl) | (apply OQ.assign; exact rfl) | (apply OQ.addN; exact rfl; exact rfl; exact (by (try simp only []); omega))) rfl ?_ | refine JC.region ?_ | refine JL.nil ?_ | refine JE.next ?_ | refine JE.blk_normal ?_)
      exact JE.again (i := Do1.mk i z) ⟨i + 1, ⟨some r, dpS z.ps p⟩⟩ ⟨hi', ⟨nofun, hall⟩, hnew.symm, by have := dpS_len z.ps p; dsimp only at this ⊢; omega⟩ (by dsimp only; omega) (by repeat (first | exact SubE.nil | refine SubE.cons _ _ _ rfl ?_)) (less_pre _ _)
  case true =>
    have hk1 : k < (z.s a).l.length := by have := of_decide_eq_true g1; omega
    obtain ⟨bc, jc, ec, cc⟩ := Cu.at (i := k) hz ha (by omega)
    have hcv : (z.s a).v = .slice (some ⟨bc, jc, none⟩) (z.s a).l.length (z.s a).cap := by rw [← ec]; rfl
    have hkq : z.ps[k]? = some (z.ps.getD k noP) := by rw [List.getD_eq_getElem?_getD, List.getElem?_eq_getElem (by omega)]; rfl
    have htk : z.ps.take (k + 1) = z.ps.take k ++ [z.ps.getD k noP] := by rw [List.take_add_one, hkq]; rfl
    generalize z.ps.getD k noP = qk at cc hkq htk
    have hcw : ∀ (A : List Ent) (w' : World), Holds w [] (A ++ z.E) w' → w'.cell? ⟨bc, jc + k * 3 + 0, none⟩ = some (Z qk.key) := fun A w' hw' => cc A [] w' (by rw [List.append_nil]; exact hw') 0 _ rfl
    have hca : ∀ (A : List Ent) (w' : World), Holds w [] (A ++ z.E) w' → ∀ m u, qk.cs[m]? = some u → w'.cell? ⟨bc, jc + k * 3 + m, none⟩ = some u := fun A w' hw' => cc A [] w' (by rw [List.append_nil]; exact hw')
    obtain ⟨c2, g2⟩ : ∃ c, klt qk.key p.key = c := ⟨_, rfl⟩
    obtain ⟨c3, g3⟩ : ∃ c, decide (qk.key = p.key) = c := ⟨_, rfl⟩
    repeat (refine JC.seq ?_)
    refine JC.quiet mixT (by kernel_rfl) ?_
    repeat (first | refine JQ.q (by first | (apply OQ.len (k := (z.s a).l.length) (ad := (z.s a).ad) (cap := (z.s a).cap); exact Try.underlying32; exact rfl) | (apply OQ.lssB (a := (k : Int)) (b := ((z.s a).l.length : Int)); exact rfl; exact rfl; exact g1) | (apply OQ.idxS (i := k) (b := bc) (j := jc); exact Try.underlying32; exact pr3; exact (congrArg some hcv); exact rfl; exact hk1) | (apply OQ.idxS (i := i) (b := bl) (j := jl); exact Try.underlying32; exact pr3; exact (congrArg some hlv); exact rfl; exact hi') | (apply OQ.loadW; exact strC; exact rfl; exact (fun w' hw' => hcw _ w' hw')) | (apply OQ.load_old; exact strC; exact rfl; exact ll; exact (by simp); exact cl0) | (apply OQ.lssZ (l := qk.key) (r := p.key); exact rfl; exact rfl) | (apply OQ.pick_t; exact rfl; exact rfl) | (apply OQ.move; exact rfl) | (apply OQ.fld; exact rfl; exact rfl; exact rfl; exact (by decide); exact rfl)) rfl ?_ | refine JQ.nil ?_ | refine JE.next ?_ | refine JQ.gon rfl rfl ?_)
    rw [g2]
    cases c2
    case true =>
      refine JC.cond_true rfl rfl ?_
      repeat (first | refine JL.q (by first | (apply OQ.idxS (i := k) (b := bc) (j := jc); exact Try.underlying32; exact pr3; exact (congrArg some hcv); exact rfl; exact hk1) | (apply OQ.loadW_agg (cs := qk.cs); exact prAg; exact rfl; exact pr3; exact (fun w' hw' => hca _ w' hw')) | (apply OQ.move; exact rfl)) rfl ?_ | refine JC.seq ?_ | refine JC.region ?_ | refine JC.block ?_ | refine JC.skip ?_ | refine JE.next ?_)
      refine JL.litA (cs := qk.cs) Try.underlying32 prI rfl (by decide) (by decide) rfl rfl rfl fun bn _ => ?_
      refine JL.appendC (c := qk.cs) (L := (z.ps.take k).map PqS.cs) (some q6) Try.underlying32 prI nofun rfl rfl rfl (fun u hu => List.all_eq_true.1 (PqS.one _) u hu) rfl (by decide) (by rw [List.length_map, List.length_take]; omega) (by rw [List.length_map, List.length_take]; omega) rfl fun b' cap' => ?_
      have eM : (z.ps.take k).map PqS.cs ++ [qk.cs] = (z.ps.take (k + 1)).map PqS.cs := by rw [htk, List.map_append, List.map_singleton]
      rw [eM]
      repeat (first | refine JL.q (by first | (apply OQ.move; exact rfl) | (apply OQ.assign; exact rfl) | (apply OQ.addN; exact rfl; exact rfl; exact (by (try simp only []); omega))) rfl ?_ | refine JC.region ?_ | refine JL.nil ?_ | refine JE.next ?_ | refine JE.blk_normal ?_)
      refine JE.again (i := (k, q6)) (k + 1, (b', cap')) ⟨by dsimp only; omega, ?_⟩ (by dsimp only; omega) (by repeat (first | exact SubE.nil | refine SubE.cons _ _ _ rfl ?_)) (Less.refl _)
      dsimp only
      rw [htk, List.all_append, hka]
      simp [g2]
    case false =>
      have hdp := dpS_at hk hka (fun c hc => by rw [hkq] at hc; cases hc; exact g2)
      rw [hkq] at hdp
      refine JC.cond_false rfl rfl ?_
      have hO : (z.ps.take k).length ≤ 1000000 := by rw [List.length_take]; omega
      cases hg : p.gone
      case true =>
        rw [hg] at cl2 hdp
        repeat (first | refine JL.q (by first | (apply OQ.idxS (i := i); exact Try.underlying32; exact pr3; exact (congrArg some hlv); exact rfl; exact hi') | (apply OQ.load_old; exact boolC; exact rfl; exact ll; exact (by simp); exact cl2) | (apply OQ.not; exact rfl) | (apply OQ.move; exact rfl) | (apply OQ.fld; exact rfl; exact rfl; exact rfl; exact (by decide); exact rfl)) rfl ?_ | refine JC.seq ?_ | refine JC.region ?_ | refine JC.exit ?_ | refine JL.nil ?_ | refine JE.next ?_ | refine JE.then_exit ?_ | refine JE.blk_hit ?_)
        refine JC.cond_false rfl rfl ?_
        cases c3
        case false =>
          have he3 := of_decide_eq_false g3
          dsimp only at hdp
          rw [if_neg he3] at hdp
          repeat (first | refine JC.seq ?_ | refine JC.skip ?_ | refine JE.next ?_)
          refine JC.quiet mixT (by kernel_rfl) ?_
          repeat (first | refine JQ.q (by first | (apply OQ.len (k := (z.s a).l.length) (ad := (z.s a).ad) (cap := (z.s a).cap); exact Try.underlying32; exact rfl) | (apply OQ.lssB (a := (k : Int)) (b := ((z.s a).l.length : Int)); exact rfl; exact rfl; exact g1) | (apply OQ.idxS (i := k) (b := bc) (j := jc); exact Try.underlying32; exact pr3; exact (congrArg some hcv); exact rfl; exact hk1) | (apply OQ.idxS (i := i) (b := bl) (j := jl); exact Try.underlying32; exact pr3; exact (congrArg some hlv); exact rfl; exact hi') | (apply OQ.loadW; exact strC; exact rfl; exact (fun w' hw' => hcw _ w' hw')) | (apply OQ.load_old; exact strC; exact rfl; exact ll; exact (by simp); exact cl0) | (apply OQ.eqSB; exact rfl; exact rfl; exact g3) | (apply OQ.pick_t; exact rfl; exact rfl) | (apply OQ.move; exact rfl) | (apply OQ.fld; exact rfl; exact rfl; exact rfl; exact (by decide); exact rfl)) rfl ?_ | refine JQ.nil ?_ | refine JE.next ?_ | refine JQ.gon rfl rfl ?_)
          refine JC.cond_false rfl rfl ?_
          repeat (first | refine JL.q (by first | (apply OQ.slS_lo (ad := (z.s a).ad) (len := (z.s a).l.length) (cap := (z.s a).cap) (lo := k); exact Try.underlying32; exact pr3; exact rfl; exact rfl; exact (by omega)) | (apply OQ.move; exact rfl)) rfl ?_ | refine JC.region ?_ | refine JC.skip ?_ | refine JE.next ?_)
          refine JL.appendCs (L := (z.ps.take k).map PqS.cs) (L2 := ((z.s a).l.drop k).map PqS.cs) (m := (z.s a).l.length - k) Try.underlying32 prI rfl rfl (by rw [List.length_map, List.length_drop]) (fun c hc => cs3 _ c hc) (fun w' hw' => reads_rest (Cu.ok (A := accC 44 3 _ ((z.ps.take k).map PqS.cs)) (M := []) hz ha (by rw [List.append_nil]; exact hw')) (by omega)) (one3 _) rfl (by decide) (by simp only [List.length_map, List.length_append, List.length_singleton, List.length_take]; omega) (by simp only [List.length_map, List.length_append, List.length_singleton, List.length_take]; omega) rfl fun r => ?_
          rw [← List.map_append, List.length_map, hzl]
          rw [hzl] at hnk
          have hdd : (z.ps.take k) ++ z.ps.drop k = dpS z.ps p := by rw [hdp]; simp
          rw [hdd]
          repeat (first | refine JL.q (by first | (apply OQ.move; exact rfl) | (apply OQ.assign; exact rfl) | (apply OQ.addN; exact rfl; exact rfl; exact (by (try simp only []); omega))) rfl ?_ | refine JC.region ?_ | refine JL.nil ?_ | refine JE.next ?_ | refine JE.blk_normal ?_)
          exact JE.again (i := Do1.mk i z) ⟨i + 1, ⟨some r, dpS z.ps p⟩⟩ ⟨hi', ⟨nofun, hall⟩, hnew.symm, by have := dpS_len z.ps p; dsimp only at this ⊢; omega⟩ (by dsimp only; omega) (by repeat (first | exact SubE.nil | refine SubE.cons _ _ _ rfl ?_)) (less_pre _ _)
        case true =>
          have he3 := of_decide_eq_true g3
          dsimp only at hdp
          rw [if_pos he3] at hdp
          repeat (first | refine JC.seq ?_ | refine JC.skip ?_ | refine JE.next ?_)
          refine JC.quiet mixT (by kernel_rfl) ?_
          repeat (first | refine JQ.q (by first | (apply OQ.len (k := (z.s a).l.length) (ad := (z.s a).ad) (cap := (z.s a).cap); exact Try.underlying32; exact rfl) | (apply OQ.lssB (a := (k : Int)) (b := ((z.s a).l.length : Int)); exact rfl; exact rfl; exact g1) | (apply OQ.idxS (i := k) (b := bc) (j := jc); exact Try.underlying32; exact pr3; exact (congrArg some hcv); exact rfl; exact hk1) | (apply OQ.idxS (i := i) (b := bl) (j := jl); exact Try.underlying32; exact pr3; exact (congrArg some hlv); exact rfl; exact hi') | (apply OQ.loadW; exact strC; exact rfl; exact (fun w' hw' => hcw _ w' hw')) | (apply OQ.load_old; exact strC; exact rfl; exact ll; exact (by simp); exact cl0) | (apply OQ.eqSB; exact rfl; exact rfl; exact g3) | (apply OQ.pick_t; exact rfl; exact rfl) | (apply OQ.move; exact rfl) | (apply OQ.fld; exact rfl; exact rfl; exact rfl; exact (by decide); exact rfl)) rfl ?_ | refine JQ.nil ?_ | refine JE.next ?_ | refine JQ.gon rfl rfl ?_)
          refine JC.cond_true rfl rfl ?_
          repeat (first | refine JL.q (by first | (apply OQ.slS_lo (ad := (z.s a).ad) (len := (z.s a).l.length) (cap := (z.s a).cap) (lo := (k + 1)); exact Try.underlying32; exact pr3; exact rfl; exact rfl; exact (by omega)) | (apply OQ.move; exact rfl) | (apply OQ.assign; exact rfl) | (apply OQ.addN; exact rfl; exact rfl; exact (by (try simp only []); omega))) rfl ?_ | refine JC.region ?_ | refine JL.nil ?_ | refine JE.next ?_)
          refine JL.appendCs (L := (z.ps.take k).map PqS.cs) (L2 := ((z.s a).l.drop (k + 1)).map PqS.cs) (m := (z.s a).l.length - (k + 1)) Try.underlying32 prI rfl rfl (by rw [List.length_map, List.length_drop]) (fun c hc => cs3 _ c hc) (fun w' hw' => reads_rest (Cu.ok (A := accC 44 3 _ ((z.ps.take k).map PqS.cs)) (M := []) hz ha (by rw [List.append_nil]; exact hw')) (by omega)) (one3 _) rfl (by decide) (by simp only [List.length_map, List.length_append, List.length_singleton, List.length_take]; omega) (by simp only [List.length_map, List.length_append, List.length_singleton, List.length_take]; omega) rfl fun r => ?_
          rw [← List.map_append, List.length_map, hzl]
          rw [hzl] at hnk
          have hdd : (z.ps.take k) ++ z.ps.drop (k + 1) = dpS z.ps p := by rw [hdp]; simp
          rw [hdd]
          repeat (first | refine JL.q (by first | (apply OQ.move; exact rfl) | (apply OQ.assign; exact rfl) | (apply OQ.addN; exact rfl; exact rfl; exact (by (try simp only []); omega))) rfl ?_ | refine JC.region ?_ | refine JL.nil ?_ | refine JE.next ?_ | refine JE.blk_normal ?_)
          exact JE.again (i := Do1.mk i z) ⟨i + 1, ⟨some r, dpS z.ps p⟩⟩ ⟨hi', ⟨nofun, hall⟩, hnew.symm, by have := dpS_len z.ps p; dsimp only at this ⊢; omega⟩ (by dsimp only; omega) (by repeat (first | exact SubE.nil | refine SubE.cons _ _ _ rfl ?_)) (less_pre _ _)
      case false =>
        rw [hg] at cl2 hdp
        repeat (first | refine JL.q (by first | (apply OQ.idxS (i := i); exact Try.underlying32; exact pr3; exact (congrArg some hlv); exact rfl; exact hi') | (apply OQ.load_old; exact boolC; exact rfl; exact ll; exact (by simp); exact cl2) | (apply OQ.not; exact rfl) | (apply OQ.move; exact rfl) | (apply OQ.fld; exact rfl; exact rfl; exact rfl; exact (by decide); exact rfl)) rfl ?_ | refine JC.seq ?_ | refine JC.region ?_ | refine JC.exit ?_ | refine JL.nil ?_ | refine JE.next ?_ | refine JE.then_exit ?_ | refine JE.blk_hit ?_)
        refine JC.cond_true rfl rfl ?_
        repeat (first | refine JL.q (by first | (apply OQ.idxS (i := i); exact Try.underlying32; exact pr3; exact (congrArg some hlv); exact rfl; exact hi') | (apply OQ.load_agg_old (cs := p.cs); exact prAg; exact rfl; exact pr3; exact ll; exact (by simp); exact cl) | (apply OQ.move; exact rfl)) rfl ?_ | refine JC.region ?_)
        refine JL.litA (cs := p.cs) Try.underlying32 prI rfl (by decide) (by decide) rfl rfl rfl fun bn _ => ?_
        refine JL.appendC (c := p.cs) (L := (z.ps.take k).map PqS.cs) (some q6) Try.underlying32 prI nofun rfl rfl rfl (fun u hu => List.all_eq_true.1 (PqS.one _) u hu) rfl (by decide) (by rw [List.length_map]; omega) (by rw [List.length_map]; omega) rfl fun b' cap' => ?_
        have eM : (z.ps.take k).map PqS.cs ++ [p.cs] = (z.ps.take k ++ [p]).map PqS.cs := by rw [List.map_append, List.map_singleton]
        rw [eM]
        cases c3
        case false =>
          have he3 := of_decide_eq_false g3
          dsimp only at hdp
          rw [if_neg he3] at hdp
          repeat (first | refine JL.q (by (apply OQ.assign; exact rfl)) rfl ?_ | refine JC.seq ?_ | refine JL.nil ?_ | refine JE.next ?_)
          refine JC.quiet mixT (by kernel_rfl) ?_
          repeat (first | refine JQ.q (by first | (apply OQ.len (k := (z.s a).l.length) (ad := (z.s a).ad) (cap := (z.s a).cap); exact Try.underlying32; exact rfl) | (apply OQ.lssB (a := (k : Int)) (b := ((z.s a).l.length : Int)); exact rfl; exact rfl; exact g1) | (apply OQ.idxS (i := k) (b := bc) (j := jc); exact Try.underlying32; exact pr3; exact (congrArg some hcv); exact rfl; exact hk1) | (apply OQ.idxS (i := i) (b := bl) (j := jl); exact Try.underlying32; exact pr3; exact (congrArg some hlv); exact rfl; exact hi') | (apply OQ.loadW; exact strC; exact rfl; exact (fun w' hw' => hcw _ w' hw')) | (apply OQ.load_old; exact strC; exact rfl; exact ll; exact (by simp); exact cl0) | (apply OQ.eqSB; exact rfl; exact rfl; exact g3) | (apply OQ.pick_t; exact rfl; exact rfl) | (apply OQ.move; exact rfl) | (apply OQ.fld; exact rfl; exact rfl; exact rfl; exact (by decide); exact rfl)) rfl ?_ | refine JQ.nil ?_ | refine JE.next ?_ | refine JQ.gon rfl rfl ?_)
          refine JC.cond_false rfl rfl ?_
          repeat (first | refine JL.q (by first | (apply OQ.slS_lo (ad := (z.s a).ad) (len := (z.s a).l.length) (cap := (z.s a).cap) (lo := k); exact Try.underlying32; exact pr3; exact rfl; exact rfl; exact (by omega)) | (apply OQ.move; exact rfl)) rfl ?_ | refine JC.region ?_ | refine JC.skip ?_ | refine JE.next ?_)
          refine JL.appendCs (L := (z.ps.take k ++ [p]).map PqS.cs) (L2 := ((z.s a).l.drop k).map PqS.cs) (m := (z.s a).l.length - k) Try.underlying32 prI rfl rfl (by rw [List.length_map, List.length_drop]) (fun c hc => cs3 _ c hc) (fun w' hw' => reads_rest (Cu.ok (A := accC 44 3 _ ((z.ps.take k ++ [p]).map PqS.cs)) (M := []) hz ha (by rw [List.append_nil]; exact hw')) (by omega)) (one3 _) rfl (by decide) (by simp only [List.length_map, List.length_append, List.length_singleton, List.length_take]; omega) (by simp only [List.length_map, List.length_append, List.length_singleton, List.length_take]; omega) rfl fun r => ?_
          rw [← List.map_append, List.length_map, hzl]
          rw [hzl] at hnk
          have hdd : (z.ps.take k ++ [p]) ++ z.ps.drop k = dpS z.ps p := by rw [hdp]; simp
          rw [hdd]
          repeat (first | refine JL.q (by first | (apply OQ.move; exact rfl) | (apply OQ.assign; exact rfl) | (apply OQ.addN; exact rfl; exact rfl; exact (by (try simp only []); omega))) rfl ?_ | refine JC.region ?_ | refine JL.nil ?_ | refine JE.next ?_ | refine JE.blk_normal ?_)
          exact JE.again (i := Do1.mk i z) ⟨i + 1, ⟨some r, dpS z.ps p⟩⟩ ⟨hi', ⟨nofun, hall⟩, hnew.symm, by have := dpS_len z.ps p; dsimp only at this ⊢; omega⟩ (by dsimp only; omega) (by repeat (first | exact SubE.nil | refine SubE.cons _ _ _ rfl ?_)) (less_pre _ _)
        case true =>
          have he3 := of_decide_eq_true g3
          dsimp only at hdp
          rw [if_pos he3] at hdp
          repeat (first | refine JL.q (by (apply OQ.assign; exact rfl)) rfl ?_ | refine JC.seq ?_ | refine JL.nil ?_ | refine JE.next ?_)
          refine JC.quiet mixT (by kernel_rfl) ?_
          repeat (first | refine JQ.q (by first | (apply OQ.len (k := (z.s a).l.length) (ad := (z.s a).ad) (cap := (z.s a).cap); exact Try.underlying32; exact rfl) | (apply OQ.lssB (a := (k : Int)) (b := ((z.s a).l.length : Int)); exact rfl; exact rfl; exact g1) | (apply OQ.idxS (i := k) (b := bc) (j := jc); exact Try.underlying32; exact pr3; exact (congrArg some hcv); exact rfl; exact hk1) | (apply OQ.idxS (i := i) (b := bl) (j := jl); exact Try.underlying32; exact pr3; exact (congrArg some hlv); exact rfl; exact hi') | (apply OQ.loadW; exact strC; exact rfl; exact (fun w' hw' => hcw _ w' hw')) | (apply OQ.load_old; exact strC; exact rfl; exact ll; exact (by simp); exact cl0) | (apply OQ.eqSB; exact rfl; exact rfl; exact g3) | (apply OQ.pick_t; exact rfl; exact rfl) | (apply OQ.move; exact rfl) | (apply OQ.fld; exact rfl; exact rfl; exact rfl; exact (by decide); exact rfl)) rfl ?_ | refine JQ.nil ?_ | refine JE.next ?_ | refine JQ.gon rfl rfl ?_)
          refine JC.cond_true rfl rfl ?_
          repeat (first | refine JL.q (by first | (apply OQ.slS_lo (ad := (z.s a).ad) (len := (z.s a).l.length) (cap := (z.s a).cap) (lo := (k + 1)); exact Try.underlying32; exact pr3; exact rfl; exact rfl; exact (by omega)) | (apply OQ.move; exact rfl) | (apply OQ.assign; exact rfl) | (apply OQ.addN; exact rfl; exact rfl; exact (by (try simp only []); omega))) rfl ?_ | refine JC.region ?_ | refine JL.nil ?_ | refine JE.next ?_)
          refine JL.appendCs (L := (z.ps.take k ++ [p]).map PqS.cs) (L2 := ((z.s a).l.drop (k + 1)).map PqS.cs) (m := (z.s a).l.length - (k + 1)) Try.underlying32 prI rfl rfl (by rw [List.length_map, List.length_drop]) (fun c hc => cs3 _ c hc) (fun w' hw' => reads_rest (Cu.ok (A := accC 44 3 _ ((z.ps.take k ++ [p]).map PqS.cs)) (M := []) hz ha (by rw [List.append_nil]; exact hw')) (by omega)) (one3 _) rfl (by decide) (by simp only [List.length_map, List.length_append, List.length_singleton, List.length_take]; omega) (by simp only [List.length_map, List.length_append, List.length_singleton, List.length_take]; omega) rfl fun r => ?_
          rw [← List.map_append, List.length_map, hzl]
          rw [hzl] at hnk
          have hdd : (z.ps.take k ++ [p]) ++ z.ps.drop (k + 1) = dpS z.ps p := by rw [hdp]; simp
          rw [hdd]
          repeat (first | refine JL.q (by first | (apply OQ.move; exact rfl) | (apply OQ.assign; exact rfl) | (apply OQ.addN; exact rfl; exact rfl; exact (by (try simp only []); omega))) rfl ?_ | refine JC.region ?_ | refine JL.nil ?_ | refine JE.next ?_ | refine JE.blk_normal ?_)
          exact JE.again (i := Do1.mk i z) ⟨i + 1, ⟨some r, dpS z.ps p⟩⟩ ⟨hi', ⟨nofun, hall⟩, hnew.symm, by have := dpS_len z.ps p; dsimp only at this ⊢; omega⟩ (by dsimp only; omega) (by repeat (first | exact SubE.nil | refine SubE.cons _ _ _ rfl ?_)) (less_pre _ _)
end Go.Proofs.Ytjkncnbpaejamaa

/-
  Of no statement by itself: the reference's Do over rows of pairs that were made anew; what records come to.
  Conditions: each theorem's own.
-/
namespace Go.Proofs.Ytjkncnbpaejamaa
set_option maxRecDepth 10000
open Sl Dsk Jrn Sto
/-- two rows of the same elements, told by counting -/
theorem perm_cnt {α : Type} {a b : List α} (h : ∀ (_ : BEq α) (_ : LawfulBEq α) (x : α), a.count x = b.count x) : a.Perm b := by
  classical
  exact List.perm_iff_count.2 fun x => h inferInstance inferInstance x
theorem dpSs_mem : ∀ {l cur : List PqS} {q : PqS}, q ∈ l.foldl dpS cur → q ∈ cur ∨ q ∈ l
  | [], _, _, h => .inl h
  | p :: l, cur, q, h => by
    rcases dpSs_mem (l := l) h with h | h
    · rcases dpS_mem h with h | rfl
      · exact .inl h
      · exact .inr (by simp)
    · exact .inr (by simp [h])
theorem dpSs_is : ∀ (l : List PqS) {cur : List PqS} {vs : VL}, cur.map PqS.p = pairsV vs → (l.foldl dpS cur).map PqS.p = pairsV (doL vs (l.map PqS.p))
  | [], _, _, h => h
  | p :: l, _, _, h => dpSs_is l (dpS_is p h)
theorem Cu.wr (z : Cu) : ∀ e ∈ z.E, e.wr = true := by
  obtain ⟨q, ps⟩ := z
  cases q with
  | none => intro e he; cases he
  | some p => exact accC_wr 44 3 (some p) (ps.map PqS.cs)
section
variable {n : Nat} {w0 : World} {S : List Nat} {ops : Array Oper} {Q : Exit → Act → World → Prop} {l : List Oper} {E : Env} {M : List Ent}
variable {d : Nat} {ty : TypeId} {pos : String} {aft : Array Edge} {x1 x2 : Operand} {ats : Array TypeId}
end
end Go.Proofs.Ytjkncnbpaejamaa

/-
  Of no statement by itself: the law's Is.
  Conditions: each theorem's own.
-/
namespace Go.Proofs.Ytjkncnbpaejamaa
set_option maxRecDepth 10000
open Sl Dsk Jrn Sto
theorem stR_ro {p mb : Nat} {cs : List Value} {z : MV × Nat} {u w : World} {S : List Nat} {A M : List Ent} (hw : Holds u S (A ++ (stR p mb cs z ++ M)) w) : Holds w [] (stR p mb cs z) w :=
  (ro_holds (hw.weak (less_app A (Less.refl _)))).weak (.keep _ _ _ _ _ _ (fun _ h => h) (.keep _ _ _ _ _ _ (fun _ h => h) (.nil _)))
theorem keysV_all16 (vs : VL) : (vs.filter fun p => preB16 [] p.1).map Prod.fst = vs.map Prod.fst := by
  rw [List.filter_eq_self.2 fun p _ => by show decide (p.1.take 0 = []) = true; simp]
section
variable {P : Program} {n : Nat} {E : Env} {C : World → Prop} {dst : Option Tmp} {ty t t' : TypeId} {pos : String} {aft : Array Edge} {g : Option (Nat × Bool)} {x y : Operand} {l : Bk}
theorem OQ.neZq (hx : ev E x = some (Z l)) (hy : ev E y = some (Z l)) : OQ P n E C ⟨dst, .binOp .neq t x y t', ty, pos, aft, g⟩ (.bool false) := OQ.to (OQ.neS hx hy) (by simp)
end
theorem goes_Is16 : Goes Try.prog 14 := ⟨_, Try.func14, rfl, by kernel_rfl⟩
set_option maxHeartbeats 32000000 in
theorem is16_any (z : Sz) (recs : List Bk) (vs : VL) (k : z.ok recs vs) (t : SlP) (w : World) (ht : t.ok w) (heq : t.ps = pairsV vs) (h0 : Holds w [] (stR z.p z.mb z.cs (z.mm, z.c)) w) (hv : ∀ x ∈ z.mm.map ME.val, x.ok w) :
    Calls Try.prog 14 [Pt z.p 0, t.v].toArray w fun e w' => e = .returned (.bool true) ∧ Ext w w' := by
  have hkm : keysM z.mm [] = vs.map Prod.fst := by rw [keysM_is k.srt k.is]; exact keysV_all16 vs
  have htl : t.l.length = vs.length := by
    have := congrArg List.length heq
    unfold SlP.ps pairsV at this
    rwa [List.length_map, List.length_map] at this
  have hvl : vs.length ≤ 200000 := by rw [← k.len]; exact k.lenb
  refine enter (n := 54) Try.func14 rfl rfl rfl h0 ?_
  repeat (first | refine JL.q (by first | (apply OQ.ptrNil; exact Try.underlying29; exact rfl; exact rfl) | (apply OQ.move; exact rfl) | (apply OQ.assign; exact rfl)) rfl ?_ | refine JC.seq ?_ | refine JC.region ?_ | refine JL.nil ?_ | refine JE.next ?_)
  refine JC.cond_false rfl rfl ?_
  repeat (first | refine JL.q (by (apply OQ.move; exact rfl)) rfl ?_ | refine JC.seq ?_ | refine JC.region ?_ | refine JC.skip ?_ | refine JE.next ?_)
  refine JL.callg (ι := {q : Acc // q = none → keysM z.mm [] = []}) (vs := [Pt z.p 0, Z []]) (fun q => accV q.1 (keysM z.mm []).length) (fun q => accE 9 q.1 ((keysM z.mm []).map Z)) goes_sKeys rfl rfl (fun _ => accE_wr _ _ _) (fun w' hw' => skeys_any z.p z.mb (Pt z.j 0) z.mm z.c [] w' k.wf (stR_ro (A := []) (M := []) (by rw [List.append_nil]; exact hw')) (by have := k.lenb; omega)) fun q => ?_
  obtain ⟨q, hq⟩ := q
  dsimp only
  rw [hkm] at hq ⊢
  rw [List.length_map]
  have hq0 : q = none → vs.length = 0 := fun e => by have := congrArg List.length (hq e); rwa [List.length_map] at this
  repeat (first | refine JL.q (by first | (apply OQ.lenV (q := q) (k := vs.length); exact Try.underlying41; exact hq0; exact rfl) | (apply OQ.len (k := t.l.length) (ad := t.ad) (cap := t.cap); exact Try.underlying32; exact rfl) | (apply OQ.neB (a := (vs.length : Int)) (b := (t.l.length : Int)) (c := true); exact rfl; exact rfl; exact (decide_eq_true (by omega))) | (apply OQ.move; exact rfl) | (apply OQ.assign; exact rfl)) rfl ?_ | refine JC.seq ?_ | refine JC.region ?_ | refine JL.nil ?_ | refine JE.next ?_)
  refine JC.cond_false rfl rfl ?_
  repeat (first | refine JL.q (by first | (apply OQ.lenV (q := q) (k := vs.length); exact Try.underlying41; exact hq0; exact rfl) | (apply OQ.move; exact rfl)) rfl ?_ | refine JC.seq ?_ | refine JC.region ?_ | refine JC.block ?_ | refine JC.skip ?_ | refine JL.nil ?_ | refine JE.next ?_)
  refine JC.loop (fun i : Nat => [(0, Pt z.p 0), (1, t.v), (19, accV q vs.length), (20, N vs.length), (21, N i)]) (fun _ => accE 9 q ((vs.map Prod.fst).map Z) ++ stR z.p z.mb z.cs (z.mm, z.c)) (fun i => vs.length - i) (fun i => i ≤ vs.length) 0 (Nat.zero_le _) (by repeat (first | exact SubE.nil | refine SubE.cons _ _ _ rfl ?_)) (Less.refl _) ?_
  intro i hi
  repeat (first | refine JL.q (by (apply OQ.lssN; exact rfl; exact rfl)) rfl ?_ | refine JC.seq ?_ | refine JC.region ?_ | refine JL.nil ?_ | refine JE.next ?_)
  refine JC.cond rfl (fun hc => ?_) (fun hc => ?_)
  · have hi' : i < vs.length := by have := of_decide_eq_true hc; omega
    clear hc
    cases q with
    | none => have := hq0 rfl; omega
    | some p1 =>
    obtain ⟨b1, c1⟩ := p1
    have hit : i < t.l.length := by omega
    obtain ⟨bt, jt, et, lt, ct⟩ := ht.at hit
    have mt := SlP.get_mem hit
    have okt := ht.all _ mt
    have hpi : vs[i]? = some vs[i] := List.getElem?_eq_getElem hi'
    have hvm : vs[i] ∈ vs := List.getElem_mem hi'
    have hpp : (t.l.getD i noP).p = ⟨vs[i].1, vs[i].2, false⟩ := by
      have h1 : t.ps[i]? = (pairsV vs)[i]? := by rw [heq]
      unfold SlP.ps pairsV at h1
      rw [List.getElem?_map, List.getElem?_map, hpi, List.getElem?_eq_getElem hit] at h1
      have h2 : (t.l[i]).p = ⟨vs[i].1, vs[i].2, false⟩ := by simpa using h1
      rw [List.getD_eq_getElem?_getD, List.getElem?_eq_getElem hit]
      exact h2
    generalize t.l.getD i noP = tp at ct okt hpp
    generalize vs[i] = pv at hpi hvm hpp
    have e1 : tp.key = pv.1 := congrArg Pq.key hpp
    have e2 : tp.s.l = pv.2 := congrArg Pq.val hpp
    have ct0 := ct 0 (Z tp.key) rfl
    have ct1 := ct 1 tp.s.v rfl
    rw [e1] at ct0
    have hkz : ((vs.map Prod.fst).map Z)[i]? = some (Z pv.1) := by rw [List.getElem?_map, List.getElem?_map, hpi]; rfl
    have hav : accV (some (b1, c1)) vs.length = .slice (some ⟨b1, 0, none⟩) vs.length c1 := rfl
    have htv : t.v = .slice (some ⟨bt, jt, none⟩) t.l.length t.cap := by rw [← et]; rfl
    have hlk : (look z.mm pv.1).map Sl8.l = some pv.2 := by rw [look_get k.wf k.srt k.is]; exact (getV_mem k.srt.keys).2 hvm
    have hgl : ((look z.mm pv.1).getD nilS).l = pv.2 ∧ (look z.mm pv.1).isSome = true := by
      cases h : look z.mm pv.1 with
      | none => rw [h] at hlk; cases hlk
      | some sv => rw [h] at hlk; exact ⟨Option.some.inj hlk, rfl⟩
    have hpl : pv.2.length ≤ 1400000 := by have := szV_mem hvm; have := k.sz.1; omega
    repeat (first | refine JL.q (by first | (apply OQ.idxS0 (i := i); exact Try.underlying41; exact strS16; exact (congrArg some hav); exact rfl; exact hi') | (apply OQ.load; exact strC; exact rfl; exact .here; exact (Sl.Own.cell hkz)) | (apply OQ.move; exact rfl) | (apply OQ.assign; exact rfl)) rfl ?_ | refine JC.seq ?_ | refine JC.region ?_ | refine JC.block ?_ | refine JC.skip ?_ | refine JL.nil ?_ | refine JE.next ?_)
    refine JL.callg (ι := {q : Acc // q = none → pv.2 = []}) (vs := [Pt z.p 0, Z pv.1]) (fun q => .tuple #[accV q.1 pv.2.length, .bool true]) (fun q => accE 5 q.1 (pv.2.map U8)) goes_sGet rfl rfl (fun _ => accE_wr _ _ _) (fun w' hw' => ?_) fun q2 => ?_
    · have := get_any z.p z.mb (Pt z.j 0) z.mm z.c pv.1 w' (stR_ro (A := accE 9 (some (b1, c1)) ((vs.map Prod.fst).map Z)) (M := []) (by rw [List.append_nil]; exact hw')) fun x hx => ⟨(hv x hx).holds hw' rfl, by have := k.val hx; omega⟩
      rwa [hgl.1, hgl.2] at this
    obtain ⟨q2, hq2⟩ := q2
    dsimp only
    have cS : ∀ w', Holds w [] (accE 5 q2 (pv.2.map U8) ++ (accE 9 (some (b1, c1)) ((vs.map Prod.fst).map Z) ++ stR z.p z.mb z.cs (z.mm, z.c))) w' → Calls Try.prog 34 [accV q2 pv.2.length, tp.s.v].toArray w' fun e w2 => e = .returned (.bool true) ∧ Ext w' w2 := fun w' hw' => by
      have := same_any (accS q2 pv.2) tp.s w' (acc_ok hw') (okt.holds hw' rfl) (by rw [accS_l hq2]; omega)
      rw [accS_l hq2, e2, accS_v, decide_eq_true rfl] at this
      exact this
    repeat (first | refine JL.q (by first | (apply OQ.extract; exact rfl; exact rfl) | (apply OQ.not; exact rfl) | (apply OQ.idxS (i := i) (b := bt) (j := jt); exact Try.underlying32; exact pr3; exact (congrArg some htv); exact rfl; exact hit) | (apply OQ.load_old; exact strC; exact rfl; exact lt; exact (by simp); exact ct0) | (apply OQ.load_old; exact slCj; exact rfl; exact lt; exact (by simp); exact ct1) | (apply OQ.neZq; exact rfl; exact rfl) | (apply OQ.callx (vs := [accV q2 pv.2.length, tp.s.v]); exact goes_same; exact rfl; exact (fun w' hw' => cS w' hw')) | (apply OQ.pick_f; exact rfl; exact rfl) | (apply OQ.move; exact rfl) | (apply OQ.assign; exact rfl) | (apply OQ.fld; exact rfl; exact rfl; exact rfl; exact (by decide); exact rfl)) rfl ?_ | refine JC.seq ?_ | refine JC.region ?_ | refine JL.nil ?_ | refine JE.next ?_ | refine JL.gon rfl rfl ?_)
    refine JC.cond_false rfl rfl ?_
    repeat (first | refine JL.q (by first | (apply OQ.move; exact rfl) | (apply OQ.addN; exact rfl; exact rfl; exact (by (try simp only []); omega))) rfl ?_ | refine JC.region ?_ | refine JC.skip ?_ | refine JL.nil ?_ | refine JE.next ?_ | refine JE.blk_normal ?_)
    exact JE.again (i := i) (i + 1) hi' (by omega) (by repeat (first | exact SubE.nil | refine SubE.cons _ _ _ rfl ?_)) (less_app _ (Less.refl _))
  · repeat (first | refine JL.q (by (apply OQ.assign; exact rfl)) rfl ?_ | refine JC.seq ?_ | refine JC.region ?_ | refine JC.exit ?_ | refine JL.nil ?_ | refine JE.next ?_ | refine JE.then_exit ?_ | refine JE.blk_hit ?_)
    exact JC.ret (JE.ret1 rfl (RV.tmp rfl) fun w' hw => ⟨rfl, hw.chg⟩)
end Go.Proofs.Ytjkncnbpaejamaa

/-
  Of no statement by itself: the law's Is, whatever the values are.
  Conditions: each theorem's own.
-/
namespace Go.Proofs.Ytjkncnbpaejamaa
set_option maxRecDepth 10000
open Sl Dsk Jrn Sto
set_option maxHeartbeats 32000000 in
theorem is16_tot (z : Sz) (recs : List Bk) (vs : VL) (k : z.ok recs vs) (t : SlP) (w : World) (ht : t.ok w) (h0 : Holds w [] (stR z.p z.mb z.cs (z.mm, z.c)) w) (hv : ∀ x ∈ z.mm.map ME.val, x.ok w) :
    Calls Try.prog 14 [Pt z.p 0, t.v].toArray w fun e w' => (t.ps = pairsV vs → e = .returned (.bool true)) ∧ (∃ c, e = .returned (.bool c)) ∧ Ext w w' := by
  have hkm : keysM z.mm [] = vs.map Prod.fst := by rw [keysM_is k.srt k.is]; exact keysV_all16 vs
  have htl : t.ps = pairsV vs → t.l.length = vs.length := fun heq => by
    have := congrArg List.length heq
    unfold SlP.ps pairsV at this
    rwa [List.length_map, List.length_map] at this
  have hvl : vs.length ≤ 200000 := by rw [← k.len]; exact k.lenb
  refine enter (n := 54) Try.func14 rfl rfl rfl h0 ?_
  repeat (first | refine JL.q (by first | (apply OQ.ptrNil; exact Try.underlying29; exact rfl; exact rfl) | (apply OQ.move; exact rfl) | (apply OQ.assign; exact rfl)) rfl ?_ | refine JC.seq ?_ | refine JC.region ?_ | refine JL.nil ?_ | refine JE.next ?_)
  refine JC.cond_false rfl rfl ?_
  repeat (first | refine JL.q (by (apply OQ.move; exact rfl)) rfl ?_ | refine JC.seq ?_ | refine JC.region ?_ | refine JC.skip ?_ | refine JE.next ?_)
  refine JL.callg (ι := {q : Acc // q = none → keysM z.mm [] = []}) (vs := [Pt z.p 0, Z []]) (fun q => accV q.1 (keysM z.mm []).length) (fun q => accE 9 q.1 ((keysM z.mm []).map Z)) goes_sKeys rfl rfl (fun _ => accE_wr _ _ _) (fun w' hw' => skeys_any z.p z.mb (Pt z.j 0) z.mm z.c [] w' k.wf (stR_ro (A := []) (M := []) (by rw [List.append_nil]; exact hw')) (by have := k.lenb; omega)) fun q => ?_
  obtain ⟨q, hq⟩ := q
  dsimp only
  rw [hkm] at hq ⊢
  rw [List.length_map]
  have hq0 : q = none → vs.length = 0 := fun e => by have := congrArg List.length (hq e); rwa [List.length_map] at this
  cases gl : decide ((vs.length : Int) = (t.l.length : Int))
  case false =>
    repeat (first | refine JL.q (by first | (apply OQ.lenV (q := q) (k := vs.length); exact Try.underlying41; exact hq0; exact rfl) | (apply OQ.len (k := t.l.length) (ad := t.ad) (cap := t.cap); exact Try.underlying32; exact rfl) | (apply OQ.neB (a := (vs.length : Int)) (b := (t.l.length : Int)); exact rfl; exact rfl; exact gl) | (apply OQ.move; exact rfl) | (apply OQ.assign; exact rfl)) rfl ?_ | refine JC.seq ?_ | refine JC.region ?_ | refine JL.nil ?_ | refine JE.next ?_)
    refine JC.cond_true rfl rfl ?_
    repeat (first | refine JL.q (by (apply OQ.assign; exact rfl)) rfl ?_ | refine JC.seq ?_ | refine JC.region ?_ | refine JL.nil ?_ | refine JE.next ?_)
    refine JC.ret ?_
    repeat (refine JE.then_ret ?_)
    exact JE.ret1 rfl (RV.tmp rfl) fun w' hw => ⟨fun h => by have := htl h; have := of_decide_eq_false gl; omega, ⟨_, rfl⟩, hw.chg⟩
  have htl2 : t.l.length = vs.length := by have := of_decide_eq_true gl; omega
  repeat (first | refine JL.q (by first | (apply OQ.lenV (q := q) (k := vs.length); exact Try.underlying41; exact hq0; exact rfl) | (apply OQ.len (k := t.l.length) (ad := t.ad) (cap := t.cap); exact Try.underlying32; exact rfl) | (apply OQ.neB (a := (vs.length : Int)) (b := (t.l.length : Int)); exact rfl; exact rfl; exact gl) | (apply OQ.move; exact rfl) | (apply OQ.assign; exact rfl)) rfl ?_ | refine JC.seq ?_ | refine JC.region ?_ | refine JL.nil ?_ | refine JE.next ?_)
  refine JC.cond_false rfl rfl ?_
  repeat (first | refine JL.q (by first | (apply OQ.lenV (q := q) (k := vs.length); exact Try.underlying41; exact hq0; exact rfl) | (apply OQ.move; exact rfl)) rfl ?_ | refine JC.seq ?_ | refine JC.region ?_ | refine JC.block ?_ | refine JC.skip ?_ | refine JL.nil ?_ | refine JE.next ?_)
  refine JC.loop (fun i : Nat => [(0, Pt z.p 0), (1, t.v), (19, accV q vs.length), (20, N vs.length), (21, N i)]) (fun _ => accE 9 q ((vs.map Prod.fst).map Z) ++ stR z.p z.mb z.cs (z.mm, z.c)) (fun i => vs.length - i) (fun i => i ≤ vs.length) 0 (Nat.zero_le _) (by repeat (first | exact SubE.nil | refine SubE.cons _ _ _ rfl ?_)) (Less.refl _) ?_
  intro i hi
  repeat (first | refine JL.q (by (apply OQ.lssN; exact rfl; exact rfl)) rfl ?_ | refine JC.seq ?_ | refine JC.region ?_ | refine JL.nil ?_ | refine JE.next ?_)
  refine JC.cond rfl (fun hc => ?_) (fun hc => ?_)
  · have hi' : i < vs.length := by have := of_decide_eq_true hc; omega
    clear hc
    cases q with
    | none => have := hq0 rfl; omega
    | some p1 =>
    obtain ⟨b1, cq⟩ := p1
    have hit : i < t.l.length := by omega
    obtain ⟨bt, jt, et, lt, ct⟩ := ht.at hit
    have mt := SlP.get_mem hit
    have okt := ht.all _ mt
    have hpi : vs[i]? = some vs[i] := List.getElem?_eq_getElem hi'
    have hvm : vs[i] ∈ vs := List.getElem_mem hi'
    have hpp : t.ps = pairsV vs → (t.l.getD i noP).p = ⟨vs[i].1, vs[i].2, false⟩ := fun heq => by
      have h1 : t.ps[i]? = (pairsV vs)[i]? := by rw [heq]
      unfold SlP.ps pairsV at h1
      rw [List.getElem?_map, List.getElem?_map, hpi, List.getElem?_eq_getElem hit] at h1
      have h2 : (t.l[i]).p = ⟨vs[i].1, vs[i].2, false⟩ := by simpa using h1
      rw [List.getD_eq_getElem?_getD, List.getElem?_eq_getElem hit]
      exact h2
    generalize t.l.getD i noP = tp at ct okt hpp
    generalize vs[i] = pv at hpi hvm hpp
    obtain ⟨c1, g1⟩ : ∃ c, decide (pv.1 = tp.key) = c := ⟨_, rfl⟩
    obtain ⟨c2, g2⟩ : ∃ c, decide (pv.2 = tp.s.l) = c := ⟨_, rfl⟩
    have hcc : t.ps = pairsV vs → c1 = true ∧ c2 = true := fun heq => by
      have h := hpp heq
      have e1 : tp.key = pv.1 := congrArg Pq.key h
      have e2 : tp.s.l = pv.2 := congrArg Pq.val h
      exact ⟨by rw [← g1]; exact decide_eq_true e1.symm, by rw [← g2]; exact decide_eq_true e2.symm⟩
    have ct0 := ct 0 (Z tp.key) rfl
    have ct1 := ct 1 tp.s.v rfl
    have hkz : ((vs.map Prod.fst).map Z)[i]? = some (Z pv.1) := by rw [List.getElem?_map, List.getElem?_map, hpi]; rfl
    have hav : accV (some (b1, cq)) vs.length = .slice (some ⟨b1, 0, none⟩) vs.length cq := rfl
    have htv : t.v = .slice (some ⟨bt, jt, none⟩) t.l.length t.cap := by rw [← et]; rfl
    have hlk : (look z.mm pv.1).map Sl8.l = some pv.2 := by rw [look_get k.wf k.srt k.is]; exact (getV_mem k.srt.keys).2 hvm
    have hgl : ((look z.mm pv.1).getD nilS).l = pv.2 ∧ (look z.mm pv.1).isSome = true := by
      cases h : look z.mm pv.1 with
      | none => rw [h] at hlk; cases hlk
      | some sv => rw [h] at hlk; exact ⟨Option.some.inj hlk, rfl⟩
    have hpl : pv.2.length ≤ 1400000 := by have := szV_mem hvm; have := k.sz.1; omega
    repeat (first | refine JL.q (by first | (apply OQ.idxS0 (i := i); exact Try.underlying41; exact strS16; exact (congrArg some hav); exact rfl; exact hi') | (apply OQ.load; exact strC; exact rfl; exact .here; exact (Sl.Own.cell hkz)) | (apply OQ.move; exact rfl) | (apply OQ.assign; exact rfl)) rfl ?_ | refine JC.seq ?_ | refine JC.region ?_ | refine JC.block ?_ | refine JC.skip ?_ | refine JL.nil ?_ | refine JE.next ?_)
    refine JL.callg (ι := {q : Acc // q = none → pv.2 = []}) (vs := [Pt z.p 0, Z pv.1]) (fun q => .tuple #[accV q.1 pv.2.length, .bool true]) (fun q => accE 5 q.1 (pv.2.map U8)) goes_sGet rfl rfl (fun _ => accE_wr _ _ _) (fun w' hw' => ?_) fun q2 => ?_
    · have := get_any z.p z.mb (Pt z.j 0) z.mm z.c pv.1 w' (stR_ro (A := accE 9 (some (b1, cq)) ((vs.map Prod.fst).map Z)) (M := []) (by rw [List.append_nil]; exact hw')) fun x hx => ⟨(hv x hx).holds hw' rfl, by have := k.val hx; omega⟩
      rwa [hgl.1, hgl.2] at this
    obtain ⟨q2, hq2⟩ := q2
    dsimp only
    have cS : ∀ w', Holds w [] (accE 5 q2 (pv.2.map U8) ++ (accE 9 (some (b1, cq)) ((vs.map Prod.fst).map Z) ++ stR z.p z.mb z.cs (z.mm, z.c))) w' → Calls Try.prog 34 [accV q2 pv.2.length, tp.s.v].toArray w' fun e w2 => e = .returned (.bool c2) ∧ Ext w' w2 := fun w' hw' => by
      have := same_any (accS q2 pv.2) tp.s w' (acc_ok hw') (okt.holds hw' rfl) (by rw [accS_l hq2]; omega)
      rw [accS_l hq2, accS_v, g2] at this
      exact this
    cases c1 <;> cases c2
    all_goals (repeat (first | refine JL.q (by first | (apply OQ.extract; exact rfl; exact rfl) | (apply OQ.not; exact rfl) | (apply OQ.idxS (i := i) (b := bt) (j := jt); exact Try.underlying32; exact pr3; exact (congrArg some htv); exact rfl; exact hit) | (apply OQ.load_old; exact strC; exact rfl; exact lt; exact (by simp); exact ct0) | (apply OQ.load_old; exact slCj; exact rfl; exact lt; exact (by simp); exact ct1) | (apply OQ.neZB; exact g1; exact rfl; exact rfl) | (apply OQ.callx (vs := [accV q2 pv.2.length, tp.s.v]); exact goes_same; exact rfl; exact (fun w' hw' => cS w' hw')) | (apply OQ.pick_f; exact rfl; exact rfl) | (apply OQ.pick_t; exact rfl; exact rfl) | (apply OQ.move; exact rfl) | (apply OQ.assign; exact rfl) | (apply OQ.fld; exact rfl; exact rfl; exact rfl; exact (by decide); exact rfl)) rfl ?_ | refine JC.seq ?_ | refine JC.region ?_ | refine JL.nil ?_ | refine JE.next ?_ | refine JL.gon rfl rfl ?_ | refine JL.gskip rfl rfl rfl rfl ?_))
    all_goals first
      | (refine JC.cond_false rfl rfl ?_
         repeat (first | refine JL.q (by first | (apply OQ.move; exact rfl) | (apply OQ.addN; exact rfl; exact rfl; exact (by (try simp only []); omega))) rfl ?_ | refine JC.region ?_ | refine JC.skip ?_ | refine JL.nil ?_ | refine JE.next ?_ | refine JE.blk_normal ?_)
         exact JE.again (i := i) (i + 1) hi' (by omega) (by repeat (first | exact SubE.nil | refine SubE.cons _ _ _ rfl ?_)) (less_app _ (Less.refl _)))
      | (refine JC.cond_true rfl rfl ?_
         repeat (first | refine JL.q (by (apply OQ.assign; exact rfl)) rfl ?_ | refine JC.seq ?_ | refine JC.region ?_ | refine JL.nil ?_ | refine JE.next ?_)
         refine JC.ret ?_
         repeat (first | refine JE.then_ret ?_ | refine JE.blk_ret ?_)
         exact JE.ret1 rfl (RV.tmp rfl) fun w' hw => ⟨fun h => by have := hcc h; simp at this, ⟨_, rfl⟩, hw.chg⟩)
  · repeat (first | refine JL.q (by (apply OQ.assign; exact rfl)) rfl ?_ | refine JC.seq ?_ | refine JC.region ?_ | refine JC.exit ?_ | refine JL.nil ?_ | refine JE.next ?_ | refine JE.then_exit ?_ | refine JE.blk_hit ?_)
    exact JC.ret (JE.ret1 rfl (RV.tmp rfl) fun w' hw => ⟨fun _ => rfl, ⟨_, rfl⟩, hw.chg⟩)
end Go.Proofs.Ytjkncnbpaejamaa

/-
  Of no statement by itself: what StoreLast gives.
  Conditions: each theorem's own.
-/
namespace Go.Proofs.Ytjkncnbpaejamaa
set_option maxRecDepth 10000
open Sl Dsk Jrn Sto
theorem Step.keep {z z' : Sz} {recs recs' : List Bk} {vs vs' : VL} {ps : List Pq} {code : Nat} (st : Step z recs vs ps code z' recs' vs') (k : z.ok recs vs) (hg : z.h.g.toNat < 4294967295) :
    z'.h.size = z.h.size ∧ z'.h.x.p = z.h.x.p ∧ z'.h.g.toNat ≤ z.h.g.toNat + 1 := by
  obtain ⟨_, _, st⟩ := st
  rcases st with ⟨rfl, _⟩ | ⟨_, _, _, ⟨_, e, _⟩ | ⟨_, _, e, _⟩⟩
  · exact ⟨rfl, rfl, Nat.le_succ _⟩
  · rw [e]; exact ⟨rfl, rfl, Nat.le_succ _⟩
  · rw [e]; exact ⟨rfl, rfl, gm_succ k.jv.gm_le hg⟩
theorem Step.zero {z z' : Sz} {recs recs' : List Bk} {vs vs' : VL} {ps : List Pq} {code : Nat} (st : Step z recs vs ps code z' recs' vs') (k : z.ok recs vs) (hok : okL ps = true) (hs : nb (baseOf vs ps).length ≤ z.h.size) (hg : z.h.g.toNat < 4294967295) : code = 0 ∧ vs' = doL vs ps := by
  obtain ⟨_, _, st⟩ := st
  rcases st with ⟨_, _, _, h | h⟩ | ⟨_, h1, h2, _⟩
  · rw [hok] at h; exact absurd h.1 (by decide)
  · rcases h.2.2.2 with h | h
    · omega
    · have := k.jv.gm_le
      rw [h, show (4294967295#32).toNat = 4294967295 from rfl] at this
      omega
  · exact ⟨h1, h2⟩
theorem perm_z (z : Sz) (R : List Ent) : (z.E ++ R).Perm (dkE z.h.x z.bl [] ++ (⟨z.p, Row 72 z.cs, true⟩ :: ⟨z.mb, MvB (z.mm, z.c), true⟩ :: ⟨z.j, Row 104 (hfc z.h), true⟩ :: (flatE (z.mm.map ME.val) ++ R))) := by
  have := List.perm_append_comm_assoc [⟨z.p, Row 72 z.cs, true⟩, ⟨z.mb, MvB (z.mm, z.c), true⟩, ⟨z.j, Row 104 (hfc z.h), true⟩] (dkE z.h.x z.bl []) (flatE (z.mm.map ME.val) ++ R)
  unfold Sz.E jnE
  simpa using this
structure Ks16 where
  i : Nat
  z : Sz
  recs : List Bk
  q : Option Bk
end Go.Proofs.Ytjkncnbpaejamaa

/-
  Of no statement by itself: what a plain row's proof opens its arguments with (keys, bytes, slices of bytes and of int).
  Conditions: each theorem's own.
-/
namespace Go.Proofs.Ytjkncnbpaejamaa
set_option maxRecDepth 10000
open Go.ChangeShapes Go.WideShapes Go.ChangeAt Go.RowKit
open Sl
set_option linter.unusedVariables false
theorem ownQ : ownKnob Try.prog.godebug = none := by kernel_rfl
theorem laidOutQ : laidOutB Try.prog = true := by kernel_rfl
theorem u8_of {z : Int} (h : (Lit.int .u8 z).wf = true) : U8 (BitVec.ofInt 8 z) = .int .u8 z := by
  have h0 : 0 ≤ z ∧ z ≤ 255 := by
    have h1 : (decide (0 ≤ z) && decide (z ≤ 255)) = true := h
    simpa using h1
  have h2 : ((BitVec.ofInt 8 z).toNat : Int) = z := by
    rw [BitVec.toNat_ofInt]
    omega
  unfold U8
  rw [h2]
def fldIs (P : Program) (t : TypeId) (i : Nat) (ty : TypeId) (off : Nat) : Bool := match (P.fieldsOf t)[i]? with
  | some f => f.type == ty && f.offset == off
  | none => false
theorem fldIs_get {P : Program} {t : TypeId} {i : Nat} {ty : TypeId} {off : Nat} (h : fldIs P t i ty off = true) : ∃ f, (P.fieldsOf t)[i]? = some f ∧ f.type = ty ∧ f.offset = off := by
  unfold fldIs at h
  split at h
  · next f e =>
    simp only [Bool.and_eq_true, beq_iff_eq] at h
    exact ⟨f, e, h.1, h.2⟩
  · cases h
def bits8 (zs : List Int) : List (BitVec 8) := zs.map (BitVec.ofInt 8)
theorem sl8_of {H : Type} {enc : TypeId × Value → H} {W : World} {fuel : Nat} {v : Value} {x : DataW H × List MemPlace} (h : DataW.trod enc Try.prog W 0 (fun _ => true) true fuel 33 [v] = some x) : ∃ k : Sl8, v = k.v ∧ k.ok W ∧ k.cap ≤ maxLen := by
  rcases open_ints (show Try.prog.underlying 33 = some (.slice 5) by kernel_rfl) (show Try.prog.underlying 5 = some (.int .u8) by kernel_rfl) (by kernel_rfl) h with ⟨hcs, _⟩ | ⟨x, l, c, zs, hcs, _, hl, hm, hz, _, hcell, hwz⟩
  · cases hcs
    exact ⟨⟨none, 0, []⟩, rfl, ⟨by simp, Reads.nil _ _⟩, by decide⟩
  · cases hcs
    simp only [if_true] at hz
    have hlen : (bits8 (zs.take l)).length = l := by simp [bits8]; omega
    refine ⟨⟨some x, c, bits8 (zs.take l)⟩, by simp [Sl8.v, hlen], ⟨by rw [hlen]; exact hl, ?_⟩, hm⟩
    intro i v hv
    have hi : i < l := by
      have := (List.getElem?_eq_some_iff.1 hv).1
      simpa [hlen] using this
    have hc := hcell i (by omega)
    obtain ⟨b, o, sp⟩ := x
    cases sp with
    | some s =>
      have hc := hcell 0 (by omega)
      simp only [World.cell?, Addr.add, if_true] at hc
      split at hc <;> simp at hc
    | none =>
      refine ⟨b, o, rfl, ?_⟩
      have e1 : zs.getD i 0 = zs[i]'(by omega) := by simp [List.getD, show i < zs.length by omega]
      have e2 := u8_of (hwz (zs[i]'(by omega)) (List.getElem_mem _))
      have e3 : v = .int .u8 (zs.getD i 0) := by
        simp only [bits8, List.map_map, List.getElem?_map, List.getElem?_take] at hv
        rw [if_pos hi, List.getElem?_eq_getElem (by omega)] at hv
        simp only [Option.map_some, Function.comp, Option.some.injEq] at hv
        rw [← hv, e2, e1]
      rw [e3]
      have e4 : (⟨b, o, none⟩ : Addr).add i = ⟨b, o + i, none⟩ := by
        unfold Addr.add
        split
        · subst i; rfl
        · rfl
      rw [e4] at hc
      exact hc
end Go.Proofs.Ytjkncnbpaejamaa

/-
  Of no statement by itself: what a row's proof opens a slice of elements of many cells with, whatever they are.
  Conditions: each theorem's own.
-/
namespace Go.Proofs.Ytjkncnbpaejamaa
set_option maxRecDepth 10000
open Go.ChangeShapes Go.WideShapes Go.ChangeAt Go.RowKit
open Sl
set_option linter.unusedVariables false
theorem elems_of {α : Type} {H : Type} {enc : TypeId × Value → H} {W : World} {base fuel k : Nat} {t e : TypeId} {v : Value} {x : DataW H × List MemPlace} (cs : α → List Value) (P : α → Prop) (c0 : α) (hk0 : 0 < k)
    (hu : Try.prog.underlying t = some (.slice e)) (hc1 : Try.prog.cellsOf e = k) (hlen : ∀ c, P c → (cs c).length = k)
    (hel : ∀ (l : List Value) (fuel : Nat) (x : DataW H × List MemPlace), l.length = k → DataW.trod enc Try.prog W 0 (fun _ => true) true fuel e l = some x → ∃ c, l = cs c ∧ P c)
    (hok : Value.okWide Try.prog W .any base t v) (h : DataW.trod enc Try.prog W 0 (fun _ => true) true fuel t v.cells.toList = some x) :
    ∃ (ad : Option Addr) (cap : Nat) (l : List α), v = .slice ad l.length cap ∧ l.length ≤ cap ∧ Reads W ad (l.map cs).flatten ∧ ∀ c ∈ l, P c := by
  obtain ⟨a, l, c, rfl⟩ := okWide_slice hu hok
  rcases Go.Deep.open_slice hu h with ⟨hcs, _⟩ | ⟨a', len, cap, m, n, D, Pl, hcs, _, hl, hm, hmm, hxx, hel'⟩
  · cases hcs
    exact ⟨none, 0, [], rfl, Nat.le_refl _, Reads.nil _ _, nofun⟩
  · cases hcs
    simp only [if_true] at hmm
    subst hmm
    simp only [hc1] at hel'
    have hk : ∀ i, ∃ c : α, i < l → (∀ j u, (cs c)[j]? = some u → W.cell? ((a'.add (i * k)).add j) = some u) ∧ P c := by
      intro i
      by_cases hi : i < l
      · obtain ⟨cs', h1, h2⟩ := hel' i (by omega)
        obtain ⟨_, hlen', hcell⟩ := World.cells?_some h1
        obtain ⟨c, rfl, hp⟩ := hel _ _ _ hlen' h2
        refine ⟨c, fun _ => ⟨fun j u hu => ?_, hp⟩⟩
        have hj : j < (cs c).length := (List.getElem?_eq_some_iff.1 hu).1
        rw [hcell j (by omega)]
        exact hu
      · exact ⟨c0, fun h => absurd h hi⟩
    let f : Nat → α := fun i => Classical.choose (hk i)
    have hf : ∀ i, i < l → (∀ j u, (cs (f i))[j]? = some u → W.cell? ((a'.add (i * k)).add j) = some u) ∧ P (f i) := fun i => Classical.choose_spec (hk i)
    refine ⟨some a', m, (List.range l).map f, by simp, by simpa using hl, ?_, ?_⟩
    · intro i u hu
      have hcss : ∀ q ∈ ((List.range l).map f).map cs, q.length = k := by
        intro q hq
        obtain ⟨d, hd, rfl⟩ := List.mem_map.1 hq
        obtain ⟨j, hj, rfl⟩ := List.mem_map.1 hd
        exact hlen _ (hf j (List.mem_range.1 hj)).2
      have hlen2 := chunk_len hcss
      have hi : i < (((List.range l).map f).map cs).flatten.length := (List.getElem?_eq_some_iff.1 hu).1
      rw [hlen2] at hi
      simp only [List.length_map, List.length_range] at hi
      have hq : i / k < l := Nat.div_lt_of_lt_mul (by rw [Nat.mul_comm]; exact hi)
      have hr : i % k < k := Nat.mod_lt _ hk0
      have hat := chunk_at (i := i / k) hcss (by simpa using hq)
      have e2 : (((List.range l).map f).map cs).getD (i / k) [] = cs (f (i / k)) := by simp [hq]
      rw [e2] at hat
      have hdm : i / k * k + i % k = i := by rw [Nat.mul_comm]; exact Nat.div_add_mod i k
      have hu2 : (cs (f (i / k)))[i % k]? = some u := by
        rw [← hat, List.getElem?_take, if_pos hr, List.getElem?_drop, hdm]
        exact hu
      have hc := (hf (i / k) hq).1 (i % k) u hu2
      obtain ⟨b, o, sp⟩ := a'
      cases sp with
      | some s =>
        exfalso
        have h0 := hf 0 (Nat.lt_of_le_of_lt (Nat.zero_le _) hq)
        have hl0 := hlen _ h0.2
        obtain ⟨u0, hu0⟩ : ∃ u0, (cs (f 0))[0]? = some u0 := ⟨_, List.getElem?_eq_getElem (by omega)⟩
        have h00 := h0.1 0 u0 hu0
        simp only [World.cell?, Addr.add, Nat.zero_mul, if_true] at h00
        split at h00 <;> simp at h00
      | none =>
        refine ⟨b, o, rfl, ?_⟩
        rw [add_off, add_off, Nat.add_assoc, hdm] at hc
        exact hc
    · intro d hd
      obtain ⟨j, hj, rfl⟩ := List.mem_map.1 hd
      exact (hf j (List.mem_range.1 hj)).2
/-- a field of a struct that is opened -/
theorem fieldsW {H : Type} {enc : TypeId × Value → H} {W : World} {fuel nf : Nat} {t : TypeId} {cs : List Value} {x : DataW H × List MemPlace} (ht : Try.prog.underlying t = some (.struct (Try.prog.fieldsOf t))) (hsz : (Try.prog.fieldsOf t).size = nf)
    (h : DataW.trod enc Try.prog W 0 (fun _ => true) true fuel t cs = some x) : ∃ n, ∀ {i ty off}, fldIs Try.prog t i ty off = true → i < nf → ∃ y, DataW.trod enc Try.prog W 0 (fun _ => true) true n ty ((cs.drop off).take (Try.prog.cellsOf ty)) = some y := by
  obtain ⟨xs, n, _, _, _, hlen, hf⟩ := DataW.trod_struct ht h
  rw [hsz] at hlen
  refine ⟨n, fun {i ty off} h1 h2 => ?_⟩
  obtain ⟨f, e1, rfl, rfl⟩ := fldIs_get h1
  exact ⟨xs[i], by rw [hf i f e1, List.getElem?_eq_getElem (by omega)]⟩
theorem one_of {cs : List Value} {off : Nat} (h : off < cs.length) : ∃ v, (cs.drop off).take 1 = [v] ∧ cs[off]? = some v :=
  ⟨cs[off], by rw [List.drop_eq_getElem_cons h, List.take_succ_cons, List.take_zero], List.getElem?_eq_getElem h⟩
end Go.Proofs.Ytjkncnbpaejamaa

/-
  Of no statement by itself: slices of slices of pairs, as arguments; what a row's proof opens slices of pairs with.
  Conditions: each theorem's own.
-/
namespace Go.Proofs.Ytjkncnbpaejamaa
set_option maxRecDepth 10000
open Go.ChangeShapes Go.WideShapes Go.ChangeAt Go.RowKit
open Sl Dsk Jrn Sto
set_option linter.unusedVariables false
/-- a slice of slices of pairs -/
structure SlQ where
  ad : Option Addr
  cap : Nat
  l : List SlP
def SlQ.v (s : SlQ) : Value := .slice s.ad s.l.length s.cap
structure SlQ.ok (w : World) (s : SlQ) : Prop where
  len : s.l.length ≤ s.cap
  reads : Reads w s.ad (s.l.map SlP.v)
  all : ∀ p ∈ s.l, p.ok w
def noSlP : SlP := ⟨none, 0, []⟩
theorem flat_one16 {α : Type} (f : α → Value) : ∀ l : List α, (l.map fun a => [f a]).flatten = l.map f
  | [] => rfl
  | a :: l => by rw [List.map_cons, List.flatten_cons, flat_one16 f l]; rfl
theorem elems_in {α : Type} {H : Type} {enc : TypeId × Value → H} {W : World} {fuel k : Nat} {t e : TypeId} {v : Value} {x : DataW H × List MemPlace} (cs : α → List Value) (P : α → Prop) (c0 : α) (hk0 : 0 < k)
    (hu : Try.prog.underlying t = some (.slice e)) (hc1 : Try.prog.cellsOf e = k) (hlen : ∀ c, P c → (cs c).length = k)
    (hel : ∀ (l : List Value) (fuel : Nat) (x : DataW H × List MemPlace), l.length = k → DataW.trod enc Try.prog W 0 (fun _ => true) true fuel e l = some x → ∃ c, l = cs c ∧ P c)
    (h : DataW.trod enc Try.prog W 0 (fun _ => true) true fuel t [v] = some x) :
    ∃ (ad : Option Addr) (cap : Nat) (l : List α), v = .slice ad l.length cap ∧ l.length ≤ cap ∧ Reads W ad (l.map cs).flatten ∧ ∀ c ∈ l, P c := by
  rcases Go.Deep.open_slice hu h with ⟨hcs, _⟩ | ⟨a', l, cap, m, n, D, Pl, hcs, _, hl, hm, hmm, hxx, hel'⟩
  · cases hcs
    exact ⟨none, 0, [], rfl, Nat.le_refl _, Reads.nil _ _, nofun⟩
  · cases hcs
    simp only [if_true] at hmm
    subst hmm
    simp only [hc1] at hel'
    have hk : ∀ i, ∃ c : α, i < l → (∀ j u, (cs c)[j]? = some u → W.cell? ((a'.add (i * k)).add j) = some u) ∧ P c := by
      intro i
      by_cases hi : i < l
      · obtain ⟨cs', h1, h2⟩ := hel' i (by omega)
        obtain ⟨_, hlen', hcell⟩ := World.cells?_some h1
        obtain ⟨c, rfl, hp⟩ := hel _ _ _ hlen' h2
        refine ⟨c, fun _ => ⟨fun j u hu => ?_, hp⟩⟩
        have hj : j < (cs c).length := (List.getElem?_eq_some_iff.1 hu).1
        rw [hcell j (by omega)]
        exact hu
      · exact ⟨c0, fun h => absurd h hi⟩
    let f : Nat → α := fun i => Classical.choose (hk i)
    have hf : ∀ i, i < l → (∀ j u, (cs (f i))[j]? = some u → W.cell? ((a'.add (i * k)).add j) = some u) ∧ P (f i) := fun i => Classical.choose_spec (hk i)
    refine ⟨some a', m, (List.range l).map f, by simp, by simpa using hl, ?_, ?_⟩
    · intro i u hu
      have hcss : ∀ q ∈ ((List.range l).map f).map cs, q.length = k := by
        intro q hq
        obtain ⟨d, hd, rfl⟩ := List.mem_map.1 hq
        obtain ⟨j, hj, rfl⟩ := List.mem_map.1 hd
        exact hlen _ (hf j (List.mem_range.1 hj)).2
      have hlen2 := chunk_len hcss
      have hi : i < (((List.range l).map f).map cs).flatten.length := (List.getElem?_eq_some_iff.1 hu).1
      rw [hlen2] at hi
      simp only [List.length_map, List.length_range] at hi
      have hq : i / k < l := Nat.div_lt_of_lt_mul (by rw [Nat.mul_comm]; exact hi)
      have hr : i % k < k := Nat.mod_lt _ hk0
      have hat := chunk_at (i := i / k) hcss (by simpa using hq)
      have e2 : (((List.range l).map f).map cs).getD (i / k) [] = cs (f (i / k)) := by simp [hq]
      rw [e2] at hat
      have hdm : i / k * k + i % k = i := by rw [Nat.mul_comm]; exact Nat.div_add_mod i k
      have hu2 : (cs (f (i / k)))[i % k]? = some u := by
        rw [← hat, List.getElem?_take, if_pos hr, List.getElem?_drop, hdm]
        exact hu
      have hc := (hf (i / k) hq).1 (i % k) u hu2
      obtain ⟨b, o, sp⟩ := a'
      cases sp with
      | some s =>
        exfalso
        have h0 := hf 0 (Nat.lt_of_le_of_lt (Nat.zero_le _) hq)
        have hl0 := hlen _ h0.2
        obtain ⟨u0, hu0⟩ : ∃ u0, (cs (f 0))[0]? = some u0 := ⟨_, List.getElem?_eq_getElem (by omega)⟩
        have h00 := h0.1 0 u0 hu0
        simp only [World.cell?, Addr.add, Nat.zero_mul, if_true] at h00
        split at h00 <;> simp at h00
      | none =>
        refine ⟨b, o, rfl, ?_⟩
        rw [add_off, add_off, Nat.add_assoc, hdm] at hc
        exact hc
    · intro d hd
      obtain ⟨j, hj, rfl⟩ := List.mem_map.1 hd
      exact (hf j (List.mem_range.1 hj)).2
theorem pair_in {H : Type} {enc : TypeId × Value → H} {W : World} (l : List Value) (fuel : Nat) (x : DataW H × List MemPlace) (hl : l.length = 3) (hx : DataW.trod enc Try.prog W 0 (fun _ => true) true fuel 44 l = some x) : ∃ c : PqS, l = c.cs ∧ c.s.ok W := by
  obtain ⟨n, g⟩ := fieldsW (nf := 3) (by kernel_rfl) (by kernel_rfl) hx
  have c0 : Try.prog.cellsOf 9 = 1 := by kernel_rfl
  have c1 : Try.prog.cellsOf 33 = 1 := by kernel_rfl
  have c2 : Try.prog.cellsOf 4 = 1 := by kernel_rfl
  have hi : Try.prog.underlying 9 = some .string := by kernel_rfl
  have hb : Try.prog.underlying 4 = some .bool := by kernel_rfl
  obtain ⟨y0, g0⟩ := g (i := 0) (ty := 9) (off := 0) (by kernel_rfl) (by decide)
  obtain ⟨y1, g1⟩ := g (i := 1) (ty := 33) (off := 1) (by kernel_rfl) (by decide)
  obtain ⟨y2, g2⟩ := g (i := 2) (ty := 4) (off := 2) (by kernel_rfl) (by decide)
  rw [c0] at g0
  rw [c1] at g1
  rw [c2] at g2
  obtain ⟨z0, q0, _, _⟩ := DataW.trod_string hi g0
  obtain ⟨z2, q2, _⟩ := DataW.trod_bool hb g2
  obtain ⟨v, hv, _⟩ := one_of (off := 1) (by omega : 1 < l.length)
  rw [hv] at g1
  obtain ⟨k, rfl, hk, _⟩ := sl8_of g1
  refine ⟨⟨bytesOf z0, k, z2⟩, ?_, hk⟩
  have hz : Value.string z0 = Z (bytesOf z0) := by show _ = Value.string _; rw [strB_bytesOf]
  match l, hl, q0, q2, hv with
  | [a, b, c], _, q0, q2, hv =>
    simp at q0 q2 hv
    rw [q0, q2, hv, hz]
    rfl
theorem pairs_in {H : Type} {enc : TypeId × Value → H} {W : World} {fuel : Nat} {v : Value} {x : DataW H × List MemPlace} (h : DataW.trod enc Try.prog W 0 (fun _ => true) true fuel 32 [v] = some x) :
    ∃ k : SlP, v = k.v ∧ k.ok W := by
  obtain ⟨ad, cap, l, e, h1, h2, h3⟩ := elems_in (k := 3) (e := 44) PqS.cs (fun c => c.s.ok W) noP (by decide) (by kernel_rfl) (by kernel_rfl) (fun c _ => rfl) pair_in h
  exact ⟨⟨ad, cap, l⟩, e, ⟨h1, h2, h3⟩⟩
theorem pairs_of {H : Type} {enc : TypeId × Value → H} {W : World} {base fuel : Nat} {v : Value} {x : DataW H × List MemPlace} (hok : Value.okWide Try.prog W .any base 32 v) (h : DataW.trod enc Try.prog W 0 (fun _ => true) true fuel 32 v.cells.toList = some x) :
    ∃ k : SlP, v = k.v ∧ k.ok W := by
  obtain ⟨a, l, c, rfl⟩ := okWide_slice (show Try.prog.underlying 32 = some (.slice 44) by kernel_rfl) hok
  exact pairs_in h
theorem lists_of {H : Type} {enc : TypeId × Value → H} {W : World} {base fuel : Nat} {v : Value} {x : DataW H × List MemPlace} (hok : Value.okWide Try.prog W .any base 22 v) (h : DataW.trod enc Try.prog W 0 (fun _ => true) true fuel 22 v.cells.toList = some x) :
    ∃ k : SlQ, v = k.v ∧ k.ok W := by
  obtain ⟨ad, cap, l, e, h1, h2, h3⟩ := elems_of (k := 1) (e := 32) (fun s : SlP => [s.v]) (fun s => s.ok W) noSlP (by decide) (by kernel_rfl) (by kernel_rfl) (fun c _ => rfl)
    (fun l fuel x hl hx => by
      match l, hl with
      | [v], _ =>
        obtain ⟨k, rfl, hk⟩ := pairs_in hx
        exact ⟨k, rfl, hk⟩) hok h
  rw [flat_one16] at h2
  exact ⟨⟨ad, cap, l⟩, e, ⟨h1, h2, h3⟩⟩
end Go.Proofs.Ytjkncnbpaejamaa

/-
  Of no statement by itself: the law's Great, great.
  Conditions: each theorem's own.
-/
namespace Go.Proofs.Ytjkncnbpaejamaa
set_option maxRecDepth 10000
open Sl Dsk Jrn Sto
def gPq (p : Pq) : Bool := decide ((1100 : Int) < (p.key.length : Int)) || decide ((2000 : Int) < (p.val.length : Int))
def gP (l : List Pq) : Bool := decide ((20 : Int) < (l.length : Int)) || l.any gPq
def gQ (l : List (List Pq)) : Bool := decide ((30 : Int) < (l.length : Int)) || l.any gP
theorem gP_no {l : List Pq} (h : gP l = false) : l.length ≤ 20 ∧ szL l ≤ 70000 ∧ ∀ p ∈ l, p.key.length ≤ 1100 ∧ p.val.length ≤ 2000 := by
  unfold gP at h
  rw [Bool.or_eq_false_iff] at h
  have h1 : l.length ≤ 20 := by have := of_decide_eq_false h.1; omega
  have h2 : ∀ p ∈ l, p.key.length ≤ 1100 ∧ p.val.length ≤ 2000 := fun p hp => by
    have := List.any_eq_false.1 h.2 p hp
    unfold gPq at this
    simp only [Bool.not_eq_true, Bool.or_eq_false_iff, decide_eq_false_iff_not] at this
    omega
  refine ⟨h1, ?_, h2⟩
  have : ∀ l : List Pq, (∀ p ∈ l, p.key.length ≤ 1100 ∧ p.val.length ≤ 2000) → szL l ≤ 3107 * l.length := by
    intro l
    induction l with
    | nil => intro _; simp [szL]
    | cons p l ih =>
      intro h
      have h3 := h p (by simp)
      have h4 := ih fun q hq => h q (by simp [hq])
      rw [szL_cons, List.length_cons]
      unfold szP
      omega
  have := this l h2
  omega
theorem goes_Great : Goes Try.prog 16 := ⟨_, Try.func16, rfl, by kernel_rfl⟩
theorem goes_great16 : Goes Try.prog 7 := ⟨_, Try.func7, rfl, by kernel_rfl⟩
theorem any_take {α : Type} {l : List α} {f : α → Bool} {i : Nat} {a : α} (h : (l.take i).any f = false) (ht : l.take (i + 1) = l.take i ++ [a]) (ha : f a = false) : (l.take (i + 1)).any f = false := by
  rw [ht, List.any_append, h]
  simp [ha]
set_option maxHeartbeats 16000000 in
theorem Great_any (s : SlP) (w : World) (hs : s.ok w) : Calls Try.prog 16 [s.v].toArray w fun e w' => e = .returned (.bool (gP s.ps)) ∧ Ext w w' := by
  have hpl : s.ps.length = s.l.length := by unfold SlP.ps; rw [List.length_map]
  refine enter (n := 25) Try.func16 rfl rfl rfl (Holds.start w []) ?_
  unfold gP
  rw [hpl]
  cases g1 : decide ((20 : Int) < (s.l.length : Int))
  case true =>
    repeat (first | refine JL.q (by first | (apply OQ.len (k := s.l.length) (ad := s.ad) (cap := s.cap); exact Try.underlying32; exact rfl) | (apply OQ.gtrB (b := 20); exact rfl; exact rfl; exact g1) | (apply OQ.move; exact rfl) | (apply OQ.assign; exact rfl)) rfl ?_ | refine JC.seq ?_ | refine JC.region ?_ | refine JL.nil ?_ | refine JE.next ?_)
    refine JC.cond_true rfl rfl ?_
    repeat (first | refine JL.q (by (apply OQ.assign; exact rfl)) rfl ?_ | refine JC.seq ?_ | refine JC.region ?_ | refine JL.nil ?_ | refine JE.next ?_)
    refine JC.ret ?_
    repeat (refine JE.then_ret ?_)
    exact JE.ret1 rfl (RV.tmp rfl) fun w' hw => ⟨rfl, hw.chg⟩
  rw [Bool.false_or]
  have hn : s.l.length ≤ 20 := by have := of_decide_eq_false g1; omega
  repeat (first | refine JL.q (by first | (apply OQ.len (k := s.l.length) (ad := s.ad) (cap := s.cap); exact Try.underlying32; exact rfl) | (apply OQ.gtrB (b := 20); exact rfl; exact rfl; exact g1) | (apply OQ.move; exact rfl) | (apply OQ.assign; exact rfl)) rfl ?_ | refine JC.seq ?_ | refine JC.region ?_ | refine JL.nil ?_ | refine JE.next ?_)
  refine JC.cond_false rfl rfl ?_
  repeat (first | refine JL.q (by first | (apply OQ.len (k := s.l.length) (ad := s.ad) (cap := s.cap); exact Try.underlying32; exact rfl) | (apply OQ.move; exact rfl)) rfl ?_ | refine JC.seq ?_ | refine JC.region ?_ | refine JC.block ?_ | refine JC.skip ?_ | refine JL.nil ?_ | refine JE.next ?_)
  refine JC.loop (fun i : Nat => [(8, s.v), (9, N s.l.length), (10, N i)]) (fun _ => []) (fun i => s.l.length - i) (fun i => i ≤ s.l.length ∧ (s.ps.take i).any gPq = false) 0 ⟨Nat.zero_le _, rfl⟩ (by repeat (first | exact SubE.nil | refine SubE.cons _ _ _ rfl ?_)) (.nil _) ?_
  rintro i ⟨hi, hav⟩
  repeat (first | refine JL.q (by (apply OQ.lssN; exact rfl; exact rfl)) rfl ?_ | refine JC.seq ?_ | refine JC.region ?_ | refine JL.nil ?_ | refine JE.next ?_)
  refine JC.cond rfl (fun hc => ?_) (fun hc => ?_)
  · have hi' : i < s.l.length := Nat.lt_of_not_le fun h => by have := of_decide_eq_true hc; omega
    clear hc
    obtain ⟨b, j, e, lb, c⟩ := hs.at hi'
    have hm := SlP.get_mem hi'
    have ht := SlP.take1 hi'
    generalize s.l.getD i noP = p at c hm ht
    have hsv : s.v = .slice (some ⟨b, j, none⟩) s.l.length s.cap := by rw [← e]; rfl
    rw [hsv]
    repeat (first | refine JL.q (by first | (apply OQ.idxS (i := i); exact Try.underlying32; exact pr3; exact rfl; exact rfl; exact hi') | (apply OQ.load_agg_old (cs := p.cs); exact prAg; exact rfl; exact pr3; exact lb; exact (by simp); exact c)) rfl ?_ | refine JC.seq ?_ | refine JC.region ?_ | refine JC.block ?_ | refine JC.skip ?_ | refine JE.next ?_)
    rw [← hsv]
    refine JL.alloc prZ rfl fun b6 _ => ?_
    refine JL.store_all (cs := p.cs) pr3 rfl rfl rfl p.one .here rfl ?_
    cases g2 : decide ((1100 : Int) < (p.key.length : Int))
    case true =>
      have ha : s.ps.any gPq = true := List.any_eq_true.2 ⟨p.p, List.mem_of_mem_take (i := i + 1) (by rw [ht]; simp), by unfold gPq; rw [show decide ((1100 : Int) < (p.p.key.length : Int)) = true from g2]; rfl⟩
      rw [ha]
      repeat (first | refine JL.q (by first | (apply OQ.load; exact strC; exact rfl; exact .here; exact (Row.cell (v := Z p.key) rfl)) | (apply OQ.lenS; exact Try.underlying9; exact rfl) | (apply OQ.gtrB (b := 1100); exact rfl; exact rfl; exact g2) | (apply OQ.pick_t; exact rfl; exact rfl) | (apply OQ.move; exact rfl) | (apply OQ.fld; exact rfl; exact rfl; exact rfl; exact (by decide); exact rfl)) rfl ?_ | refine JC.seq ?_ | refine JC.region ?_ | refine JL.nil ?_ | refine JE.next ?_ | refine JL.gskip rfl rfl rfl rfl ?_)
      refine JC.cond_true rfl rfl ?_
      repeat (first | refine JL.q (by (apply OQ.assign; exact rfl)) rfl ?_ | refine JC.seq ?_ | refine JC.region ?_ | refine JL.nil ?_ | refine JE.next ?_)
      refine JC.ret ?_
      repeat (first | refine JE.then_ret ?_ | refine JE.blk_ret ?_)
      exact JE.ret1 rfl (RV.tmp rfl) fun w' hw => ⟨rfl, hw.chg⟩
    case false =>
      cases g3 : decide ((2000 : Int) < (p.s.l.length : Int))
      case true =>
        have ha : s.ps.any gPq = true := List.any_eq_true.2 ⟨p.p, List.mem_of_mem_take (i := i + 1) (by rw [ht]; simp), by unfold gPq; rw [show decide ((1100 : Int) < (p.p.key.length : Int)) = false from g2, show decide ((2000 : Int) < (p.p.val.length : Int)) = true from g3]; rfl⟩
        rw [ha]
        repeat (first | refine JL.q (by first | (apply OQ.load; exact strC; exact rfl; exact .here; exact (Row.cell (v := Z p.key) rfl)) | (apply OQ.lenS; exact Try.underlying9; exact rfl) | (apply OQ.gtrB (b := 1100); exact rfl; exact rfl; exact g2) | (apply OQ.load; exact slCj; exact rfl; exact .here; exact (Row.cell (v := p.s.v) rfl)) | (apply OQ.len (k := p.s.l.length) (ad := p.s.ad) (cap := p.s.cap); exact Try.underlying33; exact rfl) | (apply OQ.gtrB (b := 2000); exact rfl; exact rfl; exact g3) | (apply OQ.pick_f; exact rfl; exact rfl) | (apply OQ.move; exact rfl) | (apply OQ.fld; exact rfl; exact rfl; exact rfl; exact (by decide); exact rfl)) rfl ?_ | refine JC.seq ?_ | refine JC.region ?_ | refine JL.nil ?_ | refine JE.next ?_ | refine JL.gon rfl rfl ?_)
        refine JC.cond_true rfl rfl ?_
        repeat (first | refine JL.q (by (apply OQ.assign; exact rfl)) rfl ?_ | refine JC.seq ?_ | refine JC.region ?_ | refine JL.nil ?_ | refine JE.next ?_)
        refine JC.ret ?_
        repeat (first | refine JE.then_ret ?_ | refine JE.blk_ret ?_)
        exact JE.ret1 rfl (RV.tmp rfl) fun w' hw => ⟨rfl, hw.chg⟩
      case false =>
        repeat (first | refine JL.q (by first | (apply OQ.load; exact strC; exact rfl; exact .here; exact (Row.cell (v := Z p.key) rfl)) | (apply OQ.lenS; exact Try.underlying9; exact rfl) | (apply OQ.gtrB (b := 1100); exact rfl; exact rfl; exact g2) | (apply OQ.load; exact slCj; exact rfl; exact .here; exact (Row.cell (v := p.s.v) rfl)) | (apply OQ.len (k := p.s.l.length) (ad := p.s.ad) (cap := p.s.cap); exact Try.underlying33; exact rfl) | (apply OQ.gtrB (b := 2000); exact rfl; exact rfl; exact g3) | (apply OQ.pick_f; exact rfl; exact rfl) | (apply OQ.move; exact rfl) | (apply OQ.fld; exact rfl; exact rfl; exact rfl; exact (by decide); exact rfl)) rfl ?_ | refine JC.seq ?_ | refine JC.region ?_ | refine JL.nil ?_ | refine JE.next ?_ | refine JL.gon rfl rfl ?_)
        refine JC.cond_false rfl rfl ?_
        repeat (first | refine JL.q (by first | (apply OQ.move; exact rfl) | (apply OQ.addN; exact rfl; exact rfl; exact (by (try simp only []); omega))) rfl ?_ | refine JC.region ?_ | refine JC.skip ?_ | refine JL.nil ?_ | refine JE.next ?_ | refine JE.blk_normal ?_)
        exact JE.again (i := i) (i + 1) ⟨hi', any_take hav ht (by unfold gPq; rw [show decide ((1100 : Int) < (p.p.key.length : Int)) = false from g2, show decide ((2000 : Int) < (p.p.val.length : Int)) = false from g3]; rfl)⟩ (by omega) (by repeat (first | exact SubE.nil | refine SubE.cons _ _ _ rfl ?_)) (.nil _)
  · have hi' : i = s.l.length := by have := of_decide_eq_false hc; omega
    have hf : s.ps.take i = s.ps := List.take_of_length_le (by rw [hpl]; omega)
    rw [hf] at hav
    rw [hav]
    repeat (first | refine JL.q (by (apply OQ.assign; exact rfl)) rfl ?_ | refine JC.seq ?_ | refine JC.region ?_ | refine JC.exit ?_ | refine JL.nil ?_ | refine JE.next ?_ | refine JE.then_exit ?_ | refine JE.blk_hit ?_)
    exact JC.ret (JE.ret1 rfl (RV.tmp rfl) fun w' hw => ⟨rfl, hw.chg⟩)
theorem SlQ.ok.at {w : World} {s : SlQ} (h : s.ok w) {i : Nat} (hi : i < s.l.length) : ∃ b j, s.ad = some ⟨b, j, none⟩ ∧ b < w.heap.size ∧ w.cell? ⟨b, j + i, none⟩ = some (s.l.getD i noSlP).v := by
  obtain ⟨b, j, e, hc⟩ := h.reads.at (by rw [List.length_map]; omega : 0 < (s.l.map SlP.v).length)
  have h0 := hc i (s.l.getD i noSlP).v (by rw [List.getElem?_map, List.getElem?_eq_getElem hi, List.getD_eq_getElem?_getD, List.getElem?_eq_getElem hi]; rfl)
  exact ⟨b, j, e, block_lt_of_cell h0, h0⟩
def SlQ.ps (s : SlQ) : List (List Pq) := s.l.map SlP.ps
theorem SlQ.take1 {s : SlQ} {i : Nat} (hi : i < s.l.length) : s.ps.take (i + 1) = s.ps.take i ++ [(s.l.getD i noSlP).ps] := by
  unfold SlQ.ps
  rw [List.take_add_one]
  simp [List.getD_eq_getElem?_getD, hi]
theorem SlQ.get_mem {s : SlQ} {i : Nat} (hi : i < s.l.length) : s.l.getD i noSlP ∈ s.l := by
  rw [List.getD_eq_getElem?_getD, List.getElem?_eq_getElem hi]
  exact List.getElem_mem _
theorem slPC : scal Try.prog 32 = true := by kernel_rfl
theorem slPS : szT Try.prog 32 = some 1 := by kernel_rfl
set_option maxHeartbeats 16000000 in
theorem great16_any (s : SlQ) (w : World) (hs : s.ok w) : Calls Try.prog 7 [s.v].toArray w fun e w' => e = .returned (.bool (gQ s.ps)) ∧ Ext w w' := by
  have hpl : s.ps.length = s.l.length := by unfold SlQ.ps; rw [List.length_map]
  refine enter (n := 17) Try.func7 rfl rfl rfl (Holds.start w []) ?_
  unfold gQ
  rw [hpl]
  cases g1 : decide ((30 : Int) < (s.l.length : Int))
  case true =>
    repeat (first | refine JL.q (by first | (apply OQ.len (k := s.l.length) (ad := s.ad) (cap := s.cap); exact Try.underlying22; exact rfl) | (apply OQ.gtrB (b := 30); exact rfl; exact rfl; exact g1) | (apply OQ.move; exact rfl) | (apply OQ.assign; exact rfl)) rfl ?_ | refine JC.seq ?_ | refine JC.region ?_ | refine JL.nil ?_ | refine JE.next ?_)
    refine JC.cond_true rfl rfl ?_
    repeat (first | refine JL.q (by (apply OQ.assign; exact rfl)) rfl ?_ | refine JC.seq ?_ | refine JC.region ?_ | refine JL.nil ?_ | refine JE.next ?_)
    refine JC.ret ?_
    repeat (refine JE.then_ret ?_)
    exact JE.ret1 rfl (RV.tmp rfl) fun w' hw => ⟨rfl, hw.chg⟩
  rw [Bool.false_or]
  have hn : s.l.length ≤ 30 := by have := of_decide_eq_false g1; omega
  repeat (first | refine JL.q (by first | (apply OQ.len (k := s.l.length) (ad := s.ad) (cap := s.cap); exact Try.underlying22; exact rfl) | (apply OQ.gtrB (b := 30); exact rfl; exact rfl; exact g1) | (apply OQ.move; exact rfl) | (apply OQ.assign; exact rfl)) rfl ?_ | refine JC.seq ?_ | refine JC.region ?_ | refine JL.nil ?_ | refine JE.next ?_)
  refine JC.cond_false rfl rfl ?_
  repeat (first | refine JL.q (by first | (apply OQ.len (k := s.l.length) (ad := s.ad) (cap := s.cap); exact Try.underlying22; exact rfl) | (apply OQ.move; exact rfl)) rfl ?_ | refine JC.seq ?_ | refine JC.region ?_ | refine JC.block ?_ | refine JC.skip ?_ | refine JL.nil ?_ | refine JE.next ?_)
  refine JC.loop (fun i : Nat => [(8, s.v), (9, N s.l.length), (10, N i)]) (fun _ => []) (fun i => s.l.length - i) (fun i => i ≤ s.l.length ∧ (s.ps.take i).any gP = false) 0 ⟨Nat.zero_le _, rfl⟩ (by repeat (first | exact SubE.nil | refine SubE.cons _ _ _ rfl ?_)) (.nil _) ?_
  rintro i ⟨hi, hav⟩
  repeat (first | refine JL.q (by (apply OQ.lssN; exact rfl; exact rfl)) rfl ?_ | refine JC.seq ?_ | refine JC.region ?_ | refine JL.nil ?_ | refine JE.next ?_)
  refine JC.cond rfl (fun hc => ?_) (fun hc => ?_)
  · have hi' : i < s.l.length := Nat.lt_of_not_le fun h => by have := of_decide_eq_true hc; omega
    clear hc
    obtain ⟨b, j, e, lb, c⟩ := hs.at hi'
    have hm := SlQ.get_mem hi'
    have ht := SlQ.take1 hi'
    generalize s.l.getD i noSlP = p at c hm ht
    have hsv : s.v = .slice (some ⟨b, j, none⟩) s.l.length s.cap := by rw [← e]; rfl
    rw [hsv]
    have cG := fun {M} w' (hw' : Holds w [] M w') => Great_any p w' ((hs.all p hm).holds hw' rfl)
    cases g2 : gP p.ps
    case true =>
      have ha : s.ps.any gP = true := List.any_eq_true.2 ⟨p.ps, List.mem_of_mem_take (i := i + 1) (by rw [ht]; simp), g2⟩
      rw [ha]
      rw [g2] at cG
      repeat (first | refine JL.q (by first | (apply OQ.idxS1 (i := i); exact Try.underlying22; exact slPS; exact rfl; exact rfl; exact hi') | (apply OQ.load_old; exact slPC; exact rfl; exact lb; exact (by simp); exact c) | (apply OQ.callx (vs := [p.v]); exact goes_Great; exact rfl; exact (fun w' hw' => cG w' hw')) | (apply OQ.move; exact rfl) | (apply OQ.assign; exact rfl)) rfl ?_ | refine JC.seq ?_ | refine JC.region ?_ | refine JC.block ?_ | refine JC.skip ?_ | refine JL.nil ?_ | refine JE.next ?_)
      refine JC.cond_true rfl rfl ?_
      repeat (first | refine JL.q (by (apply OQ.assign; exact rfl)) rfl ?_ | refine JC.seq ?_ | refine JC.region ?_ | refine JL.nil ?_ | refine JE.next ?_)
      refine JC.ret ?_
      repeat (first | refine JE.then_ret ?_ | refine JE.blk_ret ?_)
      exact JE.ret1 rfl (RV.tmp rfl) fun w' hw => ⟨rfl, hw.chg⟩
    case false =>
      rw [g2] at cG
      repeat (first | refine JL.q (by first | (apply OQ.idxS1 (i := i); exact Try.underlying22; exact slPS; exact rfl; exact rfl; exact hi') | (apply OQ.load_old; exact slPC; exact rfl; exact lb; exact (by simp); exact c) | (apply OQ.callx (vs := [p.v]); exact goes_Great; exact rfl; exact (fun w' hw' => cG w' hw')) | (apply OQ.move; exact rfl) | (apply OQ.assign; exact rfl)) rfl ?_ | refine JC.seq ?_ | refine JC.region ?_ | refine JC.block ?_ | refine JC.skip ?_ | refine JL.nil ?_ | refine JE.next ?_)
      refine JC.cond_false rfl rfl ?_
      rw [← hsv]
      repeat (first | refine JL.q (by first | (apply OQ.move; exact rfl) | (apply OQ.addN; exact rfl; exact rfl; exact (by (try simp only []); omega))) rfl ?_ | refine JC.region ?_ | refine JC.skip ?_ | refine JL.nil ?_ | refine JE.next ?_ | refine JE.blk_normal ?_)
      exact JE.again (i := i) (i + 1) ⟨hi', any_take hav ht g2⟩ (by omega) (by repeat (first | exact SubE.nil | refine SubE.cons _ _ _ rfl ?_)) (.nil _)
  · have hi' : i = s.l.length := by have := of_decide_eq_false hc; omega
    have hf : s.ps.take i = s.ps := List.take_of_length_le (by rw [hpl]; omega)
    rw [hf] at hav
    rw [hav]
    repeat (first | refine JL.q (by (apply OQ.assign; exact rfl)) rfl ?_ | refine JC.seq ?_ | refine JC.region ?_ | refine JC.exit ?_ | refine JL.nil ?_ | refine JE.next ?_ | refine JE.then_exit ?_ | refine JE.blk_hit ?_)
    exact JC.ret (JE.ret1 rfl (RV.tmp rfl) fun w' hw => ⟨rfl, hw.chg⟩)
end Go.Proofs.Ytjkncnbpaejamaa

/-
  Of no statement by itself: what StoreOrder gives.
  Conditions: each theorem's own.
-/
namespace Go.Proofs.Ytjkncnbpaejamaa
set_option maxRecDepth 10000
open Sl Dsk Jrn Sto
section
variable {P : Program} {n : Nat} {E : Env} {C : World → Prop} {dst : Option Tmp} {ty t t' : TypeId} {pos : String} {aft : Array Edge} {g : Option (Nat × Bool)} {x y : Operand} {l r : Bk}
end
theorem SlQ.ok.holds {w0 w : World} {S : List Nat} {M : List Ent} {s : SlQ} (h : s.ok w0) (hw : Holds w0 S M w) (hS : S = []) : s.ok w := ⟨h.len, hw.reads h.reads (fun _ a _ => by rw [hS]; simp), fun p hp => (h.all p hp).holds hw hS⟩
structure Os16 where
  i : Nat
  z : Sz
  recs : List Bk
  vs : VL
end Go.Proofs.Ytjkncnbpaejamaa

/-
  Of no statement by itself: the reference's Encode (layer 16).
  Conditions: each theorem's own.
-/
namespace Go.Proofs.Ytjkncnbpaejamaa
set_option maxRecDepth 10000
open Sl Dsk Jrn Sto
section
variable {n : Nat} {w0 : World} {S : List Nat} {ops : Array Oper} {Q : Exit → Act → World → Prop} {l : List Oper} {E : Env} {R : List Ent}
variable {d : Nat} {ty : TypeId} {pos : String} {aft : Array Edge} {x y : Operand}
end
end Go.Proofs.Ytjkncnbpaejamaa

/-
  Of no statement by itself: rules for what a law of the store asks: append that leaves the old row, Do over a row of its own; what a Commit comes to against what the document says.
  Conditions: each theorem's own.
-/
namespace Go.Proofs.Ytjkncnbpaejamaa
set_option maxRecDepth 10000
open Sl Dsk Jrn Sto
section
variable {P : Program} {n : Nat} {w0 : World} {S : List Nat} {ops : Array Oper} {Q : Exit → Act → World → Prop} {l : List Oper} {E : Env} {M : List Ent}
variable {d : Nat} {t e ty : TypeId} {pos : String} {aft : Array Edge} {x y : Operand}
end
/-- values, as a row of pairs of one's own, whose bytes are old -/
structure Vp where
  q : Nat × Nat
  ps : List PqS
def Vp.v (z : Vp) : Value := accV (some z.q) z.ps.length
def Vp.E (z : Vp) : List Ent := accC 44 3 (some z.q) (z.ps.map PqS.cs)
def Vp.s (z : Vp) : SlP := ⟨some ⟨z.q.1, 0, none⟩, z.q.2, z.ps⟩
theorem Vp.wr (z : Vp) : ∀ e ∈ z.E, e.wr = true := accC_wr _ _ _ _
theorem Vp.ok {z : Vp} {w0 w : World} {S : List Nat} {A X M : List Ent} (hX : Less z.E X) (hw : Holds w0 S (A ++ (X ++ M)) w) (ha : ∀ p ∈ z.ps, p.s.ok w) : z.s.ok w :=
  gpS_ok (q := some z.q) (l := z.ps) (M := []) nofun (hw.weak (less_app A (less_two hX (.nil _)))) ha
section
variable {n : Nat} {w0 : World} {ops : Array Oper} {Q : Exit → Act → World → Prop} {l : List Oper} {E : Env} {M : List Ent}
variable {d : Nat} {ty : TypeId} {pos : String} {aft : Array Edge} {x1 x2 : Operand} {ats : Array TypeId}
theorem JL.rdoV (z : Vp) (s : SlP) (hn : z.ps.length + s.l.length ≤ 1000000) (hs : s.ok w0) (hp : ∀ p ∈ z.ps, p.s.ok w0) (e1 : ev E x1 = some z.v) (e2 : ev E x2 = some s.v) (hd : Nat.blt d n = true)
    (kk : ∀ (r : Vp) (X : List Ent), r.ps = s.l.foldl dpS z.ps → Less z.E X → Less r.E X → JL Try.prog n w0 [] ops Q l ((d, r.v) :: E) (X ++ M)) :
    JL Try.prog n w0 [] ops Q (⟨some d, .call ⟨.value (.func 11), #[x1, x2], ats⟩, ty, pos, aft, none⟩ :: l) E (z.E ++ M) := by
  refine JL.call (ι := {y : Vp × List Ent // y.1.ps = s.l.foldl dpS z.ps ∧ Less z.E y.2 ∧ Less y.1.E y.2}) (xs := [x1, x2]) (vs := [z.v, s.v]) (fun y => y.1.1.v) (fun y => y.1.2 ++ M) goes_rDo (by simp [evs, e1, e2]) hd (fun w hw => ?_) fun y => kk y.1.1 y.1.2 y.2.1 y.2.2.1 y.2.2.2
  have kz : z.s.ok w := Vp.ok (A := []) (Less.refl _) hw fun p h => (hp p h).holds hw rfl
  have c := rDo_any z.s s w kz (hs.holds hw rfl) hn
  refine Calls.mono (show Calls Try.prog 11 [z.v, s.v].toArray w _ from c) fun e w' ⟨⟨⟨q, ps⟩, hk, hp⟩, h1, h2⟩ => ?_
  have hp2 : ps = s.l.foldl dpS z.ps := hp
  have hb := hw.both h2 (Cu.wr _)
  cases q with
  | none =>
    have h3 : ps = z.ps := hk.a0 rfl
    exact ⟨⟨(z, z.E), h3.symm.trans hp2, Less.refl _, Less.refl _⟩, h1, hb⟩
  | some p =>
    refine ⟨⟨(⟨p, ps⟩, accC 44 3 (some p) (ps.map PqS.cs) ++ z.E), hp2, less_app _ (Less.refl _), less_pre _ _⟩, h1, ?_⟩
    have hb : Holds w0 [] (accC 44 3 (some p) (ps.map PqS.cs) ++ (z.E ++ M)) w' := hb
    rw [← List.append_assoc] at hb
    exact hb
end
/-- records, as a row of one's own -/
structure Gq where
  q : Nat × Nat
  rs : List Sl8
  h0 : ∀ x ∈ rs, x.ad = none → x.l = []
def Gq.l (z : Gq) : List Bk := z.rs.map Sl8.l
def Gq.v (z : Gq) : Value := accV (some z.q) z.rs.length
def Gq.E (z : Gq) : List Ent := accE 33 (some z.q) (z.rs.map Sl8.v) ++ flatE z.rs
def Gq.s (z : Gq) : SlL := ⟨some ⟨z.q.1, 0, none⟩, z.q.2, z.rs⟩
theorem Gq.ok {z : Gq} {w0 w : World} {S : List Nat} {M : List Ent} (hM : Less z.E M) (h : Holds w0 S M w) : z.s.ok w :=
  accL_ok (q := some z.q) (h.weak hM) z.h0
structure J16 where
  k : Nat
  g : Gq
end Go.Proofs.Ytjkncnbpaejamaa

/-
  Of no statement by itself: what the reference's Half, Disk, Newest tell, by definition; that it is what the landed journal reads.
  Conditions: each theorem's own.
-/
namespace Go.Proofs.Ytjkncnbpaejamaa
open Sl Dsk Jrn
/-- does a block go on with a record, as the reference asks it -/
def goesOn (g r p : Nat) (b : Bk) : Bool := wholeB b && (decide ((markIn b).1.toNat = g) && (decide ((markIn b).2.1.toNat = r) && decide (plN b % 32768 = p)))
/-- the reference's walk over a half's blocks -/
def scanR (g : Nat) : List Bk → List Bk → Bk → Nat → List Bk
  | [], out, _, _ => out
  | b :: bs, out, part, p => if goesOn g out.length p b = true then
      (if 32768 ≤ plN b then scanR g bs (out ++ [part ++ partOf b]) [] 0 else scanR g bs out (part ++ partOf b) (p + 1)) else out
end Go.Proofs.Ytjkncnbpaejamaa

/-
  Of no statement by itself: slices of blocks as arguments; the reference's Newest, Half.
  Conditions: each theorem's own.
-/
namespace Go.Proofs.Ytjkncnbpaejamaa
set_option maxRecDepth 10000
open Sl Dsk Jrn
structure SlE where
  ad : Option Addr
  cap : Nat
  l : List Bk
def SlE.v (s : SlE) : Value := .slice s.ad s.l.length s.cap
structure SlE.ok (w : World) (s : SlE) : Prop where
  len : s.l.length ≤ s.cap
  reads : Reads w s.ad (bcs s.l).flatten
  all : ∀ b ∈ s.l, b.length = 64
theorem SlE.ok.ok {w : World} {s : SlE} (h : s.ok w) : Ok s.l [] := ⟨h.all, by simp⟩
/-- the i-th block's cells -/
theorem SlE.ok.at {w : World} {s : SlE} (h : s.ok w) {i : Nat} (hi : i < s.l.length) : ∃ b j, s.ad = some ⟨b, j, none⟩ ∧ b < w.heap.size ∧ ∀ k u, (bc (old s.l i))[k]? = some u → w.cell? ⟨b, j + i * 64 + k, none⟩ = some u := by
  have hl := chunk_len (bcs_len h.ok)
  rw [bcs_n] at hl
  have h0 : 0 < (bcs s.l).flatten.length := by omega
  obtain ⟨b, j, e, hc⟩ := h.reads.at h0
  refine ⟨b, j, e, ?_, fun k u hu => ?_⟩
  · obtain ⟨v, hv⟩ : ∃ v, (bcs s.l).flatten[0]? = some v := ⟨_, List.getElem?_eq_getElem h0⟩
    exact block_lt_of_cell (hc 0 v hv)
  · have hat := chunk_at (i := i) (bcs_len h.ok) (by rw [bcs_n]; exact hi)
    rw [bcs_at hi] at hat
    rw [← hat, List.getElem?_take] at hu
    split at hu
    · rw [List.getElem?_drop] at hu
      rw [Nat.add_assoc]
      exact hc _ u hu
    · cases hu
theorem SlE.ok.holds {w0 w : World} {S : List Nat} {M : List Ent} {s : SlE} (h : s.ok w0) (hw : Holds w0 S M w) (hS : S = []) : s.ok w := ⟨h.len, hw.reads h.reads (fun _ a _ => by rw [hS]; simp), h.all⟩
end Go.Proofs.Ytjkncnbpaejamaa

/-
  Of no statement by itself: the reference's Half.
  Conditions: each theorem's own.
-/
namespace Go.Proofs.Ytjkncnbpaejamaa
set_option maxRecDepth 10000
open Sl Dsk Jrn
/-- where the reference's walk is -/
structure Hz where
  i : Nat
  zq : Nat × Nat
  rs : List Sl8
  pq : Acc
  part : Bk
  p : Nat
def Hz.E (z : Hz) : List Ent := accE 33 (some z.zq) (z.rs.map Sl8.v) ++ (flatE z.rs ++ accE 5 z.pq (z.part.map U8))
structure Hz.ok (z : Hz) (g : Nat) (l : List Bk) : Prop where
  i : z.i ≤ l.length
  s : scanR g l [] [] 0 = scanR g (l.drop z.i) (z.rs.map Sl8.l) z.part z.p
  n : z.rs.length ≤ z.i
  p : z.p ≤ z.i
  l : z.part.length ≤ z.p * 42
  q : z.pq = none → z.part = []
  h0 : ∀ x ∈ z.rs, x.ad = none → x.l = []
end Go.Proofs.Ytjkncnbpaejamaa

/-
  Of no statement by itself: the reference's Disk.
  Conditions: each theorem's own.
-/
namespace Go.Proofs.Ytjkncnbpaejamaa
set_option maxRecDepth 10000
open Sl Dsk Jrn
def SlE.cut (s : SlE) (lo hi : Nat) : SlE := ⟨if s.cap = lo then s.ad else s.ad.map (·.add (lo * 64)), s.cap - lo, (s.l.take hi).drop lo⟩
theorem SlE.ok.cut {s : SlE} {w : World} (h : s.ok w) {lo hi : Nat} (h1 : lo ≤ hi) (h2 : hi ≤ s.l.length) : (s.cut lo hi).ok w := by
  have hl := h.len
  refine ⟨by show ((s.l.take hi).drop lo).length ≤ s.cap - lo; rw [List.length_drop, List.length_take]; omega, ?_, fun b hb => h.all b (List.mem_of_mem_take (List.mem_of_mem_drop hb))⟩
  by_cases hc : s.cap = lo
  · have : (s.l.take hi).drop lo = [] := by rw [List.drop_eq_nil_of_le]; rw [List.length_take]; omega
    show Reads w _ (bcs ((s.l.take hi).drop lo)).flatten
    rw [this]
    exact Reads.nil _ _
  · intro i v hv
    have e1 : (bcs ((s.l.take hi).drop lo)).flatten = ((bcs s.l).flatten.take (hi * 64)).drop (lo * 64) := by
      have a1 : bcs ((s.l.take hi).drop lo) = ((bcs s.l).take hi).drop lo := by simp [bcs, List.map_take, List.map_drop]
      rw [a1, chunk_take (bcs_len h.ok), chunk_drop (fun c hc => bcs_len h.ok c (List.mem_of_mem_take hc))]
    have hv' : (bcs s.l).flatten[lo * 64 + i]? = some v := by
      have : (bcs (s.cut lo hi).l).flatten = ((bcs s.l).flatten.take (hi * 64)).drop (lo * 64) := e1
      rw [this, List.getElem?_drop, List.getElem?_take] at hv
      split at hv
      · exact hv
      · cases hv
    obtain ⟨b, j, e, hcell⟩ := h.reads _ _ hv'
    refine ⟨b, j + lo * 64, ?_, ?_⟩
    · show (if s.cap = lo then s.ad else s.ad.map (·.add (lo * 64))) = _
      rw [if_neg hc, e]
      show some ((⟨b, j, none⟩ : Addr).add (lo * 64)) = _
      rw [add_off]
    · rwa [Nat.add_assoc]
end Go.Proofs.Ytjkncnbpaejamaa

/-
  Of no statement by itself: the reference's Blocks: the blocks of a record, as the landed journal writes them.
  Conditions: each theorem's own.
-/
namespace Go.Proofs.Ytjkncnbpaejamaa
set_option maxRecDepth 10000
open Sl Dsk Jrn
end Go.Proofs.Ytjkncnbpaejamaa

/-
  Of no statement by itself: the law's Blocks, same, raw.
  Conditions: each theorem's own.
-/
namespace Go.Proofs.Ytjkncnbpaejamaa
set_option maxRecDepth 10000
open Sl Dsk Jrn
theorem goes_lblocks15 : Goes Try.prog 18 := ⟨_, Try.func18, rfl, by kernel_rfl⟩
theorem take_old {bl : List Bk} {i : Nat} (h : i < bl.length) : bl.take (i + 1) = bl.take i ++ [old bl i] := by
  rw [List.take_add_one]
  simp [old, List.getD_eq_getElem?_getD, h]
set_option maxHeartbeats 8000000 in
theorem lblocks15_any (x : Dp) (bl : List Bk) (pd : List (Nat × Bk)) (ok : Ok bl pd) (hn : bl.length ≤ 65536) (w : World) (h0 : Holds w [] (dkR x bl pd) w) : Calls Try.prog 18 [Pt x.p 0].toArray w fun e w' => ∃ q : Nat × Nat, e = .returned (accV (some q) bl.length) ∧ Holds w [] (accC 51 64 (some q) (bcs bl)) w' := by
  refine enter (n := 25) Try.func18 rfl rfl rfl h0 ?_
  repeat (first | refine JL.q (by (apply OQ.assign; exact rfl)) rfl ?_ | refine JC.seq ?_ | refine JC.region ?_ | refine JL.nil ?_ | refine JE.next ?_)
  refine JL.litZ Try.underlying48 dkI rfl fun b0 _ => ?_
  repeat (first | refine JL.q (by (apply OQ.assign; exact rfl)) rfl ?_ | refine JC.seq ?_ | refine JC.region ?_ | refine JC.block ?_ | refine JL.nil ?_ | refine JE.next ?_)
  refine JC.loop (fun z : Nat × (Nat × Nat) => [(0, Pt x.p 0), (3, accV (some z.2) (bcs (bl.take z.1)).length), (4, N z.1)]) (fun z => accC 51 64 (some z.2) (bcs (bl.take z.1)) ++ dkR x bl pd) (fun z => bl.length - z.1) (fun z => z.1 ≤ bl.length) (0, (b0, 0)) (Nat.zero_le _) (by repeat (first | exact SubE.nil | refine SubE.cons _ _ _ rfl ?_)) (Less.refl _) ?_
  rintro ⟨i, q⟩ hi
  dsimp only at hi ⊢
  repeat (first | refine JL.q (by first | (apply OQ.callx (vs := [Pt x.p 0]); exact goes_dsizej; exact rfl; exact (fun w' hw' => dsizeR x bl pd w' (dkR_front (A := accC 51 64 (some q) (bcs (bl.take i))) (M := []) (by rw [List.append_nil]; exact hw')))) | (apply OQ.move; exact rfl) | (apply OQ.lssN; exact rfl; exact rfl)) rfl ?_ | refine JC.seq ?_ | refine JC.region ?_ | refine JL.nil ?_ | refine JE.next ?_)
  refine JC.cond rfl (fun hc => ?_) (fun hc => ?_)
  · have hi' : i < bl.length := Nat.lt_of_not_le fun h => by have := of_decide_eq_true hc; omega
    have hto := take_old hi'
    have hb : (old bl i).length = 64 := ok.old hi'
    have cR := fun {u w' : World} {S : List Nat} {A : List Ent} (hw' : Holds u S (A ++ (dkR x bl pd ++ [])) w') => dreadR x bl pd i hi' ok w' (dkR_front hw')
    generalize old bl i = y at hb cR hto
    have hbn := bcs_n (bl.take i)
    rw [List.length_take, Nat.min_eq_left hi] at hbn
    repeat (first | refine JL.q (by first | (apply OQ.callx (vs := [Pt x.p 0, N i]); exact goes_dread; exact rfl; exact (fun w' hw' => cR (A := accC 51 64 (some q) (bcs (bl.take i))) hw')) | (apply OQ.extract; exact rfl; exact rfl) | (apply OQ.move; exact rfl)) rfl ?_ | refine JC.seq ?_ | refine JC.region ?_ | refine JC.block ?_ | refine JC.skip ?_ | refine JE.next ?_)
    refine JL.alloc dkZ rfl fun b5 _ => ?_
    refine JL.store_all (cs := bc y) dkB rfl rfl (bc_len hb) (bc_cell _) .here rfl ?_
    repeat (first | refine JL.q (by first | (apply OQ.load_agg (cs := bc y); exact dkAg; exact dkB; exact rfl; exact .here; exact (bc_len hb); exact Row.all) | (apply OQ.move; exact rfl) | (apply OQ.assign; exact rfl)) rfl ?_ | refine JC.region ?_ | refine JL.nil ?_ | refine JE.next ?_)
    refine JL.litA (cs := bc y) Try.underlying48 dkI rfl (by decide) (by decide) rfl (bc_len hb) rfl fun b7 _ => ?_
    refine JL.perm (M' := ⟨b7, Row 51 (bc y), true⟩ :: (accC 51 64 (some q) (bcs (bl.take i)) ++ (⟨b5, Row 51 (bc y), true⟩ :: dkR x bl pd))) ?_ (by exact List.Perm.cons _ (List.perm_middle).symm)
    refine JL.appendC (c := bc y) (L := bcs (bl.take i)) (some q) Try.underlying48 dkI nofun rfl rfl (bc_len hb) (fun v hv => List.all_eq_true.1 (bc_cell _) v hv) rfl (by decide) (by omega) (by omega) rfl fun b' cap' => ?_
    have eL : bcs (bl.take i) ++ [bc y] = bcs (bl.take (i + 1)) := by rw [hto]; simp [bcs]
    rw [eL]
    repeat (first | refine JL.q (by first | (apply OQ.move; exact rfl) | (apply OQ.assign; exact rfl) | (apply OQ.addN; exact rfl; exact rfl; exact (by (try simp only []); omega))) rfl ?_ | refine JC.region ?_ | refine JL.nil ?_ | refine JE.next ?_ | refine JE.blk_normal ?_)
    exact JE.again (i := (i, q)) (i + 1, (b', cap')) hi' (by dsimp only; omega) (by repeat (first | exact SubE.nil | refine SubE.cons _ _ _ rfl ?_)) (less_two (Less.refl _) (.drop _ _ _ (Less.refl _)))
  · have hi' : i = bl.length := Nat.le_antisymm hi (Nat.le_of_not_lt fun h => by have := of_decide_eq_false hc; omega)
    have ht : bl.take i = bl := List.take_of_length_le (by omega)
    rw [ht, bcs_n]
    repeat (first | refine JL.q (by first | (apply OQ.move; exact rfl) | (apply OQ.assign; exact rfl)) rfl ?_ | refine JC.seq ?_ | refine JC.region ?_ | refine JC.exit ?_ | refine JL.nil ?_ | refine JE.next ?_ | refine JE.then_exit ?_ | refine JE.blk_hit ?_)
    refine JC.ret ?_
    skip
    exact JE.ret1 rfl (RV.tmp rfl) fun w' hw => ⟨q, rfl, hw.weak (less_pre _ _)⟩
end Go.Proofs.Ytjkncnbpaejamaa

/-
  Of no statement by itself: what StoreWhole gives.
  Conditions: each theorem's own.
-/
namespace Go.Proofs.Ytjkncnbpaejamaa
set_option maxRecDepth 10000
open Sl Dsk Jrn Sto
section
variable {P : Program} {n : Nat} {w0 : World} {S : List Nat} {E : Env} {M : List Ent} {dst : Option Tmp} {ty t' : TypeId} {pos : String} {aft : Array Edge} {g : Option (Nat × Bool)} {x y : Operand}
theorem OQ.loadBw {b i k cap : Nat} {wr : Bool} {bl : List Bk} (hb : ∀ y ∈ bl, y.length = 64) (hx : ev E x = some (.pointer (some ⟨b, 0 + i * 64, none⟩))) (hM : Has M b (Sl.Own 51 64 k cap (bcs bl).flatten) wr) (hi : i < bl.length) :
    OQ Try.prog n E (Holds w0 S M) ⟨dst, .load 51 x, ty, pos, aft, g⟩ (.agg (bc (old bl i)).toArray) := OQ.to (OQ.loadC (L := bcs bl) (i := i) dkAg dkB hx (Nat.zero_add _) hM (bcs_len (pd := []) ⟨hb, by simp⟩) (by rw [bcs_n]; exact hi)) (by rw [bcs_at hi])
theorem OQ.neBlk {C : World → Prop} {a b : Bk} {c : Bool} (ha : a.length = 64) (hb : b.length = 64) (h : (!decide (a = b)) = c) (hx : ev E x = some (.agg (bc a).toArray)) (hy : ev E y = some (.agg (bc b).toArray)) :
    OQ Try.prog n E C ⟨dst, .binOp .neq 51 x y t', ty, pos, aft, g⟩ (.bool c) := OQ.to (OQ.neA (r := a) (q := b) Try.underlying51 Try.underlying5 u8s gdBlk hx hy ha hb) (by rw [h])
end
theorem Step.code {z z' : Sz} {recs recs' : List Bk} {vs vs' : VL} {ps : List Pq} {code : Nat} (st : Step z recs vs ps code z' recs' vs') : vs' = if code = 0 then doL vs ps else vs := by
  obtain ⟨_, _, st⟩ := st
  rcases st with ⟨_, _, rfl, ⟨_, rfl⟩ | ⟨_, rfl, _⟩⟩ | ⟨_, rfl, rfl, _⟩
  · rfl
  · rfl
  · rfl
theorem Step.blen {z z' : Sz} {recs recs' : List Bk} {vs vs' : VL} {ps : List Pq} {code : Nat} (st : Step z recs vs ps code z' recs' vs') (k : z.ok recs vs) : z'.bl.length = z.bl.length := by
  have v := k.jv
  have h1 := v.fs; have h2 := v.r; have h3 := v.u
  obtain ⟨_, _, st⟩ := st
  rcases st with ⟨rfl, _⟩ | ⟨_, _, _, ⟨h4, _, hb, _⟩ | ⟨_, h5, _, hb, _⟩⟩
  · rfl
  · rw [hb]
    unfold appD
    rw [putAt_len (by rw [blks_len]; omega)]
  · rw [hb]
    have h6 : nb (baseOf vs ps).length ≤ z.h.size := Nat.le_of_not_lt fun e => h5 (.inl e)
    have hr : room [baseOf vs ps] = nb (baseOf vs ps).length := by simp [room]
    unfold rstD
    rw [putAt_len (by rw [allB_len, hr]; omega)]
theorem perm_w0 (b : Ent) (Z : List Ent) : (b :: (Z ++ [])).Perm (Z ++ ([b] ++ [])) := perm_cnt fun _ _ y => by simp only [List.count_append, List.count_cons, List.count_nil]; omega
theorem perm_w1 (T Z V : List Ent) : (T ++ (Z ++ (V ++ []))).Perm (Z ++ (V ++ T)) := perm_cnt fun _ _ y => by simp only [List.count_append, List.count_nil]; omega
theorem perm_w2 (Z V T : List Ent) : (Z ++ (V ++ T)).Perm (V ++ (Z ++ T)) := perm_cnt fun _ _ y => by simp only [List.count_append]; omega
theorem perm_w3 (X Z T : List Ent) : (X ++ (Z ++ T)).Perm (Z ++ (X ++ T)) := perm_cnt fun _ _ y => by simp only [List.count_append]; omega
theorem perm_w4 (B A Z X T : List Ent) : (B ++ (A ++ (Z ++ (X ++ T)))).Perm (T ++ (A ++ (B ++ (Z ++ X)))) := perm_cnt fun _ _ y => by simp only [List.count_append]; omega
theorem perm_w5 (Z2 A B Z1 X : List Ent) : (Z2 ++ (A ++ (B ++ (Z1 ++ X)))).Perm (Z2 ++ (Z1 ++ (X ++ (A ++ B)))) := perm_cnt fun _ _ y => by simp only [List.count_append]; omega
theorem vals_ls {recs : List Bk} {vs : VL} (h : valsOf recs = some vs) : ∃ ls, decAll recs = some ls ∧ doL [] ls = vs := by
  unfold valsOf at h
  cases hd : decAll recs with
  | none => rw [hd] at h; cases h
  | some l =>
    rw [hd, Option.map_some, Option.some.injEq] at h
    exact ⟨l, rfl, h⟩
structure W2 where
  z : Sz
  recs : List Bk
  vs : VL
  r : Vp
  X : List Ent
structure Ws16 where
  i : Nat
  z : Sz
  recs : List Bk
  vs : VL
  v : Vp
set_option maxHeartbeats 16000000 in
theorem law_storeWhole (size : Int) (list : SlQ) (last : SlP) (picks : Sl8) (w : World) (hl : list.ok w) (hla : last.ok w) (hpk : picks.ok w) : Calls Try.prog 4 [.int .i64 size, list.v, last.v, picks.v].toArray w fun e w' => e = .returned (.bool true) ∧ Ext w w' := by
  refine enter (n := 142) Try.func4 rfl rfl rfl (Holds.start w []) ?_
  have cG := fun {M} w' (hw' : Holds w [] M w') => great16_any list w' (hl.holds hw' rfl)
  have cH := fun {M} w' (hw' : Holds w [] M w') => Great_any last w' (hla.holds hw' rfl)
  repeat (first | refine JL.q (by first | (apply OQ.callx (vs := []); exact goes_speaks16; exact rfl; exact (fun w' _ => speaks16_any w')) | (apply OQ.not; exact rfl) | (apply OQ.assign; exact rfl)) rfl ?_ | refine JC.seq ?_ | refine JC.region ?_ | refine JL.nil ?_ | refine JE.next ?_)
  refine JC.cond_false rfl rfl ?_
  cases g1 : decide (size < 4)
  case true =>
    repeat (first | refine JL.q (by first | (apply OQ.lssB (b := 4); exact rfl; exact rfl; exact g1) | (apply OQ.pick_t; exact rfl; exact rfl) | (apply OQ.move; exact rfl)) rfl ?_ | refine JC.seq ?_ | refine JC.region ?_ | refine JC.skip ?_ | refine JL.nil ?_ | refine JE.next ?_ | refine JL.gskip rfl rfl rfl rfl ?_)
    refine JC.cond_true rfl rfl ?_
    repeat (first | refine JL.q (by (apply OQ.assign; exact rfl)) rfl ?_ | refine JC.seq ?_ | refine JC.region ?_ | refine JL.nil ?_ | refine JE.next ?_)
    refine JC.ret ?_
    repeat (refine JE.then_ret ?_)
    exact JE.ret1 rfl (RV.tmp rfl) fun w' hw => ⟨rfl, hw.chg⟩
  cases g2 : decide ((300 : Int) < size)
  case true =>
    repeat (first | refine JL.q (by first | (apply OQ.lssB (b := 4); exact rfl; exact rfl; exact g1) | (apply OQ.gtrB (b := 300); exact rfl; exact rfl; exact g2) | (apply OQ.pick_t; exact rfl; exact rfl) | (apply OQ.pick_f; exact rfl; exact rfl) | (apply OQ.move; exact rfl)) rfl ?_ | refine JC.seq ?_ | refine JC.region ?_ | refine JC.skip ?_ | refine JL.nil ?_ | refine JE.next ?_ | refine JL.gon rfl rfl ?_ | refine JL.gskip rfl rfl rfl rfl ?_)
    refine JC.cond_true rfl rfl ?_
    repeat (first | refine JL.q (by (apply OQ.assign; exact rfl)) rfl ?_ | refine JC.seq ?_ | refine JC.region ?_ | refine JL.nil ?_ | refine JE.next ?_)
    refine JC.ret ?_
    repeat (refine JE.then_ret ?_)
    exact JE.ret1 rfl (RV.tmp rfl) fun w' hw => ⟨rfl, hw.chg⟩
  cases g3 : gQ list.ps
  case true =>
    rw [g3] at cG
    repeat (first | refine JL.q (by first | (apply OQ.lssB (b := 4); exact rfl; exact rfl; exact g1) | (apply OQ.gtrB (b := 300); exact rfl; exact rfl; exact g2) | (apply OQ.callx (vs := [list.v]); exact goes_great16; exact rfl; exact (fun w' hw' => cG w' hw')) | (apply OQ.pick_t; exact rfl; exact rfl) | (apply OQ.pick_f; exact rfl; exact rfl) | (apply OQ.move; exact rfl)) rfl ?_ | refine JC.seq ?_ | refine JC.region ?_ | refine JC.skip ?_ | refine JL.nil ?_ | refine JE.next ?_ | refine JL.gon rfl rfl ?_ | refine JL.gskip rfl rfl rfl rfl ?_)
    refine JC.cond_true rfl rfl ?_
    repeat (first | refine JL.q (by (apply OQ.assign; exact rfl)) rfl ?_ | refine JC.seq ?_ | refine JC.region ?_ | refine JL.nil ?_ | refine JE.next ?_)
    refine JC.ret ?_
    repeat (refine JE.then_ret ?_)
    exact JE.ret1 rfl (RV.tmp rfl) fun w' hw => ⟨rfl, hw.chg⟩
  rw [g3] at cG
  cases g4 : gP last.ps
  case true =>
    rw [g4] at cH
    repeat (first | refine JL.q (by first | (apply OQ.lssB (b := 4); exact rfl; exact rfl; exact g1) | (apply OQ.gtrB (b := 300); exact rfl; exact rfl; exact g2) | (apply OQ.callx (vs := [list.v]); exact goes_great16; exact rfl; exact (fun w' hw' => cG w' hw')) | (apply OQ.callx (vs := [last.v]); exact goes_Great; exact rfl; exact (fun w' hw' => cH w' hw')) | (apply OQ.pick_t; exact rfl; exact rfl) | (apply OQ.pick_f; exact rfl; exact rfl) | (apply OQ.move; exact rfl)) rfl ?_ | refine JC.seq ?_ | refine JC.region ?_ | refine JC.skip ?_ | refine JL.nil ?_ | refine JE.next ?_ | refine JL.gon rfl rfl ?_ | refine JL.gskip rfl rfl rfl rfl ?_)
    refine JC.cond_true rfl rfl ?_
    repeat (first | refine JL.q (by (apply OQ.assign; exact rfl)) rfl ?_ | refine JC.seq ?_ | refine JC.region ?_ | refine JL.nil ?_ | refine JE.next ?_)
    refine JC.ret ?_
    repeat (refine JE.then_ret ?_)
    exact JE.ret1 rfl (RV.tmp rfl) fun w' hw => ⟨rfl, hw.chg⟩
  rw [g4] at cH
  cases g5 : decide ((200 : Int) < (picks.l.length : Int))
  case true =>
    repeat (first | refine JL.q (by first | (apply OQ.lssB (b := 4); exact rfl; exact rfl; exact g1) | (apply OQ.gtrB (b := 300); exact rfl; exact rfl; exact g2) | (apply OQ.callx (vs := [list.v]); exact goes_great16; exact rfl; exact (fun w' hw' => cG w' hw')) | (apply OQ.callx (vs := [last.v]); exact goes_Great; exact rfl; exact (fun w' hw' => cH w' hw')) | (apply OQ.len (k := picks.l.length) (ad := picks.ad) (cap := picks.cap); exact Try.underlying33; exact rfl) | (apply OQ.gtrB (b := 200); exact rfl; exact rfl; exact g5) | (apply OQ.pick_f; exact rfl; exact rfl) | (apply OQ.move; exact rfl)) rfl ?_ | refine JC.seq ?_ | refine JC.region ?_ | refine JC.skip ?_ | refine JL.nil ?_ | refine JE.next ?_ | refine JL.gon rfl rfl ?_)
    refine JC.cond_true rfl rfl ?_
    repeat (first | refine JL.q (by (apply OQ.assign; exact rfl)) rfl ?_ | refine JC.seq ?_ | refine JC.region ?_ | refine JL.nil ?_ | refine JE.next ?_)
    refine JC.ret ?_
    repeat (refine JE.then_ret ?_)
    exact JE.ret1 rfl (RV.tmp rfl) fun w' hw => ⟨rfl, hw.chg⟩
  have hq := g3
  unfold gQ at hq
  rw [Bool.or_eq_false_iff] at hq
  have hn : list.l.length ≤ 30 := by
    have := of_decide_eq_false hq.1
    unfold SlQ.ps at this
    rw [List.length_map] at this
    omega
  have hgp : ∀ p ∈ list.l, gP p.ps = false := fun p hp => by simpa using List.any_eq_false.1 hq.2 p.ps (List.mem_map_of_mem hp)
  have hpn : picks.l.length ≤ 200 := by have := of_decide_eq_false g5; omega
  obtain ⟨hl20, hlz, _⟩ := gP_no g4
  repeat (first | refine JL.q (by first | (apply OQ.lssB (b := 4); exact rfl; exact rfl; exact g1) | (apply OQ.gtrB (b := 300); exact rfl; exact rfl; exact g2) | (apply OQ.callx (vs := [list.v]); exact goes_great16; exact rfl; exact (fun w' hw' => cG w' hw')) | (apply OQ.callx (vs := [last.v]); exact goes_Great; exact rfl; exact (fun w' hw' => cH w' hw')) | (apply OQ.len (k := picks.l.length) (ad := picks.ad) (cap := picks.cap); exact Try.underlying33; exact rfl) | (apply OQ.gtrB (b := 200); exact rfl; exact rfl; exact g5) | (apply OQ.pick_f; exact rfl; exact rfl) | (apply OQ.move; exact rfl)) rfl ?_ | refine JC.seq ?_ | refine JC.region ?_ | refine JC.skip ?_ | refine JL.nil ?_ | refine JE.next ?_ | refine JL.gon rfl rfl ?_)
  refine JC.cond_false rfl rfl ?_
  obtain ⟨n, rfl⟩ : ∃ k : Nat, size = k := ⟨size.toNat, by have := of_decide_eq_false g1; omega⟩
  have hn4 : 4 ≤ n := by have := of_decide_eq_false g1; omega
  have hn3 : n ≤ 300 := by have := of_decide_eq_false g2; omega
  clear cG cH g1 g2 g3 g4 g5 hq
  repeat (first | refine JL.q (by (apply OQ.move; exact rfl)) rfl ?_ | refine JC.seq ?_ | refine JC.region ?_ | refine JC.skip ?_ | refine JE.next ?_)
  refine JL.dnew (k := n) (by omega) (by omega) rfl rfl fun x hx => ?_
  repeat (first | refine JL.q (by first | (apply OQ.extract; exact rfl; exact rfl) | (apply OQ.neB (a := 0) (b := 0) (c := true); exact rfl; exact rfl; exact rfl) | (apply OQ.ptrNil; exact Try.underlying25; exact rfl; exact rfl) | (apply OQ.pick_f; exact rfl; exact rfl) | (apply OQ.move; exact rfl) | (apply OQ.assign; exact rfl)) rfl ?_ | refine JC.seq ?_ | refine JC.region ?_ | refine JL.nil ?_ | refine JE.next ?_ | refine JL.gon rfl rfl ?_)
  refine JC.cond_false rfl rfl ?_
  repeat (first | refine JL.q (by (apply OQ.move; exact rfl)) rfl ?_ | refine JC.seq ?_ | refine JC.region ?_ | refine JC.skip ?_ | refine JE.next ?_)
  have hno : noOpen (newB n) = 0 := newB_no hn4
  refine JL.sopen hx hno (newB_dec n) rfl rfl fun z => ?_
  obtain ⟨z, k, hh, hbl⟩ := z
  have hsz : z.h.size = n / 2 := by rw [hh]; show (newB n).length / 2 = n / 2; rw [newB_len]
  have hxp : z.h.x.p = x.p := by rw [hh]; rfl
  have hg : z.h.g.toNat ≤ 1 := by rw [hh]; exact gm_succ (by rw [(newB_cur n).2]; exact Nat.le_refl 0) (by decide)
  have k : z.ok [[]] [] := by
    have k : z.ok (curF (newB n)).2.2 [] := k
    rwa [(newB_cur n).1] at k
  have hbn : z.bl.length = n := by
    rw [hbl]
    unfold opnD
    rw [(newB_cur n).1, putAt_len (by rw [allB_len, newB_len]; have : room [[]] = 1 := rfl; omega), newB_len]
  dsimp only
  clear hh hbl hno hx
  repeat (first | refine JL.q (by first | (apply OQ.extract; exact rfl; exact rfl) | (apply OQ.neB (a := 0) (b := 0) (c := true); exact rfl; exact rfl; exact rfl) | (apply OQ.ptrNil; exact Try.underlying29; exact rfl; exact rfl) | (apply OQ.pick_f; exact rfl; exact rfl) | (apply OQ.move; exact rfl) | (apply OQ.assign; exact rfl)) rfl ?_ | refine JC.seq ?_ | refine JC.region ?_ | refine JL.nil ?_ | refine JE.next ?_ | refine JL.gon rfl rfl ?_)
  refine JC.cond_false rfl rfl ?_
  repeat (first | refine JC.seq ?_ | refine JC.region ?_ | refine JC.skip ?_ | refine JE.next ?_)
  refine JL.lit0N Try.underlying32 prI (by decide) rfl fun b0 _ => ?_
  refine JL.perm (M' := z.E ++ ((⟨(b0, 0), []⟩ : Vp).E ++ [])) ?_ (by exact perm_w0 _ _)
  repeat (first | refine JL.q (by first | (apply OQ.len (k := list.l.length) (ad := list.ad) (cap := list.cap); exact Try.underlying22; exact rfl) | (apply OQ.move; exact rfl) | (apply OQ.assign; exact rfl)) rfl ?_ | refine JC.seq ?_ | refine JC.region ?_ | refine JC.block ?_ | refine JL.nil ?_ | refine JE.next ?_)
  refine JC.loop (fun s : Ws16 => [(2, last.v), (3, picks.v), (9, Pt x.p 0), (11, Pt s.z.p 0), (13, s.v.v), (67, list.v), (68, N list.l.length), (69, N s.i)]) (fun s => s.z.E ++ (s.v.E ++ [])) (fun s => list.l.length - s.i) (fun s => s.i ≤ list.l.length ∧ s.z.ok s.recs s.vs ∧ s.z.h.size = n / 2 ∧ s.z.h.x.p = x.p ∧ s.z.h.g.toNat ≤ s.i + 1 ∧ s.z.bl.length = n ∧ s.v.ps.map PqS.p = pairsV s.vs ∧ (∀ p ∈ s.v.ps, p.s.ok w)) ⟨0, z, [[]], [], ⟨(b0, 0), []⟩⟩ ⟨Nat.zero_le _, k, hsz, hxp, hg, hbn, rfl, nofun⟩ (by repeat (first | exact SubE.nil | refine SubE.cons _ _ _ rfl ?_)) (Less.refl _) ?_
  clear k hsz hxp hg hbn
  rintro ⟨i, z, recs, vs, v⟩ ⟨hi, k, hsz, hxp, hg, hbn, hvp, hvk⟩
  dsimp only at hi k hsz hxp hg hbn hvp hvk ⊢
  have hvl : v.ps.length = vs.length := by
    have := congrArg List.length hvp
    unfold pairsV at this
    rwa [List.length_map, List.length_map] at this
  have hvs7 := szV_len vs
  have hvsz := k.sz.1
  repeat (first | refine JL.q (by (apply OQ.lssN; exact rfl; exact rfl)) rfl ?_ | refine JC.seq ?_ | refine JC.region ?_ | refine JL.nil ?_ | refine JE.next ?_)
  refine JC.cond rfl (fun hc => ?_) (fun hc => ?_)
  · have hi' : i < list.l.length := Nat.lt_of_not_le fun h => by have := of_decide_eq_true hc; omega
    clear hc
    obtain ⟨b, j, e, lb, c⟩ := hl.at hi'
    have hm := SlQ.get_mem hi'
    generalize list.l.getD i noSlP = p at c hm
    have okp := hl.all p hm
    obtain ⟨hp20, hpz, hpv⟩ := gP_no (hgp p hm)
    have hpl : p.ps.length = p.l.length := by unfold SlP.ps; rw [List.length_map]
    have hsv : list.v = .slice (some ⟨b, j, none⟩) list.l.length list.cap := by rw [← e]; rfl
    rw [hsv]
    repeat (first | refine JL.q (by first | (apply OQ.idxS1 (i := i); exact Try.underlying22; exact slPS; exact rfl; exact rfl; exact hi') | (apply OQ.load_old; exact slPC; exact rfl; exact lb; exact (by simp); exact c) | (apply OQ.move; exact rfl) | (apply OQ.assign; exact rfl)) rfl ?_ | refine JC.seq ?_ | refine JC.region ?_ | refine JC.block ?_ | refine JC.skip ?_ | refine JL.nil ?_ | refine JE.next ?_)
    rw [← hsv]
    refine JL.scom (s := p) k (by omega) (fun w' hw' => ⟨okp.holds hw' rfl, awayP_old hw' z.wr okp⟩) rfl rfl rfl fun r2 => ?_
    obtain ⟨code, z1, recs1, vs1, st⟩ := r2
    have hke := st.keep k (by omega)
    have hcd := st.code
    have hb1 := st.blen k
    have k1 := st.1
    have hp1 := st.2.1
    rw [hsz, hxp] at hke
    rw [hbn] at hb1
    dsimp only
    rw [← hp1]
    clear st hp1 k hsz hxp hbn
    cases hk1 : decide ((code : Int) = 0) with
    | true =>
      have hc0 : code = 0 := by have := of_decide_eq_true hk1; omega
      rw [if_pos hc0] at hcd
      repeat (first | refine JL.q (by (apply OQ.eqB (a := (code : Int)) (b := 0); exact rfl; exact rfl; exact hk1)) rfl ?_ | refine JL.nil ?_ | refine JE.next ?_)
      refine JC.cond_true rfl rfl ?_
      repeat (first | refine JL.q (by (apply OQ.move; exact rfl)) rfl ?_ | refine JC.region ?_)
      refine JL.perm (M' := v.E ++ (z1.E ++ [])) ?_ (by exact perm_w2 _ _ _)
      refine JL.rdoV v p (by omega) okp hvk rfl rfl rfl fun r X hr hXv hXr => ?_
      have hrp : r.ps.map PqS.p = pairsV vs1 := by rw [hr, hcd]; exact dpSs_is p.l hvp
      have hrk : ∀ y ∈ r.ps, y.s.ok w := fun y hy => by
        rw [hr] at hy
        rcases dpSs_mem hy with hy | hy
        · exact hvk y hy
        · exact okp.all y hy
      refine JL.perm (M' := z1.E ++ (X ++ [])) ?_ (by exact perm_w2 _ _ _)
      repeat (first | refine JL.q (by first | (apply OQ.move; exact rfl) | (apply OQ.assign; exact rfl) | (apply OQ.addN; exact rfl; exact rfl; exact (by (try simp only []); omega))) rfl ?_ | refine JC.region ?_ | refine JL.nil ?_ | refine JE.next ?_ | refine JE.blk_normal ?_)
      exact JE.again (i := Ws16.mk i z recs vs v) ⟨i + 1, z1, recs1, vs1, r⟩ ⟨hi', k1, hke.1, hke.2.1, by show z1.h.g.toNat ≤ i + 1 + 1; omega, hb1, hrp, hrk⟩ (by dsimp only; omega) (by repeat (first | exact SubE.nil | refine SubE.cons _ _ _ rfl ?_)) (less_two (Less.refl _) (less_two hXr (Less.refl _)))
    | false =>
      have hc0 : ¬ code = 0 := by have := of_decide_eq_false hk1; omega
      rw [if_neg hc0] at hcd
      subst hcd
      repeat (first | refine JL.q (by (apply OQ.eqB (a := (code : Int)) (b := 0); exact rfl; exact rfl; exact hk1)) rfl ?_ | refine JL.nil ?_ | refine JE.next ?_)
      refine JC.cond_false rfl rfl ?_
      repeat (first | refine JL.q (by first | (apply OQ.move; exact rfl) | (apply OQ.addN; exact rfl; exact rfl; exact (by (try simp only []); omega))) rfl ?_ | refine JC.region ?_ | refine JC.skip ?_ | refine JL.nil ?_ | refine JE.next ?_ | refine JE.blk_normal ?_)
      exact JE.again (i := Ws16.mk i z recs vs1 v) ⟨i + 1, z1, recs1, vs1, v⟩ ⟨hi', k1, hke.1, hke.2.1, by show z1.h.g.toNat ≤ i + 1 + 1; omega, hb1, hvp, hvk⟩ (by dsimp only; omega) (by repeat (first | exact SubE.nil | refine SubE.cons _ _ _ rfl ?_)) (Less.refl _)
  · clear hc
    repeat (first | refine JL.q (by (apply OQ.move; exact rfl)) rfl ?_ | refine JC.seq ?_ | refine JC.region ?_ | refine JC.exit ?_ | refine JE.next ?_ | refine JE.then_exit ?_ | refine JE.blk_hit ?_)
    refine JL.callg (ι := Dp) (vs := [Pt x.p 0]) (fun y => Pt y.p 0) (fun y => dkE ⟨y.p, y.q, y.cap, none⟩ z.bl []) goes_twin rfl rfl (fun y => dkE_wr _ _ _) (fun w' hw' => by
      have := dtwin_any z.h.x z.bl [] k.dk (hw'.perm' (perm_z z (v.E ++ [])))
      rwa [hxp] at this) fun y => ?_
    obtain ⟨T, hT⟩ : ∃ T, dkE ⟨y.p, y.q, y.cap, none⟩ z.bl [] = T := ⟨_, rfl⟩
    rw [hT]
    refine JL.perm (M' := z.E ++ (v.E ++ T)) ?_ (by exact perm_w1 _ _ _)
    repeat (refine JL.q (by first | (apply OQ.move; exact rfl) | (apply OQ.assign; exact rfl)) rfl ?_)
    refine JL.nil (JE.next ?_)
    have hlp : last.ps.length = last.l.length := by unfold SlP.ps; rw [List.length_map]
    refine JC.mid (ι := W2) (fun u => [(3, picks.v), (9, Pt x.p 0), (11, Pt u.z.p 0), (13, v.v), (16, Pt y.p 0), (17, u.r.v)]) (fun u => u.z.E ++ (u.X ++ T)) (fun u => (∃ code, Step z recs vs last.ps code u.z u.recs u.vs) ∧ Less v.E u.X ∧ Less u.r.E u.X ∧ u.r.ps.map PqS.p = pairsV u.vs ∧ ∀ p ∈ u.r.ps, p.s.ok w) ?_ ?_
    · repeat (first | refine JL.q (by (apply OQ.move; exact rfl)) rfl ?_ | refine JC.seq ?_ | refine JC.region ?_)
      refine JL.scom (s := last) k (by omega) (fun w' hw' => ⟨hla.holds hw' rfl, awayP_old hw' z.wr hla⟩) rfl rfl rfl fun r2 => ?_
      obtain ⟨code, z1, recs1, vs1, st⟩ := r2
      have hcd := st.code
      have hp1 := st.2.1
      dsimp only
      rw [← hp1]
      clear hp1
      cases hk1 : decide ((code : Int) = 0) with
      | true =>
        have hc0 : code = 0 := by have := of_decide_eq_true hk1; omega
        rw [if_pos hc0] at hcd
        repeat (first | refine JL.q (by (apply OQ.eqB (a := (code : Int)) (b := 0); exact rfl; exact rfl; exact hk1)) rfl ?_ | refine JL.nil ?_ | refine JE.next ?_)
        refine JC.cond_true rfl rfl ?_
        repeat (first | refine JL.q (by (apply OQ.move; exact rfl)) rfl ?_ | refine JC.region ?_)
        refine JL.perm (M' := v.E ++ (z1.E ++ T)) ?_ (by exact perm_w3 _ _ _)
        refine JL.rdoV v last (by omega) hla hvk rfl rfl rfl fun r X hr hXv hXr => ?_
        have hrp : r.ps.map PqS.p = pairsV vs1 := by rw [hr, hcd]; exact dpSs_is last.l hvp
        have hrk : ∀ q ∈ r.ps, q.s.ok w := fun q hq => by
          rw [hr] at hq
          rcases dpSs_mem hq with hq | hq
          · exact hvk q hq
          · exact hla.all q hq
        refine JL.perm (M' := z1.E ++ (X ++ T)) ?_ (by exact perm_w3 _ _ _)
        repeat (first | refine JL.q (by (apply OQ.assign; exact rfl)) rfl ?_ | refine JL.nil ?_)
        exact JE.mid ⟨z1, recs1, vs1, r, X⟩ ⟨⟨code, st⟩, hXv, hXr, hrp, hrk⟩ (by repeat (first | exact SubE.nil | refine SubE.cons _ _ _ rfl ?_)) (Less.refl _)
      | false =>
        have hc0 : ¬ code = 0 := by have := of_decide_eq_false hk1; omega
        rw [if_neg hc0] at hcd
        repeat (first | refine JL.q (by (apply OQ.eqB (a := (code : Int)) (b := 0); exact rfl; exact rfl; exact hk1)) rfl ?_ | refine JL.nil ?_ | refine JE.next ?_)
        refine JC.cond_false rfl rfl ?_
        repeat (refine JC.skip ?_)
        exact JE.mid ⟨z1, recs1, vs1, v, v.E⟩ ⟨⟨code, st⟩, Less.refl _, Less.refl _, by dsimp only; rw [hcd]; exact hvp, hvk⟩ (by repeat (first | exact SubE.nil | refine SubE.cons _ _ _ rfl ?_)) (Less.refl _)
    rintro ⟨z1, recs1, vs1, r, X⟩ ⟨⟨code, st⟩, hXv, hXr, hrp, hrk⟩
    dsimp only at st hXv hXr hrp hrk ⊢
    have hke := st.keep k (by omega)
    have hb1 := st.blen k
    have k1 := st.1
    rw [hsz, hxp] at hke
    have hba := k.dk.ok.b
    have hbb := k1.dk.ok.b
    have cA : ∀ w', Holds w [] (z1.E ++ (X ++ T)) w' → Calls Try.prog 18 [Pt y.p 0].toArray w' fun e w2 => ∃ q : Nat × Nat, e = .returned (accV (some q) z.bl.length) ∧ Holds w' [] (accC 51 64 (some q) (bcs z.bl)) w2 := fun w' hw' => by
      have h1 := hw'.weak (less_app z1.E (less_app X (Less.refl T)))
      rw [← hT] at h1
      exact lblocks15_any ⟨y.p, y.q, y.cap, none⟩ z.bl [] k.dk.ok (by omega) w' (dkR_of (M := []) (by rw [List.append_nil]; exact h1))
    repeat (first | refine JL.q (by (apply OQ.move; exact rfl)) rfl ?_ | refine JC.seq ?_ | refine JC.region ?_)
    refine JL.callg (ι := Nat × Nat) (vs := [Pt y.p 0]) (fun q => accV (some q) z.bl.length) (fun q => accC 51 64 (some q) (bcs z.bl)) goes_lblocks15 rfl rfl (fun _ => accC_wr _ _ _ _) (fun w' hw' => cA w' hw') fun qa => ?_
    clear cA
    repeat (refine JL.q (by (apply OQ.move; exact rfl)) rfl ?_)
    refine JL.callg (ι := Nat × Nat) (vs := [Pt x.p 0]) (fun q => accV (some q) z1.bl.length) (fun q => accC 51 64 (some q) (bcs z1.bl)) goes_lblocks15 rfl rfl (fun _ => accC_wr _ _ _ _) (fun w' hw' => by
      have h1 := ((hw'.weak (less_app _ (Less.refl _))).perm' (perm_z z1 (X ++ T)))
      have := lblocks15_any z1.h.x z1.bl [] k1.dk.ok (by omega) w' (dkR_of h1)
      rwa [hke.2.1] at this) fun qb => ?_
    have hqa0 : some qa = (none : Acc) → z.bl.length = 0 := nofun
    refine JL.perm (M' := T ++ (accC 51 64 (some qa) (bcs z.bl) ++ (accC 51 64 (some qb) (bcs z1.bl) ++ (z1.E ++ X)))) ?_ (by exact perm_w4 _ _ _ _ _)
    rw [← hT]
    clear hT T
    repeat (first | refine JL.q (by first | (apply OQ.lenV (q := some qa) (k := z.bl.length); exact Try.underlying48; exact hqa0; exact rfl) | (apply OQ.move; exact rfl) | (apply OQ.assign; exact rfl)) rfl ?_ | refine JC.seq ?_ | refine JC.region ?_ | refine JC.block ?_ | refine JL.nil ?_ | refine JE.next ?_)
    refine JC.loop (fun s : Nat × Acc × List (Nat × Bk) => [(3, picks.v), (11, Pt z1.p 0), (13, v.v), (16, Pt y.p 0), (17, r.v), (18, accV (some qa) z.bl.length), (19, accV (some qb) z1.bl.length), (96, N z.bl.length), (97, N s.1)]) (fun s => dkE ⟨y.p, y.q, y.cap, s.2.1⟩ (mixB z.bl z1.bl s.1) s.2.2 ++ (accC 51 64 (some qa) (bcs z.bl) ++ (accC 51 64 (some qb) (bcs z1.bl) ++ (z1.E ++ X)))) (fun s => z.bl.length - s.1) (fun s => s.1 ≤ z.bl.length ∧ DkOk ⟨y.p, y.q, y.cap, s.2.1⟩ (mixB z.bl z1.bl s.1) s.2.2 ∧ undo (mixB z.bl z1.bl s.1) s.2.2 = (z.bl, wsB z.bl z1.bl s.1) ∧ s.2.2.length ≤ s.1) (0, none, []) ⟨Nat.zero_le _, by dsimp only; rw [mixB_zero]; exact k.dk.twin, by dsimp only; rw [mixB_zero, undo_nil]; rfl, Nat.le_refl _⟩ (by repeat (first | exact SubE.nil | refine SubE.cons _ _ _ rfl ?_)) (by dsimp only; rw [mixB_zero]; exact Less.refl _) ?_
    rintro ⟨j, qd, pd⟩ ⟨hj, hd, hu, hpd⟩
    dsimp only at hj hd hu hpd ⊢
    repeat (first | refine JL.q (by (apply OQ.lssN; exact rfl; exact rfl)) rfl ?_ | refine JC.seq ?_ | refine JC.region ?_ | refine JL.nil ?_ | refine JE.next ?_)
    refine JC.cond rfl (fun hc => ?_) (fun hc => ?_)
    · have hj' : j < z.bl.length := Nat.lt_of_not_le fun h => by have := of_decide_eq_true hc; omega
      clear hc
      have hjb : j < z1.bl.length := by omega
      have hmx := mixB_len (a := z.bl) (b := z1.bl) hb1 (Nat.le_of_lt hj')
      have hset := mixB_set (a := z.bl) (b := z1.bl) hb1 hj'
      have hla' : (old z.bl j).length = 64 := hba _ (old_mem hj')
      have hlb' : (old z1.bl j).length = 64 := hbb _ (old_mem hjb)
      obtain ⟨qa1, qa2⟩ := qa
      obtain ⟨qb1, qb2⟩ := qb
      have hava : accV (some (qa1, qa2)) z.bl.length = .slice (some ⟨qa1, 0, none⟩) z.bl.length qa2 := rfl
      have havb : accV (some (qb1, qb2)) z1.bl.length = .slice (some ⟨qb1, 0, none⟩) z1.bl.length qb2 := rfl
      have hHa : Has (dkE ⟨y.p, y.q, y.cap, qd⟩ (mixB z.bl z1.bl j) pd ++ (accC 51 64 (some (qa1, qa2)) (bcs z.bl) ++ (accC 51 64 (some (qb1, qb2)) (bcs z1.bl) ++ (z1.E ++ X)))) qa1 (Sl.Own 51 64 (bcs z.bl).length qa2 (bcs z.bl).flatten) true := hasR .here
      have hHb : Has (dkE ⟨y.p, y.q, y.cap, qd⟩ (mixB z.bl z1.bl j) pd ++ (accC 51 64 (some (qa1, qa2)) (bcs z.bl) ++ (accC 51 64 (some (qb1, qb2)) (bcs z1.bl) ++ (z1.E ++ X)))) qb1 (Sl.Own 51 64 (bcs z1.bl).length qb2 (bcs z1.bl).flatten) true := hasR (hasR .here)
      obtain ⟨cn, hcn⟩ : ∃ c, (!decide (old z.bl j = old z1.bl j)) = c := ⟨_, rfl⟩
      repeat (first | refine JL.q (by first | (apply OQ.move; exact rfl) | (apply OQ.assign; exact rfl)) rfl ?_ | refine JC.seq ?_ | refine JC.region ?_ | refine JC.block ?_ | refine JC.skip ?_ | refine JL.nil ?_ | refine JE.next ?_)
      refine JC.quiet mixT (by kernel_rfl) ?_
      repeat (first | refine JQ.q (by first | (apply OQ.idxS (sz := 64) (i := j) (b := qa1) (j := 0); exact Try.underlying48; exact dkB; exact (congrArg some hava); exact rfl; exact hj') | (apply OQ.idxS (sz := 64) (i := j) (b := qb1) (j := 0); exact Try.underlying48; exact dkB; exact (congrArg some havb); exact rfl; exact hjb) | (apply OQ.loadBw (bl := z.bl) (i := j); exact hba; exact rfl; exact hHa; exact hj') | (apply OQ.loadBw (bl := z1.bl) (i := j); exact hbb; exact rfl; exact hHb; exact hjb) | (apply OQ.neBlk; exact hla'; exact hlb'; exact hcn; exact rfl; exact rfl) | (apply OQ.move; exact rfl)) rfl ?_ | refine JQ.nil ?_ | refine JE.next ?_)
      cases cn with
      | true =>
        have hne : ¬ old z.bl j = old z1.bl j := by simpa using hcn
        refine JC.cond_true rfl rfl ?_
        repeat (first | refine JL.q (by first | (apply OQ.idxS (sz := 64) (i := j) (b := qb1) (j := 0); exact Try.underlying48; exact dkB; exact (congrArg some havb); exact rfl; exact hjb) | (apply OQ.loadBw (bl := z1.bl) (i := j); exact hbb; exact rfl; exact hHb; exact hjb) | (apply OQ.move; exact rfl)) rfl ?_ | refine JC.region ?_)
        refine JL.dwrite (k := j) (b := old z1.bl j) hd (by omega) hlb' rfl rfl rfl rfl fun z3 => ?_
        have hw := hd.write (n := j) (b := old z1.bl j) (by omega) hlb' (by have := k.dk.n1; omega) z3
        have hu2 := undo_write (bl := mixB z.bl z1.bl j) (pd := pd) (n := j) (b := old z1.bl j) (by omega)
        rw [hset] at hw hu2 ⊢
        rw [hu] at hu2
        repeat (first | refine JL.q (by first | (apply OQ.addN (a := j) (b := 1); exact rfl; exact rfl; exact (by omega)) | (apply OQ.move; exact rfl)) rfl ?_ | refine JC.region ?_ | refine JL.nil ?_ | refine JE.next ?_ | refine JE.blk_normal ?_)
        exact JE.again (i := (j, qd, pd)) (j + 1, some z3, wrote (mixB z.bl z1.bl j) pd j) ⟨hj', hw, by dsimp only; rw [hu2, wsB, if_neg hne], by dsimp only; rw [wrote, List.length_append, List.length_singleton]; omega⟩ (by dsimp only; omega) (by repeat (first | exact SubE.nil | refine SubE.cons _ _ _ rfl ?_)) (Less.refl _)
      | false =>
        have heq : old z.bl j = old z1.bl j := by simpa using hcn
        have hsm := mixB_same (a := z.bl) (b := z1.bl) hb1 hj' heq
        rw [hsm] at hd hu ⊢
        refine JC.cond_false rfl rfl ?_
        repeat (first | refine JL.q (by first | (apply OQ.addN (a := j) (b := 1); exact rfl; exact rfl; exact (by omega)) | (apply OQ.move; exact rfl)) rfl ?_ | refine JC.region ?_ | refine JC.skip ?_ | refine JL.nil ?_ | refine JE.next ?_ | refine JE.blk_normal ?_)
        exact JE.again (i := (j, qd, pd)) (j + 1, qd, pd) ⟨hj', hd, by dsimp only; rw [hu, wsB, if_pos heq], by dsimp only; omega⟩ (by dsimp only; omega) (by repeat (first | exact SubE.nil | refine SubE.cons _ _ _ rfl ?_)) (Less.refl _)
    have hj' : j = z.bl.length := Nat.le_antisymm hj (Nat.le_of_not_lt fun h => by have := of_decide_eq_false hc; omega)
    clear hc
    subst hj'
    rw [mixB_all hb1] at hd hu ⊢
    repeat (first | refine JL.q (by (apply OQ.move; exact rfl)) rfl ?_ | refine JC.seq ?_ | refine JC.region ?_ | refine JC.exit ?_ | refine JE.next ?_ | refine JE.then_exit ?_ | refine JE.blk_hit ?_)
    refine JL.dcrash (s := picks) hd (by omega) (fun w' hw' => ⟨hpk.holds hw' rfl, away_old hw' (dkE_wr _ _ _) hpk⟩) rfl rfl rfl ?_
    obtain ⟨hcur, hno⟩ := whole16 st k (by omega) (by omega) hb1 (crash_mix (Nat.le_refl _) hu picks.l)
    have hdc := hd.crash picks.l
    generalize crash picks.l z1.bl pd = c at hcur hno hdc ⊢
    clear hd hu hpd
    repeat (first | refine JL.q (by (apply OQ.move; exact rfl)) rfl ?_ | refine JC.seq ?_ | refine JC.region ?_ | refine JL.nil ?_ | refine JE.next ?_)
    rcases hcur with hcu | hcu
    · obtain ⟨ls, hls, hdo⟩ := vals_ls k.vals
      refine JL.sopen (x := ⟨y.p, y.q, y.cap, none⟩) (ls := ls) hdc hno (by rw [hcu]; exact hls) rfl rfl fun z2 => ?_
      obtain ⟨z2, k2, hh2, hb2⟩ := z2
      rw [hdo, hcu] at k2
      dsimp only
      refine JL.perm (M' := z2.E ++ (z1.E ++ (X ++ (accC 51 64 (some qa) (bcs z.bl) ++ accC 51 64 (some qb) (bcs z1.bl))))) ?_ (by exact perm_w5 _ _ _ _ _)
      obtain ⟨R, hR⟩ : ∃ R, accC 51 64 (some qa) (bcs z.bl) ++ accC 51 64 (some qb) (bcs z1.bl) = R := ⟨_, rfl⟩
      rw [hR]
      have cI1 := fun w' (hw' : Holds w [] (z2.E ++ (z1.E ++ (X ++ R))) w') => is16_any z2 recs vs k2 v.s w' (Vp.ok (A := z2.E ++ z1.E) hXv (by rw [List.append_assoc]; exact hw') fun q hq => (hvk q hq).holds hw' rfl) hvp (stR_of hw') (k2.vok hw')
      have cI2 := fun w' (hw' : Holds w [] (z2.E ++ (z1.E ++ (X ++ R))) w') => is16_any z1 recs1 vs1 k1 r.s w' (Vp.ok (A := z2.E ++ z1.E) hXr (by rw [List.append_assoc]; exact hw') fun q hq => (hrk q hq).holds hw' rfl) hrp (stR_of (hw'.weak (less_app z2.E (Less.refl _)))) (k1.vok (hw'.weak (less_app z2.E (Less.refl _))))
      repeat (first | refine JL.q (by first | (apply OQ.extract; exact rfl; exact rfl) | (apply OQ.eqB (a := 0) (b := 0) (c := true); exact rfl; exact rfl; exact rfl) | (apply OQ.callx (vs := [Pt z2.p 0, v.v]); exact goes_Is16; exact rfl; exact (fun w' hw' => cI1 w' hw')) | (apply OQ.callx (vs := [Pt z1.p 0, r.v]); exact goes_Is16; exact rfl; exact (fun w' hw' => cI2 w' hw')) | (apply OQ.pick_t; exact rfl; exact rfl) | (apply OQ.move; exact rfl) | (apply OQ.assign; exact rfl)) rfl ?_ | refine JC.seq ?_ | refine JC.region ?_ | refine JL.nil ?_ | refine JE.next ?_ | refine JL.gon rfl rfl ?_ | refine JL.gskip rfl rfl rfl rfl ?_)
      refine JC.ret ?_
      skip
      exact JE.ret1 rfl (RV.tmp rfl) fun w' hw => ⟨rfl, hw.chg⟩
    · obtain ⟨ls, hls, hdo⟩ := vals_ls k1.vals
      refine JL.sopen (x := ⟨y.p, y.q, y.cap, none⟩) (ls := ls) hdc hno (by rw [hcu]; exact hls) rfl rfl fun z2 => ?_
      obtain ⟨z2, k2, hh2, hb2⟩ := z2
      rw [hdo, hcu] at k2
      dsimp only
      refine JL.perm (M' := z2.E ++ (z1.E ++ (X ++ (accC 51 64 (some qa) (bcs z.bl) ++ accC 51 64 (some qb) (bcs z1.bl))))) ?_ (by exact perm_w5 _ _ _ _ _)
      obtain ⟨R, hR⟩ : ∃ R, accC 51 64 (some qa) (bcs z.bl) ++ accC 51 64 (some qb) (bcs z1.bl) = R := ⟨_, rfl⟩
      rw [hR]
      have cI1 := fun w' (hw' : Holds w [] (z2.E ++ (z1.E ++ (X ++ R))) w') => is16_tot z2 recs1 vs1 k2 v.s w' (Vp.ok (A := z2.E ++ z1.E) hXv (by rw [List.append_assoc]; exact hw') fun q hq => (hvk q hq).holds hw' rfl) (stR_of hw') (k2.vok hw')
      have cI2 := fun w' (hw' : Holds w [] (z2.E ++ (z1.E ++ (X ++ R))) w') => is16_any z1 recs1 vs1 k1 r.s w' (Vp.ok (A := z2.E ++ z1.E) hXr (by rw [List.append_assoc]; exact hw') fun q hq => (hrk q hq).holds hw' rfl) hrp (stR_of (hw'.weak (less_app z2.E (Less.refl _)))) (k1.vok (hw'.weak (less_app z2.E (Less.refl _))))
      have cI3 := fun w' (hw' : Holds w [] (z2.E ++ (z1.E ++ (X ++ R))) w') => is16_any z2 recs1 vs1 k2 r.s w' (Vp.ok (A := z2.E ++ z1.E) hXr (by rw [List.append_assoc]; exact hw') fun q hq => (hrk q hq).holds hw' rfl) hrp (stR_of hw') (k2.vok hw')
      repeat (first | refine JL.q (by first | (apply OQ.extract; exact rfl; exact rfl) | (apply OQ.eqB (a := 0) (b := 0) (c := true); exact rfl; exact rfl; exact rfl) | (apply OQ.move; exact rfl) | (apply OQ.assign; exact rfl)) rfl ?_ | refine JC.seq ?_ | refine JC.region ?_ | refine JL.nil ?_ | refine JE.next ?_ | refine JL.gon rfl rfl ?_)
      refine JL.callg (ι := Bool) (vs := [Pt z2.p 0, v.v]) (fun c => .bool c) (fun _ => []) goes_Is16 rfl rfl (fun _ => nofun) (fun w' hw' => (cI1 w' hw').mono fun e w2 ⟨_, ⟨c, hc⟩, hx⟩ => ⟨c, hc, ⟨hx, by simp, by simp⟩⟩) fun c => ?_
      rw [List.nil_append]
      cases c with
      | true =>
        repeat (first | refine JL.q (by first | (apply OQ.callx (vs := [Pt z1.p 0, r.v]); exact goes_Is16; exact rfl; exact (fun w' hw' => cI2 w' hw')) | (apply OQ.pick_t; exact rfl; exact rfl) | (apply OQ.move; exact rfl) | (apply OQ.assign; exact rfl)) rfl ?_ | refine JL.nil ?_ | refine JE.next ?_ | refine JL.gon rfl rfl ?_ | refine JL.gskip rfl rfl rfl rfl ?_)
        refine JC.ret ?_
        skip
        exact JE.ret1 rfl (RV.tmp rfl) fun w' hw => ⟨rfl, hw.chg⟩
      | false =>
        repeat (first | refine JL.q (by first | (apply OQ.callx (vs := [Pt z2.p 0, r.v]); exact goes_Is16; exact rfl; exact (fun w' hw' => cI3 w' hw')) | (apply OQ.callx (vs := [Pt z1.p 0, r.v]); exact goes_Is16; exact rfl; exact (fun w' hw' => cI2 w' hw')) | (apply OQ.pick_t; exact rfl; exact rfl) | (apply OQ.pick_f; exact rfl; exact rfl) | (apply OQ.move; exact rfl) | (apply OQ.assign; exact rfl)) rfl ?_ | refine JL.nil ?_ | refine JE.next ?_ | refine JL.gon rfl rfl ?_)
        refine JC.ret ?_
        skip
        exact JE.ret1 rfl (RV.tmp rfl) fun w' hw => ⟨rfl, hw.chg⟩
end Go.Proofs.Ytjkncnbpaejamaa
