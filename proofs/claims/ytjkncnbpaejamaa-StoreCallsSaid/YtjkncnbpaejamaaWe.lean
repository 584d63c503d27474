/-
  Of no statement by itself: the texts StoAg, StoAh in one.
  Conditions: each theorem's own.
-/
import Derived.Test.YtjkncnbpaejamaaWd
set_option linter.unusedSimpArgs false
set_option linter.unusedVariables false
/-
  Of no statement by itself: rules for what a law of the store asks: append that leaves the old row, Do over a row of its own; what a Commit comes to against what the document says.
  Conditions: each theorem's own.
-/
namespace Go.Proofs.Ytjkncnbpaejamaa
set_option maxRecDepth 10000
open Sl Dsk Jrn Sto
section
variable {P : Program} {n : Nat} {w0 : World} {S : List Nat} {ops : Array Oper} {Q : Exit → Act → World → Prop} {l : List Oper} {E : Env} {M : List Ent}
variable {d : Nat} {t e ty : TypeId} {pos : String} {aft : Array Edge} {x y : Operand}
theorem own_cut {e : TypeId} {k cap : Nat} {xs : List Value} {v : Value} : ∀ o, Sl.Own e 1 (k + 1) cap (xs ++ [v]) o → Sl.Own e 1 k cap xs o := by
  rintro o ⟨sp, rfl, h1, h2, h3⟩
  rw [List.length_append, List.length_singleton] at h2
  exact ⟨v :: sp, by simp, by simp only [List.length_append, List.length_cons, List.length_nil] at h1 ⊢; omega, by omega, by omega⟩
/-- append of one element, after which the old row is still known -/
theorem JL.appTwo {z : Value} {by' sc : Nat} {ad : Option Addr} {xs : List Value} {v : Value} {q : Nat × Nat} (hu : P.underlying t = some (.slice e)) (hi : EI P e z 1 by') (hx : ev E x = some (accV (some q) xs.length)) (hy : ev E y = some (.slice ad 1 sc))
    (hr : ∀ w, Holds w0 S (accE e (some q) xs ++ M) w → Reads w ad [v]) (h1 : v.oneCell' = true) (hzz : z.cells.size = 1) (hsm : (xs.length + 1) * by' ≤ 140737488355328) (hsm2 : xs.length + 1 < 9223372036854775808) (hd : Nat.blt d n = true)
    (kk : ∀ (q' : Nat × Nat) (X : List Ent), Less (accE e (some q) xs) X → Less (accE e (some q') (xs ++ [v])) X → JL P n w0 S ops Q l ((d, accV (some q') (xs.length + 1)) :: E) (X ++ M)) :
    JL P n w0 S ops Q (⟨some d, .call ⟨.builtin .append, #[x, y], #[t, t]⟩, ty, pos, aft, none⟩ :: l) E (accE e (some q) xs ++ M) :=
  ⟨fun a w ha hw => wpList_plain rfl fun K hK => by
    obtain ⟨b, cap⟩ := q
    obtain ⟨i, hi1, hi2, hi3, hi4⟩ := hi.get
    have hw' : Holds w0 S (⟨b, Sl.Own e 1 xs.length cap xs, true⟩ :: M) w := hw
    obtain ⟨o, ho, sp, rfl, hc1, hc2, hc3⟩ := hw'.get .here
    have hru := hr w hw
    have hx : ev E x = some (.slice (some ⟨b, 0, none⟩) xs.length cap) := hx
    have hl : ([v] : List Value).length = 1 * 1 := rfl
    have e1 : (xs ++ [v]).length = xs.length + 1 := by simp
    have hone : ∀ u ∈ [v], u.oneCell' = true := fun u hu => by rw [List.mem_singleton.1 hu]; exact h1
    unfold Oper.wp
    simp only [execOp, resolve, invoke, builtin, Sem.run_bind, Sem.run_pure, Result.andThen_ok, List.map_toArray, List.map_cons, List.map_nil, ha.eval hx, ha.eval hy]
    obtain ⟨b2, j2, rfl, hcell⟩ := hru.at (by simp)
    by_cases hroom : xs.length + 1 ≤ cap
    · have hfit : xs.length * i.size + [v].length ≤ (xs ++ sp).toArray.size := by
        rw [hl, hi3, List.size_toArray, hc1]; omega
      rw [run_append_room (P := P) w t ty e i hu hi1 b xs.length cap (xs ++ sp).toArray ho ⟨b2, j2, none⟩ 1 sc [v] (by rw [hl, hi3]) (fun u v hv => by rw [add_off]; exact hcell u v hv) hone hroom hfit]
      refine hK _ _ ((kk (b, cap) [⟨b, Sl.Own e 1 (xs.length + 1) cap (xs ++ [v]), true⟩] (.keep _ _ _ _ _ _ own_cut (Less.refl _)) ?_).go _ _ (ha.put d _ hd) (hw'.write (Upd.here) (o' := .cells ((xs ++ sp).take (xs.length * i.size) ++ [v] ++ (xs ++ sp).drop (xs.length * i.size + [v].length)).toArray e (0, 0)) ?_ (setRow_heap w b _ _ e _ ho) (by simp) (fun q hq => setRow_other w b q _ hq) rfl rfl rfl))
      · show Less [⟨b, Sl.Own e 1 (xs ++ [v]).length cap (xs ++ [v]), true⟩] _
        rw [e1]
        exact Less.refl _
      rw [hi3, Nat.mul_one, List.take_left]
      refine ⟨(xs ++ sp).drop (xs.length + [v].length), rfl, ?_, by rw [e1, Nat.mul_one], hroom⟩
      have h7 : xs.length + 1 ≤ (xs ++ sp).length := by rw [hc1]; omega
      simp only [List.length_append, List.length_drop, List.length_singleton] at h7 hc1 ⊢
      omega
    · have hold : ∀ u v, xs[u]? = some v → w.cell? ((⟨b, 0, none⟩ : Addr).add u) = some v := fun u v hv => by
        rw [add_off]
        have hu' : u < xs.length := (List.getElem?_eq_some_iff.1 hv).1
        exact cell_of ho (by simpa [cellAt, List.getElem?_append_left hu'] using hv)
      have hfit := growslice_fits (need := xs.length + 1) (old := cap) (by omega) hsm
      rw [run_append_grow (P := P) w t ty e i z hu hi1 hi2 ⟨b, 0, none⟩ xs.length cap xs (by rw [hi3, Nat.mul_one]) hold ⟨b2, j2, none⟩ 1 sc [v] (by rw [hl, hi3]) (fun u v hv => by rw [add_off]; exact hcell u v hv) (by omega) (by omega) (by rw [hi4]; exact hfit)]
      have hge := grownCap_ge w (xs.length + 1) cap e
      generalize grownCap w (xs.length + 1) cap e = nc at hge
      refine hK _ _ ((kk (w.heap.size, nc) [⟨w.heap.size, Sl.Own e 1 (xs.length + 1) nc (xs ++ [v]), true⟩, ⟨b, Sl.Own e 1 xs.length cap xs, true⟩] (.drop _ _ _ (Less.refl _)) ?_).go _ _ (ha.put d _ hd) (hw'.push (.cells (xs.toArray ++ [v].toArray ++ Builtin.zeroCells z.cells (nc - (xs.length + 1))) e) ?_ rfl rfl rfl rfl))
      · show Less [⟨w.heap.size, Sl.Own e 1 (xs ++ [v]).length nc (xs ++ [v]), true⟩] _
        rw [e1]
        exact .keep _ _ _ _ _ _ (fun _ h => h) (.nil _)
      refine ⟨(Builtin.zeroCells z.cells (nc - (xs.length + 1))).toList, by simp, ?_, by rw [e1, Nat.mul_one], hge⟩
      have h8 : (Builtin.zeroCells z.cells (nc - (xs.length + 1))).size = (nc - (xs.length + 1)) * 1 := by simp [Builtin.zeroCells, hzz]
      simp only [List.length_append, Array.length_toList, h8, List.length_singleton]
      omega⟩
end
/-- values, as a row of pairs of one's own, whose bytes are old -/
structure Vp where
  q : Nat × Nat
  ps : List PqS
def Vp.v (z : Vp) : Value := accV (some z.q) z.ps.length
def Vp.E (z : Vp) : List Ent := accC 44 3 (some z.q) (z.ps.map PqS.cs)
def Vp.s (z : Vp) : SlP := ⟨some ⟨z.q.1, 0, none⟩, z.q.2, z.ps⟩
theorem Vp.wr (z : Vp) : ∀ e ∈ z.E, e.wr = true := accC_wr _ _ _ _
theorem Vp.ok {z : Vp} {w0 w : World} {S : List Nat} {A X M : List Ent} (hX : Less z.E X) (hw : Holds w0 S (A ++ (X ++ M)) w) (ha : ∀ p ∈ z.ps, p.s.ok w) : z.s.ok w :=
  gpS_ok (q := some z.q) (l := z.ps) (M := []) nofun (hw.weak (less_app A (less_two hX (.nil _)))) ha
section
variable {n : Nat} {w0 : World} {ops : Array Oper} {Q : Exit → Act → World → Prop} {l : List Oper} {E : Env} {M : List Ent}
variable {d : Nat} {ty : TypeId} {pos : String} {aft : Array Edge} {x1 x2 : Operand} {ats : Array TypeId}
theorem JL.rdoV (z : Vp) (s : SlP) (hn : z.ps.length + s.l.length ≤ 1000000) (hs : s.ok w0) (hp : ∀ p ∈ z.ps, p.s.ok w0) (e1 : ev E x1 = some z.v) (e2 : ev E x2 = some s.v) (hd : Nat.blt d n = true)
    (kk : ∀ (r : Vp) (X : List Ent), r.ps = s.l.foldl dpS z.ps → Less z.E X → Less r.E X → JL Try.prog n w0 [] ops Q l ((d, r.v) :: E) (X ++ M)) :
    JL Try.prog n w0 [] ops Q (⟨some d, .call ⟨.value (.func 11), #[x1, x2], ats⟩, ty, pos, aft, none⟩ :: l) E (z.E ++ M) := by
  refine JL.call (ι := {y : Vp × List Ent // y.1.ps = s.l.foldl dpS z.ps ∧ Less z.E y.2 ∧ Less y.1.E y.2}) (xs := [x1, x2]) (vs := [z.v, s.v]) (fun y => y.1.1.v) (fun y => y.1.2 ++ M) goes_rDo (by simp [evs, e1, e2]) hd (fun w hw => ?_) fun y => kk y.1.1 y.1.2 y.2.1 y.2.2.1 y.2.2.2
  have kz : z.s.ok w := Vp.ok (A := []) (Less.refl _) hw fun p h => (hp p h).holds hw rfl
  have c := rDo_any z.s s w kz (hs.holds hw rfl) hn
  refine Calls.mono (show Calls Try.prog 11 [z.v, s.v].toArray w _ from c) fun e w' ⟨⟨⟨q, ps⟩, hk, hp⟩, h1, h2⟩ => ?_
  have hp2 : ps = s.l.foldl dpS z.ps := hp
  have hb := hw.both h2 (Cu.wr _)
  cases q with
  | none =>
    have h3 : ps = z.ps := hk.a0 rfl
    exact ⟨⟨(z, z.E), h3.symm.trans hp2, Less.refl _, Less.refl _⟩, h1, hb⟩
  | some p =>
    refine ⟨⟨(⟨p, ps⟩, accC 44 3 (some p) (ps.map PqS.cs) ++ z.E), hp2, less_app _ (Less.refl _), less_pre _ _⟩, h1, ?_⟩
    have hb : Holds w0 [] (accC 44 3 (some p) (ps.map PqS.cs) ++ (z.E ++ M)) w' := hb
    rw [← List.append_assoc] at hb
    exact hb
end
/-- records, as a row of one's own -/
structure Gq where
  q : Nat × Nat
  rs : List Sl8
  h0 : ∀ x ∈ rs, x.ad = none → x.l = []
def Gq.l (z : Gq) : List Bk := z.rs.map Sl8.l
def Gq.v (z : Gq) : Value := accV (some z.q) z.rs.length
def Gq.E (z : Gq) : List Ent := accE 33 (some z.q) (z.rs.map Sl8.v) ++ flatE z.rs
def Gq.s (z : Gq) : SlL := ⟨some ⟨z.q.1, 0, none⟩, z.q.2, z.rs⟩
theorem Gq.ok {z : Gq} {w0 w : World} {S : List Nat} {M : List Ent} (hM : Less z.E M) (h : Holds w0 S M w) : z.s.ok w :=
  accL_ok (q := some z.q) (h.weak hM) z.h0
structure J16 where
  k : Nat
  g : Gq
/-- what the document says of a Commit -/
def Out16 (half : Nat) (recs : List Bk) (vs : VL) (ps : List Pq) (y : J16) : Prop :=
  (okL ps = false ∧ y.k = 1 ∧ y.g.l = recs) ∨ (okL ps = true ∧
    ((room (recs ++ [encL ps]) ≤ half ∧ y.k = 0 ∧ y.g.l = recs ++ [encL ps]) ∨
     (¬ room (recs ++ [encL ps]) ≤ half ∧ ((room [baseOf vs ps] ≤ half ∧ y.k = 0 ∧ y.g.l = [baseOf vs ps]) ∨ (¬ room [baseOf vs ps] ≤ half ∧ y.k = 6 ∧ y.g.l = recs)))))
theorem Step.is16 {z z' : Sz} {recs recs' : List Bk} {vs vs' : VL} {ps : List Pq} {code half : Nat} {y : J16} (st : Step z recs vs ps code z' recs' vs') (k : z.ok recs vs) (hg : z.h.g.toNat < 4294967295) (hh : z.h.size = half) (o : Out16 half recs vs ps y) :
    code = y.k ∧ recs' = y.g.l ∧ vs' = if y.k = 0 then doL vs ps else vs := by
  have hu := k.jv.u
  have hr := k.jv.r
  have hgm : ¬ gm z.bl = 4294967295#32 := fun e => by
    have := k.jv.gm_le
    rw [e, show (4294967295#32).toNat = 4294967295 from rfl] at this
    omega
  have r1 : room (recs ++ [encL ps]) = room recs + nb (encL ps).length := by rw [room_append]; simp [room]
  have r2 : room [baseOf vs ps] = nb (baseOf vs ps).length := by simp [room]
  unfold Out16 at o
  rw [r1, r2] at o
  obtain ⟨_, _, st⟩ := st
  unfold noRst at st
  have hgm' : (gm z.bl = 4294967295#32) = False := eq_false hgm
  rw [hgm', or_false] at st
  rcases st with ⟨rfl, rfl, rfl, ⟨h1, rfl⟩ | ⟨h1, rfl, h2, h3⟩⟩ | ⟨h1, rfl, rfl, ⟨h2, _, _, rfl⟩ | ⟨h2, h3, _, _, rfl⟩⟩
  · rw [h1] at o
    rcases o with ⟨_, o2, o3⟩ | ⟨o1, _⟩
    · rw [o2, o3]; exact ⟨rfl, rfl, rfl⟩
    · cases o1
  · rw [h1] at o
    rcases o with ⟨o1, _⟩ | ⟨_, ⟨o1, _⟩ | ⟨_, ⟨o1, _⟩ | ⟨_, o2, o3⟩⟩⟩
    · cases o1
    · omega
    · omega
    · rw [o2, o3]; exact ⟨rfl, rfl, rfl⟩
  · rw [h1] at o
    rcases o with ⟨o1, _⟩ | ⟨_, ⟨_, o2, o3⟩ | ⟨o1, _⟩⟩
    · cases o1
    · rw [o2, o3]; exact ⟨rfl, rfl, rfl⟩
    · omega
  · rw [h1] at o
    rcases o with ⟨o1, _⟩ | ⟨_, ⟨o1, _⟩ | ⟨_, ⟨_, o2, o3⟩ | ⟨o1, _⟩⟩⟩
    · cases o1
    · omega
    · rw [o2, o3]; exact ⟨rfl, rfl, rfl⟩
    · omega
theorem less_trans {A B C : List Ent} (h1 : Less A B) (h2 : Less B C) : Less A C := by
  induction h2 generalizing A with
  | nil => cases h1; exact .nil _
  | keep b F G wr B' C' hf _ ih =>
    cases h1 with
    | nil => exact .nil _
    | keep _ F2 _ _ A' _ hf2 h => exact .keep _ _ _ _ _ _ (fun o ho => hf2 o (hf o ho)) (ih h)
    | drop _ _ _ h => exact .drop _ _ _ (ih h)
  | drop e B' C' _ ih => exact .drop _ _ _ (ih h1)
theorem room_mem16 {recs : List Bk} {b : Bk} (h : b ∈ recs) : nb b.length ≤ room recs := by
  induction recs with
  | nil => cases h
  | cons r rs ih =>
    rw [room_cons]
    rcases List.mem_cons.1 h with rfl | h
    · omega
    · have := ih h; omega
theorem perm_init16 (a b c : Ent) (Z : List Ent) : (a :: b :: c :: (Z ++ [])).Perm (Z ++ (c :: (a :: b :: []))) := perm_cnt fun _ _ y => by simp only [List.count_append, List.count_cons, List.count_nil]; omega
end Go.Proofs.Ytjkncnbpaejamaa

/-
  Of no statement by itself: what StoreCalls gives.
  Conditions: each theorem's own.
-/
namespace Go.Proofs.Ytjkncnbpaejamaa
set_option maxRecDepth 10000
open Sl Dsk Jrn Sto
structure Cs16 where
  i : Nat
  z : Sz
  recs : List Bk
  vs : VL
  v : Vp
  g : Gq
theorem perm20 (a : Ent) (A2 X A1 Z G F : List Ent) : (a :: (A2 ++ (X ++ (A1 ++ (Z ++ ((G ++ F) ++ [])))))).Perm (G ++ (F ++ (A1 ++ (a :: (A2 ++ (X ++ Z)))))) := perm_cnt fun _ _ y => by simp only [List.count_append, List.count_cons, List.count_nil]; omega
theorem perm21 (X3 F A1 A2 X Z : List Ent) (b a : Ent) : (X3 ++ (b :: (F ++ (A1 ++ (a :: (A2 ++ (X ++ Z))))))).Perm (Z ++ (X ++ ((X3 ++ (F ++ A1)) ++ (b :: a :: A2)))) := perm_cnt fun _ _ y => by simp only [List.count_append, List.count_cons, List.count_nil]; omega
theorem perm23 (X2 F A1 A2 X Z : List Ent) (c b a : Ent) : (c :: b :: (X2 ++ (F ++ (A1 ++ (a :: (A2 ++ (X ++ Z))))))).Perm (Z ++ (X ++ ((c :: A2) ++ (b :: (X2 ++ (F ++ (A1 ++ [a]))))))) := perm_cnt fun _ _ y => by simp only [List.count_append, List.count_cons, List.count_nil]; omega
theorem perm24 (X2 F A1 A2 X Z : List Ent) (b a : Ent) : (b :: (X2 ++ (F ++ (A1 ++ (a :: (A2 ++ (X ++ Z))))))).Perm (Z ++ (X ++ ((X2 ++ F) ++ (b :: (A1 ++ (a :: A2)))))) := perm_cnt fun _ _ y => by simp only [List.count_append, List.count_cons, List.count_nil]; omega
theorem perm18 (X A1 Z G : List Ent) : (X ++ (A1 ++ (Z ++ (G ++ [])))).Perm (Z ++ (X ++ (G ++ A1))) := perm_cnt fun _ _ y => by simp only [List.count_append, List.count_nil]; omega
theorem perm17 (A1 Z V G : List Ent) : (A1 ++ (Z ++ (V ++ (G ++ [])))).Perm (V ++ (A1 ++ (Z ++ (G ++ [])))) := perm_cnt fun _ _ y => by simp only [List.count_append, List.count_nil]; omega
theorem szV_one {vs : VL} {p : Pq} (h : p ∈ pairsV vs) : p.val.length ≤ szV vs := by
  obtain ⟨x, hx, rfl⟩ := List.mem_map.1 h
  have := szV_mem hx
  show x.2.length ≤ _
  omega
set_option maxHeartbeats 16000000 in
theorem law_storeCalls (size : Int) (list : SlQ) (front : Bk) (w : World) (hl : list.ok w) : Calls Try.prog 3 [.int .i64 size, list.v, Z front].toArray w fun e w' => e = .returned (.bool true) ∧ Ext w w' := by
  refine enter (n := 183) Try.func3 rfl rfl rfl (Holds.start w []) ?_
  have cG := fun {M} w' (hw' : Holds w [] M w') => great16_any list w' (hl.holds hw' rfl)
  repeat (first | refine JL.q (by first | (apply OQ.callx (vs := []); exact goes_speaks16; exact rfl; exact (fun w' _ => speaks16_any w')) | (apply OQ.not; exact rfl) | (apply OQ.assign; exact rfl)) rfl ?_ | refine JC.seq ?_ | refine JC.region ?_ | refine JL.nil ?_ | refine JE.next ?_)
  refine JC.cond_false rfl rfl ?_
  cases g1 : decide (size < 4)
  case true =>
    repeat (first | refine JL.q (by first | (apply OQ.lssB (b := 4); exact rfl; exact rfl; exact g1) | (apply OQ.pick_t; exact rfl; exact rfl) | (apply OQ.move; exact rfl)) rfl ?_ | refine JC.seq ?_ | refine JC.region ?_ | refine JC.skip ?_ | refine JL.nil ?_ | refine JE.next ?_ | refine JL.gskip rfl rfl rfl rfl ?_)
    refine JC.cond_true rfl rfl ?_
    repeat (first | refine JL.q (by (apply OQ.assign; exact rfl)) rfl ?_ | refine JC.seq ?_ | refine JC.region ?_ | refine JL.nil ?_ | refine JE.next ?_)
    refine JC.ret ?_
    repeat (refine JE.then_ret ?_)
    exact JE.ret1 rfl (RV.tmp rfl) fun w' hw => ⟨rfl, hw.chg⟩
  cases g2 : decide ((300 : Int) < size)
  case true =>
    repeat (first | refine JL.q (by first | (apply OQ.lssB (b := 4); exact rfl; exact rfl; exact g1) | (apply OQ.gtrB (b := 300); exact rfl; exact rfl; exact g2) | (apply OQ.pick_t; exact rfl; exact rfl) | (apply OQ.pick_f; exact rfl; exact rfl) | (apply OQ.move; exact rfl)) rfl ?_ | refine JC.seq ?_ | refine JC.region ?_ | refine JC.skip ?_ | refine JL.nil ?_ | refine JE.next ?_ | refine JL.gon rfl rfl ?_ | refine JL.gskip rfl rfl rfl rfl ?_)
    refine JC.cond_true rfl rfl ?_
    repeat (first | refine JL.q (by (apply OQ.assign; exact rfl)) rfl ?_ | refine JC.seq ?_ | refine JC.region ?_ | refine JL.nil ?_ | refine JE.next ?_)
    refine JC.ret ?_
    repeat (refine JE.then_ret ?_)
    exact JE.ret1 rfl (RV.tmp rfl) fun w' hw => ⟨rfl, hw.chg⟩
  cases g3 : gQ list.ps
  case true =>
    rw [g3] at cG
    repeat (first | refine JL.q (by first | (apply OQ.lssB (b := 4); exact rfl; exact rfl; exact g1) | (apply OQ.gtrB (b := 300); exact rfl; exact rfl; exact g2) | (apply OQ.callx (vs := [list.v]); exact goes_great16; exact rfl; exact (fun w' hw' => cG w' hw')) | (apply OQ.pick_t; exact rfl; exact rfl) | (apply OQ.pick_f; exact rfl; exact rfl) | (apply OQ.move; exact rfl)) rfl ?_ | refine JC.seq ?_ | refine JC.region ?_ | refine JC.skip ?_ | refine JL.nil ?_ | refine JE.next ?_ | refine JL.gon rfl rfl ?_ | refine JL.gskip rfl rfl rfl rfl ?_)
    refine JC.cond_true rfl rfl ?_
    repeat (first | refine JL.q (by (apply OQ.assign; exact rfl)) rfl ?_ | refine JC.seq ?_ | refine JC.region ?_ | refine JL.nil ?_ | refine JE.next ?_)
    refine JC.ret ?_
    repeat (refine JE.then_ret ?_)
    exact JE.ret1 rfl (RV.tmp rfl) fun w' hw => ⟨rfl, hw.chg⟩
  rw [g3] at cG
  cases g4 : decide ((100 : Int) < (front.length : Int))
  case true =>
    repeat (first | refine JL.q (by first | (apply OQ.lssB (b := 4); exact rfl; exact rfl; exact g1) | (apply OQ.gtrB (b := 300); exact rfl; exact rfl; exact g2) | (apply OQ.callx (vs := [list.v]); exact goes_great16; exact rfl; exact (fun w' hw' => cG w' hw')) | (apply OQ.lenS; exact Try.underlying9; exact rfl) | (apply OQ.gtrB (b := 100); exact rfl; exact rfl; exact g4) | (apply OQ.pick_f; exact rfl; exact rfl) | (apply OQ.move; exact rfl)) rfl ?_ | refine JC.seq ?_ | refine JC.region ?_ | refine JC.skip ?_ | refine JL.nil ?_ | refine JE.next ?_ | refine JL.gon rfl rfl ?_)
    refine JC.cond_true rfl rfl ?_
    repeat (first | refine JL.q (by (apply OQ.assign; exact rfl)) rfl ?_ | refine JC.seq ?_ | refine JC.region ?_ | refine JL.nil ?_ | refine JE.next ?_)
    refine JC.ret ?_
    repeat (refine JE.then_ret ?_)
    exact JE.ret1 rfl (RV.tmp rfl) fun w' hw => ⟨rfl, hw.chg⟩
  have hq := g3
  unfold gQ at hq
  rw [Bool.or_eq_false_iff] at hq
  have hn : list.l.length ≤ 30 := by
    have := of_decide_eq_false hq.1
    unfold SlQ.ps at this
    rw [List.length_map] at this
    omega
  have hgp : ∀ p ∈ list.l, gP p.ps = false := fun p hp => by simpa using List.any_eq_false.1 hq.2 p.ps (List.mem_map_of_mem hp)
  repeat (first | refine JL.q (by first | (apply OQ.lssB (b := 4); exact rfl; exact rfl; exact g1) | (apply OQ.gtrB (b := 300); exact rfl; exact rfl; exact g2) | (apply OQ.callx (vs := [list.v]); exact goes_great16; exact rfl; exact (fun w' hw' => cG w' hw')) | (apply OQ.lenS; exact Try.underlying9; exact rfl) | (apply OQ.gtrB (b := 100); exact rfl; exact rfl; exact g4) | (apply OQ.pick_f; exact rfl; exact rfl) | (apply OQ.move; exact rfl)) rfl ?_ | refine JC.seq ?_ | refine JC.region ?_ | refine JC.skip ?_ | refine JL.nil ?_ | refine JE.next ?_ | refine JL.gon rfl rfl ?_)
  refine JC.cond_false rfl rfl ?_
  obtain ⟨n, rfl⟩ : ∃ k : Nat, size = k := ⟨size.toNat, by have := of_decide_eq_false g1; omega⟩
  have hn4 : 4 ≤ n := by have := of_decide_eq_false g1; omega
  have hn3 : n ≤ 300 := by have := of_decide_eq_false g2; omega
  clear cG g1 g2 g3 g4 hq
  repeat (first | refine JL.q (by (apply OQ.move; exact rfl)) rfl ?_ | refine JC.seq ?_ | refine JC.region ?_ | refine JC.skip ?_ | refine JE.next ?_)
  refine JL.dnew (k := n) (by omega) (by omega) rfl rfl fun x hx => ?_
  repeat (first | refine JL.q (by first | (apply OQ.extract; exact rfl; exact rfl) | (apply OQ.neB (a := 0) (b := 0) (c := true); exact rfl; exact rfl; exact rfl) | (apply OQ.ptrNil; exact Try.underlying25; exact rfl; exact rfl) | (apply OQ.pick_f; exact rfl; exact rfl) | (apply OQ.move; exact rfl) | (apply OQ.assign; exact rfl)) rfl ?_ | refine JC.seq ?_ | refine JC.region ?_ | refine JL.nil ?_ | refine JE.next ?_ | refine JL.gon rfl rfl ?_)
  refine JC.cond_false rfl rfl ?_
  repeat (first | refine JL.q (by (apply OQ.move; exact rfl)) rfl ?_ | refine JC.seq ?_ | refine JC.region ?_ | refine JC.skip ?_ | refine JE.next ?_)
  have hno : noOpen (newB n) = 0 := newB_no hn4
  refine JL.sopen hx hno (newB_dec n) rfl rfl fun z => ?_
  obtain ⟨z, k, hh, hbl⟩ := z
  have hsz : z.h.size = n / 2 := by rw [hh]; show (newB n).length / 2 = n / 2; rw [newB_len]
  have hxp : z.h.x.p = x.p := by rw [hh]; rfl
  have hg : z.h.g.toNat ≤ 1 := by rw [hh]; exact gm_succ (by rw [(newB_cur n).2]; exact Nat.le_refl 0) (by decide)
  have k : z.ok [[]] [] := by
    have k : z.ok (curF (newB n)).2.2 [] := k
    rwa [(newB_cur n).1] at k
  dsimp only
  clear hh hbl hno hx
  repeat (first | refine JL.q (by first | (apply OQ.extract; exact rfl; exact rfl) | (apply OQ.neB (a := 0) (b := 0) (c := true); exact rfl; exact rfl; exact rfl) | (apply OQ.ptrNil; exact Try.underlying29; exact rfl; exact rfl) | (apply OQ.pick_f; exact rfl; exact rfl) | (apply OQ.move; exact rfl) | (apply OQ.assign; exact rfl)) rfl ?_ | refine JC.seq ?_ | refine JC.region ?_ | refine JL.nil ?_ | refine JE.next ?_ | refine JL.gon rfl rfl ?_)
  refine JC.cond_false rfl rfl ?_
  repeat (first | refine JC.seq ?_ | refine JC.region ?_ | refine JC.skip ?_ | refine JE.next ?_)
  refine JL.lit0N Try.underlying32 prI (by decide) rfl fun b0 _ => ?_
  repeat (first | refine JL.q (by (apply OQ.assign; exact rfl)) rfl ?_ | refine JC.seq ?_ | refine JC.region ?_ | refine JL.nil ?_ | refine JE.next ?_)
  refine JL.lit0O Try.underlying33 u8e rfl fun b40 _ => ?_
  refine JL.lit1 (v := .slice (some ⟨b40, 0, none⟩) 0 0) Try.underlying34 slEj rfl rfl rfl rfl fun b41 _ => ?_
  refine JL.perm (M' := z.E ++ ((⟨(b0, 0), []⟩ : Vp).E ++ (⟨b41, Row 33 [.slice (some ⟨b40, 0, none⟩) 0 0], true⟩ :: ⟨b40, Sl.Own 5 1 0 0 [], true⟩ :: []))) ?_ (by exact perm_init16 _ _ _ _)
  repeat (first | refine JL.q (by first | (apply OQ.len (k := list.l.length) (ad := list.ad) (cap := list.cap); exact Try.underlying22; exact rfl) | (apply OQ.move; exact rfl) | (apply OQ.assign; exact rfl)) rfl ?_ | refine JC.seq ?_ | refine JC.region ?_ | refine JC.block ?_ | refine JL.nil ?_ | refine JE.next ?_)
  refine JC.loop (fun s : Cs16 => [(0, N n), (2, Z front), (7, Pt x.p 0), (9, Pt s.z.p 0), (11, s.v.v), (12, s.g.v), (66, list.v), (67, N list.l.length), (68, N s.i)]) (fun s => s.z.E ++ (s.v.E ++ (s.g.E ++ []))) (fun s => list.l.length - s.i) (fun s => s.i ≤ list.l.length ∧ s.z.ok s.recs s.vs ∧ s.z.h.size = n / 2 ∧ s.z.h.x.p = x.p ∧ s.z.h.g.toNat ≤ 2 * s.i + 2 ∧ s.v.ps.map PqS.p = pairsV s.vs ∧ (∀ p ∈ s.v.ps, p.s.ok w) ∧ s.g.l = s.recs) ⟨0, z, [[]], [], ⟨(b0, 0), []⟩, ⟨(b41, 1), [accS (some (b40, 0)) []], fun y hy hn => by rw [List.mem_singleton.1 hy] at hn; cases hn⟩⟩ ⟨Nat.zero_le _, k, hsz, hxp, by dsimp only; omega, rfl, nofun, rfl⟩ (by repeat (first | exact SubE.nil | refine SubE.cons _ _ _ rfl ?_)) (less_two (Less.refl _) (less_two (Less.refl _) (.keep _ _ _ _ _ _ (row_ownG rfl) (by
    show Less (flatE [accS (some (b40, 0)) []] ++ []) _
    rw [List.append_nil]
    exact less_two (accS_ents (e := 5) (some (b40, 0)) []) (.nil _))))) ?_
  clear k hsz hxp hg
  rintro ⟨i, z, recs, vs, v, g⟩ ⟨hi, k, hsz, hxp, hg, hvp, hvk, hgl⟩
  dsimp only at hi k hsz hxp hg hvp hvk hgl ⊢
  have hvl : v.ps.length = vs.length := by
    have := congrArg List.length hvp
    unfold pairsV at this
    rwa [List.length_map, List.length_map] at this
  have hvs7 := szV_len vs
  have hvsz := k.sz.1
  have hrl : recs.length ≤ 150 := by have := room_ge recs; have := k.jv.r; omega
  have hgn : g.rs.length = recs.length := by rw [← hgl]; unfold Gq.l; rw [List.length_map]
  repeat (first | refine JL.q (by (apply OQ.lssN; exact rfl; exact rfl)) rfl ?_ | refine JC.seq ?_ | refine JC.region ?_ | refine JL.nil ?_ | refine JE.next ?_)
  refine JC.cond rfl (fun hc => ?_) (fun hc => ?_)
  · have hi' : i < list.l.length := Nat.lt_of_not_le fun h => by have := of_decide_eq_true hc; omega
    clear hc
    obtain ⟨b, j, e, lb, c⟩ := hl.at hi'
    have hm := SlQ.get_mem hi'
    generalize list.l.getD i noSlP = p at c hm
    have okp := hl.all p hm
    obtain ⟨hp20, hpz, hpv⟩ := gP_no (hgp p hm)
    have hpl : p.ps.length = p.l.length := by unfold SlP.ps; rw [List.length_map]
    have hsv : list.v = .slice (some ⟨b, j, none⟩) list.l.length list.cap := by rw [← e]; rfl
    have hpvl : ∀ q ∈ p.l, q.s.l.length ≤ 4000000 := fun q hq => by have := (hpv q.p (List.mem_map_of_mem hq)).2; have : q.s.l.length ≤ 2000 := this; omega
    rw [hsv]
    repeat (first | refine JL.q (by first | (apply OQ.idxS1 (i := i); exact Try.underlying22; exact slPS; exact rfl; exact rfl; exact hi') | (apply OQ.load_old; exact slPC; exact rfl; exact lb; exact (by simp); exact c) | (apply OQ.move; exact rfl) | (apply OQ.assign; exact rfl)) rfl ?_ | refine JC.seq ?_ | refine JC.region ?_ | refine JC.block ?_ | refine JC.skip ?_ | refine JL.nil ?_ | refine JE.next ?_)
    rw [← hsv]
    obtain ⟨eb, heb⟩ : ∃ eb, (if okL p.ps = true then encL p.ps else []) = eb := ⟨_, rfl⟩
    obtain ⟨k0, hk0⟩ : ∃ k0, (if okL p.ps = true then 0 else 1 : Nat) = k0 := ⟨_, rfl⟩
    have cE : ∀ w', Holds w [] (z.E ++ (v.E ++ (g.E ++ []))) w' → Calls Try.prog 10 [p.v].toArray w' fun e w2 => ∃ q : {q : Acc // q = none → eb = []}, e = .returned (.tuple #[accV q.1 eb.length, N k0]) ∧ Holds w' [] (accE 5 q.1 (eb.map U8)) w2 := fun w' hw' => by
      have := rEnc_any p w' (okp.holds hw' rfl) (by omega) hpvl
      rwa [heb, hk0] at this
    refine JL.callg (ι := {q : Acc // q = none → eb = []}) (vs := [p.v]) (fun q => .tuple #[accV q.1 eb.length, N k0]) (fun q => accE 5 q.1 (eb.map U8)) goes_rEnc rfl rfl (fun _ => accE_wr _ _ _) (fun w' hw' => cE w' hw') fun q1 => ?_
    clear cE
    obtain ⟨q1, hq1⟩ := q1
    dsimp only
    repeat (first | refine JL.q (by first | (apply OQ.extract; exact rfl; exact rfl) | (apply OQ.move; exact rfl) | (apply OQ.assign; exact rfl)) rfl ?_ | refine JC.seq ?_ | refine JC.region ?_ | refine JL.nil ?_ | refine JE.next ?_)
    refine JL.perm (M' := v.E ++ (accE 5 q1 (eb.map U8) ++ (z.E ++ (g.E ++ [])))) ?_ (by exact perm17 _ _ _ _)
    refine JL.rdoV v p (by omega) okp hvk rfl rfl rfl fun r X hr hXv hXr => ?_
    have hrp : r.ps.map PqS.p = pairsV (doL vs p.ps) := by rw [hr]; exact dpSs_is p.l hvp
    have hrk : ∀ y ∈ r.ps, y.s.ok w := fun y hy => by
      rw [hr] at hy
      rcases dpSs_mem hy with hy | hy
      · exact hvk y hy
      · exact okp.all y hy
    have hrn := dpSs_len p.l v.ps
    rw [← hr] at hrn
    have hdz := doL_sz p.ps vs
    repeat (refine JL.q (by (apply OQ.assign; exact rfl)) rfl ?_)
    refine JL.nil (JE.next ?_)
    refine JC.mid (ι := J16) (fun y => [(0, N n), (2, Z front), (7, Pt x.p 0), (9, Pt z.p 0), (11, v.v), (12, y.g.v), (13, N i), (14, p.v), (16, N y.k), (17, r.v), (66, list.v), (67, N list.l.length), (68, N i)]) (fun y => z.E ++ (X ++ (y.g.E ++ []))) (fun y => Out16 (n / 2) recs vs p.ps y) ?_ ?_
    · cases hok : okL p.ps with
      | false =>
        rw [hok, if_neg (by decide)] at hk0
        subst hk0
        repeat (first | refine JL.q (by first | (apply OQ.eqB (a := 1) (b := 0) (c := false); exact rfl; exact rfl; exact rfl) | (apply OQ.move; exact rfl)) rfl ?_ | refine JC.seq ?_ | refine JC.region ?_ | refine JL.nil ?_ | refine JE.next ?_)
        refine JC.cond_false rfl rfl ?_
        repeat (refine JC.skip ?_)
        refine JE.perm (M' := z.E ++ (X ++ (g.E ++ accE 5 q1 (eb.map U8)))) (by exact perm18 _ _ _ _) ?_
        exact JE.mid ⟨1, g⟩ (.inl ⟨hok, rfl, hgl⟩) (by repeat (first | exact SubE.nil | refine SubE.cons _ _ _ rfl ?_)) (less_two (Less.refl _) (less_two (Less.refl _) (less_two (Less.refl _) (.nil _))))
      | true =>
        rw [hok, if_pos rfl] at hk0 heb
        subst hk0
        have hokv : okV (doL vs p.ps) := doL_ok k.sz.2 hok
        have hokr : okL (pairsV (doL vs p.ps)) = true := okV_pairs hokv
        have hrs : r.s.ps = pairsV (doL vs p.ps) := hrp
        repeat (first | refine JL.q (by first | (apply OQ.eqB (a := 0) (b := 0) (c := true); exact rfl; exact rfl; exact rfl) | (apply OQ.move; exact rfl)) rfl ?_ | refine JC.seq ?_ | refine JC.region ?_ | refine JL.nil ?_ | refine JE.next ?_)
        refine JC.cond_true rfl rfl ?_
        obtain ⟨wb, hwb⟩ : ∃ wb, baseOf vs p.ps = wb := ⟨_, rfl⟩
        have hwb2 : encL (pairsV (doL vs p.ps)) = wb := hwb
        have cW : ∀ w', Holds w [] (X ++ (accE 5 q1 (eb.map U8) ++ (z.E ++ (g.E ++ [])))) w' → Calls Try.prog 10 [r.v].toArray w' fun e w2 => ∃ q : {q : Acc // q = none → wb = []}, e = .returned (.tuple #[accV q.1 wb.length, N 0]) ∧ Holds w' [] (accE 5 q.1 (wb.map U8)) w2 := fun w' hw' => by
          have := rEnc_any r.s w' (Vp.ok (A := []) hXr hw' fun y hy => (hrk y hy).holds hw' rfl) (by show r.ps.length ≤ _; omega) (fun y hy => by
            have h1 : y.p ∈ pairsV (doL vs p.ps) := by rw [← hrs]; exact List.mem_map_of_mem hy
            have := szV_one h1
            show y.p.val.length ≤ _
            omega)
          rw [hrs, hokr, if_pos rfl, if_pos rfl, hwb2] at this
          exact this
        repeat (first | refine JL.q (by (apply OQ.move; exact rfl)) rfl ?_ | refine JC.seq ?_ | refine JC.region ?_)
        refine JL.callg (ι := {q : Acc // q = none → wb = []}) (vs := [r.v]) (fun q => .tuple #[accV q.1 wb.length, N 0]) (fun q => accE 5 q.1 (wb.map U8)) goes_rEnc rfl rfl (fun _ => accE_wr _ _ _) (fun w' hw' => cW w' hw') fun q2 => ?_
        clear cW
        obtain ⟨q2, hq2⟩ := q2
        dsimp only
        repeat (first | refine JL.q (by first | (apply OQ.extract; exact rfl; exact rfl) | (apply OQ.move; exact rfl) | (apply OQ.assign; exact rfl)) rfl ?_ | refine JC.seq ?_ | refine JC.region ?_ | refine JL.nil ?_ | refine JE.next ?_)
        have hv1 : (accV q1 eb.length).cells = #[accV q1 eb.length] := by cases q1 <;> rfl
        have hv2 : (accV q2 wb.length).cells = #[accV q2 wb.length] := by cases q2 <;> rfl
        have ho1 : (accV q1 eb.length).oneCell' = true := by cases q1 <;> rfl
        have hel : eb.length ≤ 70000 := by rw [← heb, encL_sz]; omega
        have hwl : wb.length ≤ 1500000 := by rw [← hwb, baseOf_len]; omega
        refine JL.lit1 (v := accV q1 eb.length) Try.underlying34 slEj rfl rfl hv1 rfl fun bl _ => ?_
        refine JL.perm (M' := accE 33 (some g.q) (g.rs.map Sl8.v) ++ (flatE g.rs ++ (accE 5 q1 (eb.map U8) ++ (⟨bl, Row 33 [accV q1 eb.length], true⟩ :: (accE 5 q2 (wb.map U8) ++ (X ++ z.E)))))) ?_ (by exact perm20 _ _ _ _ _ _ _)
        have hgm : (g.rs.map Sl8.v).length = g.rs.length := List.length_map _
        refine JL.appTwo (xs := g.rs.map Sl8.v) (v := accV q1 eb.length) (q := g.q) (ad := some ⟨bl, 0, none⟩) (sc := 1) Try.underlying34 slEj (by rw [hgm]; rfl) rfl (fun w' hw' => ?_) ho1 rfl (by omega) (by omega) rfl fun q' X2 hX2 hX2n => ?_
        · obtain ⟨o, ho, hA⟩ := hw'.get (b := bl) (A := Row 33 [accV q1 eb.length]) (wr := true) (hasR (hasR (hasR .here)))
          exact Reads.block ho (Row.all o hA)
        have h0n : ∀ y ∈ g.rs ++ [accS q1 eb], y.ad = none → y.l = [] := fun y hy => by
          rcases List.mem_append.1 hy with hy | hy
          · exact g.h0 y hy
          · rw [List.mem_singleton.1 hy]; exact accS_none
        have hmv : (g.rs ++ [accS q1 eb]).map Sl8.v = g.rs.map Sl8.v ++ [accV q1 eb.length] := by rw [List.map_append, List.map_singleton, accS_v]
        have hml : (g.rs ++ [accS q1 eb]).map Sl8.l = recs ++ [encL p.ps] := by rw [List.map_append, List.map_singleton, accS_l hq1, heb]; exact congrArg (· ++ [eb]) hgl
        have hLs : ∀ {q3 : Nat × Nat} {X3 R : List Ent}, Less (accE 33 (some q3) (g.rs.map Sl8.v ++ [accV q1 eb.length])) X3 → Less (Gq.mk q3 (g.rs ++ [accS q1 eb]) h0n).E (X3 ++ (flatE g.rs ++ (accE 5 q1 (eb.map U8) ++ R))) := fun {q3 X3 R} h => by
          unfold Gq.E
          dsimp only
          rw [hmv, flatE_app]
          exact less_two h (less_two (Less.refl _) (less_two (accS_ents q1 eb) (.nil _)))
        have hbnd : ∀ y ∈ g.rs ++ [accS q1 eb], y.l.length ≤ 2000000 := fun y hy => by
          have h1 : y.l ∈ recs ++ [encL p.ps] := by rw [← hml]; exact List.mem_map_of_mem hy
          rcases List.mem_append.1 h1 with h1 | h1
          · have h2 := room_mem16 h1; have h3 := k.jv.r; unfold nb at h2; omega
          · rw [List.mem_singleton.1 h1, heb]; omega
        have cR := fun w' (hw' : Holds w [] (X2 ++ (flatE g.rs ++ (accE 5 q1 (eb.map U8) ++ (⟨bl, Row 33 [accV q1 eb.length], true⟩ :: (accE 5 q2 (wb.map U8) ++ (X ++ z.E)))))) w') => room_any (Gq.mk q' (g.rs ++ [accS q1 eb]) h0n).s w' (Gq.ok (hLs hX2n) hw') (by show (g.rs ++ [accS q1 eb]).length ≤ _; rw [List.length_append, List.length_singleton]; omega) hbnd
        have hsv1 : (Gq.mk q' (g.rs ++ [accS q1 eb]) h0n).s.v = accV (some q') ((g.rs.map Sl8.v).length + 1) := by
          show Value.slice (some ⟨q'.1, 0, none⟩) (g.rs ++ [accS q1 eb]).length q'.2 = _
          rw [List.length_append, List.length_singleton, hgm]
          rfl
        have hsl1 : (Gq.mk q' (g.rs ++ [accS q1 eb]) h0n).s.rs.map Sl8.l = recs ++ [encL p.ps] := hml
        simp only [hsv1, hsl1] at cR
        obtain ⟨c6, g6⟩ : ∃ c6, decide ((room (recs ++ [encL p.ps]) : Int) ≤ ((n / 2 : Nat) : Int)) = c6 := ⟨_, rfl⟩
        repeat (first | refine JL.q (by first | (apply OQ.callx (vs := [accV (some q') ((g.rs.map Sl8.v).length + 1)]); exact goes_room; exact rfl; exact (fun w' hw' => cR w' hw')) | (apply OQ.quoN (a := n) (b := 2); exact rfl; exact rfl; exact (by decide); exact (by omega)) | (apply OQ.leqB; exact rfl; exact rfl; exact g6) | (apply OQ.move; exact rfl)) rfl ?_ | refine JL.nil ?_ | refine JE.next ?_)
        clear cR hsv1 hsl1
        cases c6 with
        | true =>
          have hr6 : room (recs ++ [encL p.ps]) ≤ n / 2 := by have := of_decide_eq_true g6; omega
          refine JC.cond_true rfl rfl ?_
          repeat (first | refine JL.q (by (apply OQ.move; exact rfl)) rfl ?_ | refine JC.region ?_)
          refine JL.lit1 (v := accV q1 eb.length) Try.underlying34 slEj rfl rfl hv1 rfl fun b98 _ => ?_
          refine JL.less (M' := ⟨b98, Row 33 [accV q1 eb.length], true⟩ :: (accE 33 (some g.q) (g.rs.map Sl8.v) ++ (flatE g.rs ++ (accE 5 q1 (eb.map U8) ++ (⟨bl, Row 33 [accV q1 eb.length], true⟩ :: (accE 5 q2 (wb.map U8) ++ (X ++ z.E))))))) (.keep _ _ _ _ _ _ (fun _ h => h) (less_two hX2 (Less.refl _))) ?_
          refine JL.perm (M' := accE 33 (some g.q) (g.rs.map Sl8.v) ++ (⟨b98, Row 33 [accV q1 eb.length], true⟩ :: (flatE g.rs ++ (accE 5 q1 (eb.map U8) ++ (⟨bl, Row 33 [accV q1 eb.length], true⟩ :: (accE 5 q2 (wb.map U8) ++ (X ++ z.E))))))) ?_ (by exact List.perm_middle.symm)
          refine JL.appTwo (xs := g.rs.map Sl8.v) (v := accV q1 eb.length) (q := g.q) (ad := some ⟨b98, 0, none⟩) (sc := 1) Try.underlying34 slEj (by rw [hgm]; rfl) rfl (fun w' hw' => ?_) ho1 rfl (by omega) (by omega) rfl fun q3 X3 _ hX3n => ?_
          · obtain ⟨o, ho, hA⟩ := hw'.get (b := b98) (A := Row 33 [accV q1 eb.length]) (wr := true) (hasR .here)
            exact Reads.block ho (Row.all o hA)
          have hgv : (Gq.mk q3 (g.rs ++ [accS q1 eb]) h0n).v = accV (some q3) ((g.rs.map Sl8.v).length + 1) := by
            show accV (some q3) (g.rs ++ [accS q1 eb]).length = _
            rw [List.length_append, List.length_singleton, hgm]
          rw [← hgv]
          repeat (first | refine JL.q (by (apply OQ.assign; exact rfl)) rfl ?_ | refine JL.nil ?_)
          refine JE.perm (M' := z.E ++ (X ++ ((X3 ++ (flatE g.rs ++ accE 5 q1 (eb.map U8))) ++ (⟨b98, Row 33 [accV q1 eb.length], true⟩ :: ⟨bl, Row 33 [accV q1 eb.length], true⟩ :: accE 5 q2 (wb.map U8))))) (by exact perm21 _ _ _ _ _ _ _ _) ?_
          refine JE.mid (J16.mk 0 (Gq.mk q3 (g.rs ++ [accS q1 eb]) h0n)) (.inr ⟨hok, .inl ⟨hr6, rfl, hml⟩⟩) (by repeat (first | exact SubE.nil | refine SubE.cons _ _ _ rfl ?_)) (less_two (Less.refl _) (less_two (Less.refl _) (less_two ?_ (.nil _))))
          have := hLs (R := []) hX3n
          rwa [List.append_nil] at this
        | false =>
          have hr6 : ¬ room (recs ++ [encL p.ps]) ≤ n / 2 := by have := of_decide_eq_false g6; omega
          refine JC.cond_false rfl rfl ?_
          repeat (first | refine JL.q (by (apply OQ.move; exact rfl)) rfl ?_ | refine JC.seq ?_ | refine JC.region ?_)
          refine JL.lit1 (v := accV q2 wb.length) Try.underlying34 slEj rfl rfl hv2 rfl fun b101 _ => ?_
          have h0w : ∀ y ∈ [accS q2 wb], y.ad = none → y.l = [] := fun y hy => by rw [List.mem_singleton.1 hy]; exact accS_none
          have hmw : [accS q2 wb].map Sl8.l = [baseOf vs p.ps] := by rw [List.map_singleton, accS_l hq2, hwb]
          have hLw : ∀ {b : Nat} {R : List Ent}, Less (accE 5 q2 (wb.map U8)) R → Less (Gq.mk (b, 1) [accS q2 wb] h0w).E (⟨b, Row 33 [accV q2 wb.length], true⟩ :: R) := fun {b R} h => by
            show Less (⟨b, Sl.Own 33 1 1 1 [(accS q2 wb).v], true⟩ :: ((accS q2 wb).ents ++ [])) _
            rw [accS_v, List.append_nil]
            exact .keep _ _ _ _ _ _ (row_ownG rfl) (less_trans (accS_ents q2 wb) h)
          have cR := fun w' (hw' : Holds w [] (⟨b101, Row 33 [accV q2 wb.length], true⟩ :: (X2 ++ (flatE g.rs ++ (accE 5 q1 (eb.map U8) ++ (⟨bl, Row 33 [accV q1 eb.length], true⟩ :: (accE 5 q2 (wb.map U8) ++ (X ++ z.E))))))) w') => room_any (Gq.mk (b101, 1) [accS q2 wb] h0w).s w' (Gq.ok (hLw (less_app _ (less_app _ (less_app _ (.drop _ _ _ (less_pre _ _)))))) hw') (by show 1 ≤ 1000; decide) (fun y hy => by
            have hy : y = accS q2 wb := List.mem_singleton.1 hy
            rw [hy, accS_l hq2]; omega)
          have hsl2 : (Gq.mk (b101, 1) [accS q2 wb] h0w).s.rs.map Sl8.l = [baseOf vs p.ps] := hmw
          have hsv2 : (Gq.mk (b101, 1) [accS q2 wb] h0w).s.v = .slice (some ⟨b101, 0, none⟩) 1 1 := rfl
          simp only [hsv2, hsl2] at cR
          obtain ⟨c7, g7⟩ : ∃ c7, decide ((room [baseOf vs p.ps] : Int) ≤ ((n / 2 : Nat) : Int)) = c7 := ⟨_, rfl⟩
          repeat (first | refine JL.q (by first | (apply OQ.callx (vs := [.slice (some ⟨b101, 0, none⟩) 1 1]); exact goes_room; exact rfl; exact (fun w' hw' => cR w' hw')) | (apply OQ.quoN (a := n) (b := 2); exact rfl; exact rfl; exact (by decide); exact (by omega)) | (apply OQ.leqB; exact rfl; exact rfl; exact g7) | (apply OQ.move; exact rfl)) rfl ?_ | refine JL.nil ?_ | refine JE.next ?_)
          clear cR hsv2 hsl2
          cases c7 with
          | true =>
            have hr7 : room [baseOf vs p.ps] ≤ n / 2 := by have := of_decide_eq_true g7; omega
            refine JC.cond_true rfl rfl ?_
            repeat (first | refine JL.q (by (apply OQ.move; exact rfl)) rfl ?_ | refine JC.region ?_)
            refine JL.lit1 (v := accV q2 wb.length) Try.underlying34 slEj rfl rfl hv2 rfl fun b107 _ => ?_
            repeat (first | refine JL.q (by (apply OQ.assign; exact rfl)) rfl ?_ | refine JL.nil ?_)
            refine JE.perm (M' := z.E ++ (X ++ ((⟨b107, Row 33 [accV q2 wb.length], true⟩ :: accE 5 q2 (wb.map U8)) ++ (⟨b101, Row 33 [accV q2 wb.length], true⟩ :: (X2 ++ (flatE g.rs ++ (accE 5 q1 (eb.map U8) ++ [⟨bl, Row 33 [accV q1 eb.length], true⟩]))))))) (by exact perm23 _ _ _ _ _ _ _ _ _) ?_
            exact JE.mid (J16.mk 0 (Gq.mk (b107, 1) [accS q2 wb] h0w)) (.inr ⟨hok, .inr ⟨hr6, .inl ⟨hr7, rfl, hmw⟩⟩⟩) (by repeat (first | exact SubE.nil | refine SubE.cons _ _ _ rfl ?_)) (less_two (Less.refl _) (less_two (Less.refl _) (less_two (hLw (Less.refl _)) (.nil _))))
          | false =>
            have hr7 : ¬ room [baseOf vs p.ps] ≤ n / 2 := by have := of_decide_eq_false g7; omega
            refine JC.cond_false rfl rfl ?_
            repeat (first | refine JL.q (by (apply OQ.assign; exact rfl)) rfl ?_ | refine JC.region ?_ | refine JL.nil ?_)
            refine JE.perm (M' := z.E ++ (X ++ ((X2 ++ flatE g.rs) ++ (⟨b101, Row 33 [accV q2 wb.length], true⟩ :: (accE 5 q1 (eb.map U8) ++ (⟨bl, Row 33 [accV q1 eb.length], true⟩ :: accE 5 q2 (wb.map U8))))))) (by exact perm24 _ _ _ _ _ _ _ _) ?_
            exact JE.mid (J16.mk 6 g) (.inr ⟨hok, .inr ⟨hr6, .inr ⟨hr7, rfl, hgl⟩⟩⟩) (by repeat (first | exact SubE.nil | refine SubE.cons _ _ _ rfl ?_)) (less_two (Less.refl _) (less_two (Less.refl _) (less_two (less_two hX2 (Less.refl _)) (.nil _))))
    rintro ⟨k1, g1⟩ ho
    dsimp only
    clear hgl hgn
    refine JC.mid (ι := Vp) (fun y => [(0, N n), (2, Z front), (7, Pt x.p 0), (9, Pt z.p 0), (11, y.v), (12, g1.v), (13, N i), (14, p.v), (16, N k1), (66, list.v), (67, N list.l.length), (68, N i)]) (fun y => z.E ++ (y.E ++ (g1.E ++ []))) (fun y => y.ps = if k1 = 0 then r.ps else v.ps) ?_ ?_
    · cases hk1 : decide ((k1 : Int) = 0) with
      | true =>
        have hk : k1 = 0 := by have := of_decide_eq_true hk1; omega
        repeat (first | refine JL.q (by first | (apply OQ.eqB (a := (k1 : Int)) (b := 0); exact rfl; exact rfl; exact hk1) | (apply OQ.move; exact rfl)) rfl ?_ | refine JC.seq ?_ | refine JC.region ?_ | refine JL.nil ?_ | refine JE.next ?_)
        refine JC.cond_true rfl rfl ?_
        repeat (first | refine JL.q (by first | (apply OQ.move; exact rfl) | (apply OQ.assign; exact rfl)) rfl ?_ | refine JC.region ?_ | refine JL.nil ?_)
        exact JE.mid r (by rw [if_pos hk]) (by repeat (first | exact SubE.nil | refine SubE.cons _ _ _ rfl ?_)) (less_two (Less.refl _) (less_two hXr (Less.refl _)))
      | false =>
        have hk : ¬ k1 = 0 := by have := of_decide_eq_false hk1; omega
        repeat (first | refine JL.q (by first | (apply OQ.eqB (a := (k1 : Int)) (b := 0); exact rfl; exact rfl; exact hk1) | (apply OQ.move; exact rfl)) rfl ?_ | refine JC.seq ?_ | refine JC.region ?_ | refine JL.nil ?_ | refine JE.next ?_)
        refine JC.cond_false rfl rfl ?_
        repeat (refine JC.skip ?_)
        exact JE.mid v (by rw [if_neg hk]) (by repeat (first | exact SubE.nil | refine SubE.cons _ _ _ rfl ?_)) (less_two (Less.refl _) (less_two hXv (Less.refl _)))
    intro v1 hv1
    have hv1p : v1.ps.map PqS.p = pairsV (if k1 = 0 then doL vs p.ps else vs) := by
      rw [hv1]
      split
      · exact hrp
      · exact hvp
    have hv1k : ∀ y ∈ v1.ps, y.s.ok w := fun y hy => by
      rw [hv1] at hy
      split at hy
      · exact hrk y hy
      · exact hvk y hy
    clear hv1 hXv hXr hrn hr hrp hrk hdz hvk hvp hvl
    repeat (first | refine JL.q (by (apply OQ.move; exact rfl)) rfl ?_ | refine JC.seq ?_ | refine JC.region ?_)
    refine JL.scom (s := p) k (by omega) (fun w' hw' => ⟨okp.holds hw' rfl, awayP_old hw' z.wr okp⟩) rfl rfl rfl fun r2 => ?_
    obtain ⟨code, z1, recs1, vs1, st⟩ := r2
    have hke := st.keep k (by omega)
    obtain ⟨e1, e2, e3⟩ := st.is16 k (by omega) hsz ho
    have e1 : code = k1 := e1
    have e2 : recs1 = g1.l := e2
    have e3 : vs1 = if k1 = 0 then doL vs p.ps else vs := e3
    rw [← e3] at hv1p
    have k1' := st.1
    have hp1 := st.2.1
    rw [hsz, hxp] at hke
    subst e1
    dsimp only
    rw [← hp1]
    clear st hp1 ho e3 k hsz hxp
    have cI := fun w' (hw' : Holds w [] (z1.E ++ (v1.E ++ (g1.E ++ []))) w') => is16_any z1 recs1 vs1 k1' v1.s w' (Vp.ok (A := z1.E) (Less.refl _) hw' fun y hy => (hv1k y hy).holds hw' rfl) hv1p (stR_of hw') (k1'.vok hw')
    obtain ⟨c8, g8⟩ : ∃ c, decide (((i % 3 : Nat) : Int) = 2) = c := ⟨_, rfl⟩
    repeat (first | refine JL.q (by first | (apply OQ.neB (a := (code : Int)) (b := (code : Int)) (c := true); exact rfl; exact rfl; exact (decide_eq_true rfl)) | (apply OQ.callx (vs := [Pt z1.p 0, v1.v]); exact goes_Is16; exact rfl; exact (fun w' hw' => cI w' hw')) | (apply OQ.not; exact rfl) | (apply OQ.pick_f; exact rfl; exact rfl) | (apply OQ.move; exact rfl)) rfl ?_ | refine JL.nil ?_ | refine JE.next ?_ | refine JL.gon rfl rfl ?_)
    refine JC.cond_false rfl rfl ?_
    repeat (first | refine JL.q (by first | (apply OQ.remN (a := i) (b := 3); exact rfl; exact rfl; exact (by decide)) | (apply OQ.eqB (a := ((i % 3 : Nat) : Int)) (b := 2); exact rfl; exact rfl; exact g8) | (apply OQ.move; exact rfl)) rfl ?_ | refine JC.seq ?_ | refine JC.region ?_ | refine JC.skip ?_ | refine JL.nil ?_ | refine JE.next ?_)
    clear cI
    cases c8 with
    | false =>
      refine JC.cond_false rfl rfl ?_
      repeat (first | refine JL.q (by first | (apply OQ.move; exact rfl) | (apply OQ.addN; exact rfl; exact rfl; exact (by (try simp only []); omega))) rfl ?_ | refine JC.region ?_ | refine JC.skip ?_ | refine JL.nil ?_ | refine JE.next ?_ | refine JE.blk_normal ?_)
      exact JE.again (i := Cs16.mk i z recs vs v g) ⟨i + 1, z1, recs1, vs1, v1, g1⟩ ⟨hi', k1', hke.1, hke.2.1, by show z1.h.g.toNat ≤ 2 * (i + 1) + 2; omega, hv1p, hv1k, e2.symm⟩ (by dsimp only; omega) (by repeat (first | exact SubE.nil | refine SubE.cons _ _ _ rfl ?_)) (Less.refl _)
    | true =>
      refine JC.cond_true rfl rfl ?_
      obtain ⟨ls, hls, hdo, hrc⟩ := k1'.again
      have hno : noOpen z1.bl = 0 := Jv.no _ _ _ k1'.jv (by omega)
      repeat (first | refine JL.q (by (apply OQ.move; exact rfl)) rfl ?_ | refine JC.seq ?_ | refine JC.region ?_)
      refine JL.perm (M' := _) ?_ (perm_z z1 (v1.E ++ (g1.E ++ [])))
      rw [← hke.2.1]
      refine JL.sopen (x := z1.h.x) (ls := ls) k1'.dk hno hls rfl rfl fun z2 => ?_
      obtain ⟨z2, k2, hh2, hb2⟩ := z2
      rw [hdo, hrc] at k2
      have hs2 : z2.h.size = n / 2 := by rw [hh2]; show z1.bl.length / 2 = n / 2; rw [← k1'.jv.n]; exact hke.1
      have hx2 : z2.h.x.p = x.p := by rw [hh2]; exact hke.2.1
      have hg2 : z2.h.g.toNat ≤ z1.h.g.toNat + 1 := by rw [hh2]; exact gm_succ k1'.jv.gm_le (by omega)
      rw [hke.2.1]
      dsimp only
      refine JL.less (M' := z2.E ++ (v1.E ++ (g1.E ++ []))) (less_two (Less.refl _) (.drop _ _ _ (.drop _ _ _ (.drop _ _ _ (less_app _ (Less.refl _)))))) ?_
      have cI := fun w' (hw' : Holds w [] (z2.E ++ (v1.E ++ (g1.E ++ []))) w') => is16_any z2 recs1 vs1 k2 v1.s w' (Vp.ok (A := z2.E) (Less.refl _) hw' fun y hy => (hv1k y hy).holds hw' rfl) hv1p (stR_of hw') (k2.vok hw')
      repeat (first | refine JL.q (by first | (apply OQ.extract; exact rfl; exact rfl) | (apply OQ.neB (a := 0) (b := 0) (c := true); exact rfl; exact rfl; exact rfl) | (apply OQ.callx (vs := [Pt z2.p 0, v1.v]); exact goes_Is16; exact rfl; exact (fun w' hw' => cI w' hw')) | (apply OQ.not; exact rfl) | (apply OQ.pick_f; exact rfl; exact rfl) | (apply OQ.move; exact rfl) | (apply OQ.assign; exact rfl)) rfl ?_ | refine JC.seq ?_ | refine JC.region ?_ | refine JL.nil ?_ | refine JE.next ?_ | refine JL.gon rfl rfl ?_)
      refine JC.cond_false rfl rfl ?_
      repeat (first | refine JL.q (by first | (apply OQ.move; exact rfl) | (apply OQ.addN; exact rfl; exact rfl; exact (by (try simp only []); omega))) rfl ?_ | refine JC.region ?_ | refine JC.skip ?_ | refine JL.nil ?_ | refine JE.next ?_ | refine JE.blk_normal ?_)
      exact JE.again (i := Cs16.mk i z recs vs v g) ⟨i + 1, z2, recs1, vs1, v1, g1⟩ ⟨hi', k2, hs2, hx2, by show z2.h.g.toNat ≤ 2 * (i + 1) + 2; omega, hv1p, hv1k, e2.symm⟩ (by dsimp only; omega) (by repeat (first | exact SubE.nil | refine SubE.cons _ _ _ rfl ?_)) (Less.refl _)
  · clear hc hgl hgn hg hxp hsz
    have hFr : keysV vs front = (v.ps.map PqS.key).filter (preB16 front) := by
      rw [keysV_pre]
      have h1 : vs.map Prod.fst = v.ps.map PqS.key := by
        have := congrArg (List.map Pq.key) hvp
        unfold pairsV at this
        rw [List.map_map, List.map_map] at this
        exact this.symm
      rw [h1]
    obtain ⟨F, hF⟩ : ∃ F, (v.ps.map PqS.key).filter (preB16 front) = F := ⟨_, rfl⟩
    rw [hF] at hFr
    repeat (first | refine JL.q (by (apply OQ.move; exact rfl)) rfl ?_ | refine JC.seq ?_ | refine JC.region ?_ | refine JC.exit ?_ | refine JE.next ?_ | refine JE.then_exit ?_ | refine JE.blk_hit ?_)
    refine JL.skeys (front := front) k hFr rfl rfl rfl fun q2 => ?_
    obtain ⟨q2, hq2⟩ := q2
    dsimp only
    have hFl : F.length ≤ v.ps.length := by rw [← hF]; have := List.length_filter_le (preB16 front) (v.ps.map PqS.key); rwa [List.length_map] at this
    have hq20 : q2 = none → F.length = 0 := fun e => by rw [hq2 e]; rfl
    have hvv : v.v = .slice (some ⟨v.q.1, 0, none⟩) v.ps.length v.q.2 := rfl
    have hcl : ∀ c ∈ v.ps.map PqS.cs, c.length = 3 := fun c hc => by obtain ⟨y, _, rfl⟩ := List.mem_map.1 hc; rfl
    obtain ⟨R, hR⟩ : ∃ R, g.E ++ [] = R := ⟨_, rfl⟩
    rw [hR]
    repeat (first | refine JL.q (by first | (apply OQ.len (k := v.ps.length) (ad := some ⟨v.q.1, 0, none⟩) (cap := v.q.2); exact Try.underlying32; exact rfl) | (apply OQ.move; exact rfl) | (apply OQ.assign; exact rfl)) rfl ?_ | refine JC.seq ?_ | refine JC.region ?_ | refine JC.block ?_ | refine JL.nil ?_ | refine JE.next ?_)
    refine JC.loop (fun j : Nat => [(2, Z front), (20, accV q2 F.length), (21, N (((v.ps.map PqS.key).take j).filter (preB16 front)).length), (142, v.v), (143, N v.ps.length), (144, N j)]) (fun _ => accE 9 q2 (F.map Z) ++ (z.E ++ (v.E ++ R))) (fun j => v.ps.length - j) (fun j => j ≤ v.ps.length) 0 (Nat.zero_le _) (by repeat (first | exact SubE.nil | refine SubE.cons _ _ _ rfl ?_)) (Less.refl _) ?_
    intro j hj
    repeat (first | refine JL.q (by (apply OQ.lssN; exact rfl; exact rfl)) rfl ?_ | refine JC.seq ?_ | refine JC.region ?_ | refine JL.nil ?_ | refine JE.next ?_)
    refine JC.cond rfl (fun hc => ?_) (fun hc => ?_)
    · have hj' : j < v.ps.length := Nat.lt_of_not_le fun h => by have := of_decide_eq_true hc; omega
      clear hc
      have hkj : (v.ps.map PqS.key)[j]? = some (v.ps.getD j noP).key := by
        rw [List.getElem?_map, List.getElem?_eq_getElem hj', List.getD_eq_getElem?_getD, List.getElem?_eq_getElem hj']
        rfl
      have hcj : (v.ps.map PqS.cs).getD j [] = (v.ps.getD j noP).cs := by
        rw [List.getD_eq_getElem?_getD, List.getElem?_map, List.getElem?_eq_getElem hj', List.getD_eq_getElem?_getD, List.getElem?_eq_getElem hj']
        rfl
      generalize v.ps.getD j noP = tp at hkj hcj
      have hnx := take_filt (f := preB16 front) hkj
      have hH : Has (accE 9 q2 (F.map Z) ++ (z.E ++ (v.E ++ R))) v.q.1 (Sl.Own 44 3 (v.ps.map PqS.cs).length v.q.2 (v.ps.map PqS.cs).flatten) true := hasR (hasR .here)
      rw [hvv]
      repeat (first | refine JL.q (by (apply OQ.idxS (sz := 3) (i := j) (b := v.q.1) (j := 0); exact Try.underlying32; exact pr3; exact rfl; exact rfl; exact hj')) rfl ?_ | refine JC.seq ?_ | refine JC.region ?_ | refine JC.block ?_ | refine JC.skip ?_ | refine JE.next ?_)
      refine JL.q (v := .agg tp.cs.toArray) (OQ.to (OQ.loadC (L := v.ps.map PqS.cs) (i := j) prAg pr3 rfl (Nat.zero_add _) hH hcl (by rw [List.length_map]; exact hj')) (by rw [hcj])) rfl ?_
      refine JL.alloc prZ rfl fun b23 _ => ?_
      refine JL.store_all (cs := tp.cs) pr3 rfl rfl rfl (by rfl) .here rfl ?_
      rw [← hvv]
      have hkz : ∀ o, Row 44 tp.cs o → cellAt o 0 = some (Z tp.key) := Row.cell rfl
      cases g4 : decide ((front.length : Int) ≤ (tp.key.length : Int)) with
      | false =>
        have hpr : preB16 front tp.key = false := decide_eq_false fun e => by
          have := congrArg List.length e
          rw [List.length_take] at this
          have := of_decide_eq_false g4
          omega
        rw [hpr, if_neg (by simp), Nat.add_zero (((v.ps.map PqS.key).take j).filter (preB16 front)).length] at hnx
        repeat (first | refine JL.q (by first | (apply OQ.load; exact strC; exact rfl; exact .here; exact hkz) | (apply OQ.lenS; exact Try.underlying9; exact rfl) | (apply OQ.geqB (b := (front.length : Int)); exact rfl; exact rfl; exact g4) | (apply OQ.pick_f; exact rfl; exact rfl) | (apply OQ.move; exact rfl) | (apply OQ.fld; exact rfl; exact rfl; exact rfl; exact (by decide); exact rfl)) rfl ?_ | refine JC.seq ?_ | refine JC.region ?_ | refine JL.nil ?_ | refine JE.next ?_ | refine JL.gskip rfl rfl rfl rfl ?_)
        refine JC.cond_false rfl rfl ?_
        repeat (first | refine JL.q (by first | (apply OQ.addN (a := j) (b := 1); exact rfl; exact rfl; exact (by omega)) | (apply OQ.move; exact rfl)) rfl ?_ | refine JC.region ?_ | refine JC.skip ?_ | refine JL.nil ?_ | refine JE.next ?_ | refine JE.blk_normal ?_)
        rw [← hnx]
        exact JE.again (i := j) (j + 1) hj' (by omega) (by repeat (first | exact SubE.nil | refine SubE.cons _ _ _ rfl ?_)) (.drop _ _ _ (Less.refl _))
      | true =>
        have hle : front.length ≤ tp.key.length := by have := of_decide_eq_true g4; omega
        cases g5 : decide (tp.key.take front.length = front) with
        | false =>
          have hpr : preB16 front tp.key = false := g5
          rw [hpr, if_neg (by simp), Nat.add_zero (((v.ps.map PqS.key).take j).filter (preB16 front)).length] at hnx
          repeat (first | refine JL.q (by first | (apply OQ.load; exact strC; exact rfl; exact .here; exact hkz) | (apply OQ.lenS; exact Try.underlying9; exact rfl) | (apply OQ.geqB (b := (front.length : Int)); exact rfl; exact rfl; exact g4) | (apply OQ.subS_hi (j := front.length); exact Try.underlying9; exact rfl; exact rfl; exact hle) | (apply OQ.eqSB; exact rfl; exact rfl; exact g5) | (apply OQ.pick_t; exact rfl; exact rfl) | (apply OQ.move; exact rfl) | (apply OQ.fld; exact rfl; exact rfl; exact rfl; exact (by decide); exact rfl)) rfl ?_ | refine JC.seq ?_ | refine JC.region ?_ | refine JL.nil ?_ | refine JE.next ?_ | refine JL.gon rfl rfl ?_)
          refine JC.cond_false rfl rfl ?_
          repeat (first | refine JL.q (by first | (apply OQ.addN (a := j) (b := 1); exact rfl; exact rfl; exact (by omega)) | (apply OQ.move; exact rfl)) rfl ?_ | refine JC.region ?_ | refine JC.skip ?_ | refine JL.nil ?_ | refine JE.next ?_ | refine JE.blk_normal ?_)
          rw [← hnx]
          exact JE.again (i := j) (j + 1) hj' (by omega) (by repeat (first | exact SubE.nil | refine SubE.cons _ _ _ rfl ?_)) (.drop _ _ _ (Less.refl _))
        | true =>
          have hpr : preB16 front tp.key = true := g5
          rw [hpr, if_pos rfl] at hnx
          have hFn := filt_at hkj hpr
          rw [hF] at hFn
          generalize (((v.ps.map PqS.key).take j).filter (preB16 front)).length = m at hnx hFn ⊢
          have hmF : m < F.length := (List.getElem?_eq_some_iff.1 hFn).1
          cases q2 with
          | none => rw [hq2 rfl] at hmF; cases hmF
          | some p2 =>
          obtain ⟨b2, c2⟩ := p2
          have hav2 : accV (some (b2, c2)) F.length = .slice (some ⟨b2, 0, none⟩) F.length c2 := rfl
          have hfz : (F.map Z)[m]? = some (Z tp.key) := by rw [List.getElem?_map, hFn]; rfl
          have hH2 : Has (⟨b23, Row 44 tp.cs, true⟩ :: (accE 9 (some (b2, c2)) (F.map Z) ++ (z.E ++ (v.E ++ R)))) b2 (Sl.Own 9 1 (F.map Z).length c2 (F.map Z)) true := .there .here
          have g6 : decide ((F.length : Int) ≤ (m : Int)) = false := decide_eq_false (by omega)
          repeat (first | refine JL.q (by first | (apply OQ.load; exact strC; exact rfl; exact .here; exact hkz) | (apply OQ.lenS; exact Try.underlying9; exact rfl) | (apply OQ.geqB (b := (front.length : Int)); exact rfl; exact rfl; exact g4) | (apply OQ.subS_hi (j := front.length); exact Try.underlying9; exact rfl; exact rfl; exact hle) | (apply OQ.eqSB; exact rfl; exact rfl; exact g5) | (apply OQ.pick_t; exact rfl; exact rfl) | (apply OQ.move; exact rfl) | (apply OQ.fld; exact rfl; exact rfl; exact rfl; exact (by decide); exact rfl)) rfl ?_ | refine JC.seq ?_ | refine JC.region ?_ | refine JL.nil ?_ | refine JE.next ?_ | refine JL.gon rfl rfl ?_)
          refine JC.cond_true rfl rfl ?_
          repeat (refine JC.seq ?_)
          refine JC.quiet mixT (by kernel_rfl) ?_
          repeat (first | refine JQ.q (by first | (apply OQ.lenV (q := some (b2, c2)) (k := F.length); exact Try.underlying41; exact nofun; exact rfl) | (apply OQ.geqB (b := (F.length : Int)); exact rfl; exact rfl; exact g6) | (apply OQ.idxS0 (i := m); exact Try.underlying41; exact strS16; exact (congrArg some hav2); exact rfl; exact hmF) | (apply OQ.load; exact strC; exact rfl; exact hH2; exact (Sl.Own.cell hfz)) | (apply OQ.load; exact strC; exact rfl; exact .here; exact hkz) | (apply OQ.neZr; exact rfl; exact rfl) | (apply OQ.pick_f; exact rfl; exact rfl) | (apply OQ.move; exact rfl) | (apply OQ.fld; exact rfl; exact rfl; exact rfl; exact (by decide); exact rfl)) rfl ?_ | refine JQ.nil ?_ | refine JE.next ?_ | refine JQ.gon rfl rfl ?_)
          refine JC.cond_false rfl rfl ?_
          repeat (first | refine JL.q (by first | (apply OQ.addN (a := m) (b := 1); exact rfl; exact rfl; exact (by omega)) | (apply OQ.addN (a := j) (b := 1); exact rfl; exact rfl; exact (by omega)) | (apply OQ.move; exact rfl) | (apply OQ.assign; exact rfl)) rfl ?_ | refine JC.region ?_ | refine JC.skip ?_ | refine JL.nil ?_ | refine JE.next ?_ | refine JE.blk_normal ?_)
          rw [← hnx]
          exact JE.again (i := j) (j + 1) hj' (by omega) (by repeat (first | exact SubE.nil | refine SubE.cons _ _ _ rfl ?_)) (.drop _ _ _ (Less.refl _))
    · have hj' : j = v.ps.length := Nat.le_antisymm hj (Nat.le_of_not_lt fun h => by have := of_decide_eq_false hc; omega)
      have ht : (v.ps.map PqS.key).take j = v.ps.map PqS.key := List.take_of_length_le (by rw [List.length_map]; omega)
      rw [ht, hF]
      repeat (first | refine JL.q (by first | (apply OQ.lenV (q := q2) (k := F.length); exact Try.underlying41; exact hq20; exact rfl) | (apply OQ.eqB (a := (F.length : Int)) (b := (F.length : Int)) (c := true); exact rfl; exact rfl; exact (decide_eq_true rfl)) | (apply OQ.move; exact rfl) | (apply OQ.assign; exact rfl)) rfl ?_ | refine JC.seq ?_ | refine JC.region ?_ | refine JC.exit ?_ | refine JL.nil ?_ | refine JE.next ?_ | refine JE.then_exit ?_ | refine JE.blk_hit ?_)
      refine JC.ret ?_
      skip
      exact JE.ret1 rfl (RV.tmp rfl) fun w' hw => ⟨rfl, hw.chg⟩
end Go.Proofs.Ytjkncnbpaejamaa
