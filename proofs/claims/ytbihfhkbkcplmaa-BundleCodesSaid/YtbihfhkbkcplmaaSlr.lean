/-
  Of no statement by itself: a call behind which the world that it left is the new beginning: what is known of that world stays a fact, as long as nothing of it is written; over X's partial knowledge, for any program P.
  Conditions: each rule's own hypotheses.
-/
import Derived.Test.YtbihfhkbkcplmaaSlq
namespace Go.Proofs.Ytbihfhkbkcplmaa
open Sl
theorem Chg.over {w0 w1 w2 : World} {S : List Nat} (h1 : Ext w0 w1) (h2 : Chg S w1 w2) (hS : ∀ b ∈ S, w0.heap.size ≤ b) : Ext w0 w2 :=
  ⟨h2.os.trans h1.os, h2.tape.trans h1.tape, h2.output.trans h1.output, Nat.le_trans h1.size h2.size,
   fun k hk hk' => (h2.block k (Nat.lt_of_lt_of_le hk h1.size) (fun h => by have := hS k h; omega)).trans (h1.block k hk hk')⟩
theorem JL.callw {P : Program} {n : Nat} {w0 : World} {S S' : List Nat} {ops : Array Oper} {Q : Exit → Act → World → Prop} {l : List Oper} {E : Env} {M : List Ent} {d : Nat} {ty : TypeId} {pos : String} {aft : Array Edge} {ι : Type} (vf : ι → Value) (F : ι → World → Prop) (M' : List Ent)
    {f : FuncId} {xs : List Operand} {ats : Array TypeId} {vs : List Value} (hg : Goes P f) (hx : evs E xs = some vs) (hd : Nat.blt d n = true)
    (hc : ∀ w1, Holds w0 S M w1 → Calls P f vs.toArray w1 fun e w2 => ∃ i, e = .returned (vf i) ∧ Ext w1 w2 ∧ F i w2)
    (hM : Less M' M) (hS : ∀ e ∈ M', e.wr = true → e.b ∈ S')
    (k : ∀ i w1, Holds w0 S M w1 → F i w1 → JL P n w1 S' ops Q l ((d, vf i) :: E) M') : JL P n w0 S ops Q (⟨some d, .call ⟨.value (.func f), xs.toArray, ats⟩, ty, pos, aft, none⟩ :: l) E M :=
  ⟨fun a w ha hw => wpList_plain rfl fun K hK => by
    unfold Oper.wp
    rw [exec_call hg ha hx w]
    exact (hc w hw).mono fun e w' ⟨i, h1, h2, h3⟩ => by
      subst h1
      have hw' := hw.ext h2
      have hm := hw'.weak hM
      exact hK _ _ ((k i w' hw' h3).go _ _ (ha.put d _ hd) ⟨Chg.refl _ _, hm.nodup, fun e he => ⟨(hm.all e he).1, fun hr => .inl (hS e he hr)⟩⟩)⟩
/-- slices of slices of bytes -/
def flatE (rs : List Sl8) : List Ent := rs.flatMap Sl8.ents
theorem less_app {A B : List Ent} (C : List Ent) (h : Less A B) : Less A (C ++ B) := by
  induction C with
  | nil => exact h
  | cons e C ih => exact .drop _ _ _ ih
theorem less_mem {x : Sl8} : ∀ {rs : List Sl8}, x ∈ rs → Less x.ents (flatE rs)
  | y :: rs, h => by
    rcases List.mem_cons.1 h with rfl | h
    · exact less_pre _ _
    · exact less_app y.ents (less_mem h)
theorem flat_ok {rs : List Sl8} {w0 w : World} {S : List Nat} {A : List Ent} (hw : Holds w0 S (A ++ flatE rs) w) (h0 : ∀ x ∈ rs, x.ad = none → x.l = []) : ∀ x ∈ rs, x.ok w := fun x hx =>
  Sl8.ents_ok (M := []) (by rw [List.append_nil]; exact hw.weak (less_app A (less_mem hx))) (h0 x hx)
theorem less_app2 {B B' : List Ent} (h : Less B' B) : ∀ A : List Ent, Less (A ++ B') (A ++ B)
  | [] => h
  | ⟨_, _, _⟩ :: A => .keep _ _ _ _ _ _ (fun _ h => h) (less_app2 h A)
theorem JE.perm {n : Nat} {w0 : World} {S : List Nat} {Q : Exit → Act → World → Prop} {e : Exit} {E : Env} {M M' : List Ent} (hp : M.Perm M') (h : JE n w0 S Q e E M') : JE n w0 S Q e E M :=
  ⟨fun a w ha hw => h.go a w ha ⟨hw.chg, (hp.map Ent.b).nodup_iff.1 hw.nodup, fun e he => hw.all e (hp.mem_iff.2 he)⟩⟩
/-- a slice of slices of bytes -/
structure SlL where
  ad : Option Addr
  cap : Nat
  rs : List Sl8
def SlL.v (s : SlL) : Value := .slice s.ad s.rs.length s.cap
def SlL.ls (s : SlL) : List (List Bt) := s.rs.map Sl8.l
structure SlL.ok (w : World) (s : SlL) : Prop where
  len : s.rs.length ≤ s.cap
  reads : Reads w s.ad (s.rs.map Sl8.v)
  all : ∀ y ∈ s.rs, y.ok w
theorem ownL_ok {w0 w : World} {S : List Nat} {A : List Ent} {b cap : Nat} {e : TypeId} {rs : List Sl8} {wr : Bool} (hw : Holds w0 S (A ++ flatE rs) w) (hM : Has (A ++ flatE rs) b (Own e 1 rs.length cap (rs.map Sl8.v)) wr) (h0 : ∀ x ∈ rs, x.ad = none → x.l = []) : SlL.ok w ⟨some ⟨b, 0, none⟩, cap, rs⟩ := by
  obtain ⟨o, ho, hA⟩ := hw.get hM
  have hh := Own.cells _ hA
  obtain ⟨sp, rfl, h2, h3, h4⟩ := hA
  exact ⟨h4, Reads.block ho hh, flat_ok hw h0⟩
theorem own_less {e : TypeId} {k cap b : Nat} {l : List Bt} (h : l.length = k) : Less (Sl8.ents ⟨some ⟨b, 0, none⟩, cap, l⟩) [⟨b, Own e 1 k cap (l.map U8), true⟩] := by
  refine .keep _ _ _ _ _ _ (fun o ho => ?_) (.nil _)
  obtain ⟨sp, rfl, h1, h2, h3⟩ := ho
  refine ⟨⟨_, _, _, rfl, fun i hi => ?_⟩, ?_, rfl⟩
  · have hi : i < l.length := by simpa using hi
    simp [List.getElem?_append_left, hi]
  · show l.length ≤ cap
    omega
theorem flat_push {e : TypeId} {cap b : Nat} {l : List Bt} (rs : List Sl8) : Less (flatE (rs ++ [⟨some ⟨b, 0, none⟩, cap, l⟩])) (flatE rs ++ [⟨b, Own e 1 l.length cap (l.map U8), true⟩]) := by
  unfold flatE
  rw [List.flatMap_append]
  refine less_app2 ?_ _
  show Less (Sl8.ents _ ++ []) _
  rw [List.append_nil]
  exact own_less rfl
theorem perm3 (c a b : Ent) (F : List Ent) : (c :: ([a, b] ++ F)).Perm (c :: b :: (F ++ [a])) := .cons _ (List.perm_append_singleton a (b :: F)).symm
theorem Sl.Holds.base {w0 w1 w2 : World} {M : List Ent} (h1 : Ext w0 w1) (h : Holds w1 [] M w2) : Holds w0 [] M w2 :=
  ⟨Chg.over h1 h.chg (by simp), h.nodup, fun e he => ⟨(h.all e he).1, fun hr => .inr (((h.all e he).2 hr).elim (fun h => by simp at h) (fun h => Nat.le_trans h1.size h))⟩⟩
theorem JL.push3 {P : Program} {n : Nat} {w0 : World} {S : List Nat} {ops : Array Oper} {Q : Exit → Act → World → Prop} {l : List Oper} {E : Env} {M : List Ent} {t e ty ty' : TypeId} {x1 x2 x3 y : Operand} {z v1 v2 v3 : Value} {by' k cap b d1 d2 : Nat} {pos pos' : String} {aft aft' : Array Edge} {xs : List Value}
    (M' : Nat → Nat → List Ent) (hu : P.underlying t = some (.slice e)) (hi : EI P e z 1 by') (hz : z.cells.size = 1) (hx1 : ev E x1 = some v1) (hx2 : ev E x2 = some v2) (hx3 : ev E x3 = some v3) (hv1 : v1.cells = #[v1]) (hv2 : v2.cells = #[v2]) (hv3 : v3.cells = #[v3]) (h1 : v1.oneCell' = true) (h2 : v2.oneCell' = true) (h3 : v3.oneCell' = true)
    (ha : ∀ bl, ev ((d1, .slice (some ⟨bl, 0, none⟩) 3 3) :: E) y = some (.slice (some ⟨b, 0, none⟩) k cap)) (hup : ∀ b' cap', Repl M b (Own e 1 k cap xs) b' (Own e 1 (k + 3) cap' (xs ++ [v1, v2, v3])) (M' b' cap'))
    (hsm : (k + 3) * by' ≤ 140737488355328) (hsm2 : k + 3 < 9223372036854775808) (hd1 : Nat.blt d1 n = true) (hd2 : Nat.blt d2 n = true)
    (kk : ∀ bl b' cap', JL P n w0 S ops Q l ((d2, .slice (some ⟨b', 0, none⟩) (k + 3) cap') :: (d1, .slice (some ⟨bl, 0, none⟩) 3 3) :: E) (M' b' cap')) :
    JL P n w0 S ops Q (⟨some d1, .buildSlice t 3 #[(0, x1), (1, x2), (2, x3)], ty, pos, aft, none⟩ :: ⟨some d2, .call ⟨.builtin .append, #[y, .tmp d1], #[t, t]⟩, ty', pos', aft', none⟩ :: l) E M := by
  refine JL.litL (xs := [x1, x2, x3]) (vs := [v1, v2, v3]) hu hi hz rfl (by simp [evs, hx1, hx2, hx3]) (by simp [h1, h2, h3]) (by simp [hv1, hv2, hv3]) rfl (by decide) (by decide) hd1 fun bl _ => ?_
  refine JL.append (cs := [v1, v2, v3]) (m := 3) (ad := some ⟨bl, 0, none⟩) (sc := 3) (fun b' cap' => ⟨bl, Row e [v1, v2, v3], true⟩ :: M' b' cap') hu hi (ha bl) (by simp [ev, lk]) (fun b' cap' => .there (hup b' cap')) rfl (fun w hw => ?_) (by simp [h1, h2, h3]) hz (by decide) hsm hsm2 hd2 fun b' cap' => ?_
  · obtain ⟨o, ho, hA⟩ := hw.get (b := bl) (A := Row e [v1, v2, v3]) (wr := true) .here
    exact Reads.block ho (Row.all _ hA)
  · exact ⟨fun a w ha hw => (kk bl b' cap').go a w ha (hw.weak (.drop _ _ _ (Less.refl _)))⟩
theorem all8U (l : List Bt) : ∀ v ∈ l.map U8, v.oneCell' = true := by
  intro v hv
  obtain ⟨x, _, rfl⟩ := List.mem_map.1 hv
  rfl
theorem JE.ret3 {P : Program} {fn : Func} {R : Ending → World → Prop} {n : Nat} {w0 : World} {S : List Nat} {E : Env} {M : List Ent} {r1 r2 r3 : ResultVar} {v1 v2 v3 : Value} (hr : fn.results = #[r1, r2, r3]) (h1 : RV P n w0 S E M r1 v1) (h2 : RV P n w0 S E M r2 v2) (h3 : RV P n w0 S E M r3 v3) (hR : ∀ w, Holds w0 S M w → R (.returned (.tuple #[v1, v2, v3])) w) : JE n w0 S (bodyPost P fn R) .ret E M := by
  refine ⟨fun a w ha hw => ?_⟩
  refine ⟨ha.defers, .tuple #[v1, v2, v3], ?_, hR w hw⟩
  have e1 := h1 a w ha hw
  have e2 := h2 a w ha hw
  have e3 := h3 a w ha hw
  rw [results_eq, hr]
  simp [Sem.run_bind, e1, e2, e3]
theorem SlL.ok.holds {w0 w : World} {S : List Nat} {M : List Ent} {s : SlL} (h : s.ok w0) (hw : Holds w0 S M w) (hS : S = []) : s.ok w := ⟨h.len, hw.reads h.reads (fun _ a _ => by rw [hS]; simp), fun y hy => (h.all y hy).holds hw hS⟩
section
variable {P : Program} {n : Nat} {E : Env} {C : World → Prop} {dst : Option Tmp} {ty t t' : TypeId} {pos : String} {aft : Array Edge} {g : Option (Nat × Bool)} {x y : Operand}
theorem OQ.minI {a c : Int} (hx : ev E x = some (.int .i64 a)) (hy : ev E y = some (.int .i64 c)) : OQ P n E C ⟨dst, .call ⟨.builtin .min, #[x, y], #[t, t']⟩, ty, pos, aft, g⟩ (.int .i64 (min a c)) :=
  OQ.run fun ac ha w _ => by
    have h1 := ha.eval hx
    have h2 := ha.eval hy
    have h3 : (if c < a then c else a) = min a c := by split <;> omega
    simp [execOp, h1, h2, resolve, invoke, builtin, Builtin.min_, Builtin.min2, Sem.run_bind, h3]
theorem OQ.maxI {a c : Int} (hx : ev E x = some (.int .i64 a)) (hy : ev E y = some (.int .i64 c)) : OQ P n E C ⟨dst, .call ⟨.builtin .max, #[x, y], #[t, t']⟩, ty, pos, aft, g⟩ (.int .i64 (max a c)) :=
  OQ.run fun ac ha w _ => by
    have h1 := ha.eval hx
    have h2 := ha.eval hy
    have h3 : (if a < c then c else a) = max a c := by split <;> omega
    simp [execOp, h1, h2, resolve, invoke, builtin, Builtin.max_, Builtin.max2, Sem.run_bind, h3]
end
end Go.Proofs.Ytbihfhkbkcplmaa
