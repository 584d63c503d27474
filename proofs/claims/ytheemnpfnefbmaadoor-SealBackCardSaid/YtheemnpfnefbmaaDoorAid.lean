/-
  Of no statement by itself: small rules that several texts use.
  Conditions: each theorem's own.
-/
import Derived.Test.YtheemnpfnefbmaaDoorRefC
import Derived.Test.YtheemnpfnefbmaaDoorSlu
import Derived.Test.YtheemnpfnefbmaaDoorSlh
namespace Go.Proofs.YtheemnpfnefbmaaDoor
open Sl Sha

theorem gd25 : Tryd.prog.eqGuardType Tryd.prog.depth 23 = false := by kernel_rfl
theorem OQ.neA_f {P : Program} {n : Nat} {E : Env} {C : World → Prop} {dst : Option Tmp} {t t' ty e : TypeId} {x y : Operand} {pos : String} {aft : Array Edge} {g : Option (Nat × Bool)} {m : Nat} {r q : List (BitVec 8)} (hu : P.underlying t = some (.array m e)) (he : P.underlying e = some (.int .u8)) (hz : szT P e = some 1) (hgd : P.eqGuardType P.depth t = false) (hx : ev E x = some (.agg (r.map U8).toArray)) (hy : ev E y = some (.agg (q.map U8).toArray)) (hr : r.length = m) (hq : q.length = m) (h : r = q) :
    OQ P n E C ⟨dst, .binOp .neq t x y t', ty, pos, aft, g⟩ (.bool false) := by
  have := OQ.neA (P := P) (n := n) (E := E) (C := C) (dst := dst) (t' := t') (ty := ty) (pos := pos) (aft := aft) (g := g) hu he hz hgd hx hy hr hq
  simpa [h] using this
theorem JL.lit0o {P : Program} {n : Nat} {w0 : World} {S : List Nat} {ops : Array Oper} {Q : Exit → Act → World → Prop} {E : Env} {M : List Ent} {l : List Oper} {d : Tmp} {t ty : TypeId} {pos : String} {aft : Array Edge} {z : Value} {by' : Nat} (hu : P.underlying t = some (.slice 5)) (hi : EI P 5 z 1 by') (hd : Nat.blt d n = true)
    (k : ∀ b, w0.heap.size ≤ b → JL P n w0 S ops Q l ((d, .slice (some ⟨b, 0, none⟩) 0 0) :: E) (⟨b, Own 5 1 0 0 [], true⟩ :: M)) : JL P n w0 S ops Q (⟨some d, .buildSlice t 0 #[], ty, pos, aft, none⟩ :: l) E M :=
  JL.lit0 hu hi hd fun b hb => ⟨fun a w ha hw => (k b hb).go a w ha (hw.weak (.keep _ _ _ _ _ _ (row_own rfl) (Less.refl _)))⟩
theorem filled_long (k : List B) (h : 64 < k.length) : filled (sha k) = filled k := by
  unfold filled
  rw [if_pos h, if_neg (by rw [sha_length]; decide), sha_length]
theorem filled_short (k : List B) (z : Nat) (h : k.length + z ≤ 64) : filled (k ++ List.replicate z 0) = filled k := by
  unfold filled
  rw [if_neg (by simp; omega), if_neg (by omega), List.append_assoc, List.length_append, List.length_replicate]
  congr 1
  rw [List.replicate_append_replicate]
  congr 1
  omega
theorem hmac_filled {k k' : List B} (s : List B) (h : filled k' = filled k) : hmac k' s = hmac k s := by unfold hmac; rw [h]
theorem row_at {e : TypeId} {a c b : List Value} {j : Nat} (h : a.length = j) : ∀ o, Row e (a ++ c ++ b) o → hasCells o j c := by
  rintro o rfl
  refine ⟨_, _, _, rfl, fun i hi => ?_⟩
  subst h
  simp [List.getElem?_append, hi]
theorem OQ.neA_t {P : Program} {n : Nat} {E : Env} {C : World → Prop} {dst : Option Tmp} {t t' ty e : TypeId} {x y : Operand} {pos : String} {aft : Array Edge} {g : Option (Nat × Bool)} {m : Nat} {r q : List (BitVec 8)} (hu : P.underlying t = some (.array m e)) (he : P.underlying e = some (.int .u8)) (hz : szT P e = some 1) (hgd : P.eqGuardType P.depth t = false) (hx : ev E x = some (.agg (r.map U8).toArray)) (hy : ev E y = some (.agg (q.map U8).toArray)) (hr : r.length = m) (hq : q.length = m) (h : ¬ r = q) :
    OQ P n E C ⟨dst, .binOp .neq t x y t', ty, pos, aft, g⟩ (.bool true) := by
  have := OQ.neA (P := P) (n := n) (E := E) (C := C) (dst := dst) (t' := t') (ty := ty) (pos := pos) (aft := aft) (g := g) hu he hz hgd hx hy hr hq
  rwa [decide_eq_false h] at this
def nilS : Sl8 := ⟨none, 0, []⟩
theorem nilS_ok (w : World) : nilS.ok w := ⟨by simp [nilS], Reads.nil _ _⟩
theorem less_pre (A M : List Ent) : Less A (A ++ M) := by
  induction A with
  | nil => exact .nil _
  | cons e A ih => exact .keep _ _ _ _ _ _ (fun _ h => h) ih
theorem has_cell {o : Obj} {j k : Nat} {cs : List Value} {v : Value} (h : hasCells o j cs) (hv : cs[k]? = some v) : cellAt o (j + k) = some v := by
  obtain ⟨c, e, fr, rfl, h⟩ := h
  have hk := (List.getElem?_eq_some_iff.1 hv).1
  have := h k hk
  rw [hv] at this
  simpa [cellAt] using this
theorem OQ.lenZ {P : Program} {n : Nat} {E : Env} {C : World → Prop} {dst : Option Tmp} {t ty : TypeId} {pos : String} {aft : Array Edge} {g : Option (Nat × Bool)} {x : Operand} {s : ByteArray} (hu : P.underlying t = some .string) (hx : ev E x = some (.string s)) : OQ P n E C ⟨dst, .call ⟨.builtin .len, #[x], #[t]⟩, ty, pos, aft, g⟩ (N s.size) :=
  OQ.run fun a ha w _ => by
    have h1 := ha.eval hx
    have h3 : (underlying t).run P w = .ok .string w := run_underlying hu w
    simp [execOp, h1, resolve, invoke, builtin, Builtin.len_, Sem.run_bind, h3, goInt]
theorem has_part {o : Obj} {j k t : Nat} {cs : List Value} (h : hasCells o j cs) (hk : k + t ≤ cs.length) : hasCells o (j + k) ((cs.drop k).take t) := by
  obtain ⟨c, e, fr, rfl, h⟩ := h
  refine ⟨c, e, fr, rfl, fun i hi => ?_⟩
  have hi : i < t := by simp at hi; omega
  rw [Nat.add_assoc, h (k + i) (by omega), List.getElem?_take, if_pos hi, List.getElem?_drop]
theorem JC.fact {P : Program} {n : Nat} {w0 : World} {S : List Nat} {Q : Exit → Act → World → Prop} {c : Code} {E : Env} {M : List Ent} {b : Nat} {A : Obj → Prop} {wr : Bool} {p : Prop} (hM : Has M b A wr) (hA : ∀ o, A o → p) (h : p → JC P n w0 S Q c E M) : JC P n w0 S Q c E M :=
  ⟨fun a w ha hw => let ⟨o, _, ho⟩ := hw.get hM; (h (hA o ho)).go a w ha hw⟩
theorem JL.fact {P : Program} {n : Nat} {w0 : World} {S : List Nat} {ops : Array Oper} {Q : Exit → Act → World → Prop} {l : List Oper} {E : Env} {M : List Ent} {b : Nat} {A : Obj → Prop} {wr : Bool} {p : Prop} (hM : Has M b A wr) (hA : ∀ o, A o → p) (h : p → JL P n w0 S ops Q l E M) : JL P n w0 S ops Q l E M :=
  ⟨fun a w ha hw => let ⟨o, _, ho⟩ := hw.get hM; (h (hA o ho)).go a w ha hw⟩
theorem Sl.Holds.swap {w0 w : World} {S : List Nat} {e1 e2 : Ent} {M : List Ent} (h : Holds w0 S (e1 :: e2 :: M) w) : Holds w0 S (e2 :: e1 :: M) w := by
  refine ⟨h.chg, ?_, fun e he => h.all e ?_⟩
  · have := h.nodup
    simp only [List.map_cons, List.nodup_cons, List.mem_cons, not_or] at this ⊢
    exact ⟨⟨Ne.symm this.1.1, this.2.1⟩, this.1.2, this.2.2⟩
  · simp only [List.mem_cons] at he ⊢
    rcases he with h | h | h
    · exact .inr (.inl h)
    · exact .inl h
    · exact .inr (.inr h)
theorem JE.swap {n : Nat} {w0 : World} {S : List Nat} {Q : Exit → Act → World → Prop} {e : Exit} {E : Env} {e1 e2 : Ent} {M : List Ent} (h : JE n w0 S Q e E (e2 :: e1 :: M)) : JE n w0 S Q e E (e1 :: e2 :: M) := ⟨fun a w ha hw => h.go a w ha hw.swap⟩
theorem JE.less {n : Nat} {w0 : World} {S : List Nat} {Q : Exit → Act → World → Prop} {e : Exit} {E : Env} {M M' : List Ent} (hM : Less M' M) (h : JE n w0 S Q e E M') : JE n w0 S Q e E M := ⟨fun a w ha hw => h.go a w ha (hw.weak hM)⟩
theorem Own.has {e : TypeId} {k cap m : Nat} {r : List B} : ∀ o, Own e 1 k cap (r.map U8) o → hasCells o 0 ((r.take m).map U8) ∧ k ≤ cap := by
  rintro o ⟨sp, rfl, h1, h2, h3⟩
  refine ⟨⟨_, _, _, rfl, fun i hi => ?_⟩, h3⟩
  have hi' : i < m ∧ i < r.length := by simp at hi; omega
  simp [List.getElem?_append_left, hi'.1, hi'.2]
def Sl8.ents (s : Sl8) : List Ent := match s.ad with
  | some a => [⟨a.block, fun o => hasCells o a.off (s.l.map U8) ∧ s.l.length ≤ s.cap ∧ a.spot = none, true⟩]
  | none => []
theorem Sl8.ents_ok {s : Sl8} {w0 w : World} {S : List Nat} {M : List Ent} (h : Holds w0 S (s.ents ++ M) w) (h0 : s.ad = none → s.l = []) : s.ok w := by
  obtain ⟨ad, cap, l⟩ := s
  cases ad with
  | none =>
    have : l = [] := h0 rfl
    subst this
    exact ⟨by simp, Reads.nil _ _⟩
  | some a =>
    obtain ⟨o, ho, h1, h2, h3⟩ := h.get (b := a.block) (A := fun o => hasCells o a.off (l.map U8) ∧ l.length ≤ cap ∧ a.spot = none) (wr := true) .here
    obtain ⟨b, j, sp⟩ := a
    simp only at h3
    subst h3
    exact ⟨h2, Reads.block ho h1⟩
structure Gave (s : Sl8) (l : List B) (cap : Nat) : Prop where
  val : s.l = l
  cap : s.cap = cap
  none : s.ad = .none → s.l = []
section
variable {P : Program} {n : Nat} {w0 w w' : World} {S : List Nat} {ops : Array Oper} {Q : Exit → Act → World → Prop} {l : List Oper} {E : Env} {M Ms : List Ent} {d : Nat} {t t' e ty : TypeId} {pos : String} {aft : Array Edge} {x : Operand}
theorem Sl.Holds.both (h : Holds w0 S M w) (h2 : Holds w [] Ms w') (hw : ∀ e ∈ Ms, e.wr = true) : Holds w0 S (Ms ++ M) w' := by
  have hx : Ext w w' := h2.chg
  have h1 := h.ext hx
  have hfr : ∀ e ∈ Ms, w.heap.size ≤ e.b := fun e he => by
    rcases (h2.all e he).2 (hw e he) with h | h
    · cases h
    · exact h
  refine ⟨h1.chg, ?_, fun e he => ?_⟩
  · rw [List.map_append, List.nodup_append]
    refine ⟨h2.nodup, h1.nodup, fun a ha b hb e => ?_⟩
    simp only [List.mem_map] at ha hb
    obtain ⟨e1, he1, rfl⟩ := ha
    obtain ⟨e2, he2, rfl⟩ := hb
    have := hfr e1 he1
    obtain ⟨⟨o, ho, _⟩, _⟩ := h.all e2 he2
    have := (Array.getElem?_eq_some_iff.1 ho).1
    omega
  · rcases List.mem_append.1 he with he | he
    · refine ⟨(h2.all e he).1, fun _ => .inr (Nat.le_trans h.chg.size (hfr e he))⟩
    · exact h1.all e he
theorem Sl8.ents_wr (s : Sl8) : ∀ e ∈ s.ents, e.wr = true := by
  intro e he
  unfold Sl8.ents at he
  split at he
  · simp only [List.mem_singleton] at he
    subst he
    rfl
  · cases he
theorem JL.callg {ι : Type} (vf : ι → Value) (Mf : ι → List Ent) {f : FuncId} {xs : List Operand} {ats : Array TypeId} {vs : List Value} (hg : Goes P f) (hx : evs E xs = some vs) (hd : Nat.blt d n = true) (hwr : ∀ i, ∀ e ∈ Mf i, e.wr = true)
    (hc : ∀ w, Holds w0 S M w → Calls P f vs.toArray w fun e w' => ∃ i, e = .returned (vf i) ∧ Holds w [] (Mf i) w')
    (k : ∀ i, JL P n w0 S ops Q l ((d, vf i) :: E) (Mf i ++ M)) : JL P n w0 S ops Q (⟨some d, .call ⟨.value (.func f), xs.toArray, ats⟩, ty, pos, aft, none⟩ :: l) E M :=
  JL.call (ι := ι) vf (fun i => Mf i ++ M) hg hx hd (fun w hw => (hc w hw).mono fun _ _ ⟨i, h1, h2⟩ => ⟨i, h1, hw.both h2 (hwr i)⟩) k
end
end Go.Proofs.YtheemnpfnefbmaaDoor
