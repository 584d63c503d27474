/-
  Of no statement by itself: the texts Slt, Slk, Slj, Slm, Slo, Sli, Slv, Slq, LsP, Slr, Sls, Slp, Slsu, Slfv, Typ, LsA, Slac, TokS, TokF, TokG, TokH, TokJ, TokK, TokC in one.
  Conditions: each theorem's own.
-/
import Derived.Test.YtchoiikhepjdiaaDoorBa
import Derived.Lib.ConvBytes
import Derived.Laws.MakeOwn
import Derived.Great.FillDense
import Derived.Laws.Externs
import Derived.Laws.BytesString
import Derived.Lib.SlTrimSet
import Derived.Lib.IndexAny
import Derived.Deep.AppendSrc
import Derived.Laws.Slices
import Derived.Laws.Strings2
import Derived.ScopeJumps
import Derived.Test.YtchoiikhepjdiaaDoorProg
import Derived.Shelf.Strings.SlTrimAscii
/-
  Of no statement by itself: slices of bytes as arguments and as answers, their parts; calls that hand out new blocks; strings as bytes; small rules that several texts use; for any program P.
  Conditions: each theorem's own.
-/
namespace Go.Proofs.YtchoiikhepjdiaaDoor
set_option maxRecDepth 10000
open Sl
abbrev Bt := BitVec 8
structure Sl8 where
  ad : Option Addr
  cap : Nat
  l : List Bt
def Sl8.v (s : Sl8) : Value := .slice s.ad s.l.length s.cap
structure Sl8.ok (w : World) (s : Sl8) : Prop where
  len : s.l.length ≤ s.cap
  reads : Reads w s.ad (s.l.map U8)
theorem Sl8.ok.lt {w : World} {s : Sl8} (h : s.ok w) (h0 : s.l ≠ []) : ∀ a, s.ad = some a → a.block < w.heap.size := by
  obtain ⟨b, j, h1, h2⟩ := h.reads.at (by simpa using List.length_pos_iff.2 h0)
  intro a ha
  rw [h1] at ha
  cases ha
  exact block_lt_of_cell (h2 0 _ (map_at U8 0 (List.length_pos_iff.2 h0)))
theorem Sl8.ok.holds {w0 w : World} {S : List Nat} {M : List Ent} {s : Sl8} (h : s.ok w0) (hw : Holds w0 S M w) (hS : S = []) : s.ok w := ⟨h.len, hw.reads h.reads (fun _ a _ => by rw [hS]; simp)⟩
theorem Sl8.ok.ext {w w' : World} {s : Sl8} (h : s.ok w) (hx : Ext w w') : s.ok w' := h.holds (⟨hx, by simp, by simp⟩ : Holds w [] [] w') rfl
theorem OQ.neA_f {P : Program} {n : Nat} {E : Env} {C : World → Prop} {dst : Option Tmp} {t t' ty e : TypeId} {x y : Operand} {pos : String} {aft : Array Edge} {g : Option (Nat × Bool)} {m : Nat} {r q : List (BitVec 8)} (hu : P.underlying t = some (.array m e)) (he : P.underlying e = some (.int .u8)) (hz : szT P e = some 1) (hgd : P.eqGuardType P.depth t = false) (hx : ev E x = some (.agg (r.map U8).toArray)) (hy : ev E y = some (.agg (q.map U8).toArray)) (hr : r.length = m) (hq : q.length = m) (h : r = q) :
    OQ P n E C ⟨dst, .binOp .neq t x y t', ty, pos, aft, g⟩ (.bool false) := by
  have := OQ.neA (P := P) (n := n) (E := E) (C := C) (dst := dst) (t' := t') (ty := ty) (pos := pos) (aft := aft) (g := g) hu he hz hgd hx hy hr hq
  simpa [h] using this
theorem row_at {e : TypeId} {a c b : List Value} {j : Nat} (h : a.length = j) : ∀ o, Row e (a ++ c ++ b) o → hasCells o j c := by
  rintro o rfl
  refine ⟨_, _, _, rfl, fun i hi => ?_⟩
  subst h
  simp [List.getElem?_append, hi]
theorem OQ.neA_t {P : Program} {n : Nat} {E : Env} {C : World → Prop} {dst : Option Tmp} {t t' ty e : TypeId} {x y : Operand} {pos : String} {aft : Array Edge} {g : Option (Nat × Bool)} {m : Nat} {r q : List (BitVec 8)} (hu : P.underlying t = some (.array m e)) (he : P.underlying e = some (.int .u8)) (hz : szT P e = some 1) (hgd : P.eqGuardType P.depth t = false) (hx : ev E x = some (.agg (r.map U8).toArray)) (hy : ev E y = some (.agg (q.map U8).toArray)) (hr : r.length = m) (hq : q.length = m) (h : ¬ r = q) :
    OQ P n E C ⟨dst, .binOp .neq t x y t', ty, pos, aft, g⟩ (.bool true) := by
  have := OQ.neA (P := P) (n := n) (E := E) (C := C) (dst := dst) (t' := t') (ty := ty) (pos := pos) (aft := aft) (g := g) hu he hz hgd hx hy hr hq
  rwa [decide_eq_false h] at this
def nilS : Sl8 := ⟨none, 0, []⟩
theorem nilS_ok (w : World) : nilS.ok w := ⟨by simp [nilS], Reads.nil _ _⟩
theorem less_pre (A M : List Ent) : Less A (A ++ M) := by
  induction A with
  | nil => exact .nil _
  | cons e A ih => exact .keep _ _ _ _ _ _ (fun _ h => h) ih
theorem has_cell {o : Obj} {j k : Nat} {cs : List Value} {v : Value} (h : hasCells o j cs) (hv : cs[k]? = some v) : cellAt o (j + k) = some v := by
  obtain ⟨c, e, fr, rfl, h⟩ := h
  have hk := (List.getElem?_eq_some_iff.1 hv).1
  have := h k hk
  rw [hv] at this
  simpa [cellAt] using this
theorem OQ.lenZ {P : Program} {n : Nat} {E : Env} {C : World → Prop} {dst : Option Tmp} {t ty : TypeId} {pos : String} {aft : Array Edge} {g : Option (Nat × Bool)} {x : Operand} {s : ByteArray} (hu : P.underlying t = some .string) (hx : ev E x = some (.string s)) : OQ P n E C ⟨dst, .call ⟨.builtin .len, #[x], #[t]⟩, ty, pos, aft, g⟩ (N s.size) :=
  OQ.run fun a ha w _ => by
    have h1 := ha.eval hx
    have h3 : (underlying t).run P w = .ok .string w := run_underlying hu w
    simp [execOp, h1, resolve, invoke, builtin, Builtin.len_, Sem.run_bind, h3, goInt]
theorem has_part {o : Obj} {j k t : Nat} {cs : List Value} (h : hasCells o j cs) (hk : k + t ≤ cs.length) : hasCells o (j + k) ((cs.drop k).take t) := by
  obtain ⟨c, e, fr, rfl, h⟩ := h
  refine ⟨c, e, fr, rfl, fun i hi => ?_⟩
  have hi : i < t := by simp at hi; omega
  rw [Nat.add_assoc, h (k + i) (by omega), List.getElem?_take, if_pos hi, List.getElem?_drop]
theorem JC.fact {P : Program} {n : Nat} {w0 : World} {S : List Nat} {Q : Exit → Act → World → Prop} {c : Code} {E : Env} {M : List Ent} {b : Nat} {A : Obj → Prop} {wr : Bool} {p : Prop} (hM : Has M b A wr) (hA : ∀ o, A o → p) (h : p → JC P n w0 S Q c E M) : JC P n w0 S Q c E M :=
  ⟨fun a w ha hw => let ⟨o, _, ho⟩ := hw.get hM; (h (hA o ho)).go a w ha hw⟩
theorem JL.fact {P : Program} {n : Nat} {w0 : World} {S : List Nat} {ops : Array Oper} {Q : Exit → Act → World → Prop} {l : List Oper} {E : Env} {M : List Ent} {b : Nat} {A : Obj → Prop} {wr : Bool} {p : Prop} (hM : Has M b A wr) (hA : ∀ o, A o → p) (h : p → JL P n w0 S ops Q l E M) : JL P n w0 S ops Q l E M :=
  ⟨fun a w ha hw => let ⟨o, _, ho⟩ := hw.get hM; (h (hA o ho)).go a w ha hw⟩
theorem Sl.Holds.swap {w0 w : World} {S : List Nat} {e1 e2 : Ent} {M : List Ent} (h : Holds w0 S (e1 :: e2 :: M) w) : Holds w0 S (e2 :: e1 :: M) w := by
  refine ⟨h.chg, ?_, fun e he => h.all e ?_⟩
  · have := h.nodup
    simp only [List.map_cons, List.nodup_cons, List.mem_cons, not_or] at this ⊢
    exact ⟨⟨Ne.symm this.1.1, this.2.1⟩, this.1.2, this.2.2⟩
  · simp only [List.mem_cons] at he ⊢
    rcases he with h | h | h
    · exact .inr (.inl h)
    · exact .inl h
    · exact .inr (.inr h)
theorem JE.swap {n : Nat} {w0 : World} {S : List Nat} {Q : Exit → Act → World → Prop} {e : Exit} {E : Env} {e1 e2 : Ent} {M : List Ent} (h : JE n w0 S Q e E (e2 :: e1 :: M)) : JE n w0 S Q e E (e1 :: e2 :: M) := ⟨fun a w ha hw => h.go a w ha hw.swap⟩
theorem JE.less {n : Nat} {w0 : World} {S : List Nat} {Q : Exit → Act → World → Prop} {e : Exit} {E : Env} {M M' : List Ent} (hM : Less M' M) (h : JE n w0 S Q e E M') : JE n w0 S Q e E M := ⟨fun a w ha hw => h.go a w ha (hw.weak hM)⟩
theorem Own.has {e : TypeId} {k cap m : Nat} {r : List Bt} : ∀ o, Own e 1 k cap (r.map U8) o → hasCells o 0 ((r.take m).map U8) ∧ k ≤ cap := by
  rintro o ⟨sp, rfl, h1, h2, h3⟩
  refine ⟨⟨_, _, _, rfl, fun i hi => ?_⟩, h3⟩
  have hi' : i < m ∧ i < r.length := by simp at hi; omega
  simp [List.getElem?_append_left, hi'.1, hi'.2]
def Sl8.ents (s : Sl8) : List Ent := match s.ad with
  | some a => [⟨a.block, fun o => hasCells o a.off (s.l.map U8) ∧ s.l.length ≤ s.cap ∧ a.spot = none, true⟩]
  | none => []
theorem Sl8.ents_ok {s : Sl8} {w0 w : World} {S : List Nat} {M : List Ent} (h : Holds w0 S (s.ents ++ M) w) (h0 : s.ad = none → s.l = []) : s.ok w := by
  obtain ⟨ad, cap, l⟩ := s
  cases ad with
  | none =>
    have : l = [] := h0 rfl
    subst this
    exact ⟨by simp, Reads.nil _ _⟩
  | some a =>
    obtain ⟨o, ho, h1, h2, h3⟩ := h.get (b := a.block) (A := fun o => hasCells o a.off (l.map U8) ∧ l.length ≤ cap ∧ a.spot = none) (wr := true) .here
    obtain ⟨b, j, sp⟩ := a
    simp only at h3
    subst h3
    exact ⟨h2, Reads.block ho h1⟩
structure Gave (s : Sl8) (l : List Bt) (cap : Nat) : Prop where
  val : s.l = l
  cap : s.cap = cap
  none : s.ad = .none → s.l = []
section
variable {P : Program} {n : Nat} {w0 w w' : World} {S : List Nat} {ops : Array Oper} {Q : Exit → Act → World → Prop} {l : List Oper} {E : Env} {M Ms : List Ent} {d : Nat} {t t' e ty : TypeId} {pos : String} {aft : Array Edge} {x : Operand}
theorem Sl.Holds.both (h : Holds w0 S M w) (h2 : Holds w [] Ms w') (hw : ∀ e ∈ Ms, e.wr = true) : Holds w0 S (Ms ++ M) w' := by
  have hx : Ext w w' := h2.chg
  have h1 := h.ext hx
  have hfr : ∀ e ∈ Ms, w.heap.size ≤ e.b := fun e he => by
    rcases (h2.all e he).2 (hw e he) with h | h
    · cases h
    · exact h
  refine ⟨h1.chg, ?_, fun e he => ?_⟩
  · rw [List.map_append, List.nodup_append]
    refine ⟨h2.nodup, h1.nodup, fun a ha b hb e => ?_⟩
    simp only [List.mem_map] at ha hb
    obtain ⟨e1, he1, rfl⟩ := ha
    obtain ⟨e2, he2, rfl⟩ := hb
    have := hfr e1 he1
    obtain ⟨⟨o, ho, _⟩, _⟩ := h.all e2 he2
    have := (Array.getElem?_eq_some_iff.1 ho).1
    omega
  · rcases List.mem_append.1 he with he | he
    · refine ⟨(h2.all e he).1, fun _ => .inr (Nat.le_trans h.chg.size (hfr e he))⟩
    · exact h1.all e he
theorem Sl8.ents_wr (s : Sl8) : ∀ e ∈ s.ents, e.wr = true := by
  intro e he
  unfold Sl8.ents at he
  split at he
  · simp only [List.mem_singleton] at he
    subst he
    rfl
  · cases he
theorem JL.callg {ι : Type} (vf : ι → Value) (Mf : ι → List Ent) {f : FuncId} {xs : List Operand} {ats : Array TypeId} {vs : List Value} (hg : Goes P f) (hx : evs E xs = some vs) (hd : Nat.blt d n = true) (hwr : ∀ i, ∀ e ∈ Mf i, e.wr = true)
    (hc : ∀ w, Holds w0 S M w → Calls P f vs.toArray w fun e w' => ∃ i, e = .returned (vf i) ∧ Holds w [] (Mf i) w')
    (k : ∀ i, JL P n w0 S ops Q l ((d, vf i) :: E) (Mf i ++ M)) : JL P n w0 S ops Q (⟨some d, .call ⟨.value (.func f), xs.toArray, ats⟩, ty, pos, aft, none⟩ :: l) E M :=
  JL.call (ι := ι) vf (fun i => Mf i ++ M) hg hx hd (fun w hw => (hc w hw).mono fun _ _ ⟨i, h1, h2⟩ => ⟨i, h1, hw.both h2 (hwr i)⟩) k
end
section
variable {P : Program} {n : Nat} {w0 w w' : World} {S : List Nat} {ops : Array Oper} {Q : Exit → Act → World → Prop} {l : List Oper} {E : Env} {M Ms : List Ent} {d : Nat} {t t' e ty : TypeId} {pos : String} {aft : Array Edge} {x : Operand}
def bytesOf (s : ByteArray) : List Bt := s.data.toList.map UInt8.toBitVec
theorem bytesOf_length (s : ByteArray) : (bytesOf s).length = s.size := by simp [bytesOf]
/-- []byte(s) -/
theorem JL.s2b {s : ByteArray} {u : TypeDesc} (hs : P.underlying t = some u) (hu : P.underlying t' = some (.slice e)) (he : P.underlying e = some (.int .u8)) (hx : ev E x = some (.string s)) (hd : Nat.blt d n = true)
    (k : ∀ b cap, JL P n w0 S ops Q l ((d, Sl8.v ⟨some ⟨b, 0, none⟩, cap, bytesOf s⟩) :: E) ((⟨some ⟨b, 0, none⟩, cap, bytesOf s⟩ : Sl8).ents ++ M)) : JL P n w0 S ops Q (⟨some d, .convert t t' x, ty, pos, aft, none⟩ :: l) E M :=
  ⟨fun a w ha hw => wpList_plain rfl fun K hK => by
    have hrun := Lib.run_convert_string_bytes (P := P) w t t' e s hs hu he
    have hheap : (Lib.bytesWorld w e s).heap = w.heap.push (.cells (Lib.bytesCells w e s) e ((Lib.bytesCells w e s).size, (Lib.bytesCells w e s).size + 1)) := by
      apply Array.ext_getElem?
      intro i
      rw [Array.getElem?_push]
      by_cases h : i = w.heap.size
      · rw [if_pos h, h, Lib.bytesWorld_at_new]
      · rw [if_neg h]
        by_cases h2 : i < w.heap.size
        · rw [Lib.bytesWorld_at_old _ _ _ _ h2]
        · rw [Array.getElem?_eq_none (by rw [Lib.bytesWorld_size]; omega), Array.getElem?_eq_none (by omega)]
    have hge := grownCap_ge w s.size 0 e
    have hcells : hasCells (.cells (Lib.bytesCells w e s) e ((Lib.bytesCells w e s).size, (Lib.bytesCells w e s).size + 1)) 0 ((bytesOf s).map U8) := by
      refine ⟨_, _, _, rfl, fun i hi => ?_⟩
      have hi : i < s.data.size := by simpa [bytesOf] using hi
      simp only [Lib.bytesCells, bytesOf, Nat.zero_add, Array.getElem?_append, Array.size_map, hi, if_true, Array.getElem?_map, List.getElem?_map, Array.getElem?_toList, Option.map_map]
      rfl
    have h5 : Sl8.v ⟨some ⟨w.heap.size, 0, none⟩, grownCap w s.size 0 e, bytesOf s⟩ = .slice (some ⟨w.heap.size, 0, none⟩) s.size (grownCap w s.size 0 e) := by
      simp [Sl8.v, bytesOf_length]
    unfold Oper.wp
    simp only [execOp, ha.eval hx, Sem.run_bind, hrun, Result.andThen_ok]
    rw [← h5]
    exact hK _ _ ((k w.heap.size (grownCap w s.size 0 e)).go _ _ (ha.put d _ hd) (hw.push _ ⟨hcells, by show (bytesOf s).length ≤ _; rw [bytesOf_length]; exact hge, rfl⟩ hheap rfl rfl rfl))⟩
end
section
variable {P : Program} {n : Nat} {E : Env} {C : World → Prop} {dst : Option Tmp} {t t' ty : TypeId} {pos : String} {aft : Array Edge} {g : Option (Nat × Bool)} {x y : Operand}
theorem OQ.leqN_t {a b : Nat} (hx : ev E x = some (N a)) (hy : ev E y = some (N b)) (h : a ≤ b) : OQ P n E C ⟨dst, .binOp .leq t x y t', ty, pos, aft, g⟩ (.bool true) :=
  (decide_eq_true h : decide (a ≤ b) = true) ▸ OQ.leqN hx hy
theorem OQ.leqN_f {a b : Nat} (hx : ev E x = some (N a)) (hy : ev E y = some (N b)) (h : ¬ a ≤ b) : OQ P n E C ⟨dst, .binOp .leq t x y t', ty, pos, aft, g⟩ (.bool false) :=
  (decide_eq_false h : decide (a ≤ b) = false) ▸ OQ.leqN hx hy
theorem OQ.ne8 {a b : Bt} (hx : ev E x = some (U8 a)) (hy : ev E y = some (U8 b)) : OQ P n E C ⟨dst, .binOp .neq t x y t', ty, pos, aft, g⟩ (.bool (!decide (a = b))) := by
  have := OQ.nei (P := P) (n := n) (C := C) (dst := dst) (ty := ty) (t := t) (t' := t') (pos := pos) (aft := aft) (g := g) hx hy
  have h : decide ((a.toNat : Int) = b.toNat) = decide (a = b) := decide_eq_decide.2 ⟨fun h => BitVec.eq_of_toNat_eq (by omega), fun h => by rw [h]⟩
  rwa [h] at this
end
theorem row_ok {w0 w : World} {S : List Nat} {M : List Ent} {b j cap : Nat} {e : TypeId} {l : List Bt} {wr : Bool} (hw : Holds w0 S M w) (hM : Has M b (Row e (l.map U8)) wr) (hj : j = 0) (hc : l.length ≤ cap) : Sl8.ok w ⟨some ⟨b, j, none⟩, cap, l⟩ := by
  subst hj
  obtain ⟨o, ho, hA⟩ := hw.get hM
  exact ⟨hc, Reads.block ho (Row.all _ hA)⟩
theorem ownb_ok {w0 w : World} {S : List Nat} {M : List Ent} {b k cap : Nat} {e : TypeId} {l : List Bt} {wr : Bool} (hw : Holds w0 S M w) (hM : Has M b (Own e 1 k cap (l.map U8)) wr) : Sl8.ok w ⟨some ⟨b, 0, none⟩, cap, l⟩ := by
  obtain ⟨o, ho, hA⟩ := hw.get hM
  have hh := Own.cells _ hA
  obtain ⟨sp, rfl, h2, h3, h4⟩ := hA
  simp only [List.length_map, Nat.mul_one] at h3
  exact ⟨by show l.length ≤ cap; omega, Reads.block ho hh⟩
theorem OQ.to {P : Program} {n : Nat} {E : Env} {C : World → Prop} {o : Oper} {v v' : Value} (h : OQ P n E C o v) (e : v = v') : OQ P n E C o v' := e ▸ h
def Sl8.fst (s : Sl8) (m : Nat) : Sl8 := ⟨if s.cap = 0 then s.ad else s.ad.map (·.add 0), s.cap, s.l.take m⟩
def Sl8.snd (s : Sl8) (m : Nat) : Sl8 := ⟨if s.cap = m then s.ad else s.ad.map (·.add (m * 1)), s.cap - m, s.l.drop m⟩
theorem Sl8.ok.fst {s : Sl8} {w : World} (h : s.ok w) (m : Nat) : (s.fst m).ok w := by
  refine ⟨by show (s.l.take m).length ≤ s.cap; have := h.len; rw [List.length_take]; omega, ?_⟩
  show Reads w _ ((s.l.take m).map U8)
  by_cases h0 : s.l = []
  · rw [h0]; simpa using Reads.nil _ _
  · obtain ⟨b, j, hae, _⟩ := h.reads.at (by simpa using List.length_pos_iff.2 h0)
    have h1 := h.reads.take m
    rw [← List.map_take] at h1
    have h2 : (s.fst m).ad = s.ad := by
      show (if s.cap = 0 then s.ad else s.ad.map (·.add 0)) = s.ad
      rw [hae]
      split <;> simp [Addr.add]
    rw [h2]
    exact h1
theorem Sl8.ok.snd {s : Sl8} {w : World} (h : s.ok w) (m : Nat) (hm : m ≤ s.l.length) : (s.snd m).ok w := by
  refine ⟨by show (s.l.drop m).length ≤ s.cap - m; have := h.len; rw [List.length_drop]; omega, ?_⟩
  have := h.reads.drop (len := s.l.length) (cap := s.cap) (lo := m) (by simp) h.len hm
  rwa [← List.map_drop] at this
theorem Sl8.fst_v (s : Sl8) (m : Nat) (hm : m ≤ s.l.length) : .slice (if s.cap = 0 then s.ad else s.ad.map (·.add 0)) m s.cap = (s.fst m).v := by simp [Sl8.v, Sl8.fst, Nat.min_eq_left hm]
theorem Sl8.snd_v (s : Sl8) (m : Nat) : .slice (if s.cap = m then s.ad else s.ad.map (·.add (m * 1))) (s.l.length - m) (s.cap - m) = (s.snd m).v := by simp [Sl8.v, Sl8.snd]
theorem row_ownG {e : TypeId} {xs : List Value} {n : Nat} (h : xs.length = n) : ∀ o, Row e xs o → Own e 1 n n xs o := by
  rintro o rfl
  exact ⟨[], by simp, by simp [h], by simp [h], Nat.le_refl _⟩
theorem OQ.fst {P : Program} {n : Nat} {E : Env} {C : World → Prop} {dst : Option Tmp} {t ty e : TypeId} {pos : String} {aft : Array Edge} {g : Option (Nat × Bool)} {x y : Operand} {s : Sl8} {m : Nat} (hu : P.underlying t = some (.slice e)) (hz : szT P e = some 1) (hx : ev E x = some s.v) (hh : ev E y = some (N m)) (h : m ≤ s.l.length) (hc : s.l.length ≤ s.cap) :
    OQ P n E C ⟨dst, .slice t x none (some y) none, ty, pos, aft, g⟩ (s.fst m).v :=
  OQ.to (OQ.slS_hi (ad := s.ad) (len := s.l.length) (cap := s.cap) hu hz hx hh (Nat.le_trans h hc)) (Sl8.fst_v s m h)
theorem OQ.snd {P : Program} {n : Nat} {E : Env} {C : World → Prop} {dst : Option Tmp} {t ty e : TypeId} {pos : String} {aft : Array Edge} {g : Option (Nat × Bool)} {x y : Operand} {s : Sl8} {m : Nat} (hu : P.underlying t = some (.slice e)) (hz : szT P e = some 1) (hx : ev E x = some s.v) (hl : ev E y = some (N m)) (h : m ≤ s.l.length) :
    OQ P n E C ⟨dst, .slice t x (some y) none none, ty, pos, aft, g⟩ (s.snd m).v :=
  OQ.to (OQ.slS_lo (ad := s.ad) (len := s.l.length) (cap := s.cap) hu hz hx hl h) (Sl8.snd_v s m)
/-- a literal of no element, as a slice of one's own -/
theorem JL.lit0O {P : Program} {n : Nat} {w0 : World} {S : List Nat} {ops : Array Oper} {Q : Exit → Act → World → Prop} {E : Env} {M : List Ent} {l : List Oper} {d : Tmp} {t ty e : TypeId} {pos : String} {aft : Array Edge} {z : Value} {by' : Nat} (hu : P.underlying t = some (.slice e)) (hi : EI P e z 1 by') (hd : Nat.blt d n = true)
    (k : ∀ b, w0.heap.size ≤ b → JL P n w0 S ops Q l ((d, .slice (some ⟨b, 0, none⟩) 0 0) :: E) (⟨b, Own e 1 0 0 [], true⟩ :: M)) : JL P n w0 S ops Q (⟨some d, .buildSlice t 0 #[], ty, pos, aft, none⟩ :: l) E M :=
  JL.lit0 hu hi hd fun b hb => ⟨fun a w ha hw => (k b hb).go a w ha (hw.weak (.keep _ _ _ _ _ _ (row_ownG rfl) (Less.refl _)))⟩
/-! ### slices of int as arguments -/
structure SlI where
  ad : Option Addr
  cap : Nat
  l : List Int
def SlI.v (s : SlI) : Value := .slice s.ad s.l.length s.cap
structure SlI.ok (w : World) (s : SlI) : Prop where
  len : s.l.length ≤ s.cap
  reads : Reads w s.ad (s.l.map fun i => .int .i64 i)
theorem SlI.ok.holds {w0 w : World} {S : List Nat} {M : List Ent} {s : SlI} (h : s.ok w0) (hw : Holds w0 S M w) (hS : S = []) : s.ok w := ⟨h.len, hw.reads h.reads (fun _ a _ => by rw [hS]; simp)⟩
theorem OQ.neb_f {P : Program} {n : Nat} {E : Env} {C : World → Prop} {dst : Option Tmp} {t t' ty : TypeId} {pos : String} {aft : Array Edge} {g : Option (Nat × Bool)} {x y : Operand} {a : Bool} (hu : P.underlying t = some .bool) (hx : ev E x = some (.bool a)) (hy : ev E y = some (.bool a)) : OQ P n E C ⟨dst, .binOp .neq t x y t', ty, pos, aft, g⟩ (.bool false) :=
  OQ.run fun c ha w _ => by
    have h1 := ha.eval hx
    have h2 := ha.eval hy
    have h3 : ∀ w, (underlying t).run P w = .ok .bool w := run_underlying hu
    have h4 : (binOp .neq t (.bool a) (.bool a)).run P w = .ok (.bool false) w := by
      show (do pure (.bool (!(← Op.equalIn (9999 + 1) t (.bool a) (.bool a)))) : Sem Value).run P w = _
      unfold Op.equalIn
      simp [Sem.run_bind, h3]
    simp [execOp, h1, h2, eqGuard, h4]
/-- x = append(x, v) -/
theorem JL.push1 {P : Program} {n : Nat} {w0 : World} {S : List Nat} {ops : Array Oper} {Q : Exit → Act → World → Prop} {l : List Oper} {E : Env} {M : List Ent} {t e ty ty' : TypeId} {x y : Operand} {z v : Value} {by' k cap b d1 d2 : Nat} {pos pos' : String} {aft aft' : Array Edge} {xs : List Value}
    (M' : Nat → Nat → List Ent) (hu : P.underlying t = some (.slice e)) (hi : EI P e z 1 by') (hz : z.cells.size = 1) (hx : ev E x = some v) (hv : v.cells = #[v]) (h1 : v.oneCell' = true)
    (ha : ∀ bl, ev ((d1, .slice (some ⟨bl, 0, none⟩) 1 1) :: E) y = some (.slice (some ⟨b, 0, none⟩) k cap)) (hup : ∀ b' cap', Repl M b (Own e 1 k cap xs) b' (Own e 1 (k + 1) cap' (xs ++ [v])) (M' b' cap'))
    (hsm : (k + 1) * by' ≤ 140737488355328) (hsm2 : k + 1 < 9223372036854775808) (hd1 : Nat.blt d1 n = true) (hd2 : Nat.blt d2 n = true)
    (kk : ∀ bl b' cap', JL P n w0 S ops Q l ((d2, .slice (some ⟨b', 0, none⟩) (k + 1) cap') :: (d1, .slice (some ⟨bl, 0, none⟩) 1 1) :: E) (M' b' cap')) :
    JL P n w0 S ops Q (⟨some d1, .buildSlice t 1 #[(0, x)], ty, pos, aft, none⟩ :: ⟨some d2, .call ⟨.builtin .append, #[y, .tmp d1], #[t, t]⟩, ty', pos', aft', none⟩ :: l) E M := by
  refine JL.lit1 hu hi hz hx hv hd1 fun bl _ => ?_
  refine JL.append (cs := [v]) (m := 1) (ad := some ⟨bl, 0, none⟩) (sc := 1) (fun b' cap' => ⟨bl, Row e [v], true⟩ :: M' b' cap') hu hi (ha bl) (by simp [ev, lk]) (fun b' cap' => .there (hup b' cap')) rfl (fun w hw => ?_) (by simpa using h1) hz (by decide) hsm hsm2 hd2 fun b' cap' => ?_
  · obtain ⟨o, ho, hA⟩ := hw.get (b := bl) (A := Row e [v]) (wr := true) .here
    exact Reads.block ho (Row.all _ hA)
  · exact ⟨fun a w ha hw => (kk bl b' cap').go a w ha (hw.weak (.drop _ _ _ (Less.refl _)))⟩
end Go.Proofs.YtchoiikhepjdiaaDoor

/-
  Of no statement by itself: rules for parts of an answer with several results, for made slices, and for slices with three bounds.
  Conditions: each rule's own hypotheses.
-/
namespace Go.Proofs.YtchoiikhepjdiaaDoor
namespace Sl
section
variable {P : Program} {n : Nat} {w0 : World} {S : List Nat} {ops : Array Oper} {Q : Exit → Act → World → Prop} {l : List Oper} {E : Env} {M : List Ent} {C : World → Prop}
variable {dst : Option Tmp} {d b : Nat} {t e ty : TypeId} {pos : String} {aft : Array Edge} {g : Option (Nat × Bool)} {v : Value} {x y z : Operand}
theorem OQ.extract {vs : Array Value} {i : Nat} (hx : ev E x = some (.tuple vs)) (hi : vs[i]? = some v) : OQ P n E C ⟨dst, .extract x i, ty, pos, aft, g⟩ v :=
  OQ.run fun a ha w _ => by
    have h1 := ha.eval hx
    simp [execOp, h1, Instr.extract, hi]
/-- 'x[:hi:mx]' of a slice -/
theorem OQ.slS_hi3 {len cap hi mx sz : Nat} {ad : Option Addr} (hu : P.underlying t = some (.slice e)) (hz : szT P e = some sz) (hx : ev E x = some (.slice ad len cap)) (hh : ev E y = some (N hi)) (hm : ev E z = some (N mx)) (h : hi ≤ mx) (h' : mx ≤ cap) :
    OQ P n E C ⟨dst, .slice t x none (some y) (some z), ty, pos, aft, g⟩ (.slice (if mx = 0 then ad else ad.map (·.add 0)) hi mx) :=
  OQ.run fun a ha w _ => by
    have h1 := ha.eval hx
    have h2 := ha.eval hh
    have h4 := ha.eval hm
    have h3 : (underlying t).run P w = .ok (.slice e) w := run_underlying hu w
    simp [execOp, h1, h2, h4, Instr.sliceAt, Sem.run_bind, h3, Instr.slice, Instr.sliceBounds, Instr.sliceBound, asIntOf, h, h', sizeOf_run hz]
theorem made_u8 {k : Nat} (zc : Array Value) (h : zc = (List.replicate k (Value.int .u8 0)).toArray) (h0 : 0 < k) (m : Nat) : madeCells zc m = (List.replicate m (Value.int .u8 0)).toArray := by
  subst h
  apply Array.ext'
  simp only [madeCells, List.size_toArray, List.length_replicate, Array.toList_map, Array.toList_range]
  apply List.ext_getElem?
  intro i
  by_cases h : i < m
  · simp [h, Nat.mod_lt _ h0]
  · simp [h]
/-- make([]T, c): a new row of noughts -/
theorem JL.make {zv : Value} {sz by' c : Nat} (hu : P.underlying t = some (.slice e)) (hi : EI P e zv sz by') (hz : zv.cells = (List.replicate sz (Value.int .u8 0)).toArray) (h0 : 0 < sz) (hx : ev E x = some (N c)) (hy : ev E y = some (N c)) (hb : by' * c ≤ 281474976710656) (hc : c < 9223372036854775808) (hd : Nat.blt d n = true)
    (k : ∀ b, w0.heap.size ≤ b → JL P n w0 S ops Q l ((d, .slice (some ⟨b, 0, none⟩) c c) :: E) (⟨b, Row e (List.replicate (c * sz) (.int .u8 0)), true⟩ :: M)) : JL P n w0 S ops Q (⟨some d, .makeSlice t x y, ty, pos, aft, none⟩ :: l) E M :=
  ⟨fun a w ha hw => wpList_plain rfl fun K hK => by
    obtain ⟨i, hi1, hi2, hi3, hi4⟩ := hi.get
    have hbb : (i.bytes : Int) * (c : Int) ≤ 281474976710656 := by
      rw [hi4, ← Int.natCast_mul]
      exact Int.ofNat_le.2 hb
    have hrun := run_make (P := P) w t e i zv hu hi1 hi2 .i64 .i64 c c (by omega) (Int.le_refl _) hbb (by omega)
    simp only [Int.toNat_natCast, hi3] at hrun
    rw [made_u8 _ hz h0] at hrun
    unfold Oper.wp
    simp only [execOp, ha.eval hx, ha.eval hy, Sem.run_bind, hrun, Result.andThen_ok]
    exact hK _ _ ((k w.heap.size hw.chg.size).go _ _ (ha.put d _ hd) (hw.push (.cells (List.replicate (c * sz) (Value.int .u8 0)).toArray e (0, 0)) rfl rfl rfl rfl rfl))⟩
end
end Sl
end Go.Proofs.YtchoiikhepjdiaaDoor

/-
  Of no statement by itself: rules for literals of slices whose elements have many cells.
  Conditions: each rule's own hypotheses.
-/
namespace Go.Proofs.YtchoiikhepjdiaaDoor
namespace Sl
section
variable {P : Program} {n : Nat} {w0 : World} {S : List Nat} {ops : Array Oper} {Q : Exit → Act → World → Prop} {l : List Oper} {E : Env} {M : List Ent}
variable {d : Nat} {t e ty : TypeId} {pos : String} {aft : Array Edge} {v z : Value} {x : Operand} {sz by' : Nat} {cs : List Value}
theorem buildA_run {w : World} (hu : P.underlying t = some (.slice e)) (hi : EI P e z sz by') (_hz : z.cells.size = sz) (h0 : 0 < sz) (hsm : sz ≤ 16777216) (hl : cs.length = sz) :
    (Instr.buildSlice t 1 #[(0, .agg cs.toArray)]).run P w = .ok (.slice (some ⟨w.heap.size, 0, none⟩) 1 1) { w with heap := w.heap.push (.cells cs.toArray e (0, 0)) } := by
  have h3 : (underlying t).run P w = .ok (.slice e) w := run_underlying hu w
  obtain ⟨i, h4, h5, _⟩ := hi.get
  obtain ⟨r, h6, h7, h8⟩ := Great.fill_dense h0 [.agg cs.toArray] 0 ((Array.range (1 * sz)).map (z.cells[· % z.cells.size]!)) (by simp [Value.cells, hl]) (by simp)
  have hr : r = cs.toArray := by
    apply Array.ext_getElem?
    intro k
    rw [h8 k]
    by_cases hk : k < sz
    · rw [if_pos (by simp; omega)]
      simp [Nat.div_eq_of_lt hk, Nat.mod_eq_of_lt hk, Value.cells]
    · rw [if_neg (by simp; omega), Array.getElem?_eq_none (by simp; omega), Array.getElem?_eq_none (by simp; omega)]
  subst hr
  have h9 : ¬ (16777216 < 1 * sz) := by omega
  have h10 : ¬ (1 * sz = 0) := by omega
  simp only [List.zipIdx_cons, List.zipIdx_nil, List.map_cons, List.map_nil] at h6
  have h11 : (zeroValue e).run P w = .ok z w := by simp [zeroValue, typeInfo, h4, h5]
  have h12 : ¬ (16777216 < sz) := by omega
  have h13 : ¬ (sz = 0) := by omega
  rw [Nat.one_mul] at h6
  simp [Instr.buildSlice, Sem.run_bind, h3, sizeOf_run hi.sz, h11, h12, h13, h6, newRow, newObj, Sem.run]
theorem JL.litA (hu : P.underlying t = some (.slice e)) (hi : EI P e z sz by') (hz : z.cells.size = sz) (h0 : 0 < sz) (hsm : sz ≤ 16777216) (hx : ev E x = some (.agg cs.toArray)) (hl : cs.length = sz) (hd : Nat.blt d n = true)
    (k : ∀ b, w0.heap.size ≤ b → JL P n w0 S ops Q l ((d, .slice (some ⟨b, 0, none⟩) 1 1) :: E) (⟨b, Row e cs, true⟩ :: M)) : JL P n w0 S ops Q (⟨some d, .buildSlice t 1 #[(0, x)], ty, pos, aft, none⟩ :: l) E M :=
  ⟨fun a w ha hw => wpList_plain rfl fun K hK => by
    unfold Oper.wp
    have hm : (#[(0, x)] : Array (Nat × Operand)).map (fun (i, x) => (i, a.eval x)) = #[(0, .agg cs.toArray)] := by simp [ha.eval hx]
    simp only [execOp, hm, Sem.run_bind, buildA_run hu hi hz h0 hsm hl, Result.andThen_ok]
    exact hK _ _ ((k w.heap.size hw.chg.size).go _ _ (ha.put d _ hd) (hw.push _ rfl rfl rfl rfl rfl))⟩
theorem buildZ_run {w : World} (hu : P.underlying t = some (.slice e)) (hi : EI P e z sz by') : (Instr.buildSlice t 0 #[]).run P w = .ok (.slice (some ⟨w.heap.size, 0, none⟩) 0 0) { w with heap := w.heap.push (.cells ([] : List Value).toArray e (0, 0)) } := by
  have h3 : (underlying t).run P w = .ok (.slice e) w := run_underlying hu w
  have hr : Array.range 0 = #[] := by decide
  simp [Instr.buildSlice, Sem.run_bind, h3, sizeOf_run hi.sz, Instr.fill, newRow, newObj, Sem.run, hr]
theorem JL.litZ (hu : P.underlying t = some (.slice e)) (hi : EI P e z sz by') (hd : Nat.blt d n = true)
    (k : ∀ b, w0.heap.size ≤ b → JL P n w0 S ops Q l ((d, .slice (some ⟨b, 0, none⟩) 0 0) :: E) (⟨b, Own e sz 0 0 [], true⟩ :: M)) : JL P n w0 S ops Q (⟨some d, .buildSlice t 0 #[], ty, pos, aft, none⟩ :: l) E M :=
  ⟨fun a w ha hw => wpList_plain rfl fun K hK => by
    unfold Oper.wp
    have hm : (#[] : Array (Nat × Operand)).map (fun (i, x) => (i, a.eval x)) = #[] := by simp
    simp only [execOp, hm, Sem.run_bind, buildZ_run hu hi, Result.andThen_ok]
    exact hK _ _ ((k w.heap.size hw.chg.size).go _ _ (ha.put d _ hd) (hw.push (.cells ([] : List Value).toArray e (0, 0)) ⟨[], rfl, by simp, by simp, Nat.le_refl _⟩ rfl rfl rfl rfl))⟩
end
end Sl
end Go.Proofs.YtchoiikhepjdiaaDoor

/-
  Of no statement by itself: rules for literals of slices of any length, for cuts with two bounds, for the smaller of two ints, for parts of arrays of arrays, and for equality of arrays of words.
  Conditions: each rule's own hypotheses.
-/
namespace Go.Proofs.YtchoiikhepjdiaaDoor
namespace Sl
section
variable {P : Program} {n : Nat} {w0 : World} {S : List Nat} {ops : Array Oper} {Q : Exit → Act → World → Prop} {l : List Oper} {E : Env} {M : List Ent} {C : World → Prop}
variable {dst : Option Tmp} {d b : Nat} {t t' e ty : TypeId} {pos : String} {aft : Array Edge} {g : Option (Nat × Bool)} {v zv : Value} {x y z : Operand} {by' : Nat}
/-- 'x[lo:hi]' of an array behind its address -/
theorem OQ.slA_lohi {len j lo hi : Nat} (hu : P.underlying t = some (.array len e)) (hz : szT P e = some 1) (hx : ev E x = some (.pointer (some ⟨b, j, none⟩))) (hl : ev E y = some (N lo)) (hh : ev E z = some (N hi)) (h : lo < len) (h2 : lo ≤ hi) (h3 : hi ≤ len) :
    OQ P n E C ⟨dst, .slice t x (some y) (some z) none, ty, pos, aft, g⟩ (.slice (some ⟨b, j + lo, none⟩) (hi - lo) (len - lo)) :=
  OQ.run fun a ha w _ => by
    have h1 := ha.eval hx
    have h4 := ha.eval hl
    have h6 := ha.eval hh
    have h7 : (underlying t).run P w = .ok (.array len e) w := run_underlying hu w
    have h5 : ¬ len = lo := by omega
    simp [execOp, h1, h4, h6, Instr.sliceAt, Sem.run_bind, h7, Instr.sureAddr, Instr.sliceBounds, Instr.sliceBound, asIntOf, h2, h3, sizeOf_run hz, h5, add_off]
/-- 'x[lo:hi]' of a slice -/
theorem OQ.slS_lohi {len cap lo hi sz : Nat} {ad : Option Addr} (hu : P.underlying t = some (.slice e)) (hz : szT P e = some sz) (hx : ev E x = some (.slice ad len cap)) (hl : ev E y = some (N lo)) (hh : ev E z = some (N hi)) (h : lo ≤ hi) (h' : hi ≤ cap) :
    OQ P n E C ⟨dst, .slice t x (some y) (some z) none, ty, pos, aft, g⟩ (.slice (if cap = lo then ad else ad.map (·.add (lo * sz))) (hi - lo) (cap - lo)) :=
  OQ.run fun a ha w _ => by
    have h1 := ha.eval hx
    have h2 := ha.eval hl
    have h4 := ha.eval hh
    have h3 : (underlying t).run P w = .ok (.slice e) w := run_underlying hu w
    simp [execOp, h1, h2, h4, Instr.sliceAt, Sem.run_bind, h3, Instr.slice, Instr.sliceBounds, Instr.sliceBound, asIntOf, h, h', sizeOf_run hz]
theorem OQ.minN {a c : Nat} (hx : ev E x = some (N a)) (hy : ev E y = some (N c)) : OQ P n E C ⟨dst, .call ⟨.builtin .min, #[x, y], #[t, t']⟩, ty, pos, aft, g⟩ (N (min a c)) :=
  OQ.run fun ac ha w _ => by
    have h1 := ha.eval hx
    have h2 := ha.eval hy
    have h3 : (if c < a then (c : Int) else (a : Int)) = ((min a c : Nat) : Int) := by split <;> omega
    simp [execOp, h1, h2, resolve, invoke, builtin, Builtin.min_, Builtin.min2, Sem.run_bind, N, h3]
/-- a part of an array of arrays -/
theorem OQ.indexA {len i sz : Nat} {cs ps : List Value} (hu : P.underlying t = some (.array len e)) (hz : szT P e = some sz) (ha' : aggT P e = true) (hx : ev E x = some (.agg cs.toArray)) (hy : ev E y = some (N i)) (hi : i < len) (hv : (cs.drop (i * sz)).take sz = ps) :
    OQ P n E C ⟨dst, .index t x y, ty, pos, aft, g⟩ (.agg ps.toArray) :=
  OQ.run fun a ha w _ => by
    have h1 := ha.eval hx
    have h2 := ha.eval hy
    have h3 : (underlying t).run P w = .ok (.array len e) w := run_underlying hu w
    simp [execOp, h1, h2, Instr.index, asIntOf, Sem.run_bind, h3, hi, sizeOf_run hz, part, isAgg_agg ha', hv]
theorem OQ.convN_32 {td : TypeDesc} {a : Nat} (hs : P.underlying t = some td) (hd : P.underlying t' = some (.int .u32)) (hx : ev E x = some (N a)) : OQ P n E C ⟨dst, .convert t t' x, ty, pos, aft, g⟩ (U32 (BitVec.ofNat 32 a)) :=
  OQ.conv hs hd hx (by rw [wrap32]; simp [U32])

/-! ### a guard whose own operation was skipped -/
theorem yielded_undef {j s : Nat} (h : (ops[j]?).bind (·.dst) = some s) (hl : lk E s = some undef) (hs : Nat.blt s n = true) {a : Act} (ha : Knows n E a) : yielded ops a.tmps j = none := by
  have hlt : s < n := by simpa using hs
  have h1 := ha.all s undef hl
  have h2 : a.tmps[s]? = some undef := by
    have : s < a.tmps.size := by rw [ha.size]; exact hlt
    rw [Array.getElem?_eq_getElem this]
    simpa [Array.getD, this] using h1
  simp [yielded, h, h2, undef]
theorem JL.gskipU {j s : Nat} {want : Bool} {op : Op} (h : (ops[j]?).bind (·.dst) = some s) (hl : lk E s = some undef) (hs : Nat.blt s n = true) (hd : Nat.blt d n = true) (k : JL P n w0 S ops Q l ((d, undef) :: E) M) :
    JL P n w0 S ops Q (⟨some d, op, ty, pos, aft, some (j, want)⟩ :: l) E M :=
  ⟨fun a w ha hw => wpList_skip (by simp [Region.wanted, yielded_undef h hl hs ha]) (k.go _ _ (ha.put d undef hd) hw)⟩
theorem JQ.gskipU {j s : Nat} {want : Bool} {op : Op} {Φ : Act → Prop} (h : (ops[j]?).bind (·.dst) = some s) (hl : lk E s = some undef) (hs : Nat.blt s n = true) (hd : Nat.blt d n = true) (k : JQ P n w0 S ops M Φ l ((d, undef) :: E)) :
    JQ P n w0 S ops M Φ (⟨some d, op, ty, pos, aft, some (j, want)⟩ :: l) E :=
  ⟨fun a ha => wpQuiet_step fun _ hK => by
    have hw : Region.wanted ⟨some d, op, ty, pos, aft, some (j, want)⟩ (yielded ops a.tmps) = false := by simp [Region.wanted, yielded_undef h hl hs ha]
    rw [hw]
    simp only [Bool.false_eq_true, if_false]
    exact hK _ (k.go _ (ha.put d undef hd))⟩

/-! ### literals of slices of one-cell elements -/
def pairs : Nat → List Operand → List (Nat × Operand)
  | _, [] => []
  | i, x :: xs => (i, x) :: pairs (i + 1) xs
theorem pairs_map {a : Act} (hk : Knows n E a) : ∀ {xs : List Operand} {vs : List Value} (i : Nat), evs E xs = some vs → (pairs i xs).map (fun p => (p.1, a.eval p.2)) = (vs.zipIdx i).map fun x => (x.2, x.1)
  | [], vs, i, h => by
    simp only [evs, Option.some.injEq] at h
    subst h
    rfl
  | x :: xs, vs, i, h => by
    simp only [evs] at h
    cases h1 : ev E x with
    | none => simp [h1] at h
    | some v =>
      cases h2 : evs E xs with
      | none => simp [h1, h2] at h
      | some us =>
        simp only [h1, h2, Option.some.injEq] at h
        subst h
        simp [pairs, hk.eval h1, pairs_map hk (i + 1) h2]
theorem buildL_run {w : World} {vs : List Value} {m : Nat} (hu : P.underlying t = some (.slice e)) (hi : EI P e zv 1 by') (hz : zv.cells.size = 1) (h1 : ∀ v ∈ vs, v.cells = #[v]) (hm : vs.length = m) (h0 : 0 < m) (hsm : m ≤ 16777216) :
    (Instr.buildSlice t m ((vs.zipIdx 0).map fun x => (x.2, x.1)).toArray).run P w = .ok (.slice (some ⟨w.heap.size, 0, none⟩) m m) { w with heap := w.heap.push (.cells vs.toArray e (0, 0)) } := by
  have h3 : (underlying t).run P w = .ok (.slice e) w := run_underlying hu w
  obtain ⟨i, h4, h5, _⟩ := hi.get
  have h6 := Great.fill_flat vs ((Array.range (m * 1)).map (zv.cells[· % zv.cells.size]!)) h1 (by simp [hm])
  have h9 : ¬ (16777216 < m) := by omega
  have h10 : ¬ (m = 0) := by omega
  have h11 : (zeroValue e).run P w = .ok zv w := by simp [zeroValue, typeInfo, h4, h5]
  simp only [Nat.mul_one] at h6
  simp [Instr.buildSlice, Sem.run_bind, h3, sizeOf_run hi.sz, h9, h10, h11, h6, newRow, newObj, Sem.run]
theorem JL.litL {xs : List Operand} {ps : Array (Nat × Operand)} {vs : List Value} {m : Nat} (hu : P.underlying t = some (.slice e)) (hi : EI P e zv 1 by') (hz : zv.cells.size = 1) (hps : ps = (pairs 0 xs).toArray) (hx : evs E xs = some vs) (h1 : vs.all (fun v => v.oneCell') = true) (h2 : ∀ v ∈ vs, v.cells = #[v]) (hm : vs.length = m) (h0 : 0 < m) (hsm : m ≤ 16777216) (hd : Nat.blt d n = true)
    (k : ∀ b, w0.heap.size ≤ b → JL P n w0 S ops Q l ((d, .slice (some ⟨b, 0, none⟩) m m) :: E) (⟨b, Row e vs, true⟩ :: M)) : JL P n w0 S ops Q (⟨some d, .buildSlice t m ps, ty, pos, aft, none⟩ :: l) E M :=
  ⟨fun a w ha hw => wpList_plain rfl fun K hK => by
    unfold Oper.wp
    have hm' : ps.map (fun (i, x) => (i, a.eval x)) = ((vs.zipIdx 0).map fun x => (x.2, x.1)).toArray := by
      rw [hps, List.map_toArray, ← pairs_map ha 0 hx]
    simp only [execOp, hm', Sem.run_bind, buildL_run hu hi hz h2 hm h0 hsm, Result.andThen_ok]
    exact hK _ _ ((k w.heap.size hw.chg.size).go _ _ (ha.put d _ hd) (hw.push _ rfl rfl rfl rfl rfl))⟩

/-! ### equality of arrays of words -/
theorem all_range_eqW : ∀ (xs ys : List (BitVec 32)), xs.length = ys.length → ((List.range xs.length).all fun i => xs.getD i 0 == ys.getD i 0) = (xs == ys)
  | [], [], _ => rfl
  | x :: xs, y :: ys, h => by
    have ih := all_range_eqW xs ys (by simpa using h)
    rw [List.length_cons, List.range_succ_eq_map, List.all_cons, List.all_map]
    simp only [List.getD_cons_zero, Function.comp_def, List.getD_cons_succ, ih]
    simp [List.cons_beq_cons]
  | [], _ :: _, h => by simp at h
  | _ :: _, [], h => by simp at h
theorem run_equalIn_words (w : World) (dd : Nat) {m : Nat} (ht : P.underlying t = some (.array m e)) (he : P.underlying e = some (.int .u32)) (hsz : ∀ w, (sizeOf e).run P w = .ok 1 w)
    (xs ys : List (BitVec 32)) (hx : xs.length = m) (hy : ys.length = m) :
    (Op.equalIn (dd + 2) t (.agg (xs.map U32).toArray) (.agg (ys.map U32).toArray)).run P w = .ok (xs == ys) w := by
  rw [← all_range_eqW xs ys (hx.trans hy.symm), hx, List.range_eq_range', Op.equalIn]
  simp only [Sem.run_bind, run_underlying ht, Result.andThen_ok, hsz, Std.Legacy.Range.forIn_eq_forIn_range', Std.Legacy.Range.size, Nat.sub_zero, Nat.add_sub_cancel, Nat.div_one]
  have hl : ∀ i ∈ List.range' 0 m 1, i < m := fun i hi => by simpa using (List.mem_range'_1.1 hi).2
  generalize List.range' 0 m 1 = l at hl ⊢
  induction l with
  | nil => simp
  | cons i l ih =>
    have hi : i < m := hl i (by simp)
    have px : (part e (xs.map U32).toArray (i * 1)).run P w = .ok (U32 (xs.getD i 0)) w := by
      simp [part, isAgg, run_underlying he, List.getD, List.getElem?_eq_getElem (show i < xs.length by omega)]
    have py : (part e (ys.map U32).toArray (i * 1)).run P w = .ok (U32 (ys.getD i 0)) w := by
      simp [part, isAgg, run_underlying he, List.getD, List.getElem?_eq_getElem (show i < ys.length by omega)]
    have pe : (Op.equalIn (dd + 1) e (U32 (xs.getD i 0)) (U32 (ys.getD i 0))).run P w = .ok (xs.getD i 0 == ys.getD i 0) w := by
      rw [U32, U32, run_equalIn_int w dd e .u32 .u32 _ _ he]
      congr 1
      rw [Bool.eq_iff_iff]
      simp only [beq_iff_eq]
      exact ⟨fun h => BitVec.eq_of_toNat_eq (by omega), fun h => by rw [h]⟩
    simp only [List.forIn_cons, Sem.run_bind, px, py, pe, Result.andThen_ok, List.all_cons]
    cases hb : (xs.getD i 0 == ys.getD i 0)
    · simp
    · simp only [Bool.not_true, Bool.false_eq_true, if_false, Sem.run_pure, Result.andThen_ok, Bool.true_and]
      exact ih fun j hj => hl j (by simp [hj])
theorem eq_listW (r q : List (BitVec 32)) : (r == q) = decide (r = q) := by
  rw [Bool.eq_iff_iff]; simp
theorem OQ.eqW {m : Nat} {r q : List (BitVec 32)} (hu : P.underlying t = some (.array m e)) (he : P.underlying e = some (.int .u32)) (hz : szT P e = some 1) (hgd : P.eqGuardType P.depth t = false) (hx : ev E x = some (.agg (r.map U32).toArray)) (hy : ev E y = some (.agg (q.map U32).toArray)) (hr : r.length = m) (hq : q.length = m) :
    OQ P n E C ⟨dst, .binOp .eql t x y t', ty, pos, aft, g⟩ (.bool (decide (r = q))) :=
  OQ.run fun a ha w _ => by
    have h1 := ha.eval hx
    have h2 := ha.eval hy
    have h3 := fun w => run_equalIn_words (P := P) w 9998 hu he (fun w => sizeOf_run hz w) r q hr hq
    rw [eq_listW] at h3
    have h4 := fun w => run_eqGuard_agg (P := P) (w := w) .eql t x y (r.map U32).toArray (q.map U32).toArray hgd
    have h5 := fun w => run_eql_struct (P := P) (w := w) t (r.map U32).toArray (q.map U32).toArray
    simp only [execOp, h1, h2, Sem.run_bind, h4, Result.andThen_ok, h5, h3]
    rfl
theorem OQ.eqW_t {m : Nat} {r q : List (BitVec 32)} (hu : P.underlying t = some (.array m e)) (he : P.underlying e = some (.int .u32)) (hz : szT P e = some 1) (hgd : P.eqGuardType P.depth t = false) (hx : ev E x = some (.agg (r.map U32).toArray)) (hy : ev E y = some (.agg (q.map U32).toArray)) (hr : r.length = m) (hq : q.length = m) (h : r = q) :
    OQ P n E C ⟨dst, .binOp .eql t x y t', ty, pos, aft, g⟩ (.bool true) := (decide_eq_true h : decide (r = q) = true) ▸ OQ.eqW hu he hz hgd hx hy hr hq
end
end Sl
end Go.Proofs.YtchoiikhepjdiaaDoor

/-
  Of no statement by itself: more rules for bytes, and for made slices that are empty and have room.
  Conditions: each rule's own hypotheses.
-/
namespace Go.Proofs.YtchoiikhepjdiaaDoor
namespace Sl
section
variable {P : Program} {n : Nat} {w0 : World} {S : List Nat} {ops : Array Oper} {Q : Exit → Act → World → Prop} {l : List Oper} {E : Env} {M : List Ent} {C : World → Prop}
variable {dst : Option Tmp} {d b : Nat} {t t' e ty : TypeId} {pos : String} {aft : Array Edge} {g : Option (Nat × Bool)} {v zv : Value} {x y z : Operand} {by' : Nat}
theorem OQ.or8 {a b : BitVec 8} (hx : ev E x = some (U8 a)) (hy : ev E y = some (U8 b)) : OQ P n E C ⟨dst, .binOp .or t x y t', ty, pos, aft, g⟩ (U8 (a ||| b)) :=
  OQ.bin hx hy rfl fun _ => okInt (k := .u8) (show IntKind.u8.wrap ((BitVec.ofInt 8 (a.toNat : Int) ||| BitVec.ofInt 8 (b.toNat : Int)).toNat : Int) = _ by rw [ofIntNat, ofIntNat, wrapb8])
theorem OQ.eq8 {a b : BitVec 8} (hx : ev E x = some (U8 a)) (hy : ev E y = some (U8 b)) : OQ P n E C ⟨dst, .binOp .eql t x y t', ty, pos, aft, g⟩ (.bool (decide (a = b))) := by
  have := OQ.eqi (P := P) (n := n) (C := C) (dst := dst) (ty := ty) (t := t) (t' := t') (pos := pos) (aft := aft) (g := g) hx hy
  have h : decide ((a.toNat : Int) = b.toNat) = decide (a = b) := decide_eq_decide.2 ⟨fun h => BitVec.eq_of_toNat_eq (by omega), fun h => by rw [h]⟩
  rwa [h] at this
theorem OQ.shl8 {a : BitVec 8} {yk : IntKind} {k : Nat} (hx : ev E x = some (U8 a)) (hy : ev E y = some (.int yk k)) : OQ P n E C ⟨dst, .binOp .shl t x y t', ty, pos, aft, g⟩ (U8 (a <<< k)) :=
  OQ.bin hx hy rfl fun w => by
    have h1 : IntKind.u8.wrap ((a.toNat : Int) * 2 ^ (min k 8)) = ((a <<< k).toNat : Int) := by
      rw [show ((a.toNat : Int) * 2 ^ (min k 8)) = ((a.toNat * 2 ^ (min k 8) : Nat) : Int) by simp, wrap8, BitVec.toNat_shiftLeft, Nat.shiftLeft_eq]
      by_cases hk : k ≤ 8
      · rw [Nat.min_eq_left hk]
      · rw [Nat.min_eq_right (by omega)]
        congr 1
        rw [show k = 8 + (k - 8) by omega, Nat.pow_add, Nat.mul_mod_left, Nat.mul_left_comm, Nat.mul_mod_right]
    have h7 : Op.shift .shl .u8 (a.toNat : Int) yk (k : Int) = (Pure.pure (.int .u8 (IntKind.u8.wrap ((a.toNat : Int) * 2 ^ (min k 8)))) : Sem Value) := by
      unfold Op.shift
      rw [if_neg (by omega)]; rfl
    show Sem.run P (Op.shift .shl .u8 (a.toNat : Int) yk (k : Int)) w = _
    rw [h7, h1]; rfl
/-- make([]byte, 0, c) -/
theorem JL.make0 {c : Nat} (hu : P.underlying t = some (.slice e)) (hi : EI P e (.int .u8 0) 1 1) (hx : ev E x = some (N 0)) (hy : ev E y = some (N c)) (hb : c ≤ 281474976710656) (hd : Nat.blt d n = true)
    (k : ∀ b, w0.heap.size ≤ b → JL P n w0 S ops Q l ((d, .slice (some ⟨b, 0, none⟩) 0 c) :: E) (⟨b, Own e 1 0 c [], true⟩ :: M)) : JL P n w0 S ops Q (⟨some d, .makeSlice t x y, ty, pos, aft, none⟩ :: l) E M :=
  ⟨fun a w ha hw => wpList_plain rfl fun K hK => by
    obtain ⟨i, hi1, hi2, hi3, hi4⟩ := hi.get
    have hbb : (i.bytes : Int) * (c : Int) ≤ 281474976710656 := by
      rw [hi4, ← Int.natCast_mul, Nat.one_mul]
      exact Int.ofNat_le.2 hb
    have hrun := run_make (P := P) w t e i _ hu hi1 hi2 .i64 .i64 0 c (by omega) (by omega) hbb (by omega)
    have hz : (Value.int .u8 0).cells = (List.replicate 1 (Value.int .u8 0)).toArray := rfl
    simp only [Int.toNat_natCast, hi3, Int.toNat_zero] at hrun
    rw [made_u8 _ hz (by decide)] at hrun
    have h0 : (N 0 : Value) = .int .i64 0 := rfl
    unfold Oper.wp
    simp only [execOp, ha.eval hx, ha.eval hy, Sem.run_bind, h0, hrun, Result.andThen_ok]
    exact hK _ _ ((k w.heap.size hw.chg.size).go _ _ (ha.put d _ hd) (hw.push (.cells (List.replicate (c * 1) (Value.int .u8 0)).toArray e (0, 0)) ⟨List.replicate (c * 1) (.int .u8 0), rfl, by simp, rfl, Nat.zero_le _⟩ rfl rfl rfl rfl))⟩
end
end Sl
end Go.Proofs.YtchoiikhepjdiaaDoor

/-
  Of no statement by itself: rules for int and int64 as whole numbers below and above nought, over X's partial knowledge of frame and memory, for any program P.
  Conditions: each rule's own hypotheses.
-/
namespace Go.Proofs.YtchoiikhepjdiaaDoor
namespace Sl
@[reducible] def I (a : Int) : Value := .int .i64 a
theorem I_cell (l : List Int) : (l.map I).all Value.oneCell' = true := by simp [Value.oneCell']
section
variable {P : Program} {n : Nat} {E : Env} {C : World → Prop} {dst : Option Tmp} {ty t t' : TypeId} {pos : String} {aft : Array Edge} {g : Option (Nat × Bool)} {x y : Operand}
theorem OQ.addI {a b : Int} (hx : ev E x = some (I a)) (hy : ev E y = some (I b)) (h0 : -9223372036854775808 ≤ a + b) (h : a + b < 9223372036854775808) : OQ P n E C ⟨dst, .binOp .add t x y t', ty, pos, aft, g⟩ (I (a + b)) :=
  OQ.bin hx hy rfl fun _ => okInt (k := .i64) (show IntKind.i64.wrap (a + b) = a + b from wrapN h0 h)
theorem OQ.mulI {a b : Int} (hx : ev E x = some (I a)) (hy : ev E y = some (I b)) (h0 : -9223372036854775808 ≤ a * b) (h : a * b < 9223372036854775808) : OQ P n E C ⟨dst, .binOp .mul t x y t', ty, pos, aft, g⟩ (I (a * b)) :=
  OQ.bin hx hy rfl fun _ => okInt (k := .i64) (show IntKind.i64.wrap (a * b) = a * b from wrapN h0 h)
theorem OQ.shrI {a m : Int} {yk : IntKind} {k : Nat} (hm : (2 : Int) ^ k = m) (hk : k ≤ 64) (hx : ev E x = some (I a)) (hy : ev E y = some (.int yk k)) : OQ P n E C ⟨dst, .binOp .shr t x y t', ty, pos, aft, g⟩ (I (a / m)) :=
  OQ.bin hx hy rfl fun w => by
    have h1 : a.fdiv (2 ^ (min k 64)) = a / m := by
      rw [Int.fdiv_eq_ediv_of_nonneg _ (by exact Int.le_of_lt (Int.pow_pos (by decide))), Nat.min_eq_left hk, hm]
    have h7 : Op.shift .shr .i64 a yk (k : Int) = (Pure.pure (.int .i64 (a.fdiv (2 ^ (min k 64)))) : Sem Value) := by
      unfold Op.shift
      rw [if_neg (by omega)]; rfl
    show Sem.run P (Op.shift .shr .i64 a yk (k : Int)) w = _
    rw [h7, h1]; rfl
theorem OQ.shlI {a m : Int} {yk : IntKind} {k : Nat} (hm : (2 : Int) ^ k = m) (hk : k ≤ 64) (hx : ev E x = some (I a)) (hy : ev E y = some (.int yk k)) (h0 : -9223372036854775808 ≤ a * m) (h : a * m < 9223372036854775808) : OQ P n E C ⟨dst, .binOp .shl t x y t', ty, pos, aft, g⟩ (I (a * m)) :=
  OQ.bin hx hy rfl fun w => by
    have h1 : IntKind.i64.wrap (a * 2 ^ (min k 64)) = a * m := by
      rw [Nat.min_eq_left hk, hm, wrapN h0 h]
    have h7 : Op.shift .shl .i64 a yk (k : Int) = (Pure.pure (.int .i64 (IntKind.i64.wrap (a * 2 ^ (min k 64)))) : Sem Value) := by
      unfold Op.shift
      rw [if_neg (by omega)]; rfl
    show Sem.run P (Op.shift .shl .i64 a yk (k : Int)) w = _
    rw [h7, h1]; rfl
theorem OQ.andI {a m r : Int} (k : Nat) (hk : k < 63) (hm : (2 : Int) ^ k - 1 = m) (hr : (2 : Int) ^ k = r) (hx : ev E x = some (I a)) (hy : ev E y = some (I m)) : OQ P n E C ⟨dst, .binOp .and t x y t', ty, pos, aft, g⟩ (I (a % r)) :=
  OQ.bin hx hy rfl fun _ => okInt (k := .i64) (show IntKind.i64.wrap ((BitVec.ofInt 64 a &&& BitVec.ofInt 64 m).toNat : Int) = a % r from by
    have p1 : 2 ^ k < 2 ^ 63 := Nat.pow_lt_pow_right (by omega) hk
    have p0 : 0 < 2 ^ k := Nat.pow_pos (by omega)
    have e0 : m = ((2 ^ k - 1 : Nat) : Int) := by
      rw [← hm, Int.natCast_sub p0]
      simp
    have e1 : BitVec.ofInt 64 m = BitVec.ofNat 64 (2 ^ k - 1) := by rw [e0]; simp only [BitVec.ofInt_natCast]
    have e2 : ((BitVec.ofInt 64 a &&& BitVec.ofNat 64 (2 ^ k - 1)).toNat : Int) = a % r := by
      rw [BitVec.toNat_and, BitVec.toNat_ofNat, Nat.mod_eq_of_lt (by omega), Nat.and_two_pow_sub_one_eq_mod, BitVec.toNat_ofInt, ← hr]
      have q : (0 : Int) ≤ a % (2 ^ 64 : Nat) := Int.emod_nonneg _ (by decide)
      rw [Int.natCast_emod, Int.toNat_of_nonneg q, Int.natCast_pow]
      exact Int.emod_emod_of_dvd a (by
        obtain ⟨j, hj⟩ : ∃ j, 64 = k + j := ⟨64 - k, by omega⟩
        rw [Int.natCast_pow, hj, Int.pow_add]
        exact Int.dvd_mul_right _ _)
    rw [e1, e2]
    have q0 : 0 ≤ a % r := Int.emod_nonneg _ (by rw [← hr]; have := Int.pow_pos (n := 2) (m := k) (by decide); omega)
    have q1 : a % r < r := Int.emod_lt_of_pos _ (by rw [← hr]; exact Int.pow_pos (by decide))
    have q2 : r = ((2 ^ k : Nat) : Int) := by rw [← hr]; simp
    exact wrapN (by omega) (by omega))
theorem OQ.convI_8 {d : TypeDesc} {a : Int} (hs : P.underlying t = some d) (hd : P.underlying t' = some (.int .u8)) (hx : ev E x = some (I a)) : OQ P n E C ⟨dst, .convert t t' x, ty, pos, aft, g⟩ (U8 (BitVec.ofInt 8 a)) :=
  OQ.conv hs hd hx (by
    have e : IntKind.u8.wrap a = ((BitVec.ofInt 8 a).toNat : Int) := by
      rw [BitVec.toNat_ofInt, Int.toNat_of_nonneg (Int.emod_nonneg _ (by decide))]
      rfl
    rw [e])
theorem OQ.conv8_N {d : TypeDesc} {a : BitVec 8} (hs : P.underlying t = some d) (hd : P.underlying t' = some (.int .i64)) (hx : ev E x = some (U8 a)) : OQ P n E C ⟨dst, .convert t t' x, ty, pos, aft, g⟩ (N a.toNat) :=
  OQ.conv hs hd hx (by rw [wrapN (by omega) (by have := a.isLt; omega)])
theorem OQ.and8 {a b : BitVec 8} (hx : ev E x = some (U8 a)) (hy : ev E y = some (U8 b)) : OQ P n E C ⟨dst, .binOp .and t x y t', ty, pos, aft, g⟩ (U8 (a &&& b)) :=
  OQ.bin hx hy rfl fun _ => okInt (k := .u8) (show IntKind.u8.wrap ((BitVec.ofInt 8 (a.toNat : Int) &&& BitVec.ofInt 8 (b.toNat : Int)).toNat : Int) = _ by rw [ofIntNat, ofIntNat, wrapb8])
theorem OQ.add8 {a b : BitVec 8} (hx : ev E x = some (U8 a)) (hy : ev E y = some (U8 b)) : OQ P n E C ⟨dst, .binOp .add t x y t', ty, pos, aft, g⟩ (U8 (a + b)) :=
  OQ.bin hx hy rfl fun _ => okInt (k := .u8) (show IntKind.u8.wrap ((a.toNat : Int) + b.toNat) = _ by rw [← Int.natCast_add, wrap8, BitVec.toNat_add])
theorem OQ.mul8 {a b : BitVec 8} (hx : ev E x = some (U8 a)) (hy : ev E y = some (U8 b)) : OQ P n E C ⟨dst, .binOp .mul t x y t', ty, pos, aft, g⟩ (U8 (a * b)) :=
  OQ.bin hx hy rfl fun _ => okInt (k := .u8) (show IntKind.u8.wrap ((a.toNat : Int) * b.toNat) = _ by rw [← Int.natCast_mul, wrap8, BitVec.toNat_mul])
theorem OQ.quo8 {a b : BitVec 8} (hx : ev E x = some (U8 a)) (hy : ev E y = some (U8 b)) (h : 0 < b.toNat) : OQ P n E C ⟨dst, .binOp .quo t x y t', ty, pos, aft, g⟩ (U8 (a / b)) :=
  OQ.bin hx hy rfl fun w => by
    have h4 : ((a.toNat : Int).tdiv b.toNat) = ((a.toNat / b.toNat : Nat) : Int) := by rw [Int.tdiv_eq_ediv_of_nonneg (by omega)]; exact_mod_cast rfl
    have h5 : ¬ (b.toNat : Int) = 0 := by omega
    have h6 : IntKind.u8.wrap ((a.toNat : Int).tdiv b.toNat) = ((a / b).toNat : Int) := by
      rw [h4, wrap8, BitVec.toNat_udiv, Nat.mod_eq_of_lt (Nat.lt_of_le_of_lt (Nat.div_le_self _ _) a.isLt)]
    have h7 : Op.intDiv .quo .u8 (a.toNat : Int) b.toNat = (Pure.pure (.int .u8 (IntKind.u8.wrap ((a.toNat : Int).tdiv b.toNat))) : Sem Value) := by simp only [Op.intDiv, if_neg h5]
    show Sem.run P (Op.intDiv .quo .u8 (a.toNat : Int) b.toNat) w = _
    rw [h7, h6]; rfl
theorem OQ.rem8 {a b : BitVec 8} (hx : ev E x = some (U8 a)) (hy : ev E y = some (U8 b)) (h : 0 < b.toNat) : OQ P n E C ⟨dst, .binOp .rem t x y t', ty, pos, aft, g⟩ (U8 (a % b)) :=
  OQ.bin hx hy rfl fun w => by
    have h4 : ((a.toNat : Int).tmod b.toNat) = ((a % b).toNat : Int) := by rw [Int.tmod_eq_emod_of_nonneg (by omega), BitVec.toNat_umod]; exact_mod_cast rfl
    have h5 : ¬ (b.toNat : Int) = 0 := by omega
    have h7 : Op.intDiv .rem .u8 (a.toNat : Int) b.toNat = (Pure.pure (.int .u8 ((a.toNat : Int).tmod b.toNat)) : Sem Value) := by simp only [Op.intDiv, if_neg h5]
    show Sem.run P (Op.intDiv .rem .u8 (a.toNat : Int) b.toNat) w = _
    rw [h7, h4]; rfl
theorem OQ.shr8 {a : BitVec 8} {yk : IntKind} {k : Nat} (hx : ev E x = some (U8 a)) (hy : ev E y = some (.int yk k)) : OQ P n E C ⟨dst, .binOp .shr t x y t', ty, pos, aft, g⟩ (U8 (a >>> k)) :=
  OQ.bin hx hy rfl fun w => by
    have h1 : (a.toNat : Int).fdiv (2 ^ (min k 8)) = ((a >>> k).toNat : Int) := by
      rw [Int.fdiv_eq_ediv_of_nonneg _ (by exact Int.le_of_lt (Int.pow_pos (by decide))), BitVec.toNat_ushiftRight, Nat.shiftRight_eq_div_pow]
      by_cases hk : k ≤ 8
      · rw [Nat.min_eq_left hk]; simp
      · rw [Nat.min_eq_right (by omega)]
        have := a.isLt
        rw [Nat.div_eq_of_lt (Nat.lt_of_lt_of_le this (Nat.pow_le_pow_right (by omega) (by omega)))]
        exact Int.ediv_eq_zero_of_lt (by omega) (by exact_mod_cast this)
    have h7 : Op.shift .shr .u8 (a.toNat : Int) yk (k : Int) = (Pure.pure (.int .u8 ((a.toNat : Int).fdiv (2 ^ (min k 8)))) : Sem Value) := by
      unfold Op.shift
      rw [if_neg (by omega)]; rfl
    show Sem.run P (Op.shift .shr .u8 (a.toNat : Int) yk (k : Int)) w = _
    rw [h7, h1]; rfl
end
end Sl
end Go.Proofs.YtchoiikhepjdiaaDoor

/-
  Of no statement by itself: rules for words of 64 bits (or, exclusive or, shift, difference round 2^64, negation, conversion of a byte), for fields of no offset, and for a call of math/bits.Add64 (the model stands in for it), over X's partial knowledge of frame and memory, for any program P.
  Conditions: each rule's own hypotheses.
-/
namespace Go.Proofs.YtchoiikhepjdiaaDoor
namespace Sl
section
variable {P : Program} {n : Nat} {E : Env} {C : World → Prop} {dst : Option Tmp} {ty t t' : TypeId} {pos : String} {aft : Array Edge} {g : Option (Nat × Bool)} {x y z : Operand}
theorem OQ.or64 {a b : BitVec 64} (hx : ev E x = some (U64 a)) (hy : ev E y = some (U64 b)) : OQ P n E C ⟨dst, .binOp .or t x y t', ty, pos, aft, g⟩ (U64 (a ||| b)) :=
  OQ.bin hx hy rfl fun _ => okInt (k := .u64) (show IntKind.u64.wrap ((BitVec.ofInt 64 (a.toNat : Int) ||| BitVec.ofInt 64 (b.toNat : Int)).toNat : Int) = _ by rw [ofIntNat, ofIntNat, wrapb64])
theorem OQ.xor64 {a b : BitVec 64} (hx : ev E x = some (U64 a)) (hy : ev E y = some (U64 b)) : OQ P n E C ⟨dst, .binOp .xor t x y t', ty, pos, aft, g⟩ (U64 (a ^^^ b)) :=
  OQ.bin hx hy rfl fun _ => okInt (k := .u64) (show IntKind.u64.wrap ((BitVec.ofInt 64 (a.toNat : Int) ^^^ BitVec.ofInt 64 (b.toNat : Int)).toNat : Int) = _ by rw [ofIntNat, ofIntNat, wrapb64])
theorem wrap64I (i : Int) : IntKind.u64.wrap i = i % 18446744073709551616 := by simp [IntKind.wrap, IntKind.bits, IntKind.signed]
theorem OQ.sub64w {a b : BitVec 64} (hx : ev E x = some (U64 a)) (hy : ev E y = some (U64 b)) : OQ P n E C ⟨dst, .binOp .sub t x y t', ty, pos, aft, g⟩ (U64 (a - b)) :=
  OQ.bin hx hy rfl fun _ => okInt (k := .u64) (show IntKind.u64.wrap ((a.toNat : Int) - b.toNat) = ((a - b).toNat : Int) by
    rw [BitVec.toNat_sub, wrap64I]
    have := a.isLt
    have := b.isLt
    omega)
theorem OQ.neg64 {a : BitVec 64} (hx : ev E x = some (U64 a)) : OQ P n E C ⟨dst, .unOp .neg t x, ty, pos, aft, g⟩ (U64 (-a)) :=
  OQ.run fun c ha w _ => by
    have h1 := ha.eval hx
    have h3 : IntKind.u64.wrap ((0 : Int) - (a.toNat : Int)) = ((-a).toNat : Int) := by
      rw [BitVec.toNat_neg, wrap64I]
      have := a.isLt
      omega
    simp only [execOp, h1]
    exact congrArg (fun z : Int => (Result.ok (Next.value (Value.int .u64 z)) w : Result Next)) h3
theorem OQ.shl64 {a : BitVec 64} {yk : IntKind} {k : Nat} (hx : ev E x = some (U64 a)) (hy : ev E y = some (.int yk k)) : OQ P n E C ⟨dst, .binOp .shl t x y t', ty, pos, aft, g⟩ (U64 (a <<< k)) :=
  OQ.bin hx hy rfl fun w => by
    have h1 : IntKind.u64.wrap ((a.toNat : Int) * 2 ^ (min k 64)) = ((a <<< k).toNat : Int) := by
      rw [show ((a.toNat : Int) * 2 ^ (min k 64)) = ((a.toNat * 2 ^ (min k 64) : Nat) : Int) by simp, wrap64, BitVec.toNat_shiftLeft, Nat.shiftLeft_eq]
      by_cases hk : k ≤ 64
      · rw [Nat.min_eq_left hk]
      · rw [Nat.min_eq_right (by omega)]
        congr 1
        rw [show k = 64 + (k - 64) by omega, Nat.pow_add, Nat.mul_mod_left, Nat.mul_left_comm, Nat.mul_mod_right]
    have h7 : Op.shift .shl .u64 (a.toNat : Int) yk (k : Int) = (Pure.pure (.int .u64 (IntKind.u64.wrap ((a.toNat : Int) * 2 ^ (min k 64)))) : Sem Value) := by
      unfold Op.shift
      rw [if_neg (by omega)]; rfl
    show Sem.run P (Op.shift .shl .u64 (a.toNat : Int) yk (k : Int)) w = _
    rw [h7, h1]; rfl
theorem OQ.conv8_64 {d : TypeDesc} {a : BitVec 8} (hs : P.underlying t = some d) (hd : P.underlying t' = some (.int .u64)) (hx : ev E x = some (U8 a)) : OQ P n E C ⟨dst, .convert t t' x, ty, pos, aft, g⟩ (U64 (a.setWidth 64)) :=
  OQ.conv hs hd hx (by rw [wrap64]; simp [U64])
theorem OQ.fldx {s f o : Nat} {fs : Array Field} {fd : Field} {b j sz : Nat} (hu : P.underlying s = some (.struct fs)) (hf : fs[f]? = some fd) (hz : szT P fd.type = some sz) (h0 : sz ≠ 0) (hx : ev E x = some (.pointer (some ⟨b, j, none⟩))) (ho : j + fd.offset = o) :
    OQ P n E C ⟨dst, .fieldAddr s x f, ty, pos, aft, g⟩ (.pointer (some ⟨b, o, none⟩)) := ho ▸ OQ.fld hu hf hz h0 hx
/-- a call of math/bits.Add64 -/
structure IsAdd (P : Program) (f : FuncId) : Prop where
  go : ∃ fn, P.funcs[f]? = some fn ∧ (fn.name == "runtime.NumGoroutine") = false ∧ fn.body.isNone = true ∧ Extern.findNext fn = none ∧ Extern.find fn = some add64Entry
theorem OQ.add64c {f : FuncId} {ats : Array TypeId} {a b c s o : BitVec 64} (hf : IsAdd P f) (hx : ev E x = some (U64 a)) (hy : ev E y = some (U64 b)) (hz : ev E z = some (U64 c)) (hc : c.toNat ≤ 1)
    (hs : s.toNat = (a.toNat + b.toNat + c.toNat) % 18446744073709551616) (ho : o.toNat = (a.toNat + b.toNat + c.toNat) / 18446744073709551616) :
    OQ P n E C ⟨dst, .call ⟨.value (.func f), #[x, y, z], ats⟩, ty, pos, aft, g⟩ (.tuple #[U64 s, U64 o]) := by
  refine ⟨fun ac hk w hw => ?_⟩
  obtain ⟨fn, h1, h2, h3, h4, h5⟩ := hf.go
  have r := run_callFunc_extern h1 h2 h3 h4 h5 #[U64 a, U64 b, U64 c] w
  rw [run_add64 (P := P) (a.toNat : Int) (b.toNat : Int) (c.toNat : Int) (by omega) (by omega) (by omega) (by omega) w] at r
  have e1 : ((a.toNat : Int) + b.toNat + c.toNat) % 18446744073709551616 = (s.toNat : Int) := by omega
  have e2 : ((a.toNat : Int) + b.toNat + c.toNat) / 18446744073709551616 = (o.toNat : Int) := by omega
  rw [e1, e2] at r
  unfold Oper.quietAt
  have r' : (execOp ac.eval ⟨dst, .call ⟨.value (.func f), #[x, y, z], ats⟩, ty, pos, aft, g⟩).run P w = .ok (.value (.tuple #[U64 s, U64 o])) w := by
    simp only [Result.andThen] at r
    have k1 := hk.eval hx
    have k2 := hk.eval hy
    have k3 := hk.eval hz
    rw [← r]
    simp [execOp, resolve, Sem.run_bind, Act.eval, Deferred.ofValue, invoke, k1, k2, k3]
    simp [Act.eval] at k1 k2 k3
    simp [k1, k2, k3]
  rw [r']
  exact ⟨rfl, rfl⟩
end
end Sl
end Go.Proofs.YtchoiikhepjdiaaDoor

/-
  Of no statement by itself: rules for strings as lists of bytes: length, one byte, equality, sums, the string of a slice's bytes; over X's partial knowledge of frame and memory, for any program P.
  Conditions: each rule's own hypotheses.
-/
namespace Go.Proofs.YtchoiikhepjdiaaDoor
open Sl
def strB (l : List Bt) : ByteArray := ⟨(l.map UInt8.ofBitVec).toArray⟩
@[reducible] def Z (l : List Bt) : Value := .string (strB l)
theorem strB_size (l : List Bt) : (strB l).size = l.length := by
  show (l.map UInt8.ofBitVec).toArray.size = l.length
  simp
theorem bytesOf_strB (l : List Bt) : bytesOf (strB l) = l := by
  show ((l.map UInt8.ofBitVec).toArray.toList).map UInt8.toBitVec = l
  simp [Function.comp_def]
theorem strB_bytesOf (s : ByteArray) : strB (bytesOf s) = s := by
  apply ByteArray.ext
  show ((s.data.toList.map UInt8.toBitVec).map UInt8.ofBitVec).toArray = s.data
  simp [Function.comp_def]
theorem strB_append (l r : List Bt) : strB l ++ strB r = strB (l ++ r) := by
  apply ByteArray.ext
  rw [ByteArray.data_append]
  show (l.map UInt8.ofBitVec).toArray ++ (r.map UInt8.ofBitVec).toArray = ((l ++ r).map UInt8.ofBitVec).toArray
  simp
theorem strB_eq (l r : List Bt) : ((strB l).toList == (strB r).toList) = decide (l = r) := by
  rw [ByteArray.toList_eq, ByteArray.toList_eq]
  show ((l.map UInt8.ofBitVec).toArray.toList == (r.map UInt8.ofBitVec).toArray.toList) = _
  rw [List.toList_toArray, List.toList_toArray]
  exact eq_list l r
section
variable {P : Program} {n : Nat} {E : Env} {C : World → Prop} {dst : Option Tmp} {ty t t' e : TypeId} {pos : String} {aft : Array Edge} {g : Option (Nat × Bool)} {x y : Operand} {l r : List Bt}
theorem OQ.lenS (hu : P.underlying t = some .string) (hx : ev E x = some (Z l)) : OQ P n E C ⟨dst, .call ⟨.builtin .len, #[x], #[t]⟩, ty, pos, aft, g⟩ (N l.length) :=
  strB_size l ▸ OQ.lenZ hu hx
theorem OQ.idxZ {k : IntKind} {i : Nat} (hu : P.underlying t = some .string) (hx : ev E x = some (Z l)) (hy : ev E y = some (.int k i)) (hi : i < l.length) : OQ P n E C ⟨dst, .index t x y, ty, pos, aft, g⟩ (U8 (l.getD i 0)) :=
  OQ.run fun a ha w _ => by
    have h1 := ha.eval hx
    have h2 := ha.eval hy
    have h3 : (underlying t).run P w = .ok .string w := run_underlying hu w
    have h4 : (strB l)[i]? = some (UInt8.ofBitVec (l.getD i 0)) := by
      have hs : i < (strB l).size := by rw [strB_size]; exact hi
      rw [getElem?_pos (strB l) i hs]
      show some (((l.map UInt8.ofBitVec).toArray)[i]'(by simpa using hi)) = _
      rw [List.getElem_toArray, List.getElem_map, List.getD_eq_getElem?_getD, List.getElem?_eq_getElem hi]; rfl
    simp [execOp, h1, h2, Instr.index, asIntOf, Sem.run_bind, h3, h4]
theorem OQ.eqS (hx : ev E x = some (Z l)) (hy : ev E y = some (Z r)) : OQ P n E C ⟨dst, .binOp .eql t x y t', ty, pos, aft, g⟩ (.bool (decide (l = r))) :=
  OQ.run fun a ha w _ => by
    have h1 := ha.eval hx
    have h2 := ha.eval hy
    simp [execOp, h1, h2, eqGuard, binOp, Op.stringOp, strB_eq]
theorem OQ.neS (hx : ev E x = some (Z l)) (hy : ev E y = some (Z r)) : OQ P n E C ⟨dst, .binOp .neq t x y t', ty, pos, aft, g⟩ (.bool (!decide (l = r))) :=
  OQ.run fun a ha w _ => by
    have h1 := ha.eval hx
    have h2 := ha.eval hy
    simp [execOp, h1, h2, eqGuard, binOp, Op.stringOp, strB_eq]
theorem OQ.eqS_t (hx : ev E x = some (Z l)) (hy : ev E y = some (Z r)) (h : l = r) : OQ P n E C ⟨dst, .binOp .eql t x y t', ty, pos, aft, g⟩ (.bool true) :=
  (decide_eq_true h : decide (l = r) = true) ▸ OQ.eqS hx hy
theorem OQ.eqS_f (hx : ev E x = some (Z l)) (hy : ev E y = some (Z r)) (h : ¬ l = r) : OQ P n E C ⟨dst, .binOp .eql t x y t', ty, pos, aft, g⟩ (.bool false) :=
  (decide_eq_false h : decide (l = r) = false) ▸ OQ.eqS hx hy
theorem OQ.addS (hx : ev E x = some (Z l)) (hy : ev E y = some (Z r)) (h : l.length + r.length < 9223372036854775808) : OQ P n E C ⟨dst, .binOp .add t x y t', ty, pos, aft, g⟩ (Z (l ++ r)) :=
  OQ.run fun a ha w _ => by
    have h1 := ha.eval hx
    have h2 := ha.eval hy
    have h3 : ¬ ((((strB l).size + (strB r).size : Nat) : Int) > IntKind.i64.max) := by
      rw [strB_size, strB_size, show IntKind.i64.max = 9223372036854775807 from rfl]
      omega
    have h4 : (Op.stringOp .add (strB l) (strB r)).run P w = .ok (Z (l ++ r)) w := by
      unfold Op.stringOp
      simp only
      rw [if_neg h3, strB_append]; rfl
    simp [execOp, h1, h2, eqGuard, binOp, h4, Sem.run_bind]
end
theorem push_all : ∀ (l : List Bt) (s : ByteArray), (l.map fun b => (b.toNat : Int)).foldl (fun r n => r.push (UInt8.ofNat n.toNat)) s = s ++ strB l
  | [], s => by
    apply ByteArray.ext
    rw [ByteArray.data_append]
    show s.data = s.data ++ #[]
    simp
  | b :: l, s => by
    rw [List.map_cons, List.foldl_cons, push_all l]
    apply ByteArray.ext
    rw [ByteArray.data_append, ByteArray.data_append, ByteArray.data_push]
    have e : UInt8.ofNat ((b.toNat : Int)).toNat = UInt8.ofBitVec b := by
      apply UInt8.toNat_inj.1
      simp
    rw [e]
    show s.data.push (UInt8.ofBitVec b) ++ (l.map UInt8.ofBitVec).toArray = s.data ++ ((b :: l).map UInt8.ofBitVec).toArray
    simp
theorem loadCells_reads {P : Program} {w : World} {ad : Addr} {cs : List Value} (h : Reads w (some ad) cs) : (loadCells ad cs.length).run P w = .ok cs.toArray w := by
  refine run_loadCells_list (P := P) w ad cs fun i v hv => ?_
  obtain ⟨b, j, h1, h2⟩ := h i v hv
  cases h1
  rw [add_off]; exact h2
section
variable {P : Program} {n : Nat} {E : Env} {w0 : World} {S : List Nat} {M : List Ent} {dst : Option Tmp} {ty t t' e : TypeId} {pos : String} {aft : Array Edge} {g : Option (Nat × Bool)} {x : Operand}
/-- string(b) -/
theorem OQ.b2s {s : Sl8} (hs : P.underlying t = some (.slice e)) (he : P.underlying e = some (.int .u8)) (hd : P.underlying t' = some .string) (hx : ev E x = some s.v) (hr : ∀ w, Holds w0 S M w → s.ok w) :
    OQ P n E (Holds w0 S M) ⟨dst, .convert t t' x, ty, pos, aft, g⟩ (Z s.l) :=
  OQ.run fun a ha w hw => by
    have h1 := ha.eval hx
    have ok := (hr w hw).reads
    have h2 : (convert t t' s.v).run P w = .ok (Z s.l) w := by
      obtain ⟨ad, cap, l⟩ := s
      show (convert t t' (.slice ad l.length cap)).run P w = _
      rw [run_convert_bytes_string w t t' e ad l.length cap hs he hd]
      cases ad with
      | none =>
        have : l = [] := by
          cases l with
          | nil => rfl
          | cons b l =>
            obtain ⟨_, _, h, _⟩ := ok 0 (U8 b) rfl
            cases h
        subst this
        rfl
      | some ad =>
        have h3 : (loadCells ad l.length).run P w = .ok ((l.map fun b => (b.toNat : Int)).map (Value.int .u8)).toArray w := by
          have := loadCells_reads (P := P) ok
          rw [List.length_map] at this
          rw [this, List.map_map]; rfl
        rw [run_bytesToString w ad l.length cap _ h3, push_all]
        have : ByteArray.empty ++ strB l = strB l := by
          apply ByteArray.ext
          rw [ByteArray.data_append]
          show #[] ++ (strB l).data = _
          simp
        rw [this]
    simp only [execOp, h1, Sem.run_bind, h2, Result.andThen_ok]; rfl
end
/-- x = append(x, v1, v2) -/
theorem JL.push2 {P : Program} {n : Nat} {w0 : World} {S : List Nat} {ops : Array Oper} {Q : Exit → Act → World → Prop} {l : List Oper} {E : Env} {M : List Ent} {t e ty ty' : TypeId} {x1 x2 y : Operand} {z v1 v2 : Value} {by' k cap b d1 d2 : Nat} {pos pos' : String} {aft aft' : Array Edge} {xs : List Value}
    (M' : Nat → Nat → List Ent) (hu : P.underlying t = some (.slice e)) (hi : EI P e z 1 by') (hz : z.cells.size = 1) (hx1 : ev E x1 = some v1) (hx2 : ev E x2 = some v2) (hv1 : v1.cells = #[v1]) (hv2 : v2.cells = #[v2]) (h1 : v1.oneCell' = true) (h2 : v2.oneCell' = true)
    (ha : ∀ bl, ev ((d1, .slice (some ⟨bl, 0, none⟩) 2 2) :: E) y = some (.slice (some ⟨b, 0, none⟩) k cap)) (hup : ∀ b' cap', Repl M b (Own e 1 k cap xs) b' (Own e 1 (k + 2) cap' (xs ++ [v1, v2])) (M' b' cap'))
    (hsm : (k + 2) * by' ≤ 140737488355328) (hsm2 : k + 2 < 9223372036854775808) (hd1 : Nat.blt d1 n = true) (hd2 : Nat.blt d2 n = true)
    (kk : ∀ bl b' cap', JL P n w0 S ops Q l ((d2, .slice (some ⟨b', 0, none⟩) (k + 2) cap') :: (d1, .slice (some ⟨bl, 0, none⟩) 2 2) :: E) (M' b' cap')) :
    JL P n w0 S ops Q (⟨some d1, .buildSlice t 2 #[(0, x1), (1, x2)], ty, pos, aft, none⟩ :: ⟨some d2, .call ⟨.builtin .append, #[y, .tmp d1], #[t, t]⟩, ty', pos', aft', none⟩ :: l) E M := by
  refine JL.litL (xs := [x1, x2]) (vs := [v1, v2]) hu hi hz rfl (by simp [evs, hx1, hx2]) (by simp [h1, h2]) (by simp [hv1, hv2]) rfl (by decide) (by decide) hd1 fun bl _ => ?_
  refine JL.append (cs := [v1, v2]) (m := 2) (ad := some ⟨bl, 0, none⟩) (sc := 2) (fun b' cap' => ⟨bl, Row e [v1, v2], true⟩ :: M' b' cap') hu hi (ha bl) (by simp [ev, lk]) (fun b' cap' => .there (hup b' cap')) rfl (fun w hw => ?_) (by simp [h1, h2]) hz (by decide) hsm hsm2 hd2 fun b' cap' => ?_
  · obtain ⟨o, ho, hA⟩ := hw.get (b := bl) (A := Row e [v1, v2]) (wr := true) .here
    exact Reads.block ho (Row.all _ hA)
  · exact ⟨fun a w ha hw => (kk bl b' cap').go a w ha (hw.weak (.drop _ _ _ (Less.refl _)))⟩
/-- an answer that is a slice of bytes -/
structure Ans (x : Sl8) (l : List Bt) : Prop where
  val : x.l = l
  none : x.ad = .none → x.l = []
theorem less_post (A M : List Ent) : Less M (A ++ M) := by
  induction A with
  | nil => exact Less.refl _
  | cons e A ih => exact .drop _ _ _ ih
theorem Ans.ok {x : Sl8} {l : List Bt} {w0 w : World} {S : List Nat} {M : List Ent} (h : Ans x l) (hw : Holds w0 S (x.ents ++ M) w) : x.ok w := Sl8.ents_ok hw h.none
theorem Ans.ok2 {x : Sl8} {l : List Bt} {w0 w : World} {S : List Nat} {A M : List Ent} (h : Ans x l) (hw : Holds w0 S (A ++ (x.ents ++ M)) w) : x.ok w := h.ok (hw.weak (less_post _ _))
theorem Ans.ok3 {x : Sl8} {l : List Bt} {w0 w : World} {S : List Nat} {A B M : List Ent} (h : Ans x l) (hw : Holds w0 S (A ++ (B ++ (x.ents ++ M))) w) : x.ok w := h.ok2 (hw.weak (less_post _ _))
theorem Ans.ok4 {x : Sl8} {l : List Bt} {w0 w : World} {S : List Nat} {A B D M : List Ent} (h : Ans x l) (hw : Holds w0 S (A ++ (B ++ (D ++ (x.ents ++ M)))) w) : x.ok w := h.ok3 (hw.weak (less_post _ _))
/-- an answer's length is within what it has room for -/
theorem JL.capf {P : Program} {n : Nat} {w0 : World} {S : List Nat} {ops : Array Oper} {Q : Exit → Act → World → Prop} {l : List Oper} {E : Env} {M : List Ent} {x : Sl8} {r : List Bt} (hx : Ans x r) (h : x.l.length ≤ x.cap → JL P n w0 S ops Q l E (x.ents ++ M)) : JL P n w0 S ops Q l E (x.ents ++ M) :=
  ⟨fun a w ha hw => (h (hx.ok hw).len).go a w ha hw⟩
theorem OQ.neI_t {P : Program} {n : Nat} {E : Env} {C : World → Prop} {dst : Option Tmp} {ty t t' : TypeId} {pos : String} {aft : Array Edge} {g : Option (Nat × Bool)} {x y : Operand} {k : IntKind} {a b : Int} (hx : ev E x = some (.int k a)) (hy : ev E y = some (.int k b)) (h : ¬ a = b) : OQ P n E C ⟨dst, .binOp .neq t x y t', ty, pos, aft, g⟩ (.bool true) := by
  have e : (!decide (a = b)) = true := by rw [decide_eq_false h]; rfl
  exact e ▸ OQ.nei hx hy
theorem by_ne {c d : Bt} (h : ¬ c = d) : ¬ (c.toNat : Int) = (d.toNat : Int) := fun e => h (BitVec.eq_of_toNat_eq (by omega))
end Go.Proofs.YtchoiikhepjdiaaDoor

/-
  Of no statement by itself: what the library's functions on texts tell, in plain words: pure; no program stands here.
  Conditions: none but each lemma's own.
-/
namespace Go.Proofs.YtchoiikhepjdiaaDoor
namespace Fld
def u8s (l : List By) : List UInt8 := l.map UInt8.ofBitVec
theorem strB_list (l : List By) : (strB l).data.toList = u8s l := rfl
theorem u8s_str (l : List By) : (⟨(u8s l).toArray⟩ : ByteArray) = strB l := rfl
theorem u8s_drop (p : UInt8 → Bool) : ∀ l : List By, (u8s l).dropWhile p = u8s (l.dropWhile fun c => p (UInt8.ofBitVec c))
  | [] => rfl
  | c :: l => by
    show (UInt8.ofBitVec c :: u8s l).dropWhile p = _
    rw [List.dropWhile_cons, List.dropWhile_cons]
    cases h : p (UInt8.ofBitVec c) with
    | true => exact u8s_drop p l
    | false => rfl
theorem u8s_rev (l : List By) : (u8s l).reverse = u8s l.reverse := by unfold u8s; rw [List.map_reverse]
theorem blank_u8 (c : By) : (u8s [32, 9]).contains (UInt8.ofBitVec c) = bl c := by
  have h : ∀ c : Fin 256, (u8s [32, 9]).contains (UInt8.ofBitVec (BitVec.ofNat 8 c.val)) = bl (BitVec.ofNat 8 c.val) := by decide +kernel
  simpa using h ⟨c.toNat, c.isLt⟩
theorem trimL_u8 (l : List By) : Go.Lib.trimLeftS (u8s l) (u8s [32, 9]) = u8s (trimL l) := by
  unfold Go.Lib.trimLeftS
  rw [u8s_drop]
  congr 1
  unfold trimL
  congr 1
  funext c
  exact blank_u8 c
/-- the other end -/
def trimR (v : List By) : List By := (trimL v.reverse).reverse
theorem trimR_cons (c : By) (r : List By) : trimR (c :: r) = if trimR r = [] ∧ bl c = true then [] else c :: trimR r := by
  unfold trimR trimL
  rw [List.reverse_cons, List.dropWhile_append]
  by_cases h : (r.reverse.dropWhile bl) = []
  · rw [h]
    cases hc : bl c <;> simp [hc]
  · have h2 : (r.reverse.dropWhile bl).isEmpty = false := by simpa using h
    rw [h2, if_neg (by decide), if_neg (by rintro ⟨k, _⟩; exact h (by simpa using k)), List.reverse_append]
    rfl
theorem trim_swap : ∀ v : List By, trimL (trimR v) = trimR (trimL v)
  | [] => rfl
  | c :: r => by
    have ih := trim_swap r
    rw [trimR_cons]
    cases hc : bl c with
    | true =>
      have e : trimL (c :: r) = trimL r := by simp [trimL, hc]
      rw [e, ← ih]
      by_cases h : trimR r = []
      · rw [if_pos ⟨h, rfl⟩, h]
      · rw [if_neg (fun k => h k.1)]
        simp [trimL, hc]
    | false =>
      have e : trimL (c :: r) = c :: r := by simp [trimL, hc]
      rw [if_neg (by rintro ⟨_, k⟩; cases k), e, trimR_cons, if_neg (by rintro ⟨_, k⟩; rw [hc] at k; cases k)]
      simp [trimL, hc]
theorem trim_u8 (l : List By) : Go.Lib.trimS (u8s l) (u8s [32, 9]) = u8s (trim l) := by
  have h1 : Go.Lib.trimRightS (u8s l) (u8s [32, 9]) = u8s (trimR l) := by
    unfold Go.Lib.trimRightS
    rw [u8s_rev]
    have := trimL_u8 l.reverse
    unfold Go.Lib.trimLeftS at this
    rw [this, u8s_rev]
    rfl
  unfold Go.Lib.trimS
  rw [h1, trimL_u8, trim_swap]
  rfl
theorem trim_len (v : List By) : (trim v).length ≤ v.length := by
  unfold trim
  rw [List.length_reverse]
  have h1 := trimL_len (trimL v).reverse
  have h2 := trimL_len v
  rw [List.length_reverse] at h1
  omega
/-- the place of the first blank, or less than nought -/
def ixB (w : List By) : Int := if fb w < w.length then (fb w : Int) else -1
theorem fb_cons (c : By) (r : List By) : fb (c :: r) = if bl c then 0 else fb r + 1 := by
  unfold fb
  rw [List.takeWhile_cons]
  cases bl c <;> simp
theorem indexAny_u8 : ∀ w : List By, Go.Lib.indexAny (u8s w) (u8s [32, 9]) = ixB w
  | [] => rfl
  | c :: r => by
    show (if (u8s [32, 9]).contains (UInt8.ofBitVec c) then 0 else if Go.Lib.indexAny (u8s r) (u8s [32, 9]) == -1 then -1 else Go.Lib.indexAny (u8s r) (u8s [32, 9]) + 1 : Int) = _
    rw [blank_u8, indexAny_u8 r]
    unfold ixB
    rw [fb_cons]
    cases hc : bl c with
    | true => simp
    | false =>
      simp only [Bool.false_eq_true, if_false, List.length_cons, Nat.add_lt_add_iff_right]
      by_cases h : fb r < r.length
      · simp only [h, if_true]
        rw [if_neg (by rw [beq_iff_eq]; omega)]
        omega
      · simp only [h, if_false]
        rfl
theorem piece_ix (s : List By) : pieceB s = if 0 ≤ ixB (trimL s) then s.length - (trimL s).length + (ixB (trimL s)).toNat else s.length := by
  have h1 := trimL_len s
  have h2 := fb_le (trimL s)
  unfold pieceB ixB
  by_cases h : fb (trimL s) < (trimL s).length
  · rw [if_pos h, if_pos (by omega)]
    omega
  · rw [if_neg h, if_neg (by omega)]
    omega
/-- a byte's first place, or less than nought -/
def fi (c : By) (s : List By) : Nat := (s.takeWhile (· != c)).length
theorem fi_le (c : By) (s : List By) : fi c s ≤ s.length := (List.takeWhile_sublist _).length_le
theorem fi_cons (c d : By) (r : List By) : fi c (d :: r) = if d = c then 0 else fi c r + 1 := by
  unfold fi
  rw [List.takeWhile_cons]
  by_cases h : d = c
  · simp [h]
  · simp [h]
theorem fi_at : ∀ (c : By) (s : List By), fi c s < s.length → s.getD (fi c s) 0 = c
  | c, [], h => by simp [fi] at h
  | c, d :: r, h => by
    rw [fi_cons] at h ⊢
    by_cases hd : d = c
    · rw [if_pos hd]; exact hd
    · rw [if_neg hd] at h ⊢
      exact fi_at c r (by simpa using h)
theorem fi_before : ∀ (c : By) (s : List By) {j : Nat}, j < fi c s → ¬ s.getD j 0 = c
  | c, [], j, h => by simp [fi] at h
  | c, d :: r, j, h => by
    rw [fi_cons] at h
    by_cases hd : d = c
    · rw [if_pos hd] at h; omega
    · rw [if_neg hd] at h
      cases j with
      | zero => exact hd
      | succ j => exact fi_before c r (by omega)
theorem fi_lt (c : By) (s : List By) : fi c s < s.length ↔ c ∈ s := by
  induction s with
  | nil => simp [fi]
  | cons d r ih =>
    rw [fi_cons]
    by_cases h : d = c
    · simp [h]
    · have h' : ¬ c = d := fun e => h e.symm
      rw [if_neg h, List.length_cons, List.mem_cons]
      constructor
      · intro k; exact .inr (ih.1 (by omega))
      · rintro (k | k)
        · exact absurd k h'
        · have := ih.2 k; omega
def ixC (c : By) (s : List By) : Int := if fi c s < s.length then (fi c s : Int) else -1
theorem u8s_get (s : List By) {i : Nat} (h : i < s.length) : (strB s)[i]! = UInt8.ofBitVec (s.getD i 0) := by
  have hs : i < (strB s).size := by rw [strB_size]; exact h
  rw [getElem!_pos (strB s) i hs]
  show (strB s).data[i]'_ = _
  show ((u8s s).toArray)[i]'_ = _
  simp [u8s, List.getD_eq_getElem?_getD, List.getElem?_eq_getElem h]
/-- the model's own search -/
theorem first_is (s : List By) (c : By) : firstIdx (strB s) ((c.toNat : Int)).toNat.toUInt8 = ixC c s := by
  have hc : ((c.toNat : Int)).toNat.toUInt8 = UInt8.ofBitVec c := by
    rw [Int.toNat_natCast]
    apply UInt8.toBitVec_inj.1
    apply BitVec.eq_of_toNat_eq
    simp [Nat.toUInt8, UInt8.ofNat]
  rw [hc]
  unfold firstIdx
  rw [strB_size]
  have hp : ∀ i, i < s.length → ((strB s)[i]! == UInt8.ofBitVec c) = decide (s.getD i 0 = c) := by
    intro i hi
    rw [u8s_get s hi]
    by_cases h : s.getD i 0 = c
    · rw [h]; simp
    · rw [decide_eq_false h]
      refine beq_eq_false_iff_ne.2 fun k => h ?_
      have := congrArg UInt8.toBitVec k
      exact this
  unfold ixC
  by_cases h : fi c s < s.length
  · rw [if_pos h]
    have hf : (List.range s.length).find? (fun i => (strB s)[i]! == UInt8.ofBitVec c) = some (fi c s) := by
      rw [List.find?_range_eq_some]
      refine ⟨?_, by simpa using h, ?_⟩
      · rw [hp _ h, decide_eq_true (fi_at c s h)]
      · intro j hj
        rw [hp j (by omega), decide_eq_false (fi_before c s hj)]
        rfl
    rw [hf]
  · rw [if_neg h]
    have hf : (List.range s.length).find? (fun i => (strB s)[i]! == UInt8.ofBitVec c) = none := by
      rw [List.find?_range_eq_none]
      intro j hj
      have := fi_le c s
      rw [hp j hj, decide_eq_false (fi_before c s (by omega))]
      rfl
    rw [hf]
/-- a byte's last place, or less than nought -/
def la (c : By) (s : List By) : Nat := (s.reverse.takeWhile fun d => !(d == c)).length
def ixL (c : By) (s : List By) : Int := (s.length : Int) - 1 - la c s
theorem la_snoc (c : By) (s : List By) (d : By) : la c (s ++ [d]) = if d = c then 0 else la c s + 1 := by
  unfold la
  rw [List.reverse_append, List.reverse_singleton, List.singleton_append, List.takeWhile_cons]
  by_cases h : d = c
  · simp [h]
  · simp [h]
theorem la_le (c : By) (s : List By) : la c s ≤ s.length := by
  unfold la
  have := (List.takeWhile_sublist (fun d => !(d == c)) (l := s.reverse)).length_le
  simpa using this
theorem la_lt (c : By) (s : List By) : la c s < s.length ↔ c ∈ s := by
  have h := fi_lt c s.reverse
  have e : fi c s.reverse = la c s := by
    unfold fi la
    congr 1
  rw [e] at h
  simpa using h
end Fld
end Go.Proofs.YtchoiikhepjdiaaDoor

/-
  Of no statement by itself: a call behind which the world that it left is the new beginning: what is known of that world stays a fact, as long as nothing of it is written; over X's partial knowledge, for any program P.
  Conditions: each rule's own hypotheses.
-/
namespace Go.Proofs.YtchoiikhepjdiaaDoor
open Sl
theorem Chg.over {w0 w1 w2 : World} {S : List Nat} (h1 : Ext w0 w1) (h2 : Chg S w1 w2) (hS : ∀ b ∈ S, w0.heap.size ≤ b) : Ext w0 w2 :=
  ⟨h2.os.trans h1.os, h2.tape.trans h1.tape, h2.output.trans h1.output, Nat.le_trans h1.size h2.size,
   fun k hk hk' => (h2.block k (Nat.lt_of_lt_of_le hk h1.size) (fun h => by have := hS k h; omega)).trans (h1.block k hk hk')⟩
theorem JL.callw {P : Program} {n : Nat} {w0 : World} {S S' : List Nat} {ops : Array Oper} {Q : Exit → Act → World → Prop} {l : List Oper} {E : Env} {M : List Ent} {d : Nat} {ty : TypeId} {pos : String} {aft : Array Edge} {ι : Type} (vf : ι → Value) (F : ι → World → Prop) (M' : List Ent)
    {f : FuncId} {xs : List Operand} {ats : Array TypeId} {vs : List Value} (hg : Goes P f) (hx : evs E xs = some vs) (hd : Nat.blt d n = true)
    (hc : ∀ w1, Holds w0 S M w1 → Calls P f vs.toArray w1 fun e w2 => ∃ i, e = .returned (vf i) ∧ Ext w1 w2 ∧ F i w2)
    (hM : Less M' M) (hS : ∀ e ∈ M', e.wr = true → e.b ∈ S')
    (k : ∀ i w1, Holds w0 S M w1 → F i w1 → JL P n w1 S' ops Q l ((d, vf i) :: E) M') : JL P n w0 S ops Q (⟨some d, .call ⟨.value (.func f), xs.toArray, ats⟩, ty, pos, aft, none⟩ :: l) E M :=
  ⟨fun a w ha hw => wpList_plain rfl fun K hK => by
    unfold Oper.wp
    rw [exec_call hg ha hx w]
    exact (hc w hw).mono fun e w' ⟨i, h1, h2, h3⟩ => by
      subst h1
      have hw' := hw.ext h2
      have hm := hw'.weak hM
      exact hK _ _ ((k i w' hw' h3).go _ _ (ha.put d _ hd) ⟨Chg.refl _ _, hm.nodup, fun e he => ⟨(hm.all e he).1, fun hr => .inl (hS e he hr)⟩⟩)⟩
/-- slices of slices of bytes -/
def flatE (rs : List Sl8) : List Ent := rs.flatMap Sl8.ents
theorem less_app {A B : List Ent} (C : List Ent) (h : Less A B) : Less A (C ++ B) := by
  induction C with
  | nil => exact h
  | cons e C ih => exact .drop _ _ _ ih
theorem less_mem {x : Sl8} : ∀ {rs : List Sl8}, x ∈ rs → Less x.ents (flatE rs)
  | y :: rs, h => by
    rcases List.mem_cons.1 h with rfl | h
    · exact less_pre _ _
    · exact less_app y.ents (less_mem h)
theorem flat_ok {rs : List Sl8} {w0 w : World} {S : List Nat} {A : List Ent} (hw : Holds w0 S (A ++ flatE rs) w) (h0 : ∀ x ∈ rs, x.ad = none → x.l = []) : ∀ x ∈ rs, x.ok w := fun x hx =>
  Sl8.ents_ok (M := []) (by rw [List.append_nil]; exact hw.weak (less_app A (less_mem hx))) (h0 x hx)
theorem less_app2 {B B' : List Ent} (h : Less B' B) : ∀ A : List Ent, Less (A ++ B') (A ++ B)
  | [] => h
  | ⟨_, _, _⟩ :: A => .keep _ _ _ _ _ _ (fun _ h => h) (less_app2 h A)
theorem JE.perm {n : Nat} {w0 : World} {S : List Nat} {Q : Exit → Act → World → Prop} {e : Exit} {E : Env} {M M' : List Ent} (hp : M.Perm M') (h : JE n w0 S Q e E M') : JE n w0 S Q e E M :=
  ⟨fun a w ha hw => h.go a w ha ⟨hw.chg, (hp.map Ent.b).nodup_iff.1 hw.nodup, fun e he => hw.all e (hp.mem_iff.2 he)⟩⟩
/-- a slice of slices of bytes -/
structure SlL where
  ad : Option Addr
  cap : Nat
  rs : List Sl8
def SlL.v (s : SlL) : Value := .slice s.ad s.rs.length s.cap
def SlL.ls (s : SlL) : List (List Bt) := s.rs.map Sl8.l
structure SlL.ok (w : World) (s : SlL) : Prop where
  len : s.rs.length ≤ s.cap
  reads : Reads w s.ad (s.rs.map Sl8.v)
  all : ∀ y ∈ s.rs, y.ok w
theorem ownL_ok {w0 w : World} {S : List Nat} {A : List Ent} {b cap : Nat} {e : TypeId} {rs : List Sl8} {wr : Bool} (hw : Holds w0 S (A ++ flatE rs) w) (hM : Has (A ++ flatE rs) b (Own e 1 rs.length cap (rs.map Sl8.v)) wr) (h0 : ∀ x ∈ rs, x.ad = none → x.l = []) : SlL.ok w ⟨some ⟨b, 0, none⟩, cap, rs⟩ := by
  obtain ⟨o, ho, hA⟩ := hw.get hM
  have hh := Own.cells _ hA
  obtain ⟨sp, rfl, h2, h3, h4⟩ := hA
  exact ⟨h4, Reads.block ho hh, flat_ok hw h0⟩
theorem own_less {e : TypeId} {k cap b : Nat} {l : List Bt} (h : l.length = k) : Less (Sl8.ents ⟨some ⟨b, 0, none⟩, cap, l⟩) [⟨b, Own e 1 k cap (l.map U8), true⟩] := by
  refine .keep _ _ _ _ _ _ (fun o ho => ?_) (.nil _)
  obtain ⟨sp, rfl, h1, h2, h3⟩ := ho
  refine ⟨⟨_, _, _, rfl, fun i hi => ?_⟩, ?_, rfl⟩
  · have hi : i < l.length := by simpa using hi
    simp [List.getElem?_append_left, hi]
  · show l.length ≤ cap
    omega
theorem flat_push {e : TypeId} {cap b : Nat} {l : List Bt} (rs : List Sl8) : Less (flatE (rs ++ [⟨some ⟨b, 0, none⟩, cap, l⟩])) (flatE rs ++ [⟨b, Own e 1 l.length cap (l.map U8), true⟩]) := by
  unfold flatE
  rw [List.flatMap_append]
  refine less_app2 ?_ _
  show Less (Sl8.ents _ ++ []) _
  rw [List.append_nil]
  exact own_less rfl
theorem perm3 (c a b : Ent) (F : List Ent) : (c :: ([a, b] ++ F)).Perm (c :: b :: (F ++ [a])) := .cons _ (List.perm_append_singleton a (b :: F)).symm
theorem Sl.Holds.base {w0 w1 w2 : World} {M : List Ent} (h1 : Ext w0 w1) (h : Holds w1 [] M w2) : Holds w0 [] M w2 :=
  ⟨Chg.over h1 h.chg (by simp), h.nodup, fun e he => ⟨(h.all e he).1, fun hr => .inr (((h.all e he).2 hr).elim (fun h => by simp at h) (fun h => Nat.le_trans h1.size h))⟩⟩
theorem JL.push3 {P : Program} {n : Nat} {w0 : World} {S : List Nat} {ops : Array Oper} {Q : Exit → Act → World → Prop} {l : List Oper} {E : Env} {M : List Ent} {t e ty ty' : TypeId} {x1 x2 x3 y : Operand} {z v1 v2 v3 : Value} {by' k cap b d1 d2 : Nat} {pos pos' : String} {aft aft' : Array Edge} {xs : List Value}
    (M' : Nat → Nat → List Ent) (hu : P.underlying t = some (.slice e)) (hi : EI P e z 1 by') (hz : z.cells.size = 1) (hx1 : ev E x1 = some v1) (hx2 : ev E x2 = some v2) (hx3 : ev E x3 = some v3) (hv1 : v1.cells = #[v1]) (hv2 : v2.cells = #[v2]) (hv3 : v3.cells = #[v3]) (h1 : v1.oneCell' = true) (h2 : v2.oneCell' = true) (h3 : v3.oneCell' = true)
    (ha : ∀ bl, ev ((d1, .slice (some ⟨bl, 0, none⟩) 3 3) :: E) y = some (.slice (some ⟨b, 0, none⟩) k cap)) (hup : ∀ b' cap', Repl M b (Own e 1 k cap xs) b' (Own e 1 (k + 3) cap' (xs ++ [v1, v2, v3])) (M' b' cap'))
    (hsm : (k + 3) * by' ≤ 140737488355328) (hsm2 : k + 3 < 9223372036854775808) (hd1 : Nat.blt d1 n = true) (hd2 : Nat.blt d2 n = true)
    (kk : ∀ bl b' cap', JL P n w0 S ops Q l ((d2, .slice (some ⟨b', 0, none⟩) (k + 3) cap') :: (d1, .slice (some ⟨bl, 0, none⟩) 3 3) :: E) (M' b' cap')) :
    JL P n w0 S ops Q (⟨some d1, .buildSlice t 3 #[(0, x1), (1, x2), (2, x3)], ty, pos, aft, none⟩ :: ⟨some d2, .call ⟨.builtin .append, #[y, .tmp d1], #[t, t]⟩, ty', pos', aft', none⟩ :: l) E M := by
  refine JL.litL (xs := [x1, x2, x3]) (vs := [v1, v2, v3]) hu hi hz rfl (by simp [evs, hx1, hx2, hx3]) (by simp [h1, h2, h3]) (by simp [hv1, hv2, hv3]) rfl (by decide) (by decide) hd1 fun bl _ => ?_
  refine JL.append (cs := [v1, v2, v3]) (m := 3) (ad := some ⟨bl, 0, none⟩) (sc := 3) (fun b' cap' => ⟨bl, Row e [v1, v2, v3], true⟩ :: M' b' cap') hu hi (ha bl) (by simp [ev, lk]) (fun b' cap' => .there (hup b' cap')) rfl (fun w hw => ?_) (by simp [h1, h2, h3]) hz (by decide) hsm hsm2 hd2 fun b' cap' => ?_
  · obtain ⟨o, ho, hA⟩ := hw.get (b := bl) (A := Row e [v1, v2, v3]) (wr := true) .here
    exact Reads.block ho (Row.all _ hA)
  · exact ⟨fun a w ha hw => (kk bl b' cap').go a w ha (hw.weak (.drop _ _ _ (Less.refl _)))⟩
theorem all8U (l : List Bt) : ∀ v ∈ l.map U8, v.oneCell' = true := by
  intro v hv
  obtain ⟨x, _, rfl⟩ := List.mem_map.1 hv
  rfl
theorem JE.ret3 {P : Program} {fn : Func} {R : Ending → World → Prop} {n : Nat} {w0 : World} {S : List Nat} {E : Env} {M : List Ent} {r1 r2 r3 : ResultVar} {v1 v2 v3 : Value} (hr : fn.results = #[r1, r2, r3]) (h1 : RV P n w0 S E M r1 v1) (h2 : RV P n w0 S E M r2 v2) (h3 : RV P n w0 S E M r3 v3) (hR : ∀ w, Holds w0 S M w → R (.returned (.tuple #[v1, v2, v3])) w) : JE n w0 S (bodyPost P fn R) .ret E M := by
  refine ⟨fun a w ha hw => ?_⟩
  refine ⟨ha.defers, .tuple #[v1, v2, v3], ?_, hR w hw⟩
  have e1 := h1 a w ha hw
  have e2 := h2 a w ha hw
  have e3 := h3 a w ha hw
  rw [results_eq, hr]
  simp [Sem.run_bind, e1, e2, e3]
theorem SlL.ok.holds {w0 w : World} {S : List Nat} {M : List Ent} {s : SlL} (h : s.ok w0) (hw : Holds w0 S M w) (hS : S = []) : s.ok w := ⟨h.len, hw.reads h.reads (fun _ a _ => by rw [hS]; simp), fun y hy => (h.all y hy).holds hw hS⟩
section
variable {P : Program} {n : Nat} {E : Env} {C : World → Prop} {dst : Option Tmp} {ty t t' : TypeId} {pos : String} {aft : Array Edge} {g : Option (Nat × Bool)} {x y : Operand}
theorem OQ.minI {a c : Int} (hx : ev E x = some (.int .i64 a)) (hy : ev E y = some (.int .i64 c)) : OQ P n E C ⟨dst, .call ⟨.builtin .min, #[x, y], #[t, t']⟩, ty, pos, aft, g⟩ (.int .i64 (min a c)) :=
  OQ.run fun ac ha w _ => by
    have h1 := ha.eval hx
    have h2 := ha.eval hy
    have h3 : (if c < a then c else a) = min a c := by split <;> omega
    simp [execOp, h1, h2, resolve, invoke, builtin, Builtin.min_, Builtin.min2, Sem.run_bind, h3]
theorem OQ.maxI {a c : Int} (hx : ev E x = some (.int .i64 a)) (hy : ev E y = some (.int .i64 c)) : OQ P n E C ⟨dst, .call ⟨.builtin .max, #[x, y], #[t, t']⟩, ty, pos, aft, g⟩ (.int .i64 (max a c)) :=
  OQ.run fun ac ha w _ => by
    have h1 := ha.eval hx
    have h2 := ha.eval hy
    have h3 : (if a < c then c else a) = max a c := by split <;> omega
    simp [execOp, h1, h2, resolve, invoke, builtin, Builtin.max_, Builtin.max2, Sem.run_bind, h3]
end
end Go.Proofs.YtchoiikhepjdiaaDoor

/-
  Of no statement by itself: append of a string's bytes onto a slice of the function's own; over X's partial knowledge, for any program P.
  Conditions: each rule's own hypotheses.
-/
namespace Go.Proofs.YtchoiikhepjdiaaDoor
namespace Sl
section
variable {P : Program} {t tx e : TypeId}
theorem byteCells_strB (l : List Bt) : Go.byteCells (strB l) = l.map U8 := by
  unfold Go.byteCells strB
  simp [U8, Function.comp_def]
theorem run_appendS_room (w : World) (ty : TypeId) (i : TypeInfo) (ht : P.underlying t = some (.slice e)) (hi : P.info? e = some i)
    (g sLen sCap : Nat) (x : Value) (m : Nat) (news : List Value) (hs : Src P i.size tx x m news w) (cur : Array Value) (hg : w.heap[g]? = some (.cells cur e (0, 0)))
    (hroom : sLen + m ≤ sCap) (hfit : sLen * i.size + news.length ≤ cur.size) :
    (Builtin.append_ #[t, tx] ty #[.slice (some ⟨g, 0, none⟩) sLen sCap, x]).run P w =
      .ok (.slice (some ⟨g, 0, none⟩) (sLen + m) sCap) (w.setRow g (cur.toList.take (sLen * i.size) ++ news ++ cur.toList.drop (sLen * i.size + news.length)).toArray) := by
  have hst := run_storeCells_at P g (sLen * i.size) e news 0 cur w hg (by simpa using hfit) hs.one
  simp only [Nat.add_zero] at hst
  rcases hs.kind with ⟨e', hk⟩ | hk <;> simp [Builtin.append_, run_underlying ht, run_underlying hk, sizeOf, typeInfo, hi, hs.len, hroom, hs.cells, Addr.add_lit] at hst ⊢ <;> simp [hst]
variable {n : Nat} {w0 : World} {S : List Nat} {ops : Array Oper} {Q : Exit → Act → World → Prop} {l : List Oper} {E : Env} {M : List Ent} {d b : Nat} {ty : TypeId} {pos : String} {aft : Array Edge} {x y : Operand}
theorem JL.appendS {k cap : Nat} {xs : List Value} {r : List Bt} (M' : Nat → Nat → List Ent) (hu : P.underlying t = some (.slice e)) (hk : P.underlying tx = some .string) (hi : EI P e (.int .u8 0) 1 1) (hx : ev E x = some (.slice (some ⟨b, 0, none⟩) k cap)) (hy : ev E y = some (Z r))
    (hup : ∀ b' cap', Repl M b (Own e 1 k cap xs) b' (Own e 1 (k + r.length) cap' (xs ++ r.map U8)) (M' b' cap'))
    (hsm : (k + r.length) ≤ 140737488355328) (hd : Nat.blt d n = true)
    (kk : ∀ b' cap', JL P n w0 S ops Q l ((d, .slice (some ⟨b', 0, none⟩) (k + r.length) cap') :: E) (M' b' cap')) : JL P n w0 S ops Q (⟨some d, .call ⟨.builtin .append, #[x, y], #[t, tx]⟩, ty, pos, aft, none⟩ :: l) E M :=
  ⟨fun a w ha hw => wpList_plain rfl fun K hK => by
    obtain ⟨i, hi1, hi2, hi3, hi4⟩ := hi.get
    obtain ⟨o, ho, sp, rfl, hc1, hc2, hc3⟩ := hw.get (hup 0 0).has
    have hsrc : Src P i.size tx (Z r) r.length (r.map U8) w := by
      have := Src.ofString (P := P) w hk (strB r)
      rw [byteCells_strB, strB_size] at this
      rw [hi3]; exact this
    unfold Oper.wp
    simp only [execOp, resolve, invoke, builtin, Sem.run_bind, Sem.run_pure, Result.andThen_ok, List.map_toArray, List.map_cons, List.map_nil, ha.eval hx, ha.eval hy]
    by_cases hroom : k + r.length ≤ cap
    · have hfit : k * i.size + (r.map U8).length ≤ (xs ++ sp).toArray.size := by
        rw [List.size_toArray, hc1, hi3, List.length_map]; omega
      rw [run_appendS_room w ty i hu hi1 b k cap (Z r) r.length (r.map U8) hsrc (xs ++ sp).toArray ho hroom hfit]
      refine hK _ _ ((kk b cap).go _ _ (ha.put d _ hd) (hw.write (hup b cap).upd (o' := .cells ((xs ++ sp).take (k * i.size) ++ r.map U8 ++ (xs ++ sp).drop (k * i.size + (r.map U8).length)).toArray e (0, 0)) ?_ (setRow_heap w b _ _ e _ ho) (by simp) (fun q hq => setRow_other w b q _ hq) rfl rfl rfl))
      rw [hi3, ← hc2, List.take_left]
      refine ⟨(xs ++ sp).drop (xs.length + (r.map U8).length), rfl, ?_, by rw [List.length_append, hc2, List.length_map, Nat.add_mul, Nat.mul_one r.length], hroom⟩
      simp only [List.size_toArray] at hfit
      simp only [List.length_append, List.length_drop, List.length_map] at hfit hc1 ⊢
      rw [hi3] at hfit
      omega
    · have hold : ∀ u v, xs[u]? = some v → w.cell? ((⟨b, 0, none⟩ : Addr).add u) = some v := fun u v hv => by
        rw [add_off]
        have hu' : u < xs.length := (List.getElem?_eq_some_iff.1 hv).1
        exact cell_of ho (by simpa [cellAt, List.getElem?_append_left hu'] using hv)
      have hfit := growslice_fits (need := k + r.length) (old := cap) (bytes := 1) (by omega) (by omega)
      have hfo := run_firstCells_some (P := P) w.drew i.size k ⟨b, 0, none⟩ k cap xs (by rw [hc2, hi3]) (by simpa using hold)
      rw [run_append_grow_src w t tx ty e i (.int .u8 0) hu hi1 hi2 (some ⟨b, 0, none⟩) k cap xs hfo (Z r) r.length (r.map U8) hsrc (by omega) (by omega) (by rw [hi4]; exact hfit)]
      have hge := grownCap_ge w (k + r.length) cap e
      generalize grownCap w (k + r.length) cap e = nc at hge
      refine hK _ _ ((kk w.heap.size nc).go _ _ (ha.put d _ hd) (hw.renew (.cells ((xs ++ r.map U8).toArray ++ Builtin.zeroCells (Value.int .u8 0).cells (nc - (k + r.length))) e) (hup _ _) ?_ rfl rfl rfl rfl))
      have h8 : (Builtin.zeroCells (Value.int .u8 0).cells (nc - (k + r.length))).size = (nc - (k + r.length)) := by
        rw [show (Value.int .u8 0).cells = #[Value.int .u8 0] from rfl]; simp [Builtin.zeroCells]
      refine ⟨(Builtin.zeroCells (Value.int .u8 0).cells (nc - (k + r.length))).toList, by simp, ?_, by rw [List.length_append, hc2, List.length_map, Nat.add_mul, Nat.mul_one r.length], hge⟩
      simp only [List.length_append, Array.length_toList, h8, hc2, List.length_map]
      omega⟩
end
end Sl
end Go.Proofs.YtchoiikhepjdiaaDoor

/-
  Of no statement by itself: comparisons whose answers were told apart ahead of the walk; and small rules; for any program P.
  Conditions: each rule's own hypotheses.
-/
namespace Go.Proofs.YtchoiikhepjdiaaDoor
namespace Sl
section
variable {P : Program} {n : Nat} {E : Env} {C : World → Prop} {dst : Option Tmp} {t t' ty : TypeId} {pos : String} {aft : Array Edge} {g : Option (Nat × Bool)} {x y : Operand} {c : Bool}
theorem OQ.lssB {k : IntKind} {a b : Int} (hx : ev E x = some (.int k a)) (hy : ev E y = some (.int k b)) (h : decide (a < b) = c) : OQ P n E C ⟨dst, .binOp .lss t x y t', ty, pos, aft, g⟩ (.bool c) := OQ.bin hx hy rfl fun _ => by cases k <;> exact okBool h
theorem OQ.leqB {k : IntKind} {a b : Int} (hx : ev E x = some (.int k a)) (hy : ev E y = some (.int k b)) (h : decide (a ≤ b) = c) : OQ P n E C ⟨dst, .binOp .leq t x y t', ty, pos, aft, g⟩ (.bool c) := OQ.bin hx hy rfl fun _ => by cases k <;> exact okBool h
theorem OQ.gtrB {k : IntKind} {a b : Int} (hx : ev E x = some (.int k a)) (hy : ev E y = some (.int k b)) (h : decide (b < a) = c) : OQ P n E C ⟨dst, .binOp .gtr t x y t', ty, pos, aft, g⟩ (.bool c) := OQ.bin hx hy rfl fun _ => by cases k <;> exact okBool h
theorem OQ.geqB {k : IntKind} {a b : Int} (hx : ev E x = some (.int k a)) (hy : ev E y = some (.int k b)) (h : decide (b ≤ a) = c) : OQ P n E C ⟨dst, .binOp .geq t x y t', ty, pos, aft, g⟩ (.bool c) := OQ.bin hx hy rfl fun _ => by cases k <;> exact okBool h
theorem OQ.eqB {k : IntKind} {a b : Int} (hx : ev E x = some (.int k a)) (hy : ev E y = some (.int k b)) (h : decide (a = b) = c) : OQ P n E C ⟨dst, .binOp .eql t x y t', ty, pos, aft, g⟩ (.bool c) := h ▸ OQ.eqi hx hy
theorem OQ.neB {k : IntKind} {a b : Int} (hx : ev E x = some (.int k a)) (hy : ev E y = some (.int k b)) (h : decide (a = b) = c) : OQ P n E C ⟨dst, .binOp .neq t x y t', ty, pos, aft, g⟩ (.bool (!c)) := by
  have := OQ.nei (P := P) (n := n) (C := C) (dst := dst) (ty := ty) (t := t) (t' := t') (pos := pos) (aft := aft) (g := g) hx hy
  rw [h] at this
  exact this
theorem OQ.ne8B {a b : BitVec 8} (hx : ev E x = some (U8 a)) (hy : ev E y = some (U8 b)) (h : decide (a = b) = c) : OQ P n E C ⟨dst, .binOp .neq t x y t', ty, pos, aft, g⟩ (.bool (!c)) := by
  have := OQ.ne8 (P := P) (n := n) (C := C) (dst := dst) (ty := ty) (t := t) (t' := t') (pos := pos) (aft := aft) (g := g) hx hy
  rw [h] at this
  exact this
theorem OQ.notB {b : Bool} (hx : ev E x = some (.bool b)) (h : (!b) = c) : OQ P n E C ⟨dst, .unOp .not t x, ty, pos, aft, g⟩ (.bool c) := h ▸ OQ.not hx
/-- a call whose answer was told apart -/
theorem OQ.callb {w0 : World} {S : List Nat} {M : List Ent} {f : FuncId} {xs : List Operand} {ats : Array TypeId} {vs : List Value} {b : Bool} (hg : Goes P f) (hx : evs E xs = some vs) (hc : ∀ w, Calls P f vs.toArray w fun e w' => e = .returned (.bool b) ∧ Ext w w') (h : b = c) :
    OQ P n E (Holds w0 S M) ⟨dst, .call ⟨.value (.func f), xs.toArray, ats⟩, ty, pos, aft, g⟩ (.bool c) := h ▸ OQ.callx hg hx fun w _ => hc w
end
theorem JC.joinB {P : Program} {n : Nat} {w0 : World} {S : List Nat} {Q Q' : Exit → Act → World → Prop} {E : Env} {M : List Ent} {ι : Type} {id : Nat} (Ei : ι → Env) (Mi : ι → List Ent) (I : ι → Prop) {p q : Code} (h : JC P n w0 S (Exit.inBlock id (Exit.then (fun a' w' => ∃ i, I i ∧ Knows n (Ei i) a' ∧ Holds w0 S (Mi i) w') Q)) p E M)
    (k : ∀ i, I i → JC P n w0 S Q' q (Ei i) (Mi i)) : JC P n w0 S (Exit.inBlock id (Exit.then (q.wp P Q') Q)) p E M :=
  ⟨fun a w ha hw => wp_mono (h.go a w ha hw) fun e a' w' he => by
    cases e with
    | normal => obtain ⟨i, hi, h1, h2⟩ := he; exact (k i hi).go a' w' h1 h2
    | exit id' =>
      by_cases hid : id' = id
      · subst hid
        have he : (if id' = id' then (Exit.then (fun a' w' => ∃ i, I i ∧ Knows n (Ei i) a' ∧ Holds w0 S (Mi i) w') Q) .normal a' w' else _) := he
        rw [if_pos rfl] at he
        obtain ⟨i, hi, h1, h2⟩ := he
        show (if id' = id' then _ else _)
        rw [if_pos rfl]
        exact (k i hi).go a' w' h1 h2
      · have he : (if id' = id then _ else (Exit.then _ Q) (.exit id') a' w') := he
        rw [if_neg hid] at he
        show (if id' = id then _ else _)
        rw [if_neg hid]
        exact he
    | goto _ => exact he
    | ret => exact he
    | panic _ => exact he
    | outgrown => exact he⟩
/-- what is known, to be read alone -/
def ro (M : List Ent) : List Ent := M.map fun e => ⟨e.b, e.A, false⟩
theorem ro_holds {w0 w : World} {S : List Nat} {M : List Ent} (h : Holds w0 S M w) : Holds w [] (ro M) w := by
  refine ⟨Chg.refl _ _, ?_, fun e he => ?_⟩
  · have e : (ro M).map Ent.b = M.map Ent.b := by simp [ro, Function.comp_def]
    rw [e]; exact h.nodup
  · obtain ⟨e', he', rfl⟩ := List.mem_map.1 he
    exact ⟨(h.all e' he').1, fun h => by cases h⟩
/-- a call behind which the world that it left is the new beginning; what is known is kept, to be read -/
theorem JL.callr {P : Program} {n : Nat} {w0 : World} {S : List Nat} {ops : Array Oper} {Q : Exit → Act → World → Prop} {l : List Oper} {E : Env} {M : List Ent} {d : Nat} {ty : TypeId} {pos : String} {aft : Array Edge} {ι : Type} (vf : ι → Value) (F : ι → World → Prop)
    {f : FuncId} {xs : List Operand} {ats : Array TypeId} {vs : List Value} (hg : Goes P f) (hx : evs E xs = some vs) (hd : Nat.blt d n = true)
    (hc : ∀ w1, Holds w0 S M w1 → Calls P f vs.toArray w1 fun e w2 => ∃ i, e = .returned (vf i) ∧ Ext w1 w2 ∧ F i w2)
    (k : ∀ i w1, Holds w0 S M w1 → F i w1 → JL P n w1 [] ops Q l ((d, vf i) :: E) (ro M)) : JL P n w0 S ops Q (⟨some d, .call ⟨.value (.func f), xs.toArray, ats⟩, ty, pos, aft, none⟩ :: l) E M :=
  ⟨fun a w ha hw => wpList_plain rfl fun K hK => by
    unfold Oper.wp
    rw [exec_call hg ha hx w]
    exact (hc w hw).mono fun e w' ⟨i, h1, h2, h3⟩ => by
      subst h1
      exact hK _ _ ((k i w' (hw.ext h2) h3).go _ _ (ha.put d _ hd) (ro_holds (hw.ext h2)))⟩
/-- all of the first ones, one more -/
theorem all_take {α : Type} (p : α → Bool) (l : List α) (d : α) {i : Nat} (h : i < l.length) : (l.take (i + 1)).all p = ((l.take i).all p && p (l.getD i d)) := by
  rw [List.take_add_one, List.getD_eq_getElem?_getD, List.getElem?_eq_getElem h, List.all_append]
  simp only [Option.toList_some, Option.getD_some, List.all_cons, List.all_nil, Bool.and_true]
theorem all_bad {α : Type} (p : α → Bool) (l : List α) (d : α) {i : Nat} (h : i < l.length) (hb : p (l.getD i d) = false) : l.all p = false := by
  rw [List.all_eq_false]
  refine ⟨l.getD i d, ?_, by rw [hb]; decide⟩
  rw [List.getD_eq_getElem?_getD, List.getElem?_eq_getElem h]
  exact List.getElem_mem h
end Sl
end Go.Proofs.YtchoiikhepjdiaaDoor

/-
  Of no statement by itself: parts of strings (x[i:], x[:j], x[i:j]); for any program P.
  Conditions: each rule's own hypotheses.
-/
namespace Go.Proofs.YtchoiikhepjdiaaDoor
namespace Sl
theorem strB_extract (l : List Bt) (i j : Nat) : (strB l).extract i j = strB ((l.take j).drop i) := by
  apply ByteArray.ext
  rw [ByteArray.data_extract]
  show (l.map UInt8.ofBitVec).toArray.extract i j = (((l.take j).drop i).map UInt8.ofBitVec).toArray
  rw [List.extract_toArray, List.extract_eq_drop_take', List.map_drop, List.map_take]
section
variable {P : Program} {n : Nat} {E : Env} {C : World → Prop} {dst : Option Tmp} {t ty : TypeId} {pos : String} {aft : Array Edge} {g : Option (Nat × Bool)} {x y z : Operand} {l : List Bt}
theorem OQ.subS_lo {i : Nat} (hu : P.underlying t = some .string) (hx : ev E x = some (Z l)) (hy : ev E y = some (N i)) (h : i ≤ l.length) : OQ P n E C ⟨dst, .slice t x (some y) none none, ty, pos, aft, g⟩ (Z (l.drop i)) :=
  OQ.run fun a ha w _ => by
    have h1 := ha.eval hx
    have h2 := ha.eval hy
    have h3 : (underlying t).run P w = .ok .string w := run_underlying hu w
    have h4 := run_slice_string_l w t (strB l) hu .i64 (i : Int) (by omega) (by rw [strB_size]; omega)
    rw [strB_size, strB_extract, List.take_length, Int.toNat_natCast] at h4
    simp [execOp, h1, h2, Instr.sliceAt, Sem.run_bind, h3, h4]
theorem OQ.subS_hi {j : Nat} (hu : P.underlying t = some .string) (hx : ev E x = some (Z l)) (hy : ev E y = some (N j)) (h : j ≤ l.length) : OQ P n E C ⟨dst, .slice t x none (some y) none, ty, pos, aft, g⟩ (Z (l.take j)) :=
  OQ.run fun a ha w _ => by
    have h1 := ha.eval hx
    have h2 := ha.eval hy
    have h3 : (underlying t).run P w = .ok .string w := run_underlying hu w
    have h4 := run_slice_string_h w t (strB l) hu .i64 (j : Int) (by omega) (by rw [strB_size]; omega)
    rw [strB_extract, List.drop_zero, Int.toNat_natCast] at h4
    simp [execOp, h1, h2, Instr.sliceAt, Sem.run_bind, h3, h4]
theorem OQ.subS {i j : Nat} (hu : P.underlying t = some .string) (hx : ev E x = some (Z l)) (hy : ev E y = some (N i)) (hz : ev E z = some (N j)) (h : i ≤ j) (h' : j ≤ l.length) : OQ P n E C ⟨dst, .slice t x (some y) (some z) none, ty, pos, aft, g⟩ (Z ((l.take j).drop i)) :=
  OQ.run fun a ha w _ => by
    have h1 := ha.eval hx
    have h2 := ha.eval hy
    have h5 := ha.eval hz
    have h3 : (underlying t).run P w = .ok .string w := run_underlying hu w
    have h4 := run_slice_string w t (strB l) .i64 .i64 (i : Int) (j : Int) hu (by omega) (by omega) (by rw [strB_size]; omega)
    rw [strB_extract, Int.toNat_natCast, Int.toNat_natCast] at h4
    simp [execOp, h1, h2, h5, Instr.sliceAt, Sem.run_bind, h3, h4]
end
end Sl
end Go.Proofs.YtchoiikhepjdiaaDoor

/-
  Of no statement by itself: rules for function values of one byte, and for labels that are jumped to, over partial knowledge of frame and memory, for any program P.
  Conditions: each rule's own hypotheses.
-/
namespace Go.Proofs.YtchoiikhepjdiaaDoor
set_option maxRecDepth 10000
namespace Sl
/-- a function value of a byte: it answers p, and keeps all blocks -/
def Fun8 (P : Program) (w0 : World) (fv : Value) (p : Bt → Bool) : Prop :=
  ∃ (f : FuncId) (caps : List Value), fv = .func (.func f) #[] caps.toArray ∧ Goes P f ∧ ∀ (c : Bt) (w : World), Ext w0 w → Calls P f (U8 c :: caps).toArray w fun e w' => e = .returned (.bool (p c)) ∧ Ext w w'
theorem Fun8.ext {P : Program} {w0 w1 : World} {fv : Value} {p : Bt → Bool} (h : Fun8 P w0 fv p) (hx : Ext w0 w1) : Fun8 P w1 fv p := by
  obtain ⟨f, caps, h1, h2, h3⟩ := h
  exact ⟨f, caps, h1, h2, fun c w hw => h3 c w (hx.trans hw)⟩
theorem Fun8.holds {P : Program} {w0 w1 : World} {M : List Ent} {fv : Value} {p : Bt → Bool} (h : Fun8 P w0 fv p) (hw : Holds w0 [] M w1) : Fun8 P w1 fv p := h.ext hw.chg
section
variable {P : Program} {n : Nat} {w0 : World} {S : List Nat} {Q Q' : Exit → Act → World → Prop} {E E' : Env} {M M' : List Ent}
variable {dst : Option Tmp} {ty : TypeId} {pos : String} {aft : Array Edge} {g : Option (Nat × Bool)} {x y : Operand} {ats : Array TypeId}
theorem exec_callv {f : FuncId} {caps : List Value} {xs : List Operand} {vs : List Value} {a : Act} (hg : Goes P f) (hk : Knows n E a) (hf : ev E x = some (.func (.func f) #[] caps.toArray)) (hx : evs E xs = some vs) (w : World) :
    (execOp a.eval ⟨dst, .call ⟨.value x, xs.toArray, ats⟩, ty, pos, aft, g⟩).run P w = .ok (.enter f (vs ++ caps).toArray) w := by
  obtain ⟨fn, h1, h2, h3⟩ := hg
  have hm : xs.toArray.map a.eval = vs.toArray := by simp [evs_map hk hx]
  have h2' : ¬ fn.body = none := fun h => by rw [h] at h2; cases h2
  have h3' : ¬ fn.name = "runtime.NumGoroutine" := by simpa using h3
  have hf' := hk.eval hf
  simp [execOp, resolve, Sem.run_bind, hm, hf', Deferred.ofValue, invoke, callFunc, program, Sem.run, h1, h2', h3']
/-- a call of such a function value -/
theorem OQ.callF {fv : Value} {p : Bt → Bool} {c : Bt} {b : Bool} (hF : Fun8 P w0 fv p) (hx : ev E x = some fv) (hy : ev E y = some (U8 c)) (h : p c = b) : OQ P n E (Holds w0 [] M) ⟨dst, .call ⟨.value x, #[y], ats⟩, ty, pos, aft, g⟩ (.bool b) := by
  obtain ⟨f, caps, h1, h2, h3⟩ := hF
  subst h1
  refine ⟨fun a hk w hw => ?_⟩
  have hy' : evs E [y] = some [U8 c] := by simp [evs, hy]
  unfold Oper.quietAt
  rw [show (#[y] : Array Operand) = [y].toArray from rfl, exec_callv (xs := [y]) h2 hk hx hy' w]
  refine ⟨rfl, (h3 c w hw.chg).mono fun e w' ⟨k1, k2⟩ => ⟨?_, hw.ext k2⟩⟩
  rw [k1, h]
theorem OQ.mkF {f : FuncId} {xs : Array Operand} {caps : List Value} (hx : evs E xs.toList = some caps) : OQ P n E (Holds w0 S M) ⟨dst, .makeFunc (.func f) #[] xs, ty, pos, aft, g⟩ (.func (.func f) #[] caps.toArray) := by
  refine OQ.run fun a hk w _ => ?_
  have hm : xs.map a.eval = caps.toArray := by
    have h1 := evs_map hk hx
    rw [← h1]
    apply Array.ext'
    simp
  simp [execOp, Instr.makeFunc, Sem.run_bind, hm]
theorem JC.mono {c : Code} (h : JC P n w0 S Q c E M) (hq : ∀ e a w, Q e a w → Q' e a w) : JC P n w0 S Q' c E M :=
  ⟨fun a w ha hw b k cs => let ⟨e, a', w', h1, h2⟩ := h.go a w ha hw b k cs; ⟨e, a', w', hq e a' w' h1, h2⟩⟩
theorem OQ.neSB {C : World → Prop} {t t' : TypeId} {l r : List Bt} {c : Bool} (hx : ev E x = some (Z l)) (hy : ev E y = some (Z r)) (h : decide (l = r) = c) : OQ P n E C ⟨dst, .binOp .neq t x y t', ty, pos, aft, g⟩ (.bool (!c)) := h ▸ OQ.neS hx hy
theorem OQ.eqSB {C : World → Prop} {t t' : TypeId} {l r : List Bt} {c : Bool} (hx : ev E x = some (Z l)) (hy : ev E y = some (Z r)) (h : decide (l = r) = c) : OQ P n E C ⟨dst, .binOp .eql t x y t', ty, pos, aft, g⟩ (.bool c) := h ▸ OQ.eqS hx hy
/-! ### a label that is jumped to -/
abbrev Jmp (n : Nat) (w0 : World) (S : List Nat) {ι : Type} (Ei : ι → Env) (Mi : ι → List Ent) (p : ι → Prop) : Act → World → Prop := fun a w => ∃ j, p j ∧ Knows n (Ei j) a ∧ Holds w0 S (Mi j) w
theorem JC.scope {ι : Type} (l : Nat) (Ei : ι → Env) (Mi : ι → List Ent) (μ : ι → Nat) (I : ι → Prop) {c rest : Code} (hf : findLabel c l = some rest)
    (first : JC P n w0 S (Exit.jump l (Jmp n w0 S Ei Mi I) Q) c E M)
    (pass : ∀ i, I i → JC P n w0 S (Exit.jump l (Jmp n w0 S Ei Mi fun j => I j ∧ μ j < μ i) Q) rest (Ei i) (Mi i)) : JC P n w0 S Q (.scope c) E M := by
  refine ⟨fun a0 w0' ha0 hw0 b k cs => ?_⟩
  have hg : gotoIn l (.inScope c :: k) = some (.code rest :: .inScope c :: k) := by simp [gotoIn, hf]
  have key : ∀ m i, μ i = m → I i → ∀ a w, Knows n (Ei i) a → Holds w0 S (Mi i) w → ∃ e a' w', Q e a' w' ∧ Arrives P (lone (b.at a (.code rest :: .inScope c :: k)) cs w) b k cs e a' w' := by
    intro m
    induction m using Nat.strongRecOn with
    | _ m ih =>
      intro i hm hI a w ha hw
      obtain ⟨e, a₁, w₁, hq, harr⟩ := (pass i hI).go a w ha hw b (.inScope c :: k) cs
      cases e with
      | normal => exact ⟨.normal, a₁, w₁, hq, Steps.trans harr (.one step_inScope)⟩
      | exit id => exact ⟨.exit id, a₁, w₁, hq, fun k' hk => harr k' (by simp [exitTo, hk])⟩
      | goto l' =>
        obtain ⟨rfl, j, ⟨hJ, hlt⟩, ha₁, hw₁⟩ := hq
        obtain ⟨e₂, a₂, w₂, hq₂, harr₂⟩ := ih (μ j) (by omega) j rfl hJ a₁ w₁ ha₁ hw₁
        exact ⟨e₂, a₂, w₂, hq₂, .of_steps (harr _ hg) harr₂⟩
      | ret => exact ⟨_, a₁, w₁, hq, harr⟩
      | panic ch => exact ⟨_, a₁, w₁, hq, harr⟩
      | outgrown => exact ⟨_, a₁, w₁, hq, harr⟩
  obtain ⟨e, a₁, w₁, hq, harr⟩ := first.go a0 w0' ha0 hw0 b (.inScope c :: k) cs
  cases e with
  | normal => exact ⟨.normal, a₁, w₁, hq, .head step_scope (Steps.trans harr (.one step_inScope))⟩
  | exit id => exact ⟨.exit id, a₁, w₁, hq, fun k' hk => .head step_scope (harr k' (by simp [exitTo, hk]))⟩
  | goto l' =>
    obtain ⟨rfl, j, hJ, ha₁, hw₁⟩ := hq
    obtain ⟨e₂, a₂, w₂, hq₂, harr₂⟩ := key _ j rfl hJ a₁ w₁ ha₁ hw₁
    exact ⟨e₂, a₂, w₂, hq₂, .of_steps (.head step_scope (harr _ hg)) harr₂⟩
  | ret => exact ⟨_, a₁, w₁, hq, .of_steps (.one step_scope) harr⟩
  | panic ch => exact ⟨_, a₁, w₁, hq, .of_steps (.one step_scope) harr⟩
  | outgrown => exact ⟨_, a₁, w₁, hq, .of_steps (.one step_scope) harr⟩
/-- what the passes give serves the way to the label too -/
theorem JC.land {ι : Type} {l : Nat} {Ei : ι → Env} {Mi : ι → List Ent} {I : ι → Prop} {rest : Code} {p : ι → Prop} (h : JC P n w0 S (Exit.jump l (Jmp n w0 S Ei Mi p) Q) rest E' M') (hp : ∀ j, p j → I j) (hE : SubE E E') (hM : Less M' M) :
    JC P n w0 S (Exit.jump l (Jmp n w0 S Ei Mi I) Q) rest E M :=
  (h.mono fun e a w hq => by
    cases e with
    | goto l' => exact ⟨hq.1, let ⟨j, h1, h2⟩ := hq.2; ⟨j, hp j h1, h2⟩⟩
    | _ => exact hq).weak hE hM
theorem JC.goto {l : Nat} (h : JE n w0 S Q (.goto l) E M) : JC P n w0 S Q (.goto l) E M := ⟨fun a w ha hw => wp_goto (h.go a w ha hw)⟩
theorem JE.jump_to {ι : Type} {l : Nat} {Ei : ι → Env} {Mi : ι → List Ent} {p : ι → Prop} (j : ι) (hp : p j) (hE : SubE E (Ei j)) (hM : Less (Mi j) M) : JE n w0 S (Exit.jump l (Jmp n w0 S Ei Mi p) Q) (.goto l) E M :=
  ⟨fun _ _ ha hw => ⟨rfl, j, hp, ha.sub hE, hw.weak hM⟩⟩
theorem JE.jump_ret {l : Nat} {J : Act → World → Prop} (h : JE n w0 S Q .ret E M) : JE n w0 S (Exit.jump l J Q) .ret E M := ⟨h.go⟩
theorem JE.jump_normal {l : Nat} {J : Act → World → Prop} (h : JE n w0 S Q .normal E M) : JE n w0 S (Exit.jump l J Q) .normal E M := ⟨h.go⟩
theorem JE.then_goto {K : Act → World → Prop} {l : Nat} (h : JE n w0 S Q (.goto l) E M) : JE n w0 S (Exit.then K Q) (.goto l) E M := ⟨h.go⟩
theorem JE.blk_goto {id l : Nat} (h : JE n w0 S Q (.goto l) E M) : JE n w0 S (Exit.inBlock id Q) (.goto l) E M := ⟨h.go⟩
end
end Sl
end Go.Proofs.YtchoiikhepjdiaaDoor

/-
  Of no statement by itself: facts of the program's types that many texts use.
  Conditions: none.
-/
namespace Go.Proofs.YtchoiikhepjdiaaDoor
set_option maxRecDepth 10000
open Sl
theorem mixT : Tryd.prog.follows .mixedOrders = true := by kernel_rfl
theorem u8s : szT Tryd.prog 5 = some 1 := by kernel_rfl
theorem u8c : scal Tryd.prog 5 = true := by kernel_rfl
theorem u8e : EI Tryd.prog 5 (.int .u8 0) 1 1 := by unfold EI; kernel_rfl
end Go.Proofs.YtchoiikhepjdiaaDoor

/-
  Of no statement by itself: strings.Trim, TrimLeft, IndexAny at the two blanks, by the library's contracts over any program; strings.IndexByte, Cut at one byte by their bodies.
  Conditions: each theorem's own.
-/
namespace Go.Proofs.YtchoiikhepjdiaaDoor
set_option maxRecDepth 10000
open Sl Fld Go.Shelf
theorem below_ext {w w' : World} (h : RowKit.Below w.heap.size w w') : Ext w w' := ⟨h.os, h.tape, h.output, h.size, fun k hk _ => h.block k hk⟩
theorem set_info : (Tryd.prog.info? 91).map (fun i => (i.zero, i.size)) = some (some (.agg (Array.replicate 256 (.bool false))), 256) := by kernel_rfl
def blanks2 : List Bt := [32, 9]
theorem blanks2_ok : ∀ (j : Nat) b, (strB [32, 9]).data.toList[j]? = some b → b.toNat < 128 := ascii_of_all (by decide)
def trimLaysRen : Ren := ⟨fun | 160 => 42 | 232 => 79 | 231 => 78 | 227 => 80 | 234 => 82 | 233 => 81 | 236 => 84 | 235 => 83 | 228 => 107 | 271 => 110 | 151 => 109 | 197 => 108 | 120 => 130 | 152 => 105 | 260 => 129 | 137 => 89 | 119 => 126 | 224 => 127 | 225 => 128 | 217 => 114 | 266 => 135 | n => n,
  fun | 9 => 9 | 4 => 4 | 3 => 3 | 5 => 5 | 117 => 92 | 116 => 91 | 0 => 0 | 124 => 95 | 21 => 21 | 105 => 117 | 46 => 129 | 119 => 139 | 139 => 142 | 138 => 141 | n => n,
  fun | 3 => 2 | 4 => 3 | n => n⟩
theorem trimLays : Lays.n160 Tryd.prog trimLaysRen := {
  mixed := by kernel_rfl
  f119 := Tryd.func126.trans (congrArg some (by kernel_rfl))
  f120 := Tryd.func130.trans (congrArg some (by kernel_rfl))
  f137 := Tryd.func89.trans (congrArg some (by kernel_rfl))
  f151 := Tryd.func109.trans (congrArg some (by kernel_rfl))
  f152 := Tryd.func105.trans (congrArg some (by kernel_rfl))
  f160 := Tryd.func42.trans (congrArg some (by kernel_rfl))
  f197 := Tryd.func108.trans (congrArg some (by kernel_rfl))
  f217 := Tryd.func114.trans (congrArg some (by kernel_rfl))
  f224 := Tryd.func127.trans (congrArg some (by kernel_rfl))
  f225 := Tryd.func128.trans (congrArg some (by kernel_rfl))
  f227 := Tryd.func80.trans (congrArg some (by kernel_rfl))
  f228 := Tryd.func107.trans (congrArg some (by kernel_rfl))
  f231 := Tryd.func78.trans (congrArg some (by kernel_rfl))
  f232 := Tryd.func79.trans (congrArg some (by kernel_rfl))
  f233 := Tryd.func81.trans (congrArg some (by kernel_rfl))
  f234 := Tryd.func82.trans (congrArg some (by kernel_rfl))
  f235 := Tryd.func83.trans (congrArg some (by kernel_rfl))
  f236 := Tryd.func84.trans (congrArg some (by kernel_rfl))
  f260 := Tryd.func129.trans (congrArg some (by kernel_rfl))
  f266 := Tryd.func135.trans (congrArg some (by kernel_rfl))
  f271 := Tryd.func110.trans (congrArg some (by kernel_rfl))
  t0 := Tryd.underlying0
  a0 := Tryd.isAgg0
  z0 := Tryd.sizeOf0
  v0 := Tryd.zeroValue0
  t3 := Tryd.underlying3
  a3 := Tryd.isAgg3
  z3 := Tryd.sizeOf3
  v3 := Tryd.zeroValue3
  t4 := Tryd.underlying4
  a4 := Tryd.isAgg4
  z4 := Tryd.sizeOf4
  v4 := Tryd.zeroValue4
  t5 := Tryd.underlying5
  a5 := Tryd.isAgg5
  z5 := Tryd.sizeOf5
  v5 := Tryd.zeroValue5
  t9 := Tryd.underlying9
  a9 := Tryd.isAgg9
  z9 := Tryd.sizeOf9
  v9 := Tryd.zeroValue9
  t21 := Tryd.underlying21
  a21 := Tryd.isAgg21
  z21 := Tryd.sizeOf21
  v21 := Tryd.zeroValue21
  t46 := Tryd.underlying129
  a46 := Tryd.isAgg129
  z46 := Tryd.sizeOf129
  v46 := Tryd.zeroValue129
  t105 := Tryd.underlying117
  a105 := Tryd.isAgg117
  z105 := Tryd.sizeOf117
  v105 := Tryd.zeroValue117
  t116 := Tryd.underlying91
  a116 := Tryd.isAgg91
  z116 := Tryd.sizeOf91
  t117 := Tryd.underlying92
  a117 := Tryd.isAgg92
  z117 := Tryd.sizeOf92
  v117 := Tryd.zeroValue92
  t119 := Tryd.underlying139
  a119 := Tryd.isAgg139
  z119 := Tryd.sizeOf139
  t124 := Tryd.underlying95
  a124 := Tryd.isAgg95
  z124 := Tryd.sizeOf95
  v124 := Tryd.zeroValue95
  t138 := Tryd.underlying141
  a138 := Tryd.isAgg141
  z138 := Tryd.sizeOf141
  v138 := Tryd.zeroValue141
  t139 := Tryd.underlying142
  a139 := Tryd.isAgg142
  z139 := Tryd.sizeOf142
  v139 := Tryd.zeroValue142
  g3 := by kernel_rfl
  g4 := by kernel_rfl }
theorem goes_trimw : Goes Tryd.prog 42 := ⟨_, Tryd.func42, rfl, by kernel_rfl⟩
theorem trimw_any (s : List Bt) (w : World) (hl : s.length < 9223372036854775808) : Calls Tryd.prog 42 [Z s, Z [32, 9]].toArray w fun e w' => e = .returned (Z (trim s)) ∧ Ext w w' :=
  (Any.strings_Trim_laid trimLays set_info (strB s) (strB [32, 9]) w (by rw [strB_size]; omega) (by decide) blanks2_ok).mono fun e w' ⟨h1, h2⟩ => ⟨by
    rw [h1, strB_list, strB_list, trim_u8, u8s_str], below_ext h2⟩
def trimlLaysRen : Ren := ⟨fun | 161 => 65 | 231 => 78 | 227 => 80 | 233 => 81 | 235 => 83 | 228 => 107 | 197 => 108 | 151 => 109 | 260 => 129 | 152 => 105 | 137 => 89 | 119 => 126 | 224 => 127 | 225 => 128 | 217 => 114 | 266 => 135 | n => n,
  fun | 9 => 9 | 4 => 4 | 3 => 3 | 5 => 5 | 117 => 92 | 116 => 91 | 0 => 0 | 124 => 95 | 105 => 117 | 21 => 21 | 119 => 139 | 46 => 129 | 139 => 142 | 138 => 141 | n => n,
  fun | 3 => 2 | 4 => 3 | n => n⟩
theorem trimlLays : Lays.n161 Tryd.prog trimlLaysRen := {
  mixed := by kernel_rfl
  f119 := Tryd.func126.trans (congrArg some (by kernel_rfl))
  f137 := Tryd.func89.trans (congrArg some (by kernel_rfl))
  f151 := Tryd.func109.trans (congrArg some (by kernel_rfl))
  f152 := Tryd.func105.trans (congrArg some (by kernel_rfl))
  f161 := Tryd.func65.trans (congrArg some (by kernel_rfl))
  f197 := Tryd.func108.trans (congrArg some (by kernel_rfl))
  f217 := Tryd.func114.trans (congrArg some (by kernel_rfl))
  f224 := Tryd.func127.trans (congrArg some (by kernel_rfl))
  f225 := Tryd.func128.trans (congrArg some (by kernel_rfl))
  f227 := Tryd.func80.trans (congrArg some (by kernel_rfl))
  f228 := Tryd.func107.trans (congrArg some (by kernel_rfl))
  f231 := Tryd.func78.trans (congrArg some (by kernel_rfl))
  f233 := Tryd.func81.trans (congrArg some (by kernel_rfl))
  f235 := Tryd.func83.trans (congrArg some (by kernel_rfl))
  f260 := Tryd.func129.trans (congrArg some (by kernel_rfl))
  f266 := Tryd.func135.trans (congrArg some (by kernel_rfl))
  t0 := Tryd.underlying0
  a0 := Tryd.isAgg0
  z0 := Tryd.sizeOf0
  v0 := Tryd.zeroValue0
  t3 := Tryd.underlying3
  a3 := Tryd.isAgg3
  z3 := Tryd.sizeOf3
  v3 := Tryd.zeroValue3
  t4 := Tryd.underlying4
  a4 := Tryd.isAgg4
  z4 := Tryd.sizeOf4
  v4 := Tryd.zeroValue4
  t5 := Tryd.underlying5
  a5 := Tryd.isAgg5
  z5 := Tryd.sizeOf5
  v5 := Tryd.zeroValue5
  t9 := Tryd.underlying9
  a9 := Tryd.isAgg9
  z9 := Tryd.sizeOf9
  v9 := Tryd.zeroValue9
  t21 := Tryd.underlying21
  a21 := Tryd.isAgg21
  z21 := Tryd.sizeOf21
  v21 := Tryd.zeroValue21
  t46 := Tryd.underlying129
  a46 := Tryd.isAgg129
  z46 := Tryd.sizeOf129
  v46 := Tryd.zeroValue129
  t105 := Tryd.underlying117
  a105 := Tryd.isAgg117
  z105 := Tryd.sizeOf117
  v105 := Tryd.zeroValue117
  t116 := Tryd.underlying91
  a116 := Tryd.isAgg91
  z116 := Tryd.sizeOf91
  t117 := Tryd.underlying92
  a117 := Tryd.isAgg92
  z117 := Tryd.sizeOf92
  v117 := Tryd.zeroValue92
  t119 := Tryd.underlying139
  a119 := Tryd.isAgg139
  z119 := Tryd.sizeOf139
  t124 := Tryd.underlying95
  a124 := Tryd.isAgg95
  z124 := Tryd.sizeOf95
  v124 := Tryd.zeroValue95
  t138 := Tryd.underlying141
  a138 := Tryd.isAgg141
  z138 := Tryd.sizeOf141
  v138 := Tryd.zeroValue141
  t139 := Tryd.underlying142
  a139 := Tryd.isAgg142
  z139 := Tryd.sizeOf142
  v139 := Tryd.zeroValue142
  g3 := by kernel_rfl
  g4 := by kernel_rfl }
theorem goes_triml : Goes Tryd.prog 65 := ⟨_, Tryd.func65, rfl, by kernel_rfl⟩
theorem triml_any (s : List Bt) (w : World) : Calls Tryd.prog 65 [Z s, Z [32, 9]].toArray w fun e w' => e = .returned (Z (trimL s)) ∧ Ext w w' :=
  (Any.strings_TrimLeft_laid trimlLays set_info (strB s) (strB [32, 9]) w (by decide) blanks2_ok).mono fun e w' ⟨h1, h2⟩ => ⟨by
    rw [h1, strB_list, strB_list, trimL_u8, u8s_str], below_ext h2⟩
def ixanyLaysRen : Ren := ⟨fun | 153 => 77 | 152 => 105 | 226 => 106 | 227 => 80 | 228 => 107 | 137 => 89 | 119 => 126 | 224 => 127 | 225 => 128 | 217 => 114 | 266 => 135 | n => n,
  fun | 9 => 9 | 3 => 3 | 4 => 4 | 5 => 5 | 21 => 21 | 117 => 92 | 116 => 91 | 0 => 0 | 46 => 129 | 124 => 95 | n => n,
  fun n => n⟩
theorem ixanyLays : Lays.n153 Tryd.prog ixanyLaysRen := {
  mixed := by kernel_rfl
  f119 := Tryd.func126.trans (congrArg some (by kernel_rfl))
  f137 := Tryd.func89.trans (congrArg some (by kernel_rfl))
  f152 := Tryd.func105.trans (congrArg some (by kernel_rfl))
  f153 := Tryd.func77.trans (congrArg some (by kernel_rfl))
  f217 := Tryd.func114.trans (congrArg some (by kernel_rfl))
  f224 := Tryd.func127.trans (congrArg some (by kernel_rfl))
  f225 := Tryd.func128.trans (congrArg some (by kernel_rfl))
  f226 := Tryd.func106.trans (congrArg some (by kernel_rfl))
  f227 := Tryd.func80.trans (congrArg some (by kernel_rfl))
  f228 := Tryd.func107.trans (congrArg some (by kernel_rfl))
  f266 := Tryd.func135.trans (congrArg some (by kernel_rfl))
  t0 := Tryd.underlying0
  a0 := Tryd.isAgg0
  z0 := Tryd.sizeOf0
  v0 := Tryd.zeroValue0
  t3 := Tryd.underlying3
  a3 := Tryd.isAgg3
  z3 := Tryd.sizeOf3
  v3 := Tryd.zeroValue3
  t4 := Tryd.underlying4
  a4 := Tryd.isAgg4
  z4 := Tryd.sizeOf4
  v4 := Tryd.zeroValue4
  t5 := Tryd.underlying5
  a5 := Tryd.isAgg5
  z5 := Tryd.sizeOf5
  v5 := Tryd.zeroValue5
  t9 := Tryd.underlying9
  a9 := Tryd.isAgg9
  z9 := Tryd.sizeOf9
  v9 := Tryd.zeroValue9
  t21 := Tryd.underlying21
  a21 := Tryd.isAgg21
  z21 := Tryd.sizeOf21
  v21 := Tryd.zeroValue21
  t46 := Tryd.underlying129
  a46 := Tryd.isAgg129
  z46 := Tryd.sizeOf129
  v46 := Tryd.zeroValue129
  t116 := Tryd.underlying91
  a116 := Tryd.isAgg91
  z116 := Tryd.sizeOf91
  t117 := Tryd.underlying92
  a117 := Tryd.isAgg92
  z117 := Tryd.sizeOf92
  v117 := Tryd.zeroValue92
  t124 := Tryd.underlying95
  a124 := Tryd.isAgg95
  z124 := Tryd.sizeOf95
  v124 := Tryd.zeroValue95 }
theorem goes_ixany : Goes Tryd.prog 77 := ⟨_, Tryd.func77, rfl, by kernel_rfl⟩
theorem ixany_any (s : List Bt) (w : World) (hl : s.length < 4294967281) (hs : ∀ c ∈ s, c.toNat < 128) : Calls Tryd.prog 77 [Z s, Z [32, 9]].toArray w fun e w' => e = .returned (I (ixB s)) ∧ Ext w w' :=
  (Any.strings_IndexAny_laid ixanyLays set_info (strB s) (strB [32, 9]) w (by rw [strB_size]; exact hl) (by decide) (fun j b hb => by
    rw [strB_list] at hb
    obtain ⟨c, hc, rfl⟩ := List.mem_map.1 (List.mem_of_getElem? hb)
    exact hs c hc) blanks2_ok).mono fun e w' ⟨h1, h2⟩ => ⟨by
    rw [h1, strB_list, strB_list, indexAny_u8], below_ext h2⟩
/-! ### one byte's first place, by the bodies and the model's own entry -/
structure IsIdxS (P : Program) (f : FuncId) : Prop where
  go : ∃ fn, P.funcs[f]? = some fn ∧ (fn.name == "runtime.NumGoroutine") = false ∧ fn.body.isNone = true ∧ Extern.findNext fn = none ∧ Extern.find fn = some Extern.BytealgIndexByte.indexByte
theorem OQ.idxs {P : Program} {n : Nat} {E : Env} {C : World → Prop} {dst : Option Tmp} {ty : TypeId} {pos : String} {aft : Array Edge} {g : Option (Nat × Bool)} {f : FuncId} {ats : Array TypeId} {x y : Operand} {s : List Bt} {c : Bt} (hf : IsIdxS P f) (hx : ev E x = some (Z s)) (hy : ev E y = some (U8 c)) :
    OQ P n E C ⟨dst, .call ⟨.value (.func f), #[x, y], ats⟩, ty, pos, aft, g⟩ (I (ixC c s)) := by
  refine ⟨fun ac hk w hw => ?_⟩
  obtain ⟨fn, h1, h2, h3, h4, h5⟩ := hf.go
  have r := run_callFunc_extern h1 h2 h3 h4 h5 #[Z s, U8 c] w
  rw [run_indexByte_string, first_is] at r
  unfold Oper.quietAt
  have r' : (execOp ac.eval ⟨dst, .call ⟨.value (.func f), #[x, y], ats⟩, ty, pos, aft, g⟩).run P w = .ok (.value (I (ixC c s))) w := by
    simp only [Result.andThen] at r
    have k1 := hk.eval hx
    have k2 := hk.eval hy
    have e : (.ok (.value (I (ixC c s))) w : Result Next) = (callFunc f #[Z s, U8 c]).run P w := r.symm
    rw [e]
    simp [execOp, resolve, Sem.run_bind, Act.eval, Deferred.ofValue, invoke, k1, k2]
    simp [Act.eval] at k1 k2
    simp [k1, k2]
  rw [r']
  exact ⟨rfl, rfl⟩
theorem is_idxs : IsIdxS Tryd.prog 135 := ⟨_, Tryd.func135, rfl, rfl, by kernel_rfl, by kernel_rfl⟩
theorem goes_sidx : Goes Tryd.prog 114 := ⟨_, Tryd.func114, rfl, by kernel_rfl⟩
theorem goes_idxb : Goes Tryd.prog 89 := ⟨_, Tryd.func89, rfl, by kernel_rfl⟩
theorem sidx_any (s : List Bt) (c : Bt) (w : World) : Calls Tryd.prog 114 [Z s, U8 c].toArray w fun e w' => e = .returned (I (ixC c s)) ∧ Ext w w' := by
  refine enter (n := 8) Tryd.func114 rfl rfl rfl (Holds.start w []) ?_
  repeat (first | refine JL.q (by first | (apply OQ.idxs; exact is_idxs; exact rfl; exact rfl) | (apply OQ.move; exact rfl) | (apply OQ.assign; exact rfl)) rfl ?_ | refine JC.seq ?_ | refine JC.region ?_ | refine JC.block ?_ | refine JC.skip ?_ | refine JC.exit ?_ | refine JL.nil ?_ | refine JE.next ?_ | refine JE.blk_normal ?_ | refine JE.then_exit ?_ | refine JE.blk_hit ?_ | refine JE.blk_miss rfl ?_ | refine JE.then_ret ?_ | refine JE.blk_ret ?_ | refine JC.label ?_ | refine JL.gon rfl rfl ?_ | refine JL.gskip rfl rfl rfl rfl ?_ | refine JL.gskipU rfl rfl rfl rfl ?_)
  exact JC.ret (JE.ret1 rfl (RV.tmp rfl) fun w' hw => ⟨rfl, hw.chg⟩)
theorem idxb_any (s : List Bt) (c : Bt) (w : World) : Calls Tryd.prog 89 [Z s, U8 c].toArray w fun e w' => e = .returned (I (ixC c s)) ∧ Ext w w' := by
  refine enter (n := 8) Tryd.func89 rfl rfl rfl (Holds.start w []) ?_
  repeat (first | refine JL.q (by first | (apply OQ.callx; exact goes_sidx; exact rfl; exact (fun w' _ => sidx_any s c w')) | (apply OQ.move; exact rfl) | (apply OQ.assign; exact rfl)) rfl ?_ | refine JC.seq ?_ | refine JC.region ?_ | refine JC.block ?_ | refine JC.skip ?_ | refine JC.exit ?_ | refine JL.nil ?_ | refine JE.next ?_ | refine JE.blk_normal ?_ | refine JE.then_exit ?_ | refine JE.blk_hit ?_ | refine JE.blk_miss rfl ?_ | refine JE.then_ret ?_ | refine JE.blk_ret ?_ | refine JC.label ?_ | refine JL.gon rfl rfl ?_ | refine JL.gskip rfl rfl rfl rfl ?_ | refine JL.gskipU rfl rfl rfl rfl ?_)
  exact JC.ret (JE.ret1 rfl (RV.tmp rfl) fun w' hw => ⟨rfl, hw.chg⟩)
/-! ### texts cut at a byte -/
theorem goes_sindex : Goes Tryd.prog 116 := ⟨_, Tryd.func116, rfl, by kernel_rfl⟩
theorem goes_scut : Goes Tryd.prog 93 := ⟨_, Tryd.func93, rfl, by kernel_rfl⟩
theorem goes_cutw : Goes Tryd.prog 59 := ⟨_, Tryd.func59, rfl, by kernel_rfl⟩
theorem ixC_one (c : Bt) : ixC c [c] = 0 := by simp [ixC, fi]
theorem sindex_any (s : List Bt) (c : Bt) (w : World) : Calls Tryd.prog 116 [Z s, Z [c]].toArray w fun e w' => e = .returned (I (ixC c s)) ∧ Ext w w' := by
  refine enter (n := 143) Tryd.func116 rfl rfl rfl (Holds.start w []) ?_
  cases h : decide ([c] = s)
  · repeat (first | refine JL.q (by first | (apply OQ.lenS; exact Tryd.underlying9; exact rfl) | (apply OQ.eqB (a := 1) (b := 0); exact rfl; exact rfl; exact rfl) | (apply OQ.eqSB; exact rfl; exact rfl; exact h) | (apply OQ.pick_f; exact rfl; exact rfl) | (apply OQ.move; exact rfl) | (apply OQ.assign; exact rfl)) rfl ?_ | refine JC.seq ?_ | refine JC.region ?_ | refine JC.block ?_ | refine JC.skip ?_ | refine JC.exit ?_ | refine JL.nil ?_ | refine JE.next ?_ | refine JE.blk_normal ?_ | refine JE.then_exit ?_ | refine JE.blk_hit ?_ | refine JE.blk_miss rfl ?_ | refine JE.then_ret ?_ | refine JE.blk_ret ?_ | refine JC.label ?_ | refine JL.gon rfl rfl ?_ | refine JL.gskip rfl rfl rfl rfl ?_ | refine JL.gskipU rfl rfl rfl rfl ?_)
    refine JC.cond rfl (fun h => by cases h) (fun _ => ?_)
    repeat (first | refine JL.q (by first | (apply OQ.eqB (a := 1) (b := 1); exact rfl; exact rfl; exact rfl) | (apply OQ.move; exact rfl) | (apply OQ.assign; exact rfl)) rfl ?_ | refine JC.seq ?_ | refine JC.region ?_ | refine JC.block ?_ | refine JC.skip ?_ | refine JC.exit ?_ | refine JL.nil ?_ | refine JE.next ?_ | refine JE.blk_normal ?_ | refine JE.then_exit ?_ | refine JE.blk_hit ?_ | refine JE.blk_miss rfl ?_ | refine JE.then_ret ?_ | refine JE.blk_ret ?_ | refine JC.label ?_ | refine JL.gon rfl rfl ?_ | refine JL.gskip rfl rfl rfl rfl ?_ | refine JL.gskipU rfl rfl rfl rfl ?_)
    refine JC.cond rfl (fun _ => ?_) (fun h => by cases h)
    repeat (first | refine JL.q (by first | (apply OQ.idxZ (l := [c]) (i := 0); exact Tryd.underlying9; exact rfl; exact rfl; exact (Nat.zero_lt_succ 0)) | (apply OQ.callx (vs := [Z s, U8 c]); exact goes_sidx; exact rfl; exact (fun w' _ => sidx_any s c w')) | (apply OQ.move; exact rfl) | (apply OQ.assign; exact rfl)) rfl ?_ | refine JC.seq ?_ | refine JC.region ?_ | refine JC.block ?_ | refine JC.skip ?_ | refine JC.exit ?_ | refine JL.nil ?_ | refine JE.next ?_ | refine JE.blk_normal ?_ | refine JE.then_exit ?_ | refine JE.blk_hit ?_ | refine JE.blk_miss rfl ?_ | refine JE.then_ret ?_ | refine JE.blk_ret ?_ | refine JC.label ?_ | refine JL.gon rfl rfl ?_ | refine JL.gskip rfl rfl rfl rfl ?_ | refine JL.gskipU rfl rfl rfl rfl ?_)
    refine JC.ret ?_
    repeat (first | refine JL.q (by first | (apply OQ.move; exact rfl) | (apply OQ.assign; exact rfl)) rfl ?_ | refine JC.seq ?_ | refine JC.region ?_ | refine JC.block ?_ | refine JC.skip ?_ | refine JC.exit ?_ | refine JL.nil ?_ | refine JE.next ?_ | refine JE.blk_normal ?_ | refine JE.then_exit ?_ | refine JE.blk_hit ?_ | refine JE.blk_miss rfl ?_ | refine JE.then_ret ?_ | refine JE.blk_ret ?_ | refine JC.label ?_ | refine JL.gon rfl rfl ?_ | refine JL.gskip rfl rfl rfl rfl ?_ | refine JL.gskipU rfl rfl rfl rfl ?_)
    exact JE.ret1 rfl (RV.tmp rfl) fun w' hw => ⟨rfl, hw.chg⟩
  · obtain rfl := of_decide_eq_true h
    rw [ixC_one]
    repeat (first | refine JL.q (by first | (apply OQ.lenS; exact Tryd.underlying9; exact rfl) | (apply OQ.eqB (a := 1) (b := 0); exact rfl; exact rfl; exact rfl) | (apply OQ.eqSB; exact rfl; exact rfl; exact h) | (apply OQ.pick_f; exact rfl; exact rfl) | (apply OQ.move; exact rfl) | (apply OQ.assign; exact rfl)) rfl ?_ | refine JC.seq ?_ | refine JC.region ?_ | refine JC.block ?_ | refine JC.skip ?_ | refine JC.exit ?_ | refine JL.nil ?_ | refine JE.next ?_ | refine JE.blk_normal ?_ | refine JE.then_exit ?_ | refine JE.blk_hit ?_ | refine JE.blk_miss rfl ?_ | refine JE.then_ret ?_ | refine JE.blk_ret ?_ | refine JC.label ?_ | refine JL.gon rfl rfl ?_ | refine JL.gskip rfl rfl rfl rfl ?_ | refine JL.gskipU rfl rfl rfl rfl ?_)
    refine JC.cond rfl (fun _ => ?_) (fun h => by cases h)
    repeat (first | refine JL.q (by first | (apply OQ.move; exact rfl) | (apply OQ.assign; exact rfl)) rfl ?_ | refine JC.seq ?_ | refine JC.region ?_ | refine JC.block ?_ | refine JC.skip ?_ | refine JC.exit ?_ | refine JL.nil ?_ | refine JE.next ?_ | refine JE.blk_normal ?_ | refine JE.then_exit ?_ | refine JE.blk_hit ?_ | refine JE.blk_miss rfl ?_ | refine JE.then_ret ?_ | refine JE.blk_ret ?_ | refine JC.label ?_ | refine JL.gon rfl rfl ?_ | refine JL.gskip rfl rfl rfl rfl ?_ | refine JL.gskipU rfl rfl rfl rfl ?_)
    refine JC.ret ?_
    repeat (first | refine JL.q (by first | (apply OQ.move; exact rfl) | (apply OQ.assign; exact rfl)) rfl ?_ | refine JC.seq ?_ | refine JC.region ?_ | refine JC.block ?_ | refine JC.skip ?_ | refine JC.exit ?_ | refine JL.nil ?_ | refine JE.next ?_ | refine JE.blk_normal ?_ | refine JE.then_exit ?_ | refine JE.blk_hit ?_ | refine JE.blk_miss rfl ?_ | refine JE.then_ret ?_ | refine JE.blk_ret ?_ | refine JC.label ?_ | refine JL.gon rfl rfl ?_ | refine JL.gskip rfl rfl rfl rfl ?_ | refine JL.gskipU rfl rfl rfl rfl ?_)
    exact JE.ret1 rfl (RV.tmp rfl) fun w' hw => ⟨rfl, hw.chg⟩
/-- what a cut at a byte tells -/
def cutV (c : Bt) (s : List Bt) : Value := if fi c s < s.length then .tuple #[Z (s.take (fi c s)), Z (s.drop (fi c s + 1)), .bool true] else .tuple #[Z s, Z [], .bool false]
theorem scut_any (s : List Bt) (c : Bt) (w : World) (hl : s.length < 9223372036854775807) : Calls Tryd.prog 93 [Z s, Z [c]].toArray w fun e w' => e = .returned (cutV c s) ∧ Ext w w' := by
  refine enter (n := 23) Tryd.func93 rfl rfl rfl (Holds.start w []) ?_
  by_cases h : fi c s < s.length
  · have e1 : ixC c s = (fi c s : Nat) := if_pos h
    have hq : ∀ w', Calls Tryd.prog 116 [Z s, Z [c]].toArray w' fun e w2 => e = .returned (N (fi c s)) ∧ Ext w' w2 := fun w' => by
      have := sindex_any s c w'
      rw [e1] at this
      exact this
    have hle : fi c s ≤ s.length := by omega
    have hle1 : fi c s + 1 ≤ s.length := h
    rw [show cutV c s = _ from if_pos h]
    generalize fi c s = k at hq hle hle1
    repeat (first | refine JL.q (by first | (apply OQ.callx (vs := [Z s, Z [c]]); exact goes_sindex; exact rfl; exact (fun w' _ => hq w')) | (apply OQ.move; exact rfl) | (apply OQ.assign; exact rfl)) rfl ?_ | refine JC.seq ?_ | refine JC.region ?_ | refine JC.block ?_ | refine JC.skip ?_ | refine JC.exit ?_ | refine JL.nil ?_ | refine JE.next ?_ | refine JE.blk_normal ?_ | refine JE.then_exit ?_ | refine JE.blk_hit ?_ | refine JE.blk_miss rfl ?_ | refine JE.then_ret ?_ | refine JE.blk_ret ?_ | refine JC.label ?_ | refine JL.gon rfl rfl ?_ | refine JL.gskip rfl rfl rfl rfl ?_ | refine JL.gskipU rfl rfl rfl rfl ?_)
    repeat (first | refine JL.q (by first | (apply OQ.geqN; exact rfl; exact rfl) | (apply OQ.move; exact rfl) | (apply OQ.assign; exact rfl)) rfl ?_ | refine JC.seq ?_ | refine JC.region ?_ | refine JC.block ?_ | refine JC.skip ?_ | refine JC.exit ?_ | refine JL.nil ?_ | refine JE.next ?_ | refine JE.blk_normal ?_ | refine JE.then_exit ?_ | refine JE.blk_hit ?_ | refine JE.blk_miss rfl ?_ | refine JE.then_ret ?_ | refine JE.blk_ret ?_ | refine JC.label ?_ | refine JL.gon rfl rfl ?_ | refine JL.gskip rfl rfl rfl rfl ?_ | refine JL.gskipU rfl rfl rfl rfl ?_)
    refine JC.cond_true rfl (decide_eq_true (Nat.zero_le _)) ?_
    refine JC.seq (JC.quiet mixT (by kernel_rfl) ?_)
    repeat (refine JQ.q (by first | (apply OQ.subS_hi; exact Tryd.underlying9; exact rfl; exact rfl; exact hle) | (apply OQ.lenS; exact Tryd.underlying9; exact rfl) | (apply OQ.addN (b := 1); exact rfl; exact rfl; exact (by omega)) | (apply OQ.subS_lo; exact Tryd.underlying9; exact rfl; exact rfl; exact hle1) | (apply OQ.move; exact rfl) | (apply OQ.assign; exact rfl)) rfl ?_)
    refine JQ.nil (JE.next ?_)
    refine JC.ret ?_
    repeat (first | refine JL.q (by first | (apply OQ.move; exact rfl) | (apply OQ.assign; exact rfl)) rfl ?_ | refine JQ.q (by first | (apply OQ.move; exact rfl) | (apply OQ.assign; exact rfl)) rfl ?_ | refine JC.seq ?_ | refine JC.region ?_ | refine JC.block ?_ | refine JC.skip ?_ | refine JC.exit ?_ | refine JL.nil ?_ | refine JQ.nil ?_ | refine JQ.nil_tail ?_ | refine JE.next ?_ | refine JE.blk_normal ?_ | refine JE.then_exit ?_ | refine JE.blk_hit ?_ | refine JE.blk_miss rfl ?_ | refine JE.then_ret ?_ | refine JE.blk_ret ?_ | refine JC.label ?_ | refine JL.gon rfl rfl ?_ | refine JQ.gon rfl rfl ?_ | refine JL.gskip rfl rfl rfl rfl ?_ | refine JQ.gskip rfl rfl rfl rfl ?_ | refine JL.gskipU rfl rfl rfl rfl ?_ | refine JQ.gskipU rfl rfl rfl rfl ?_)
    exact JE.ret3 rfl (RV.tmp rfl) (RV.tmp rfl) (RV.tmp rfl) fun w' hw => ⟨rfl, hw.chg⟩
  · have e1 : ixC c s = -1 := if_neg h
    have hq : ∀ w', Calls Tryd.prog 116 [Z s, Z [c]].toArray w' fun e w2 => e = .returned (I (-1)) ∧ Ext w' w2 := fun w' => by
      have := sindex_any s c w'
      rw [e1] at this
      exact this
    rw [show cutV c s = _ from if_neg h]
    repeat (first | refine JL.q (by first | (apply OQ.callx (vs := [Z s, Z [c]]); exact goes_sindex; exact rfl; exact (fun w' _ => hq w')) | (apply OQ.move; exact rfl) | (apply OQ.assign; exact rfl)) rfl ?_ | refine JQ.q (by first | (apply OQ.callx (vs := [Z s, Z [c]]); exact goes_sindex; exact rfl; exact (fun w' _ => hq w')) | (apply OQ.move; exact rfl) | (apply OQ.assign; exact rfl)) rfl ?_ | refine JC.seq ?_ | refine JC.region ?_ | refine JC.block ?_ | refine JC.skip ?_ | refine JC.exit ?_ | refine JL.nil ?_ | refine JQ.nil ?_ | refine JQ.nil_tail ?_ | refine JE.next ?_ | refine JE.blk_normal ?_ | refine JE.then_exit ?_ | refine JE.blk_hit ?_ | refine JE.blk_miss rfl ?_ | refine JE.then_ret ?_ | refine JE.blk_ret ?_ | refine JC.label ?_ | refine JL.gon rfl rfl ?_ | refine JQ.gon rfl rfl ?_ | refine JL.gskip rfl rfl rfl rfl ?_ | refine JQ.gskip rfl rfl rfl rfl ?_ | refine JL.gskipU rfl rfl rfl rfl ?_ | refine JQ.gskipU rfl rfl rfl rfl ?_)
    repeat (first | refine JL.q (by first | (apply OQ.geqB (a := -1) (b := 0); exact rfl; exact rfl; exact rfl) | (apply OQ.move; exact rfl) | (apply OQ.assign; exact rfl)) rfl ?_ | refine JQ.q (by first | (apply OQ.geqB (a := -1) (b := 0); exact rfl; exact rfl; exact rfl) | (apply OQ.move; exact rfl) | (apply OQ.assign; exact rfl)) rfl ?_ | refine JC.seq ?_ | refine JC.region ?_ | refine JC.block ?_ | refine JC.skip ?_ | refine JC.exit ?_ | refine JL.nil ?_ | refine JQ.nil ?_ | refine JQ.nil_tail ?_ | refine JE.next ?_ | refine JE.blk_normal ?_ | refine JE.then_exit ?_ | refine JE.blk_hit ?_ | refine JE.blk_miss rfl ?_ | refine JE.then_ret ?_ | refine JE.blk_ret ?_ | refine JC.label ?_ | refine JL.gon rfl rfl ?_ | refine JQ.gon rfl rfl ?_ | refine JL.gskip rfl rfl rfl rfl ?_ | refine JQ.gskip rfl rfl rfl rfl ?_ | refine JL.gskipU rfl rfl rfl rfl ?_ | refine JQ.gskipU rfl rfl rfl rfl ?_)
    refine JC.cond_false rfl rfl ?_
    repeat (first | refine JL.q (by first | (apply OQ.move; exact rfl) | (apply OQ.assign; exact rfl)) rfl ?_ | refine JQ.q (by first | (apply OQ.move; exact rfl) | (apply OQ.assign; exact rfl)) rfl ?_ | refine JC.seq ?_ | refine JC.region ?_ | refine JC.block ?_ | refine JC.skip ?_ | refine JC.exit ?_ | refine JL.nil ?_ | refine JQ.nil ?_ | refine JQ.nil_tail ?_ | refine JE.next ?_ | refine JE.blk_normal ?_ | refine JE.then_exit ?_ | refine JE.blk_hit ?_ | refine JE.blk_miss rfl ?_ | refine JE.then_ret ?_ | refine JE.blk_ret ?_ | refine JC.label ?_ | refine JL.gon rfl rfl ?_ | refine JQ.gon rfl rfl ?_ | refine JL.gskip rfl rfl rfl rfl ?_ | refine JQ.gskip rfl rfl rfl rfl ?_ | refine JL.gskipU rfl rfl rfl rfl ?_ | refine JQ.gskipU rfl rfl rfl rfl ?_)
    refine JC.ret ?_
    repeat (first | refine JL.q (by first | (apply OQ.move; exact rfl) | (apply OQ.assign; exact rfl)) rfl ?_ | refine JQ.q (by first | (apply OQ.move; exact rfl) | (apply OQ.assign; exact rfl)) rfl ?_ | refine JC.seq ?_ | refine JC.region ?_ | refine JC.block ?_ | refine JC.skip ?_ | refine JC.exit ?_ | refine JL.nil ?_ | refine JQ.nil ?_ | refine JQ.nil_tail ?_ | refine JE.next ?_ | refine JE.blk_normal ?_ | refine JE.then_exit ?_ | refine JE.blk_hit ?_ | refine JE.blk_miss rfl ?_ | refine JE.then_ret ?_ | refine JE.blk_ret ?_ | refine JC.label ?_ | refine JL.gon rfl rfl ?_ | refine JQ.gon rfl rfl ?_ | refine JL.gskip rfl rfl rfl rfl ?_ | refine JQ.gskip rfl rfl rfl rfl ?_ | refine JL.gskipU rfl rfl rfl rfl ?_ | refine JQ.gskipU rfl rfl rfl rfl ?_)
    exact JE.ret3 rfl (RV.tmp rfl) (RV.tmp rfl) (RV.tmp rfl) fun w' hw => ⟨rfl, hw.chg⟩
theorem cutw_any (s : List Bt) (c : Bt) (w : World) (hl : s.length < 9223372036854775807) : Calls Tryd.prog 59 [Z s, Z [c]].toArray w fun e w' => e = .returned (cutV c s) ∧ Ext w w' := by
  refine enter (n := 13) Tryd.func59 rfl rfl rfl (Holds.start w []) ?_
  have hq := fun w' => scut_any s c w' hl
  unfold cutV at hq ⊢
  by_cases h : fi c s < s.length
  · simp only [h, if_true] at hq ⊢
    repeat (first | refine JL.q (by first | (apply OQ.callx (vs := [Z s, Z [c]]); exact goes_scut; exact rfl; exact (fun w' _ => hq w')) | (apply OQ.extract; exact rfl; exact rfl) | (apply OQ.move; exact rfl) | (apply OQ.assign; exact rfl)) rfl ?_ | refine JC.seq ?_ | refine JC.region ?_ | refine JC.block ?_ | refine JC.skip ?_ | refine JC.exit ?_ | refine JL.nil ?_ | refine JE.next ?_ | refine JE.blk_normal ?_ | refine JE.then_exit ?_ | refine JE.blk_hit ?_ | refine JE.blk_miss rfl ?_ | refine JE.then_ret ?_ | refine JE.blk_ret ?_ | refine JC.label ?_ | refine JL.gon rfl rfl ?_ | refine JL.gskip rfl rfl rfl rfl ?_ | refine JL.gskipU rfl rfl rfl rfl ?_)
    exact JC.ret (JE.ret3 rfl (RV.tmp rfl) (RV.tmp rfl) (RV.tmp rfl) fun w' hw => ⟨rfl, hw.chg⟩)
  · simp only [h, if_false] at hq ⊢
    repeat (first | refine JL.q (by first | (apply OQ.callx (vs := [Z s, Z [c]]); exact goes_scut; exact rfl; exact (fun w' _ => hq w')) | (apply OQ.extract; exact rfl; exact rfl) | (apply OQ.move; exact rfl) | (apply OQ.assign; exact rfl)) rfl ?_ | refine JC.seq ?_ | refine JC.region ?_ | refine JC.block ?_ | refine JC.skip ?_ | refine JC.exit ?_ | refine JL.nil ?_ | refine JE.next ?_ | refine JE.blk_normal ?_ | refine JE.then_exit ?_ | refine JE.blk_hit ?_ | refine JE.blk_miss rfl ?_ | refine JE.then_ret ?_ | refine JE.blk_ret ?_ | refine JC.label ?_ | refine JL.gon rfl rfl ?_ | refine JL.gskip rfl rfl rfl rfl ?_ | refine JL.gskipU rfl rfl rfl rfl ?_)
    exact JC.ret (JE.ret3 rfl (RV.tmp rfl) (RV.tmp rfl) (RV.tmp rfl) fun w' hw => ⟨rfl, hw.chg⟩)
end Go.Proofs.YtchoiikhepjdiaaDoor

/-
  Of no statement by itself: a slice that begins as nil and is appended to; over X's partial knowledge, for any program P.
  Conditions: each rule's own hypotheses.
-/
namespace Go.Proofs.YtchoiikhepjdiaaDoor
open Sl
/-- nil, or a slice of the function's own -/
abbrev Acc := Option (Nat × Nat)
def accV (q : Acc) (k : Nat) : Value := match q with
  | none => .slice none 0 0
  | some p => .slice (some ⟨p.1, 0, none⟩) k p.2
def accE (e : TypeId) (q : Acc) (xs : List Value) : List Ent := match q with
  | none => []
  | some p => [⟨p.1, Sl.Own e 1 xs.length p.2 xs, true⟩]
def accS (q : Acc) (l : List Bt) : Sl8 := match q with
  | none => nilS
  | some p => ⟨some ⟨p.1, 0, none⟩, p.2, l⟩
theorem accS_v (q : Acc) (l : List Bt) : (accS q l).v = accV q l.length := by cases q <;> rfl
theorem accS_l {q : Acc} {l : List Bt} (h : q = none → l = []) : (accS q l).l = l := by
  cases q with
  | none => exact (h rfl).symm
  | some p => rfl
theorem accS_none {q : Acc} {l : List Bt} : (accS q l).ad = none → (accS q l).l = [] := by
  cases q with
  | none => intro _; rfl
  | some p => intro h; cases h
theorem accS_ents {e : TypeId} (q : Acc) (l : List Bt) : Less (accS q l).ents (accE e q (l.map U8)) := by
  cases q with
  | none => exact .nil _
  | some p =>
    show Less (Sl8.ents ⟨some ⟨p.1, 0, none⟩, p.2, l⟩) [⟨p.1, Sl.Own e 1 (l.map U8).length p.2 (l.map U8), true⟩]
    rw [List.length_map]
    exact own_less rfl
theorem acc_ok {w0 w : World} {S : List Nat} {M : List Ent} {e : TypeId} {q : Acc} {l : List Bt} (hw : Holds w0 S (accE e q (l.map U8) ++ M) w) : (accS q l).ok w := by
  cases q with
  | none => exact nilS_ok w
  | some p =>
    have hw : Holds w0 S (⟨p.1, Sl.Own e 1 (l.map U8).length p.2 (l.map U8), true⟩ :: M) w := hw
    rw [List.length_map] at hw
    exact ownb_ok hw .here
theorem accE_wr (e : TypeId) (q : Acc) (xs : List Value) : ∀ x ∈ accE e q xs, x.wr = true := by
  intro x hx
  cases q with
  | none => cases hx
  | some p => rw [List.mem_singleton.1 hx]
section
variable {P : Program} {n : Nat} {w0 : World} {S : List Nat} {ops : Array Oper} {Q : Exit → Act → World → Prop} {l : List Oper} {E : Env} {M : List Ent} {d : Nat} {t tx e ty : TypeId} {pos : String} {aft : Array Edge} {x y : Operand}
theorem JL.appendN0 {i : TypeInfo} {ad : Option Addr} {sc : Nat} (hu : P.underlying t = some (.slice e)) (hi : P.info? e = some i) (hx : ev E x = some (.slice none 0 0)) (hy : ev E y = some (.slice ad 0 sc)) (hd : Nat.blt d n = true)
    (kk : JL P n w0 S ops Q l ((d, .slice none 0 0) :: E) M) : JL P n w0 S ops Q (⟨some d, .call ⟨.builtin .append, #[x, y], #[t, t]⟩, ty, pos, aft, none⟩ :: l) E M :=
  ⟨fun a w ha hw => wpList_plain rfl fun K hK => by
    unfold Oper.wp
    simp only [execOp, resolve, invoke, builtin, Sem.run_bind, Sem.run_pure, Result.andThen_ok, List.map_toArray, List.map_cons, List.map_nil, ha.eval hx, ha.eval hy]
    rw [append_none (_t' := t) hu hi (Nat.le_refl 0)]
    exact hK _ _ (kk.go _ _ (ha.put d _ hd) hw)⟩
/-- append onto nil, or onto a slice of the function's own -/
theorem JL.appendQ {z : Value} {by' m sc : Nat} {ad : Option Addr} {xs cs : List Value} (q : Acc) (hu : P.underlying t = some (.slice e)) (hi : EI P e z 1 by') (hq : q = none → xs = []) (hx : ev E x = some (accV q xs.length)) (hy : ev E y = some (.slice ad m sc))
    (hl : cs.length = m) (hr : ∀ w, Holds w0 S (accE e q xs ++ M) w → Reads w ad cs) (h1 : ∀ v ∈ cs, v.oneCell' = true)
    (hzz : z.cells.size = 1) (hsm : (xs.length + m) * by' ≤ 140737488355328) (hsm2 : xs.length + m < 9223372036854775808) (hd : Nat.blt d n = true)
    (kk : ∀ q' : Acc, (q' = none → xs ++ cs = []) → JL P n w0 S ops Q l ((d, accV q' (xs ++ cs).length) :: E) (accE e q' (xs ++ cs) ++ M)) : JL P n w0 S ops Q (⟨some d, .call ⟨.builtin .append, #[x, y], #[t, t]⟩, ty, pos, aft, none⟩ :: l) E (accE e q xs ++ M) := by
  subst hl
  cases q with
  | none =>
    obtain rfl := hq rfl
    cases cs with
    | nil =>
      obtain ⟨i, hi1, _⟩ := hi.get
      exact JL.appendN0 hu hi1 hx hy hd (kk none fun _ => rfl)
    | cons c cs =>
      refine JL.append_nil (cs := c :: cs) hu hi hx hy (by rw [Nat.mul_one]) hr (by simp) hzz (by decide) (by simpa using hsm) (by simpa using hsm2) hd fun b' cap' _ => ?_
      exact kk (some (b', cap')) (fun h => by cases h)
  | some p =>
    have e1 : (xs ++ cs).length = xs.length + cs.length := List.length_append
    refine JL.append (cs := cs) (b := p.1) (cap := p.2) (xs := xs) (fun b' cap' => accE e (some (b', cap')) (xs ++ cs) ++ M) hu hi hx hy (fun b' cap' => ?_) (by rw [Nat.mul_one]) hr h1 hzz (by decide) hsm hsm2 hd fun b' cap' => ?_
    · show Repl (⟨p.1, Sl.Own e 1 xs.length p.2 xs, true⟩ :: M) _ _ _ _ (⟨b', Sl.Own e 1 (xs ++ cs).length cap' (xs ++ cs), true⟩ :: M)
      rw [e1]
      exact .here
    · have := kk (some (b', cap')) (fun h => by cases h)
      show JL P n w0 S ops Q l ((d, .slice (some ⟨b', 0, none⟩) (xs.length + cs.length) cap') :: E) _
      rw [← e1]
      exact this
/-- append of a string's bytes onto nil, or onto a slice of the function's own -/
theorem JL.appendZ {r : List Bt} {xs : List Value} (q : Acc) (hu : P.underlying t = some (.slice e)) (hk : P.underlying tx = some .string) (hi : EI P e (.int .u8 0) 1 1) (hq : q = none → xs = []) (hx : ev E x = some (accV q xs.length)) (hy : ev E y = some (Z r)) (h0 : r ≠ [])
    (hsm : (xs.length + r.length) ≤ 140737488355328) (hd : Nat.blt d n = true)
    (kk : ∀ p : Nat × Nat, JL P n w0 S ops Q l ((d, accV (some p) (xs ++ r.map U8).length) :: E) (accE e (some p) (xs ++ r.map U8) ++ M)) : JL P n w0 S ops Q (⟨some d, .call ⟨.builtin .append, #[x, y], #[t, tx]⟩, ty, pos, aft, none⟩ :: l) E (accE e q xs ++ M) := by
  cases q with
  | none =>
    obtain rfl := hq rfl
    refine ⟨fun a w ha hw => wpList_plain rfl fun K hK => ?_⟩
    obtain ⟨i, hi1, hi2, hi3, hi4⟩ := hi.get
    have hpos : 0 < r.length := List.length_pos_iff.2 h0
    have hsrc : Src P i.size tx (Z r) r.length (r.map U8) w := by
      have := Src.ofString (P := P) w hk (strB r)
      rw [byteCells_strB, strB_size] at this
      rw [hi3]; exact this
    simp only [List.length_nil, Nat.zero_add] at hsm
    have hx' : a.eval x = .slice none 0 0 := ha.eval hx
    unfold Oper.wp
    simp only [execOp, resolve, invoke, builtin, Sem.run_bind, Sem.run_pure, Result.andThen_ok, List.map_toArray, List.map_cons, List.map_nil, hx', ha.eval hy]
    have hfit := growslice_fits (need := r.length) (old := 0) (bytes := 1) (by omega) (by omega)
    have hfo : (Builtin.firstCells i.size 0 (.slice none 0 0)).run P w.drew = .ok ([] : List Value).toArray w.drew := by simp [Builtin.firstCells]
    have hrun := run_append_grow_src (P := P) w t tx ty e i (.int .u8 0) hu hi1 hi2 none 0 0 [] hfo (Z r) r.length (r.map U8) hsrc (by omega) (by omega) (by rw [hi4, Nat.zero_add]; exact hfit)
    rw [hrun]
    simp only [Nat.zero_add]
    have hge := grownCap_ge w r.length 0 e
    generalize grownCap w r.length 0 e = nc at hge
    refine hK _ _ ?_
    have k := kk (w.heap.size, nc)
    have e1 : ([] ++ r.map U8 : List Value).length = r.length := by simp
    refine JL.go (E := (d, accV (some (w.heap.size, nc)) r.length) :: E) ?_ _ _ (ha.put d _ hd) (Holds.push hw (.cells (([] ++ r.map U8 : List Value).toArray ++ Builtin.zeroCells (Value.int .u8 0).cells (nc - r.length)) e) (A := Sl.Own e 1 r.length nc (r.map U8)) ?_ ?_ rfl rfl rfl)
    · rw [e1] at k
      have k2 : accE e (some (w.heap.size, nc)) ([] ++ r.map U8) ++ M = ⟨w.heap.size, Sl.Own e 1 r.length nc (r.map U8), true⟩ :: M := by
        show ⟨w.heap.size, Sl.Own e 1 ([] ++ r.map U8 : List Value).length nc ([] ++ r.map U8), true⟩ :: M = _
        rw [e1, List.nil_append]
      rw [k2] at k
      exact k
    · have h8 : (Builtin.zeroCells (Value.int .u8 0).cells (nc - r.length)).size = nc - r.length := by
        rw [show (Value.int .u8 0).cells = #[Value.int .u8 0] from rfl]; simp [Builtin.zeroCells]
      refine ⟨(Builtin.zeroCells (Value.int .u8 0).cells (nc - r.length)).toList, by simp, ?_, by simp, hge⟩
      simp only [List.length_append, Array.length_toList, h8, List.length_map]
      omega
    · rfl
  | some p =>
    have e1 : (xs ++ r.map U8).length = xs.length + r.length := by simp
    refine JL.appendS (b := p.1) (cap := p.2) (k := xs.length) (xs := xs) (fun b' cap' => accE e (some (b', cap')) (xs ++ r.map U8) ++ M) hu hk hi hx hy (fun b' cap' => ?_) hsm hd fun b' cap' => ?_
    · show Repl (⟨p.1, Sl.Own e 1 xs.length p.2 xs, true⟩ :: M) _ _ _ _ (⟨b', Sl.Own e 1 (xs ++ r.map U8).length cap' (xs ++ r.map U8), true⟩ :: M)
      rw [e1]
      exact .here
    · have := kk (b', cap')
      rw [e1] at this
      exact this
end
/-- ways that meet again behind two pieces of code -/
theorem JC.mid2 {P : Program} {n : Nat} {w0 : World} {S : List Nat} {Q : Exit → Act → World → Prop} {E : Env} {M : List Ent} {ι : Type} (Ei : ι → Env) (Mi : ι → List Ent) (I : ι → Prop) {p q r : Code}
    (h : JC P n w0 S (Exit.then (q.wp P (Exit.then (fun a' w' => ∃ i, I i ∧ Knows n (Ei i) a' ∧ Holds w0 S (Mi i) w') Q)) (Exit.then (fun a' w' => ∃ i, I i ∧ Knows n (Ei i) a' ∧ Holds w0 S (Mi i) w') Q)) p E M)
    (k : ∀ i, I i → JC P n w0 S Q r (Ei i) (Mi i)) : JC P n w0 S Q (.seq p (.seq q r)) E M :=
  ⟨fun a w ha hw => wp_seq (wp_mono (h.go a w ha hw) fun e a' w' he => by
    cases e with
    | normal => exact wp_seq (wp_mono he fun e a' w' he => by
        cases e with
        | normal => obtain ⟨i, hi, h1, h2⟩ := he; exact (k i hi).go a' w' h1 h2
        | exit _ => exact he
        | goto _ => exact he
        | ret => exact he
        | panic _ => exact he
        | outgrown => exact he)
    | exit _ => exact he
    | goto _ => exact he
    | ret => exact he
    | panic _ => exact he
    | outgrown => exact he)⟩
end Go.Proofs.YtchoiikhepjdiaaDoor

/-
  Of no statement by itself: atoms, values without comments, addresses, ids, parameters: pure; no program stands here.
  Conditions: none but each lemma's own.
-/
namespace Go.Proofs.YtchoiikhepjdiaaDoor
namespace Tok
open Fld
def inB (c : By) (s : List By) : Bool := s.any fun d => d == c
def spec : List By := [40, 41, 60, 62, 64, 44, 59, 58, 92, 34, 47, 91, 93, 63, 61, 46]
def plainB (c : By) : Bool := decide (33 ≤ c.toNat) && decide (c.toNat ≤ 126) && !inB c spec
def looseB (c : By) : Bool := plainB c || inB c [46, 47, 58, 63]
def atomB (s : List By) : Bool := s.all plainB && decide (0 < s.length)
def simpleB (s : List By) : Bool := s.all looseB && decide (0 < s.length)
/-! ### values without comments -/
/-- from a place on: how deep, inside of a quoted text or not, what is told so far -/
def bareR : List By → Nat → Bool → List By → List By × Nat
  | [], d, q, o => if 0 < d ∨ q = true then ([], 3) else (o, 0)
  | c :: r, d, q, o =>
    if c = 92 ∧ (0 < d ∨ q = true) then
      match r with
      | [] => ([], 3)
      | c2 :: r' => bareR r' d q (if q then o ++ [c, c2] else o)
    else if q then bareR r d (!(c == 34)) (o ++ [c])
    else if c = 40 then (if 9 < d + 1 then ([], 5) else bareR r (d + 1) q o)
    else if c = 41 then (if d = 0 then ([], 3) else bareR r (d - 1) q (if d - 1 = 0 then o ++ [32] else o))
    else if d = 0 then bareR r d (c == 34) (o ++ [c])
    else bareR r d q o
def bareB (s : List By) : List By × Nat := bareR s 0 false []
/-! ### addresses -/
/-- dotted atoms, behind a byte -/
def dotR : List By → By → Bool
  | [], l => !(l == 46)
  | c :: r, l => if (c = 46 ∧ l = 46) ∨ (¬ c = 46 ∧ plainB c = false) then false else dotR r c
def dotB (s : List By) : Bool := dotR s 46
/-- where a byte stands first, or the end -/
def fst (c : By) (s : List By) : Nat := (s.takeWhile fun d => !(d == c)).length
/-- what stands behind the last < -/
def ang (s : List By) : List By := (s.reverse.takeWhile fun d => !(d == 60)).reverse
def addrS (s : List By) : List By × Nat :=
  if fst 64 s = s.length ∨ dotB (s.take (fst 64 s)) = false ∨ dotB (s.drop (fst 64 s + 1)) = false then ([], 3)
  else (s.take (fst 64 s + 1) ++ (s.drop (fst 64 s + 1)).map small, 0)
def addrT (s : List By) : List By × Nat :=
  if 0 < s.length ∧ s.getD (s.length - 1) 0 = 62 then
    (if 60 ∈ s then addrS (trim (ang s.dropLast)) else ([], 3))
  else addrS s
def addrB (s : List By) : List By × Nat := if (bareB s).2 = 0 then addrT (trim (bareB s).1) else ([], (bareB s).2)
/-! ### ids -/
/-- the ids from a place on: none, or those told so far, and the one begun -/
def idsR : List By → List (List By) → Option (List By) → List (List By) × Nat
  | [], o, none => (o, 0)
  | [], _, some _ => ([], 3)
  | c :: r, o, none => if bl c then idsR r o none else if c = 60 then idsR r o (some []) else ([], 3)
  | c :: r, o, some x => if c = 62 then (if x.length = 0 then ([], 3) else idsR r (o ++ [x]) none)
    else if c.toNat < 33 ∨ 126 < c.toNat ∨ c = 60 then ([], 3) else idsR r o (some (x ++ [c]))
def idsB (s : List By) : List (List By) × Nat := if (bareB s).2 = 0 then idsR (bareB s).1 [] none else ([], (bareB s).2)
/-! ### parameters -/
def kindB (s : List By) : Bool := decide (fst 47 s < s.length) && (atomB (s.take (fst 47 s)) && atomB (s.drop (fst 47 s + 1)))
/-- a quoted text's bytes behind its first ", and what stands from its end on -/
def unqR : List By → List By → List By × List By
  | [], o => (o, [])
  | c :: r, o => if c = 34 then (o, c :: r) else if c = 92 then (match r with | [] => (o, []) | c2 :: r' => unqR r' (o ++ [c2])) else unqR r (o ++ [c])
def partB (s : List By) : Option (List By × List By) :=
  if fst 61 s = s.length then none
  else if atomB (trim (s.take (fst 61 s))) = false then none
  else if simpleB (trim (s.drop (fst 61 s + 1))) then some ((trim (s.take (fst 61 s))).map small, trim (s.drop (fst 61 s + 1)))
  else if (trim (s.drop (fst 61 s + 1))).length < 2 ∨ ¬ (trim (s.drop (fst 61 s + 1))).getD 0 0 = 34 then none
  else if (unqR (trim (s.drop (fst 61 s + 1))).tail []).2 = [34] ∧ (unqR (trim (s.drop (fst 61 s + 1))).tail []).1.all sok = true then
    some ((trim (s.take (fst 61 s))).map small, (unqR (trim (s.drop (fst 61 s + 1))).tail []).1)
  else none
/-- the parts between ; outside of quoted texts: those told so far, the one begun -/
def semR : List By → Bool → List By → List (List By)
  | [], _, x => [x]
  | c :: r, q, x =>
    if q = true ∧ c = 92 then
      match r with
      | [] => [x ++ [c]]
      | c2 :: r' => semR r' q (x ++ [c, c2])
    else if c = 34 then semR r (!q) (x ++ [c])
    else if c = 59 ∧ q = false then x :: semR r q []
    else semR r q (x ++ [c])
def semB (s : List By) : List (List By) := semR s false []
def paramsT (s : List By) : List By × List (List By × List By) × Nat :=
  if kindB (trim ((semB s).headD [])) = false then ([], [], 3)
  else match (semB s).tail.mapM partB with
    | none => ([], [], 3)
    | some l => ((trim ((semB s).headD [])).map small, l, 0)
def paramsB (s : List By) : List By × List (List By × List By) × Nat := if (bareB s).2 = 0 then paramsT (bareB s).1 else ([], [], (bareB s).2)
def rightP (k : List By) (l : List (List By × List By)) : Bool :=
  l.all (fun p => atomB p.1 && decide (p.1.map small = p.1) && p.2.all sok) && kindB k && decide (k.map small = k)
def esc (s : List By) : List By := s.flatMap fun c => if c = 34 ∨ c = 92 then [92, c] else [c]
def parW (p : List By × List By) : List By := [59, 32] ++ p.1 ++ [61] ++ (if simpleB p.2 then p.2 else [34] ++ esc p.2 ++ [34])
def writeB (k : List By) (l : List (List By × List By)) : List By := k ++ l.flatMap parW
/-! ### from byte to byte -/
theorem bare_cons (c : Fld.By) (r : List Fld.By) (d : Nat) (q : Bool) (o : List Fld.By) (h : ¬ (c = 92 ∧ (0 < d ∨ q = true))) : bareR (c :: r) d q o = if q then bareR r d (!(c == 34)) (o ++ [c])
    else if c = 40 then (if 9 < d + 1 then ([], 5) else bareR r (d + 1) q o)
    else if c = 41 then (if d = 0 then ([], 3) else bareR r (d - 1) q (if d - 1 = 0 then o ++ [32] else o))
    else if d = 0 then bareR r d (c == 34) (o ++ [c])
    else bareR r d q o := by
  conv => lhs; rw [bareR.eq_def]
  dsimp only
  rw [if_neg h]
theorem bare_q92 (c2 : Fld.By) (r : List Fld.By) (d : Nat) (o : List Fld.By) : bareR (92 :: c2 :: r) d true o = bareR r d true (o ++ [92] ++ [c2]) := by simp [bareR]
theorem bare_q92e (d : Nat) (o : List Fld.By) : bareR [92] d true o = ([], 3) := by simp [bareR]
theorem bare_q {c : Fld.By} (h : ¬ c = 92) (r : List Fld.By) (d : Nat) (o : List Fld.By) : bareR (c :: r) d true o = bareR r d (!(c == 34)) (o ++ [c]) := by rw [bare_cons _ _ _ _ _ (fun k => h k.1), if_pos rfl]
theorem bare_d92 {d : Nat} (h : 0 < d) (c2 : Fld.By) (r : List Fld.By) (o : List Fld.By) : bareR (92 :: c2 :: r) d false o = bareR r d false o := by simp [bareR, h]
theorem bare_d92e {d : Nat} (h : 0 < d) (o : List Fld.By) : bareR [92] d false o = ([], 3) := by simp [bareR, h]
theorem bare_40 (r : List Fld.By) (d : Nat) (o : List Fld.By) : bareR (40 :: r) d false o = if 9 < d + 1 then ([], 5) else bareR r (d + 1) false o := by
  rw [bare_cons _ _ _ _ _ (by rintro ⟨h, _⟩; revert h; decide), if_neg (by decide), if_pos rfl]
theorem bare_41 (r : List Fld.By) (d : Nat) (o : List Fld.By) : bareR (41 :: r) d false o = if d = 0 then ([], 3) else bareR r (d - 1) false (if d - 1 = 0 then o ++ [32] else o) := by
  rw [bare_cons _ _ _ _ _ (by rintro ⟨h, _⟩; revert h; decide), if_neg (by decide), if_neg (by decide), if_pos rfl]
theorem bare_0 {c : Fld.By} (h1 : ¬ c = 40) (h2 : ¬ c = 41) (r : List Fld.By) (o : List Fld.By) : bareR (c :: r) 0 false o = bareR r 0 (c == 34) (o ++ [c]) := by
  rw [bare_cons _ _ _ _ _ (by rintro ⟨_, h | h⟩; exact absurd h (by decide); cases h), if_neg (by decide), if_neg h1, if_neg h2, if_pos rfl]
theorem bare_s {c : Fld.By} {d : Nat} (h0 : ¬ c = 92) (h1 : ¬ c = 40) (h2 : ¬ c = 41) (hd : ¬ d = 0) (r : List Fld.By) (o : List Fld.By) : bareR (c :: r) d false o = bareR r d false o := by
  rw [bare_cons _ _ _ _ _ (fun k => h0 k.1), if_neg (by decide), if_neg h1, if_neg h2, if_neg hd]
theorem bare_end (d : Nat) (q : Bool) (o : List Fld.By) : bareR [] d q o = if (decide ((0 : Int) < (d : Int)) || q) = true then ([], 3) else (o, 0) := by
  rw [bareR]
  congr 1
  rw [Bool.or_eq_true, decide_eq_true_eq]
  exact propext (or_congr (by omega) Iff.rfl)
theorem bare_len : ∀ (n : Nat) (r : List Fld.By) (d : Nat) (q : Bool) (o : List Fld.By), r.length ≤ n → (bareR r d q o).1.length ≤ o.length + r.length := by
  intro n
  induction n with
  | zero =>
    intro r d q o h
    obtain rfl : r = [] := List.eq_nil_of_length_eq_zero (by omega)
    rw [bare_end]
    split <;> simp
  | succ n ih =>
    intro r d q o h
    match r, h with
    | [], _ => rw [bare_end]; split <;> simp
    | c :: r, h =>
      simp only [List.length_cons] at h ⊢
      by_cases h9 : c = 92 ∧ (0 < d ∨ q = true)
      · obtain ⟨rfl, hq⟩ := h9
        match r, h with
        | [], _ =>
          cases q
          · rw [bare_d92e (by simpa using hq)]; simp
          · rw [bare_q92e]; simp
        | c2 :: r, h =>
          simp only [List.length_cons] at h ⊢
          cases q
          · rw [bare_d92 (by simpa using hq)]
            have := ih r d false o (by omega)
            omega
          · rw [bare_q92]
            have := ih r d true (o ++ [92] ++ [c2]) (by omega)
            simp only [List.length_append, List.length_cons, List.length_nil] at this
            omega
      · rw [bare_cons c r d q o h9]
        have h0 := ih r d (!(c == 34)) (o ++ [c]) (by omega)
        have h1 := ih r (d + 1) q o (by omega)
        have h2 := ih r (d - 1) q (if d - 1 = 0 then o ++ [32] else o) (by omega)
        have h3 := ih r d (c == 34) (o ++ [c]) (by omega)
        have h4 := ih r d q o (by omega)
        have h5 : (if d - 1 = 0 then o ++ [32] else o).length ≤ o.length + 1 := by split <;> simp
        simp only [List.length_append, List.length_cons, List.length_nil] at h0 h3
        generalize (if d - 1 = 0 then o ++ [32] else o) = o2 at h2 h5 ⊢
        split
        · omega
        split
        · split
          · simp
          · omega
        split
        · split
          · simp
          · omega
        split
        · omega
        · omega
theorem bareB_len (s : List Fld.By) : (bareB s).1.length ≤ s.length := by
  have := bare_len s.length s 0 false [] (Nat.le_refl _)
  simp only [List.length_nil, Nat.zero_add] at this
  exact this
theorem unq_34 (r o : List Fld.By) : unqR (34 :: r) o = (o, 34 :: r) := by rw [unqR.eq_def]; rfl
theorem unq_92e (o : List Fld.By) : unqR [92] o = (o, []) := by rw [unqR.eq_def]; rfl
theorem unq_92 (c2 : Fld.By) (r o : List Fld.By) : unqR (92 :: c2 :: r) o = unqR r (o ++ [c2]) := by
  conv => lhs; rw [unqR.eq_def]
  rfl
theorem unq_c {c : Fld.By} (h1 : ¬ c = 34) (h2 : ¬ c = 92) (r o : List Fld.By) : unqR (c :: r) o = unqR r (o ++ [c]) := by
  conv => lhs; rw [unqR.eq_def]
  dsimp only
  rw [if_neg h1, if_neg h2]
theorem unq_e (o : List Fld.By) : unqR [] o = (o, []) := rfl
end Tok
end Go.Proofs.YtchoiikhepjdiaaDoor

/-
  Of no statement by itself: a value that is told bare is told the same again; pure; no program stands here.
  Conditions: none but each lemma's own.
-/
namespace Go.Proofs.YtchoiikhepjdiaaDoor
namespace Tok
open Fld
/-- what was told so far tells itself, up to whether a quoted text is open -/
def Inv (o : List By) (q : Bool) : Prop := ∀ r : List By, bareR (o ++ r) 0 false [] = bareR r 0 q o
theorem Inv.q {o : List By} {c : By} (h : Inv o true) (hc : ¬ c = 92) : Inv (o ++ [c]) (!(c == 34)) := fun r => by
  rw [List.append_assoc, h, List.singleton_append, bare_q hc]
theorem Inv.q92 {o : List By} {c : By} (h : Inv o true) : Inv (o ++ [92] ++ [c]) true := fun r => by
  rw [List.append_assoc, List.append_assoc, h]
  exact bare_q92 c r 0 o
theorem Inv.n {o : List By} {c : By} (h : Inv o false) (h1 : ¬ c = 40) (h2 : ¬ c = 41) : Inv (o ++ [c]) (c == 34) := fun r => by
  rw [List.append_assoc, h, List.singleton_append, bare_0 h1 h2]
theorem bare_again : ∀ (n : Nat) (r : List By) (d : Nat) (q : Bool) (o : List By), r.length ≤ n → (0 < d → q = false) → Inv o q → (bareR r d q o).2 = 0 → bareR (bareR r d q o).1 0 false [] = ((bareR r d q o).1, 0) := by
  have fin : ∀ (d : Nat) (q : Bool) (o : List By), Inv o q → (bareR [] d q o).2 = 0 → bareR (bareR [] d q o).1 0 false [] = ((bareR [] d q o).1, 0) := by
    intro d q o hI h0
    rw [bareR] at h0 ⊢
    split at h0
    · cases h0
    · next hn =>
      rw [if_neg hn]
      have hq : q = false := by
        cases q
        · rfl
        · exact absurd (Or.inr rfl) hn
      subst hq
      have := hI []
      rw [List.append_nil] at this
      rw [this]
      rfl
  intro n
  induction n with
  | zero =>
    intro r d q o h hd hI h0
    obtain rfl : r = [] := List.eq_nil_of_length_eq_zero (by omega)
    exact fin d q o hI h0
  | succ n ih =>
    intro r d q o h hd hI h0
    match r, h with
    | [], _ => exact fin d q o hI h0
    | c :: r, h =>
      simp only [List.length_cons] at h
      by_cases h9 : c = 92 ∧ (0 < d ∨ q = true)
      · obtain ⟨rfl, hq⟩ := h9
        match r, h with
        | [], _ =>
          cases q
          · rw [bare_d92e (by simpa using hq)] at h0; cases h0
          · rw [bare_q92e] at h0; cases h0
        | c2 :: r, h =>
          simp only [List.length_cons] at h
          cases q
          · rw [bare_d92 (by simpa using hq)] at h0 ⊢
            exact ih r d false o (by omega) hd hI h0
          · rw [bare_q92] at h0 ⊢
            exact ih r d true _ (by omega) hd hI.q92 h0
      · rw [bare_cons c r d q o h9] at h0 ⊢
        cases q
        · rw [if_neg (by decide)] at h0 ⊢
          by_cases h40 : c = 40
          · rw [if_pos h40] at h0 ⊢
            split at h0
            · cases h0
            · next hh => rw [if_neg hh]; exact ih r (d + 1) false o (by omega) (fun _ => rfl) hI h0
          · rw [if_neg h40] at h0 ⊢
            by_cases h41 : c = 41
            · rw [if_pos h41] at h0 ⊢
              split at h0
              · cases h0
              · next hh =>
                rw [if_neg hh]
                refine ih r (d - 1) false _ (by omega) (fun _ => rfl) ?_ h0
                split
                · exact hI.n (c := 32) (by decide) (by decide)
                · exact hI
            · rw [if_neg h41] at h0 ⊢
              split at h0
              · next hh =>
                rw [if_pos hh]
                subst hh
                exact ih r 0 (c == 34) _ (by omega) (fun h => absurd h (by decide)) (hI.n h40 h41) h0
              · next hh =>
                rw [if_neg hh]
                exact ih r d false o (by omega) hd hI h0
        · rw [if_pos rfl] at h0 ⊢
          have hd0 : ¬ 0 < d := fun k => by have := hd k; cases this
          exact ih r d _ _ (by omega) (fun k => absurd k hd0) (hI.q fun k => h9 ⟨k, Or.inr rfl⟩) h0
theorem bare_bare {s : List By} (h : (bareB s).2 = 0) : bareB (bareB s).1 = ((bareB s).1, 0) :=
  bare_again s.length s 0 false [] (Nat.le_refl _) (fun h => absurd h (by decide)) (fun _ => rfl) h
end Tok
end Go.Proofs.YtchoiikhepjdiaaDoor

/-
  Of no statement by itself: an address that is told is told again; pure; no program stands here.
  Conditions: none but each lemma's own.
-/
namespace Go.Proofs.YtchoiikhepjdiaaDoor
namespace Tok
open Fld
theorem byte_all (p : By → Bool) (h : ∀ c : Fin 256, p (BitVec.ofNat 8 c.val) = true) (c : By) : p c = true := by simpa using h ⟨c.toNat, c.isLt⟩
theorem plain_small (c : By) : plainB (small c) = plainB c ∧ ((small c = 46) ↔ (c = 46)) ∧ small (small c) = small c := by
  have := byte_all (fun c => (plainB (small c) == plainB c) && (decide (small c = 46) == decide (c = 46)) && decide (small (small c) = small c)) (by decide +kernel) c
  simpa [Bool.and_eq_true, and_assoc] using this
def good (c : By) : Bool := c == 46 || plainB c || c == 64
theorem good_not (c : By) (h : good c = true) : ¬ c = 34 ∧ ¬ c = 40 ∧ ¬ c = 41 ∧ ¬ c = 62 ∧ bl c = false := by
  have := byte_all (fun c => !good c || (!decide (c = 34) && (!decide (c = 40) && (!decide (c = 41) && (!decide (c = 62) && !bl c))))) (by decide +kernel) c
  rw [h] at this
  simpa using this
theorem dot_not (c : By) (h : c = 46 ∨ plainB c = true) : good c = true ∧ ¬ c = 64 := by
  have := byte_all (fun c => !(decide (c = 46) || plainB c) || (good c && !decide (c = 64))) (by decide +kernel) c
  rw [show (decide (c = 46) || plainB c) = true by simpa using h] at this
  simpa using this
theorem dot_all : ∀ (s : List By) (l : By), dotR s l = true → ∀ c ∈ s, c = 46 ∨ plainB c = true
  | [], _, _, c, hc => by cases hc
  | d :: r, l, h, c, hc => by
    rw [dotR] at h
    split at h
    · cases h
    · next hn =>
      rcases List.mem_cons.1 hc with rfl | hc
      · by_cases h4 : c = 46
        · exact .inl h4
        · right
          cases hp : plainB c
          · exact absurd (Or.inr ⟨h4, hp⟩) hn
          · rfl
      · exact dot_all r d h c hc
theorem dot_small : ∀ (s : List By) (l l' : By), ((l' = 46) ↔ (l = 46)) → dotR (s.map small) l' = dotR s l
  | [], l, l', hl => by
    show (!(l' == 46)) = (!(l == 46))
    congr 1
    rw [Bool.eq_iff_iff, beq_iff_eq, beq_iff_eq]
    exact hl
  | c :: r, l, l', hl => by
    obtain ⟨h1, h2, _⟩ := plain_small c
    rw [List.map_cons, dotR, dotR, h1, dot_small r c (small c) h2]
    simp only [h2, hl]
theorem bare_good : ∀ (a o : List By), (∀ c ∈ a, good c = true) → bareR a 0 false o = (o ++ a, 0)
  | [], o, _ => by rw [List.append_nil]; rfl
  | c :: r, o, h => by
    obtain ⟨h1, h2, h3, _, _⟩ := good_not c (h c (by simp))
    rw [bare_0 h2 h3, show (c == 34) = false from beq_eq_false_iff_ne.2 h1, bare_good r _ fun d hd => h d (by simp [hd]), List.append_assoc]
    rfl
theorem trimL_good {a : List By} (h : ∀ c ∈ a, bl c = false) : trimL a = a := by
  cases a with
  | nil => rfl
  | cons c r =>
    show List.dropWhile bl (c :: r) = _
    rw [List.dropWhile_cons, if_neg (by rw [h c (by simp)]; decide)]
theorem trim_good {a : List By} (h : ∀ c ∈ a, bl c = false) : trim a = a := by
  unfold trim
  rw [trimL_good h, trimL_good (by simpa using h), List.reverse_reverse]
theorem fst_app {c : By} : ∀ (p r : List By), (∀ d ∈ p, ¬ d = c) → fst c (p ++ c :: r) = p.length
  | [], r, _ => by
    unfold fst
    rw [List.nil_append, List.takeWhile_cons, if_neg (by simp)]
    try rfl
  | d :: p, r, h => by
    have := fst_app p r fun e he => h e (by simp [he])
    unfold fst at this ⊢
    rw [List.cons_append, List.takeWhile_cons, if_pos (by simpa using h d (by simp)), List.length_cons, this, List.length_cons]
theorem take_at {p r : List By} {c : By} {k : Nat} {u : List By} (hu : u = p ++ c :: r) (hk : p.length = k) : u.take (k + 1) = p ++ [c] := by
  subst hu hk
  rw [show p.length + 1 = (p ++ [c]).length by simp, show p ++ c :: r = (p ++ [c]) ++ r by simp, List.take_left]
theorem fst_spec {c : By} : ∀ (u : List By), fst c u < u.length → u = u.take (fst c u) ++ c :: u.drop (fst c u + 1)
  | [], h => by simp at h
  | d :: r, h => by
    by_cases hd : d = c
    · subst hd
      have : fst d (d :: r) = 0 := by
        unfold fst
        rw [List.takeWhile_cons, if_neg (by simp)]; rfl
      rw [this]
      rfl
    · have e : fst c (d :: r) = fst c r + 1 := by
        unfold fst
        rw [List.takeWhile_cons, if_pos (by simpa using hd)]; rfl
      rw [e] at h ⊢
      rw [List.take_succ_cons, List.drop_succ_cons, List.cons_append, ← fst_spec r (by simpa using h)]
theorem addr_dot {p r : List By} (hp : dotB p = true) (hr : dotB r = true) : addrB (p ++ 64 :: r.map small) = (p ++ 64 :: r.map small, 0) := by
  have hr' : dotB (r.map small) = true := by
    unfold dotB
    rw [dot_small r 46 46 Iff.rfl]
    exact hr
  have gp := fun c hc => dot_not c (dot_all p 46 hp c hc)
  have gr := fun c hc => dot_not c (dot_all _ 46 hr' c hc)
  generalize hq : r.map small = q at hr' gr ⊢
  have hqq : q.map small = q := by
    rw [← hq, List.map_map]
    exact List.map_congr_left fun c _ => (plain_small c).2.2
  have hg : ∀ c ∈ p ++ 64 :: q, good c = true := by
    intro c hc
    rcases List.mem_append.1 hc with h | h
    · exact (gp c h).1
    · rcases List.mem_cons.1 h with rfl | h
      · decide
      · exact (gr c h).1
  have hb : bareB (p ++ 64 :: q) = (p ++ 64 :: q, 0) := bare_good _ [] hg
  have ht : trim (p ++ 64 :: q) = p ++ 64 :: q := trim_good fun c hc => (good_not c (hg c hc)).2.2.2.2
  have hf : fst 64 (p ++ 64 :: q) = p.length := fst_app p q fun d hd => (gp d hd).2
  have h62 : ¬ (p ++ 64 :: q).getD ((p ++ 64 :: q).length - 1) 0 = 62 := by
    have hl : (p ++ 64 :: q).length - 1 < (p ++ 64 :: q).length := by simp
    rw [List.getD_eq_getElem?_getD, List.getElem?_eq_getElem hl]
    exact (good_not _ (hg _ (List.getElem_mem hl))).2.2.2.1
  have e1 : (p ++ 64 :: q).take p.length = p := by simp
  have e2 : (p ++ 64 :: q).drop (p.length + 1) = q := by
    rw [show p.length + 1 = (p ++ [64]).length by simp, show p ++ 64 :: q = (p ++ [64]) ++ q by simp, List.drop_left]
  have e3 : (p ++ 64 :: q).take (p.length + 1) = p ++ [64] := by
    rw [show p.length + 1 = (p ++ [64]).length by simp, show p ++ 64 :: q = (p ++ [64]) ++ q by simp, List.take_left]
  unfold addrB
  rw [hb]
  dsimp only
  rw [if_pos rfl, ht]
  unfold addrT
  rw [if_neg fun h => h62 h.2]
  unfold addrS
  rw [hf, e1, e2, e3, if_neg (by rw [hp, hr']; simp), hqq]
  simp
theorem addr_addr {s : List By} (h : (addrB s).2 = 0) : addrB (addrB s).1 = ((addrB s).1, 0) := by
  have key : ∀ u : List By, (addrS u).2 = 0 → addrB (addrS u).1 = ((addrS u).1, 0) := by
    intro u hu
    unfold addrS at hu ⊢
    split at hu
    · cases hu
    · next hn =>
      rw [if_neg hn]
      have h1 : ¬ fst 64 u = u.length := fun k => hn (.inl k)
      have h2 : dotB (u.take (fst 64 u)) = true := by
        cases e : dotB (u.take (fst 64 u))
        · exact absurd (.inr (.inl e)) hn
        · rfl
      have h3 : dotB (u.drop (fst 64 u + 1)) = true := by
        cases e : dotB (u.drop (fst 64 u + 1))
        · exact absurd (.inr (.inr e)) hn
        · rfl
      have hlt : fst 64 u < u.length := by
        have : fst 64 u ≤ u.length := (List.takeWhile_sublist _).length_le
        omega
      have hs := fst_spec u hlt
      have e : u.take (fst 64 u + 1) = u.take (fst 64 u) ++ [64] := take_at hs (by rw [List.length_take]; exact Nat.min_eq_left (Nat.le_of_lt hlt))
      rw [e, List.append_assoc]
      exact addr_dot h2 h3
  have key2 : ∀ t : List By, (addrT t).2 = 0 → addrB (addrT t).1 = ((addrT t).1, 0) := by
    intro t ht
    unfold addrT at ht ⊢
    split at ht
    · next hh =>
      rw [if_pos hh]
      split at ht
      · next hm => rw [if_pos hm]; exact key _ ht
      · cases ht
    · next hh => rw [if_neg hh]; exact key _ ht
  unfold addrB at h ⊢
  split at h
  · next hh => rw [if_pos hh]; exact key2 _ h
  · next hh => exact absurd h hh
end Tok
end Go.Proofs.YtchoiikhepjdiaaDoor

/-
  Of no statement by itself: ids with blanks and comments between are read as they stand; pure; no program stands here.
  Conditions: none but each lemma's own.
-/
namespace Go.Proofs.YtchoiikhepjdiaaDoor
namespace Tok
open Fld
def idok (c : By) : Bool := decide (33 ≤ c.toNat) && (decide (c.toNat ≤ 126) && (!(c == 60) && (!(c == 62) && (!(c == 40) && (!(c == 41) && (!(c == 34) && !(c == 92)))))))
def gap (k : Nat) : List By := [[], [32], [9, 40, 120, 41], [40, 97, 32, 40, 98, 41, 32, 99, 41, 32]].getD k []
def gapB (k : Nat) : List By := [[], [32], [9, 32], [32, 32]].getD k []
def textB (ps : List (List By × Nat)) : List By := ps.flatMap fun p => gap p.2 ++ 60 :: p.1 ++ [62]
def textC (ps : List (List By × Nat)) : List By := ps.flatMap fun p => gapB p.2 ++ 60 :: p.1 ++ [62]
theorem bare_run : ∀ (a r o : List By), (∀ c ∈ a, ¬ c = 34 ∧ ¬ c = 40 ∧ ¬ c = 41) → bareR (a ++ r) 0 false o = bareR r 0 false (o ++ a)
  | [], r, o, _ => by rw [List.append_nil]; rfl
  | c :: a, r, o, h => by
    obtain ⟨h1, h2, h3⟩ := h c (by simp)
    rw [List.cons_append, bare_0 h2 h3, show (c == 34) = false from beq_eq_false_iff_ne.2 h1, bare_run a r _ fun d hd => h d (by simp [hd]), List.append_assoc]
    rfl
theorem bare_gap (k : Nat) (r o : List By) : bareR (gap k ++ r) 0 false o = bareR r 0 false (o ++ gapB k) := by
  have h0 : bareR ([9, 40, 120, 41] ++ r) 0 false o = bareR r 0 false (o ++ [9, 32]) := by
    show bareR (9 :: 40 :: 120 :: 41 :: r) 0 false o = _
    rw [bare_0 (by decide) (by decide), show ((9 : By) == 34) = false from rfl, bare_40, if_neg (by decide), bare_s (by decide) (by decide) (by decide) (by decide), bare_41, if_neg (by decide), if_pos (by decide), List.append_assoc]
    rfl
  have h1 : bareR ([40, 97, 32, 40, 98, 41, 32, 99, 41, 32] ++ r) 0 false o = bareR r 0 false (o ++ [32, 32]) := by
    show bareR (40 :: 97 :: 32 :: 40 :: 98 :: 41 :: 32 :: 99 :: 41 :: 32 :: r) 0 false o = _
    rw [bare_40, if_neg (by decide), bare_s (by decide) (by decide) (by decide) (by decide), bare_s (by decide) (by decide) (by decide) (by decide), bare_40, if_neg (by decide), bare_s (by decide) (by decide) (by decide) (by decide), bare_41, if_neg (by decide), if_neg (by decide), bare_s (by decide) (by decide) (by decide) (by decide), bare_s (by decide) (by decide) (by decide) (by decide), bare_41, if_neg (by decide), if_pos (by decide), bare_0 (by decide) (by decide), List.append_assoc]
    rfl
  match k with
  | 0 => show bareR r 0 false o = bareR r 0 false (o ++ []); rw [List.append_nil]
  | 1 => exact bare_run [32] r o (by decide)
  | 2 => exact h0
  | 3 => exact h1
  | k + 4 => show bareR r 0 false o = bareR r 0 false (o ++ []); rw [List.append_nil]
theorem idok_is {c : By} (h : idok c = true) : 33 ≤ c.toNat ∧ c.toNat ≤ 126 ∧ ¬ c = 60 ∧ ¬ c = 62 ∧ ¬ c = 40 ∧ ¬ c = 41 ∧ ¬ c = 34 ∧ ¬ c = 92 := by
  unfold idok at h
  simpa using h
theorem bare_text : ∀ (ps : List (List By × Nat)) (r o : List By), (∀ p ∈ ps, ∀ c ∈ p.1, idok c = true) → bareR (textB ps ++ r) 0 false o = bareR r 0 false (o ++ textC ps)
  | [], r, o, _ => by show bareR r 0 false o = bareR r 0 false (o ++ []); rw [List.append_nil]
  | p :: ps, r, o, h => by
    have e : textB (p :: ps) ++ r = gap p.2 ++ ((60 :: p.1 ++ [62]) ++ (textB ps ++ r)) := by
      unfold textB
      rw [List.flatMap_cons]
      simp
    have e2 : o ++ gapB p.2 ++ (60 :: p.1 ++ [62]) ++ textC ps = o ++ textC (p :: ps) := by
      unfold textC
      rw [List.flatMap_cons]
      simp
    rw [e, bare_gap, bare_run (60 :: p.1 ++ [62]), bare_text ps r _ (fun q hq => h q (by simp [hq])), e2]
    intro c hc
    rcases List.mem_append.1 hc with hc | hc
    · rcases List.mem_cons.1 hc with rfl | hc
      · decide
      · obtain ⟨_, _, _, _, h5, h6, h7, _⟩ := idok_is (h p (by simp) c hc)
        exact ⟨h7, h5, h6⟩
    · rw [List.mem_singleton] at hc
      subst hc
      decide
theorem ids_id : ∀ (a r : List By) (o : List (List By)) (x : List By), (∀ c ∈ a, idok c = true) → idsR (a ++ r) o (some x) = idsR r o (some (x ++ a))
  | [], r, o, x, _ => by rw [List.append_nil]; rfl
  | c :: a, r, o, x, h => by
    obtain ⟨h1, h2, h3, h4, _⟩ := idok_is (h c (by simp))
    rw [List.cons_append, idsR, if_neg h4, if_neg (by rintro (k | k | k); omega; omega; exact h3 k), ids_id a r o _ fun d hd => h d (by simp [hd]), List.append_assoc]
    rfl
theorem ids_gap (k : Nat) (r : List By) (o : List (List By)) : idsR (gapB k ++ r) o none = idsR r o none := by
  match k with
  | 0 => rfl
  | 1 => rfl
  | 2 => rfl
  | 3 => rfl
  | k + 4 => rfl
theorem ids_textC : ∀ (ps : List (List By × Nat)) (o : List (List By)), (∀ p ∈ ps, 0 < p.1.length ∧ ∀ c ∈ p.1, idok c = true) → idsR (textC ps) o none = (o ++ ps.map (·.1), 0)
  | [], o, _ => by show (o, 0) = _; simp
  | p :: ps, o, h => by
    obtain ⟨hl, hc⟩ := h p (by simp)
    have e : textC (p :: ps) = gapB p.2 ++ (60 :: (p.1 ++ (62 :: textC ps))) := by
      unfold textC
      rw [List.flatMap_cons]
      simp
    rw [e, ids_gap]
    show (if bl 60 then _ else if (60 : By) = 60 then idsR (p.1 ++ (62 :: textC ps)) o (some []) else _) = _
    rw [if_neg (by decide), if_pos rfl, ids_id _ _ _ _ hc, List.nil_append]
    show (if (62 : By) = 62 then (if p.1.length = 0 then _ else idsR (textC ps) (o ++ [p.1]) none) else _) = _
    rw [if_pos rfl, if_neg (by omega), ids_textC ps _ fun q hq => h q (by simp [hq])]
    simp
theorem ids_text {ps : List (List By × Nat)} (h : ∀ p ∈ ps, 0 < p.1.length ∧ ∀ c ∈ p.1, idok c = true) : idsB (textB ps) = (ps.map (·.1), 0) := by
  have hb : bareB (textB ps) = (textC ps, 0) := by
    have := bare_text ps [] [] fun p hp => (h p hp).2
    rw [List.append_nil] at this
    exact this
  unfold idsB
  rw [hb]
  dsimp only
  rw [if_pos rfl, ids_textC ps [] h]
  rfl
end Tok
end Go.Proofs.YtchoiikhepjdiaaDoor

/-
  Of no statement by itself: what is written of a kind and parameters holds no comment; pure; no program stands here.
  Conditions: none but each lemma's own.
-/
namespace Go.Proofs.YtchoiikhepjdiaaDoor
namespace Tok
open Fld
theorem plain_not {c : By} (h : plainB c = true) : ¬ c = 34 ∧ ¬ c = 40 ∧ ¬ c = 41 := by
  have := good_not c (dot_not c (.inr h)).1
  exact ⟨this.1, this.2.1, this.2.2.1⟩
theorem loose_not {c : By} (h : looseB c = true) : ¬ c = 34 ∧ ¬ c = 40 ∧ ¬ c = 41 := by
  have := byte_all (fun c => !looseB c || (!decide (c = 34) && (!decide (c = 40) && !decide (c = 41)))) (by decide +kernel) c
  rw [h] at this
  simpa using this
theorem atom_all {s : List By} (h : atomB s = true) : ∀ c ∈ s, plainB c = true := by
  unfold atomB at h
  rw [Bool.and_eq_true, List.all_eq_true] at h
  exact h.1
theorem simple_all {s : List By} (h : simpleB s = true) : ∀ c ∈ s, looseB c = true := by
  unfold simpleB at h
  rw [Bool.and_eq_true, List.all_eq_true] at h
  exact h.1
theorem kind_is {k : List By} (h : kindB k = true) : ∃ a b, k = a ++ 47 :: b ∧ atomB a = true ∧ atomB b = true := by
  unfold kindB at h
  simp only [Bool.and_eq_true, decide_eq_true_eq] at h
  exact ⟨_, _, fst_spec k h.1, h.2.1, h.2.2⟩
theorem bare_esc : ∀ (v r o : List By), bareR (esc v ++ 34 :: r) 0 true o = bareR r 0 false (o ++ esc v ++ [34])
  | [], r, o => by
    show bareR (34 :: r) 0 true o = _
    rw [bare_q (by decide), show esc [] = [] from rfl, List.append_nil]
    rfl
  | c :: v, r, o => by
    have e : esc (c :: v) = (if c = 34 ∨ c = 92 then [92, c] else [c]) ++ esc v := by unfold esc; rw [List.flatMap_cons]
    rw [e]
    by_cases h : c = 34 ∨ c = 92
    · rw [if_pos h]
      show bareR (92 :: c :: (esc v ++ 34 :: r)) 0 true o = _
      rw [bare_q92, bare_esc v r]
      congr 1
      simp
    · rw [if_neg h]
      show bareR (c :: (esc v ++ 34 :: r)) 0 true o = _
      rw [bare_q (fun k => h (.inr k)), show (!(c == 34)) = true from by simpa using fun k => h (.inl k), bare_esc v r]
      congr 1
      simp
theorem bare_par {p : List By × List By} (h : atomB p.1 = true) (r o : List By) : bareR (parW p ++ r) 0 false o = bareR r 0 false (o ++ parW p) := by
  have h1 : ∀ c ∈ [59, 32] ++ p.1 ++ [61], ¬ c = 34 ∧ ¬ c = 40 ∧ ¬ c = (41 : By) := by
    intro c hc
    rcases List.mem_append.1 hc with hc | hc
    · rcases List.mem_append.1 hc with hc | hc
      · exact (by decide : ∀ c ∈ ([59, 32] : List By), ¬ c = 34 ∧ ¬ c = 40 ∧ ¬ c = 41) c hc
      · exact plain_not (atom_all h c hc)
    · rw [List.mem_singleton] at hc
      subst hc
      decide
  unfold parW
  rw [List.append_assoc, bare_run _ _ _ h1]
  cases hs : simpleB p.2
  · rw [if_neg (by decide)]
    show bareR (34 :: (esc p.2 ++ [34] ++ r)) 0 false _ = _
    rw [bare_0 (by decide) (by decide), show ((34 : By) == 34) = true from rfl, List.append_assoc, List.singleton_append, bare_esc]
    congr 1
    simp
  · rw [if_pos rfl, bare_run _ _ _ fun c hc => loose_not (simple_all hs c hc), List.append_assoc]
theorem bare_pars : ∀ (l : List (List By × List By)) (r o : List By), (∀ p ∈ l, atomB p.1 = true) → bareR (l.flatMap parW ++ r) 0 false o = bareR r 0 false (o ++ l.flatMap parW)
  | [], r, o, _ => by show bareR r 0 false o = bareR r 0 false (o ++ []); rw [List.append_nil]
  | p :: l, r, o, h => by
    rw [List.flatMap_cons, List.append_assoc, bare_par (h p (by simp)), bare_pars l r _ fun q hq => h q (by simp [hq]), List.append_assoc]
theorem right_is {k : List By} {l : List (List By × List By)} (h : rightP k l = true) : kindB k = true ∧ k.map small = k ∧ ∀ p ∈ l, atomB p.1 = true ∧ p.1.map small = p.1 ∧ p.2.all sok = true := by
  unfold rightP at h
  simp only [Bool.and_eq_true, decide_eq_true_eq, List.all_eq_true] at h
  exact ⟨h.1.2, h.2, fun p hp => ⟨(h.1.1 p hp).1.1, (h.1.1 p hp).1.2, by rw [List.all_eq_true]; exact (h.1.1 p hp).2⟩⟩
/-- what is written is run through as it is -/
theorem bare_write {k : List By} {l : List (List By × List By)} (h : rightP k l = true) (r o : List By) : bareR (writeB k l ++ r) 0 false o = bareR r 0 false (o ++ writeB k l) := by
  obtain ⟨hk, _, hl⟩ := right_is h
  obtain ⟨a, b, rfl, ha, hb⟩ := kind_is hk
  unfold writeB
  rw [List.append_assoc, bare_run, bare_pars l r _ fun p hp => (hl p hp).1, List.append_assoc]
  intro c hc
  rcases List.mem_append.1 hc with hc | hc
  · exact plain_not (atom_all ha c hc)
  · rcases List.mem_cons.1 hc with rfl | hc
    · decide
    · exact plain_not (atom_all hb c hc)
theorem bare_written {k : List By} {l : List (List By × List By)} (h : rightP k l = true) : bareB (writeB k l) = (writeB k l, 0) := by
  have := bare_write h [] []
  rw [List.append_nil] at this
  exact this
theorem plain_sok {c : By} (h : plainB c = true) : sok c = true := by
  have := byte_all (fun c => !plainB c || sok c) (by decide +kernel) c
  rw [h] at this
  simpa using this
theorem esc_sok {v : List By} (h : v.all sok = true) : ∀ c ∈ esc v, sok c = true := by
  intro c hc
  obtain ⟨d, hd, hc⟩ := List.mem_flatMap.1 hc
  have hs := List.all_eq_true.1 h d hd
  split at hc
  · rcases List.mem_cons.1 hc with rfl | hc
    · decide
    · rw [List.mem_singleton] at hc; subst hc; exact hs
  · rw [List.mem_singleton] at hc; subst hc; exact hs
/-- what is written may be a field's value as far as its bytes go -/
theorem write_sok {k : List By} {l : List (List By × List By)} (h : rightP k l = true) : ∀ c ∈ writeB k l, sok c = true := by
  obtain ⟨hk, _, hl⟩ := right_is h
  obtain ⟨a, b, rfl, ha, hb⟩ := kind_is hk
  intro c hc
  rcases List.mem_append.1 hc with hc | hc
  · rcases List.mem_append.1 hc with hc | hc
    · exact plain_sok (atom_all ha c hc)
    · rcases List.mem_cons.1 hc with rfl | hc
      · decide
      · exact plain_sok (atom_all hb c hc)
  · obtain ⟨p, hp, hc⟩ := List.mem_flatMap.1 hc
    obtain ⟨h1, _, h3⟩ := hl p hp
    have h34 : ∀ c ∈ ([34] : List By), sok c = true := by decide
    have h59 : ∀ c ∈ ([59, 32] : List By), sok c = true := by decide
    have h61 : ∀ c ∈ ([61] : List By), sok c = true := by decide
    unfold parW at hc
    rcases List.mem_append.1 hc with hc | hc
    · rcases List.mem_append.1 hc with hc | hc
      · rcases List.mem_append.1 hc with hc | hc
        · exact h59 c hc
        · exact plain_sok (atom_all h1 c hc)
      · exact h61 c hc
    · split at hc
      · exact List.all_eq_true.1 h3 c hc
      · rcases List.mem_append.1 hc with hc | hc
        · rcases List.mem_append.1 hc with hc | hc
          · exact h34 c hc
          · exact esc_sok h3 c hc
        · exact h34 c hc
end Tok
end Go.Proofs.YtchoiikhepjdiaaDoor

/-
  Of no statement by itself: what is written of a kind and parameters is read as these, blanks ahead and behind; pure; no program stands here.
  Conditions: none but each lemma's own.
-/
namespace Go.Proofs.YtchoiikhepjdiaaDoor
namespace Tok
open Fld
theorem unq_esc : ∀ (v r o : List By), unqR (esc v ++ 34 :: r) o = (o ++ v, 34 :: r)
  | [], r, o => by
    show unqR (34 :: r) o = _
    rw [unq_34, List.append_nil]
  | c :: v, r, o => by
    have e : esc (c :: v) = (if c = 34 ∨ c = 92 then [92, c] else [c]) ++ esc v := by unfold esc; rw [List.flatMap_cons]
    rw [e]
    by_cases h : c = 34 ∨ c = 92
    · rw [if_pos h]
      show unqR (92 :: c :: (esc v ++ 34 :: r)) o = _
      rw [unq_92, unq_esc v r, List.append_assoc]
      rfl
    · rw [if_neg h]
      show unqR (c :: (esc v ++ 34 :: r)) o = _
      rw [unq_c (fun k => h (.inl k)) (fun k => h (.inr k)), unq_esc v r, List.append_assoc]
      rfl
theorem sem_cons (c : By) (r : List By) (q : Bool) (x : List By) (h : ¬ (q = true ∧ c = 92)) : semR (c :: r) q x = if c = 34 then semR r (!q) (x ++ [c]) else if c = 59 ∧ q = false then x :: semR r q [] else semR r q (x ++ [c]) := by
  conv => lhs; rw [semR.eq_def]
  dsimp only
  rw [if_neg h]
theorem sem_run : ∀ (a r x : List By), (∀ c ∈ a, ¬ c = 34 ∧ ¬ c = 59) → semR (a ++ r) false x = semR r false (x ++ a)
  | [], r, x, _ => by rw [List.append_nil]; rfl
  | c :: a, r, x, h => by
    obtain ⟨h1, h2⟩ := h c (by simp)
    rw [List.cons_append, sem_cons _ _ _ _ (by rintro ⟨k, _⟩; cases k), if_neg h1, if_neg (fun k => h2 k.1), sem_run a r _ fun d hd => h d (by simp [hd]), List.append_assoc]
    rfl
theorem sem_q92 (c2 : By) (r x : List By) : semR (92 :: c2 :: r) true x = semR r true (x ++ [92, c2]) := by
  conv => lhs; rw [semR.eq_def]
  rfl
theorem sem_esc : ∀ (v r x : List By), semR (esc v ++ 34 :: r) true x = semR r false (x ++ esc v ++ [34])
  | [], r, x => by
    show semR (34 :: r) true x = _
    rw [sem_cons _ _ _ _ (by rintro ⟨_, k⟩; revert k; decide), if_pos rfl, show esc [] = [] from rfl, List.append_nil]
    rfl
  | c :: v, r, x => by
    have e : esc (c :: v) = (if c = 34 ∨ c = 92 then [92, c] else [c]) ++ esc v := by unfold esc; rw [List.flatMap_cons]
    rw [e]
    by_cases h : c = 34 ∨ c = 92
    · rw [if_pos h]
      show semR (92 :: c :: (esc v ++ 34 :: r)) true x = _
      rw [sem_q92, sem_esc v r]
      congr 1
      simp
    · rw [if_neg h]
      show semR (c :: (esc v ++ 34 :: r)) true x = _
      rw [sem_cons _ _ _ _ (fun k => h (.inr k.2)), if_neg (fun k => h (.inl k)), if_neg (by rintro ⟨_, k⟩; cases k), sem_esc v r]
      congr 1
      simp
theorem plain_no {c : By} (h : plainB c = true) : ¬ c = 34 ∧ ¬ c = 59 ∧ ¬ c = 61 ∧ ¬ c = 47 ∧ bl c = false := by
  have := byte_all (fun c => !plainB c || (!decide (c = 34) && (!decide (c = 59) && (!decide (c = 61) && (!decide (c = 47) && !bl c))))) (by decide +kernel) c
  rw [h] at this
  simpa using this
theorem loose_no {c : By} (h : looseB c = true) : ¬ c = 34 ∧ ¬ c = 59 ∧ bl c = false := by
  have := byte_all (fun c => !looseB c || (!decide (c = 34) && (!decide (c = 59) && !bl c))) (by decide +kernel) c
  rw [h] at this
  simpa using this
/-- a part as it is written, behind its ; -/
def parT (p : List By × List By) : List By := [32] ++ p.1 ++ [61] ++ (if simpleB p.2 then p.2 else [34] ++ esc p.2 ++ [34])
theorem parW_is (p : List By × List By) : parW p = 59 :: parT p := by simp [parW, parT]
theorem sem_par {p : List By × List By} (h : atomB p.1 = true) (r x : List By) : semR (parW p ++ r) false x = x :: semR r false (parT p) := by
  have h1 : ∀ c ∈ [32] ++ p.1 ++ [61], ¬ c = 34 ∧ ¬ c = (59 : By) := by
    intro c hc
    rcases List.mem_append.1 hc with hc | hc
    · rcases List.mem_append.1 hc with hc | hc
      · exact (by decide : ∀ c ∈ ([32] : List By), ¬ c = 34 ∧ ¬ c = 59) c hc
      · exact ⟨(plain_no (atom_all h c hc)).1, (plain_no (atom_all h c hc)).2.1⟩
    · exact (by decide : ∀ c ∈ ([61] : List By), ¬ c = 34 ∧ ¬ c = 59) c hc
  rw [parW_is, List.cons_append, sem_cons _ _ _ _ (by rintro ⟨k, _⟩; cases k), if_neg (by decide), if_pos ⟨rfl, rfl⟩]
  congr 1
  unfold parT
  rw [List.append_assoc, sem_run _ _ _ h1, List.nil_append]
  cases hs : simpleB p.2
  · rw [if_neg (by decide)]
    show semR (34 :: (esc p.2 ++ [34] ++ r)) false _ = _
    rw [sem_cons _ _ _ _ (by rintro ⟨k, _⟩; cases k), if_pos rfl, List.append_assoc, List.singleton_append]
    show semR (esc p.2 ++ 34 :: r) true _ = _
    rw [sem_esc]
    congr 1
    simp
  · rw [if_pos rfl, sem_run _ _ _ fun c hc => ⟨(loose_no (simple_all hs c hc)).1, (loose_no (simple_all hs c hc)).2.1⟩]
def glue (x : List By) : List (List By × List By) → List By → List (List By)
  | [], r => [x ++ r]
  | p :: l, r => x :: glue (parT p) l r
theorem sem_pars : ∀ (l : List (List By × List By)) (r x : List By), (∀ p ∈ l, atomB p.1 = true) → (∀ c ∈ r, ¬ c = 34 ∧ ¬ c = 59) → semR (l.flatMap parW ++ r) false x = glue x l r
  | [], r, x, _, hr => by
    show semR r false x = [x ++ r]
    have := sem_run r [] x hr
    rw [List.append_nil] at this
    rw [this]
    rfl
  | p :: l, r, x, h, hr => by
    rw [List.flatMap_cons, List.append_assoc, sem_par (h p (by simp)), sem_pars l r _ (fun q hq => h q (by simp [hq])) hr]
    rfl
theorem glue_all (r : List By) : ∀ (l : List (List By × List By)) (p : List By × List By), (∀ q ∈ p :: l, ∀ post : List By, (∀ c ∈ post, c ∈ r) → partB (parT q ++ post) = some q) → (glue (parT p) l r).mapM partB = some (p :: l)
  | [], p, h => by
    show [parT p ++ r].mapM partB = _
    simp [h p (by simp) r fun _ hc => hc]
  | q :: l, p, h => by
    show (parT p :: glue (parT q) l r).mapM partB = _
    have h0 := h p (by simp) [] (by simp)
    rw [List.append_nil] at h0
    have h1 := glue_all r l q fun q' hq => h q' (by simp at hq ⊢; right; exact hq)
    simp [List.mapM_cons, h0, h1]
theorem trimL_pre : ∀ (pre v : List By), (∀ c ∈ pre, bl c = true) → trimL (pre ++ v) = trimL v
  | [], v, _ => rfl
  | c :: pre, v, h => by
    show List.dropWhile bl (c :: (pre ++ v)) = _
    rw [List.dropWhile_cons, if_pos (h c (by simp))]
    exact trimL_pre pre v fun d hd => h d (by simp [hd])
theorem trimL_hd {v : List By} (h : ∀ c ∈ v.head?, bl c = false) : trimL v = v := by
  cases v with
  | nil => rfl
  | cons c r =>
    show List.dropWhile bl (c :: r) = _
    rw [List.dropWhile_cons, if_neg (by rw [h c rfl]; decide)]
theorem trim_mid {pre v post : List By} (h1 : ∀ c ∈ pre, bl c = true) (h2 : ∀ c ∈ post, bl c = true) (hv : ¬ v = []) (hh : ∀ c ∈ v.head?, bl c = false) (ht : ∀ c ∈ v.reverse.head?, bl c = false) : trim (pre ++ v ++ post) = v := by
  unfold trim
  rw [List.append_assoc, trimL_pre pre _ h1, trimL_hd (v := v ++ post) (by
    intro c hc
    cases v with
    | nil => exact absurd rfl hv
    | cons d r => exact hh c hc), List.reverse_append, trimL_pre _ _ (by simpa using h2), trimL_hd ht, List.reverse_reverse]
theorem hd_of {v : List By} {q : By → Bool} (h : ∀ c ∈ v, q c = false) : ∀ c ∈ v.head?, q c = false := fun c hc => h c (List.mem_of_mem_head? hc)
theorem part_par {p : List By × List By} (h : atomB p.1 = true) (hs : p.1.map small = p.1) (hv : p.2.all sok = true) (post : List By) (hp : ∀ c ∈ post, bl c = true) : partB (parT p ++ post) = some p := by
  obtain ⟨n, v⟩ := p
  dsimp only at h hs hv
  have hn0 : ¬ n = [] := fun k => by subst k; revert h; decide
  have hpl := atom_all h
  generalize hV : (if simpleB v then v else [34] ++ esc v ++ [34]) = V
  have hsplit : parT (n, v) ++ post = (32 :: n) ++ 61 :: (V ++ post) := by
    rw [← hV]
    unfold parT
    simp
  have hf : fst 61 ((32 :: n) ++ 61 :: (V ++ post)) = (32 :: n).length := fst_app _ _ (by
    intro d hd
    rcases List.mem_cons.1 hd with rfl | hd
    · decide
    · exact (plain_no (hpl d hd)).2.2.1)
  have e1 : ((32 :: n) ++ 61 :: (V ++ post)).take (32 :: n).length = 32 :: n := List.take_left
  have e2 : ((32 :: n) ++ 61 :: (V ++ post)).drop ((32 :: n).length + 1) = V ++ post := by
    rw [show (32 :: n).length + 1 = ((32 :: n) ++ [61]).length by simp, show (32 :: n) ++ 61 :: (V ++ post) = ((32 :: n) ++ [61]) ++ (V ++ post) by simp, List.drop_left]
  have nb : ∀ c ∈ n, bl c = false := fun c hc => (plain_no (hpl c hc)).2.2.2.2
  have t1 : trim (32 :: n) = n := by
    have := trim_mid (pre := [32]) (v := n) (post := []) (by decide) (by simp) hn0 (hd_of nb) (hd_of (by simpa using nb))
    simpa using this
  have vb : ¬ V = [] ∧ (∀ c ∈ V.head?, bl c = false) ∧ (∀ c ∈ V.reverse.head?, bl c = false) := by
    cases hsv : simpleB v
    · rw [hsv, if_neg (by decide)] at hV
      subst hV
      refine ⟨by simp, ?_, ?_⟩
      · intro c hc
        simp at hc
        subst hc
        decide
      · intro c hc
        simp at hc
        subst hc
        decide
    · rw [hsv, if_pos rfl] at hV
      subst hV
      have lb : ∀ c ∈ v, bl c = false := fun c hc => (loose_no (simple_all hsv c hc)).2.2
      exact ⟨fun k => by subst k; revert hsv; decide, hd_of lb, hd_of (by simpa using lb)⟩
  have t2 : trim (V ++ post) = V := by
    have := trim_mid (pre := []) (v := V) (post := post) (by simp) hp vb.1 vb.2.1 vb.2.2
    simpa using this
  rw [hsplit]
  unfold partB
  rw [hf, e1, e2, t1, t2, if_neg (by simp), h, if_neg (by decide), hs]
  cases hsv : simpleB v
  · rw [hsv, if_neg (by decide)] at hV
    subst hV
    have hns : simpleB ([34] ++ esc v ++ [34]) = false := by
      cases e : simpleB ([34] ++ esc v ++ [34])
      · rfl
      · have := simple_all e 34 (by simp)
        revert this
        decide
    have hu : unqR ([34] ++ esc v ++ [34]).tail [] = (v, [34]) := by
      show unqR (esc v ++ 34 :: []) [] = _
      rw [unq_esc]
      rfl
    rw [hns, if_neg (by decide), if_neg (by
      rintro (k | k)
      · simp only [List.length_append, List.length_cons, List.length_nil] at k; omega
      · exact k rfl), hu, if_pos ⟨rfl, hv⟩]
  · rw [hsv, if_pos rfl] at hV
    subst hV
    rw [hsv, if_pos rfl]
theorem bl_no {c : By} (h : bl c = true) : ¬ c = 34 ∧ ¬ c = 59 := by
  have := byte_all (fun c => !bl c || (!decide (c = 34) && !decide (c = 59))) (by decide +kernel) c
  rw [h] at this
  simpa using this
/-- what is written is read as it was, blanks ahead and behind -/
theorem params_write {k : List By} {l : List (List By × List By)} (h : rightP k l = true) {pre post : List By} (h1 : ∀ c ∈ pre, bl c = true) (h2 : ∀ c ∈ post, bl c = true) : paramsT (pre ++ writeB k l ++ post) = (k, l, 0) := by
  obtain ⟨hk, hks, hl⟩ := right_is h
  obtain ⟨a, b, e, ha, hb⟩ := kind_is hk
  have kc : ∀ c ∈ k, ¬ c = 34 ∧ ¬ c = 59 ∧ bl c = false := by
    subst e
    intro c hc
    rcases List.mem_append.1 hc with hc | hc
    · have := plain_no (atom_all ha c hc); exact ⟨this.1, this.2.1, this.2.2.2.2⟩
    · rcases List.mem_cons.1 hc with rfl | hc
      · decide
      · have := plain_no (atom_all hb c hc); exact ⟨this.1, this.2.1, this.2.2.2.2⟩
  have k0 : ¬ k = [] := fun h => by subst e; simp at h
  have kb : ∀ c ∈ k, bl c = false := fun c hc => (kc c hc).2.2
  have hsem : semB (pre ++ writeB k l ++ post) = glue (pre ++ k) l post := by
    unfold semB writeB
    rw [show pre ++ (k ++ l.flatMap parW) ++ post = (pre ++ k) ++ (l.flatMap parW ++ post) by simp, sem_run, List.nil_append, sem_pars l post _ (fun p hp => (hl p hp).1) fun c hc => bl_no (h2 c hc)]
    intro c hc
    rcases List.mem_append.1 hc with hc | hc
    · exact bl_no (h1 c hc)
    · exact ⟨(kc c hc).1, (kc c hc).2.1⟩
  have htrim : trim ((glue (pre ++ k) l post).headD []) = k := by
    cases l with
    | nil => exact trim_mid h1 h2 k0 (hd_of kb) (hd_of (by simpa using kb))
    | cons p l =>
      have := trim_mid (post := []) h1 (by simp) k0 (hd_of kb) (hd_of (by simpa using kb))
      rw [List.append_nil] at this
      exact this
  have htail : (glue (pre ++ k) l post).tail.mapM partB = some l := by
    cases l with
    | nil => rfl
    | cons p l => exact glue_all post l p fun q hq po hpo => part_par (hl q hq).1 (hl q hq).2.1 (hl q hq).2.2 po fun c hc => h2 c (hpo c hc)
  unfold paramsT
  rw [hsem, htrim, htail, hk, if_neg (by decide), hks]
end Tok
end Go.Proofs.YtchoiikhepjdiaaDoor

/-
  Of no statement by itself: how the landed token reads values: comments, quoted texts, runs of bytes, ids: pure; no program stands here.
  Conditions: none but each lemma's own.
-/
namespace Go.Proofs.YtchoiikhepjdiaaDoor
namespace Tok
open Fld
/-! ### comments: what is left of one, so many begun in it, so many bytes behind -/
def commR : List Fld.By → Nat → Nat → Except Nat Nat
  | [], _, _ => .error 3
  | c :: r, d, k =>
    if c = 40 then (if 8 < d then .error 5 else commR r (d + 1) (k + 1))
    else if c = 41 then (if d - 1 = 0 then .ok (k + 1) else commR r (d - 1) (k + 1))
    else if c = 92 then
      match r with
      | [] => .error 3
      | _ :: r' => commR r' d (k + 2)
    else commR r d (k + 1)
theorem comm_40 (r : List Fld.By) (d k : Nat) : commR (40 :: r) d k = if 8 < d then .error 5 else commR r (d + 1) (k + 1) := by
  rw [commR.eq_def]; rfl
theorem comm_41 (r : List Fld.By) (d k : Nat) : commR (41 :: r) d k = if d - 1 = 0 then .ok (k + 1) else commR r (d - 1) (k + 1) := by
  rw [commR.eq_def]; rfl
theorem comm_92e (d k : Nat) : commR [92] d k = .error 3 := by rw [commR.eq_def]; rfl
theorem comm_92 (c : Fld.By) (r : List Fld.By) (d k : Nat) : commR (92 :: c :: r) d k = commR r d (k + 2) := by
  conv => lhs; rw [commR.eq_def]
  rfl
theorem comm_c {c : Fld.By} (h1 : ¬ c = 40) (h2 : ¬ c = 41) (h3 : ¬ c = 92) (r : List Fld.By) (d k : Nat) : commR (c :: r) d k = commR r d (k + 1) := by
  conv => lhs; rw [commR.eq_def]
  dsimp only
  rw [if_neg h1, if_neg h2, if_neg h3]
theorem comm_e (d k : Nat) : commR [] d k = .error 3 := by rw [commR.eq_def]
/-- a comment is one blank -/
theorem comm_bare : ∀ (n : Nat) (r : List Fld.By) (d k : Nat) (o : List Fld.By), r.length ≤ n → 0 < d →
    (∀ e, commR r d k = .error e → bareR r d false o = ([], e)) ∧ (∀ m, commR r d k = .ok m → k < m ∧ m ≤ k + r.length ∧ bareR r d false o = bareR (r.drop (m - k)) 0 false (o ++ [32])) := by
  intro n
  induction n with
  | zero =>
    intro r d k o h hd
    obtain rfl : r = [] := List.eq_nil_of_length_eq_zero (by omega)
    rw [comm_e, bare_end]
    refine ⟨fun e he => ?_, fun m hm => by cases hm⟩
    cases he
    rw [decide_eq_true (by omega), Bool.true_or, if_pos rfl]
  | succ n ih =>
    intro r d k o h hd
    match r, h with
    | [], _ =>
      rw [comm_e, bare_end]
      refine ⟨fun e he => ?_, fun m hm => by cases hm⟩
      cases he
      rw [decide_eq_true (by omega), Bool.true_or, if_pos rfl]
    | c :: r, h =>
      simp only [List.length_cons] at h ⊢
      have step : ∀ (r' : List Fld.By) (j d' : Nat) (o' : List Fld.By), r'.length ≤ n → 0 < d' → (∀ x, (c :: r).drop (j + x) = r'.drop x) → j + r'.length = r.length + 1 → 0 < j → o' = o → bareR (c :: r) d false o = bareR r' d' false o' →
          commR (c :: r) d k = commR r' d' (k + j) →
          (∀ e, commR (c :: r) d k = .error e → bareR (c :: r) d false o = ([], e)) ∧ (∀ m, commR (c :: r) d k = .ok m → k < m ∧ m ≤ k + (r.length + 1) ∧ bareR (c :: r) d false o = bareR ((c :: r).drop (m - k)) 0 false (o ++ [32])) := by
        intro r' j d' o' hl hd' hdr hjl hj ho hb hc
        subst ho
        obtain ⟨i1, i2⟩ := ih r' d' (k + j) o' hl hd'
        rw [hb, hc]
        refine ⟨i1, fun m hm => ?_⟩
        obtain ⟨a1, a2, a3⟩ := i2 m hm
        refine ⟨by omega, by omega, ?_⟩
        rw [a3, show m - k = j + (m - (k + j)) by omega, hdr]
      by_cases h40 : c = 40
      · subst h40
        by_cases h8 : 8 < d
        · rw [comm_40, if_pos h8]
          refine ⟨fun e he => ?_, fun m hm => by cases hm⟩
          cases he
          rw [bare_40, if_pos (by omega)]
        · exact step r 1 (d + 1) o (by omega) (by omega) (fun x => by rw [Nat.add_comm]; rfl) (by omega) (by omega) rfl (by rw [bare_40, if_neg (by omega)]) (by rw [comm_40, if_neg h8])
      · by_cases h41 : c = 41
        · subst h41
          by_cases h1 : d - 1 = 0
          · rw [comm_41, if_pos h1]
            refine ⟨fun e he => by (cases he), fun m hm => ?_⟩
            cases hm
            refine ⟨by omega, by omega, ?_⟩
            rw [bare_41, if_neg (by omega), if_pos h1, h1, show k + 1 - k = 1 by omega]
            rfl
          · exact step r 1 (d - 1) o (by omega) (by omega) (fun x => by rw [Nat.add_comm]; rfl) (by omega) (by omega) rfl (by rw [bare_41, if_neg (by omega), if_neg h1]) (by rw [comm_41, if_neg h1])
        · by_cases h92 : c = 92
          · subst h92
            match r, h with
            | [], _ =>
              rw [comm_92e, bare_d92e hd]
              exact ⟨fun e he => by cases he; rfl, fun m hm => by cases hm⟩
            | c2 :: r, h =>
              simp only [List.length_cons] at h
              exact step r 2 d o (by omega) hd (fun x => by rw [Nat.add_comm]; rfl) (by simp only [List.length_cons]; omega) (by omega) rfl (bare_d92 hd c2 r o) (comm_92 c2 r d k)
          · exact step r 1 d o (by omega) hd (fun x => by rw [Nat.add_comm]; rfl) (by omega) (by omega) rfl (bare_s h92 h40 h41 (by omega) r o) (comm_c h40 h41 h92 r d k)
/-! ### quoted texts: behind their first sign, where they end; 0, if they don't -/
def quotR : List Fld.By → Nat → Nat
  | [], _ => 0
  | c :: r, k =>
    if c = 92 then
      match r with
      | [] => 0
      | _ :: r' => quotR r' (k + 2)
    else if c = 34 then k + 1 else quotR r (k + 1)
theorem quot_e (k : Nat) : quotR [] k = 0 := by rw [quotR.eq_def]
theorem quot_34 (r : List Fld.By) (k : Nat) : quotR (34 :: r) k = k + 1 := by rw [quotR.eq_def]; rfl
theorem quot_92e (k : Nat) : quotR [92] k = 0 := by rw [quotR.eq_def]; rfl
theorem quot_92 (c : Fld.By) (r : List Fld.By) (k : Nat) : quotR (92 :: c :: r) k = quotR r (k + 2) := by
  conv => lhs; rw [quotR.eq_def]
  rfl
theorem quot_c {c : Fld.By} (h1 : ¬ c = 34) (h2 : ¬ c = 92) (r : List Fld.By) (k : Nat) : quotR (c :: r) k = quotR r (k + 1) := by
  conv => lhs; rw [quotR.eq_def]
  dsimp only
  rw [if_neg h2, if_neg h1]
theorem quot_bare : ∀ (n : Nat) (r : List Fld.By) (k : Nat) (o : List Fld.By), r.length ≤ n →
    (quotR r k = 0 → bareR r 0 true o = ([], 3)) ∧ (quotR r k ≠ 0 → k < quotR r k ∧ quotR r k ≤ k + r.length ∧ bareR r 0 true o = bareR (r.drop (quotR r k - k)) 0 false (o ++ r.take (quotR r k - k))) := by
  intro n
  induction n with
  | zero =>
    intro r k o h
    obtain rfl : r = [] := List.eq_nil_of_length_eq_zero (by omega)
    rw [quot_e, bare_end]
    exact ⟨fun _ => rfl, fun h => absurd rfl h⟩
  | succ n ih =>
    intro r k o h
    match r, h with
    | [], _ =>
      rw [quot_e, bare_end]
      exact ⟨fun _ => rfl, fun h => absurd rfl h⟩
    | c :: r, h =>
      simp only [List.length_cons] at h ⊢
      by_cases h92 : c = 92
      · subst h92
        match r, h with
        | [], _ =>
          rw [quot_92e, bare_q92e]
          exact ⟨fun _ => rfl, fun h => absurd rfl h⟩
        | c2 :: r, h =>
          simp only [List.length_cons] at h ⊢
          obtain ⟨i1, i2⟩ := ih r (k + 2) (o ++ [92] ++ [c2]) (by omega)
          rw [quot_92, bare_q92]
          refine ⟨i1, fun hn => ?_⟩
          obtain ⟨a1, a2, a3⟩ := i2 hn
          refine ⟨by omega, by omega, ?_⟩
          rw [a3, show quotR r (k + 2) - k = (quotR r (k + 2) - (k + 2)) + 1 + 1 by omega, List.drop_succ_cons, List.drop_succ_cons, List.take_succ_cons, List.take_succ_cons]
          simp
      · by_cases h34 : c = 34
        · subst h34
          rw [quot_34]
          refine ⟨fun h => absurd h (by omega), fun _ => ⟨by omega, by omega, ?_⟩⟩
          rw [bare_q (by decide), show k + 1 - k = 0 + 1 by omega, List.drop_succ_cons, List.take_succ_cons]
          rfl
        · obtain ⟨i1, i2⟩ := ih r (k + 1) (o ++ [c]) (by omega)
          rw [quot_c h34 h92, bare_q h92]
          have hb : (!(c == 34)) = true := by
            rw [Bool.not_eq_true', beq_eq_false_iff_ne]
            exact h34
          rw [hb]
          refine ⟨i1, fun hn => ?_⟩
          obtain ⟨a1, a2, a3⟩ := i2 hn
          refine ⟨by omega, by omega, ?_⟩
          rw [a3, show quotR r (k + 1) - k = (quotR r (k + 1) - (k + 1)) + 1 by omega, List.drop_succ_cons, List.take_succ_cons]
          simp
/-! ### one step of Bare -/
theorem step_comm {r : List Fld.By} {e : Nat} (o : List Fld.By) (h : commR (40 :: r) 0 0 = .error e) : bareR (40 :: r) 0 false o = ([], e) := by
  rw [comm_40, if_neg (by omega)] at h
  rw [bare_40, if_neg (by omega)]
  exact (comm_bare r.length r 1 1 o (Nat.le_refl _) (by omega)).1 e h
theorem step_comm_ok {r : List Fld.By} {m : Nat} (o : List Fld.By) (h : commR (40 :: r) 0 0 = .ok m) : 0 < m ∧ m ≤ r.length + 1 ∧ bareR (40 :: r) 0 false o = bareR ((40 :: r).drop m) 0 false (o ++ [32]) := by
  rw [comm_40, if_neg (by omega)] at h
  rw [bare_40, if_neg (by omega)]
  obtain ⟨h1, h2, h3⟩ := (comm_bare r.length r 1 1 o (Nat.le_refl _) (by omega)).2 m h
  refine ⟨by omega, by omega, ?_⟩
  rw [h3]
  obtain ⟨m', rfl⟩ : ∃ m', m = m' + 1 := ⟨m - 1, by omega⟩
  rfl
theorem step_quot {r : List Fld.By} (o : List Fld.By) (h : quotR r 1 = 0) : bareR (34 :: r) 0 false o = ([], 3) := by
  rw [bare_0 (by decide) (by decide)]
  exact (quot_bare r.length r 1 _ (Nat.le_refl _)).1 h
theorem step_quot_ok {r : List Fld.By} (o : List Fld.By) (h : quotR r 1 ≠ 0) : 1 < quotR r 1 ∧ quotR r 1 ≤ r.length + 1 ∧ bareR (34 :: r) 0 false o = bareR ((34 :: r).drop (quotR r 1)) 0 false (o ++ (34 :: r).take (quotR r 1)) := by
  rw [bare_0 (by decide) (by decide)]
  obtain ⟨h1, h2, h3⟩ := (quot_bare r.length r 1 (o ++ [34]) (Nat.le_refl _)).2 h
  refine ⟨h1, by omega, ?_⟩
  show bareR r 0 true (o ++ [34]) = _
  rw [h3]
  generalize quotR r 1 = m at h1 ⊢
  obtain ⟨m', rfl⟩ : ∃ m', m = m' + 1 := ⟨m - 1, by omega⟩
  simp
/-! ### runs of bytes -/
def runB (p : Fld.By → Bool) (s : List Fld.By) : Nat := (s.takeWhile p).length
theorem runB_le (p : Fld.By → Bool) (s : List Fld.By) : runB p s ≤ s.length := (List.takeWhile_sublist _).length_le
theorem runB_cons (p : Fld.By → Bool) (c : Fld.By) (s : List Fld.By) : runB p (c :: s) = if p c then runB p s + 1 else 0 := by
  unfold runB
  rw [List.takeWhile_cons]
  cases p c <;> simp
theorem runB_take (p : Fld.By → Bool) : ∀ s : List Fld.By, s.take (runB p s) = s.takeWhile p
  | [] => rfl
  | c :: s => by
    rw [runB_cons, List.takeWhile_cons]
    cases p c with
    | true => simp [runB_take p s]
    | false => simp
theorem runB_drop (p : Fld.By → Bool) : ∀ s : List Fld.By, s.drop (runB p s) = s.dropWhile p
  | [] => rfl
  | c :: s => by
    rw [runB_cons, List.dropWhile_cons]
    cases p c with
    | true => simp [runB_drop p s]
    | false => simp
theorem runB_all (p : Fld.By → Bool) : ∀ s : List Fld.By, (runB p s = s.length) ↔ s.all p = true
  | [] => by simp [runB]
  | c :: s => by
    rw [runB_cons, List.all_cons, List.length_cons]
    have ih := runB_all p s
    cases p c with
    | true => simpa using ih
    | false => simp
theorem runB_app {p : Fld.By → Bool} {a b : List Fld.By} (ha : a.all p = true) (hb : ∀ c ∈ b.head?, p c = false) : runB p (a ++ b) = a.length := by
  unfold runB
  rw [List.takeWhile_append_of_pos (List.all_eq_true.1 ha)]
  have : b.takeWhile p = [] := by
    cases b with
    | nil => rfl
    | cons c r => simp [hb c rfl]
  rw [this]; simp
theorem atom_run (s : List Fld.By) : atomB s = (decide (s ≠ []) && decide (runB plainB s = s.length)) := by
  unfold atomB
  rw [Bool.eq_iff_iff, Bool.and_eq_true, Bool.and_eq_true, decide_eq_true_eq, decide_eq_true_eq, decide_eq_true_eq, runB_all, List.length_pos_iff]
  exact and_comm
theorem simple_run (s : List Fld.By) : simpleB s = (decide (s ≠ []) && decide (runB looseB s = s.length)) := by
  unfold simpleB
  rw [Bool.eq_iff_iff, Bool.and_eq_true, Bool.and_eq_true, decide_eq_true_eq, decide_eq_true_eq, decide_eq_true_eq, runB_all, List.length_pos_iff]
  exact and_comm
/-! ### ids -/
def idq (c : Fld.By) : Bool := decide (33 ≤ c.toNat) && (decide (c.toNat ≤ 126) && (!(c == 60) && !(c == 62)))
theorem idsC_n (c : Fld.By) (r : List Fld.By) (o : List (List Fld.By)) : idsR (c :: r) o none = if bl c then idsR r o none else if c = 60 then idsR r o (some []) else ([], 3) := by rw [idsR.eq_def]
theorem idsC_s (c : Fld.By) (r : List Fld.By) (o : List (List Fld.By)) (x : List Fld.By) : idsR (c :: r) o (some x) = if c = 62 then (if x.length = 0 then ([], 3) else idsR r (o ++ [x]) none)
    else if c.toNat < 33 ∨ 126 < c.toNat ∨ c = 60 then ([], 3) else idsR r o (some (x ++ [c])) := by rw [idsR.eq_def]
theorem ids_trimL : ∀ (t : List Fld.By) (o : List (List Fld.By)), idsR t o none = idsR (trimL t) o none
  | [], _ => rfl
  | c :: r, o => by
    cases hc : bl c with
    | true =>
      have e : trimL (c :: r) = trimL r := by simp [trimL, hc]
      rw [e, idsC_n, if_pos hc]
      exact ids_trimL r o
    | false =>
      have e : trimL (c :: r) = c :: r := by simp [trimL, hc]
      rw [e]
theorem ids_some : ∀ (r : List Fld.By) (o : List (List Fld.By)) (x : List Fld.By),
    idsR r o (some x) = idsR (r.dropWhile idq) o (some (x ++ r.takeWhile idq))
  | [], o, x => by simp
  | c :: r, o, x => by
    cases hc : idq c with
    | true =>
      have h : 33 ≤ c.toNat ∧ c.toNat ≤ 126 ∧ ¬ c = 60 ∧ ¬ c = 62 := by simpa [idq] using hc
      rw [idsC_s, if_neg h.2.2.2, if_neg (by rintro (h1 | h1 | h1); omega; omega; exact h.2.2.1 h1), ids_some r o (x ++ [c])]
      simp [hc]
    | false => simp [hc]
theorem ids_stop {c : Fld.By} {r : List Fld.By} (hc : idq c = false) (h62 : ¬ c = 62) (o : List (List Fld.By)) (x : List Fld.By) : idsR (c :: r) o (some x) = ([], 3) := by
  rw [idsC_s, if_neg h62, if_pos]
  simp only [idq, Bool.and_eq_false_imp, decide_eq_true_eq, Bool.not_eq_true', beq_eq_false_iff_ne] at hc
  by_cases h1 : c.toNat < 33
  · exact .inl h1
  · by_cases h2 : 126 < c.toNat
    · exact .inr (.inl h2)
    · refine .inr (.inr ?_)
      have := hc (by omega) (by omega)
      by_cases h3 : c = 60
      · exact h3
      · have h5 := this h3
        simp at h5
        exact absurd h5 h62
/-- one id: what a round makes of a text without blanks ahead, that isn't empty -/
theorem ids_round (t : List Fld.By) (ht : t ≠ []) (hb : ∀ c ∈ t.head?, bl c = false) (o : List (List Fld.By)) :
    idsR t o none = if t.head? = some 60 ∧ runB idq t.tail ≠ 0 ∧ (t.tail.drop (runB idq t.tail)).head? = some 62 then
      idsR (trimL (t.tail.drop (runB idq t.tail)).tail) (o ++ [t.tail.take (runB idq t.tail)]) none else ([], 3) := by
  match t, ht with
  | c :: r, _ =>
    have hcb := hb c rfl
    rw [idsC_n, if_neg (by rw [hcb]; decide)]
    by_cases hc : c = 60
    · subst hc
      rw [if_pos rfl, List.tail_cons, ids_some, List.nil_append, runB_drop, runB_take]
      have hl : runB idq r = (r.takeWhile idq).length := rfl
      cases hd : r.dropWhile idq with
      | nil =>
        rw [if_neg (by rintro ⟨_, _, h⟩; simp at h)]
        rfl
      | cons d r' =>
        have hdq : idq d = false := by
          have := List.head?_dropWhile_not idq r
          rw [hd] at this
          simpa using this
        by_cases h62 : d = 62
        · subst h62
          by_cases h0 : (r.takeWhile idq).length = 0
          · rw [if_neg (by rintro ⟨_, h, _⟩; exact h (hl.trans h0)), idsC_s, if_pos rfl, if_pos h0]
          · rw [if_pos ⟨rfl, fun h => h0 (hl ▸ h), rfl⟩, idsC_s, if_pos rfl, if_neg h0, List.tail_cons, ← ids_trimL]
        · rw [if_neg (by rintro ⟨_, _, h⟩; exact h62 (by simpa using h)), ids_stop hdq h62]
    · rw [if_neg hc, if_neg (by rintro ⟨h, _⟩; exact hc (by simpa using h))]
end Tok
end Go.Proofs.YtchoiikhepjdiaaDoor
