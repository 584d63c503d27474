/-
  Of no statement by itself: slices of bytes as arguments and as answers, their parts; calls that hand out new blocks; strings as bytes; small rules that several texts use; for any program P.
  Conditions: each theorem's own.
-/
import Derived.Test.YtbihfhkbkcplmaaSlz
import Derived.Test.YtbihfhkbkcplmaaSlu
import Derived.Test.YtbihfhkbkcplmaaSlh
import Derived.Lib.ConvBytes
namespace Go.Proofs.Ytbihfhkbkcplmaa
set_option maxRecDepth 10000
open Sl
abbrev Bt := BitVec 8
structure Sl8 where
  ad : Option Addr
  cap : Nat
  l : List Bt
def Sl8.v (s : Sl8) : Value := .slice s.ad s.l.length s.cap
structure Sl8.ok (w : World) (s : Sl8) : Prop where
  len : s.l.length ≤ s.cap
  reads : Reads w s.ad (s.l.map U8)
theorem Sl8.ok.lt {w : World} {s : Sl8} (h : s.ok w) (h0 : s.l ≠ []) : ∀ a, s.ad = some a → a.block < w.heap.size := by
  obtain ⟨b, j, h1, h2⟩ := h.reads.at (by simpa using List.length_pos_iff.2 h0)
  intro a ha
  rw [h1] at ha
  cases ha
  exact block_lt_of_cell (h2 0 _ (map_at U8 0 (List.length_pos_iff.2 h0)))
theorem Sl8.ok.holds {w0 w : World} {S : List Nat} {M : List Ent} {s : Sl8} (h : s.ok w0) (hw : Holds w0 S M w) (hS : S = []) : s.ok w := ⟨h.len, hw.reads h.reads (fun _ a _ => by rw [hS]; simp)⟩
theorem Sl8.ok.ext {w w' : World} {s : Sl8} (h : s.ok w) (hx : Ext w w') : s.ok w' := h.holds (⟨hx, by simp, by simp⟩ : Holds w [] [] w') rfl
theorem OQ.neA_f {P : Program} {n : Nat} {E : Env} {C : World → Prop} {dst : Option Tmp} {t t' ty e : TypeId} {x y : Operand} {pos : String} {aft : Array Edge} {g : Option (Nat × Bool)} {m : Nat} {r q : List (BitVec 8)} (hu : P.underlying t = some (.array m e)) (he : P.underlying e = some (.int .u8)) (hz : szT P e = some 1) (hgd : P.eqGuardType P.depth t = false) (hx : ev E x = some (.agg (r.map U8).toArray)) (hy : ev E y = some (.agg (q.map U8).toArray)) (hr : r.length = m) (hq : q.length = m) (h : r = q) :
    OQ P n E C ⟨dst, .binOp .neq t x y t', ty, pos, aft, g⟩ (.bool false) := by
  have := OQ.neA (P := P) (n := n) (E := E) (C := C) (dst := dst) (t' := t') (ty := ty) (pos := pos) (aft := aft) (g := g) hu he hz hgd hx hy hr hq
  simpa [h] using this
theorem row_at {e : TypeId} {a c b : List Value} {j : Nat} (h : a.length = j) : ∀ o, Row e (a ++ c ++ b) o → hasCells o j c := by
  rintro o rfl
  refine ⟨_, _, _, rfl, fun i hi => ?_⟩
  subst h
  simp [List.getElem?_append, hi]
theorem OQ.neA_t {P : Program} {n : Nat} {E : Env} {C : World → Prop} {dst : Option Tmp} {t t' ty e : TypeId} {x y : Operand} {pos : String} {aft : Array Edge} {g : Option (Nat × Bool)} {m : Nat} {r q : List (BitVec 8)} (hu : P.underlying t = some (.array m e)) (he : P.underlying e = some (.int .u8)) (hz : szT P e = some 1) (hgd : P.eqGuardType P.depth t = false) (hx : ev E x = some (.agg (r.map U8).toArray)) (hy : ev E y = some (.agg (q.map U8).toArray)) (hr : r.length = m) (hq : q.length = m) (h : ¬ r = q) :
    OQ P n E C ⟨dst, .binOp .neq t x y t', ty, pos, aft, g⟩ (.bool true) := by
  have := OQ.neA (P := P) (n := n) (E := E) (C := C) (dst := dst) (t' := t') (ty := ty) (pos := pos) (aft := aft) (g := g) hu he hz hgd hx hy hr hq
  rwa [decide_eq_false h] at this
def nilS : Sl8 := ⟨none, 0, []⟩
theorem nilS_ok (w : World) : nilS.ok w := ⟨by simp [nilS], Reads.nil _ _⟩
theorem less_pre (A M : List Ent) : Less A (A ++ M) := by
  induction A with
  | nil => exact .nil _
  | cons e A ih => exact .keep _ _ _ _ _ _ (fun _ h => h) ih
theorem has_cell {o : Obj} {j k : Nat} {cs : List Value} {v : Value} (h : hasCells o j cs) (hv : cs[k]? = some v) : cellAt o (j + k) = some v := by
  obtain ⟨c, e, fr, rfl, h⟩ := h
  have hk := (List.getElem?_eq_some_iff.1 hv).1
  have := h k hk
  rw [hv] at this
  simpa [cellAt] using this
theorem OQ.lenZ {P : Program} {n : Nat} {E : Env} {C : World → Prop} {dst : Option Tmp} {t ty : TypeId} {pos : String} {aft : Array Edge} {g : Option (Nat × Bool)} {x : Operand} {s : ByteArray} (hu : P.underlying t = some .string) (hx : ev E x = some (.string s)) : OQ P n E C ⟨dst, .call ⟨.builtin .len, #[x], #[t]⟩, ty, pos, aft, g⟩ (N s.size) :=
  OQ.run fun a ha w _ => by
    have h1 := ha.eval hx
    have h3 : (underlying t).run P w = .ok .string w := run_underlying hu w
    simp [execOp, h1, resolve, invoke, builtin, Builtin.len_, Sem.run_bind, h3, goInt]
theorem has_part {o : Obj} {j k t : Nat} {cs : List Value} (h : hasCells o j cs) (hk : k + t ≤ cs.length) : hasCells o (j + k) ((cs.drop k).take t) := by
  obtain ⟨c, e, fr, rfl, h⟩ := h
  refine ⟨c, e, fr, rfl, fun i hi => ?_⟩
  have hi : i < t := by simp at hi; omega
  rw [Nat.add_assoc, h (k + i) (by omega), List.getElem?_take, if_pos hi, List.getElem?_drop]
theorem JC.fact {P : Program} {n : Nat} {w0 : World} {S : List Nat} {Q : Exit → Act → World → Prop} {c : Code} {E : Env} {M : List Ent} {b : Nat} {A : Obj → Prop} {wr : Bool} {p : Prop} (hM : Has M b A wr) (hA : ∀ o, A o → p) (h : p → JC P n w0 S Q c E M) : JC P n w0 S Q c E M :=
  ⟨fun a w ha hw => let ⟨o, _, ho⟩ := hw.get hM; (h (hA o ho)).go a w ha hw⟩
theorem JL.fact {P : Program} {n : Nat} {w0 : World} {S : List Nat} {ops : Array Oper} {Q : Exit → Act → World → Prop} {l : List Oper} {E : Env} {M : List Ent} {b : Nat} {A : Obj → Prop} {wr : Bool} {p : Prop} (hM : Has M b A wr) (hA : ∀ o, A o → p) (h : p → JL P n w0 S ops Q l E M) : JL P n w0 S ops Q l E M :=
  ⟨fun a w ha hw => let ⟨o, _, ho⟩ := hw.get hM; (h (hA o ho)).go a w ha hw⟩
theorem Sl.Holds.swap {w0 w : World} {S : List Nat} {e1 e2 : Ent} {M : List Ent} (h : Holds w0 S (e1 :: e2 :: M) w) : Holds w0 S (e2 :: e1 :: M) w := by
  refine ⟨h.chg, ?_, fun e he => h.all e ?_⟩
  · have := h.nodup
    simp only [List.map_cons, List.nodup_cons, List.mem_cons, not_or] at this ⊢
    exact ⟨⟨Ne.symm this.1.1, this.2.1⟩, this.1.2, this.2.2⟩
  · simp only [List.mem_cons] at he ⊢
    rcases he with h | h | h
    · exact .inr (.inl h)
    · exact .inl h
    · exact .inr (.inr h)
theorem JE.swap {n : Nat} {w0 : World} {S : List Nat} {Q : Exit → Act → World → Prop} {e : Exit} {E : Env} {e1 e2 : Ent} {M : List Ent} (h : JE n w0 S Q e E (e2 :: e1 :: M)) : JE n w0 S Q e E (e1 :: e2 :: M) := ⟨fun a w ha hw => h.go a w ha hw.swap⟩
theorem JE.less {n : Nat} {w0 : World} {S : List Nat} {Q : Exit → Act → World → Prop} {e : Exit} {E : Env} {M M' : List Ent} (hM : Less M' M) (h : JE n w0 S Q e E M') : JE n w0 S Q e E M := ⟨fun a w ha hw => h.go a w ha (hw.weak hM)⟩
theorem Own.has {e : TypeId} {k cap m : Nat} {r : List Bt} : ∀ o, Own e 1 k cap (r.map U8) o → hasCells o 0 ((r.take m).map U8) ∧ k ≤ cap := by
  rintro o ⟨sp, rfl, h1, h2, h3⟩
  refine ⟨⟨_, _, _, rfl, fun i hi => ?_⟩, h3⟩
  have hi' : i < m ∧ i < r.length := by simp at hi; omega
  simp [List.getElem?_append_left, hi'.1, hi'.2]
def Sl8.ents (s : Sl8) : List Ent := match s.ad with
  | some a => [⟨a.block, fun o => hasCells o a.off (s.l.map U8) ∧ s.l.length ≤ s.cap ∧ a.spot = none, true⟩]
  | none => []
theorem Sl8.ents_ok {s : Sl8} {w0 w : World} {S : List Nat} {M : List Ent} (h : Holds w0 S (s.ents ++ M) w) (h0 : s.ad = none → s.l = []) : s.ok w := by
  obtain ⟨ad, cap, l⟩ := s
  cases ad with
  | none =>
    have : l = [] := h0 rfl
    subst this
    exact ⟨by simp, Reads.nil _ _⟩
  | some a =>
    obtain ⟨o, ho, h1, h2, h3⟩ := h.get (b := a.block) (A := fun o => hasCells o a.off (l.map U8) ∧ l.length ≤ cap ∧ a.spot = none) (wr := true) .here
    obtain ⟨b, j, sp⟩ := a
    simp only at h3
    subst h3
    exact ⟨h2, Reads.block ho h1⟩
structure Gave (s : Sl8) (l : List Bt) (cap : Nat) : Prop where
  val : s.l = l
  cap : s.cap = cap
  none : s.ad = .none → s.l = []
section
variable {P : Program} {n : Nat} {w0 w w' : World} {S : List Nat} {ops : Array Oper} {Q : Exit → Act → World → Prop} {l : List Oper} {E : Env} {M Ms : List Ent} {d : Nat} {t t' e ty : TypeId} {pos : String} {aft : Array Edge} {x : Operand}
theorem Sl.Holds.both (h : Holds w0 S M w) (h2 : Holds w [] Ms w') (hw : ∀ e ∈ Ms, e.wr = true) : Holds w0 S (Ms ++ M) w' := by
  have hx : Ext w w' := h2.chg
  have h1 := h.ext hx
  have hfr : ∀ e ∈ Ms, w.heap.size ≤ e.b := fun e he => by
    rcases (h2.all e he).2 (hw e he) with h | h
    · cases h
    · exact h
  refine ⟨h1.chg, ?_, fun e he => ?_⟩
  · rw [List.map_append, List.nodup_append]
    refine ⟨h2.nodup, h1.nodup, fun a ha b hb e => ?_⟩
    simp only [List.mem_map] at ha hb
    obtain ⟨e1, he1, rfl⟩ := ha
    obtain ⟨e2, he2, rfl⟩ := hb
    have := hfr e1 he1
    obtain ⟨⟨o, ho, _⟩, _⟩ := h.all e2 he2
    have := (Array.getElem?_eq_some_iff.1 ho).1
    omega
  · rcases List.mem_append.1 he with he | he
    · refine ⟨(h2.all e he).1, fun _ => .inr (Nat.le_trans h.chg.size (hfr e he))⟩
    · exact h1.all e he
theorem Sl8.ents_wr (s : Sl8) : ∀ e ∈ s.ents, e.wr = true := by
  intro e he
  unfold Sl8.ents at he
  split at he
  · simp only [List.mem_singleton] at he
    subst he
    rfl
  · cases he
theorem JL.callg {ι : Type} (vf : ι → Value) (Mf : ι → List Ent) {f : FuncId} {xs : List Operand} {ats : Array TypeId} {vs : List Value} (hg : Goes P f) (hx : evs E xs = some vs) (hd : Nat.blt d n = true) (hwr : ∀ i, ∀ e ∈ Mf i, e.wr = true)
    (hc : ∀ w, Holds w0 S M w → Calls P f vs.toArray w fun e w' => ∃ i, e = .returned (vf i) ∧ Holds w [] (Mf i) w')
    (k : ∀ i, JL P n w0 S ops Q l ((d, vf i) :: E) (Mf i ++ M)) : JL P n w0 S ops Q (⟨some d, .call ⟨.value (.func f), xs.toArray, ats⟩, ty, pos, aft, none⟩ :: l) E M :=
  JL.call (ι := ι) vf (fun i => Mf i ++ M) hg hx hd (fun w hw => (hc w hw).mono fun _ _ ⟨i, h1, h2⟩ => ⟨i, h1, hw.both h2 (hwr i)⟩) k
end
section
variable {P : Program} {n : Nat} {w0 w w' : World} {S : List Nat} {ops : Array Oper} {Q : Exit → Act → World → Prop} {l : List Oper} {E : Env} {M Ms : List Ent} {d : Nat} {t t' e ty : TypeId} {pos : String} {aft : Array Edge} {x : Operand}
def bytesOf (s : ByteArray) : List Bt := s.data.toList.map UInt8.toBitVec
theorem bytesOf_length (s : ByteArray) : (bytesOf s).length = s.size := by simp [bytesOf]
/-- []byte(s) -/
theorem JL.s2b {s : ByteArray} {u : TypeDesc} (hs : P.underlying t = some u) (hu : P.underlying t' = some (.slice e)) (he : P.underlying e = some (.int .u8)) (hx : ev E x = some (.string s)) (hd : Nat.blt d n = true)
    (k : ∀ b cap, JL P n w0 S ops Q l ((d, Sl8.v ⟨some ⟨b, 0, none⟩, cap, bytesOf s⟩) :: E) ((⟨some ⟨b, 0, none⟩, cap, bytesOf s⟩ : Sl8).ents ++ M)) : JL P n w0 S ops Q (⟨some d, .convert t t' x, ty, pos, aft, none⟩ :: l) E M :=
  ⟨fun a w ha hw => wpList_plain rfl fun K hK => by
    have hrun := Lib.run_convert_string_bytes (P := P) w t t' e s hs hu he
    have hheap : (Lib.bytesWorld w e s).heap = w.heap.push (.cells (Lib.bytesCells w e s) e ((Lib.bytesCells w e s).size, (Lib.bytesCells w e s).size + 1)) := by
      apply Array.ext_getElem?
      intro i
      rw [Array.getElem?_push]
      by_cases h : i = w.heap.size
      · rw [if_pos h, h, Lib.bytesWorld_at_new]
      · rw [if_neg h]
        by_cases h2 : i < w.heap.size
        · rw [Lib.bytesWorld_at_old _ _ _ _ h2]
        · rw [Array.getElem?_eq_none (by rw [Lib.bytesWorld_size]; omega), Array.getElem?_eq_none (by omega)]
    have hge := grownCap_ge w s.size 0 e
    have hcells : hasCells (.cells (Lib.bytesCells w e s) e ((Lib.bytesCells w e s).size, (Lib.bytesCells w e s).size + 1)) 0 ((bytesOf s).map U8) := by
      refine ⟨_, _, _, rfl, fun i hi => ?_⟩
      have hi : i < s.data.size := by simpa [bytesOf] using hi
      simp only [Lib.bytesCells, bytesOf, Nat.zero_add, Array.getElem?_append, Array.size_map, hi, if_true, Array.getElem?_map, List.getElem?_map, Array.getElem?_toList, Option.map_map]
      rfl
    have h5 : Sl8.v ⟨some ⟨w.heap.size, 0, none⟩, grownCap w s.size 0 e, bytesOf s⟩ = .slice (some ⟨w.heap.size, 0, none⟩) s.size (grownCap w s.size 0 e) := by
      simp [Sl8.v, bytesOf_length]
    unfold Oper.wp
    simp only [execOp, ha.eval hx, Sem.run_bind, hrun, Result.andThen_ok]
    rw [← h5]
    exact hK _ _ ((k w.heap.size (grownCap w s.size 0 e)).go _ _ (ha.put d _ hd) (hw.push _ ⟨hcells, by show (bytesOf s).length ≤ _; rw [bytesOf_length]; exact hge, rfl⟩ hheap rfl rfl rfl))⟩
end
section
variable {P : Program} {n : Nat} {E : Env} {C : World → Prop} {dst : Option Tmp} {t t' ty : TypeId} {pos : String} {aft : Array Edge} {g : Option (Nat × Bool)} {x y : Operand}
theorem OQ.leqN_t {a b : Nat} (hx : ev E x = some (N a)) (hy : ev E y = some (N b)) (h : a ≤ b) : OQ P n E C ⟨dst, .binOp .leq t x y t', ty, pos, aft, g⟩ (.bool true) :=
  (decide_eq_true h : decide (a ≤ b) = true) ▸ OQ.leqN hx hy
theorem OQ.leqN_f {a b : Nat} (hx : ev E x = some (N a)) (hy : ev E y = some (N b)) (h : ¬ a ≤ b) : OQ P n E C ⟨dst, .binOp .leq t x y t', ty, pos, aft, g⟩ (.bool false) :=
  (decide_eq_false h : decide (a ≤ b) = false) ▸ OQ.leqN hx hy
theorem OQ.ne8 {a b : Bt} (hx : ev E x = some (U8 a)) (hy : ev E y = some (U8 b)) : OQ P n E C ⟨dst, .binOp .neq t x y t', ty, pos, aft, g⟩ (.bool (!decide (a = b))) := by
  have := OQ.nei (P := P) (n := n) (C := C) (dst := dst) (ty := ty) (t := t) (t' := t') (pos := pos) (aft := aft) (g := g) hx hy
  have h : decide ((a.toNat : Int) = b.toNat) = decide (a = b) := decide_eq_decide.2 ⟨fun h => BitVec.eq_of_toNat_eq (by omega), fun h => by rw [h]⟩
  rwa [h] at this
end
theorem row_ok {w0 w : World} {S : List Nat} {M : List Ent} {b j cap : Nat} {e : TypeId} {l : List Bt} {wr : Bool} (hw : Holds w0 S M w) (hM : Has M b (Row e (l.map U8)) wr) (hj : j = 0) (hc : l.length ≤ cap) : Sl8.ok w ⟨some ⟨b, j, none⟩, cap, l⟩ := by
  subst hj
  obtain ⟨o, ho, hA⟩ := hw.get hM
  exact ⟨hc, Reads.block ho (Row.all _ hA)⟩
theorem ownb_ok {w0 w : World} {S : List Nat} {M : List Ent} {b k cap : Nat} {e : TypeId} {l : List Bt} {wr : Bool} (hw : Holds w0 S M w) (hM : Has M b (Own e 1 k cap (l.map U8)) wr) : Sl8.ok w ⟨some ⟨b, 0, none⟩, cap, l⟩ := by
  obtain ⟨o, ho, hA⟩ := hw.get hM
  have hh := Own.cells _ hA
  obtain ⟨sp, rfl, h2, h3, h4⟩ := hA
  simp only [List.length_map, Nat.mul_one] at h3
  exact ⟨by show l.length ≤ cap; omega, Reads.block ho hh⟩
theorem OQ.to {P : Program} {n : Nat} {E : Env} {C : World → Prop} {o : Oper} {v v' : Value} (h : OQ P n E C o v) (e : v = v') : OQ P n E C o v' := e ▸ h
def Sl8.fst (s : Sl8) (m : Nat) : Sl8 := ⟨if s.cap = 0 then s.ad else s.ad.map (·.add 0), s.cap, s.l.take m⟩
def Sl8.snd (s : Sl8) (m : Nat) : Sl8 := ⟨if s.cap = m then s.ad else s.ad.map (·.add (m * 1)), s.cap - m, s.l.drop m⟩
theorem Sl8.ok.fst {s : Sl8} {w : World} (h : s.ok w) (m : Nat) : (s.fst m).ok w := by
  refine ⟨by show (s.l.take m).length ≤ s.cap; have := h.len; rw [List.length_take]; omega, ?_⟩
  show Reads w _ ((s.l.take m).map U8)
  by_cases h0 : s.l = []
  · rw [h0]; simpa using Reads.nil _ _
  · obtain ⟨b, j, hae, _⟩ := h.reads.at (by simpa using List.length_pos_iff.2 h0)
    have h1 := h.reads.take m
    rw [← List.map_take] at h1
    have h2 : (s.fst m).ad = s.ad := by
      show (if s.cap = 0 then s.ad else s.ad.map (·.add 0)) = s.ad
      rw [hae]
      split <;> simp [Addr.add]
    rw [h2]
    exact h1
theorem Sl8.ok.snd {s : Sl8} {w : World} (h : s.ok w) (m : Nat) (hm : m ≤ s.l.length) : (s.snd m).ok w := by
  refine ⟨by show (s.l.drop m).length ≤ s.cap - m; have := h.len; rw [List.length_drop]; omega, ?_⟩
  have := h.reads.drop (len := s.l.length) (cap := s.cap) (lo := m) (by simp) h.len hm
  rwa [← List.map_drop] at this
theorem Sl8.fst_v (s : Sl8) (m : Nat) (hm : m ≤ s.l.length) : .slice (if s.cap = 0 then s.ad else s.ad.map (·.add 0)) m s.cap = (s.fst m).v := by simp [Sl8.v, Sl8.fst, Nat.min_eq_left hm]
theorem Sl8.snd_v (s : Sl8) (m : Nat) : .slice (if s.cap = m then s.ad else s.ad.map (·.add (m * 1))) (s.l.length - m) (s.cap - m) = (s.snd m).v := by simp [Sl8.v, Sl8.snd]
theorem row_ownG {e : TypeId} {xs : List Value} {n : Nat} (h : xs.length = n) : ∀ o, Row e xs o → Own e 1 n n xs o := by
  rintro o rfl
  exact ⟨[], by simp, by simp [h], by simp [h], Nat.le_refl _⟩
theorem OQ.fst {P : Program} {n : Nat} {E : Env} {C : World → Prop} {dst : Option Tmp} {t ty e : TypeId} {pos : String} {aft : Array Edge} {g : Option (Nat × Bool)} {x y : Operand} {s : Sl8} {m : Nat} (hu : P.underlying t = some (.slice e)) (hz : szT P e = some 1) (hx : ev E x = some s.v) (hh : ev E y = some (N m)) (h : m ≤ s.l.length) (hc : s.l.length ≤ s.cap) :
    OQ P n E C ⟨dst, .slice t x none (some y) none, ty, pos, aft, g⟩ (s.fst m).v :=
  OQ.to (OQ.slS_hi (ad := s.ad) (len := s.l.length) (cap := s.cap) hu hz hx hh (Nat.le_trans h hc)) (Sl8.fst_v s m h)
theorem OQ.snd {P : Program} {n : Nat} {E : Env} {C : World → Prop} {dst : Option Tmp} {t ty e : TypeId} {pos : String} {aft : Array Edge} {g : Option (Nat × Bool)} {x y : Operand} {s : Sl8} {m : Nat} (hu : P.underlying t = some (.slice e)) (hz : szT P e = some 1) (hx : ev E x = some s.v) (hl : ev E y = some (N m)) (h : m ≤ s.l.length) :
    OQ P n E C ⟨dst, .slice t x (some y) none none, ty, pos, aft, g⟩ (s.snd m).v :=
  OQ.to (OQ.slS_lo (ad := s.ad) (len := s.l.length) (cap := s.cap) hu hz hx hl h) (Sl8.snd_v s m)
/-- a literal of no element, as a slice of one's own -/
theorem JL.lit0O {P : Program} {n : Nat} {w0 : World} {S : List Nat} {ops : Array Oper} {Q : Exit → Act → World → Prop} {E : Env} {M : List Ent} {l : List Oper} {d : Tmp} {t ty e : TypeId} {pos : String} {aft : Array Edge} {z : Value} {by' : Nat} (hu : P.underlying t = some (.slice e)) (hi : EI P e z 1 by') (hd : Nat.blt d n = true)
    (k : ∀ b, w0.heap.size ≤ b → JL P n w0 S ops Q l ((d, .slice (some ⟨b, 0, none⟩) 0 0) :: E) (⟨b, Own e 1 0 0 [], true⟩ :: M)) : JL P n w0 S ops Q (⟨some d, .buildSlice t 0 #[], ty, pos, aft, none⟩ :: l) E M :=
  JL.lit0 hu hi hd fun b hb => ⟨fun a w ha hw => (k b hb).go a w ha (hw.weak (.keep _ _ _ _ _ _ (row_ownG rfl) (Less.refl _)))⟩
/-! ### slices of int as arguments -/
structure SlI where
  ad : Option Addr
  cap : Nat
  l : List Int
def SlI.v (s : SlI) : Value := .slice s.ad s.l.length s.cap
structure SlI.ok (w : World) (s : SlI) : Prop where
  len : s.l.length ≤ s.cap
  reads : Reads w s.ad (s.l.map fun i => .int .i64 i)
theorem SlI.ok.holds {w0 w : World} {S : List Nat} {M : List Ent} {s : SlI} (h : s.ok w0) (hw : Holds w0 S M w) (hS : S = []) : s.ok w := ⟨h.len, hw.reads h.reads (fun _ a _ => by rw [hS]; simp)⟩
theorem OQ.neb_f {P : Program} {n : Nat} {E : Env} {C : World → Prop} {dst : Option Tmp} {t t' ty : TypeId} {pos : String} {aft : Array Edge} {g : Option (Nat × Bool)} {x y : Operand} {a : Bool} (hu : P.underlying t = some .bool) (hx : ev E x = some (.bool a)) (hy : ev E y = some (.bool a)) : OQ P n E C ⟨dst, .binOp .neq t x y t', ty, pos, aft, g⟩ (.bool false) :=
  OQ.run fun c ha w _ => by
    have h1 := ha.eval hx
    have h2 := ha.eval hy
    have h3 : ∀ w, (underlying t).run P w = .ok .bool w := run_underlying hu
    have h4 : (binOp .neq t (.bool a) (.bool a)).run P w = .ok (.bool false) w := by
      show (do pure (.bool (!(← Op.equalIn (9999 + 1) t (.bool a) (.bool a)))) : Sem Value).run P w = _
      unfold Op.equalIn
      simp [Sem.run_bind, h3]
    simp [execOp, h1, h2, eqGuard, h4]
/-- x = append(x, v) -/
theorem JL.push1 {P : Program} {n : Nat} {w0 : World} {S : List Nat} {ops : Array Oper} {Q : Exit → Act → World → Prop} {l : List Oper} {E : Env} {M : List Ent} {t e ty ty' : TypeId} {x y : Operand} {z v : Value} {by' k cap b d1 d2 : Nat} {pos pos' : String} {aft aft' : Array Edge} {xs : List Value}
    (M' : Nat → Nat → List Ent) (hu : P.underlying t = some (.slice e)) (hi : EI P e z 1 by') (hz : z.cells.size = 1) (hx : ev E x = some v) (hv : v.cells = #[v]) (h1 : v.oneCell' = true)
    (ha : ∀ bl, ev ((d1, .slice (some ⟨bl, 0, none⟩) 1 1) :: E) y = some (.slice (some ⟨b, 0, none⟩) k cap)) (hup : ∀ b' cap', Repl M b (Own e 1 k cap xs) b' (Own e 1 (k + 1) cap' (xs ++ [v])) (M' b' cap'))
    (hsm : (k + 1) * by' ≤ 140737488355328) (hsm2 : k + 1 < 9223372036854775808) (hd1 : Nat.blt d1 n = true) (hd2 : Nat.blt d2 n = true)
    (kk : ∀ bl b' cap', JL P n w0 S ops Q l ((d2, .slice (some ⟨b', 0, none⟩) (k + 1) cap') :: (d1, .slice (some ⟨bl, 0, none⟩) 1 1) :: E) (M' b' cap')) :
    JL P n w0 S ops Q (⟨some d1, .buildSlice t 1 #[(0, x)], ty, pos, aft, none⟩ :: ⟨some d2, .call ⟨.builtin .append, #[y, .tmp d1], #[t, t]⟩, ty', pos', aft', none⟩ :: l) E M := by
  refine JL.lit1 hu hi hz hx hv hd1 fun bl _ => ?_
  refine JL.append (cs := [v]) (m := 1) (ad := some ⟨bl, 0, none⟩) (sc := 1) (fun b' cap' => ⟨bl, Row e [v], true⟩ :: M' b' cap') hu hi (ha bl) (by simp [ev, lk]) (fun b' cap' => .there (hup b' cap')) rfl (fun w hw => ?_) (by simpa using h1) hz (by decide) hsm hsm2 hd2 fun b' cap' => ?_
  · obtain ⟨o, ho, hA⟩ := hw.get (b := bl) (A := Row e [v]) (wr := true) .here
    exact Reads.block ho (Row.all _ hA)
  · exact ⟨fun a w ha hw => (kk bl b' cap').go a w ha (hw.weak (.drop _ _ _ (Less.refl _)))⟩
end Go.Proofs.Ytbihfhkbkcplmaa
