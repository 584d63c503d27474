/-
  Of no statement by itself: the texts Slt, Slo, Sli, Slv, Slq, Slna, FieA, LsP, Slr, Sls, Slp, Slsu, Slfv, Typ, LsA, Slac, TokC, TokW, TkA, Prs, Prz, Slap, TkB, LsC in one.
  Conditions: each theorem's own.
-/
import Derived.Test.YtdabhneehconeaaGreatDoorCa
import Derived.Lib.ConvBytes
import Derived.Laws.Externs
import Derived.Laws.BytesString
import Derived.DeepKeys
import Derived.Lib.SlTrimSet
import Derived.Lib.IndexAny
import Derived.Deep.AppendSrc
import Derived.Laws.Slices
import Derived.Laws.Strings2
import Derived.ScopeJumps
import Derived.Test.YtdabhneehconeaaGreatDoorProg
import Derived.Shelf.Strings.SlTrimAscii
import Derived.Laws.StructEq
import Derived.Shelf.Strings.OnBuilder
import Derived.Shelf.Strings.Split
set_option linter.unusedSimpArgs false
set_option linter.unusedVariables false
/-
  Of no statement by itself: slices of bytes as arguments and as answers, their parts; calls that hand out new blocks; strings as bytes; small rules that several texts use; for any program P.
  Conditions: each theorem's own.
-/
namespace Go.Proofs.YtdabhneehconeaaGreatDoor
set_option maxRecDepth 10000
open Sl
abbrev Bt := BitVec 8
structure Sl8 where
  ad : Option Addr
  cap : Nat
  l : List Bt
def Sl8.v (s : Sl8) : Value := .slice s.ad s.l.length s.cap
structure Sl8.ok (w : World) (s : Sl8) : Prop where
  len : s.l.length ≤ s.cap
  reads : Reads w s.ad (s.l.map U8)
theorem Sl8.ok.lt {w : World} {s : Sl8} (h : s.ok w) (h0 : s.l ≠ []) : ∀ a, s.ad = some a → a.block < w.heap.size := by
  obtain ⟨b, j, h1, h2⟩ := h.reads.at (by simpa using List.length_pos_iff.2 h0)
  intro a ha
  rw [h1] at ha
  cases ha
  exact block_lt_of_cell (h2 0 _ (map_at U8 0 (List.length_pos_iff.2 h0)))
theorem Sl8.ok.holds {w0 w : World} {S : List Nat} {M : List Ent} {s : Sl8} (h : s.ok w0) (hw : Holds w0 S M w) (hS : S = []) : s.ok w := ⟨h.len, hw.reads h.reads (fun _ a _ => by rw [hS]; simp)⟩
theorem Sl8.ok.ext {w w' : World} {s : Sl8} (h : s.ok w) (hx : Ext w w') : s.ok w' := h.holds (⟨hx, by simp, by simp⟩ : Holds w [] [] w') rfl
def nilS : Sl8 := ⟨none, 0, []⟩
theorem nilS_ok (w : World) : nilS.ok w := ⟨by simp [nilS], Reads.nil _ _⟩
theorem less_pre (A M : List Ent) : Less A (A ++ M) := by
  induction A with
  | nil => exact .nil _
  | cons e A ih => exact .keep _ _ _ _ _ _ (fun _ h => h) ih
theorem OQ.lenZ {P : Program} {n : Nat} {E : Env} {C : World → Prop} {dst : Option Tmp} {t ty : TypeId} {pos : String} {aft : Array Edge} {g : Option (Nat × Bool)} {x : Operand} {s : ByteArray} (hu : P.underlying t = some .string) (hx : ev E x = some (.string s)) : OQ P n E C ⟨dst, .call ⟨.builtin .len, #[x], #[t]⟩, ty, pos, aft, g⟩ (N s.size) :=
  OQ.run fun a ha w _ => by
    have h1 := ha.eval hx
    have h3 : (underlying t).run P w = .ok .string w := run_underlying hu w
    simp [execOp, h1, resolve, invoke, builtin, Builtin.len_, Sem.run_bind, h3, goInt]
theorem JE.less {n : Nat} {w0 : World} {S : List Nat} {Q : Exit → Act → World → Prop} {e : Exit} {E : Env} {M M' : List Ent} (hM : Less M' M) (h : JE n w0 S Q e E M') : JE n w0 S Q e E M := ⟨fun a w ha hw => h.go a w ha (hw.weak hM)⟩
theorem Sl.Own.has {e : TypeId} {k cap m : Nat} {r : List Bt} : ∀ o, Sl.Own e 1 k cap (r.map U8) o → hasCells o 0 ((r.take m).map U8) ∧ k ≤ cap := by
  rintro o ⟨sp, rfl, h1, h2, h3⟩
  refine ⟨⟨_, _, _, rfl, fun i hi => ?_⟩, h3⟩
  have hi' : i < m ∧ i < r.length := by simp at hi; omega
  simp [List.getElem?_append_left, hi'.1, hi'.2]
def Sl8.ents (s : Sl8) : List Ent := match s.ad with
  | some a => [⟨a.block, fun o => hasCells o a.off (s.l.map U8) ∧ s.l.length ≤ s.cap ∧ a.spot = none, true⟩]
  | none => []
theorem Sl8.ents_ok {s : Sl8} {w0 w : World} {S : List Nat} {M : List Ent} (h : Holds w0 S (s.ents ++ M) w) (h0 : s.ad = none → s.l = []) : s.ok w := by
  obtain ⟨ad, cap, l⟩ := s
  cases ad with
  | none =>
    have : l = [] := h0 rfl
    subst this
    exact ⟨by simp, Reads.nil _ _⟩
  | some a =>
    obtain ⟨o, ho, h1, h2, h3⟩ := h.get (b := a.block) (A := fun o => hasCells o a.off (l.map U8) ∧ l.length ≤ cap ∧ a.spot = none) (wr := true) .here
    obtain ⟨b, j, sp⟩ := a
    simp only at h3
    subst h3
    exact ⟨h2, Reads.block ho h1⟩
structure Gave (s : Sl8) (l : List Bt) (cap : Nat) : Prop where
  val : s.l = l
  cap : s.cap = cap
  none : s.ad = .none → s.l = []
section
variable {P : Program} {n : Nat} {w0 w w' : World} {S : List Nat} {ops : Array Oper} {Q : Exit → Act → World → Prop} {l : List Oper} {E : Env} {M Ms : List Ent} {d : Nat} {t t' e ty : TypeId} {pos : String} {aft : Array Edge} {x : Operand}
theorem Sl.Holds.both (h : Holds w0 S M w) (h2 : Holds w [] Ms w') (hw : ∀ e ∈ Ms, e.wr = true) : Holds w0 S (Ms ++ M) w' := by
  have hx : Ext w w' := h2.chg
  have h1 := h.ext hx
  have hfr : ∀ e ∈ Ms, w.heap.size ≤ e.b := fun e he => by
    rcases (h2.all e he).2 (hw e he) with h | h
    · cases h
    · exact h
  refine ⟨h1.chg, ?_, fun e he => ?_⟩
  · rw [List.map_append, List.nodup_append]
    refine ⟨h2.nodup, h1.nodup, fun a ha b hb e => ?_⟩
    simp only [List.mem_map] at ha hb
    obtain ⟨e1, he1, rfl⟩ := ha
    obtain ⟨e2, he2, rfl⟩ := hb
    have := hfr e1 he1
    obtain ⟨⟨o, ho, _⟩, _⟩ := h.all e2 he2
    have := (Array.getElem?_eq_some_iff.1 ho).1
    omega
  · rcases List.mem_append.1 he with he | he
    · refine ⟨(h2.all e he).1, fun _ => .inr (Nat.le_trans h.chg.size (hfr e he))⟩
    · exact h1.all e he
theorem Sl8.ents_wr (s : Sl8) : ∀ e ∈ s.ents, e.wr = true := by
  intro e he
  unfold Sl8.ents at he
  split at he
  · simp only [List.mem_singleton] at he
    subst he
    rfl
  · cases he
theorem JL.callg {ι : Type} (vf : ι → Value) (Mf : ι → List Ent) {f : FuncId} {xs : List Operand} {ats : Array TypeId} {vs : List Value} (hg : Goes P f) (hx : evs E xs = some vs) (hd : Nat.blt d n = true) (hwr : ∀ i, ∀ e ∈ Mf i, e.wr = true)
    (hc : ∀ w, Holds w0 S M w → Calls P f vs.toArray w fun e w' => ∃ i, e = .returned (vf i) ∧ Holds w [] (Mf i) w')
    (k : ∀ i, JL P n w0 S ops Q l ((d, vf i) :: E) (Mf i ++ M)) : JL P n w0 S ops Q (⟨some d, .call ⟨.value (.func f), xs.toArray, ats⟩, ty, pos, aft, none⟩ :: l) E M :=
  JL.call (ι := ι) vf (fun i => Mf i ++ M) hg hx hd (fun w hw => (hc w hw).mono fun _ _ ⟨i, h1, h2⟩ => ⟨i, h1, hw.both h2 (hwr i)⟩) k
end
section
variable {P : Program} {n : Nat} {w0 w w' : World} {S : List Nat} {ops : Array Oper} {Q : Exit → Act → World → Prop} {l : List Oper} {E : Env} {M Ms : List Ent} {d : Nat} {t t' e ty : TypeId} {pos : String} {aft : Array Edge} {x : Operand}
def bytesOf (s : ByteArray) : List Bt := s.data.toList.map UInt8.toBitVec
theorem bytesOf_length (s : ByteArray) : (bytesOf s).length = s.size := by simp [bytesOf]
/-- []byte(s) -/
theorem JL.s2b {s : ByteArray} {u : TypeDesc} (hs : P.underlying t = some u) (hu : P.underlying t' = some (.slice e)) (he : P.underlying e = some (.int .u8)) (hx : ev E x = some (.string s)) (hd : Nat.blt d n = true)
    (k : ∀ b cap, JL P n w0 S ops Q l ((d, Sl8.v ⟨some ⟨b, 0, none⟩, cap, bytesOf s⟩) :: E) ((⟨some ⟨b, 0, none⟩, cap, bytesOf s⟩ : Sl8).ents ++ M)) : JL P n w0 S ops Q (⟨some d, .convert t t' x, ty, pos, aft, none⟩ :: l) E M :=
  ⟨fun a w ha hw => wpList_plain rfl fun K hK => by
    have hrun := Lib.run_convert_string_bytes (P := P) w t t' e s hs hu he
    have hheap : (Lib.bytesWorld w e s).heap = w.heap.push (.cells (Lib.bytesCells w e s) e ((Lib.bytesCells w e s).size, (Lib.bytesCells w e s).size + 1)) := by
      apply Array.ext_getElem?
      intro i
      rw [Array.getElem?_push]
      by_cases h : i = w.heap.size
      · rw [if_pos h, h, Lib.bytesWorld_at_new]
      · rw [if_neg h]
        by_cases h2 : i < w.heap.size
        · rw [Lib.bytesWorld_at_old _ _ _ _ h2]
        · rw [Array.getElem?_eq_none (by rw [Lib.bytesWorld_size]; omega), Array.getElem?_eq_none (by omega)]
    have hge := grownCap_ge w s.size 0 e
    have hcells : hasCells (.cells (Lib.bytesCells w e s) e ((Lib.bytesCells w e s).size, (Lib.bytesCells w e s).size + 1)) 0 ((bytesOf s).map U8) := by
      refine ⟨_, _, _, rfl, fun i hi => ?_⟩
      have hi : i < s.data.size := by simpa [bytesOf] using hi
      simp only [Lib.bytesCells, bytesOf, Nat.zero_add, Array.getElem?_append, Array.size_map, hi, if_true, Array.getElem?_map, List.getElem?_map, Array.getElem?_toList, Option.map_map]
      rfl
    have h5 : Sl8.v ⟨some ⟨w.heap.size, 0, none⟩, grownCap w s.size 0 e, bytesOf s⟩ = .slice (some ⟨w.heap.size, 0, none⟩) s.size (grownCap w s.size 0 e) := by
      simp [Sl8.v, bytesOf_length]
    unfold Oper.wp
    simp only [execOp, ha.eval hx, Sem.run_bind, hrun, Result.andThen_ok]
    rw [← h5]
    exact hK _ _ ((k w.heap.size (grownCap w s.size 0 e)).go _ _ (ha.put d _ hd) (hw.push _ ⟨hcells, by show (bytesOf s).length ≤ _; rw [bytesOf_length]; exact hge, rfl⟩ hheap rfl rfl rfl))⟩
end
section
variable {P : Program} {n : Nat} {E : Env} {C : World → Prop} {dst : Option Tmp} {t t' ty : TypeId} {pos : String} {aft : Array Edge} {g : Option (Nat × Bool)} {x y : Operand}
theorem OQ.ne8 {a b : Bt} (hx : ev E x = some (U8 a)) (hy : ev E y = some (U8 b)) : OQ P n E C ⟨dst, .binOp .neq t x y t', ty, pos, aft, g⟩ (.bool (!decide (a = b))) := by
  have := OQ.nei (P := P) (n := n) (C := C) (dst := dst) (ty := ty) (t := t) (t' := t') (pos := pos) (aft := aft) (g := g) hx hy
  have h : decide ((a.toNat : Int) = b.toNat) = decide (a = b) := decide_eq_decide.2 ⟨fun h => BitVec.eq_of_toNat_eq (by omega), fun h => by rw [h]⟩
  rwa [h] at this
end
theorem row_ok {w0 w : World} {S : List Nat} {M : List Ent} {b j cap : Nat} {e : TypeId} {l : List Bt} {wr : Bool} (hw : Holds w0 S M w) (hM : Has M b (Row e (l.map U8)) wr) (hj : j = 0) (hc : l.length ≤ cap) : Sl8.ok w ⟨some ⟨b, j, none⟩, cap, l⟩ := by
  subst hj
  obtain ⟨o, ho, hA⟩ := hw.get hM
  exact ⟨hc, Reads.block ho (Row.all _ hA)⟩
theorem ownb_ok {w0 w : World} {S : List Nat} {M : List Ent} {b k cap : Nat} {e : TypeId} {l : List Bt} {wr : Bool} (hw : Holds w0 S M w) (hM : Has M b (Sl.Own e 1 k cap (l.map U8)) wr) : Sl8.ok w ⟨some ⟨b, 0, none⟩, cap, l⟩ := by
  obtain ⟨o, ho, hA⟩ := hw.get hM
  have hh := Sl.Own.cells _ hA
  obtain ⟨sp, rfl, h2, h3, h4⟩ := hA
  simp only [List.length_map, Nat.mul_one] at h3
  exact ⟨by show l.length ≤ cap; omega, Reads.block ho hh⟩
theorem OQ.to {P : Program} {n : Nat} {E : Env} {C : World → Prop} {o : Oper} {v v' : Value} (h : OQ P n E C o v) (e : v = v') : OQ P n E C o v' := e ▸ h
def Sl8.fst (s : Sl8) (m : Nat) : Sl8 := ⟨if s.cap = 0 then s.ad else s.ad.map (·.add 0), s.cap, s.l.take m⟩
def Sl8.snd (s : Sl8) (m : Nat) : Sl8 := ⟨if s.cap = m then s.ad else s.ad.map (·.add (m * 1)), s.cap - m, s.l.drop m⟩
theorem Sl8.ok.fst {s : Sl8} {w : World} (h : s.ok w) (m : Nat) : (s.fst m).ok w := by
  refine ⟨by show (s.l.take m).length ≤ s.cap; have := h.len; rw [List.length_take]; omega, ?_⟩
  show Reads w _ ((s.l.take m).map U8)
  by_cases h0 : s.l = []
  · rw [h0]; simpa using Reads.nil _ _
  · obtain ⟨b, j, hae, _⟩ := h.reads.at (by simpa using List.length_pos_iff.2 h0)
    have h1 := h.reads.take m
    rw [← List.map_take] at h1
    have h2 : (s.fst m).ad = s.ad := by
      show (if s.cap = 0 then s.ad else s.ad.map (·.add 0)) = s.ad
      rw [hae]
      split <;> simp [Addr.add]
    rw [h2]
    exact h1
theorem Sl8.ok.snd {s : Sl8} {w : World} (h : s.ok w) (m : Nat) (hm : m ≤ s.l.length) : (s.snd m).ok w := by
  refine ⟨by show (s.l.drop m).length ≤ s.cap - m; have := h.len; rw [List.length_drop]; omega, ?_⟩
  have := h.reads.drop (len := s.l.length) (cap := s.cap) (lo := m) (by simp) h.len hm
  rwa [← List.map_drop] at this
theorem Sl8.fst_v (s : Sl8) (m : Nat) (hm : m ≤ s.l.length) : .slice (if s.cap = 0 then s.ad else s.ad.map (·.add 0)) m s.cap = (s.fst m).v := by simp [Sl8.v, Sl8.fst, Nat.min_eq_left hm]
theorem Sl8.snd_v (s : Sl8) (m : Nat) : .slice (if s.cap = m then s.ad else s.ad.map (·.add (m * 1))) (s.l.length - m) (s.cap - m) = (s.snd m).v := by simp [Sl8.v, Sl8.snd]
theorem row_ownG {e : TypeId} {xs : List Value} {n : Nat} (h : xs.length = n) : ∀ o, Row e xs o → Sl.Own e 1 n n xs o := by
  rintro o rfl
  exact ⟨[], by simp, by simp [h], by simp [h], Nat.le_refl _⟩
theorem OQ.fst {P : Program} {n : Nat} {E : Env} {C : World → Prop} {dst : Option Tmp} {t ty e : TypeId} {pos : String} {aft : Array Edge} {g : Option (Nat × Bool)} {x y : Operand} {s : Sl8} {m : Nat} (hu : P.underlying t = some (.slice e)) (hz : szT P e = some 1) (hx : ev E x = some s.v) (hh : ev E y = some (N m)) (h : m ≤ s.l.length) (hc : s.l.length ≤ s.cap) :
    OQ P n E C ⟨dst, .slice t x none (some y) none, ty, pos, aft, g⟩ (s.fst m).v :=
  OQ.to (OQ.slS_hi (ad := s.ad) (len := s.l.length) (cap := s.cap) hu hz hx hh (Nat.le_trans h hc)) (Sl8.fst_v s m h)
theorem OQ.snd {P : Program} {n : Nat} {E : Env} {C : World → Prop} {dst : Option Tmp} {t ty e : TypeId} {pos : String} {aft : Array Edge} {g : Option (Nat × Bool)} {x y : Operand} {s : Sl8} {m : Nat} (hu : P.underlying t = some (.slice e)) (hz : szT P e = some 1) (hx : ev E x = some s.v) (hl : ev E y = some (N m)) (h : m ≤ s.l.length) :
    OQ P n E C ⟨dst, .slice t x (some y) none none, ty, pos, aft, g⟩ (s.snd m).v :=
  OQ.to (OQ.slS_lo (ad := s.ad) (len := s.l.length) (cap := s.cap) hu hz hx hl h) (Sl8.snd_v s m)
/-- a literal of no element, as a slice of one's own -/
theorem JL.lit0O {P : Program} {n : Nat} {w0 : World} {S : List Nat} {ops : Array Oper} {Q : Exit → Act → World → Prop} {E : Env} {M : List Ent} {l : List Oper} {d : Tmp} {t ty e : TypeId} {pos : String} {aft : Array Edge} {z : Value} {by' : Nat} (hu : P.underlying t = some (.slice e)) (hi : EI P e z 1 by') (hd : Nat.blt d n = true)
    (k : ∀ b, w0.heap.size ≤ b → JL P n w0 S ops Q l ((d, .slice (some ⟨b, 0, none⟩) 0 0) :: E) (⟨b, Sl.Own e 1 0 0 [], true⟩ :: M)) : JL P n w0 S ops Q (⟨some d, .buildSlice t 0 #[], ty, pos, aft, none⟩ :: l) E M :=
  JL.lit0 hu hi hd fun b hb => ⟨fun a w ha hw => (k b hb).go a w ha (hw.weak (.keep _ _ _ _ _ _ (row_ownG rfl) (Less.refl _)))⟩
/-! ### slices of int as arguments -/
structure SlI where
  ad : Option Addr
  cap : Nat
  l : List Int
def SlI.v (s : SlI) : Value := .slice s.ad s.l.length s.cap
structure SlI.ok (w : World) (s : SlI) : Prop where
  len : s.l.length ≤ s.cap
  reads : Reads w s.ad (s.l.map fun i => .int .i64 i)
theorem SlI.ok.holds {w0 w : World} {S : List Nat} {M : List Ent} {s : SlI} (h : s.ok w0) (hw : Holds w0 S M w) (hS : S = []) : s.ok w := ⟨h.len, hw.reads h.reads (fun _ a _ => by rw [hS]; simp)⟩
/-- x = append(x, v) -/
theorem JL.push1 {P : Program} {n : Nat} {w0 : World} {S : List Nat} {ops : Array Oper} {Q : Exit → Act → World → Prop} {l : List Oper} {E : Env} {M : List Ent} {t e ty ty' : TypeId} {x y : Operand} {z v : Value} {by' k cap b d1 d2 : Nat} {pos pos' : String} {aft aft' : Array Edge} {xs : List Value}
    (M' : Nat → Nat → List Ent) (hu : P.underlying t = some (.slice e)) (hi : EI P e z 1 by') (hz : z.cells.size = 1) (hx : ev E x = some v) (hv : v.cells = #[v]) (h1 : v.oneCell' = true)
    (ha : ∀ bl, ev ((d1, .slice (some ⟨bl, 0, none⟩) 1 1) :: E) y = some (.slice (some ⟨b, 0, none⟩) k cap)) (hup : ∀ b' cap', Repl M b (Sl.Own e 1 k cap xs) b' (Sl.Own e 1 (k + 1) cap' (xs ++ [v])) (M' b' cap'))
    (hsm : (k + 1) * by' ≤ 140737488355328) (hsm2 : k + 1 < 9223372036854775808) (hd1 : Nat.blt d1 n = true) (hd2 : Nat.blt d2 n = true)
    (kk : ∀ bl b' cap', JL P n w0 S ops Q l ((d2, .slice (some ⟨b', 0, none⟩) (k + 1) cap') :: (d1, .slice (some ⟨bl, 0, none⟩) 1 1) :: E) (M' b' cap')) :
    JL P n w0 S ops Q (⟨some d1, .buildSlice t 1 #[(0, x)], ty, pos, aft, none⟩ :: ⟨some d2, .call ⟨.builtin .append, #[y, .tmp d1], #[t, t]⟩, ty', pos', aft', none⟩ :: l) E M := by
  refine JL.lit1 hu hi hz hx hv hd1 fun bl _ => ?_
  refine JL.append (cs := [v]) (m := 1) (ad := some ⟨bl, 0, none⟩) (sc := 1) (fun b' cap' => ⟨bl, Row e [v], true⟩ :: M' b' cap') hu hi (ha bl) (by simp [ev, lk]) (fun b' cap' => .there (hup b' cap')) rfl (fun w hw => ?_) (by simpa using h1) hz (by decide) hsm hsm2 hd2 fun b' cap' => ?_
  · obtain ⟨o, ho, hA⟩ := hw.get (b := bl) (A := Row e [v]) (wr := true) .here
    exact Reads.block ho (Row.all _ hA)
  · exact ⟨fun a w ha hw => (kk bl b' cap').go a w ha (hw.weak (.drop _ _ _ (Less.refl _)))⟩
end Go.Proofs.YtdabhneehconeaaGreatDoor

/-
  Of no statement by itself: more rules for bytes, and for made slices that are empty and have room.
  Conditions: each rule's own hypotheses.
-/
namespace Go.Proofs.YtdabhneehconeaaGreatDoor
namespace Sl
section
variable {P : Program} {n : Nat} {w0 : World} {S : List Nat} {ops : Array Oper} {Q : Exit → Act → World → Prop} {l : List Oper} {E : Env} {M : List Ent} {C : World → Prop}
variable {dst : Option Tmp} {d b : Nat} {t t' e ty : TypeId} {pos : String} {aft : Array Edge} {g : Option (Nat × Bool)} {v zv : Value} {x y z : Operand} {by' : Nat}
theorem OQ.eq8 {a b : BitVec 8} (hx : ev E x = some (U8 a)) (hy : ev E y = some (U8 b)) : OQ P n E C ⟨dst, .binOp .eql t x y t', ty, pos, aft, g⟩ (.bool (decide (a = b))) := by
  have := OQ.eqi (P := P) (n := n) (C := C) (dst := dst) (ty := ty) (t := t) (t' := t') (pos := pos) (aft := aft) (g := g) hx hy
  have h : decide ((a.toNat : Int) = b.toNat) = decide (a = b) := decide_eq_decide.2 ⟨fun h => BitVec.eq_of_toNat_eq (by omega), fun h => by rw [h]⟩
  rwa [h] at this
/-- make([]byte, 0, c) -/
theorem JL.make0 {c : Nat} (hu : P.underlying t = some (.slice e)) (hi : EI P e (.int .u8 0) 1 1) (hx : ev E x = some (N 0)) (hy : ev E y = some (N c)) (hb : c ≤ 281474976710656) (hd : Nat.blt d n = true)
    (k : ∀ b, w0.heap.size ≤ b → JL P n w0 S ops Q l ((d, .slice (some ⟨b, 0, none⟩) 0 c) :: E) (⟨b, Sl.Own e 1 0 c [], true⟩ :: M)) : JL P n w0 S ops Q (⟨some d, .makeSlice t x y, ty, pos, aft, none⟩ :: l) E M :=
  ⟨fun a w ha hw => wpList_plain rfl fun K hK => by
    obtain ⟨i, hi1, hi2, hi3, hi4⟩ := hi.get
    have hbb : (i.bytes : Int) * (c : Int) ≤ 281474976710656 := by
      rw [hi4, ← Int.natCast_mul, Nat.one_mul]
      exact Int.ofNat_le.2 hb
    have hrun := run_make (P := P) w t e i _ hu hi1 hi2 .i64 .i64 0 c (by omega) (by omega) hbb (by omega)
    have hz : (Value.int .u8 0).cells = (List.replicate 1 (Value.int .u8 0)).toArray := rfl
    simp only [Int.toNat_natCast, hi3, Int.toNat_zero] at hrun
    rw [made_u8 _ hz (by decide)] at hrun
    have h0 : (N 0 : Value) = .int .i64 0 := rfl
    unfold Oper.wp
    simp only [execOp, ha.eval hx, ha.eval hy, Sem.run_bind, h0, hrun, Result.andThen_ok]
    exact hK _ _ ((k w.heap.size hw.chg.size).go _ _ (ha.put d _ hd) (hw.push (.cells (List.replicate (c * 1) (Value.int .u8 0)).toArray e (0, 0)) ⟨List.replicate (c * 1) (.int .u8 0), rfl, by simp, rfl, Nat.zero_le _⟩ rfl rfl rfl rfl))⟩
end
end Sl
end Go.Proofs.YtdabhneehconeaaGreatDoor

/-
  Of no statement by itself: rules for int and int64 as whole numbers below and above nought, over X's partial knowledge of frame and memory, for any program P.
  Conditions: each rule's own hypotheses.
-/
namespace Go.Proofs.YtdabhneehconeaaGreatDoor
namespace Sl
@[reducible] def I (a : Int) : Value := .int .i64 a
section
variable {P : Program} {n : Nat} {E : Env} {C : World → Prop} {dst : Option Tmp} {ty t t' : TypeId} {pos : String} {aft : Array Edge} {g : Option (Nat × Bool)} {x y : Operand}
theorem OQ.addI {a b : Int} (hx : ev E x = some (I a)) (hy : ev E y = some (I b)) (h0 : -9223372036854775808 ≤ a + b) (h : a + b < 9223372036854775808) : OQ P n E C ⟨dst, .binOp .add t x y t', ty, pos, aft, g⟩ (I (a + b)) :=
  OQ.bin hx hy rfl fun _ => okInt (k := .i64) (show IntKind.i64.wrap (a + b) = a + b from wrapN h0 h)
theorem OQ.add8 {a b : BitVec 8} (hx : ev E x = some (U8 a)) (hy : ev E y = some (U8 b)) : OQ P n E C ⟨dst, .binOp .add t x y t', ty, pos, aft, g⟩ (U8 (a + b)) :=
  OQ.bin hx hy rfl fun _ => okInt (k := .u8) (show IntKind.u8.wrap ((a.toNat : Int) + b.toNat) = _ by rw [← Int.natCast_add, wrap8, BitVec.toNat_add])
end
end Sl
end Go.Proofs.YtdabhneehconeaaGreatDoor

/-
  Of no statement by itself: rules for words of 64 bits (or, exclusive or, shift, difference round 2^64, negation, conversion of a byte), for fields of no offset, and for a call of math/bits.Add64 (the model stands in for it), over X's partial knowledge of frame and memory, for any program P.
  Conditions: each rule's own hypotheses.
-/
namespace Go.Proofs.YtdabhneehconeaaGreatDoor
namespace Sl
section
variable {P : Program} {n : Nat} {E : Env} {C : World → Prop} {dst : Option Tmp} {ty t t' : TypeId} {pos : String} {aft : Array Edge} {g : Option (Nat × Bool)} {x y z : Operand}
theorem OQ.fldx {s f o : Nat} {fs : Array Field} {fd : Field} {b j sz : Nat} (hu : P.underlying s = some (.struct fs)) (hf : fs[f]? = some fd) (hz : szT P fd.type = some sz) (h0 : sz ≠ 0) (hx : ev E x = some (.pointer (some ⟨b, j, none⟩))) (ho : j + fd.offset = o) :
    OQ P n E C ⟨dst, .fieldAddr s x f, ty, pos, aft, g⟩ (.pointer (some ⟨b, o, none⟩)) := ho ▸ OQ.fld hu hf hz h0 hx
/-- a call of math/bits.Add64 -/
structure IsAdd (P : Program) (f : FuncId) : Prop where
  go : ∃ fn, P.funcs[f]? = some fn ∧ (fn.name == "runtime.NumGoroutine") = false ∧ fn.body.isNone = true ∧ Extern.findNext fn = none ∧ Extern.find fn = some add64Entry
end
end Sl
end Go.Proofs.YtdabhneehconeaaGreatDoor

/-
  Of no statement by itself: rules for strings as lists of bytes: length, one byte, equality, sums, the string of a slice's bytes; over X's partial knowledge of frame and memory, for any program P.
  Conditions: each rule's own hypotheses.
-/
namespace Go.Proofs.YtdabhneehconeaaGreatDoor
open Sl
def strB (l : List Bt) : ByteArray := ⟨(l.map UInt8.ofBitVec).toArray⟩
@[reducible] def Z (l : List Bt) : Value := .string (strB l)
theorem strB_size (l : List Bt) : (strB l).size = l.length := by
  show (l.map UInt8.ofBitVec).toArray.size = l.length
  simp
theorem bytesOf_strB (l : List Bt) : bytesOf (strB l) = l := by
  show ((l.map UInt8.ofBitVec).toArray.toList).map UInt8.toBitVec = l
  simp [Function.comp_def]
theorem strB_bytesOf (s : ByteArray) : strB (bytesOf s) = s := by
  apply ByteArray.ext
  show ((s.data.toList.map UInt8.toBitVec).map UInt8.ofBitVec).toArray = s.data
  simp [Function.comp_def]
theorem strB_append (l r : List Bt) : strB l ++ strB r = strB (l ++ r) := by
  apply ByteArray.ext
  rw [ByteArray.data_append]
  show (l.map UInt8.ofBitVec).toArray ++ (r.map UInt8.ofBitVec).toArray = ((l ++ r).map UInt8.ofBitVec).toArray
  simp
theorem strB_eq (l r : List Bt) : ((strB l).toList == (strB r).toList) = decide (l = r) := by
  rw [ByteArray.toList_eq, ByteArray.toList_eq]
  show ((l.map UInt8.ofBitVec).toArray.toList == (r.map UInt8.ofBitVec).toArray.toList) = _
  rw [List.toList_toArray, List.toList_toArray]
  exact eq_list l r
section
variable {P : Program} {n : Nat} {E : Env} {C : World → Prop} {dst : Option Tmp} {ty t t' e : TypeId} {pos : String} {aft : Array Edge} {g : Option (Nat × Bool)} {x y : Operand} {l r : List Bt}
theorem OQ.lenS (hu : P.underlying t = some .string) (hx : ev E x = some (Z l)) : OQ P n E C ⟨dst, .call ⟨.builtin .len, #[x], #[t]⟩, ty, pos, aft, g⟩ (N l.length) :=
  strB_size l ▸ OQ.lenZ hu hx
theorem OQ.idxZ {k : IntKind} {i : Nat} (hu : P.underlying t = some .string) (hx : ev E x = some (Z l)) (hy : ev E y = some (.int k i)) (hi : i < l.length) : OQ P n E C ⟨dst, .index t x y, ty, pos, aft, g⟩ (U8 (l.getD i 0)) :=
  OQ.run fun a ha w _ => by
    have h1 := ha.eval hx
    have h2 := ha.eval hy
    have h3 : (underlying t).run P w = .ok .string w := run_underlying hu w
    have h4 : (strB l)[i]? = some (UInt8.ofBitVec (l.getD i 0)) := by
      have hs : i < (strB l).size := by rw [strB_size]; exact hi
      rw [getElem?_pos (strB l) i hs]
      show some (((l.map UInt8.ofBitVec).toArray)[i]'(by simpa using hi)) = _
      rw [List.getElem_toArray, List.getElem_map, List.getD_eq_getElem?_getD, List.getElem?_eq_getElem hi]; rfl
    simp [execOp, h1, h2, Instr.index, asIntOf, Sem.run_bind, h3, h4]
theorem OQ.eqS (hx : ev E x = some (Z l)) (hy : ev E y = some (Z r)) : OQ P n E C ⟨dst, .binOp .eql t x y t', ty, pos, aft, g⟩ (.bool (decide (l = r))) :=
  OQ.run fun a ha w _ => by
    have h1 := ha.eval hx
    have h2 := ha.eval hy
    simp [execOp, h1, h2, eqGuard, binOp, Op.stringOp, strB_eq]
theorem OQ.neS (hx : ev E x = some (Z l)) (hy : ev E y = some (Z r)) : OQ P n E C ⟨dst, .binOp .neq t x y t', ty, pos, aft, g⟩ (.bool (!decide (l = r))) :=
  OQ.run fun a ha w _ => by
    have h1 := ha.eval hx
    have h2 := ha.eval hy
    simp [execOp, h1, h2, eqGuard, binOp, Op.stringOp, strB_eq]
theorem OQ.addS (hx : ev E x = some (Z l)) (hy : ev E y = some (Z r)) (h : l.length + r.length < 9223372036854775808) : OQ P n E C ⟨dst, .binOp .add t x y t', ty, pos, aft, g⟩ (Z (l ++ r)) :=
  OQ.run fun a ha w _ => by
    have h1 := ha.eval hx
    have h2 := ha.eval hy
    have h3 : ¬ ((((strB l).size + (strB r).size : Nat) : Int) > IntKind.i64.max) := by
      rw [strB_size, strB_size, show IntKind.i64.max = 9223372036854775807 from rfl]
      omega
    have h4 : (Op.stringOp .add (strB l) (strB r)).run P w = .ok (Z (l ++ r)) w := by
      unfold Op.stringOp
      simp only
      rw [if_neg h3, strB_append]; rfl
    simp [execOp, h1, h2, eqGuard, binOp, h4, Sem.run_bind]
end
theorem push_all : ∀ (l : List Bt) (s : ByteArray), (l.map fun b => (b.toNat : Int)).foldl (fun r n => r.push (UInt8.ofNat n.toNat)) s = s ++ strB l
  | [], s => by
    apply ByteArray.ext
    rw [ByteArray.data_append]
    show s.data = s.data ++ #[]
    simp
  | b :: l, s => by
    rw [List.map_cons, List.foldl_cons, push_all l]
    apply ByteArray.ext
    rw [ByteArray.data_append, ByteArray.data_append, ByteArray.data_push]
    have e : UInt8.ofNat ((b.toNat : Int)).toNat = UInt8.ofBitVec b := by
      apply UInt8.toNat_inj.1
      simp
    rw [e]
    show s.data.push (UInt8.ofBitVec b) ++ (l.map UInt8.ofBitVec).toArray = s.data ++ ((b :: l).map UInt8.ofBitVec).toArray
    simp
theorem loadCells_reads {P : Program} {w : World} {ad : Addr} {cs : List Value} (h : Reads w (some ad) cs) : (loadCells ad cs.length).run P w = .ok cs.toArray w := by
  refine run_loadCells_list (P := P) w ad cs fun i v hv => ?_
  obtain ⟨b, j, h1, h2⟩ := h i v hv
  cases h1
  rw [add_off]; exact h2
section
variable {P : Program} {n : Nat} {E : Env} {w0 : World} {S : List Nat} {M : List Ent} {dst : Option Tmp} {ty t t' e : TypeId} {pos : String} {aft : Array Edge} {g : Option (Nat × Bool)} {x : Operand}
/-- string(b) -/
theorem OQ.b2s {s : Sl8} (hs : P.underlying t = some (.slice e)) (he : P.underlying e = some (.int .u8)) (hd : P.underlying t' = some .string) (hx : ev E x = some s.v) (hr : ∀ w, Holds w0 S M w → s.ok w) :
    OQ P n E (Holds w0 S M) ⟨dst, .convert t t' x, ty, pos, aft, g⟩ (Z s.l) :=
  OQ.run fun a ha w hw => by
    have h1 := ha.eval hx
    have ok := (hr w hw).reads
    have h2 : (convert t t' s.v).run P w = .ok (Z s.l) w := by
      obtain ⟨ad, cap, l⟩ := s
      show (convert t t' (.slice ad l.length cap)).run P w = _
      rw [run_convert_bytes_string w t t' e ad l.length cap hs he hd]
      cases ad with
      | none =>
        have : l = [] := by
          cases l with
          | nil => rfl
          | cons b l =>
            obtain ⟨_, _, h, _⟩ := ok 0 (U8 b) rfl
            cases h
        subst this
        rfl
      | some ad =>
        have h3 : (loadCells ad l.length).run P w = .ok ((l.map fun b => (b.toNat : Int)).map (Value.int .u8)).toArray w := by
          have := loadCells_reads (P := P) ok
          rw [List.length_map] at this
          rw [this, List.map_map]; rfl
        rw [run_bytesToString w ad l.length cap _ h3, push_all]
        have : ByteArray.empty ++ strB l = strB l := by
          apply ByteArray.ext
          rw [ByteArray.data_append]
          show #[] ++ (strB l).data = _
          simp
        rw [this]
    simp only [execOp, h1, Sem.run_bind, h2, Result.andThen_ok]; rfl
end
/-- an answer that is a slice of bytes -/
structure Ans (x : Sl8) (l : List Bt) : Prop where
  val : x.l = l
  none : x.ad = .none → x.l = []
theorem less_post (A M : List Ent) : Less M (A ++ M) := by
  induction A with
  | nil => exact Less.refl _
  | cons e A ih => exact .drop _ _ _ ih
theorem Ans.ok {x : Sl8} {l : List Bt} {w0 w : World} {S : List Nat} {M : List Ent} (h : Ans x l) (hw : Holds w0 S (x.ents ++ M) w) : x.ok w := Sl8.ents_ok hw h.none
theorem Ans.ok2 {x : Sl8} {l : List Bt} {w0 w : World} {S : List Nat} {A M : List Ent} (h : Ans x l) (hw : Holds w0 S (A ++ (x.ents ++ M)) w) : x.ok w := h.ok (hw.weak (less_post _ _))
theorem by_ne {c d : Bt} (h : ¬ c = d) : ¬ (c.toNat : Int) = (d.toNat : Int) := fun e => h (BitVec.eq_of_toNat_eq (by omega))
end Go.Proofs.YtdabhneehconeaaGreatDoor

/-
  Of no statement by itself: literals of slices of any number of elements with many cells; equality of arrays of strings and of arrays of bools; for any program P.
  Conditions: each rule's own hypotheses.
-/
namespace Go.Proofs.YtdabhneehconeaaGreatDoor
namespace Sl
section
variable {P : Program} {n : Nat} {w0 : World} {S : List Nat} {ops : Array Oper} {Q : Exit → Act → World → Prop} {l : List Oper} {E : Env} {M : List Ent}
variable {d : Nat} {t e ty : TypeId} {pos : String} {aft : Array Edge} {v z : Value} {x y : Operand} {sz by' : Nat} {cs ds : List Value}
theorem flat_at {sz : Nat} (h0 : 0 < sz) : ∀ {css : List (List Value)} (_ : ∀ c ∈ css, c.length = sz) (k : Nat), css.flatten[k]? = (css[k / sz]?).bind fun c => c[k % sz]?
  | [], _, k => by simp
  | c :: css, h, k => by
    have hc := h c (by simp)
    rw [List.flatten_cons]
    by_cases hk : k < sz
    · rw [List.getElem?_append_left (by omega), Nat.div_eq_of_lt hk, Nat.mod_eq_of_lt hk]
      rfl
    · rw [List.getElem?_append_right (by omega), hc, flat_at h0 (fun d hd => h d (by simp [hd])) (k - sz), Nat.mod_eq_sub_mod (a := k) (b := sz) (by omega)]
      have e1 : k / sz = (k - sz) / sz + 1 := by
        rw [show k = (k - sz) + sz by omega, Nat.add_div_right _ h0, Nat.add_sub_cancel]
      rw [e1, List.getElem?_cons_succ]
theorem flat_len {sz : Nat} : ∀ {css : List (List Value)} (_ : ∀ c ∈ css, c.length = sz), css.flatten.length = css.length * sz
  | [], _ => by simp
  | c :: css, h => by
    rw [List.flatten_cons, List.length_append, h c (by simp), flat_len fun d hd => h d (by simp [hd]), List.length_cons, Nat.add_mul]
    omega
theorem buildN_run {w : World} {css : List (List Value)} {m : Nat} (hu : P.underlying t = some (.slice e)) (hi : EI P e z sz by') (h0 : 0 < sz) (hm : css.length = m) (hm0 : 0 < m) (hsm : m * sz ≤ 16777216) (hl : ∀ c ∈ css, c.length = sz) :
    (Instr.buildSlice t m (((css.map fun c => Value.agg c.toArray).zipIdx 0).map fun x => (x.2, x.1)).toArray).run P w = .ok (.slice (some ⟨w.heap.size, 0, none⟩) m m) { w with heap := w.heap.push (.cells css.flatten.toArray e (0, 0)) } := by
  have h3 : (underlying t).run P w = .ok (.slice e) w := run_underlying hu w
  obtain ⟨i, h4, h5, _⟩ := hi.get
  obtain ⟨r, h6, h7, h8⟩ := Great.fill_dense h0 (css.map fun c => Value.agg c.toArray) 0 ((Array.range (m * sz)).map (z.cells[· % z.cells.size]!)) (by intro v hv; obtain ⟨c, hc, rfl⟩ := List.mem_map.1 hv; simp [Value.cells, hl c hc]) (by simp [hm])
  have hf := flat_len hl
  have hr : r = css.flatten.toArray := by
    apply Array.ext_getElem?
    intro k
    have e : css.flatten.toArray[k]? = (css[k / sz]?).bind fun c => c[k % sz]? := by rw [List.getElem?_toArray, flat_at h0 hl]
    rw [h8 k, e]
    by_cases hk : k < m * sz
    · rw [if_pos (by simp [hm]; omega), Nat.sub_zero, List.getElem?_map]
      cases css[k / sz]? with
      | none => rfl
      | some c => simp [Value.cells]
    · have hd : m ≤ k / sz := (Nat.le_div_iff_mul_le h0).2 (by omega)
      rw [if_neg (by simp [hm]; omega), Array.getElem?_eq_none (by simp; omega), List.getElem?_eq_none (by omega)]
      rfl
  subst hr
  have h11 : (zeroValue e).run P w = .ok z w := by simp [zeroValue, typeInfo, h4, h5]
  have h12 : ¬ (16777216 < m * sz) := by omega
  have h13 : ¬ (m = 0) := by omega
  have h14 : ¬ (sz = 0) := by omega
  have h15 : ¬ (m * sz = 0) := by have := Nat.mul_pos hm0 h0; omega
  simp [Instr.buildSlice, Sem.run_bind, h3, sizeOf_run hi.sz, h11, h12, h13, h14, h15, h6, newRow, newObj, Sem.run]
theorem JL.litN {xs : List Operand} {ps : Array (Nat × Operand)} {css : List (List Value)} {m : Nat} (hu : P.underlying t = some (.slice e)) (hi : EI P e z sz by') (h0 : 0 < sz) (hps : ps = (pairs 0 xs).toArray) (hx : evs E xs = some (css.map fun c => Value.agg c.toArray)) (hm : css.length = m) (hm0 : 0 < m) (hsm : m * sz ≤ 16777216) (hl : ∀ c ∈ css, c.length = sz) (hd : Nat.blt d n = true)
    (k : ∀ b, w0.heap.size ≤ b → JL P n w0 S ops Q l ((d, .slice (some ⟨b, 0, none⟩) m m) :: E) (⟨b, Row e css.flatten, true⟩ :: M)) : JL P n w0 S ops Q (⟨some d, .buildSlice t m ps, ty, pos, aft, none⟩ :: l) E M :=
  ⟨fun a w ha hw => wpList_plain rfl fun K hK => by
    unfold Oper.wp
    have hm' : ps.map (fun (i, x) => (i, a.eval x)) = (((css.map fun c => Value.agg c.toArray).zipIdx 0).map fun x => (x.2, x.1)).toArray := by
      rw [hps, List.map_toArray, ← pairs_map ha 0 hx]
    simp only [execOp, hm', Sem.run_bind, buildN_run hu hi h0 hm hm0 hsm hl, Result.andThen_ok]
    exact hK _ _ ((k w.heap.size hw.chg.size).go _ _ (ha.put d _ hd) (hw.push _ rfl rfl rfl rfl rfl))⟩
end
section
variable {P : Program} {n : Nat} {E : Env} {C : World → Prop} {dst : Option Tmp} {t t' ty : TypeId} {pos : String} {aft : Array Edge} {g : Option (Nat × Bool)} {x y : Operand}
theorem OQ.neK {xs ys : List Value} {la lb : List Lit} {c : Bool} (hk : P.keyTypeAt 2 t = true) (hgd : P.eqGuardType P.depth t = false) (hx : ev E x = some (.agg xs.toArray)) (hy : ev E y = some (.agg ys.toArray)) (fx : (Value.agg xs.toArray).formed P t = true) (fy : (Value.agg ys.toArray).formed P t = true) (kx : P.keyLits 3 t xs = some la) (ky : P.keyLits 3 t ys = some lb) (hc : c = true ↔ la = lb) :
    OQ P n E C ⟨dst, .binOp .neq t x y t', ty, pos, aft, g⟩ (.bool (!c)) :=
  OQ.run fun a ha w _ => by
    have h1 := ha.eval hx
    have h2 := ha.eval hy
    obtain ⟨r, h3, h6⟩ := run_equalIn_deep (P := P) 9998 2 t hk w 3 3 _ _ la lb fx fy kx ky
    have h4 := fun w => run_eqGuard_agg (P := P) (w := w) .neq t x y xs.toArray ys.toArray hgd
    have h5 := fun w => run_neq_struct (P := P) (w := w) t xs.toArray ys.toArray
    have hr : r = c := by
      cases r <;> cases c <;> simp_all
    subst hr
    have h3' : (Op.equalIn 10000 t (.agg xs.toArray) (.agg ys.toArray)).run P w = .ok r w := h3
    simp only [execOp, h1, h2, Sem.run_bind, h4, Result.andThen_ok, h5, h3']
    rfl
end
end Sl
end Go.Proofs.YtdabhneehconeaaGreatDoor

/-
  Of no statement by itself: how the landed field folds and reads (pieces, heads that are too long): pure; no program stands here.
  Conditions: none but each lemma's own.
-/
namespace Go.Proofs.YtdabhneehconeaaGreatDoor
namespace Fld
/-! ### the ends of a value -/
theorem trimL_self {v : List By} : trimL v = v ↔ (v = [] ∨ bl (v.getD 0 0) = false) := by
  constructor
  · intro h
    cases v with
    | nil => exact .inl rfl
    | cons c r =>
      refine .inr ?_
      cases hc : bl c with
      | false => exact hc
      | true =>
        exfalso
        have h1 : trimL (c :: r) = trimL r := by simp [trimL, hc]
        rw [h1] at h
        have h2 := congrArg List.length h
        have h3 : (trimL r).length ≤ r.length := (List.dropWhile_sublist _).length_le
        rw [List.length_cons] at h2
        omega
  · exact dropWhile_none
theorem trim_self {v : List By} : trim v = v ↔ (v = [] ∨ (bl (v.getD 0 0) = false ∧ bl (v.getD (v.length - 1) 0) = false)) := by
  have e0 : ∀ u : List By, u ≠ [] → u.reverse.getD 0 0 = u.getD (u.length - 1) 0 := by
    intro u hu
    have hl : 0 < u.length := List.length_pos_iff.2 hu
    rw [List.getD_eq_getElem?_getD, List.getD_eq_getElem?_getD, List.getElem?_reverse (by omega)]
    simp
  constructor
  · intro h
    have h1 : (trim v).length = v.length := congrArg List.length h
    have h2 : (trimL (trimL v).reverse).length ≤ (trimL v).reverse.length := (List.dropWhile_sublist _).length_le
    have h3 : (trimL v).length ≤ v.length := (List.dropWhile_sublist _).length_le
    unfold trim at h1
    rw [List.length_reverse] at h1 h2
    have h4 : trimL v = v := List.IsSuffix.eq_of_length (l₁ := trimL v) (List.dropWhile_suffix bl) (by omega)
    unfold trim at h
    rw [h4] at h
    have h5 : trimL v.reverse = v.reverse := by
      have := congrArg List.reverse h
      rwa [List.reverse_reverse] at this
    cases v with
    | nil => exact .inl rfl
    | cons c r =>
      refine .inr ⟨(trimL_self.1 h4).resolve_left (by simp), ?_⟩
      have := (trimL_self.1 h5).resolve_left (by simp)
      rwa [e0 _ (by simp)] at this
  · rintro (rfl | ⟨h1, h2⟩)
    · rfl
    · unfold trim
      by_cases hv : v = []
      · subst hv; rfl
      · rw [dropWhile_none (.inr h1), dropWhile_none (v := v.reverse) (.inr (by rw [e0 _ hv]; exact h2)), List.reverse_reverse]
theorem valB_is (v : List By) : valB v = (decide (v.length ≤ 8192) && (decide (v = trim v) && v.all sok)) := by
  unfold valB
  have h : (decide (v.length = 0) || (!bl (v.getD 0 0) && !bl (v.getD (v.length - 1) 0))) = decide (v = trim v) := by
    rw [Bool.eq_iff_iff, Bool.or_eq_true, Bool.and_eq_true, decide_eq_true_eq, decide_eq_true_eq, eq_comm (a := v), trim_self, List.length_eq_zero_iff, Bool.not_eq_true', Bool.not_eq_true']
  rw [h]
  cases v.all sok <;> cases decide (v.length ≤ 8192) <;> cases decide (v = trim v) <;> rfl
/-! ### pieces -/
/-- how many bytes ahead of the first blank -/
def fb (w : List By) : Nat := (w.takeWhile fun c => !bl c).length
theorem fb_le (w : List By) : fb w ≤ w.length := (List.takeWhile_sublist _).length_le
theorem fb_in : ∀ (w : List By) {k : Nat}, k < fb w → bl (w.getD k 0) = false
  | [], k, h => by simp [fb] at h
  | c :: r, k, h => by
    cases hc : bl c with
    | true => simp [fb, hc] at h
    | false =>
      have e : fb (c :: r) = fb r + 1 := by simp [fb, hc]
      cases k with
      | zero => exact hc
      | succ k => exact fb_in r (by omega)
theorem fb_at : ∀ (w : List By), fb w < w.length → bl (w.getD (fb w) 0) = true
  | [], h => by simp [fb] at h
  | c :: r, h => by
    cases hc : bl c with
    | true =>
      have e : fb (c :: r) = 0 := by simp [fb, hc]
      rw [e]; exact hc
    | false =>
      have e : fb (c :: r) = fb r + 1 := by simp [fb, hc]
      rw [e] at h ⊢
      exact fb_at r (by simpa using h)
theorem trimL_split : ∀ (u : List By), ∃ p, u = p ++ trimL u ∧ ∀ c ∈ p, bl c = true
  | [] => ⟨[], rfl, by simp⟩
  | c :: r => by
    cases hc : bl c with
    | true =>
      obtain ⟨p, h1, h2⟩ := trimL_split r
      refine ⟨c :: p, ?_, ?_⟩
      · have : trimL (c :: r) = trimL r := by simp [trimL, hc]
        rw [this, List.cons_append, ← h1]
      · intro d hd
        rcases List.mem_cons.1 hd with rfl | hd
        · exact hc
        · exact h2 d hd
    | false => exact ⟨[], by simp [trimL, hc], by simp⟩
theorem trimL_len (u : List By) : (trimL u).length ≤ u.length := (List.dropWhile_sublist _).length_le
def pieceB (s : List By) : Nat := s.length - (trimL s).length + fb (trimL s)
theorem scan_eq {v : List By} {i e : Nat} (h1 : i ≤ e) (h2 : e ≤ v.length) (hn : ∀ j, i ≤ j → j < e → ¬ tn v j = true) (he : e < v.length → tn v e = true) : scan v i = e := by
  have hi : i ≤ v.length := by omega
  have a1 := scan_le v i
  have a2 := scan_ge v i hi
  by_cases hlt : scan v i < e
  · exact absurd (scan_tn v i hi (by omega)) (hn _ a2 hlt)
  · by_cases hgt : e < scan v i
    · exact absurd (he (by omega)) (scan_no v i hi e h1 hgt)
    · omega
theorem piece_scan {v : List By} {i : Nat} (hi : i < v.length) : i + pieceB (v.drop i) = scan v (i + 1) := by
  obtain ⟨p, h1, h2⟩ := trimL_split (v.drop i)
  have hw0 : trimL (v.drop i) = [] ∨ bl ((trimL (v.drop i)).getD 0 0) = false := by
    have key : ∀ u : List By, trimL (trimL u) = trimL u := fun u => by
      rw [trimL_self]
      unfold trimL
      induction u with
      | nil => exact .inl rfl
      | cons c r ih =>
        cases hc : bl c with
        | true => simpa [List.dropWhile_cons, hc] using ih
        | false => exact .inr (by simp [List.dropWhile_cons, hc])
    exact trimL_self.1 (key _)
  have hlen : (v.drop i).length = v.length - i := List.length_drop
  have e0 : pieceB (v.drop i) = p.length + fb (trimL (v.drop i)) := by
    have := congrArg List.length h1
    rw [List.length_append] at this
    unfold pieceB
    omega
  rw [e0]
  generalize hw : trimL (v.drop i) = w at h1 hw0 e0 ⊢
  have hl : p.length + w.length = v.length - i := by
    have := congrArg List.length h1
    rw [List.length_append, hlen] at this
    omega
  have at1 : ∀ k, v.getD (i + k) 0 = (p ++ w).getD k 0 := fun k => by
    rw [← h1, List.getD_eq_getElem?_getD, List.getD_eq_getElem?_getD, List.getElem?_drop]
  have atp : ∀ k, k < p.length → bl (v.getD (i + k) 0) = true := fun k hk => by
    rw [at1, List.getD_eq_getElem?_getD, List.getElem?_append_left hk, List.getElem?_eq_getElem hk]
    exact h2 _ (List.getElem_mem hk)
  have atw : ∀ k, v.getD (i + p.length + k) 0 = w.getD k 0 := fun k => by
    rw [Nat.add_assoc, at1, List.getD_eq_getElem?_getD, List.getD_eq_getElem?_getD, List.getElem?_append_right (by omega)]
    congr 2
    omega
  have hfl := fb_le w
  have hf0 : w ≠ [] → 0 < fb w := by
    intro hne
    have hb := hw0.resolve_left hne
    cases w with
    | nil => exact absurd rfl hne
    | cons c r =>
      have hb : bl c = false := hb
      simp [fb, hb]
  have hwl : w ≠ [] ↔ 0 < w.length := List.length_pos_iff.symm
  symm
  refine scan_eq (by
    by_cases hp : p.length = 0
    · have := hf0 (hwl.2 (by omega)); omega
    · omega) (by omega) ?_ ?_
  · intro j hj1 hj2 ht
    have hb := tn_bl ht
    simp only [tn, Bool.and_eq_true, Bool.not_eq_true'] at ht
    by_cases hj : j ≤ i + p.length
    · have := atp (j - 1 - i) (by omega)
      rw [show i + (j - 1 - i) = j - 1 by omega] at this
      rw [this] at ht
      exact absurd ht.2.2 (by decide)
    · have := fb_in w (k := j - i - p.length) (by omega)
      rw [← atw, show i + p.length + (j - i - p.length) = j by omega] at this
      rw [this] at hb
      cases hb
  · intro hlt
    have hfw : fb w < w.length := by omega
    have h0 : 0 < fb w := hf0 (hwl.2 (by omega))
    have a := fb_at w hfw
    have b := fb_in w (k := fb w - 1) (by omega)
    rw [← atw] at a b
    simp only [tn, Bool.and_eq_true, Bool.not_eq_true', decide_eq_true_eq]
    refine ⟨by omega, ?_, ?_⟩
    · rw [show i + (p.length + fb w) = i + p.length + fb w by omega]; exact a
    · rw [show i + (p.length + fb w) - 1 = i + p.length + (fb w - 1) by omega]; exact b
theorem st_run (n v : List By) (i : Nat) : ∀ k, i + 1 + k ≤ v.length → (∀ j, i + 1 ≤ j → j < i + 1 + k → ¬ tn v j = true) →
    st n v (i + 1 + k) = ((st n v (i + 1)).1 ++ (v.take (i + 1 + k)).drop (i + 1), (st n v (i + 1)).2 + k)
  | 0, h, _ => by
    rw [List.drop_of_length_le (by rw [List.length_take]; omega)]
    simp
  | k + 1, h, hn => by
    have ih := st_run n v i k (by omega) (fun j h1 h2 => hn j h1 (by omega))
    have ht := hn (i + 1 + k) (by omega) (by omega)
    have e : i + 1 + (k + 1) = (i + 1 + k) + 1 := by omega
    rw [e, st, if_neg (fun hh => ht hh.1), ih, take_succ_getD v (by omega)]
    rw [List.drop_append_of_le_length (by rw [List.length_take]; omega)]
    simp only [List.append_assoc]
    rfl
/-- is a line's end put ahead of the piece at i? -/
def brkA (n v : List By) (i : Nat) : Bool := tn v i && decide (76 < (st n v i).2 + (scan v (i + 1) - i))
theorem st_piece (n v : List By) {i : Nat} (hi : i < v.length) : st n v (scan v (i + 1)) =
    (((st n v i).1 ++ (if brkA n v i then [13, 10] else [])) ++ (v.take (scan v (i + 1))).drop i, (if brkA n v i then 0 else (st n v i).2) + (scan v (i + 1) - i)) := by
  have a1 := scan_le v (i + 1)
  have a2 := scan_ge v (i + 1) hi
  have a3 := scan_no v (i + 1) hi
  generalize he : scan v (i + 1) = e at a1 a2 a3 ⊢
  have h1 := st_run n v i (e - (i + 1)) (by omega) (fun j h1 h2 => a3 j h1 (by omega))
  rw [show i + 1 + (e - (i + 1)) = e by omega] at h1
  have e2 : (v.take e).drop i = v.getD i 0 :: (v.take e).drop (i + 1) := by
    rw [List.drop_eq_getElem_cons (by rw [List.length_take]; omega), List.getElem_take, List.getD_eq_getElem?_getD, List.getElem?_eq_getElem hi]
    rfl
  rw [h1, e2]
  have hb : brkA n v i = true ↔ (tn v i = true ∧ 76 < (st n v i).2 + scan v (i + 1) - i) := by
    unfold brkA
    rw [he, Bool.and_eq_true, decide_eq_true_eq]
    constructor
    · rintro ⟨p, q⟩; exact ⟨p, by omega⟩
    · rintro ⟨p, q⟩; exact ⟨p, by omega⟩
  conv => lhs; rw [st]
  by_cases h : tn v i = true ∧ 76 < (st n v i).2 + scan v (i + 1) - i
  · rw [if_pos h, if_pos (hb.2 h), if_pos (hb.2 h)]
    simp only [List.append_assoc, List.cons_append, List.nil_append, Prod.mk.injEq, true_and]
    omega
  · rw [if_neg h, if_neg (fun k => h (hb.1 k)), if_neg (fun k => h (hb.1 k))]
    simp only [List.append_assoc, List.cons_append, List.nil_append, List.append_nil, Prod.mk.injEq, true_and]
    omega
theorem st_low (n v : List By) : ∀ i, n.length + 2 + i ≤ (st n v i).1.length
  | 0 => by simp [st]
  | i + 1 => by
    have := st_low n v i
    unfold st
    split
    · simp only [List.length_append, List.length_cons, List.length_nil]; omega
    · simp only [List.length_append, List.length_cons, List.length_nil]; omega
/-! ### heads that are too long -/
end Fld
end Go.Proofs.YtdabhneehconeaaGreatDoor

/-
  Of no statement by itself: what the library's functions on texts tell, in plain words: pure; no program stands here.
  Conditions: none but each lemma's own.
-/
namespace Go.Proofs.YtdabhneehconeaaGreatDoor
namespace Fld
def u8s (l : List By) : List UInt8 := l.map UInt8.ofBitVec
theorem strB_list (l : List By) : (strB l).data.toList = u8s l := rfl
theorem u8s_str (l : List By) : (⟨(u8s l).toArray⟩ : ByteArray) = strB l := rfl
theorem u8s_drop (p : UInt8 → Bool) : ∀ l : List By, (u8s l).dropWhile p = u8s (l.dropWhile fun c => p (UInt8.ofBitVec c))
  | [] => rfl
  | c :: l => by
    show (UInt8.ofBitVec c :: u8s l).dropWhile p = _
    rw [List.dropWhile_cons, List.dropWhile_cons]
    cases h : p (UInt8.ofBitVec c) with
    | true => exact u8s_drop p l
    | false => rfl
theorem u8s_rev (l : List By) : (u8s l).reverse = u8s l.reverse := by unfold u8s; rw [List.map_reverse]
theorem blank_u8 (c : By) : (u8s [32, 9]).contains (UInt8.ofBitVec c) = bl c := by
  have h : ∀ c : Fin 256, (u8s [32, 9]).contains (UInt8.ofBitVec (BitVec.ofNat 8 c.val)) = bl (BitVec.ofNat 8 c.val) := by decide +kernel
  simpa using h ⟨c.toNat, c.isLt⟩
theorem trimL_u8 (l : List By) : Go.Lib.trimLeftS (u8s l) (u8s [32, 9]) = u8s (trimL l) := by
  unfold Go.Lib.trimLeftS
  rw [u8s_drop]
  congr 1
  unfold trimL
  congr 1
  funext c
  exact blank_u8 c
/-- the other end -/
def trimR (v : List By) : List By := (trimL v.reverse).reverse
theorem trimR_cons (c : By) (r : List By) : trimR (c :: r) = if trimR r = [] ∧ bl c = true then [] else c :: trimR r := by
  unfold trimR trimL
  rw [List.reverse_cons, List.dropWhile_append]
  by_cases h : (r.reverse.dropWhile bl) = []
  · rw [h]
    cases hc : bl c <;> simp [hc]
  · have h2 : (r.reverse.dropWhile bl).isEmpty = false := by simpa using h
    rw [h2, if_neg (by decide), if_neg (by rintro ⟨k, _⟩; exact h (by simpa using k)), List.reverse_append]
    rfl
theorem trim_swap : ∀ v : List By, trimL (trimR v) = trimR (trimL v)
  | [] => rfl
  | c :: r => by
    have ih := trim_swap r
    rw [trimR_cons]
    cases hc : bl c with
    | true =>
      have e : trimL (c :: r) = trimL r := by simp [trimL, hc]
      rw [e, ← ih]
      by_cases h : trimR r = []
      · rw [if_pos ⟨h, rfl⟩, h]
      · rw [if_neg (fun k => h k.1)]
        simp [trimL, hc]
    | false =>
      have e : trimL (c :: r) = c :: r := by simp [trimL, hc]
      rw [if_neg (by rintro ⟨_, k⟩; cases k), e, trimR_cons, if_neg (by rintro ⟨_, k⟩; rw [hc] at k; cases k)]
      simp [trimL, hc]
theorem trim_u8 (l : List By) : Go.Lib.trimS (u8s l) (u8s [32, 9]) = u8s (trim l) := by
  have h1 : Go.Lib.trimRightS (u8s l) (u8s [32, 9]) = u8s (trimR l) := by
    unfold Go.Lib.trimRightS
    rw [u8s_rev]
    have := trimL_u8 l.reverse
    unfold Go.Lib.trimLeftS at this
    rw [this, u8s_rev]
    rfl
  unfold Go.Lib.trimS
  rw [h1, trimL_u8, trim_swap]
  rfl
theorem trim_len (v : List By) : (trim v).length ≤ v.length := by
  unfold trim
  rw [List.length_reverse]
  have h1 := trimL_len (trimL v).reverse
  have h2 := trimL_len v
  rw [List.length_reverse] at h1
  omega
/-- the place of the first blank, or less than nought -/
def ixB (w : List By) : Int := if fb w < w.length then (fb w : Int) else -1
theorem fb_cons (c : By) (r : List By) : fb (c :: r) = if bl c then 0 else fb r + 1 := by
  unfold fb
  rw [List.takeWhile_cons]
  cases bl c <;> simp
theorem indexAny_u8 : ∀ w : List By, Go.Lib.indexAny (u8s w) (u8s [32, 9]) = ixB w
  | [] => rfl
  | c :: r => by
    show (if (u8s [32, 9]).contains (UInt8.ofBitVec c) then 0 else if Go.Lib.indexAny (u8s r) (u8s [32, 9]) == -1 then -1 else Go.Lib.indexAny (u8s r) (u8s [32, 9]) + 1 : Int) = _
    rw [blank_u8, indexAny_u8 r]
    unfold ixB
    rw [fb_cons]
    cases hc : bl c with
    | true => simp
    | false =>
      simp only [Bool.false_eq_true, if_false, List.length_cons, Nat.add_lt_add_iff_right]
      by_cases h : fb r < r.length
      · simp only [h, if_true]
        rw [if_neg (by rw [beq_iff_eq]; omega)]
        omega
      · simp only [h, if_false]
        rfl
/-- a byte's first place, or less than nought -/
def fi (c : By) (s : List By) : Nat := (s.takeWhile (· != c)).length
theorem fi_le (c : By) (s : List By) : fi c s ≤ s.length := (List.takeWhile_sublist _).length_le
theorem fi_cons (c d : By) (r : List By) : fi c (d :: r) = if d = c then 0 else fi c r + 1 := by
  unfold fi
  rw [List.takeWhile_cons]
  by_cases h : d = c
  · simp [h]
  · simp [h]
theorem fi_at : ∀ (c : By) (s : List By), fi c s < s.length → s.getD (fi c s) 0 = c
  | c, [], h => by simp [fi] at h
  | c, d :: r, h => by
    rw [fi_cons] at h ⊢
    by_cases hd : d = c
    · rw [if_pos hd]; exact hd
    · rw [if_neg hd] at h ⊢
      exact fi_at c r (by simpa using h)
theorem fi_before : ∀ (c : By) (s : List By) {j : Nat}, j < fi c s → ¬ s.getD j 0 = c
  | c, [], j, h => by simp [fi] at h
  | c, d :: r, j, h => by
    rw [fi_cons] at h
    by_cases hd : d = c
    · rw [if_pos hd] at h; omega
    · rw [if_neg hd] at h
      cases j with
      | zero => exact hd
      | succ j => exact fi_before c r (by omega)
theorem fi_lt (c : By) (s : List By) : fi c s < s.length ↔ c ∈ s := by
  induction s with
  | nil => simp [fi]
  | cons d r ih =>
    rw [fi_cons]
    by_cases h : d = c
    · simp [h]
    · have h' : ¬ c = d := fun e => h e.symm
      rw [if_neg h, List.length_cons, List.mem_cons]
      constructor
      · intro k; exact .inr (ih.1 (by omega))
      · rintro (k | k)
        · exact absurd k h'
        · have := ih.2 k; omega
def ixC (c : By) (s : List By) : Int := if fi c s < s.length then (fi c s : Int) else -1
theorem u8s_get (s : List By) {i : Nat} (h : i < s.length) : (strB s)[i]! = UInt8.ofBitVec (s.getD i 0) := by
  have hs : i < (strB s).size := by rw [strB_size]; exact h
  rw [getElem!_pos (strB s) i hs]
  show (strB s).data[i]'_ = _
  show ((u8s s).toArray)[i]'_ = _
  simp [u8s, List.getD_eq_getElem?_getD, List.getElem?_eq_getElem h]
/-- the model's own search -/
theorem first_is (s : List By) (c : By) : firstIdx (strB s) ((c.toNat : Int)).toNat.toUInt8 = ixC c s := by
  have hc : ((c.toNat : Int)).toNat.toUInt8 = UInt8.ofBitVec c := by
    rw [Int.toNat_natCast]
    apply UInt8.toBitVec_inj.1
    apply BitVec.eq_of_toNat_eq
    simp [Nat.toUInt8, UInt8.ofNat]
  rw [hc]
  unfold firstIdx
  rw [strB_size]
  have hp : ∀ i, i < s.length → ((strB s)[i]! == UInt8.ofBitVec c) = decide (s.getD i 0 = c) := by
    intro i hi
    rw [u8s_get s hi]
    by_cases h : s.getD i 0 = c
    · rw [h]; simp
    · rw [decide_eq_false h]
      refine beq_eq_false_iff_ne.2 fun k => h ?_
      have := congrArg UInt8.toBitVec k
      exact this
  unfold ixC
  by_cases h : fi c s < s.length
  · rw [if_pos h]
    have hf : (List.range s.length).find? (fun i => (strB s)[i]! == UInt8.ofBitVec c) = some (fi c s) := by
      rw [List.find?_range_eq_some]
      refine ⟨?_, by simpa using h, ?_⟩
      · rw [hp _ h, decide_eq_true (fi_at c s h)]
      · intro j hj
        rw [hp j (by omega), decide_eq_false (fi_before c s hj)]
        rfl
    rw [hf]
  · rw [if_neg h]
    have hf : (List.range s.length).find? (fun i => (strB s)[i]! == UInt8.ofBitVec c) = none := by
      rw [List.find?_range_eq_none]
      intro j hj
      have := fi_le c s
      rw [hp j hj, decide_eq_false (fi_before c s (by omega))]
      rfl
    rw [hf]
/-- a byte's last place, or less than nought -/
def la (c : By) (s : List By) : Nat := (s.reverse.takeWhile fun d => !(d == c)).length
def ixL (c : By) (s : List By) : Int := (s.length : Int) - 1 - la c s
theorem la_snoc (c : By) (s : List By) (d : By) : la c (s ++ [d]) = if d = c then 0 else la c s + 1 := by
  unfold la
  rw [List.reverse_append, List.reverse_singleton, List.singleton_append, List.takeWhile_cons]
  by_cases h : d = c
  · simp [h]
  · simp [h]
theorem la_le (c : By) (s : List By) : la c s ≤ s.length := by
  unfold la
  have := (List.takeWhile_sublist (fun d => !(d == c)) (l := s.reverse)).length_le
  simpa using this
theorem la_lt (c : By) (s : List By) : la c s < s.length ↔ c ∈ s := by
  have h := fi_lt c s.reverse
  have e : fi c s.reverse = la c s := by
    unfold fi la
    congr 1
  rw [e] at h
  simpa using h
end Fld
end Go.Proofs.YtdabhneehconeaaGreatDoor

/-
  Of no statement by itself: a call behind which the world that it left is the new beginning: what is known of that world stays a fact, as long as nothing of it is written; over X's partial knowledge, for any program P.
  Conditions: each rule's own hypotheses.
-/
namespace Go.Proofs.YtdabhneehconeaaGreatDoor
open Sl
theorem Chg.over {w0 w1 w2 : World} {S : List Nat} (h1 : Ext w0 w1) (h2 : Chg S w1 w2) (hS : ∀ b ∈ S, w0.heap.size ≤ b) : Ext w0 w2 :=
  ⟨h2.os.trans h1.os, h2.tape.trans h1.tape, h2.output.trans h1.output, Nat.le_trans h1.size h2.size,
   fun k hk hk' => (h2.block k (Nat.lt_of_lt_of_le hk h1.size) (fun h => by have := hS k h; omega)).trans (h1.block k hk hk')⟩
/-- slices of slices of bytes -/
def flatE (rs : List Sl8) : List Ent := rs.flatMap Sl8.ents
theorem less_app {A B : List Ent} (C : List Ent) (h : Less A B) : Less A (C ++ B) := by
  induction C with
  | nil => exact h
  | cons e C ih => exact .drop _ _ _ ih
theorem less_mem {x : Sl8} : ∀ {rs : List Sl8}, x ∈ rs → Less x.ents (flatE rs)
  | y :: rs, h => by
    rcases List.mem_cons.1 h with rfl | h
    · exact less_pre _ _
    · exact less_app y.ents (less_mem h)
theorem flat_ok {rs : List Sl8} {w0 w : World} {S : List Nat} {A : List Ent} (hw : Holds w0 S (A ++ flatE rs) w) (h0 : ∀ x ∈ rs, x.ad = none → x.l = []) : ∀ x ∈ rs, x.ok w := fun x hx =>
  Sl8.ents_ok (M := []) (by rw [List.append_nil]; exact hw.weak (less_app A (less_mem hx))) (h0 x hx)
theorem less_app2 {B B' : List Ent} (h : Less B' B) : ∀ A : List Ent, Less (A ++ B') (A ++ B)
  | [] => h
  | ⟨_, _, _⟩ :: A => .keep _ _ _ _ _ _ (fun _ h => h) (less_app2 h A)
theorem JE.perm {n : Nat} {w0 : World} {S : List Nat} {Q : Exit → Act → World → Prop} {e : Exit} {E : Env} {M M' : List Ent} (hp : M.Perm M') (h : JE n w0 S Q e E M') : JE n w0 S Q e E M :=
  ⟨fun a w ha hw => h.go a w ha ⟨hw.chg, (hp.map Ent.b).nodup_iff.1 hw.nodup, fun e he => hw.all e (hp.mem_iff.2 he)⟩⟩
/-- a slice of slices of bytes -/
structure SlL where
  ad : Option Addr
  cap : Nat
  rs : List Sl8
def SlL.v (s : SlL) : Value := .slice s.ad s.rs.length s.cap
def SlL.ls (s : SlL) : List (List Bt) := s.rs.map Sl8.l
structure SlL.ok (w : World) (s : SlL) : Prop where
  len : s.rs.length ≤ s.cap
  reads : Reads w s.ad (s.rs.map Sl8.v)
  all : ∀ y ∈ s.rs, y.ok w
theorem ownL_ok {w0 w : World} {S : List Nat} {A : List Ent} {b cap : Nat} {e : TypeId} {rs : List Sl8} {wr : Bool} (hw : Holds w0 S (A ++ flatE rs) w) (hM : Has (A ++ flatE rs) b (Sl.Own e 1 rs.length cap (rs.map Sl8.v)) wr) (h0 : ∀ x ∈ rs, x.ad = none → x.l = []) : SlL.ok w ⟨some ⟨b, 0, none⟩, cap, rs⟩ := by
  obtain ⟨o, ho, hA⟩ := hw.get hM
  have hh := Sl.Own.cells _ hA
  obtain ⟨sp, rfl, h2, h3, h4⟩ := hA
  exact ⟨h4, Reads.block ho hh, flat_ok hw h0⟩
theorem own_less {e : TypeId} {k cap b : Nat} {l : List Bt} (h : l.length = k) : Less (Sl8.ents ⟨some ⟨b, 0, none⟩, cap, l⟩) [⟨b, Sl.Own e 1 k cap (l.map U8), true⟩] := by
  refine .keep _ _ _ _ _ _ (fun o ho => ?_) (.nil _)
  obtain ⟨sp, rfl, h1, h2, h3⟩ := ho
  refine ⟨⟨_, _, _, rfl, fun i hi => ?_⟩, ?_, rfl⟩
  · have hi : i < l.length := by simpa using hi
    simp [List.getElem?_append_left, hi]
  · show l.length ≤ cap
    omega
theorem Sl.Holds.base {w0 w1 w2 : World} {M : List Ent} (h1 : Ext w0 w1) (h : Holds w1 [] M w2) : Holds w0 [] M w2 :=
  ⟨Chg.over h1 h.chg (by simp), h.nodup, fun e he => ⟨(h.all e he).1, fun hr => .inr (((h.all e he).2 hr).elim (fun h => by simp at h) (fun h => Nat.le_trans h1.size h))⟩⟩
theorem all8U (l : List Bt) : ∀ v ∈ l.map U8, v.oneCell' = true := by
  intro v hv
  obtain ⟨x, _, rfl⟩ := List.mem_map.1 hv
  rfl
theorem JE.ret3 {P : Program} {fn : Func} {R : Ending → World → Prop} {n : Nat} {w0 : World} {S : List Nat} {E : Env} {M : List Ent} {r1 r2 r3 : ResultVar} {v1 v2 v3 : Value} (hr : fn.results = #[r1, r2, r3]) (h1 : RV P n w0 S E M r1 v1) (h2 : RV P n w0 S E M r2 v2) (h3 : RV P n w0 S E M r3 v3) (hR : ∀ w, Holds w0 S M w → R (.returned (.tuple #[v1, v2, v3])) w) : JE n w0 S (bodyPost P fn R) .ret E M := by
  refine ⟨fun a w ha hw => ?_⟩
  refine ⟨ha.defers, .tuple #[v1, v2, v3], ?_, hR w hw⟩
  have e1 := h1 a w ha hw
  have e2 := h2 a w ha hw
  have e3 := h3 a w ha hw
  rw [results_eq, hr]
  simp [Sem.run_bind, e1, e2, e3]
theorem SlL.ok.holds {w0 w : World} {S : List Nat} {M : List Ent} {s : SlL} (h : s.ok w0) (hw : Holds w0 S M w) (hS : S = []) : s.ok w := ⟨h.len, hw.reads h.reads (fun _ a _ => by rw [hS]; simp), fun y hy => (h.all y hy).holds hw hS⟩
section
variable {P : Program} {n : Nat} {E : Env} {C : World → Prop} {dst : Option Tmp} {ty t t' : TypeId} {pos : String} {aft : Array Edge} {g : Option (Nat × Bool)} {x y : Operand}
theorem OQ.maxI {a c : Int} (hx : ev E x = some (.int .i64 a)) (hy : ev E y = some (.int .i64 c)) : OQ P n E C ⟨dst, .call ⟨.builtin .max, #[x, y], #[t, t']⟩, ty, pos, aft, g⟩ (.int .i64 (max a c)) :=
  OQ.run fun ac ha w _ => by
    have h1 := ha.eval hx
    have h2 := ha.eval hy
    have h3 : (if a < c then c else a) = max a c := by split <;> omega
    simp [execOp, h1, h2, resolve, invoke, builtin, Builtin.max_, Builtin.max2, Sem.run_bind, h3]
end
end Go.Proofs.YtdabhneehconeaaGreatDoor

/-
  Of no statement by itself: append of a string's bytes onto a slice of the function's own; over X's partial knowledge, for any program P.
  Conditions: each rule's own hypotheses.
-/
namespace Go.Proofs.YtdabhneehconeaaGreatDoor
namespace Sl
section
variable {P : Program} {t tx e : TypeId}
theorem byteCells_strB (l : List Bt) : Go.byteCells (strB l) = l.map U8 := by
  unfold Go.byteCells strB
  simp [U8, Function.comp_def]
theorem run_appendS_room (w : World) (ty : TypeId) (i : TypeInfo) (ht : P.underlying t = some (.slice e)) (hi : P.info? e = some i)
    (g sLen sCap : Nat) (x : Value) (m : Nat) (news : List Value) (hs : Src P i.size tx x m news w) (cur : Array Value) (hg : w.heap[g]? = some (.cells cur e (0, 0)))
    (hroom : sLen + m ≤ sCap) (hfit : sLen * i.size + news.length ≤ cur.size) :
    (Builtin.append_ #[t, tx] ty #[.slice (some ⟨g, 0, none⟩) sLen sCap, x]).run P w =
      .ok (.slice (some ⟨g, 0, none⟩) (sLen + m) sCap) (w.setRow g (cur.toList.take (sLen * i.size) ++ news ++ cur.toList.drop (sLen * i.size + news.length)).toArray) := by
  have hst := run_storeCells_at P g (sLen * i.size) e news 0 cur w hg (by simpa using hfit) hs.one
  simp only [Nat.add_zero] at hst
  rcases hs.kind with ⟨e', hk⟩ | hk <;> simp [Builtin.append_, run_underlying ht, run_underlying hk, sizeOf, typeInfo, hi, hs.len, hroom, hs.cells, Addr.add_lit] at hst ⊢ <;> simp [hst]
variable {n : Nat} {w0 : World} {S : List Nat} {ops : Array Oper} {Q : Exit → Act → World → Prop} {l : List Oper} {E : Env} {M : List Ent} {d b : Nat} {ty : TypeId} {pos : String} {aft : Array Edge} {x y : Operand}
theorem JL.appendS {k cap : Nat} {xs : List Value} {r : List Bt} (M' : Nat → Nat → List Ent) (hu : P.underlying t = some (.slice e)) (hk : P.underlying tx = some .string) (hi : EI P e (.int .u8 0) 1 1) (hx : ev E x = some (.slice (some ⟨b, 0, none⟩) k cap)) (hy : ev E y = some (Z r))
    (hup : ∀ b' cap', Repl M b (Sl.Own e 1 k cap xs) b' (Sl.Own e 1 (k + r.length) cap' (xs ++ r.map U8)) (M' b' cap'))
    (hsm : (k + r.length) ≤ 140737488355328) (hd : Nat.blt d n = true)
    (kk : ∀ b' cap', JL P n w0 S ops Q l ((d, .slice (some ⟨b', 0, none⟩) (k + r.length) cap') :: E) (M' b' cap')) : JL P n w0 S ops Q (⟨some d, .call ⟨.builtin .append, #[x, y], #[t, tx]⟩, ty, pos, aft, none⟩ :: l) E M :=
  ⟨fun a w ha hw => wpList_plain rfl fun K hK => by
    obtain ⟨i, hi1, hi2, hi3, hi4⟩ := hi.get
    obtain ⟨o, ho, sp, rfl, hc1, hc2, hc3⟩ := hw.get (hup 0 0).has
    have hsrc : Src P i.size tx (Z r) r.length (r.map U8) w := by
      have := Src.ofString (P := P) w hk (strB r)
      rw [byteCells_strB, strB_size] at this
      rw [hi3]; exact this
    unfold Oper.wp
    simp only [execOp, resolve, invoke, builtin, Sem.run_bind, Sem.run_pure, Result.andThen_ok, List.map_toArray, List.map_cons, List.map_nil, ha.eval hx, ha.eval hy]
    by_cases hroom : k + r.length ≤ cap
    · have hfit : k * i.size + (r.map U8).length ≤ (xs ++ sp).toArray.size := by
        rw [List.size_toArray, hc1, hi3, List.length_map]; omega
      rw [run_appendS_room w ty i hu hi1 b k cap (Z r) r.length (r.map U8) hsrc (xs ++ sp).toArray ho hroom hfit]
      refine hK _ _ ((kk b cap).go _ _ (ha.put d _ hd) (hw.write (hup b cap).upd (o' := .cells ((xs ++ sp).take (k * i.size) ++ r.map U8 ++ (xs ++ sp).drop (k * i.size + (r.map U8).length)).toArray e (0, 0)) ?_ (setRow_heap w b _ _ e _ ho) (by simp) (fun q hq => setRow_other w b q _ hq) rfl rfl rfl))
      rw [hi3, ← hc2, List.take_left]
      refine ⟨(xs ++ sp).drop (xs.length + (r.map U8).length), rfl, ?_, by rw [List.length_append, hc2, List.length_map, Nat.add_mul, Nat.mul_one r.length], hroom⟩
      simp only [List.size_toArray] at hfit
      simp only [List.length_append, List.length_drop, List.length_map] at hfit hc1 ⊢
      rw [hi3] at hfit
      omega
    · have hold : ∀ u v, xs[u]? = some v → w.cell? ((⟨b, 0, none⟩ : Addr).add u) = some v := fun u v hv => by
        rw [add_off]
        have hu' : u < xs.length := (List.getElem?_eq_some_iff.1 hv).1
        exact cell_of ho (by simpa [cellAt, List.getElem?_append_left hu'] using hv)
      have hfit := growslice_fits (need := k + r.length) (old := cap) (bytes := 1) (by omega) (by omega)
      have hfo := run_firstCells_some (P := P) w.drew i.size k ⟨b, 0, none⟩ k cap xs (by rw [hc2, hi3]) (by simpa using hold)
      rw [run_append_grow_src w t tx ty e i (.int .u8 0) hu hi1 hi2 (some ⟨b, 0, none⟩) k cap xs hfo (Z r) r.length (r.map U8) hsrc (by omega) (by omega) (by rw [hi4]; exact hfit)]
      have hge := grownCap_ge w (k + r.length) cap e
      generalize grownCap w (k + r.length) cap e = nc at hge
      refine hK _ _ ((kk w.heap.size nc).go _ _ (ha.put d _ hd) (hw.renew (.cells ((xs ++ r.map U8).toArray ++ Builtin.zeroCells (Value.int .u8 0).cells (nc - (k + r.length))) e) (hup _ _) ?_ rfl rfl rfl rfl))
      have h8 : (Builtin.zeroCells (Value.int .u8 0).cells (nc - (k + r.length))).size = (nc - (k + r.length)) := by
        rw [show (Value.int .u8 0).cells = #[Value.int .u8 0] from rfl]; simp [Builtin.zeroCells]
      refine ⟨(Builtin.zeroCells (Value.int .u8 0).cells (nc - (k + r.length))).toList, by simp, ?_, by rw [List.length_append, hc2, List.length_map, Nat.add_mul, Nat.mul_one r.length], hge⟩
      simp only [List.length_append, Array.length_toList, h8, hc2, List.length_map]
      omega⟩
end
end Sl
end Go.Proofs.YtdabhneehconeaaGreatDoor

/-
  Of no statement by itself: comparisons whose answers were told apart ahead of the walk; and small rules; for any program P.
  Conditions: each rule's own hypotheses.
-/
namespace Go.Proofs.YtdabhneehconeaaGreatDoor
namespace Sl
section
variable {P : Program} {n : Nat} {E : Env} {C : World → Prop} {dst : Option Tmp} {t t' ty : TypeId} {pos : String} {aft : Array Edge} {g : Option (Nat × Bool)} {x y : Operand} {c : Bool}
theorem OQ.lssB {k : IntKind} {a b : Int} (hx : ev E x = some (.int k a)) (hy : ev E y = some (.int k b)) (h : decide (a < b) = c) : OQ P n E C ⟨dst, .binOp .lss t x y t', ty, pos, aft, g⟩ (.bool c) := OQ.bin hx hy rfl fun _ => by cases k <;> exact okBool h
theorem OQ.leqB {k : IntKind} {a b : Int} (hx : ev E x = some (.int k a)) (hy : ev E y = some (.int k b)) (h : decide (a ≤ b) = c) : OQ P n E C ⟨dst, .binOp .leq t x y t', ty, pos, aft, g⟩ (.bool c) := OQ.bin hx hy rfl fun _ => by cases k <;> exact okBool h
theorem OQ.gtrB {k : IntKind} {a b : Int} (hx : ev E x = some (.int k a)) (hy : ev E y = some (.int k b)) (h : decide (b < a) = c) : OQ P n E C ⟨dst, .binOp .gtr t x y t', ty, pos, aft, g⟩ (.bool c) := OQ.bin hx hy rfl fun _ => by cases k <;> exact okBool h
theorem OQ.geqB {k : IntKind} {a b : Int} (hx : ev E x = some (.int k a)) (hy : ev E y = some (.int k b)) (h : decide (b ≤ a) = c) : OQ P n E C ⟨dst, .binOp .geq t x y t', ty, pos, aft, g⟩ (.bool c) := OQ.bin hx hy rfl fun _ => by cases k <;> exact okBool h
theorem OQ.eqB {k : IntKind} {a b : Int} (hx : ev E x = some (.int k a)) (hy : ev E y = some (.int k b)) (h : decide (a = b) = c) : OQ P n E C ⟨dst, .binOp .eql t x y t', ty, pos, aft, g⟩ (.bool c) := h ▸ OQ.eqi hx hy
theorem OQ.neB {k : IntKind} {a b : Int} (hx : ev E x = some (.int k a)) (hy : ev E y = some (.int k b)) (h : decide (a = b) = c) : OQ P n E C ⟨dst, .binOp .neq t x y t', ty, pos, aft, g⟩ (.bool (!c)) := by
  have := OQ.nei (P := P) (n := n) (C := C) (dst := dst) (ty := ty) (t := t) (t' := t') (pos := pos) (aft := aft) (g := g) hx hy
  rw [h] at this
  exact this
theorem OQ.ne8B {a b : BitVec 8} (hx : ev E x = some (U8 a)) (hy : ev E y = some (U8 b)) (h : decide (a = b) = c) : OQ P n E C ⟨dst, .binOp .neq t x y t', ty, pos, aft, g⟩ (.bool (!c)) := by
  have := OQ.ne8 (P := P) (n := n) (C := C) (dst := dst) (ty := ty) (t := t) (t' := t') (pos := pos) (aft := aft) (g := g) hx hy
  rw [h] at this
  exact this
/-- a call whose answer was told apart -/
theorem OQ.callb {w0 : World} {S : List Nat} {M : List Ent} {f : FuncId} {xs : List Operand} {ats : Array TypeId} {vs : List Value} {b : Bool} (hg : Goes P f) (hx : evs E xs = some vs) (hc : ∀ w, Calls P f vs.toArray w fun e w' => e = .returned (.bool b) ∧ Ext w w') (h : b = c) :
    OQ P n E (Holds w0 S M) ⟨dst, .call ⟨.value (.func f), xs.toArray, ats⟩, ty, pos, aft, g⟩ (.bool c) := h ▸ OQ.callx hg hx fun w _ => hc w
end
theorem JC.joinB {P : Program} {n : Nat} {w0 : World} {S : List Nat} {Q Q' : Exit → Act → World → Prop} {E : Env} {M : List Ent} {ι : Type} {id : Nat} (Ei : ι → Env) (Mi : ι → List Ent) (I : ι → Prop) {p q : Code} (h : JC P n w0 S (Exit.inBlock id (Exit.then (fun a' w' => ∃ i, I i ∧ Knows n (Ei i) a' ∧ Holds w0 S (Mi i) w') Q)) p E M)
    (k : ∀ i, I i → JC P n w0 S Q' q (Ei i) (Mi i)) : JC P n w0 S (Exit.inBlock id (Exit.then (q.wp P Q') Q)) p E M :=
  ⟨fun a w ha hw => wp_mono (h.go a w ha hw) fun e a' w' he => by
    cases e with
    | normal => obtain ⟨i, hi, h1, h2⟩ := he; exact (k i hi).go a' w' h1 h2
    | exit id' =>
      by_cases hid : id' = id
      · subst hid
        have he : (if id' = id' then (Exit.then (fun a' w' => ∃ i, I i ∧ Knows n (Ei i) a' ∧ Holds w0 S (Mi i) w') Q) .normal a' w' else _) := he
        rw [if_pos rfl] at he
        obtain ⟨i, hi, h1, h2⟩ := he
        show (if id' = id' then _ else _)
        rw [if_pos rfl]
        exact (k i hi).go a' w' h1 h2
      · have he : (if id' = id then _ else (Exit.then _ Q) (.exit id') a' w') := he
        rw [if_neg hid] at he
        show (if id' = id then _ else _)
        rw [if_neg hid]
        exact he
    | goto _ => exact he
    | ret => exact he
    | panic _ => exact he
    | outgrown => exact he⟩
/-- all of the first ones, one more -/
theorem all_take {α : Type} (p : α → Bool) (l : List α) (d : α) {i : Nat} (h : i < l.length) : (l.take (i + 1)).all p = ((l.take i).all p && p (l.getD i d)) := by
  rw [List.take_add_one, List.getD_eq_getElem?_getD, List.getElem?_eq_getElem h, List.all_append]
  simp only [Option.toList_some, Option.getD_some, List.all_cons, List.all_nil, Bool.and_true]
theorem all_bad {α : Type} (p : α → Bool) (l : List α) (d : α) {i : Nat} (h : i < l.length) (hb : p (l.getD i d) = false) : l.all p = false := by
  rw [List.all_eq_false]
  refine ⟨l.getD i d, ?_, by rw [hb]; decide⟩
  rw [List.getD_eq_getElem?_getD, List.getElem?_eq_getElem h]
  exact List.getElem_mem h
end Sl
end Go.Proofs.YtdabhneehconeaaGreatDoor

/-
  Of no statement by itself: parts of strings (x[i:], x[:j], x[i:j]); for any program P.
  Conditions: each rule's own hypotheses.
-/
namespace Go.Proofs.YtdabhneehconeaaGreatDoor
namespace Sl
theorem strB_extract (l : List Bt) (i j : Nat) : (strB l).extract i j = strB ((l.take j).drop i) := by
  apply ByteArray.ext
  rw [ByteArray.data_extract]
  show (l.map UInt8.ofBitVec).toArray.extract i j = (((l.take j).drop i).map UInt8.ofBitVec).toArray
  rw [List.extract_toArray, List.extract_eq_drop_take', List.map_drop, List.map_take]
section
variable {P : Program} {n : Nat} {E : Env} {C : World → Prop} {dst : Option Tmp} {t ty : TypeId} {pos : String} {aft : Array Edge} {g : Option (Nat × Bool)} {x y z : Operand} {l : List Bt}
theorem OQ.subS_lo {i : Nat} (hu : P.underlying t = some .string) (hx : ev E x = some (Z l)) (hy : ev E y = some (N i)) (h : i ≤ l.length) : OQ P n E C ⟨dst, .slice t x (some y) none none, ty, pos, aft, g⟩ (Z (l.drop i)) :=
  OQ.run fun a ha w _ => by
    have h1 := ha.eval hx
    have h2 := ha.eval hy
    have h3 : (underlying t).run P w = .ok .string w := run_underlying hu w
    have h4 := run_slice_string_l w t (strB l) hu .i64 (i : Int) (by omega) (by rw [strB_size]; omega)
    rw [strB_size, strB_extract, List.take_length, Int.toNat_natCast] at h4
    simp [execOp, h1, h2, Instr.sliceAt, Sem.run_bind, h3, h4]
theorem OQ.subS_hi {j : Nat} (hu : P.underlying t = some .string) (hx : ev E x = some (Z l)) (hy : ev E y = some (N j)) (h : j ≤ l.length) : OQ P n E C ⟨dst, .slice t x none (some y) none, ty, pos, aft, g⟩ (Z (l.take j)) :=
  OQ.run fun a ha w _ => by
    have h1 := ha.eval hx
    have h2 := ha.eval hy
    have h3 : (underlying t).run P w = .ok .string w := run_underlying hu w
    have h4 := run_slice_string_h w t (strB l) hu .i64 (j : Int) (by omega) (by rw [strB_size]; omega)
    rw [strB_extract, List.drop_zero, Int.toNat_natCast] at h4
    simp [execOp, h1, h2, Instr.sliceAt, Sem.run_bind, h3, h4]
theorem OQ.subS {i j : Nat} (hu : P.underlying t = some .string) (hx : ev E x = some (Z l)) (hy : ev E y = some (N i)) (hz : ev E z = some (N j)) (h : i ≤ j) (h' : j ≤ l.length) : OQ P n E C ⟨dst, .slice t x (some y) (some z) none, ty, pos, aft, g⟩ (Z ((l.take j).drop i)) :=
  OQ.run fun a ha w _ => by
    have h1 := ha.eval hx
    have h2 := ha.eval hy
    have h5 := ha.eval hz
    have h3 : (underlying t).run P w = .ok .string w := run_underlying hu w
    have h4 := run_slice_string w t (strB l) .i64 .i64 (i : Int) (j : Int) hu (by omega) (by omega) (by rw [strB_size]; omega)
    rw [strB_extract, Int.toNat_natCast, Int.toNat_natCast] at h4
    simp [execOp, h1, h2, h5, Instr.sliceAt, Sem.run_bind, h3, h4]
end
end Sl
end Go.Proofs.YtdabhneehconeaaGreatDoor

/-
  Of no statement by itself: rules for function values of one byte, and for labels that are jumped to, over partial knowledge of frame and memory, for any program P.
  Conditions: each rule's own hypotheses.
-/
namespace Go.Proofs.YtdabhneehconeaaGreatDoor
set_option maxRecDepth 10000
namespace Sl
/-- a function value of a byte: it answers p, and keeps all blocks -/
def Fun8 (P : Program) (w0 : World) (fv : Value) (p : Bt → Bool) : Prop :=
  ∃ (f : FuncId) (caps : List Value), fv = .func (.func f) #[] caps.toArray ∧ Goes P f ∧ ∀ (c : Bt) (w : World), Ext w0 w → Calls P f (U8 c :: caps).toArray w fun e w' => e = .returned (.bool (p c)) ∧ Ext w w'
theorem Fun8.ext {P : Program} {w0 w1 : World} {fv : Value} {p : Bt → Bool} (h : Fun8 P w0 fv p) (hx : Ext w0 w1) : Fun8 P w1 fv p := by
  obtain ⟨f, caps, h1, h2, h3⟩ := h
  exact ⟨f, caps, h1, h2, fun c w hw => h3 c w (hx.trans hw)⟩
theorem Fun8.holds {P : Program} {w0 w1 : World} {M : List Ent} {fv : Value} {p : Bt → Bool} (h : Fun8 P w0 fv p) (hw : Holds w0 [] M w1) : Fun8 P w1 fv p := h.ext hw.chg
section
variable {P : Program} {n : Nat} {w0 : World} {S : List Nat} {Q Q' : Exit → Act → World → Prop} {E E' : Env} {M M' : List Ent}
variable {dst : Option Tmp} {ty : TypeId} {pos : String} {aft : Array Edge} {g : Option (Nat × Bool)} {x y : Operand} {ats : Array TypeId}
theorem exec_callv {f : FuncId} {caps : List Value} {xs : List Operand} {vs : List Value} {a : Act} (hg : Goes P f) (hk : Knows n E a) (hf : ev E x = some (.func (.func f) #[] caps.toArray)) (hx : evs E xs = some vs) (w : World) :
    (execOp a.eval ⟨dst, .call ⟨.value x, xs.toArray, ats⟩, ty, pos, aft, g⟩).run P w = .ok (.enter f (vs ++ caps).toArray) w := by
  obtain ⟨fn, h1, h2, h3⟩ := hg
  have hm : xs.toArray.map a.eval = vs.toArray := by simp [evs_map hk hx]
  have h2' : ¬ fn.body = none := fun h => by rw [h] at h2; cases h2
  have h3' : ¬ fn.name = "runtime.NumGoroutine" := by simpa using h3
  have hf' := hk.eval hf
  simp [execOp, resolve, Sem.run_bind, hm, hf', Deferred.ofValue, invoke, callFunc, program, Sem.run, h1, h2', h3']
/-- a call of such a function value -/
theorem OQ.callF {fv : Value} {p : Bt → Bool} {c : Bt} {b : Bool} (hF : Fun8 P w0 fv p) (hx : ev E x = some fv) (hy : ev E y = some (U8 c)) (h : p c = b) : OQ P n E (Holds w0 [] M) ⟨dst, .call ⟨.value x, #[y], ats⟩, ty, pos, aft, g⟩ (.bool b) := by
  obtain ⟨f, caps, h1, h2, h3⟩ := hF
  subst h1
  refine ⟨fun a hk w hw => ?_⟩
  have hy' : evs E [y] = some [U8 c] := by simp [evs, hy]
  unfold Oper.quietAt
  rw [show (#[y] : Array Operand) = [y].toArray from rfl, exec_callv (xs := [y]) h2 hk hx hy' w]
  refine ⟨rfl, (h3 c w hw.chg).mono fun e w' ⟨k1, k2⟩ => ⟨?_, hw.ext k2⟩⟩
  rw [k1, h]
theorem OQ.mkF {f : FuncId} {xs : Array Operand} {caps : List Value} (hx : evs E xs.toList = some caps) : OQ P n E (Holds w0 S M) ⟨dst, .makeFunc (.func f) #[] xs, ty, pos, aft, g⟩ (.func (.func f) #[] caps.toArray) := by
  refine OQ.run fun a hk w _ => ?_
  have hm : xs.map a.eval = caps.toArray := by
    have h1 := evs_map hk hx
    rw [← h1]
    apply Array.ext'
    simp
  simp [execOp, Instr.makeFunc, Sem.run_bind, hm]
theorem JC.mono {c : Code} (h : JC P n w0 S Q c E M) (hq : ∀ e a w, Q e a w → Q' e a w) : JC P n w0 S Q' c E M :=
  ⟨fun a w ha hw b k cs => let ⟨e, a', w', h1, h2⟩ := h.go a w ha hw b k cs; ⟨e, a', w', hq e a' w' h1, h2⟩⟩
theorem OQ.neSB {C : World → Prop} {t t' : TypeId} {l r : List Bt} {c : Bool} (hx : ev E x = some (Z l)) (hy : ev E y = some (Z r)) (h : decide (l = r) = c) : OQ P n E C ⟨dst, .binOp .neq t x y t', ty, pos, aft, g⟩ (.bool (!c)) := h ▸ OQ.neS hx hy
theorem OQ.eqSB {C : World → Prop} {t t' : TypeId} {l r : List Bt} {c : Bool} (hx : ev E x = some (Z l)) (hy : ev E y = some (Z r)) (h : decide (l = r) = c) : OQ P n E C ⟨dst, .binOp .eql t x y t', ty, pos, aft, g⟩ (.bool c) := h ▸ OQ.eqS hx hy
/-! ### a label that is jumped to -/
abbrev Jmp (n : Nat) (w0 : World) (S : List Nat) {ι : Type} (Ei : ι → Env) (Mi : ι → List Ent) (p : ι → Prop) : Act → World → Prop := fun a w => ∃ j, p j ∧ Knows n (Ei j) a ∧ Holds w0 S (Mi j) w
theorem JC.scope {ι : Type} (l : Nat) (Ei : ι → Env) (Mi : ι → List Ent) (μ : ι → Nat) (I : ι → Prop) {c rest : Code} (hf : findLabel c l = some rest)
    (first : JC P n w0 S (Exit.jump l (Jmp n w0 S Ei Mi I) Q) c E M)
    (pass : ∀ i, I i → JC P n w0 S (Exit.jump l (Jmp n w0 S Ei Mi fun j => I j ∧ μ j < μ i) Q) rest (Ei i) (Mi i)) : JC P n w0 S Q (.scope c) E M := by
  refine ⟨fun a0 w0' ha0 hw0 b k cs => ?_⟩
  have hg : gotoIn l (.inScope c :: k) = some (.code rest :: .inScope c :: k) := by simp [gotoIn, hf]
  have key : ∀ m i, μ i = m → I i → ∀ a w, Knows n (Ei i) a → Holds w0 S (Mi i) w → ∃ e a' w', Q e a' w' ∧ Arrives P (lone (b.at a (.code rest :: .inScope c :: k)) cs w) b k cs e a' w' := by
    intro m
    induction m using Nat.strongRecOn with
    | _ m ih =>
      intro i hm hI a w ha hw
      obtain ⟨e, a₁, w₁, hq, harr⟩ := (pass i hI).go a w ha hw b (.inScope c :: k) cs
      cases e with
      | normal => exact ⟨.normal, a₁, w₁, hq, Steps.trans harr (.one step_inScope)⟩
      | exit id => exact ⟨.exit id, a₁, w₁, hq, fun k' hk => harr k' (by simp [exitTo, hk])⟩
      | goto l' =>
        obtain ⟨rfl, j, ⟨hJ, hlt⟩, ha₁, hw₁⟩ := hq
        obtain ⟨e₂, a₂, w₂, hq₂, harr₂⟩ := ih (μ j) (by omega) j rfl hJ a₁ w₁ ha₁ hw₁
        exact ⟨e₂, a₂, w₂, hq₂, .of_steps (harr _ hg) harr₂⟩
      | ret => exact ⟨_, a₁, w₁, hq, harr⟩
      | panic ch => exact ⟨_, a₁, w₁, hq, harr⟩
      | outgrown => exact ⟨_, a₁, w₁, hq, harr⟩
  obtain ⟨e, a₁, w₁, hq, harr⟩ := first.go a0 w0' ha0 hw0 b (.inScope c :: k) cs
  cases e with
  | normal => exact ⟨.normal, a₁, w₁, hq, .head step_scope (Steps.trans harr (.one step_inScope))⟩
  | exit id => exact ⟨.exit id, a₁, w₁, hq, fun k' hk => .head step_scope (harr k' (by simp [exitTo, hk]))⟩
  | goto l' =>
    obtain ⟨rfl, j, hJ, ha₁, hw₁⟩ := hq
    obtain ⟨e₂, a₂, w₂, hq₂, harr₂⟩ := key _ j rfl hJ a₁ w₁ ha₁ hw₁
    exact ⟨e₂, a₂, w₂, hq₂, .of_steps (.head step_scope (harr _ hg)) harr₂⟩
  | ret => exact ⟨_, a₁, w₁, hq, .of_steps (.one step_scope) harr⟩
  | panic ch => exact ⟨_, a₁, w₁, hq, .of_steps (.one step_scope) harr⟩
  | outgrown => exact ⟨_, a₁, w₁, hq, .of_steps (.one step_scope) harr⟩
theorem JC.goto {l : Nat} (h : JE n w0 S Q (.goto l) E M) : JC P n w0 S Q (.goto l) E M := ⟨fun a w ha hw => wp_goto (h.go a w ha hw)⟩
theorem JE.jump_to {ι : Type} {l : Nat} {Ei : ι → Env} {Mi : ι → List Ent} {p : ι → Prop} (j : ι) (hp : p j) (hE : SubE E (Ei j)) (hM : Less (Mi j) M) : JE n w0 S (Exit.jump l (Jmp n w0 S Ei Mi p) Q) (.goto l) E M :=
  ⟨fun _ _ ha hw => ⟨rfl, j, hp, ha.sub hE, hw.weak hM⟩⟩
theorem JE.jump_ret {l : Nat} {J : Act → World → Prop} (h : JE n w0 S Q .ret E M) : JE n w0 S (Exit.jump l J Q) .ret E M := ⟨h.go⟩
theorem JE.then_goto {K : Act → World → Prop} {l : Nat} (h : JE n w0 S Q (.goto l) E M) : JE n w0 S (Exit.then K Q) (.goto l) E M := ⟨h.go⟩
end
end Sl
end Go.Proofs.YtdabhneehconeaaGreatDoor

/-
  Of no statement by itself: facts of the program's types that many texts use.
  Conditions: none.
-/
namespace Go.Proofs.YtdabhneehconeaaGreatDoor
set_option maxRecDepth 10000
open Sl
theorem mixT : Tryz.prog.follows .mixedOrders = true := by kernel_rfl
theorem u8s : szT Tryz.prog 5 = some 1 := by kernel_rfl
theorem u8c : scal Tryz.prog 5 = true := by kernel_rfl
theorem u8e : EI Tryz.prog 5 (.int .u8 0) 1 1 := by unfold EI; kernel_rfl
end Go.Proofs.YtdabhneehconeaaGreatDoor

/-
  Of no statement by itself: strings.Trim, TrimLeft, IndexAny at the two blanks, by the library's contracts over any program; strings.IndexByte, Cut at one byte by their bodies.
  Conditions: each theorem's own.
-/
namespace Go.Proofs.YtdabhneehconeaaGreatDoor
set_option maxRecDepth 10000
open Sl Fld Go.Shelf
theorem below_ext {w w' : World} (h : RowKit.Below w.heap.size w w') : Ext w w' := ⟨h.os, h.tape, h.output, h.size, fun k hk _ => h.block k hk⟩
theorem set_info : (Tryz.prog.info? 183).map (fun i => (i.zero, i.size)) = some (some (.agg (Array.replicate 256 (.bool false))), 256) := by kernel_rfl
theorem blanks2_ok : ∀ (j : Nat) b, (strB [32, 9]).data.toList[j]? = some b → b.toNat < 128 := ascii_of_all (by decide)
def trimLaysRen : Ren := ⟨fun | 160 => 116 | 232 => 166 | 231 => 165 | 227 => 167 | 234 => 169 | 233 => 168 | 236 => 171 | 235 => 170 | 228 => 212 | 271 => 220 | 151 => 219 | 197 => 218 | 120 => 246 | 152 => 210 | 260 => 245 | 137 => 82 | 119 => 240 | 224 => 215 | 225 => 241 | 217 => 127 | 266 => 184 | n => n,
  fun | 9 => 9 | 4 => 4 | 3 => 3 | 5 => 5 | 117 => 184 | 116 => 183 | 0 => 0 | 124 => 187 | 21 => 21 | 105 => 223 | 46 => 211 | 119 => 254 | 139 => 257 | 138 => 256 | n => n,
  fun | 3 => 4 | 4 => 5 | n => n⟩
theorem trimLays : Lays.n160 Tryz.prog trimLaysRen := {
  mixed := by kernel_rfl
  f119 := Tryz.func240.trans (congrArg some (by kernel_rfl))
  f120 := Tryz.func246.trans (congrArg some (by kernel_rfl))
  f137 := Tryz.func82.trans (congrArg some (by kernel_rfl))
  f151 := Tryz.func219.trans (congrArg some (by kernel_rfl))
  f152 := Tryz.func210.trans (congrArg some (by kernel_rfl))
  f160 := Tryz.func116.trans (congrArg some (by kernel_rfl))
  f197 := Tryz.func218.trans (congrArg some (by kernel_rfl))
  f217 := Tryz.func127.trans (congrArg some (by kernel_rfl))
  f224 := Tryz.func215.trans (congrArg some (by kernel_rfl))
  f225 := Tryz.func241.trans (congrArg some (by kernel_rfl))
  f227 := Tryz.func167.trans (congrArg some (by kernel_rfl))
  f228 := Tryz.func212.trans (congrArg some (by kernel_rfl))
  f231 := Tryz.func165.trans (congrArg some (by kernel_rfl))
  f232 := Tryz.func166.trans (congrArg some (by kernel_rfl))
  f233 := Tryz.func168.trans (congrArg some (by kernel_rfl))
  f234 := Tryz.func169.trans (congrArg some (by kernel_rfl))
  f235 := Tryz.func170.trans (congrArg some (by kernel_rfl))
  f236 := Tryz.func171.trans (congrArg some (by kernel_rfl))
  f260 := Tryz.func245.trans (congrArg some (by kernel_rfl))
  f266 := Tryz.func184.trans (congrArg some (by kernel_rfl))
  f271 := Tryz.func220.trans (congrArg some (by kernel_rfl))
  t0 := Tryz.underlying0
  a0 := Tryz.isAgg0
  z0 := Tryz.sizeOf0
  v0 := Tryz.zeroValue0
  t3 := Tryz.underlying3
  a3 := Tryz.isAgg3
  z3 := Tryz.sizeOf3
  v3 := Tryz.zeroValue3
  t4 := Tryz.underlying4
  a4 := Tryz.isAgg4
  z4 := Tryz.sizeOf4
  v4 := Tryz.zeroValue4
  t5 := Tryz.underlying5
  a5 := Tryz.isAgg5
  z5 := Tryz.sizeOf5
  v5 := Tryz.zeroValue5
  t9 := Tryz.underlying9
  a9 := Tryz.isAgg9
  z9 := Tryz.sizeOf9
  v9 := Tryz.zeroValue9
  t21 := Tryz.underlying21
  a21 := Tryz.isAgg21
  z21 := Tryz.sizeOf21
  v21 := Tryz.zeroValue21
  t46 := Tryz.underlying211
  a46 := Tryz.isAgg211
  z46 := Tryz.sizeOf211
  v46 := Tryz.zeroValue211
  t105 := Tryz.underlying223
  a105 := Tryz.isAgg223
  z105 := Tryz.sizeOf223
  v105 := Tryz.zeroValue223
  t116 := Tryz.underlying183
  a116 := Tryz.isAgg183
  z116 := Tryz.sizeOf183
  t117 := Tryz.underlying184
  a117 := Tryz.isAgg184
  z117 := Tryz.sizeOf184
  v117 := Tryz.zeroValue184
  t119 := Tryz.underlying254
  a119 := Tryz.isAgg254
  z119 := Tryz.sizeOf254
  t124 := Tryz.underlying187
  a124 := Tryz.isAgg187
  z124 := Tryz.sizeOf187
  v124 := Tryz.zeroValue187
  t138 := Tryz.underlying256
  a138 := Tryz.isAgg256
  z138 := Tryz.sizeOf256
  v138 := Tryz.zeroValue256
  t139 := Tryz.underlying257
  a139 := Tryz.isAgg257
  z139 := Tryz.sizeOf257
  v139 := Tryz.zeroValue257
  g3 := by kernel_rfl
  g4 := by kernel_rfl }
theorem goes_trimw : Goes Tryz.prog 116 := ⟨_, Tryz.func116, rfl, by kernel_rfl⟩
theorem trimw_any (s : List Bt) (w : World) (hl : s.length < 9223372036854775808) : Calls Tryz.prog 116 [Z s, Z [32, 9]].toArray w fun e w' => e = .returned (Z (trim s)) ∧ Ext w w' :=
  (Any.strings_Trim_laid trimLays set_info (strB s) (strB [32, 9]) w (by rw [strB_size]; omega) (by decide) blanks2_ok).mono fun e w' ⟨h1, h2⟩ => ⟨by
    rw [h1, strB_list, strB_list, trim_u8, u8s_str], below_ext h2⟩
def trimlLaysRen : Ren := ⟨fun | 161 => 147 | 231 => 165 | 227 => 167 | 233 => 168 | 235 => 170 | 228 => 212 | 197 => 218 | 151 => 219 | 260 => 245 | 152 => 210 | 137 => 82 | 119 => 240 | 224 => 215 | 225 => 241 | 217 => 127 | 266 => 184 | n => n,
  fun | 9 => 9 | 4 => 4 | 3 => 3 | 5 => 5 | 117 => 184 | 116 => 183 | 0 => 0 | 124 => 187 | 105 => 223 | 21 => 21 | 119 => 254 | 46 => 211 | 139 => 257 | 138 => 256 | n => n,
  fun | 3 => 4 | 4 => 5 | n => n⟩
theorem trimlLays : Lays.n161 Tryz.prog trimlLaysRen := {
  mixed := by kernel_rfl
  f119 := Tryz.func240.trans (congrArg some (by kernel_rfl))
  f137 := Tryz.func82.trans (congrArg some (by kernel_rfl))
  f151 := Tryz.func219.trans (congrArg some (by kernel_rfl))
  f152 := Tryz.func210.trans (congrArg some (by kernel_rfl))
  f161 := Tryz.func147.trans (congrArg some (by kernel_rfl))
  f197 := Tryz.func218.trans (congrArg some (by kernel_rfl))
  f217 := Tryz.func127.trans (congrArg some (by kernel_rfl))
  f224 := Tryz.func215.trans (congrArg some (by kernel_rfl))
  f225 := Tryz.func241.trans (congrArg some (by kernel_rfl))
  f227 := Tryz.func167.trans (congrArg some (by kernel_rfl))
  f228 := Tryz.func212.trans (congrArg some (by kernel_rfl))
  f231 := Tryz.func165.trans (congrArg some (by kernel_rfl))
  f233 := Tryz.func168.trans (congrArg some (by kernel_rfl))
  f235 := Tryz.func170.trans (congrArg some (by kernel_rfl))
  f260 := Tryz.func245.trans (congrArg some (by kernel_rfl))
  f266 := Tryz.func184.trans (congrArg some (by kernel_rfl))
  t0 := Tryz.underlying0
  a0 := Tryz.isAgg0
  z0 := Tryz.sizeOf0
  v0 := Tryz.zeroValue0
  t3 := Tryz.underlying3
  a3 := Tryz.isAgg3
  z3 := Tryz.sizeOf3
  v3 := Tryz.zeroValue3
  t4 := Tryz.underlying4
  a4 := Tryz.isAgg4
  z4 := Tryz.sizeOf4
  v4 := Tryz.zeroValue4
  t5 := Tryz.underlying5
  a5 := Tryz.isAgg5
  z5 := Tryz.sizeOf5
  v5 := Tryz.zeroValue5
  t9 := Tryz.underlying9
  a9 := Tryz.isAgg9
  z9 := Tryz.sizeOf9
  v9 := Tryz.zeroValue9
  t21 := Tryz.underlying21
  a21 := Tryz.isAgg21
  z21 := Tryz.sizeOf21
  v21 := Tryz.zeroValue21
  t46 := Tryz.underlying211
  a46 := Tryz.isAgg211
  z46 := Tryz.sizeOf211
  v46 := Tryz.zeroValue211
  t105 := Tryz.underlying223
  a105 := Tryz.isAgg223
  z105 := Tryz.sizeOf223
  v105 := Tryz.zeroValue223
  t116 := Tryz.underlying183
  a116 := Tryz.isAgg183
  z116 := Tryz.sizeOf183
  t117 := Tryz.underlying184
  a117 := Tryz.isAgg184
  z117 := Tryz.sizeOf184
  v117 := Tryz.zeroValue184
  t119 := Tryz.underlying254
  a119 := Tryz.isAgg254
  z119 := Tryz.sizeOf254
  t124 := Tryz.underlying187
  a124 := Tryz.isAgg187
  z124 := Tryz.sizeOf187
  v124 := Tryz.zeroValue187
  t138 := Tryz.underlying256
  a138 := Tryz.isAgg256
  z138 := Tryz.sizeOf256
  v138 := Tryz.zeroValue256
  t139 := Tryz.underlying257
  a139 := Tryz.isAgg257
  z139 := Tryz.sizeOf257
  v139 := Tryz.zeroValue257
  g3 := by kernel_rfl
  g4 := by kernel_rfl }
theorem goes_triml : Goes Tryz.prog 147 := ⟨_, Tryz.func147, rfl, by kernel_rfl⟩
theorem triml_any (s : List Bt) (w : World) : Calls Tryz.prog 147 [Z s, Z [32, 9]].toArray w fun e w' => e = .returned (Z (trimL s)) ∧ Ext w w' :=
  (Any.strings_TrimLeft_laid trimlLays set_info (strB s) (strB [32, 9]) w (by decide) blanks2_ok).mono fun e w' ⟨h1, h2⟩ => ⟨by
    rw [h1, strB_list, strB_list, trimL_u8, u8s_str], below_ext h2⟩
def ixanyLaysRen : Ren := ⟨fun | 153 => 159 | 152 => 210 | 226 => 211 | 227 => 167 | 228 => 212 | 137 => 82 | 119 => 240 | 224 => 215 | 225 => 241 | 217 => 127 | 266 => 184 | n => n,
  fun | 9 => 9 | 3 => 3 | 4 => 4 | 5 => 5 | 21 => 21 | 117 => 184 | 116 => 183 | 0 => 0 | 46 => 211 | 124 => 187 | n => n,
  fun n => n⟩
theorem ixanyLays : Lays.n153 Tryz.prog ixanyLaysRen := {
  mixed := by kernel_rfl
  f119 := Tryz.func240.trans (congrArg some (by kernel_rfl))
  f137 := Tryz.func82.trans (congrArg some (by kernel_rfl))
  f152 := Tryz.func210.trans (congrArg some (by kernel_rfl))
  f153 := Tryz.func159.trans (congrArg some (by kernel_rfl))
  f217 := Tryz.func127.trans (congrArg some (by kernel_rfl))
  f224 := Tryz.func215.trans (congrArg some (by kernel_rfl))
  f225 := Tryz.func241.trans (congrArg some (by kernel_rfl))
  f226 := Tryz.func211.trans (congrArg some (by kernel_rfl))
  f227 := Tryz.func167.trans (congrArg some (by kernel_rfl))
  f228 := Tryz.func212.trans (congrArg some (by kernel_rfl))
  f266 := Tryz.func184.trans (congrArg some (by kernel_rfl))
  t0 := Tryz.underlying0
  a0 := Tryz.isAgg0
  z0 := Tryz.sizeOf0
  v0 := Tryz.zeroValue0
  t3 := Tryz.underlying3
  a3 := Tryz.isAgg3
  z3 := Tryz.sizeOf3
  v3 := Tryz.zeroValue3
  t4 := Tryz.underlying4
  a4 := Tryz.isAgg4
  z4 := Tryz.sizeOf4
  v4 := Tryz.zeroValue4
  t5 := Tryz.underlying5
  a5 := Tryz.isAgg5
  z5 := Tryz.sizeOf5
  v5 := Tryz.zeroValue5
  t9 := Tryz.underlying9
  a9 := Tryz.isAgg9
  z9 := Tryz.sizeOf9
  v9 := Tryz.zeroValue9
  t21 := Tryz.underlying21
  a21 := Tryz.isAgg21
  z21 := Tryz.sizeOf21
  v21 := Tryz.zeroValue21
  t46 := Tryz.underlying211
  a46 := Tryz.isAgg211
  z46 := Tryz.sizeOf211
  v46 := Tryz.zeroValue211
  t116 := Tryz.underlying183
  a116 := Tryz.isAgg183
  z116 := Tryz.sizeOf183
  t117 := Tryz.underlying184
  a117 := Tryz.isAgg184
  z117 := Tryz.sizeOf184
  v117 := Tryz.zeroValue184
  t124 := Tryz.underlying187
  a124 := Tryz.isAgg187
  z124 := Tryz.sizeOf187
  v124 := Tryz.zeroValue187 }
theorem goes_ixany : Goes Tryz.prog 159 := ⟨_, Tryz.func159, rfl, by kernel_rfl⟩
theorem ixany_any (s : List Bt) (w : World) (hl : s.length < 4294967281) (hs : ∀ c ∈ s, c.toNat < 128) : Calls Tryz.prog 159 [Z s, Z [32, 9]].toArray w fun e w' => e = .returned (I (ixB s)) ∧ Ext w w' :=
  (Any.strings_IndexAny_laid ixanyLays set_info (strB s) (strB [32, 9]) w (by rw [strB_size]; exact hl) (by decide) (fun j b hb => by
    rw [strB_list] at hb
    obtain ⟨c, hc, rfl⟩ := List.mem_map.1 (List.mem_of_getElem? hb)
    exact hs c hc) blanks2_ok).mono fun e w' ⟨h1, h2⟩ => ⟨by
    rw [h1, strB_list, strB_list, indexAny_u8], below_ext h2⟩
/-! ### one byte's first place, by the bodies and the model's own entry -/
structure IsIdxS (P : Program) (f : FuncId) : Prop where
  go : ∃ fn, P.funcs[f]? = some fn ∧ (fn.name == "runtime.NumGoroutine") = false ∧ fn.body.isNone = true ∧ Extern.findNext fn = none ∧ Extern.find fn = some Extern.BytealgIndexByte.indexByte
theorem OQ.idxs {P : Program} {n : Nat} {E : Env} {C : World → Prop} {dst : Option Tmp} {ty : TypeId} {pos : String} {aft : Array Edge} {g : Option (Nat × Bool)} {f : FuncId} {ats : Array TypeId} {x y : Operand} {s : List Bt} {c : Bt} (hf : IsIdxS P f) (hx : ev E x = some (Z s)) (hy : ev E y = some (U8 c)) :
    OQ P n E C ⟨dst, .call ⟨.value (.func f), #[x, y], ats⟩, ty, pos, aft, g⟩ (I (ixC c s)) := by
  refine ⟨fun ac hk w hw => ?_⟩
  obtain ⟨fn, h1, h2, h3, h4, h5⟩ := hf.go
  have r := run_callFunc_extern h1 h2 h3 h4 h5 #[Z s, U8 c] w
  rw [run_indexByte_string, first_is] at r
  unfold Oper.quietAt
  have r' : (execOp ac.eval ⟨dst, .call ⟨.value (.func f), #[x, y], ats⟩, ty, pos, aft, g⟩).run P w = .ok (.value (I (ixC c s))) w := by
    simp only [Result.andThen] at r
    have k1 := hk.eval hx
    have k2 := hk.eval hy
    have e : (.ok (.value (I (ixC c s))) w : Result Next) = (callFunc f #[Z s, U8 c]).run P w := r.symm
    rw [e]
    simp [execOp, resolve, Sem.run_bind, Act.eval, Deferred.ofValue, invoke, k1, k2]
    simp [Act.eval] at k1 k2
    simp [k1, k2]
  rw [r']
  exact ⟨rfl, rfl⟩
theorem is_idxs : IsIdxS Tryz.prog 184 := ⟨_, Tryz.func184, rfl, rfl, by kernel_rfl, by kernel_rfl⟩
theorem goes_sidx : Goes Tryz.prog 127 := ⟨_, Tryz.func127, rfl, by kernel_rfl⟩
theorem goes_idxb : Goes Tryz.prog 82 := ⟨_, Tryz.func82, rfl, by kernel_rfl⟩
theorem sidx_any (s : List Bt) (c : Bt) (w : World) : Calls Tryz.prog 127 [Z s, U8 c].toArray w fun e w' => e = .returned (I (ixC c s)) ∧ Ext w w' := by
  refine enter (n := 8) Tryz.func127 rfl rfl rfl (Holds.start w []) ?_
  repeat (first | refine JL.q (by first | (apply OQ.idxs; exact is_idxs; exact rfl; exact rfl) | (apply OQ.move; exact rfl) | (apply OQ.assign; exact rfl)) rfl ?_ | refine JC.seq ?_ | refine JC.region ?_ | refine JL.nil ?_ | refine JE.next ?_)
  exact JC.ret (JE.ret1 rfl (RV.tmp rfl) fun w' hw => ⟨rfl, hw.chg⟩)
theorem idxb_any (s : List Bt) (c : Bt) (w : World) : Calls Tryz.prog 82 [Z s, U8 c].toArray w fun e w' => e = .returned (I (ixC c s)) ∧ Ext w w' := by
  refine enter (n := 8) Tryz.func82 rfl rfl rfl (Holds.start w []) ?_
  repeat (first | refine JL.q (by first | (apply OQ.callx; exact goes_sidx; exact rfl; exact (fun w' _ => sidx_any s c w')) | (apply OQ.move; exact rfl) | (apply OQ.assign; exact rfl)) rfl ?_ | refine JC.seq ?_ | refine JC.region ?_ | refine JL.nil ?_ | refine JE.next ?_)
  exact JC.ret (JE.ret1 rfl (RV.tmp rfl) fun w' hw => ⟨rfl, hw.chg⟩)
/-! ### texts cut at a byte -/
theorem goes_sindex : Goes Tryz.prog 217 := ⟨_, Tryz.func217, rfl, by kernel_rfl⟩
theorem goes_scut : Goes Tryz.prog 163 := ⟨_, Tryz.func163, rfl, by kernel_rfl⟩
theorem goes_cutw : Goes Tryz.prog 114 := ⟨_, Tryz.func114, rfl, by kernel_rfl⟩
theorem ixC_one (c : Bt) : ixC c [c] = 0 := by simp [ixC, fi]
theorem sindex_any (s : List Bt) (c : Bt) (w : World) : Calls Tryz.prog 217 [Z s, Z [c]].toArray w fun e w' => e = .returned (I (ixC c s)) ∧ Ext w w' := by
  refine enter (n := 143) Tryz.func217 rfl rfl rfl (Holds.start w []) ?_
  cases h : decide ([c] = s)
  · repeat (first | refine JL.q (by first | (apply OQ.lenS; exact Tryz.underlying9; exact rfl) | (apply OQ.eqB (a := 1) (b := 0); exact rfl; exact rfl; exact rfl) | (apply OQ.eqSB; exact rfl; exact rfl; exact h) | (apply OQ.pick_f; exact rfl; exact rfl) | (apply OQ.move; exact rfl) | (apply OQ.assign; exact rfl)) rfl ?_ | refine JC.seq ?_ | refine JC.region ?_ | refine JC.block ?_ | refine JL.nil ?_ | refine JE.next ?_ | refine JL.gon rfl rfl ?_)
    refine JC.cond rfl (fun h => by cases h) (fun _ => ?_)
    repeat (first | refine JL.q (by first | (apply OQ.eqB (a := 1) (b := 1); exact rfl; exact rfl; exact rfl) | (apply OQ.move; exact rfl) | (apply OQ.assign; exact rfl)) rfl ?_ | refine JC.seq ?_ | refine JC.region ?_ | refine JL.nil ?_ | refine JE.next ?_)
    refine JC.cond rfl (fun _ => ?_) (fun h => by cases h)
    repeat (first | refine JL.q (by first | (apply OQ.idxZ (l := [c]) (i := 0); exact Tryz.underlying9; exact rfl; exact rfl; exact (Nat.zero_lt_succ 0)) | (apply OQ.callx (vs := [Z s, U8 c]); exact goes_sidx; exact rfl; exact (fun w' _ => sidx_any s c w')) | (apply OQ.move; exact rfl) | (apply OQ.assign; exact rfl)) rfl ?_ | refine JC.seq ?_ | refine JC.region ?_ | refine JL.nil ?_ | refine JE.next ?_)
    refine JC.ret ?_
    repeat (first | refine JE.then_ret ?_ | refine JE.blk_ret ?_)
    exact JE.ret1 rfl (RV.tmp rfl) fun w' hw => ⟨rfl, hw.chg⟩
  · obtain rfl := of_decide_eq_true h
    rw [ixC_one]
    repeat (first | refine JL.q (by first | (apply OQ.lenS; exact Tryz.underlying9; exact rfl) | (apply OQ.eqB (a := 1) (b := 0); exact rfl; exact rfl; exact rfl) | (apply OQ.eqSB; exact rfl; exact rfl; exact h) | (apply OQ.pick_f; exact rfl; exact rfl) | (apply OQ.move; exact rfl) | (apply OQ.assign; exact rfl)) rfl ?_ | refine JC.seq ?_ | refine JC.region ?_ | refine JC.block ?_ | refine JL.nil ?_ | refine JE.next ?_ | refine JL.gon rfl rfl ?_)
    refine JC.cond rfl (fun _ => ?_) (fun h => by cases h)
    repeat (first | refine JL.q (by (apply OQ.assign; exact rfl)) rfl ?_ | refine JC.seq ?_ | refine JC.region ?_ | refine JL.nil ?_ | refine JE.next ?_)
    refine JC.ret ?_
    repeat (first | refine JE.then_ret ?_ | refine JE.blk_ret ?_)
    exact JE.ret1 rfl (RV.tmp rfl) fun w' hw => ⟨rfl, hw.chg⟩
/-- what a cut at a byte tells -/
def cutV (c : Bt) (s : List Bt) : Value := if fi c s < s.length then .tuple #[Z (s.take (fi c s)), Z (s.drop (fi c s + 1)), .bool true] else .tuple #[Z s, Z [], .bool false]
theorem scut_any (s : List Bt) (c : Bt) (w : World) (hl : s.length < 9223372036854775807) : Calls Tryz.prog 163 [Z s, Z [c]].toArray w fun e w' => e = .returned (cutV c s) ∧ Ext w w' := by
  refine enter (n := 23) Tryz.func163 rfl rfl rfl (Holds.start w []) ?_
  by_cases h : fi c s < s.length
  · have e1 : ixC c s = (fi c s : Nat) := if_pos h
    have hq : ∀ w', Calls Tryz.prog 217 [Z s, Z [c]].toArray w' fun e w2 => e = .returned (N (fi c s)) ∧ Ext w' w2 := fun w' => by
      have := sindex_any s c w'
      rw [e1] at this
      exact this
    have hle : fi c s ≤ s.length := by omega
    have hle1 : fi c s + 1 ≤ s.length := h
    rw [show cutV c s = _ from if_pos h]
    generalize fi c s = k at hq hle hle1
    repeat (first | refine JL.q (by first | (apply OQ.callx (vs := [Z s, Z [c]]); exact goes_sindex; exact rfl; exact (fun w' _ => hq w')) | (apply OQ.move; exact rfl) | (apply OQ.assign; exact rfl)) rfl ?_ | refine JC.seq ?_ | refine JC.region ?_ | refine JL.nil ?_ | refine JE.next ?_)
    repeat (first | refine JL.q (by (apply OQ.geqN; exact rfl; exact rfl)) rfl ?_ | refine JL.nil ?_ | refine JE.next ?_)
    refine JC.cond_true rfl (decide_eq_true (Nat.zero_le _)) ?_
    refine JC.seq (JC.quiet mixT (by kernel_rfl) ?_)
    repeat (refine JQ.q (by first | (apply OQ.subS_hi; exact Tryz.underlying9; exact rfl; exact rfl; exact hle) | (apply OQ.lenS; exact Tryz.underlying9; exact rfl) | (apply OQ.addN (b := 1); exact rfl; exact rfl; exact (by omega)) | (apply OQ.subS_lo; exact Tryz.underlying9; exact rfl; exact rfl; exact hle1) | (apply OQ.move; exact rfl) | (apply OQ.assign; exact rfl)) rfl ?_)
    refine JQ.nil (JE.next ?_)
    refine JC.ret ?_
    repeat (refine JE.then_ret ?_)
    exact JE.ret3 rfl (RV.tmp rfl) (RV.tmp rfl) (RV.tmp rfl) fun w' hw => ⟨rfl, hw.chg⟩
  · have e1 : ixC c s = -1 := if_neg h
    have hq : ∀ w', Calls Tryz.prog 217 [Z s, Z [c]].toArray w' fun e w2 => e = .returned (I (-1)) ∧ Ext w' w2 := fun w' => by
      have := sindex_any s c w'
      rw [e1] at this
      exact this
    rw [show cutV c s = _ from if_neg h]
    repeat (first | refine JL.q (by first | (apply OQ.callx (vs := [Z s, Z [c]]); exact goes_sindex; exact rfl; exact (fun w' _ => hq w')) | (apply OQ.move; exact rfl) | (apply OQ.assign; exact rfl)) rfl ?_ | refine JC.seq ?_ | refine JC.region ?_ | refine JL.nil ?_ | refine JE.next ?_)
    repeat (first | refine JL.q (by (apply OQ.geqB (a := -1) (b := 0); exact rfl; exact rfl; exact rfl)) rfl ?_ | refine JL.nil ?_ | refine JE.next ?_)
    refine JC.cond_false rfl rfl ?_
    repeat (first | refine JL.q (by first | (apply OQ.move; exact rfl) | (apply OQ.assign; exact rfl)) rfl ?_ | refine JC.seq ?_ | refine JC.region ?_ | refine JC.skip ?_ | refine JL.nil ?_ | refine JE.next ?_)
    refine JC.ret ?_
    skip
    exact JE.ret3 rfl (RV.tmp rfl) (RV.tmp rfl) (RV.tmp rfl) fun w' hw => ⟨rfl, hw.chg⟩
theorem cutw_any (s : List Bt) (c : Bt) (w : World) (hl : s.length < 9223372036854775807) : Calls Tryz.prog 114 [Z s, Z [c]].toArray w fun e w' => e = .returned (cutV c s) ∧ Ext w w' := by
  refine enter (n := 13) Tryz.func114 rfl rfl rfl (Holds.start w []) ?_
  have hq := fun w' => scut_any s c w' hl
  unfold cutV at hq ⊢
  by_cases h : fi c s < s.length
  · simp only [h, if_true] at hq ⊢
    repeat (first | refine JL.q (by first | (apply OQ.callx (vs := [Z s, Z [c]]); exact goes_scut; exact rfl; exact (fun w' _ => hq w')) | (apply OQ.extract; exact rfl; exact rfl) | (apply OQ.move; exact rfl) | (apply OQ.assign; exact rfl)) rfl ?_ | refine JC.seq ?_ | refine JC.region ?_ | refine JL.nil ?_ | refine JE.next ?_)
    exact JC.ret (JE.ret3 rfl (RV.tmp rfl) (RV.tmp rfl) (RV.tmp rfl) fun w' hw => ⟨rfl, hw.chg⟩)
  · simp only [h, if_false] at hq ⊢
    repeat (first | refine JL.q (by first | (apply OQ.callx (vs := [Z s, Z [c]]); exact goes_scut; exact rfl; exact (fun w' _ => hq w')) | (apply OQ.extract; exact rfl; exact rfl) | (apply OQ.move; exact rfl) | (apply OQ.assign; exact rfl)) rfl ?_ | refine JC.seq ?_ | refine JC.region ?_ | refine JL.nil ?_ | refine JE.next ?_)
    exact JC.ret (JE.ret3 rfl (RV.tmp rfl) (RV.tmp rfl) (RV.tmp rfl) fun w' hw => ⟨rfl, hw.chg⟩)
end Go.Proofs.YtdabhneehconeaaGreatDoor

/-
  Of no statement by itself: a slice that begins as nil and is appended to; over X's partial knowledge, for any program P.
  Conditions: each rule's own hypotheses.
-/
namespace Go.Proofs.YtdabhneehconeaaGreatDoor
open Sl
/-- nil, or a slice of the function's own -/
abbrev Acc := Option (Nat × Nat)
def accV (q : Acc) (k : Nat) : Value := match q with
  | none => .slice none 0 0
  | some p => .slice (some ⟨p.1, 0, none⟩) k p.2
def accE (e : TypeId) (q : Acc) (xs : List Value) : List Ent := match q with
  | none => []
  | some p => [⟨p.1, Sl.Own e 1 xs.length p.2 xs, true⟩]
def accS (q : Acc) (l : List Bt) : Sl8 := match q with
  | none => nilS
  | some p => ⟨some ⟨p.1, 0, none⟩, p.2, l⟩
theorem accS_v (q : Acc) (l : List Bt) : (accS q l).v = accV q l.length := by cases q <;> rfl
theorem accS_l {q : Acc} {l : List Bt} (h : q = none → l = []) : (accS q l).l = l := by
  cases q with
  | none => exact (h rfl).symm
  | some p => rfl
theorem accS_none {q : Acc} {l : List Bt} : (accS q l).ad = none → (accS q l).l = [] := by
  cases q with
  | none => intro _; rfl
  | some p => intro h; cases h
theorem accS_ents {e : TypeId} (q : Acc) (l : List Bt) : Less (accS q l).ents (accE e q (l.map U8)) := by
  cases q with
  | none => exact .nil _
  | some p =>
    show Less (Sl8.ents ⟨some ⟨p.1, 0, none⟩, p.2, l⟩) [⟨p.1, Sl.Own e 1 (l.map U8).length p.2 (l.map U8), true⟩]
    rw [List.length_map]
    exact own_less rfl
theorem acc_ok {w0 w : World} {S : List Nat} {M : List Ent} {e : TypeId} {q : Acc} {l : List Bt} (hw : Holds w0 S (accE e q (l.map U8) ++ M) w) : (accS q l).ok w := by
  cases q with
  | none => exact nilS_ok w
  | some p =>
    have hw : Holds w0 S (⟨p.1, Sl.Own e 1 (l.map U8).length p.2 (l.map U8), true⟩ :: M) w := hw
    rw [List.length_map] at hw
    exact ownb_ok hw .here
theorem accE_wr (e : TypeId) (q : Acc) (xs : List Value) : ∀ x ∈ accE e q xs, x.wr = true := by
  intro x hx
  cases q with
  | none => cases hx
  | some p => rw [List.mem_singleton.1 hx]
section
variable {P : Program} {n : Nat} {w0 : World} {S : List Nat} {ops : Array Oper} {Q : Exit → Act → World → Prop} {l : List Oper} {E : Env} {M : List Ent} {d : Nat} {t tx e ty : TypeId} {pos : String} {aft : Array Edge} {x y : Operand}
theorem JL.appendN0 {i : TypeInfo} {ad : Option Addr} {sc : Nat} (hu : P.underlying t = some (.slice e)) (hi : P.info? e = some i) (hx : ev E x = some (.slice none 0 0)) (hy : ev E y = some (.slice ad 0 sc)) (hd : Nat.blt d n = true)
    (kk : JL P n w0 S ops Q l ((d, .slice none 0 0) :: E) M) : JL P n w0 S ops Q (⟨some d, .call ⟨.builtin .append, #[x, y], #[t, t]⟩, ty, pos, aft, none⟩ :: l) E M :=
  ⟨fun a w ha hw => wpList_plain rfl fun K hK => by
    unfold Oper.wp
    simp only [execOp, resolve, invoke, builtin, Sem.run_bind, Sem.run_pure, Result.andThen_ok, List.map_toArray, List.map_cons, List.map_nil, ha.eval hx, ha.eval hy]
    rw [append_none (_t' := t) hu hi (Nat.le_refl 0)]
    exact hK _ _ (kk.go _ _ (ha.put d _ hd) hw)⟩
/-- append onto nil, or onto a slice of the function's own -/
theorem JL.appendQ {z : Value} {by' m sc : Nat} {ad : Option Addr} {xs cs : List Value} (q : Acc) (hu : P.underlying t = some (.slice e)) (hi : EI P e z 1 by') (hq : q = none → xs = []) (hx : ev E x = some (accV q xs.length)) (hy : ev E y = some (.slice ad m sc))
    (hl : cs.length = m) (hr : ∀ w, Holds w0 S (accE e q xs ++ M) w → Reads w ad cs) (h1 : ∀ v ∈ cs, v.oneCell' = true)
    (hzz : z.cells.size = 1) (hsm : (xs.length + m) * by' ≤ 140737488355328) (hsm2 : xs.length + m < 9223372036854775808) (hd : Nat.blt d n = true)
    (kk : ∀ q' : Acc, (q' = none → xs ++ cs = []) → JL P n w0 S ops Q l ((d, accV q' (xs ++ cs).length) :: E) (accE e q' (xs ++ cs) ++ M)) : JL P n w0 S ops Q (⟨some d, .call ⟨.builtin .append, #[x, y], #[t, t]⟩, ty, pos, aft, none⟩ :: l) E (accE e q xs ++ M) := by
  subst hl
  cases q with
  | none =>
    obtain rfl := hq rfl
    cases cs with
    | nil =>
      obtain ⟨i, hi1, _⟩ := hi.get
      exact JL.appendN0 hu hi1 hx hy hd (kk none fun _ => rfl)
    | cons c cs =>
      refine JL.append_nil (cs := c :: cs) hu hi hx hy (by rw [Nat.mul_one]) hr (by simp) hzz (by decide) (by simpa using hsm) (by simpa using hsm2) hd fun b' cap' _ => ?_
      exact kk (some (b', cap')) (fun h => by cases h)
  | some p =>
    have e1 : (xs ++ cs).length = xs.length + cs.length := List.length_append
    refine JL.append (cs := cs) (b := p.1) (cap := p.2) (xs := xs) (fun b' cap' => accE e (some (b', cap')) (xs ++ cs) ++ M) hu hi hx hy (fun b' cap' => ?_) (by rw [Nat.mul_one]) hr h1 hzz (by decide) hsm hsm2 hd fun b' cap' => ?_
    · show Repl (⟨p.1, Sl.Own e 1 xs.length p.2 xs, true⟩ :: M) _ _ _ _ (⟨b', Sl.Own e 1 (xs ++ cs).length cap' (xs ++ cs), true⟩ :: M)
      rw [e1]
      exact .here
    · have := kk (some (b', cap')) (fun h => by cases h)
      show JL P n w0 S ops Q l ((d, .slice (some ⟨b', 0, none⟩) (xs.length + cs.length) cap') :: E) _
      rw [← e1]
      exact this
/-- append of a string's bytes onto nil, or onto a slice of the function's own -/
theorem JL.appendZ {r : List Bt} {xs : List Value} (q : Acc) (hu : P.underlying t = some (.slice e)) (hk : P.underlying tx = some .string) (hi : EI P e (.int .u8 0) 1 1) (hq : q = none → xs = []) (hx : ev E x = some (accV q xs.length)) (hy : ev E y = some (Z r)) (h0 : r ≠ [])
    (hsm : (xs.length + r.length) ≤ 140737488355328) (hd : Nat.blt d n = true)
    (kk : ∀ p : Nat × Nat, JL P n w0 S ops Q l ((d, accV (some p) (xs ++ r.map U8).length) :: E) (accE e (some p) (xs ++ r.map U8) ++ M)) : JL P n w0 S ops Q (⟨some d, .call ⟨.builtin .append, #[x, y], #[t, tx]⟩, ty, pos, aft, none⟩ :: l) E (accE e q xs ++ M) := by
  cases q with
  | none =>
    obtain rfl := hq rfl
    refine ⟨fun a w ha hw => wpList_plain rfl fun K hK => ?_⟩
    obtain ⟨i, hi1, hi2, hi3, hi4⟩ := hi.get
    have hpos : 0 < r.length := List.length_pos_iff.2 h0
    have hsrc : Src P i.size tx (Z r) r.length (r.map U8) w := by
      have := Src.ofString (P := P) w hk (strB r)
      rw [byteCells_strB, strB_size] at this
      rw [hi3]; exact this
    simp only [List.length_nil, Nat.zero_add] at hsm
    have hx' : a.eval x = .slice none 0 0 := ha.eval hx
    unfold Oper.wp
    simp only [execOp, resolve, invoke, builtin, Sem.run_bind, Sem.run_pure, Result.andThen_ok, List.map_toArray, List.map_cons, List.map_nil, hx', ha.eval hy]
    have hfit := growslice_fits (need := r.length) (old := 0) (bytes := 1) (by omega) (by omega)
    have hfo : (Builtin.firstCells i.size 0 (.slice none 0 0)).run P w.drew = .ok ([] : List Value).toArray w.drew := by simp [Builtin.firstCells]
    have hrun := run_append_grow_src (P := P) w t tx ty e i (.int .u8 0) hu hi1 hi2 none 0 0 [] hfo (Z r) r.length (r.map U8) hsrc (by omega) (by omega) (by rw [hi4, Nat.zero_add]; exact hfit)
    rw [hrun]
    simp only [Nat.zero_add]
    have hge := grownCap_ge w r.length 0 e
    generalize grownCap w r.length 0 e = nc at hge
    refine hK _ _ ?_
    have k := kk (w.heap.size, nc)
    have e1 : ([] ++ r.map U8 : List Value).length = r.length := by simp
    refine JL.go (E := (d, accV (some (w.heap.size, nc)) r.length) :: E) ?_ _ _ (ha.put d _ hd) (Holds.push hw (.cells (([] ++ r.map U8 : List Value).toArray ++ Builtin.zeroCells (Value.int .u8 0).cells (nc - r.length)) e) (A := Sl.Own e 1 r.length nc (r.map U8)) ?_ ?_ rfl rfl rfl)
    · rw [e1] at k
      have k2 : accE e (some (w.heap.size, nc)) ([] ++ r.map U8) ++ M = ⟨w.heap.size, Sl.Own e 1 r.length nc (r.map U8), true⟩ :: M := by
        show ⟨w.heap.size, Sl.Own e 1 ([] ++ r.map U8 : List Value).length nc ([] ++ r.map U8), true⟩ :: M = _
        rw [e1, List.nil_append]
      rw [k2] at k
      exact k
    · have h8 : (Builtin.zeroCells (Value.int .u8 0).cells (nc - r.length)).size = nc - r.length := by
        rw [show (Value.int .u8 0).cells = #[Value.int .u8 0] from rfl]; simp [Builtin.zeroCells]
      refine ⟨(Builtin.zeroCells (Value.int .u8 0).cells (nc - r.length)).toList, by simp, ?_, by simp, hge⟩
      simp only [List.length_append, Array.length_toList, h8, List.length_map]
      omega
    · rfl
  | some p =>
    have e1 : (xs ++ r.map U8).length = xs.length + r.length := by simp
    refine JL.appendS (b := p.1) (cap := p.2) (k := xs.length) (xs := xs) (fun b' cap' => accE e (some (b', cap')) (xs ++ r.map U8) ++ M) hu hk hi hx hy (fun b' cap' => ?_) hsm hd fun b' cap' => ?_
    · show Repl (⟨p.1, Sl.Own e 1 xs.length p.2 xs, true⟩ :: M) _ _ _ _ (⟨b', Sl.Own e 1 (xs ++ r.map U8).length cap' (xs ++ r.map U8), true⟩ :: M)
      rw [e1]
      exact .here
    · have := kk (b', cap')
      rw [e1] at this
      exact this
end
end Go.Proofs.YtdabhneehconeaaGreatDoor

/-
  Of no statement by itself: how the landed token reads values: comments, quoted texts, runs of bytes, ids: pure; no program stands here.
  Conditions: none but each lemma's own.
-/
namespace Go.Proofs.YtdabhneehconeaaGreatDoor
namespace Tok
open Fld
/-! ### comments: what is left of one, so many begun in it, so many bytes behind -/
def commR : List Fld.By → Nat → Nat → Except Nat Nat
  | [], _, _ => .error 3
  | c :: r, d, k =>
    if c = 40 then (if 8 < d then .error 5 else commR r (d + 1) (k + 1))
    else if c = 41 then (if d - 1 = 0 then .ok (k + 1) else commR r (d - 1) (k + 1))
    else if c = 92 then
      match r with
      | [] => .error 3
      | _ :: r' => commR r' d (k + 2)
    else commR r d (k + 1)
theorem comm_40 (r : List Fld.By) (d k : Nat) : commR (40 :: r) d k = if 8 < d then .error 5 else commR r (d + 1) (k + 1) := by
  rw [commR.eq_def]; rfl
theorem comm_41 (r : List Fld.By) (d k : Nat) : commR (41 :: r) d k = if d - 1 = 0 then .ok (k + 1) else commR r (d - 1) (k + 1) := by
  rw [commR.eq_def]; rfl
theorem comm_92e (d k : Nat) : commR [92] d k = .error 3 := by rw [commR.eq_def]; rfl
theorem comm_92 (c : Fld.By) (r : List Fld.By) (d k : Nat) : commR (92 :: c :: r) d k = commR r d (k + 2) := by
  conv => lhs; rw [commR.eq_def]
  rfl
theorem comm_c {c : Fld.By} (h1 : ¬ c = 40) (h2 : ¬ c = 41) (h3 : ¬ c = 92) (r : List Fld.By) (d k : Nat) : commR (c :: r) d k = commR r d (k + 1) := by
  conv => lhs; rw [commR.eq_def]
  dsimp only
  rw [if_neg h1, if_neg h2, if_neg h3]
theorem comm_e (d k : Nat) : commR [] d k = .error 3 := by rw [commR.eq_def]
/-- a comment is one blank -/
theorem comm_bare : ∀ (n : Nat) (r : List Fld.By) (d k : Nat) (o : List Fld.By), r.length ≤ n → 0 < d →
    (∀ e, commR r d k = .error e → bareR r d false o = ([], e)) ∧ (∀ m, commR r d k = .ok m → k < m ∧ m ≤ k + r.length ∧ bareR r d false o = bareR (r.drop (m - k)) 0 false (o ++ [32])) := by
  intro n
  induction n with
  | zero =>
    intro r d k o h hd
    obtain rfl : r = [] := List.eq_nil_of_length_eq_zero (by omega)
    rw [comm_e, bare_end]
    refine ⟨fun e he => ?_, fun m hm => by cases hm⟩
    cases he
    rw [decide_eq_true (by omega), Bool.true_or, if_pos rfl]
  | succ n ih =>
    intro r d k o h hd
    match r, h with
    | [], _ =>
      rw [comm_e, bare_end]
      refine ⟨fun e he => ?_, fun m hm => by cases hm⟩
      cases he
      rw [decide_eq_true (by omega), Bool.true_or, if_pos rfl]
    | c :: r, h =>
      simp only [List.length_cons] at h ⊢
      have step : ∀ (r' : List Fld.By) (j d' : Nat) (o' : List Fld.By), r'.length ≤ n → 0 < d' → (∀ x, (c :: r).drop (j + x) = r'.drop x) → j + r'.length = r.length + 1 → 0 < j → o' = o → bareR (c :: r) d false o = bareR r' d' false o' →
          commR (c :: r) d k = commR r' d' (k + j) →
          (∀ e, commR (c :: r) d k = .error e → bareR (c :: r) d false o = ([], e)) ∧ (∀ m, commR (c :: r) d k = .ok m → k < m ∧ m ≤ k + (r.length + 1) ∧ bareR (c :: r) d false o = bareR ((c :: r).drop (m - k)) 0 false (o ++ [32])) := by
        intro r' j d' o' hl hd' hdr hjl hj ho hb hc
        subst ho
        obtain ⟨i1, i2⟩ := ih r' d' (k + j) o' hl hd'
        rw [hb, hc]
        refine ⟨i1, fun m hm => ?_⟩
        obtain ⟨a1, a2, a3⟩ := i2 m hm
        refine ⟨by omega, by omega, ?_⟩
        rw [a3, show m - k = j + (m - (k + j)) by omega, hdr]
      by_cases h40 : c = 40
      · subst h40
        by_cases h8 : 8 < d
        · rw [comm_40, if_pos h8]
          refine ⟨fun e he => ?_, fun m hm => by cases hm⟩
          cases he
          rw [bare_40, if_pos (by omega)]
        · exact step r 1 (d + 1) o (by omega) (by omega) (fun x => by rw [Nat.add_comm]; rfl) (by omega) (by omega) rfl (by rw [bare_40, if_neg (by omega)]) (by rw [comm_40, if_neg h8])
      · by_cases h41 : c = 41
        · subst h41
          by_cases h1 : d - 1 = 0
          · rw [comm_41, if_pos h1]
            refine ⟨fun e he => by (cases he), fun m hm => ?_⟩
            cases hm
            refine ⟨by omega, by omega, ?_⟩
            rw [bare_41, if_neg (by omega), if_pos h1, h1, show k + 1 - k = 1 by omega]
            rfl
          · exact step r 1 (d - 1) o (by omega) (by omega) (fun x => by rw [Nat.add_comm]; rfl) (by omega) (by omega) rfl (by rw [bare_41, if_neg (by omega), if_neg h1]) (by rw [comm_41, if_neg h1])
        · by_cases h92 : c = 92
          · subst h92
            match r, h with
            | [], _ =>
              rw [comm_92e, bare_d92e hd]
              exact ⟨fun e he => by cases he; rfl, fun m hm => by cases hm⟩
            | c2 :: r, h =>
              simp only [List.length_cons] at h
              exact step r 2 d o (by omega) hd (fun x => by rw [Nat.add_comm]; rfl) (by simp only [List.length_cons]; omega) (by omega) rfl (bare_d92 hd c2 r o) (comm_92 c2 r d k)
          · exact step r 1 d o (by omega) hd (fun x => by rw [Nat.add_comm]; rfl) (by omega) (by omega) rfl (bare_s h92 h40 h41 (by omega) r o) (comm_c h40 h41 h92 r d k)
/-! ### quoted texts: behind their first sign, where they end; 0, if they don't -/
def quotR : List Fld.By → Nat → Nat
  | [], _ => 0
  | c :: r, k =>
    if c = 92 then
      match r with
      | [] => 0
      | _ :: r' => quotR r' (k + 2)
    else if c = 34 then k + 1 else quotR r (k + 1)
theorem quot_e (k : Nat) : quotR [] k = 0 := by rw [quotR.eq_def]
theorem quot_34 (r : List Fld.By) (k : Nat) : quotR (34 :: r) k = k + 1 := by rw [quotR.eq_def]; rfl
theorem quot_92e (k : Nat) : quotR [92] k = 0 := by rw [quotR.eq_def]; rfl
theorem quot_92 (c : Fld.By) (r : List Fld.By) (k : Nat) : quotR (92 :: c :: r) k = quotR r (k + 2) := by
  conv => lhs; rw [quotR.eq_def]
  rfl
theorem quot_c {c : Fld.By} (h1 : ¬ c = 34) (h2 : ¬ c = 92) (r : List Fld.By) (k : Nat) : quotR (c :: r) k = quotR r (k + 1) := by
  conv => lhs; rw [quotR.eq_def]
  dsimp only
  rw [if_neg h2, if_neg h1]
theorem quot_bare : ∀ (n : Nat) (r : List Fld.By) (k : Nat) (o : List Fld.By), r.length ≤ n →
    (quotR r k = 0 → bareR r 0 true o = ([], 3)) ∧ (quotR r k ≠ 0 → k < quotR r k ∧ quotR r k ≤ k + r.length ∧ bareR r 0 true o = bareR (r.drop (quotR r k - k)) 0 false (o ++ r.take (quotR r k - k))) := by
  intro n
  induction n with
  | zero =>
    intro r k o h
    obtain rfl : r = [] := List.eq_nil_of_length_eq_zero (by omega)
    rw [quot_e, bare_end]
    exact ⟨fun _ => rfl, fun h => absurd rfl h⟩
  | succ n ih =>
    intro r k o h
    match r, h with
    | [], _ =>
      rw [quot_e, bare_end]
      exact ⟨fun _ => rfl, fun h => absurd rfl h⟩
    | c :: r, h =>
      simp only [List.length_cons] at h ⊢
      by_cases h92 : c = 92
      · subst h92
        match r, h with
        | [], _ =>
          rw [quot_92e, bare_q92e]
          exact ⟨fun _ => rfl, fun h => absurd rfl h⟩
        | c2 :: r, h =>
          simp only [List.length_cons] at h ⊢
          obtain ⟨i1, i2⟩ := ih r (k + 2) (o ++ [92] ++ [c2]) (by omega)
          rw [quot_92, bare_q92]
          refine ⟨i1, fun hn => ?_⟩
          obtain ⟨a1, a2, a3⟩ := i2 hn
          refine ⟨by omega, by omega, ?_⟩
          rw [a3, show quotR r (k + 2) - k = (quotR r (k + 2) - (k + 2)) + 1 + 1 by omega, List.drop_succ_cons, List.drop_succ_cons, List.take_succ_cons, List.take_succ_cons]
          simp
      · by_cases h34 : c = 34
        · subst h34
          rw [quot_34]
          refine ⟨fun h => absurd h (by omega), fun _ => ⟨by omega, by omega, ?_⟩⟩
          rw [bare_q (by decide), show k + 1 - k = 0 + 1 by omega, List.drop_succ_cons, List.take_succ_cons]
          rfl
        · obtain ⟨i1, i2⟩ := ih r (k + 1) (o ++ [c]) (by omega)
          rw [quot_c h34 h92, bare_q h92]
          have hb : (!(c == 34)) = true := by
            rw [Bool.not_eq_true', beq_eq_false_iff_ne]
            exact h34
          rw [hb]
          refine ⟨i1, fun hn => ?_⟩
          obtain ⟨a1, a2, a3⟩ := i2 hn
          refine ⟨by omega, by omega, ?_⟩
          rw [a3, show quotR r (k + 1) - k = (quotR r (k + 1) - (k + 1)) + 1 by omega, List.drop_succ_cons, List.take_succ_cons]
          simp
/-! ### one step of Bare -/
theorem step_comm {r : List Fld.By} {e : Nat} (o : List Fld.By) (h : commR (40 :: r) 0 0 = .error e) : bareR (40 :: r) 0 false o = ([], e) := by
  rw [comm_40, if_neg (by omega)] at h
  rw [bare_40, if_neg (by omega)]
  exact (comm_bare r.length r 1 1 o (Nat.le_refl _) (by omega)).1 e h
theorem step_comm_ok {r : List Fld.By} {m : Nat} (o : List Fld.By) (h : commR (40 :: r) 0 0 = .ok m) : 0 < m ∧ m ≤ r.length + 1 ∧ bareR (40 :: r) 0 false o = bareR ((40 :: r).drop m) 0 false (o ++ [32]) := by
  rw [comm_40, if_neg (by omega)] at h
  rw [bare_40, if_neg (by omega)]
  obtain ⟨h1, h2, h3⟩ := (comm_bare r.length r 1 1 o (Nat.le_refl _) (by omega)).2 m h
  refine ⟨by omega, by omega, ?_⟩
  rw [h3]
  obtain ⟨m', rfl⟩ : ∃ m', m = m' + 1 := ⟨m - 1, by omega⟩
  rfl
theorem step_quot {r : List Fld.By} (o : List Fld.By) (h : quotR r 1 = 0) : bareR (34 :: r) 0 false o = ([], 3) := by
  rw [bare_0 (by decide) (by decide)]
  exact (quot_bare r.length r 1 _ (Nat.le_refl _)).1 h
theorem step_quot_ok {r : List Fld.By} (o : List Fld.By) (h : quotR r 1 ≠ 0) : 1 < quotR r 1 ∧ quotR r 1 ≤ r.length + 1 ∧ bareR (34 :: r) 0 false o = bareR ((34 :: r).drop (quotR r 1)) 0 false (o ++ (34 :: r).take (quotR r 1)) := by
  rw [bare_0 (by decide) (by decide)]
  obtain ⟨h1, h2, h3⟩ := (quot_bare r.length r 1 (o ++ [34]) (Nat.le_refl _)).2 h
  refine ⟨h1, by omega, ?_⟩
  show bareR r 0 true (o ++ [34]) = _
  rw [h3]
  generalize quotR r 1 = m at h1 ⊢
  obtain ⟨m', rfl⟩ : ∃ m', m = m' + 1 := ⟨m - 1, by omega⟩
  simp
/-! ### runs of bytes -/
def runB (p : Fld.By → Bool) (s : List Fld.By) : Nat := (s.takeWhile p).length
theorem runB_cons (p : Fld.By → Bool) (c : Fld.By) (s : List Fld.By) : runB p (c :: s) = if p c then runB p s + 1 else 0 := by
  unfold runB
  rw [List.takeWhile_cons]
  cases p c <;> simp
theorem runB_take (p : Fld.By → Bool) : ∀ s : List Fld.By, s.take (runB p s) = s.takeWhile p
  | [] => rfl
  | c :: s => by
    rw [runB_cons, List.takeWhile_cons]
    cases p c with
    | true => simp [runB_take p s]
    | false => simp
theorem runB_all (p : Fld.By → Bool) : ∀ s : List Fld.By, (runB p s = s.length) ↔ s.all p = true
  | [] => by simp [runB]
  | c :: s => by
    rw [runB_cons, List.all_cons, List.length_cons]
    have ih := runB_all p s
    cases p c with
    | true => simpa using ih
    | false => simp
theorem atom_run (s : List Fld.By) : atomB s = (decide (s ≠ []) && decide (runB plainB s = s.length)) := by
  unfold atomB
  rw [Bool.eq_iff_iff, Bool.and_eq_true, Bool.and_eq_true, decide_eq_true_eq, decide_eq_true_eq, decide_eq_true_eq, runB_all, List.length_pos_iff]
  exact and_comm
theorem simple_run (s : List Fld.By) : simpleB s = (decide (s ≠ []) && decide (runB looseB s = s.length)) := by
  unfold simpleB
  rw [Bool.eq_iff_iff, Bool.and_eq_true, Bool.and_eq_true, decide_eq_true_eq, decide_eq_true_eq, decide_eq_true_eq, runB_all, List.length_pos_iff]
  exact and_comm
/-! ### ids -/
end Tok
end Go.Proofs.YtdabhneehconeaaGreatDoor

/-
  Of no statement by itself: what the reference's in, Plain, Loose, Atom, Simple, Value and Lower (layer 10) give.
  Conditions: each theorem's own.
-/
namespace Go.Proofs.YtdabhneehconeaaGreatDoor
set_option maxRecDepth 10000
open Sl Fld Tok
theorem goes_rin : Goes Tryz.prog 160 := ⟨_, Tryz.func160, rfl, by kernel_rfl⟩
theorem goes_rplain : Goes Tryz.prog 111 := ⟨_, Tryz.func111, rfl, by kernel_rfl⟩
theorem goes_rlower : Goes Tryz.prog 65 := ⟨_, Tryz.func65, rfl, by kernel_rfl⟩
theorem idxAt10 {s : List Fld.By} {i : Nat} (h : i < s.length) {n : Nat} {E : Env} {C : World → Prop} {dst : Option Tmp} {ty : TypeId} {pos : String} {aft : Array Edge} {g : Option (Nat × Bool)} {x y : Operand} (hx : ev E x = some (Z s)) (hy : ev E y = some (N i)) : OQ Tryz.prog n E C ⟨dst, .index 9 x y, ty, pos, aft, g⟩ (U8 (s.getD i 0)) := OQ.idxZ Tryz.underlying9 hx hy h
theorem eq_nat (c d : Fld.By) : decide ((d.toNat : Int) = (c.toNat : Int)) = (d == c) := by
  by_cases h : d = c
  · subst h; simp
  · rw [decide_eq_false (by_ne h)]; simp [h]
set_option maxHeartbeats 8000000 in
theorem rin_any (c : Fld.By) (s : List Fld.By) (w : World) (hl : s.length < 9223372036854775808) : Calls Tryz.prog 160 [U8 c, Z s].toArray w fun e w' => e = .returned (.bool (inB c s)) ∧ Ext w w' := by
  refine enter (n := 17) Tryz.func160 rfl rfl rfl (Holds.start w []) ?_
  repeat (first | refine JL.q (by (apply OQ.assign; exact rfl)) rfl ?_ | refine JC.seq ?_ | refine JC.region ?_ | refine JC.block ?_ | refine JL.nil ?_ | refine JE.next ?_)
  refine JC.loop (fun i : Nat => [(0, U8 c), (1, Z s), (5, N i)]) (fun _ => []) (fun i => s.length - i) (fun i => i ≤ s.length ∧ inB c s = (s.drop i).any fun d => d == c) 0 ⟨Nat.zero_le _, rfl⟩ (by repeat (first | exact SubE.nil | refine SubE.cons _ _ _ rfl ?_)) (Less.refl _) ?_
  rintro i ⟨hi, ha⟩
  repeat (first | refine JL.q (by first | (apply OQ.lenS; exact Tryz.underlying9; exact rfl) | (apply OQ.move; exact rfl) | (apply OQ.lssN; exact rfl; exact rfl)) rfl ?_ | refine JC.seq ?_ | refine JC.region ?_ | refine JL.nil ?_ | refine JE.next ?_)
  refine JC.cond rfl (fun h => ?_) (fun h => ?_)
  · have hi' : i < s.length := of_decide_eq_true h
    clear h hi
    have hd : (s.drop i).any (fun d => d == c) = ((s.getD i 0 == c) || (s.drop (i + 1)).any fun d => d == c) := by
      rw [List.drop_eq_getElem_cons hi', List.any_cons, List.getD_eq_getElem?_getD, List.getElem?_eq_getElem hi']
      rfl
    have hidx := fun {n : Nat} {E : Env} {C : World → Prop} {dst : Option Tmp} {ty : TypeId} {pos : String} {aft : Array Edge} {g : Option (Nat × Bool)} {x y : Operand} => idxAt10 hi' (n := n) (E := E) (C := C) (dst := dst) (ty := ty) (pos := pos) (aft := aft) (g := g) (x := x) (y := y)
    have he := eq_nat c (s.getD i 0)
    generalize s.getD i 0 = d at hidx hd he
    cases h1 : decide ((d.toNat : Int) = (c.toNat : Int))
    all_goals (rw [h1] at he; rw [hd, ← he] at ha; repeat (first | refine JL.q (by first | (apply hidx; exact rfl; exact rfl) | (apply OQ.eqB; exact rfl; exact rfl; exact h1) | (apply OQ.move; exact rfl)) rfl ?_ | refine JC.seq ?_ | refine JC.region ?_ | refine JC.block ?_ | refine JC.skip ?_ | refine JL.nil ?_ | refine JE.next ?_))
    all_goals refine JC.cond rfl (fun h => ?_) (fun h => ?_)
    all_goals first | (exfalso; revert h; decide) | skip
    all_goals (clear h)
    · repeat (first | refine JL.q (by first | (apply OQ.move; exact rfl) | (apply OQ.assign; exact rfl) | (apply OQ.addN; exact rfl; exact rfl; exact (by (try simp only []); omega))) rfl ?_ | refine JC.region ?_ | refine JC.skip ?_ | refine JL.nil ?_ | refine JE.next ?_ | refine JE.blk_normal ?_)
      exact JE.again (i := i) (i + 1) ⟨hi', by rw [ha, Bool.false_or]⟩ (by omega) (by repeat (first | exact SubE.nil | refine SubE.cons _ _ _ rfl ?_)) (Less.refl _)
    · rw [ha, Bool.true_or]
      repeat (first | refine JL.q (by (apply OQ.assign; exact rfl)) rfl ?_ | refine JC.seq ?_ | refine JC.region ?_ | refine JL.nil ?_ | refine JE.next ?_)
      refine JC.ret ?_
      repeat (first | refine JE.then_ret ?_ | refine JE.blk_ret ?_)
      exact JE.ret1 rfl (RV.tmp rfl) fun w' hw => ⟨rfl, hw.chg⟩
  · have hi' : ¬ i < s.length := of_decide_eq_false h
    obtain rfl : i = s.length := by omega
    rw [List.drop_length] at ha
    rw [ha]
    repeat (first | refine JL.q (by (apply OQ.assign; exact rfl)) rfl ?_ | refine JC.seq ?_ | refine JC.region ?_ | refine JC.exit ?_ | refine JL.nil ?_ | refine JE.next ?_ | refine JE.then_exit ?_ | refine JE.blk_hit ?_)
    refine JC.ret ?_
    exact JE.ret1 rfl (RV.tmp rfl) fun w' hw => ⟨rfl, hw.chg⟩
theorem ge33 (c : Fld.By) : plainB c = (decide (33 ≤ (c.toNat : Int)) && decide ((c.toNat : Int) ≤ 126) && !inB c spec) := by
  unfold plainB
  congr 1
  congr 1
  · exact decide_eq_decide.2 (by omega)
  · exact decide_eq_decide.2 (by omega)
set_option maxHeartbeats 8000000 in
theorem rplain_any (c : Fld.By) (w : World) : Calls Tryz.prog 111 [U8 c].toArray w fun e w' => e = .returned (.bool (plainB c)) ∧ Ext w w' := by
  refine enter (n := 14) Tryz.func111 rfl rfl rfl (Holds.start w []) ?_
  have cI := fun w' => rin_any c spec w' (by decide)
  rw [ge33]
  generalize inB c spec = x at cI ⊢
  cases h1 : decide ((33 : Int) ≤ (c.toNat : Int)) <;> cases h2 : decide ((c.toNat : Int) ≤ 126) <;> cases h3 : x
  all_goals subst h3
  all_goals (repeat (first | refine JL.q (by first | (apply OQ.callb (vs := [U8 c, Z spec]); exact goes_rin; exact rfl; exact cI; exact rfl) | (apply OQ.geqB (b := 33); exact rfl; exact rfl; exact h1) | (apply OQ.leqB (b := 126); exact rfl; exact rfl; exact h2) | (apply OQ.not; exact rfl) | (apply OQ.pick_t; exact rfl; exact rfl) | (apply OQ.pick_f; exact rfl; exact rfl) | (apply OQ.move; exact rfl) | (apply OQ.assign; exact rfl)) rfl ?_ | refine JC.seq ?_ | refine JC.region ?_ | refine JL.nil ?_ | refine JE.next ?_ | refine JL.gon rfl rfl ?_ | refine JL.gskip rfl rfl rfl rfl ?_))
  all_goals exact JC.ret (JE.ret1 rfl (RV.tmp rfl) fun w' hw => ⟨rfl, hw.chg⟩)
set_option maxHeartbeats 8000000 in
theorem rlower_any (s : List Fld.By) (w : World) (hl : s.length < 140737488351233) : Calls Tryz.prog 65 [Z s].toArray w fun e w' => e = .returned (Z (s.map small)) ∧ Ext w w' := by
  refine enter (n := 30) Tryz.func65 rfl rfl rfl (Holds.start w []) ?_
  repeat (first | refine JL.q (by (apply OQ.assign; exact rfl)) rfl ?_ | refine JC.seq ?_ | refine JC.region ?_ | refine JL.nil ?_ | refine JE.next ?_)
  refine JL.lit0O Tryz.underlying22 u8e rfl fun b0 _ => ?_
  repeat (first | refine JL.q (by (apply OQ.assign; exact rfl)) rfl ?_ | refine JC.seq ?_ | refine JC.region ?_ | refine JC.block ?_ | refine JL.nil ?_ | refine JE.next ?_)
  refine JC.loop (fun q : Nat × Nat × Nat => [(0, Z s), (3, .slice (some ⟨q.2.1, 0, none⟩) q.1 q.2.2), (4, N q.1)]) (fun q => [⟨q.2.1, Sl.Own 5 1 q.1 q.2.2 (((s.take q.1).map small).map U8), true⟩]) (fun q => s.length - q.1) (fun q => q.1 ≤ s.length) (0, b0, 0) (Nat.zero_le _) (by repeat (first | exact SubE.nil | refine SubE.cons _ _ _ rfl ?_)) (Less.refl _) ?_
  rintro ⟨i, b, cap⟩ hi
  simp only at hi
  dsimp only
  repeat (first | refine JL.q (by first | (apply OQ.lenS; exact Tryz.underlying9; exact rfl) | (apply OQ.move; exact rfl) | (apply OQ.lssN; exact rfl; exact rfl)) rfl ?_ | refine JC.seq ?_ | refine JC.region ?_ | refine JL.nil ?_ | refine JE.next ?_)
  refine JC.cond rfl (fun h => ?_) (fun h => ?_)
  · have hi' : i < s.length := of_decide_eq_true h
    clear h hi
    have hx := take_succ_getD s hi'
    have hlen : ((s.take i).map small).length = i := by rw [List.length_map, List.length_take]; omega
    have hidx := fun {n : Nat} {E : Env} {C : World → Prop} {dst : Option Tmp} {ty : TypeId} {pos : String} {aft : Array Edge} {g : Option (Nat × Bool)} {x y : Operand} => idxAt10 hi' (n := n) (E := E) (C := C) (dst := dst) (ty := ty) (pos := pos) (aft := aft) (g := g) (x := x) (y := y)
    generalize s.getD i 0 = c at hx hidx
    have hs : small c = if decide ((65 : Int) ≤ (c.toNat : Int)) && decide ((c.toNat : Int) ≤ 90) then c + 32 else c := by
      unfold small
      by_cases h : 65 ≤ c.toNat ∧ c.toNat ≤ 90
      · rw [if_pos h, if_pos (by simp; omega)]
      · rw [if_neg h, if_neg (by simp; omega)]
    generalize hT : (s.take i).map small = T at hlen ⊢
    have hT2 : (s.take (i + 1)).map small = T ++ [small c] := by rw [hx, List.map_append, hT]; rfl
    generalize small c = d at hs hT2
    cases h1 : decide ((65 : Int) ≤ (c.toNat : Int)) <;> cases h2 : decide ((c.toNat : Int) ≤ 90)
    all_goals (
      rw [h1, h2] at hs
      (repeat (first | refine JL.q (by first | (apply hidx; exact rfl; exact rfl) | (apply OQ.geqB (b := 65); exact rfl; exact rfl; exact h1) | (apply OQ.leqB (b := 90); exact rfl; exact rfl; exact h2) | (apply OQ.pick_t; exact rfl; exact rfl) | (apply OQ.pick_f; exact rfl; exact rfl) | (apply OQ.move; exact rfl) | (apply OQ.assign; exact rfl)) rfl ?_ | refine JC.seq ?_ | refine JC.region ?_ | refine JC.block ?_ | refine JC.skip ?_ | refine JL.nil ?_ | refine JE.next ?_ | refine JL.gon rfl rfl ?_ | refine JL.gskip rfl rfl rfl rfl ?_))
      refine JC.join (ι := Unit) (fun _ => [(0, Z s), (3, .slice (some ⟨b, 0, none⟩) i cap), (4, N i), (5, U8 d)]) (fun _ => [⟨b, Sl.Own 5 1 i cap (T.map U8), true⟩]) (fun _ => True) ?_ ?_
      · subst hs
        refine JC.cond rfl (fun h => ?_) (fun h => ?_)
        all_goals first | (exfalso; revert h; decide) | skip
        all_goals (clear h; repeat (first | refine JL.q (by first | (apply OQ.add8 (b := 32#8); exact rfl; exact rfl) | (apply OQ.move; exact rfl) | (apply OQ.assign; exact rfl)) rfl ?_ | refine JC.region ?_ | refine JC.skip ?_ | refine JL.nil ?_))
        all_goals exact JE.mid () trivial (by repeat (first | exact SubE.nil | refine SubE.cons _ _ _ rfl ?_)) (Less.refl _)
      · rintro ⟨⟩ _
        (repeat (first | refine JL.q (by (apply OQ.move; exact rfl)) rfl ?_ | refine JC.region ?_))
        refine JL.push1 (xs := T.map U8) (fun b' cap' => [⟨b', Sl.Own 5 1 (i + 1) cap' (T.map U8 ++ [U8 d]), true⟩]) Tryz.underlying22 u8e rfl rfl rfl rfl (fun _ => rfl) (by intro _ _; repeat (first | exact Repl.here | apply Repl.there)) (by omega) (by omega) rfl rfl fun bl b' cap' => ?_
        (repeat (first | refine JL.q (by first | (apply OQ.move; exact rfl) | (apply OQ.assign; exact rfl) | (apply OQ.addN; exact rfl; exact rfl; exact (by (try simp only []); omega))) rfl ?_ | refine JC.region ?_ | refine JL.nil ?_ | refine JE.next ?_ | refine JE.blk_normal ?_))
        refine JE.again (i := (i, b, cap)) (i + 1, b', cap') hi' (by show s.length - (i + 1) < s.length - i; omega) (by repeat (first | exact SubE.nil | refine SubE.cons _ _ _ rfl ?_)) (.keep _ _ _ _ _ _ (fun o h => ?_) (.nil _))
        dsimp only
        rw [hT2, List.map_append]
        exact h)
  · have hi' : ¬ i < s.length := of_decide_eq_false h
    obtain rfl : i = s.length := by omega
    clear h hi hi'
    rw [List.take_length]
    have hY : s.length = (s.map small).length := (List.length_map _).symm
    generalize s.map small = Y at hY ⊢
    rw [hY]
    repeat (first | refine JL.q (by first | (apply OQ.b2s (s := ⟨some ⟨b, 0, none⟩, cap, Y⟩); exact Tryz.underlying22; exact Tryz.underlying5; exact Tryz.underlying9; exact rfl; exact (fun w' hw' => ownb_ok hw' .here)) | (apply OQ.move; exact rfl) | (apply OQ.assign; exact rfl)) rfl ?_ | refine JC.seq ?_ | refine JC.region ?_ | refine JC.exit ?_ | refine JL.nil ?_ | refine JE.next ?_ | refine JE.then_exit ?_ | refine JE.blk_hit ?_)
    refine JC.ret ?_
    skip
    exact JE.ret1 rfl (RV.tmp rfl) fun w' hw => ⟨rfl, hw.chg⟩
end Go.Proofs.YtdabhneehconeaaGreatDoor

/-
  Of no statement by itself: what the landed token's printed, run, made and Atom give.
  Conditions: each theorem's own.
-/
namespace Go.Proofs.YtdabhneehconeaaGreatDoor
set_option maxRecDepth 10000
open Sl Fld Tok
theorem OQ.eq8T {P : Program} {n : Nat} {E : Env} {C : World → Prop} {dst : Option Tmp} {t t' ty : TypeId} {pos : String} {aft : Array Edge} {g : Option (Nat × Bool)} {x y : Operand} {a b : BitVec 8} {c : Bool} (hx : ev E x = some (U8 a)) (hy : ev E y = some (U8 b)) (h : decide (a = b) = c) : OQ P n E C ⟨dst, .binOp .eql t x y t', ty, pos, aft, g⟩ (.bool c) := h ▸ OQ.eq8 hx hy
theorem strC1 : scal Tryz.prog 9 = true := by kernel_rfl
/-! ### printed signs, but some -/
def prB (but : List Fld.By) (c : Fld.By) : Bool := (decide ((33 : Int) ≤ (c.toNat : Int)) && decide ((c.toNat : Int) ≤ 126)) && decide (ixC c but < 0)
def notAtom : List Fld.By := [40, 41, 60, 62, 64, 44, 59, 92, 34, 91, 93, 61, 47, 58, 63, 46]
def notWord : List Fld.By := [40, 41, 60, 62, 64, 44, 59, 92, 34, 91, 93, 61]
theorem prB_atom : prB notAtom = plainB := by
  funext c
  have h : ∀ c : Fin 256, prB notAtom (BitVec.ofNat 8 c.val) = plainB (BitVec.ofNat 8 c.val) := by decide +kernel
  simpa using h ⟨c.toNat, c.isLt⟩
theorem prB_word : prB notWord = looseB := by
  funext c
  have h : ∀ c : Fin 256, prB notWord (BitVec.ofNat 8 c.val) = looseB (BitVec.ofNat 8 c.val) := by decide +kernel
  simpa using h ⟨c.toNat, c.isLt⟩
theorem goes_printed : Goes Tryz.prog 150 := ⟨_, Tryz.func150, rfl, by kernel_rfl⟩
theorem goes_printed1 : Goes Tryz.prog 201 := ⟨_, Tryz.func201, rfl, by kernel_rfl⟩
theorem goes_run : Goes Tryz.prog 149 := ⟨_, Tryz.func149, rfl, by kernel_rfl⟩
theorem goes_made : Goes Tryz.prog 186 := ⟨_, Tryz.func186, rfl, by kernel_rfl⟩
theorem goes_atomA : Goes Tryz.prog 130 := ⟨_, Tryz.func130, rfl, by kernel_rfl⟩
theorem goes_comment : Goes Tryz.prog 173 := ⟨_, Tryz.func173, rfl, by kernel_rfl⟩
theorem goes_quoted : Goes Tryz.prog 174 := ⟨_, Tryz.func174, rfl, by kernel_rfl⟩
theorem goes_bareA : Goes Tryz.prog 121 := ⟨_, Tryz.func121, rfl, by kernel_rfl⟩
set_option maxHeartbeats 4000000 in
theorem printed1_any (but : List Fld.By) (b : Nat) (c : Bt) (w : World) (hc : w.cell? ⟨b, 0, none⟩ = some (Z but)) : Calls Tryz.prog 201 [U8 c, Pt b 0].toArray w fun e w' => e = .returned (.bool (prB but c)) ∧ Ext w w' := by
  refine enter (n := 16) Tryz.func201 rfl rfl rfl (Holds.start w []) ?_
  unfold prB
  cases h1 : decide ((33 : Int) ≤ (c.toNat : Int)) <;> cases h2 : decide ((c.toNat : Int) ≤ 126) <;> cases h3 : decide (ixC c but < 0)
  all_goals (repeat (first | refine JL.q (by first | (apply OQ.geqB (b := 33); exact rfl; exact rfl; exact h1) | (apply OQ.leqB (b := 126); exact rfl; exact rfl; exact h2) | (apply OQ.load_old; exact strC1; exact rfl; exact (block_lt_of_cell hc); exact (by simp); exact hc) | (apply OQ.callx (vs := [Z but, U8 c]); exact goes_idxb; exact rfl; exact (fun w' _ => idxb_any but c w')) | (apply OQ.lssB (b := 0); exact rfl; exact rfl; exact h3) | (apply OQ.pick_t; exact rfl; exact rfl) | (apply OQ.pick_f; exact rfl; exact rfl) | (apply OQ.move; exact rfl) | (apply OQ.assign; exact rfl)) rfl ?_ | refine JC.seq ?_ | refine JC.region ?_ | refine JL.nil ?_ | refine JE.next ?_ | refine JL.gon rfl rfl ?_ | refine JL.gskip rfl rfl rfl rfl ?_))
  all_goals exact JC.ret (JE.ret1 rfl (RV.tmp rfl) fun w' hw => ⟨rfl, hw.chg⟩)
/-- the function value that tells printed signs -/
@[reducible] def prF (b : Nat) : Value := .func (.func 201) #[] [Pt b 0].toArray
theorem fun_printed {w0 w : World} {S : List Nat} {M : List Ent} {b : Nat} {but : List Fld.By} {wr : Bool} (hw : Holds w0 S M w) (hM : Has M b (Row 9 [Z but]) wr) : Fun8 Tryz.prog w (prF b) (prB but) := by
  refine ⟨_, [Pt b 0], rfl, goes_printed1, fun c w' hx => printed1_any but b c w' ?_⟩
  obtain ⟨o, ho, hA⟩ := hw.get hM
  have hlt : b < w.heap.size := hw.lt hM.mem
  exact cell_of ((hx.block b hlt (by simp)).trans ho) (Row.cell rfl o hA)
theorem printed_any (but : List Fld.By) (w : World) : Calls Tryz.prog 150 [Z but].toArray w fun e w' => ∃ b, e = .returned (prF b) ∧ Holds w [] [⟨b, Row 9 [Z but], true⟩] w' := by
  refine enter (n := 4) Tryz.func150 rfl rfl rfl (Holds.start w []) ?_
  refine JC.seq (JC.region (JL.box (r := [Z but]) rfl rfl rfl fun b _ => ?_))
  repeat (first | refine JL.q (by first | (apply OQ.mkF (caps := [Pt b 0]); exact rfl) | (apply OQ.assign; exact rfl)) rfl ?_ | refine JC.seq ?_ | refine JC.region ?_ | refine JL.nil ?_ | refine JE.next ?_)
  exact JC.ret (JE.ret1 rfl (RV.tmp rfl) fun w' hw => ⟨b, rfl, hw⟩)
set_option maxHeartbeats 4000000 in
theorem run_any (s : List Bt) (fv : Value) (p : Bt → Bool) (w : World) (hF : Fun8 Tryz.prog w fv p) (hl : s.length < 9223372036854775808) : Calls Tryz.prog 149 [Z s, fv].toArray w fun e w' => e = .returned (N (runB p s)) ∧ Ext w w' := by
  refine enter (n := 21) Tryz.func149 rfl rfl rfl (Holds.start w []) ?_
  repeat (first | refine JL.q (by first | (apply OQ.lenS; exact Tryz.underlying9; exact rfl) | (apply OQ.move; exact rfl) | (apply OQ.assign; exact rfl)) rfl ?_ | refine JC.seq ?_ | refine JC.region ?_ | refine JC.block ?_ | refine JL.nil ?_ | refine JE.next ?_)
  refine JC.loop (fun i : Nat => [(0, Z s), (1, fv), (7, N s.length), (8, N i)]) (fun _ => []) (fun i => s.length - i) (fun i => i ≤ s.length ∧ runB p s = i + runB p (s.drop i)) 0 ⟨Nat.zero_le _, by simp⟩ (by repeat (first | exact SubE.nil | refine SubE.cons _ _ _ rfl ?_)) (Less.refl _) ?_
  rintro i ⟨hi, ha⟩
  repeat (first | refine JL.q (by (apply OQ.lssN; exact rfl; exact rfl)) rfl ?_ | refine JC.seq ?_ | refine JC.region ?_ | refine JL.nil ?_ | refine JE.next ?_)
  refine JC.cond rfl (fun h => ?_) (fun h => ?_)
  · have hi' : i < s.length := of_decide_eq_true h
    clear h hi
    have hd : s.drop i = s.getD i 0 :: s.drop (i + 1) := by rw [List.drop_eq_getElem_cons hi', List.getD_eq_getElem?_getD, List.getElem?_eq_getElem hi']; rfl
    rw [hd, runB_cons] at ha
    have i0 := fun {n : Nat} {E : Env} {C : World → Prop} {dst : Option Tmp} {ty : TypeId} {pos : String} {aft : Array Edge} {g : Option (Nat × Bool)} {x y : Operand} => idxAt10 hi' (n := n) (E := E) (C := C) (dst := dst) (ty := ty) (pos := pos) (aft := aft) (g := g) (x := x) (y := y)
    generalize s.getD i 0 = c at ha i0
    cases h1 : p c
    · rw [h1, if_neg (by decide), Nat.add_zero] at ha
      rw [ha]
      repeat (first | refine JL.q (by first | (apply i0; exact rfl; exact rfl) | (apply OQ.callF; exact hF; exact rfl; exact rfl; exact h1) | (apply OQ.not; exact rfl) | (apply OQ.move; exact rfl) | (apply OQ.assign; exact rfl)) rfl ?_ | refine JC.seq ?_ | refine JC.region ?_ | refine JC.block ?_ | refine JC.skip ?_ | refine JL.nil ?_ | refine JE.next ?_)
      refine JC.cond rfl (fun _ => ?_) (fun h => by cases h)
      repeat (first | refine JL.q (by first | (apply OQ.move; exact rfl) | (apply OQ.assign; exact rfl)) rfl ?_ | refine JC.seq ?_ | refine JC.region ?_ | refine JL.nil ?_ | refine JE.next ?_)
      refine JC.ret ?_
      repeat (first | refine JE.then_ret ?_ | refine JE.blk_ret ?_)
      exact JE.ret1 rfl (RV.tmp rfl) fun w' hw => ⟨rfl, hw.chg⟩
    · rw [h1, if_pos rfl] at ha
      repeat (first | refine JL.q (by first | (apply i0; exact rfl; exact rfl) | (apply OQ.callF; exact hF; exact rfl; exact rfl; exact h1) | (apply OQ.not; exact rfl) | (apply OQ.move; exact rfl) | (apply OQ.assign; exact rfl)) rfl ?_ | refine JC.seq ?_ | refine JC.region ?_ | refine JC.block ?_ | refine JC.skip ?_ | refine JL.nil ?_ | refine JE.next ?_)
      refine JC.cond rfl (fun h => by cases h) (fun _ => ?_)
      repeat (first | refine JL.q (by first | (apply OQ.move; exact rfl) | (apply OQ.addN; exact rfl; exact rfl; exact (by (try simp only []); omega))) rfl ?_ | refine JC.region ?_ | refine JC.skip ?_ | refine JL.nil ?_ | refine JE.next ?_ | refine JE.blk_normal ?_)
      exact JE.again (i := i) (i + 1) ⟨hi', by omega⟩ (by omega) (by repeat (first | exact SubE.nil | refine SubE.cons _ _ _ rfl ?_)) (Less.refl _)
  · have hi' : ¬ i < s.length := of_decide_eq_false h
    obtain rfl : i = s.length := by omega
    clear h hi hi'
    rw [List.drop_length] at ha
    have : runB p s = s.length := ha
    rw [this]
    repeat (first | refine JL.q (by first | (apply OQ.lenS; exact Tryz.underlying9; exact rfl) | (apply OQ.move; exact rfl) | (apply OQ.assign; exact rfl)) rfl ?_ | refine JC.seq ?_ | refine JC.region ?_ | refine JC.exit ?_ | refine JL.nil ?_ | refine JE.next ?_ | refine JE.then_exit ?_ | refine JE.blk_hit ?_)
    refine JC.ret ?_
    exact JE.ret1 rfl (RV.tmp rfl) fun w' hw => ⟨rfl, hw.chg⟩
def madeB (p : Fld.By → Bool) (s : List Fld.By) : Bool := !decide (s = []) && decide ((runB p s : Int) = (s.length : Int))
set_option maxHeartbeats 4000000 in
theorem made_any (s : List Bt) (fv : Value) (p : Bt → Bool) (w : World) (hF : Fun8 Tryz.prog w fv p) (hl : s.length < 9223372036854775808) : Calls Tryz.prog 186 [Z s, fv].toArray w fun e w' => e = .returned (.bool (madeB p s)) ∧ Ext w w' := by
  refine enter (n := 15) Tryz.func186 rfl rfl rfl (Holds.start w []) ?_
  unfold madeB
  cases h1 : decide (s = []) <;> cases h2 : decide ((runB p s : Int) = (s.length : Int))
  all_goals (repeat (first | refine JL.q (by first | (apply OQ.neSB (r := []); exact rfl; exact rfl; exact h1) | (apply OQ.callx (vs := [Z s, fv]); exact goes_run; exact rfl; exact (fun w' hw' => run_any s fv p w' (hF.holds hw') hl)) | (apply OQ.lenS; exact Tryz.underlying9; exact rfl) | (apply OQ.eqB; exact rfl; exact rfl; exact h2) | (apply OQ.pick_t; exact rfl; exact rfl) | (apply OQ.pick_f; exact rfl; exact rfl) | (apply OQ.move; exact rfl) | (apply OQ.assign; exact rfl)) rfl ?_ | refine JC.seq ?_ | refine JC.region ?_ | refine JL.nil ?_ | refine JE.next ?_ | refine JL.gon rfl rfl ?_ | refine JL.gskip rfl rfl rfl rfl ?_))
  all_goals exact JC.ret (JE.ret1 rfl (RV.tmp rfl) fun w' hw => ⟨rfl, hw.chg⟩)
theorem made_atom (s : List Fld.By) : madeB (prB notAtom) s = atomB s := by
  rw [atom_run, prB_atom]
  unfold madeB
  congr 1
  · cases s <;> simp
  · exact decide_eq_decide.2 (by omega)
theorem made_word (s : List Fld.By) : madeB (prB notWord) s = simpleB s := by
  rw [simple_run, prB_word]
  unfold madeB
  congr 1
  · cases s <;> simp
  · exact decide_eq_decide.2 (by omega)
set_option maxHeartbeats 4000000 in
theorem atomA_any (s : List Bt) (w : World) (hl : s.length < 9223372036854775808) : Calls Tryz.prog 130 [Z s].toArray w fun e w' => e = .returned (.bool (atomB s)) ∧ Ext w w' := by
  refine enter (n := 6) Tryz.func130 rfl rfl rfl (Holds.start w []) ?_
  rw [← made_atom]
  repeat (first | refine JL.q (by first | (apply OQ.move; exact rfl) | (apply OQ.assign; exact rfl)) rfl ?_ | refine JC.seq ?_ | refine JC.region ?_ | refine JL.nil ?_ | refine JE.next ?_)
  refine JL.callg (ι := Nat) (vs := [Z notAtom]) prF (fun b => [⟨b, Row 9 [Z notAtom], true⟩]) goes_printed rfl rfl (fun b e he => by rw [List.mem_singleton.1 he]) (fun w' _ => printed_any notAtom w') fun b => ?_
  repeat (first | refine JL.q (by first | (apply OQ.callx (vs := [Z s, prF b]); exact goes_made; exact rfl; exact (fun w' hw' => made_any s (prF b) (prB notAtom) w' (fun_printed hw' .here) hl)) | (apply OQ.assign; exact rfl)) rfl ?_ | refine JL.nil ?_ | refine JE.next ?_)
  exact JC.ret (JE.ret1 rfl (RV.tmp rfl) fun w' hw => ⟨rfl, hw.chg⟩)
end Go.Proofs.YtdabhneehconeaaGreatDoor

/-
  Of no statement by itself: slices of pairs of strings (fields, parameters) as arguments and as answers.
  Conditions: each theorem's own.
-/
namespace Go.Proofs.YtdabhneehconeaaGreatDoor
set_option maxRecDepth 10000
open Sl
abbrev Pr := List Bt × List Bt
def pc (p : Pr) : List Value := [Z p.1, Z p.2]
structure Sl2 where
  ad : Option Addr
  cap : Nat
  l : List Pr
def Sl2.cells (s : Sl2) : List Value := s.l.flatMap pc
def Sl2.v (s : Sl2) : Value := .slice s.ad s.l.length s.cap
structure Sl2.ok (w : World) (s : Sl2) : Prop where
  len : s.l.length ≤ s.cap
  reads : Reads w s.ad s.cells
theorem Sl2.ok.holds {w0 w : World} {S : List Nat} {M : List Ent} {s : Sl2} (h : s.ok w0) (hw : Holds w0 S M w) (hS : S = []) : s.ok w := ⟨h.len, hw.reads h.reads (fun _ a _ => by rw [hS]; simp)⟩
theorem Sl2.ok.ext {w w' : World} {s : Sl2} (h : s.ok w) (hx : Ext w w') : s.ok w' := h.holds (⟨hx, by simp, by simp⟩ : Holds w [] [] w') rfl
def nil2 : Sl2 := ⟨none, 0, []⟩
theorem nil2_ok (w : World) : nil2.ok w := ⟨by simp [nil2], Reads.nil _ _⟩
theorem pc_at : ∀ (l : List Pr) {i : Nat}, i < l.length → (l.flatMap pc)[2 * i]? = some (Z (l.getD i ([], [])).1) ∧ (l.flatMap pc)[2 * i + 1]? = some (Z (l.getD i ([], [])).2)
  | [], i, h => by simp at h
  | p :: l, 0, _ => ⟨rfl, rfl⟩
  | p :: l, i + 1, h => by
    have := pc_at l (i := i) (by simpa using h)
    simp only [List.flatMap_cons, List.getD_cons_succ]
    rw [show 2 * (i + 1) = 2 * i + 2 by omega]
    exact this
theorem pc_len (l : List Pr) : (l.flatMap pc).length = 2 * l.length := by
  induction l with
  | nil => rfl
  | cons p l ih => simp only [List.flatMap_cons, List.length_append, ih, List.length_cons]; show 2 + _ = _; omega
/-- where a pair stands -/
theorem Sl2.ok.at {w : World} {s : Sl2} (h : s.ok w) {i : Nat} (hi : i < s.l.length) : ∃ b j, s.ad = some ⟨b, j, none⟩ ∧ b < w.heap.size ∧ w.cell? ⟨b, j + i * 2, none⟩ = some (Z (s.l.getD i ([], [])).1) ∧ w.cell? ⟨b, j + i * 2 + 1, none⟩ = some (Z (s.l.getD i ([], [])).2) := by
  obtain ⟨h1, h2⟩ := pc_at s.l hi
  obtain ⟨b, j, e1, c1⟩ := h.reads _ _ h1
  obtain ⟨b', j', e2, c2⟩ := h.reads _ _ h2
  rw [e1] at e2
  cases e2
  exact ⟨b, j, e1, block_lt_of_cell c1, by rw [Nat.mul_comm]; exact c1, by rw [Nat.mul_comm, Nat.add_assoc]; exact c2⟩
theorem pair_cells {w : World} {b j : Nat} {p : Pr} (h1 : w.cell? ⟨b, j, none⟩ = some (Z p.1)) (h2 : w.cell? ⟨b, j + 1, none⟩ = some (Z p.2)) : ∀ i u, (pc p)[i]? = some u → w.cell? ⟨b, j + i, none⟩ = some u := by
  intro i u hu
  match i with
  | 0 => cases hu; exact h1
  | 1 => cases hu; exact h2
  | i + 2 => simp [pc] at hu
section
variable {P : Program} {n : Nat} {E : Env} {C : World → Prop} {dst : Option Tmp} {t t' ty : TypeId} {pos : String} {aft : Array Edge} {g : Option (Nat × Bool)} {x y : Operand} {p q : Pr}
end
theorem strC : scal Tryz.prog 9 = true := by kernel_rfl
theorem strS : szT Tryz.prog 9 = some 1 := by kernel_rfl
def small2 (a : Sl2) : Prop := ∀ p ∈ a.l, p.1.length < 9223372036854775808 ∧ p.2.length < 9223372036854775808
theorem mem_getD {l : List Pr} {i : Nat} (h : i < l.length) : l.getD i ([], []) ∈ l := by
  rw [List.getD_eq_getElem?_getD, List.getElem?_eq_getElem h]
  exact List.getElem_mem h
end Go.Proofs.YtdabhneehconeaaGreatDoor

/-
  Of no statement by itself: slices of strings as answers; a slice of pairs, a slice of strings out of an entry.
  Conditions: each theorem's own.
-/
namespace Go.Proofs.YtdabhneehconeaaGreatDoor
set_option maxRecDepth 10000
open Sl
structure SlZ where
  ad : Option Addr
  cap : Nat
  l : List (List Bt)
def SlZ.cells (s : SlZ) : List Value := s.l.map Z
def SlZ.v (s : SlZ) : Value := .slice s.ad s.l.length s.cap
structure SlZ.ok (w : World) (s : SlZ) : Prop where
  len : s.l.length ≤ s.cap
  reads : Reads w s.ad s.cells
theorem SlZ.ok.holds {w0 w : World} {S : List Nat} {M : List Ent} {s : SlZ} (h : s.ok w0) (hw : Holds w0 S M w) (hS : S = []) : s.ok w := ⟨h.len, hw.reads h.reads (fun _ a _ => by rw [hS]; simp)⟩
theorem SlZ.ok.ext {w w' : World} {s : SlZ} (h : s.ok w) (hx : Ext w w') : s.ok w' := h.holds (⟨hx, by simp, by simp⟩ : Holds w [] [] w') rfl
theorem sl2_own {w0 w : World} {S : List Nat} {M : List Ent} {b k cap : Nat} {e : TypeId} {l : List Pr} {wr : Bool} (hw : Holds w0 S M w) (hM : Has M b (Sl.Own e 2 k cap (l.flatMap pc)) wr) : Sl2.ok w ⟨some ⟨b, 0, none⟩, cap, l⟩ := by
  obtain ⟨o, ho, hA⟩ := hw.get hM
  have hh := Sl.Own.cells _ hA
  obtain ⟨sp, rfl, h2, h3, h4⟩ := hA
  rw [pc_len] at h3
  exact ⟨by show l.length ≤ cap; omega, Reads.block ho hh⟩
theorem SlZ.ok.at {w : World} {s : SlZ} (h : s.ok w) (h0 : 0 < s.l.length) : ∃ b j, s.ad = some ⟨b, j, none⟩ ∧ b < w.heap.size ∧ ∀ i, i < s.l.length → w.cell? ⟨b, j + i, none⟩ = some (Z (s.l.getD i [])) := by
  obtain ⟨b, j, h1, h2⟩ := h.reads.at (by simpa [SlZ.cells] using h0)
  have hc : ∀ i, i < s.l.length → w.cell? ⟨b, j + i, none⟩ = some (Z (s.l.getD i [])) := fun i hi => h2 i _ (map_at Z [] hi)
  exact ⟨b, j, h1, block_lt_of_cell (hc 0 h0), hc⟩
/-! ### as new memory -/
def Sl2.ents (s : Sl2) : List Ent := match s.ad with
  | some a => [⟨a.block, fun o => hasCells o a.off s.cells ∧ s.l.length ≤ s.cap ∧ a.spot = none, true⟩]
  | none => []
theorem Sl2.ents_ok {s : Sl2} {w0 w : World} {S : List Nat} {M : List Ent} (h : Holds w0 S (s.ents ++ M) w) (h0 : s.ad = none → s.l = []) : s.ok w := by
  obtain ⟨ad, cap, l⟩ := s
  cases ad with
  | none =>
    have : l = [] := h0 rfl
    subst this
    exact ⟨by simp, Reads.nil _ _⟩
  | some a =>
    obtain ⟨o, ho, h1, h2, h3⟩ := h.get (b := a.block) (A := fun o => hasCells o a.off (l.flatMap pc) ∧ l.length ≤ cap ∧ a.spot = none) (wr := true) .here
    obtain ⟨b, j, sp⟩ := a
    simp only at h3
    subst h3
    exact ⟨h2, Reads.block ho h1⟩
theorem Sl2.ents_wr (s : Sl2) : ∀ e ∈ s.ents, e.wr = true := by
  intro e he
  unfold Sl2.ents at he
  split at he
  · rw [List.mem_singleton.1 he]
  · cases he
def SlZ.ents (s : SlZ) : List Ent := match s.ad with
  | some a => [⟨a.block, fun o => hasCells o a.off s.cells ∧ s.l.length ≤ s.cap ∧ a.spot = none, true⟩]
  | none => []
theorem own2_ents {M : List Ent} {b cap : Nat} {e : TypeId} {o : List Pr} : Less (Sl2.ents ⟨some ⟨b, 0, none⟩, cap, o⟩) (⟨b, Sl.Own e 2 o.length cap (o.flatMap pc), true⟩ :: M) := by
  refine .keep _ _ _ _ _ _ (fun ob hA => ?_) (.nil _)
  have hh := Sl.Own.cells _ hA
  obtain ⟨sp, rfl, h2, h3, h4⟩ := hA
  exact ⟨hh, h4, rfl⟩
/-- strings as an answer -/
structure Gz (A : List (List Bt)) where
  z : SlZ
  h : z.l = A
  n : z.ad = none → z.l = []
/-- pairs as an answer -/
structure G2 (A : List Pr) where
  z : Sl2
  h : z.l = A
  n : z.ad = none → z.l = []
/-- what was made stands, and is written no more -/
def cold (M : List Ent) : List Ent := M.map fun e => ⟨e.b, e.A, false⟩
theorem Holds.cold {w0 w : World} {S : List Nat} {M : List Ent} (h : Holds w0 S M w) : Holds w [] (cold M) w := by
  refine ⟨Chg.refl _ _, ?_, fun e he => ?_⟩
  · rw [Proofs.YtdabhneehconeaaGreatDoor.cold, List.map_map]
    exact h.nodup
  · obtain ⟨q, hq, rfl⟩ := List.mem_map.1 he
    exact ⟨(h.all q hq).1, nofun⟩
end Go.Proofs.YtdabhneehconeaaGreatDoor

/-
  Of no statement by itself: append of one pair of texts, or of one text, that a literal holds, onto nil or onto a slice of the function's own.
  Conditions: each rule's own hypotheses.
-/
namespace Go.Proofs.YtdabhneehconeaaGreatDoor
set_option maxRecDepth 10000
namespace Sl
theorem less_of_sub {N M : List Ent} (h : N.Sublist M) : Less N M := by
  induction h with
  | slnil => exact .nil _
  | cons a _ ih => exact .drop _ _ _ ih
  | cons_cons a _ ih => exact .keep _ _ _ _ _ _ (fun _ h => h) ih
section
variable {P : Program} {n : Nat} {w0 : World} {S : List Nat} {ops : Array Oper} {Q : Exit → Act → World → Prop} {l : List Oper} {E : Env} {M M' M0 : List Ent} {d : Nat} {t e ty : TypeId} {pos : String} {aft : Array Edge} {x y : Operand}
theorem Holds.perm' {w0 w : World} {S : List Nat} {M M' : List Ent} (hp : M.Perm M') (h : Holds w0 S M w) : Holds w0 S M' w :=
  h.sub ((hp.map Ent.b).nodup_iff.1 h.nodup) fun e he => hp.mem_iff.2 he
theorem JL.lessM (h : JL P n w0 S ops Q l E M') (hM : Less M' M) : JL P n w0 S ops Q l E M := ⟨fun a w ha hw => h.go a w ha (hw.weak hM)⟩
theorem JL.perm (h : JL P n w0 S ops Q l E M') (hp : M.Perm M') : JL P n w0 S ops Q l E M := ⟨fun a w ha hw => h.go a w ha (hw.perm' hp)⟩
theorem JC.lessM {c : Code} (h : JC P n w0 S Q c E M') (hM : Less M' M) : JC P n w0 S Q c E M := ⟨fun a w ha hw => h.go a w ha (hw.weak hM)⟩
def accP (e : TypeId) (q : Acc) (l : List Pr) : List Ent := match q with
  | none => []
  | some p => [⟨p.1, Sl.Own e 2 l.length p.2 (l.flatMap pc), true⟩]
def accLp (q : Acc) (l : List Pr) : Sl2 := match q with
  | none => nil2
  | some p => ⟨some ⟨p.1, 0, none⟩, p.2, l⟩
theorem accLp_v (q : Acc) (l : List Pr) : (accLp q l).v = accV q l.length := by cases q <;> rfl
theorem accLp_ok {w0 w : World} {S : List Nat} {M : List Ent} {e : TypeId} {q : Acc} {l : List Pr} (hw : Holds w0 S (accP e q l ++ M) w) : (accLp q l).ok w := by
  cases q with
  | none => exact nil2_ok w
  | some p => exact sl2_own hw .here
theorem pc_one {p : Pr} : ∀ v ∈ pc p, v.oneCell' = true := by
  intro v hv
  simp only [pc, List.mem_cons, List.not_mem_nil, or_false] at hv
  rcases hv with rfl | rfl <;> rfl
/-- one pair more -/
theorem JL.appendP {z : Value} {by' bl : Nat} {p : Pr} {L : List Pr} {ba : Ent} (q : Acc) (hu : P.underlying t = some (.slice e)) (hi : EI P e z 2 by') (hq : q = none → L = []) (hx : ev E x = some (accV q L.length)) (hy : ev E y = some (.slice (some ⟨bl, 0, none⟩) 1 1))
    (hzz : z.cells.size = 2) (hsm : (L.length + 1) * by' ≤ 140737488355328) (hsm2 : L.length + 1 < 9223372036854775808) (hd : Nat.blt d n = true)
    (kk : ∀ b' cap', JL P n w0 S ops Q l ((d, accV (some (b', cap')) (L ++ [p]).length) :: E) (accP e (some (b', cap')) (L ++ [p]) ++ M0)) :
    JL P n w0 S ops Q (⟨some d, .call ⟨.builtin .append, #[x, y], #[t, t]⟩, ty, pos, aft, none⟩ :: l) E (⟨bl, Row e (pc p), true⟩ :: ba :: (accP e q L ++ M0)) := by
  have hr : ∀ w, Holds w0 S (⟨bl, Row e (pc p), true⟩ :: ba :: (accP e q L ++ M0)) w → Reads w (some ⟨bl, 0, none⟩) (pc p) := fun w hw => by
    obtain ⟨o, ho, hA⟩ := hw.get (b := bl) (A := Row e (pc p)) (wr := true) .here
    exact Reads.block ho (Row.all _ hA)
  have eN : (L ++ [p]).length = L.length + 1 := List.length_append
  have eF : (L ++ [p]).flatMap pc = L.flatMap pc ++ pc p := by rw [List.flatMap_append]; simp
  cases q with
  | none =>
    obtain rfl := hq rfl
    refine JL.append_nil (cs := pc p) (m := 1) hu hi hx hy rfl hr (by decide) hzz (by decide) (by simpa using hsm) (by decide) hd fun b' cap' _ => ?_
    refine (kk b' cap').lessM ?_
    exact .keep _ _ _ _ _ _ (fun o h => h) (.drop _ _ _ (.drop _ _ _ (Less.refl _)))
  | some r =>
    refine JL.append (cs := pc p) (m := 1) (b := r.1) (cap := r.2) (k := L.length) (xs := L.flatMap pc) (fun b' cap' => ⟨bl, Row e (pc p), true⟩ :: ba :: (accP e (some (b', cap')) (L ++ [p]) ++ M0)) hu hi hx hy (fun b' cap' => ?_) rfl hr pc_one hzz (by decide) hsm hsm2 hd fun b' cap' => ?_
    · show Repl (_ :: ba :: ⟨r.1, Sl.Own e 2 L.length r.2 (L.flatMap pc), true⟩ :: M0) _ _ _ _ (_ :: ba :: ⟨b', Sl.Own e 2 (L ++ [p]).length cap' ((L ++ [p]).flatMap pc), true⟩ :: M0)
      rw [eN, eF]
      exact .there (.there .here)
    · have := kk b' cap'
      rw [show accV (some (b', cap')) (L ++ [p]).length = Value.slice (some ⟨b', 0, none⟩) (L.length + 1) cap' by rw [eN]; rfl] at this
      exact this.lessM (.drop _ _ _ (.drop _ _ _ (Less.refl _)))
end
end Sl
end Go.Proofs.YtdabhneehconeaaGreatDoor

/-
  Of no statement by itself: what the landed token's comment and quoted give.
  Conditions: each theorem's own.
-/
namespace Go.Proofs.YtdabhneehconeaaGreatDoor
set_option maxRecDepth 10000
open Sl Fld Tok
theorem accE_own {e : TypeId} (p : Nat × Nat) (o : List Bt) : accE e (some p) (o.map U8) = [⟨p.1, Sl.Own e 1 o.length p.2 (o.map U8), true⟩] := by
  show [(⟨p.1, Sl.Own e 1 (o.map U8).length p.2 (o.map U8), true⟩ : Ent)] = _
  rw [List.length_map]
theorem JC.scopeP {P : Program} {n : Nat} {w0 : World} {S : List Nat} {Q : Exit → Act → World → Prop} {E : Env} {M : List Ent} {ι : Type} (l : Nat) (Ei : ι → Env) (Mi : ι → List Ent) (μ : ι → Nat) (I : ι → Prop) {c rest : Code} (hf : findLabel c l = some (.seq .skip rest))
    (pass : ∀ i, I i → JC P n w0 S (Exit.jump l (Jmp n w0 S Ei Mi fun j => I j ∧ μ j < μ i) Q) rest (Ei i) (Mi i))
    (first : (∀ i, I i → JC P n w0 S (Exit.jump l (Jmp n w0 S Ei Mi I) Q) rest (Ei i) (Mi i)) → JC P n w0 S (Exit.jump l (Jmp n w0 S Ei Mi I) Q) c E M) : JC P n w0 S Q (.scope c) E M :=
  JC.scope l Ei Mi μ I hf (first fun i hi => (pass i hi).mono fun e a w hq => by
    cases e with
    | goto l' => exact ⟨hq.1, let ⟨j, h1, h2⟩ := hq.2; ⟨j, h1.1, h2⟩⟩
    | _ => exact hq) fun i hi => JC.seq (JC.skip (JE.next (pass i hi)))
/-! ### comments -/
def cmV (o : Except Nat Nat) : Value := match o with
  | .ok m => .tuple #[N m, N 0]
  | .error e => .tuple #[N 0, N e]
set_option maxHeartbeats 16000000 in
theorem comment_any (r : List Bt) (w : World) (hl : r.length < 9223372036854770000) : Calls Tryz.prog 173 [Z (40 :: r)].toArray w fun e w' => e = .returned (cmV (commR (40 :: r) 0 0)) ∧ Ext w w' := by
  refine enter (n := 32) Tryz.func173 rfl rfl rfl (Holds.start w []) ?_
  generalize hs : 40 :: r = s
  have hsl : s.length < 9223372036854770001 := by rw [← hs, List.length_cons]; omega
  have hs0 : s.getD 0 0 = 40 := by rw [← hs]; rfl
  clear hs
  repeat (refine JL.q (by fail) rfl ?_)
  refine JC.seq (JC.region ?_)
  repeat (refine JL.q (by (apply OQ.assign; exact rfl)) rfl ?_)
  refine JL.nil (JE.next ?_)
  refine JC.scopeP (ι := Nat × Nat) 0 (fun i => [(0, Z s), (4, N i.1), (5, N i.2)]) (fun _ => []) (fun i => s.length + 1 - i.1) (fun i => i.1 ≤ s.length + 1 ∧ i.2 ≤ 9 ∧ (0 < i.2 ∨ i.1 = 0) ∧ commR (s.drop i.1) i.2 i.1 = commR s 0 0) rfl ?_ ?_
  · rintro ⟨k, d⟩ ⟨hk, hd, h0, hc⟩
    dsimp only at hk hd h0 hc ⊢
    repeat (first | refine JL.q (by first | (apply OQ.lenS; exact Tryz.underlying9; exact rfl) | (apply OQ.move; exact rfl) | (apply OQ.geqN; exact rfl; exact rfl)) rfl ?_ | refine JC.seq ?_ | refine JC.region ?_ | refine JL.nil ?_ | refine JE.next ?_)
    refine JC.cond rfl (fun h => ?_) (fun h => ?_)
    · have hk' : s.length ≤ k := of_decide_eq_true h
      rw [List.drop_eq_nil_of_le hk', comm_e] at hc
      rw [← hc]
      repeat (first | refine JL.q (by (apply OQ.assign; exact rfl)) rfl ?_ | refine JC.seq ?_ | refine JC.region ?_ | refine JL.nil ?_ | refine JE.next ?_)
      refine JC.ret (JE.then_ret (JE.jump_ret ?_))
      exact JE.ret2 rfl (RV.tmp rfl) (RV.tmp rfl) fun w' hw => ⟨rfl, hw.chg⟩
    · have hk' : k < s.length := by have := of_decide_eq_false h; omega
      clear h hk
      have hdr : s.drop k = s.getD k 0 :: s.drop (k + 1) := by rw [List.drop_eq_getElem_cons hk', List.getD_eq_getElem?_getD, List.getElem?_eq_getElem hk']; rfl
      have h0' : 0 < d ∨ s.getD k 0 = 40 := h0.imp id fun h => by rw [h]; exact hs0
      clear h0
      rw [hdr] at hc
      have i0 := fun {n : Nat} {E : Env} {C : World → Prop} {dst : Option Tmp} {ty : TypeId} {pos : String} {aft : Array Edge} {g : Option (Nat × Bool)} {x y : Operand} => idxAt10 hk' (n := n) (E := E) (C := C) (dst := dst) (ty := ty) (pos := pos) (aft := aft) (g := g) (x := x) (y := y)
      generalize s.getD k 0 = c at hc i0 h0'
      cases h40 : decide (c = 40)
      · cases h41 : decide (c = 41)
        · cases h92 : decide (c = 92)
          · rw [comm_c (of_decide_eq_false h40) (of_decide_eq_false h41) (of_decide_eq_false h92)] at hc
            have hd0 : 0 < d := h0'.resolve_right (of_decide_eq_false h40)
            repeat (first | refine JL.q (by first | (apply i0; exact rfl; exact rfl) | (apply OQ.eq8T (b := 40); exact rfl; exact rfl; exact h40) | (apply OQ.move; exact rfl) | (apply OQ.assign; exact rfl)) rfl ?_ | refine JC.seq ?_ | refine JC.region ?_ | refine JC.block ?_ | refine JC.skip ?_ | refine JL.nil ?_ | refine JE.next ?_)
            refine JC.cond rfl (fun h => by cases h) (fun _ => ?_)
            repeat (first | refine JL.q (by first | (apply OQ.eq8T (b := 41); exact rfl; exact rfl; exact h41) | (apply OQ.assign; exact rfl)) rfl ?_ | refine JC.seq ?_ | refine JC.region ?_ | refine JL.nil ?_ | refine JE.next ?_)
            refine JC.cond rfl (fun h => by cases h) (fun _ => ?_)
            repeat (first | refine JL.q (by first | (apply OQ.eq8T (b := 92); exact rfl; exact rfl; exact h92) | (apply OQ.assign; exact rfl)) rfl ?_ | refine JC.seq ?_ | refine JC.region ?_ | refine JL.nil ?_ | refine JE.next ?_)
            refine JC.cond rfl (fun h => by cases h) (fun _ => ?_)
            repeat (first | refine JL.q (by first | (apply OQ.move; exact rfl) | (apply OQ.assign; exact rfl) | (apply OQ.addN; exact rfl; exact rfl; exact (by (try simp only []); omega)) | (apply OQ.gtrN; exact rfl; exact rfl)) rfl ?_ | refine JC.seq ?_ | refine JC.region ?_ | refine JC.skip ?_ | refine JL.nil ?_ | refine JE.next ?_ | refine JE.blk_normal ?_)
            refine JC.cond rfl (fun _ => JC.goto (JE.then_goto ?_)) (fun h => absurd hd0 (of_decide_eq_false h))
            exact JE.jump_to (k + 1, d) ⟨⟨by dsimp only; omega, hd, Or.inl hd0, hc⟩, by dsimp only; omega⟩ (by repeat (first | exact SubE.nil | refine SubE.cons _ _ _ rfl ?_)) (Less.refl _)
          · rw [of_decide_eq_true h92] at hc
            have hd0 : 0 < d := h0'.resolve_right (of_decide_eq_false h40)
            have hc' : commR (s.drop (k + 2)) d (k + 2) = commR s 0 0 := by
              by_cases he : k + 1 < s.length
              · have hdr' : s.drop (k + 1) = s.getD (k + 1) 0 :: s.drop (k + 2) := by rw [List.drop_eq_getElem_cons he, List.getD_eq_getElem?_getD, List.getElem?_eq_getElem he]; rfl
                rw [hdr', comm_92] at hc
                exact hc
              · rw [List.drop_eq_nil_of_le (by omega), comm_92e] at hc
                rw [List.drop_eq_nil_of_le (by omega), comm_e]
                exact hc
            repeat (first | refine JL.q (by first | (apply i0; exact rfl; exact rfl) | (apply OQ.eq8T (b := 40); exact rfl; exact rfl; exact h40) | (apply OQ.move; exact rfl) | (apply OQ.assign; exact rfl)) rfl ?_ | refine JC.seq ?_ | refine JC.region ?_ | refine JC.block ?_ | refine JC.skip ?_ | refine JL.nil ?_ | refine JE.next ?_)
            refine JC.cond rfl (fun h => by cases h) (fun _ => ?_)
            repeat (first | refine JL.q (by first | (apply OQ.eq8T (b := 41); exact rfl; exact rfl; exact h41) | (apply OQ.assign; exact rfl)) rfl ?_ | refine JC.seq ?_ | refine JC.region ?_ | refine JL.nil ?_ | refine JE.next ?_)
            refine JC.cond rfl (fun h => by cases h) (fun _ => ?_)
            repeat (first | refine JL.q (by first | (apply OQ.eq8T (b := 92); exact rfl; exact rfl; exact h92) | (apply OQ.assign; exact rfl)) rfl ?_ | refine JC.seq ?_ | refine JC.region ?_ | refine JL.nil ?_ | refine JE.next ?_)
            refine JC.cond rfl (fun _ => ?_) (fun h => by cases h)
            repeat (first | refine JL.q (by first | (apply OQ.move; exact rfl) | (apply OQ.assign; exact rfl) | (apply OQ.addN; exact rfl; exact rfl; exact (by (try simp only []); omega)) | (apply OQ.gtrN; exact rfl; exact rfl)) rfl ?_ | refine JC.seq ?_ | refine JC.region ?_ | refine JL.nil ?_ | refine JE.next ?_ | refine JE.blk_normal ?_)
            refine JC.cond rfl (fun _ => JC.goto (JE.then_goto ?_)) (fun h => absurd hd0 (of_decide_eq_false h))
            exact JE.jump_to (k + 2, d) ⟨⟨by dsimp only; omega, hd, Or.inl hd0, hc'⟩, by dsimp only; omega⟩ (by repeat (first | exact SubE.nil | refine SubE.cons _ _ _ rfl ?_)) (Less.refl _)
        · have h40' : ¬ c = 40 := of_decide_eq_false h40
          rw [of_decide_eq_true h41, comm_41] at hc
          have hd0 : 0 < d := h0'.resolve_right h40'
          repeat (first | refine JL.q (by first | (apply i0; exact rfl; exact rfl) | (apply OQ.eq8T (b := 40); exact rfl; exact rfl; exact h40) | (apply OQ.move; exact rfl) | (apply OQ.assign; exact rfl)) rfl ?_ | refine JC.seq ?_ | refine JC.region ?_ | refine JC.block ?_ | refine JC.skip ?_ | refine JL.nil ?_ | refine JE.next ?_)
          refine JC.cond rfl (fun h => by cases h) (fun _ => ?_)
          repeat (first | refine JL.q (by first | (apply OQ.eq8T (b := 41); exact rfl; exact rfl; exact h41) | (apply OQ.assign; exact rfl)) rfl ?_ | refine JC.seq ?_ | refine JC.region ?_ | refine JL.nil ?_ | refine JE.next ?_)
          refine JC.cond rfl (fun _ => ?_) (fun h => by cases h)
          repeat (first | refine JL.q (by first | (apply OQ.move; exact rfl) | (apply OQ.assign; exact rfl) | (apply OQ.addN; exact rfl; exact rfl; exact (by (try simp only []); omega)) | (apply OQ.subN; exact rfl; exact rfl; exact (by (try simp only []); omega); exact (by (try simp only []); omega)) | (apply OQ.gtrN; exact rfl; exact rfl)) rfl ?_ | refine JC.seq ?_ | refine JC.region ?_ | refine JL.nil ?_ | refine JE.next ?_ | refine JE.blk_normal ?_)
          refine JC.cond rfl (fun h => ?_) (fun h => ?_)
          · have hd1 : 0 < d - 1 := of_decide_eq_true h
            rw [if_neg (by omega)] at hc
            refine JC.goto (JE.then_goto ?_)
            exact JE.jump_to (k + 1, d - 1) ⟨⟨by dsimp only; omega, by dsimp only; omega, Or.inl hd1, hc⟩, by dsimp only; omega⟩ (by repeat (first | exact SubE.nil | refine SubE.cons _ _ _ rfl ?_)) (Less.refl _)
          · have hd1 : ¬ 0 < d - 1 := of_decide_eq_false h
            rw [if_pos (by omega)] at hc
            rw [← hc]
            repeat (first | refine JL.q (by first | (apply OQ.move; exact rfl) | (apply OQ.assign; exact rfl)) rfl ?_ | refine JC.seq ?_ | refine JC.region ?_ | refine JC.skip ?_ | refine JL.nil ?_ | refine JE.next ?_)
            refine JC.ret (JE.jump_ret ?_)
            exact JE.ret2 rfl (RV.tmp rfl) (RV.tmp rfl) fun w' hw => ⟨rfl, hw.chg⟩
      · rw [of_decide_eq_true h40, comm_40] at hc
        clear h0'
        by_cases h8 : 8 < d
        · rw [if_pos h8] at hc
          rw [← hc]
          repeat (first | refine JL.q (by first | (apply i0; exact rfl; exact rfl) | (apply OQ.eq8T (b := 40); exact rfl; exact rfl; exact h40) | (apply OQ.move; exact rfl) | (apply OQ.assign; exact rfl)) rfl ?_ | refine JC.seq ?_ | refine JC.region ?_ | refine JC.block ?_ | refine JC.skip ?_ | refine JL.nil ?_ | refine JE.next ?_)
          refine JC.cond rfl (fun _ => ?_) (fun h => by cases h)
          repeat (first | refine JL.q (by first | (apply OQ.move; exact rfl) | (apply OQ.gtrN; exact rfl; exact rfl)) rfl ?_ | refine JC.seq ?_ | refine JC.region ?_ | refine JL.nil ?_ | refine JE.next ?_)
          refine JC.cond rfl (fun _ => ?_) (fun h => absurd h8 (of_decide_eq_false h))
          repeat (first | refine JL.q (by (apply OQ.assign; exact rfl)) rfl ?_ | refine JC.seq ?_ | refine JC.region ?_ | refine JL.nil ?_ | refine JE.next ?_)
          refine JC.ret ?_
          repeat (first | refine JE.then_ret ?_ | refine JE.blk_ret ?_)
          refine JE.jump_ret ?_
          exact JE.ret2 rfl (RV.tmp rfl) (RV.tmp rfl) fun w' hw => ⟨rfl, hw.chg⟩
        · rw [if_neg h8] at hc
          repeat (first | refine JL.q (by first | (apply i0; exact rfl; exact rfl) | (apply OQ.eq8T (b := 40); exact rfl; exact rfl; exact h40) | (apply OQ.move; exact rfl) | (apply OQ.assign; exact rfl)) rfl ?_ | refine JC.seq ?_ | refine JC.region ?_ | refine JC.block ?_ | refine JC.skip ?_ | refine JL.nil ?_ | refine JE.next ?_)
          refine JC.cond rfl (fun _ => ?_) (fun h => by cases h)
          repeat (first | refine JL.q (by first | (apply OQ.move; exact rfl) | (apply OQ.gtrN; exact rfl; exact rfl)) rfl ?_ | refine JC.seq ?_ | refine JC.region ?_ | refine JL.nil ?_ | refine JE.next ?_)
          refine JC.cond rfl (fun h => absurd (of_decide_eq_true h) h8) (fun _ => ?_)
          repeat (first | refine JL.q (by first | (apply OQ.move; exact rfl) | (apply OQ.assign; exact rfl) | (apply OQ.addN; exact rfl; exact rfl; exact (by (try simp only []); omega)) | (apply OQ.gtrN; exact rfl; exact rfl)) rfl ?_ | refine JC.seq ?_ | refine JC.region ?_ | refine JC.skip ?_ | refine JL.nil ?_ | refine JE.next ?_ | refine JE.blk_normal ?_)
          refine JC.cond rfl (fun _ => JC.goto (JE.then_goto ?_)) (fun h => absurd (Nat.succ_pos d) (of_decide_eq_false h))
          exact JE.jump_to (k + 1, d + 1) ⟨⟨by dsimp only; omega, by dsimp only; omega, Or.inl (Nat.succ_pos d), hc⟩, by dsimp only; omega⟩ (by repeat (first | exact SubE.nil | refine SubE.cons _ _ _ rfl ?_)) (Less.refl _)
  · intro hp
    refine JC.seq (JC.region ?_)
    repeat (refine JL.q (by (apply OQ.assign; exact rfl)) rfl ?_)
    refine JL.nil (JE.next ?_)
    refine JC.seq (JC.region ?_)
    repeat (refine JL.q (by (apply OQ.assign; exact rfl)) rfl ?_)
    refine JL.nil (JE.next ?_)
    refine JC.seq (JC.label (JE.next ?_))
    exact (hp (0, 0) ⟨Nat.zero_le _, Nat.zero_le _, Or.inr rfl, rfl⟩).weak (by repeat (first | exact SubE.nil | refine SubE.cons _ _ _ rfl ?_)) (Less.refl _)
/-! ### quoted texts -/
set_option maxHeartbeats 16000000 in
theorem quoted_any (c0 : Bt) (r : List Bt) (w : World) (hl : r.length < 9223372036854770000) : Calls Tryz.prog 174 [Z (c0 :: r)].toArray w fun e w' => e = .returned (N (quotR r 1)) ∧ Ext w w' := by
  refine enter (n := 21) Tryz.func174 rfl rfl rfl (Holds.start w []) ?_
  rw [show quotR r 1 = quotR ((c0 :: r).drop 1) 1 from rfl]
  generalize hs : c0 :: r = s
  have hsl : s.length < 9223372036854770001 := by rw [← hs, List.length_cons]; omega
  clear hs
  repeat (first | refine JL.q (by (apply OQ.assign; exact rfl)) rfl ?_ | refine JC.seq ?_ | refine JC.region ?_ | refine JC.block ?_ | refine JL.nil ?_ | refine JE.next ?_)
  refine JC.loop (fun k : Nat => [(0, Z s), (3, N k)]) (fun _ => []) (fun k => s.length + 1 - k) (fun k => k ≤ s.length + 1 ∧ quotR (s.drop k) k = quotR (s.drop 1) 1) 1 ⟨by omega, rfl⟩ (by repeat (first | exact SubE.nil | refine SubE.cons _ _ _ rfl ?_)) (Less.refl _) ?_
  rintro k ⟨hk, hc⟩
  repeat (first | refine JL.q (by first | (apply OQ.lenS; exact Tryz.underlying9; exact rfl) | (apply OQ.move; exact rfl) | (apply OQ.lssN; exact rfl; exact rfl)) rfl ?_ | refine JC.seq ?_ | refine JC.region ?_ | refine JL.nil ?_ | refine JE.next ?_)
  refine JC.cond rfl (fun h => ?_) (fun h => ?_)
  · have hk' : k < s.length := of_decide_eq_true h
    clear h hk
    have hdr : s.drop k = s.getD k 0 :: s.drop (k + 1) := by rw [List.drop_eq_getElem_cons hk', List.getD_eq_getElem?_getD, List.getElem?_eq_getElem hk']; rfl
    rw [hdr] at hc
    have i0 := fun {n : Nat} {E : Env} {C : World → Prop} {dst : Option Tmp} {ty : TypeId} {pos : String} {aft : Array Edge} {g : Option (Nat × Bool)} {x y : Operand} => idxAt10 hk' (n := n) (E := E) (C := C) (dst := dst) (ty := ty) (pos := pos) (aft := aft) (g := g) (x := x) (y := y)
    generalize s.getD k 0 = c at hc i0
    cases h92 : decide (c = 92)
    · cases h34 : decide (c = 34)
      · rw [quot_c (of_decide_eq_false h34) (of_decide_eq_false h92)] at hc
        repeat (first | refine JL.q (by first | (apply i0; exact rfl; exact rfl) | (apply OQ.eq8T (b := 92); exact rfl; exact rfl; exact h92) | (apply OQ.move; exact rfl) | (apply OQ.assign; exact rfl)) rfl ?_ | refine JC.seq ?_ | refine JC.region ?_ | refine JC.block ?_ | refine JC.skip ?_ | refine JL.nil ?_ | refine JE.next ?_)
        refine JC.cond rfl (fun h => by cases h) (fun _ => ?_)
        repeat (first | refine JL.q (by first | (apply OQ.eq8T (b := 34); exact rfl; exact rfl; exact h34) | (apply OQ.assign; exact rfl)) rfl ?_ | refine JC.seq ?_ | refine JC.region ?_ | refine JL.nil ?_ | refine JE.next ?_)
        refine JC.cond rfl (fun h => by cases h) (fun _ => ?_)
        repeat (first | refine JL.q (by first | (apply OQ.move; exact rfl) | (apply OQ.assign; exact rfl) | (apply OQ.addN; exact rfl; exact rfl; exact (by (try simp only []); omega))) rfl ?_ | refine JC.region ?_ | refine JC.skip ?_ | refine JL.nil ?_ | refine JE.next ?_ | refine JE.blk_normal ?_)
        exact JE.again (i := k) (k + 1) ⟨by omega, hc⟩ (by omega) (by repeat (first | exact SubE.nil | refine SubE.cons _ _ _ rfl ?_)) (Less.refl _)
      · rw [of_decide_eq_true h34, quot_34] at hc
        rw [← hc]
        repeat (first | refine JL.q (by first | (apply i0; exact rfl; exact rfl) | (apply OQ.eq8T (b := 92); exact rfl; exact rfl; exact h92) | (apply OQ.move; exact rfl) | (apply OQ.assign; exact rfl)) rfl ?_ | refine JC.seq ?_ | refine JC.region ?_ | refine JC.block ?_ | refine JC.skip ?_ | refine JL.nil ?_ | refine JE.next ?_)
        refine JC.cond rfl (fun h => by cases h) (fun _ => ?_)
        repeat (first | refine JL.q (by first | (apply OQ.eq8T (b := 34); exact rfl; exact rfl; exact h34) | (apply OQ.assign; exact rfl)) rfl ?_ | refine JC.seq ?_ | refine JC.region ?_ | refine JL.nil ?_ | refine JE.next ?_)
        refine JC.cond rfl (fun _ => ?_) (fun h => by cases h)
        repeat (first | refine JL.q (by first | (apply OQ.move; exact rfl) | (apply OQ.assign; exact rfl) | (apply OQ.addN; exact rfl; exact rfl; exact (by (try simp only []); omega))) rfl ?_ | refine JC.seq ?_ | refine JC.region ?_ | refine JL.nil ?_ | refine JE.next ?_)
        refine JC.ret ?_
        repeat (first | refine JE.then_ret ?_ | refine JE.blk_ret ?_)
        exact JE.ret1 rfl (RV.tmp rfl) fun w' hw => ⟨rfl, hw.chg⟩
    · rw [of_decide_eq_true h92] at hc
      have hc' : quotR (s.drop (k + 2)) (k + 2) = quotR (s.drop 1) 1 := by
        by_cases he : k + 1 < s.length
        · have hdr' : s.drop (k + 1) = s.getD (k + 1) 0 :: s.drop (k + 2) := by rw [List.drop_eq_getElem_cons he, List.getD_eq_getElem?_getD, List.getElem?_eq_getElem he]; rfl
          rw [hdr', quot_92] at hc
          exact hc
        · rw [List.drop_eq_nil_of_le (by omega), quot_92e] at hc
          rw [List.drop_eq_nil_of_le (by omega), quot_e]
          exact hc
      repeat (first | refine JL.q (by first | (apply i0; exact rfl; exact rfl) | (apply OQ.eq8T (b := 92); exact rfl; exact rfl; exact h92) | (apply OQ.move; exact rfl) | (apply OQ.assign; exact rfl)) rfl ?_ | refine JC.seq ?_ | refine JC.region ?_ | refine JC.block ?_ | refine JC.skip ?_ | refine JL.nil ?_ | refine JE.next ?_)
      refine JC.cond rfl (fun _ => ?_) (fun h => by cases h)
      repeat (first | refine JL.q (by first | (apply OQ.move; exact rfl) | (apply OQ.assign; exact rfl) | (apply OQ.addN; exact rfl; exact rfl; exact (by (try simp only []); omega))) rfl ?_ | refine JC.region ?_ | refine JL.nil ?_ | refine JE.next ?_ | refine JE.blk_normal ?_)
      exact JE.again (i := k) (k + 2) ⟨by omega, hc'⟩ (by omega) (by repeat (first | exact SubE.nil | refine SubE.cons _ _ _ rfl ?_)) (Less.refl _)
  · have hk' : s.length ≤ k := by have := of_decide_eq_false h; omega
    rw [List.drop_eq_nil_of_le hk', quot_e] at hc
    rw [← hc]
    repeat (first | refine JL.q (by (apply OQ.assign; exact rfl)) rfl ?_ | refine JC.seq ?_ | refine JC.region ?_ | refine JC.exit ?_ | refine JL.nil ?_ | refine JE.next ?_ | refine JE.then_exit ?_ | refine JE.blk_hit ?_)
    refine JC.ret ?_
    exact JE.ret1 rfl (RV.tmp rfl) fun w' hw => ⟨rfl, hw.chg⟩
/-! ### Bare -/
def needBa : Nat → List (Nat × Nat)
  | 2 => [(0, 25), (1, 26)]
  | 5 => [(3, 28), (4, 29)]
  | 6 => [(2, 27)]
  | 7 => [(5, 30)]
  | _ => []
def inpBa : Nat → List Nat
  | 2 => [8, 1]
  | _ => []
def eatBa : Nat → List Nat
  | 2 => [8]
  | _ => []
def srcBa : Nat → Option Nat
  | 6 => some 2
  | _ => none
def needBb : Nat → List (Nat × Nat)
  | 3 => [(1, 40), (2, 41)]
  | 4 => [(0, 39), (3, 42)]
  | 7 => [(5, 44), (6, 45)]
  | 8 => [(4, 43)]
  | 9 => [(7, 46)]
  | _ => []
def inpBb : Nat → List Nat
  | 4 => [10]
  | _ => []
def eatBb : Nat → List Nat
  | 4 => [10]
  | _ => []
def srcBb : Nat → Option Nat
  | 8 => some 4
  | _ => none
theorem comm_err : ∀ (n : Nat) (r : List Fld.By) (d k e : Nat), r.length ≤ n → commR r d k = .error e → decide ((e : Int) = 0) = false := by
  intro n
  induction n with
  | zero =>
    intro r d k e h hc
    obtain rfl : r = [] := List.eq_nil_of_length_eq_zero (by omega)
    rw [comm_e] at hc
    cases hc
    rfl
  | succ n ih =>
    intro r d k e h hc
    match r, h with
    | [], _ =>
      rw [comm_e] at hc
      cases hc
      rfl
    | c :: r, h =>
      simp only [List.length_cons] at h
      by_cases h40 : c = 40
      · rw [h40, comm_40] at hc
        split at hc
        · cases hc
          rfl
        · exact ih _ _ _ _ (by omega) hc
      by_cases h41 : c = 41
      · rw [h41, comm_41] at hc
        split at hc
        · cases hc
        · exact ih _ _ _ _ (by omega) hc
      by_cases h92 : c = 92
      · rw [h92] at hc
        match r, h with
        | [], _ =>
          rw [comm_92e] at hc
          cases hc
          rfl
        | c2 :: r, h =>
          rw [comm_92] at hc
          simp only [List.length_cons] at h
          exact ih _ _ _ _ (by omega) hc
      · rw [comm_c h40 h41 h92] at hc
        exact ih _ _ _ _ (by omega) hc
structure BaS where
  r : List Bt
  o : List Bt
  b : Nat
  cap : Nat
set_option maxHeartbeats 32000000 in
theorem bareA_any (s : List Bt) (w : World) (hl : s.length < 140000000) : Calls Tryz.prog 121 [Z s].toArray w fun e w' => e = .returned (.tuple #[Z (bareB s).1, N (bareB s).2]) ∧ Ext w w' := by
  refine enter (n := 49) Tryz.func121 rfl rfl rfl (Holds.start w []) ?_
  repeat (first | refine JL.q (by first | (apply OQ.lenS; exact Tryz.underlying9; exact rfl) | (apply OQ.move; exact rfl) | (apply OQ.assign; exact rfl)) rfl ?_ | refine JC.seq ?_ | refine JC.region ?_ | refine JL.nil ?_ | refine JE.next ?_)
  refine JL.make0 (c := s.length) Tryz.underlying22 u8e rfl rfl (by omega) rfl fun b0 _ => ?_
  repeat (first | refine JL.q (by (apply OQ.assign; exact rfl)) rfl ?_ | refine JC.seq ?_ | refine JC.block ?_ | refine JL.nil ?_ | refine JE.next ?_)
  refine JC.loop (fun z : BaS => [(0, Z z.r), (4, .slice (some ⟨z.b, 0, none⟩) z.o.length z.cap)]) (fun z => [⟨z.b, Sl.Own 5 1 z.o.length z.cap (z.o.map U8), true⟩]) (fun z => z.r.length) (fun z => z.r.length + z.o.length ≤ s.length ∧ bareB s = bareR z.r 0 false z.o) ⟨s, [], b0, s.length⟩ ⟨Nat.le_refl _, rfl⟩ (by repeat (first | exact SubE.nil | refine SubE.cons _ _ _ rfl ?_)) (Less.refl _) ?_
  rintro ⟨r, o, b, cap⟩ ⟨hlen, hc⟩
  dsimp only at hlen hc ⊢
  cases hr0 : decide (r = [])
  · obtain ⟨c, r, rfl⟩ : ∃ c r', r = c :: r' := by
      cases r with
      | nil => cases hr0
      | cons c r => exact ⟨c, r, rfl⟩
    have hrl : r.length + 1 + o.length ≤ s.length := by rw [List.length_cons] at hlen; exact hlen
    have i0 := fun {n : Nat} {E : Env} {C : World → Prop} {dst : Option Tmp} {ty : TypeId} {pos : String} {aft : Array Edge} {g : Option (Nat × Bool)} {x y : Operand} => idxAt10 (s := c :: r) (i := 0) (Nat.succ_pos _) (n := n) (E := E) (C := C) (dst := dst) (ty := ty) (pos := pos) (aft := aft) (g := g) (x := x) (y := y)
    rw [List.getD_cons_zero] at i0
    repeat (first | refine JL.q (by first | (apply OQ.neSB (r := []); exact rfl; exact rfl; exact hr0) | (apply OQ.move; exact rfl)) rfl ?_ | refine JC.seq ?_ | refine JC.region ?_ | refine JL.nil ?_ | refine JE.next ?_)
    refine JC.cond rfl (fun _ => ?_) (fun h => by cases h)
    cases h40 : decide (c = 40)
    · cases h41 : decide (c = 41)
      · cases h34 : decide (c = 34)
        · rw [bare_0 (of_decide_eq_false h40) (of_decide_eq_false h41), show (c == 34) = false from beq_eq_false_iff_ne.2 (of_decide_eq_false h34)] at hc
          replace hc : bareB s = bareR ((c :: r).drop 1) 0 false (o ++ (c :: r).take 1) := hc
          repeat (first | refine JL.q (by first | (apply i0; exact rfl; exact rfl) | (apply OQ.eq8T (b := 40); exact rfl; exact rfl; exact h40) | (apply OQ.move; exact rfl) | (apply OQ.assign; exact rfl)) rfl ?_ | refine JC.seq ?_ | refine JC.region ?_ | refine JC.block ?_ | refine JC.skip ?_ | refine JL.nil ?_ | refine JE.next ?_)
          refine JC.cond rfl (fun h => by cases h) (fun _ => ?_)
          repeat (first | refine JL.q (by first | (apply OQ.eq8T (b := 41); exact rfl; exact rfl; exact h41) | (apply OQ.assign; exact rfl)) rfl ?_ | refine JC.seq ?_ | refine JC.region ?_ | refine JL.nil ?_ | refine JE.next ?_)
          refine JC.cond rfl (fun h => by cases h) (fun _ => ?_)
          repeat (first | refine JL.q (by first | (apply OQ.eq8T (b := 34); exact rfl; exact rfl; exact h34) | (apply OQ.assign; exact rfl)) rfl ?_ | refine JC.seq ?_ | refine JC.region ?_ | refine JL.nil ?_ | refine JE.next ?_)
          refine JC.cond rfl (fun h => by cases h) (fun _ => ?_)
          repeat (first | refine JC.skip ?_ | refine JE.next ?_ | refine JE.blk_normal ?_)
          have hml : ((c :: r).take 1).length = 1 := by rw [List.length_take, List.length_cons]; omega
          have hdl : ((c :: r).drop 1).length = r.length + 1 - 1 := by rw [List.length_drop, List.length_cons]
          have hne : (c :: r).take 1 ≠ [] := fun h => by rw [h] at hml; rw [List.length_nil] at hml; omega
          have hlm : 1 ≤ (c :: r).length := by rw [List.length_cons]; omega
          let vs : Nat → X → Value := fun j x => match j with
            | 0 => .slice (some ⟨b, 0, none⟩) o.length cap
            | 1 => Z (c :: r)
            | 2 => N 1
            | 3 => Z ((c :: r).take 1)
            | 5 => Z (c :: r)
            | 6 => N 1
            | 7 => Z ((c :: r).drop 1)
            | 9 => Z ((c :: r).drop 1)
            | _ => .slice (some ⟨x.1, 0, none⟩) (o ++ (c :: r).take 1).length x.2
          let Ms : Nat → X → List Ent := fun j x => match j with
            | 4 => [⟨x.1, Sl.Own 5 1 (o ++ (c :: r).take 1).length x.2 ((o ++ (c :: r).take 1).map U8), true⟩]
            | 10 => [⟨b, Sl.Own 5 1 o.length cap (o.map U8), true⟩]
            | _ => []
          refine JC.growO (g := ⟨[(5, N 1)], 11, vs, Ms, needBb, inpBb, eatBb, srcBb, fun j => match j with | 0 => [(4, .slice (some ⟨b, 0, none⟩) o.length cap)] | 1 => [(0, Z (c :: r))] | 5 => [(0, Z (c :: r))] | _ => []⟩) [(8, 4), (9, 0)] [4] mixT (by repeat (first | exact SubE.nil | refine SubE.cons _ _ _ rfl ?_)) (fun j _ => match j with | 0 => (by repeat (first | exact SubE.nil | refine SubE.cons _ _ _ rfl ?_)) | 1 => (by repeat (first | exact SubE.nil | refine SubE.cons _ _ _ rfl ?_)) | 2 => .nil | 3 => .nil | 4 => .nil | 5 => (by repeat (first | exact SubE.nil | refine SubE.cons _ _ _ rfl ?_)) | _ + 6 => .nil) (Less.refl _) (by kernel_rfl) (by kernel_rfl) (by kernel_rfl) ?_ ?_
          · refine ⟨?_, ?_, ?_, ?_, ?_, ?_, ?_, ?_, ?_, ?_, trivial⟩
            iterate 4 (focus (intro x EF MF Q kk; (try refine JL.gon rfl rfl ?_); exact JL.q (by first | (apply OQ.subS_hi; exact Tryz.underlying9; exact rfl; exact rfl; exact hlm) | (apply OQ.move; exact rfl)) rfl (JL.nil (kk default nofun))))
            · intro x EF MF Q kk
              refine JL.lessM (M' := accE 5 (some (b, cap)) (o.map U8) ++ MF) ?_ (by show Less ([⟨b, Sl.Own 5 1 (o.map U8).length cap (o.map U8), true⟩] ++ MF) _; rw [List.length_map]; exact Less.refl _)
              refine JL.appendZ (r := (c :: r).take 1) (xs := o.map U8) (M := MF) (some (b, cap)) Tryz.underlying22 Tryz.underlying9 u8e (fun h => by cases h) (by rw [List.length_map]; rfl) rfl hne (by rw [List.length_map]; omega) rfl fun p => JL.nil ?_
              rw [← List.map_append, List.length_map, accE_own]
              exact kk p (fun k h => by cases h)
            iterate 3 (focus (intro x EF MF Q kk; (try refine JL.gon rfl rfl ?_); exact JL.q (by first | (apply OQ.subS_lo; exact Tryz.underlying9; exact rfl; exact rfl; exact hlm) | (apply OQ.move; exact rfl)) rfl (JL.nil (kk default nofun))))
            · intro x EF MF Q kk
              exact JL.q (OQ.assign rfl) rfl (JL.nil (kk (x 4) (fun k h => by cases h; rfl)))
            · (intro x EF MF Q kk; (try refine JL.gon rfl rfl ?_); exact JL.q (by (apply OQ.assign; exact rfl)) rfl (JL.nil (kk default nofun)))
          · intro x hx'
            have h84 := hx' 8 4 (by decide) rfl
            show JE _ _ _ _ _ [(4, .slice (some ⟨(x 8).1, 0, none⟩) (o ++ (c :: r).take 1).length (x 8).2), (0, Z ((c :: r).drop 1)), (5, N 1)] [⟨(x 4).1, Sl.Own 5 1 (o ++ (c :: r).take 1).length (x 4).2 ((o ++ (c :: r).take 1).map U8), true⟩]
            rw [h84]
            obtain ⟨b', cap'⟩ := x 4
            clear hx' h84 x vs Ms
            dsimp only
            repeat (refine JE.blk_normal ?_)
            exact JE.again (i := BaS.mk (c :: r) o b cap) (BaS.mk ((c :: r).drop 1) (o ++ (c :: r).take 1) b' cap') ⟨by dsimp only; rw [List.length_append]; omega, hc⟩ (by dsimp only; rw [List.length_cons]; omega) (by repeat (first | exact SubE.nil | refine SubE.cons _ _ _ rfl ?_)) (Less.refl _)
        · obtain rfl : c = 34 := of_decide_eq_true h34
          have cQ := fun w' => quoted_any 34 r w' (by omega)
          cases hq : decide ((quotR r 1 : Int) = 0)
          · have hqn : quotR r 1 ≠ 0 := by have := of_decide_eq_false hq; omega
            obtain ⟨m0, m1, hb⟩ := step_quot_ok o hqn
            rw [hb] at hc
            generalize quotR r 1 = m at cQ hq m0 m1 hc
            clear hb hqn
            repeat (first | refine JL.q (by first | (apply i0; exact rfl; exact rfl) | (apply OQ.eq8T (b := 40); exact rfl; exact rfl; exact h40) | (apply OQ.move; exact rfl) | (apply OQ.assign; exact rfl)) rfl ?_ | refine JC.seq ?_ | refine JC.region ?_ | refine JC.block ?_ | refine JC.skip ?_ | refine JL.nil ?_ | refine JE.next ?_)
            refine JC.cond rfl (fun h => by cases h) (fun _ => ?_)
            repeat (first | refine JL.q (by first | (apply OQ.eq8T (b := 41); exact rfl; exact rfl; exact h41) | (apply OQ.assign; exact rfl)) rfl ?_ | refine JC.seq ?_ | refine JC.region ?_ | refine JL.nil ?_ | refine JE.next ?_)
            refine JC.cond rfl (fun h => by cases h) (fun _ => ?_)
            repeat (first | refine JL.q (by first | (apply OQ.eq8T (b := 34); exact rfl; exact rfl; exact h34) | (apply OQ.assign; exact rfl)) rfl ?_ | refine JC.seq ?_ | refine JC.region ?_ | refine JL.nil ?_ | refine JE.next ?_)
            refine JC.cond rfl (fun _ => ?_) (fun h => by cases h)
            repeat (first | refine JL.q (by first | (apply OQ.callx (vs := [Z (34 :: r)]); exact goes_quoted; exact rfl; exact (fun w' _ => cQ w')) | (apply OQ.eqB (b := 0); exact rfl; exact rfl; exact hq) | (apply OQ.move; exact rfl) | (apply OQ.assign; exact rfl)) rfl ?_ | refine JC.seq ?_ | refine JC.region ?_ | refine JL.nil ?_ | refine JE.next ?_)
            refine JC.cond rfl (fun h => by cases h) (fun _ => ?_)
            repeat (first | refine JC.skip ?_ | refine JE.next ?_ | refine JE.blk_normal ?_)
            have hml : ((34 :: r).take m).length = m := by rw [List.length_take, List.length_cons]; omega
            have hdl : ((34 :: r).drop m).length = r.length + 1 - m := by rw [List.length_drop, List.length_cons]
            have hne : (34 :: r).take m ≠ [] := fun h => by rw [h] at hml; rw [List.length_nil] at hml; omega
            have hlm : m ≤ (34 :: r).length := by rw [List.length_cons]; omega
            let vs : Nat → X → Value := fun j x => match j with
              | 0 => .slice (some ⟨b, 0, none⟩) o.length cap
              | 1 => Z (34 :: r)
              | 2 => N m
              | 3 => Z ((34 :: r).take m)
              | 5 => Z (34 :: r)
              | 6 => N m
              | 7 => Z ((34 :: r).drop m)
              | 9 => Z ((34 :: r).drop m)
              | _ => .slice (some ⟨x.1, 0, none⟩) (o ++ (34 :: r).take m).length x.2
            let Ms : Nat → X → List Ent := fun j x => match j with
              | 4 => [⟨x.1, Sl.Own 5 1 (o ++ (34 :: r).take m).length x.2 ((o ++ (34 :: r).take m).map U8), true⟩]
              | 10 => [⟨b, Sl.Own 5 1 o.length cap (o.map U8), true⟩]
              | _ => []
            refine JC.growO (g := ⟨[(5, N m)], 11, vs, Ms, needBb, inpBb, eatBb, srcBb, fun j => match j with | 0 => [(4, .slice (some ⟨b, 0, none⟩) o.length cap)] | 1 => [(0, Z (34 :: r))] | 5 => [(0, Z (34 :: r))] | _ => []⟩) [(8, 4), (9, 0)] [4] mixT (by repeat (first | exact SubE.nil | refine SubE.cons _ _ _ rfl ?_)) (fun j _ => match j with | 0 => (by repeat (first | exact SubE.nil | refine SubE.cons _ _ _ rfl ?_)) | 1 => (by repeat (first | exact SubE.nil | refine SubE.cons _ _ _ rfl ?_)) | 2 => .nil | 3 => .nil | 4 => .nil | 5 => (by repeat (first | exact SubE.nil | refine SubE.cons _ _ _ rfl ?_)) | _ + 6 => .nil) (Less.refl _) (by kernel_rfl) (by kernel_rfl) (by kernel_rfl) ?_ ?_
            · refine ⟨?_, ?_, ?_, ?_, ?_, ?_, ?_, ?_, ?_, ?_, trivial⟩
              iterate 4 (focus (intro x EF MF Q kk; (try refine JL.gon rfl rfl ?_); exact JL.q (by first | (apply OQ.subS_hi; exact Tryz.underlying9; exact rfl; exact rfl; exact hlm) | (apply OQ.move; exact rfl)) rfl (JL.nil (kk default nofun))))
              · intro x EF MF Q kk
                refine JL.lessM (M' := accE 5 (some (b, cap)) (o.map U8) ++ MF) ?_ (by show Less ([⟨b, Sl.Own 5 1 (o.map U8).length cap (o.map U8), true⟩] ++ MF) _; rw [List.length_map]; exact Less.refl _)
                refine JL.appendZ (r := (34 :: r).take m) (xs := o.map U8) (M := MF) (some (b, cap)) Tryz.underlying22 Tryz.underlying9 u8e (fun h => by cases h) (by rw [List.length_map]; rfl) rfl hne (by rw [List.length_map]; omega) rfl fun p => JL.nil ?_
                rw [← List.map_append, List.length_map, accE_own]
                exact kk p (fun k h => by cases h)
              iterate 3 (focus (intro x EF MF Q kk; (try refine JL.gon rfl rfl ?_); exact JL.q (by first | (apply OQ.subS_lo; exact Tryz.underlying9; exact rfl; exact rfl; exact hlm) | (apply OQ.move; exact rfl)) rfl (JL.nil (kk default nofun))))
              · intro x EF MF Q kk
                exact JL.q (OQ.assign rfl) rfl (JL.nil (kk (x 4) (fun k h => by cases h; rfl)))
              · (intro x EF MF Q kk; (try refine JL.gon rfl rfl ?_); exact JL.q (by (apply OQ.assign; exact rfl)) rfl (JL.nil (kk default nofun)))
            · intro x hx'
              have h84 := hx' 8 4 (by decide) rfl
              show JE _ _ _ _ _ [(4, .slice (some ⟨(x 8).1, 0, none⟩) (o ++ (34 :: r).take m).length (x 8).2), (0, Z ((34 :: r).drop m)), (5, N m)] [⟨(x 4).1, Sl.Own 5 1 (o ++ (34 :: r).take m).length (x 4).2 ((o ++ (34 :: r).take m).map U8), true⟩]
              rw [h84]
              obtain ⟨b', cap'⟩ := x 4
              clear hx' h84 x vs Ms
              dsimp only
              repeat (refine JE.blk_normal ?_)
              exact JE.again (i := BaS.mk (34 :: r) o b cap) (BaS.mk ((34 :: r).drop m) (o ++ (34 :: r).take m) b' cap') ⟨by dsimp only; rw [List.length_append]; omega, hc⟩ (by dsimp only; rw [List.length_cons]; omega) (by repeat (first | exact SubE.nil | refine SubE.cons _ _ _ rfl ?_)) (Less.refl _)
          · rw [step_quot o (by have := of_decide_eq_true hq; omega)] at hc
            rw [hc]
            generalize quotR r 1 = m at cQ hq
            repeat (first | refine JL.q (by first | (apply i0; exact rfl; exact rfl) | (apply OQ.eq8T (b := 40); exact rfl; exact rfl; exact h40) | (apply OQ.move; exact rfl) | (apply OQ.assign; exact rfl)) rfl ?_ | refine JC.seq ?_ | refine JC.region ?_ | refine JC.block ?_ | refine JC.skip ?_ | refine JL.nil ?_ | refine JE.next ?_)
            refine JC.cond rfl (fun h => by cases h) (fun _ => ?_)
            repeat (first | refine JL.q (by first | (apply OQ.eq8T (b := 41); exact rfl; exact rfl; exact h41) | (apply OQ.assign; exact rfl)) rfl ?_ | refine JC.seq ?_ | refine JC.region ?_ | refine JL.nil ?_ | refine JE.next ?_)
            refine JC.cond rfl (fun h => by cases h) (fun _ => ?_)
            repeat (first | refine JL.q (by first | (apply OQ.eq8T (b := 34); exact rfl; exact rfl; exact h34) | (apply OQ.assign; exact rfl)) rfl ?_ | refine JC.seq ?_ | refine JC.region ?_ | refine JL.nil ?_ | refine JE.next ?_)
            refine JC.cond rfl (fun _ => ?_) (fun h => by cases h)
            repeat (first | refine JL.q (by first | (apply OQ.callx (vs := [Z (34 :: r)]); exact goes_quoted; exact rfl; exact (fun w' _ => cQ w')) | (apply OQ.eqB (b := 0); exact rfl; exact rfl; exact hq) | (apply OQ.move; exact rfl) | (apply OQ.assign; exact rfl)) rfl ?_ | refine JC.seq ?_ | refine JC.region ?_ | refine JL.nil ?_ | refine JE.next ?_)
            refine JC.cond rfl (fun _ => ?_) (fun h => by cases h)
            repeat (first | refine JL.q (by (apply OQ.assign; exact rfl)) rfl ?_ | refine JC.seq ?_ | refine JC.region ?_ | refine JL.nil ?_ | refine JE.next ?_)
            refine JC.ret ?_
            repeat (first | refine JE.then_ret ?_ | refine JE.blk_ret ?_)
            exact JE.ret2 rfl (RV.tmp rfl) (RV.tmp rfl) fun w' hw => ⟨rfl, hw.chg⟩
      · rw [of_decide_eq_true h41, bare_41, if_pos rfl] at hc
        rw [hc]
        repeat (first | refine JL.q (by first | (apply i0; exact rfl; exact rfl) | (apply OQ.eq8T (b := 40); exact rfl; exact rfl; exact h40) | (apply OQ.move; exact rfl) | (apply OQ.assign; exact rfl)) rfl ?_ | refine JC.seq ?_ | refine JC.region ?_ | refine JC.block ?_ | refine JC.skip ?_ | refine JL.nil ?_ | refine JE.next ?_)
        refine JC.cond rfl (fun h => by cases h) (fun _ => ?_)
        repeat (first | refine JL.q (by first | (apply OQ.eq8T (b := 41); exact rfl; exact rfl; exact h41) | (apply OQ.assign; exact rfl)) rfl ?_ | refine JC.seq ?_ | refine JC.region ?_ | refine JL.nil ?_ | refine JE.next ?_)
        refine JC.cond rfl (fun _ => ?_) (fun h => by cases h)
        repeat (first | refine JL.q (by (apply OQ.assign; exact rfl)) rfl ?_ | refine JC.seq ?_ | refine JC.region ?_ | refine JL.nil ?_ | refine JE.next ?_)
        refine JC.ret ?_
        repeat (first | refine JE.then_ret ?_ | refine JE.blk_ret ?_)
        exact JE.ret2 rfl (RV.tmp rfl) (RV.tmp rfl) fun w' hw => ⟨rfl, hw.chg⟩
    · obtain rfl : c = 40 := of_decide_eq_true h40
      have cC := fun w' => comment_any r w' (by omega)
      cases hcm : commR (40 :: r) 0 0 with
      | error e =>
        rw [hcm] at cC
        have he := comm_err _ _ _ _ _ (Nat.le_refl _) hcm
        rw [step_comm o hcm] at hc
        rw [hc]
        repeat (first | refine JL.q (by first | (apply i0; exact rfl; exact rfl) | (apply OQ.eq8T (b := 40); exact rfl; exact rfl; exact h40) | (apply OQ.move; exact rfl) | (apply OQ.assign; exact rfl)) rfl ?_ | refine JC.seq ?_ | refine JC.region ?_ | refine JC.block ?_ | refine JC.skip ?_ | refine JL.nil ?_ | refine JE.next ?_)
        refine JC.cond rfl (fun _ => ?_) (fun h => by cases h)
        repeat (first | refine JL.q (by first | (apply OQ.callx (vs := [Z (40 :: r)]); exact goes_comment; exact rfl; exact (fun w' _ => cC w')) | (apply OQ.extract; exact rfl; exact rfl) | (apply OQ.neB (b := 0); exact rfl; exact rfl; exact he) | (apply OQ.move; exact rfl) | (apply OQ.assign; exact rfl)) rfl ?_ | refine JC.seq ?_ | refine JC.region ?_ | refine JL.nil ?_ | refine JE.next ?_)
        refine JC.cond rfl (fun _ => ?_) (fun h => by cases h)
        repeat (first | refine JL.q (by first | (apply OQ.move; exact rfl) | (apply OQ.assign; exact rfl)) rfl ?_ | refine JC.seq ?_ | refine JC.region ?_ | refine JL.nil ?_ | refine JE.next ?_)
        refine JC.ret ?_
        repeat (first | refine JE.then_ret ?_ | refine JE.blk_ret ?_)
        exact JE.ret2 rfl (RV.tmp rfl) (RV.tmp rfl) fun w' hw => ⟨rfl, hw.chg⟩
      | ok m =>
        rw [hcm] at cC
        obtain ⟨m0, m1, hb⟩ := step_comm_ok o hcm
        rw [hb] at hc
        repeat (first | refine JL.q (by first | (apply i0; exact rfl; exact rfl) | (apply OQ.eq8T (b := 40); exact rfl; exact rfl; exact h40) | (apply OQ.move; exact rfl) | (apply OQ.assign; exact rfl)) rfl ?_ | refine JC.seq ?_ | refine JC.region ?_ | refine JC.block ?_ | refine JC.skip ?_ | refine JL.nil ?_ | refine JE.next ?_)
        refine JC.cond rfl (fun _ => ?_) (fun h => by cases h)
        repeat (first | refine JL.q (by first | (apply OQ.callx (vs := [Z (40 :: r)]); exact goes_comment; exact rfl; exact (fun w' _ => cC w')) | (apply OQ.extract; exact rfl; exact rfl) | (apply OQ.neB (b := 0) (c := true); exact rfl; exact rfl; exact rfl) | (apply OQ.move; exact rfl) | (apply OQ.assign; exact rfl)) rfl ?_ | refine JC.seq ?_ | refine JC.region ?_ | refine JL.nil ?_ | refine JE.next ?_)
        refine JC.cond rfl (fun h => by cases h) (fun _ => ?_)
        repeat (first | refine JC.seq ?_ | refine JC.skip ?_ | refine JE.next ?_)
        have hdl : ((40 :: r).drop m).length = r.length + 1 - m := by rw [List.length_drop, List.length_cons]
        have hlm : m ≤ (40 :: r).length := by rw [List.length_cons]; omega
        let vs : Nat → X → Value := fun j x => match j with
          | 0 => .slice (some ⟨b, 0, none⟩) o.length cap
          | 1 => .slice (some ⟨x.1, 0, none⟩) 1 1
          | 3 => Z (40 :: r)
          | 4 => N m
          | 5 => Z ((40 :: r).drop m)
          | 7 => Z ((40 :: r).drop m)
          | _ => .slice (some ⟨x.1, 0, none⟩) (o ++ [32]).length x.2
        let Ms : Nat → X → List Ent := fun j x => match j with
          | 1 => [⟨x.1, Row 5 [U8 32], true⟩]
          | 2 => [⟨x.1, Sl.Own 5 1 (o ++ [32]).length x.2 ((o ++ [32]).map U8), true⟩]
          | 8 => [⟨b, Sl.Own 5 1 o.length cap (o.map U8), true⟩]
          | _ => []
        refine JC.growO (g := ⟨[(6, N m)], 9, vs, Ms, needBa, inpBa, eatBa, srcBa, fun j => match j with | 0 => [(4, .slice (some ⟨b, 0, none⟩) o.length cap)] | 3 => [(0, Z (40 :: r))] | _ => []⟩) [(6, 4), (7, 0)] [2] mixT (by repeat (first | exact SubE.nil | refine SubE.cons _ _ _ rfl ?_)) (fun j _ => match j with | 0 => (by repeat (first | exact SubE.nil | refine SubE.cons _ _ _ rfl ?_)) | 1 => .nil | 2 => .nil | 3 => (by repeat (first | exact SubE.nil | refine SubE.cons _ _ _ rfl ?_)) | _ + 4 => .nil) (Less.refl _) (by kernel_rfl) (by kernel_rfl) (by kernel_rfl) ?_ ?_
        · refine ⟨?_, ?_, ?_, ?_, ?_, ?_, ?_, ?_, trivial⟩
          · (intro x EF MF Q kk; (try refine JL.gon rfl rfl ?_); exact JL.q (by (apply OQ.move; exact rfl)) rfl (JL.nil (kk default nofun)))
          · intro x EF MF Q kk
            exact JL.lit1 Tryz.underlying22 u8e rfl rfl rfl rfl fun b _ => JL.nil (kk (b, 0) nofun)
          · intro x EF MF Q kk
            refine JL.lessM (M' := accE 5 (some (b, cap)) (o.map U8) ++ ⟨(x 1).1, Row 5 [U8 32], true⟩ :: MF) ?_ (by show Less ([⟨b, Sl.Own 5 1 (o.map U8).length cap (o.map U8), true⟩] ++ ⟨(x 1).1, Row 5 [U8 32], true⟩ :: MF) _; rw [List.length_map]; exact Less.refl _)
            refine JL.appendQ (cs := [U8 32]) (m := 1) (ad := some ⟨(x 1).1, 0, none⟩) (sc := 1) (xs := o.map U8) (M := ⟨(x 1).1, Row 5 [U8 32], true⟩ :: MF) (some (b, cap)) Tryz.underlying22 u8e (fun h => by cases h) (by rw [List.length_map]; rfl) rfl rfl (fun w' hw' => ?_) (fun v hv => by rw [List.mem_singleton.1 hv]; rfl) rfl (by rw [List.length_map]; omega) (by rw [List.length_map]; omega) rfl fun q' hq' => JL.nil ?_
            · have hw' : Holds _ _ (⟨b, Sl.Own 5 1 (o.map U8).length cap (o.map U8), true⟩ :: ⟨(x 1).1, Row 5 [U8 32], true⟩ :: MF) w' := hw'
              obtain ⟨o', ho, hA⟩ := hw'.get (.there .here)
              exact Reads.block ho (Row.all _ hA)
            · cases q' with
              | none => exact absurd (hq' rfl) (by simp)
              | some p =>
                rw [show o.map U8 ++ [U8 32] = (o ++ [32]).map U8 by rw [List.map_append]; rfl, List.length_map, accE_own]
                exact kk p (fun k h => by cases h)
          iterate 3 (focus (intro x EF MF Q kk; (try refine JL.gon rfl rfl ?_); exact JL.q (by first | (apply OQ.subS_lo; exact Tryz.underlying9; exact rfl; exact rfl; exact hlm) | (apply OQ.move; exact rfl)) rfl (JL.nil (kk default nofun))))
          · intro x EF MF Q kk
            exact JL.q (OQ.assign rfl) rfl (JL.nil (kk (x 2) (fun k h => by cases h; rfl)))
          · (intro x EF MF Q kk; (try refine JL.gon rfl rfl ?_); exact JL.q (by (apply OQ.assign; exact rfl)) rfl (JL.nil (kk default nofun)))
        · intro x hx'
          have h84 := hx' 6 2 (by decide) rfl
          show JE _ _ _ _ _ [(4, .slice (some ⟨(x 6).1, 0, none⟩) (o ++ [32]).length (x 6).2), (0, Z ((40 :: r).drop m)), (6, N m)] [⟨(x 2).1, Sl.Own 5 1 (o ++ [32]).length (x 2).2 ((o ++ [32]).map U8), true⟩]
          rw [h84]
          obtain ⟨b', cap'⟩ := x 2
          clear hx' h84 x vs Ms
          dsimp only
          repeat (first | refine JC.exit ?_ | refine JE.next ?_ | refine JE.then_exit ?_ | refine JE.blk_hit ?_ | refine JE.blk_miss rfl ?_)
          exact JE.again (i := BaS.mk (40 :: r) o b cap) (BaS.mk ((40 :: r).drop m) (o ++ [32]) b' cap') ⟨by dsimp only; rw [List.length_append, List.length_singleton]; omega, hc⟩ (by dsimp only; rw [List.length_cons]; omega) (by repeat (first | exact SubE.nil | refine SubE.cons _ _ _ rfl ?_)) (Less.refl _)
  · obtain rfl : r = [] := of_decide_eq_true hr0
    rw [bare_end, if_neg (by decide)] at hc
    rw [hc]
    repeat (first | refine JL.q (by first | (apply OQ.neSB (r := []); exact rfl; exact rfl; exact hr0) | (apply OQ.move; exact rfl)) rfl ?_ | refine JC.seq ?_ | refine JC.region ?_ | refine JL.nil ?_ | refine JE.next ?_)
    refine JC.cond rfl (fun h => by cases h) (fun _ => ?_)
    repeat (first | refine JL.q (by first | (apply OQ.b2s (s := ⟨some ⟨b, 0, none⟩, cap, o⟩); exact Tryz.underlying22; exact Tryz.underlying5; exact Tryz.underlying9; exact rfl; exact (fun w' hw' => ownb_ok hw' .here)) | (apply OQ.move; exact rfl) | (apply OQ.assign; exact rfl)) rfl ?_ | refine JC.seq ?_ | refine JC.region ?_ | refine JC.exit ?_ | refine JL.nil ?_ | refine JE.next ?_ | refine JE.then_exit ?_ | refine JE.blk_hit ?_)
    refine JC.ret ?_
    exact JE.ret2 rfl (RV.tmp rfl) (RV.tmp rfl) fun w' hw => ⟨rfl, hw.chg⟩
end Go.Proofs.YtdabhneehconeaaGreatDoor

/-
  Of no statement by itself: strings.ToLower of bytes below 128 and Split at one byte, by the library's contracts over any program; strings.CutPrefix, CutSuffix and LastIndexByte at one byte by their bodies.
  Conditions: each theorem's own.
-/
namespace Go.Proofs.YtdabhneehconeaaGreatDoor
set_option maxRecDepth 10000
open Sl Fld Go.Shelf
/-! ### small letters -/
def lowLaysRen : Ren := ⟨fun | 159 => 125 | 165 => 178 | 166 => 179 | 167 => 180 | 169 => 181 | 230 => 182 | 204 => 183 | 240 => 223 | 241 => 224 | 197 => 218 | 118 => 225 | 168 => 226 | 270 => 227 | 262 => 228 | 276 => 250 | 277 => 251 | 260 => 245 | 242 => 252 | 313 => 253 | 278 => 261 | 274 => 262 | 275 => 263 | n => n,
  fun | 9 => 9 | 4 => 4 | 3 => 3 | 5 => 5 | 72 => 193 | 0 => 0 | 76 => 197 | 75 => 196 | 107 => 202 | 70 => 191 | 20 => 20 | 37 => 22 | 127 => 227 | 21 => 21 | 105 => 223 | 164 => 245 | 162 => 251 | 203 => 249 | 119 => 254 | 46 => 211 | 139 => 257 | 138 => 256 | 51 => 210 | 160 => 258 | 208 => 264 | 206 => 262 | 80 => 200 | n => n,
  fun | 13 => 3 | 3 => 4 | 4 => 5 | n => n⟩
theorem lowLays : Lays.n159 Tryz.prog lowLaysRen := {
  mixed := by kernel_rfl
  f118 := Tryz.func225.trans (congrArg some (by kernel_rfl))
  f159 := Tryz.func125.trans (congrArg some (by kernel_rfl))
  f165 := Tryz.func178.trans (congrArg some (by kernel_rfl))
  f166 := Tryz.func179.trans (congrArg some (by kernel_rfl))
  f167 := Tryz.func180.trans (congrArg some (by kernel_rfl))
  f168 := Tryz.func226.trans (congrArg some (by kernel_rfl))
  f169 := Tryz.func181.trans (congrArg some (by kernel_rfl))
  f197 := Tryz.func218.trans (congrArg some (by kernel_rfl))
  f204 := Tryz.func183.trans (congrArg some (by kernel_rfl))
  f230 := Tryz.func182.trans (congrArg some (by kernel_rfl))
  f240 := Tryz.func223.trans (congrArg some (by kernel_rfl))
  f241 := Tryz.func224.trans (congrArg some (by kernel_rfl))
  f242 := Tryz.func252.trans (congrArg some (by kernel_rfl))
  f260 := Tryz.func245.trans (congrArg some (by kernel_rfl))
  f262 := Tryz.func228.trans (congrArg some (by kernel_rfl))
  f270 := Tryz.func227.trans (congrArg some (by kernel_rfl))
  f274 := Tryz.func262.trans (congrArg some (by kernel_rfl))
  f275 := Tryz.func263.trans (congrArg some (by kernel_rfl))
  f276 := Tryz.func250.trans (congrArg some (by kernel_rfl))
  f277 := Tryz.func251.trans (congrArg some (by kernel_rfl))
  f278 := Tryz.func261.trans (congrArg some (by kernel_rfl))
  f313 := Tryz.func253.trans (congrArg some (by kernel_rfl))
  t0 := Tryz.underlying0
  a0 := Tryz.isAgg0
  z0 := Tryz.sizeOf0
  v0 := Tryz.zeroValue0
  t3 := Tryz.underlying3
  a3 := Tryz.isAgg3
  z3 := Tryz.sizeOf3
  v3 := Tryz.zeroValue3
  t4 := Tryz.underlying4
  a4 := Tryz.isAgg4
  z4 := Tryz.sizeOf4
  v4 := Tryz.zeroValue4
  t5 := Tryz.underlying5
  a5 := Tryz.isAgg5
  z5 := Tryz.sizeOf5
  v5 := Tryz.zeroValue5
  t9 := Tryz.underlying9
  a9 := Tryz.isAgg9
  z9 := Tryz.sizeOf9
  v9 := Tryz.zeroValue9
  t20 := Tryz.underlying20
  a20 := Tryz.isAgg20
  z20 := Tryz.sizeOf20
  v20 := Tryz.zeroValue20
  t21 := Tryz.underlying21
  a21 := Tryz.isAgg21
  z21 := Tryz.sizeOf21
  v21 := Tryz.zeroValue21
  t37 := Tryz.underlying22
  a37 := Tryz.isAgg22
  z37 := Tryz.sizeOf22
  v37 := Tryz.zeroValue22
  t46 := Tryz.underlying211
  a46 := Tryz.isAgg211
  z46 := Tryz.sizeOf211
  v46 := Tryz.zeroValue211
  t51 := Tryz.underlying210
  a51 := Tryz.isAgg210
  z51 := Tryz.sizeOf210
  v51 := Tryz.zeroValue210
  t70 := Tryz.underlying191
  a70 := Tryz.isAgg191
  z70 := Tryz.sizeOf191
  v70 := Tryz.zeroValue191
  t72 := Tryz.underlying193
  a72 := Tryz.isAgg193
  z72 := Tryz.sizeOf193
  v72 := Tryz.zeroValue193
  t75 := Tryz.underlying196
  a75 := Tryz.isAgg196
  z75 := Tryz.sizeOf196
  v75 := Tryz.zeroValue196
  t76 := Tryz.underlying197
  a76 := Tryz.isAgg197
  z76 := Tryz.sizeOf197
  v76 := Tryz.zeroValue197
  t105 := Tryz.underlying223
  a105 := Tryz.isAgg223
  z105 := Tryz.sizeOf223
  v105 := Tryz.zeroValue223
  t107 := Tryz.underlying202
  a107 := Tryz.isAgg202
  z107 := Tryz.sizeOf202
  v107 := Tryz.zeroValue202
  t119 := Tryz.underlying254
  a119 := Tryz.isAgg254
  z119 := Tryz.sizeOf254
  t127 := Tryz.underlying227
  a127 := Tryz.isAgg227
  z127 := Tryz.sizeOf227
  v127 := Tryz.zeroValue227
  t138 := Tryz.underlying256
  a138 := Tryz.isAgg256
  z138 := Tryz.sizeOf256
  v138 := Tryz.zeroValue256
  t139 := Tryz.underlying257
  a139 := Tryz.isAgg257
  z139 := Tryz.sizeOf257
  v139 := Tryz.zeroValue257
  t160 := Tryz.underlying258
  a160 := Tryz.isAgg258
  z160 := Tryz.sizeOf258
  v160 := Tryz.zeroValue258
  t162 := Tryz.underlying251
  a162 := Tryz.isAgg251
  z162 := Tryz.sizeOf251
  v162 := Tryz.zeroValue251
  t164 := Tryz.underlying245
  a164 := Tryz.isAgg245
  z164 := Tryz.sizeOf245
  v164 := Tryz.zeroValue245
  t203 := Tryz.underlying249
  a203 := Tryz.isAgg249
  z203 := Tryz.sizeOf249
  v203 := Tryz.zeroValue249
  t206 := Tryz.underlying262
  a206 := Tryz.isAgg262
  z206 := Tryz.sizeOf262
  v206 := Tryz.zeroValue262
  t208 := Tryz.underlying264
  a208 := Tryz.isAgg264
  z208 := Tryz.sizeOf264
  v208 := Tryz.zeroValue264
  g3 := by kernel_rfl
  g4 := by kernel_rfl
  g13 := by kernel_rfl }
theorem lowX : Builder.Extra Tryz.prog lowLaysRen := {
  sizeBuilder := by kernel_rfl
  liesBuilder := by kernel_rfl
  t5 := Tryz.underlying5
  a5 := Tryz.isAgg5
  z5 := Tryz.sizeOf5
  v5 := Tryz.zeroValue5
  infoByte := by kernel_rfl
  cellsByte := by kernel_rfl
  sizeByte := by kernel_rfl
  neB5 := by decide }
theorem low_u8 (l : List Fld.By) : Go.Lib.toLowerA (Fld.u8s l) = Fld.u8s (l.map small) := by
  have h : ∀ c : Fin 256, Go.Lib.lowerB (UInt8.ofBitVec (BitVec.ofNat 8 c.val)) = UInt8.ofBitVec (small (BitVec.ofNat 8 c.val)) := by decide +kernel
  unfold Go.Lib.toLowerA Fld.u8s
  rw [List.map_map, List.map_map]
  refine List.map_congr_left fun c _ => ?_
  simpa using h ⟨c.toNat, c.isLt⟩
theorem goes_lower : Goes Tryz.prog 125 := ⟨_, Tryz.func125, rfl, by kernel_rfl⟩
theorem lower_any (s : List Bt) (w : World) (hl : s.length ≤ 140737488355328) (hs : ∀ c ∈ s, c.toNat < 128) : Calls Tryz.prog 125 [Z s].toArray w fun e w' => e = .returned (Z (s.map small)) ∧ Ext w w' :=
  (Any.strings_ToLower_ascii lowLays lowX (strB s) w (by rw [strB_size]; exact hl) (fun j b hb => by
    rw [strB_list] at hb
    obtain ⟨c, hc, rfl⟩ := List.mem_map.1 (List.mem_of_getElem? hb)
    exact hs c hc)).mono fun e w' ⟨h1, h2⟩ => ⟨by rw [h1, strB_list, low_u8, u8s_str], below_ext h2⟩
/-! ### texts parted at a byte -/
namespace Fld
def spW (c : Fld.By) : List Fld.By → List (List Fld.By)
  | [] => [[]]
  | d :: r => if d = c then [] :: spW c r else match spW c r with
    | [] => [[d]]
    | x :: L => (d :: x) :: L
theorem spW_ne (c : Fld.By) : ∀ s, spW c s ≠ []
  | [] => by simp [spW]
  | d :: r => by
    unfold spW
    split
    · simp
    · split <;> simp
theorem spW_none {c : Fld.By} : ∀ {s : List Fld.By}, fi c s = s.length → spW c s = [s]
  | [], _ => rfl
  | d :: r, h => by
    rw [fi_cons] at h
    by_cases hd : d = c
    · rw [if_pos hd] at h; simp at h
    · rw [if_neg hd] at h
      rw [spW, if_neg hd, spW_none (s := r) (by simpa using h)]
theorem spW_some {c : Fld.By} : ∀ {s : List Fld.By}, fi c s < s.length → spW c s = s.take (fi c s) :: spW c (s.drop (fi c s + 1))
  | [], h => by simp [fi] at h
  | d :: r, h => by
    by_cases hd : d = c
    · rw [fi_cons, if_pos hd, spW, if_pos hd]
      rfl
    · rw [fi_cons, if_neg hd] at h ⊢
      rw [spW, if_neg hd, spW_some (s := r) (by simpa using h)]
      rfl
theorem index_u8 (c : Fld.By) (s : List Fld.By) : Go.Lib.index (Fld.u8s s) (Fld.u8s [c]) = ixC c s := by
  show Go.Lib.index (Fld.u8s s) [UInt8.ofBitVec c] = _
  rw [Go.Lib.index_one, ixb_is2]
where
  ixb_is2 {c : Fld.By} : ∀ {l : List Fld.By}, Go.Lib.indexByte (Fld.u8s l) (UInt8.ofBitVec c) = ixC c l
  | [] => rfl
  | d :: r => by
    show (if (UInt8.ofBitVec d == UInt8.ofBitVec c) then 0 else if Go.Lib.indexByte (Fld.u8s r) (UInt8.ofBitVec c) == -1 then -1 else Go.Lib.indexByte (Fld.u8s r) (UInt8.ofBitVec c) + 1 : Int) = _
    rw [ixb_is2 (c := c) (l := r)]
    unfold ixC
    rw [fi_cons]
    have hb : (UInt8.ofBitVec d == UInt8.ofBitVec c) = decide (d = c) := by
      by_cases h : d = c
      · subst h; simp
      · rw [decide_eq_false h]
        exact beq_eq_false_iff_ne.2 fun k => h (congrArg UInt8.toBitVec k)
    rw [hb]
    by_cases hd : d = c
    · simp [hd]
    · simp only [hd, decide_false, Bool.false_eq_true, if_false, List.length_cons, Nat.add_lt_add_iff_right]
      by_cases h : fi c r < r.length
      · simp only [h, if_true]
        rw [if_neg (by rw [beq_iff_eq]; omega)]
        omega
      · simp only [h, if_false]
        rfl
theorem u8s_count (c : Fld.By) : ∀ s : List Fld.By, (Fld.u8s s).count (UInt8.ofBitVec c) = s.count c
  | [] => rfl
  | d :: r => by
    show (UInt8.ofBitVec d :: Fld.u8s r).count _ = _
    rw [List.count_cons, List.count_cons, u8s_count c r]
    congr 1
    by_cases h : d = c
    · subst h; simp
    · have h2 : ¬ UInt8.ofBitVec d = UInt8.ofBitVec c := fun k => h (congrArg UInt8.toBitVec k)
      rw [if_neg (by simpa using h2), if_neg (by simpa using h)]
theorem count_split {c : Fld.By} : ∀ {s : List Fld.By}, (s.count c = 0 → fi c s = s.length) ∧ (s.count c ≠ 0 → fi c s < s.length ∧ s.count c = (s.drop (fi c s + 1)).count c + 1)
  | [] => by simp [fi]
  | d :: r => by
    obtain ⟨h1, h2⟩ := count_split (c := c) (s := r)
    rw [fi_cons, List.count_cons]
    by_cases hd : d = c
    · subst hd
      simp
    · have hdb : (d == c) = false := beq_eq_false_iff_ne.2 hd
      simp only [hdb, hd, if_false, Bool.false_eq_true, Nat.add_zero, List.length_cons, Nat.add_lt_add_iff_right, List.drop_succ_cons]
      exact ⟨fun h => by rw [h1 h], h2⟩
theorem splitK_u8 (c : Fld.By) : ∀ (k : Nat) (s : List Fld.By), s.count c = k → Go.Lib.splitK (Fld.u8s [c]) 0 k (Fld.u8s s) = (spW c s).map Fld.u8s
  | 0, s, h => by
    rw [spW_none (count_split.1 h)]
    rfl
  | k + 1, s, h => by
    obtain ⟨h1, h2⟩ := (count_split (c := c) (s := s)).2 (by omega)
    have hi : Go.Lib.index (Fld.u8s s) (Fld.u8s [c]) = (fi c s : Nat) := by rw [index_u8, ixC, if_pos h1]
    have hd : (Fld.u8s s).drop (fi c s + 1) = Fld.u8s (s.drop (fi c s + 1)) := by unfold Fld.u8s; rw [List.map_drop]
    have ht : (Fld.u8s s).take (fi c s) = Fld.u8s (s.take (fi c s)) := by unfold Fld.u8s; rw [List.map_take]
    show (if Go.Lib.index (Fld.u8s s) (Fld.u8s [c]) == -1 then [Fld.u8s s] else (Fld.u8s s).take ((Go.Lib.index (Fld.u8s s) (Fld.u8s [c])).toNat + 0) :: Go.Lib.splitK (Fld.u8s [c]) 0 k ((Fld.u8s s).drop ((Go.Lib.index (Fld.u8s s) (Fld.u8s [c])).toNat + (Fld.u8s [c]).length))) = _
    rw [hi, if_neg (by rw [beq_iff_eq]; omega), Int.toNat_natCast, Nat.add_zero, show (Fld.u8s [c]).length = 1 from rfl, hd, ht, splitK_u8 c k _ (by omega), spW_some h1]
    rfl
end Fld
theorem split_is (c : Bt) (s : List Bt) : (Go.Lib.splitB (strB [c]) 0 (s.count c) (strB s)).map Value.string = (spW c s).map Z := by
  have h1 := Go.Lib.splitB_data (strB [c]) 0 (s.count c) (strB s)
  rw [strB_list, strB_list, splitK_u8 c _ s rfl] at h1
  have h2 := congrArg (List.map fun l : List UInt8 => Value.string ⟨l.toArray⟩) h1
  rw [List.map_map, List.map_map] at h2
  exact h2
def splitLaysRen : Ren := ⟨fun | 221 => 222 | 268 => 247 | 138 => 248 | 143 => 249 | 195 => 259 | 197 => 218 | 218 => 260 | 219 => 217 | 260 => 245 | 217 => 127 | 225 => 241 | 224 => 215 | 267 => 244 | 266 => 184 | 314 => 258 | n => n,
  fun | 9 => 9 | 3 => 3 | 31 => 96 | 4 => 4 | 0 => 0 | 105 => 223 | 21 => 21 | 5 => 5 | 46 => 211 | 119 => 254 | 139 => 257 | 138 => 256 | 146 => 242 | 51 => 210 | n => n,
  fun | 1 => 2 | 3 => 4 | 4 => 5 | n => n⟩
theorem splitLays : Lays.n221 Tryz.prog splitLaysRen := {
  mixed := by kernel_rfl
  f138 := Tryz.func248.trans (congrArg some (by kernel_rfl))
  f143 := Tryz.func249.trans (congrArg some (by kernel_rfl))
  f195 := Tryz.func259.trans (congrArg some (by kernel_rfl))
  f197 := Tryz.func218.trans (congrArg some (by kernel_rfl))
  f217 := Tryz.func127.trans (congrArg some (by kernel_rfl))
  f218 := Tryz.func260.trans (congrArg some (by kernel_rfl))
  f219 := Tryz.func217.trans (congrArg some (by kernel_rfl))
  f221 := Tryz.func222.trans (congrArg some (by kernel_rfl))
  f224 := Tryz.func215.trans (congrArg some (by kernel_rfl))
  f225 := Tryz.func241.trans (congrArg some (by kernel_rfl))
  f260 := Tryz.func245.trans (congrArg some (by kernel_rfl))
  f266 := Tryz.func184.trans (congrArg some (by kernel_rfl))
  f267 := Tryz.func244.trans (congrArg some (by kernel_rfl))
  f268 := Tryz.func247.trans (congrArg some (by kernel_rfl))
  f314 := Tryz.func258.trans (congrArg some (by kernel_rfl))
  t0 := Tryz.underlying0
  a0 := Tryz.isAgg0
  z0 := Tryz.sizeOf0
  v0 := Tryz.zeroValue0
  t3 := Tryz.underlying3
  a3 := Tryz.isAgg3
  z3 := Tryz.sizeOf3
  v3 := Tryz.zeroValue3
  t4 := Tryz.underlying4
  a4 := Tryz.isAgg4
  z4 := Tryz.sizeOf4
  v4 := Tryz.zeroValue4
  t5 := Tryz.underlying5
  a5 := Tryz.isAgg5
  z5 := Tryz.sizeOf5
  v5 := Tryz.zeroValue5
  t9 := Tryz.underlying9
  a9 := Tryz.isAgg9
  z9 := Tryz.sizeOf9
  v9 := Tryz.zeroValue9
  t21 := Tryz.underlying21
  a21 := Tryz.isAgg21
  z21 := Tryz.sizeOf21
  v21 := Tryz.zeroValue21
  t31 := Tryz.underlying96
  a31 := Tryz.isAgg96
  z31 := Tryz.sizeOf96
  v31 := Tryz.zeroValue96
  t46 := Tryz.underlying211
  a46 := Tryz.isAgg211
  z46 := Tryz.sizeOf211
  v46 := Tryz.zeroValue211
  t51 := Tryz.underlying210
  a51 := Tryz.isAgg210
  z51 := Tryz.sizeOf210
  v51 := Tryz.zeroValue210
  t105 := Tryz.underlying223
  a105 := Tryz.isAgg223
  z105 := Tryz.sizeOf223
  v105 := Tryz.zeroValue223
  t119 := Tryz.underlying254
  a119 := Tryz.isAgg254
  z119 := Tryz.sizeOf254
  t138 := Tryz.underlying256
  a138 := Tryz.isAgg256
  z138 := Tryz.sizeOf256
  v138 := Tryz.zeroValue256
  t139 := Tryz.underlying257
  a139 := Tryz.isAgg257
  z139 := Tryz.sizeOf257
  v139 := Tryz.zeroValue257
  t146 := Tryz.underlying242
  a146 := Tryz.isAgg242
  z146 := Tryz.sizeOf242
  v146 := Tryz.zeroValue242
  g1 := by kernel_rfl
  g3 := by kernel_rfl
  g4 := by kernel_rfl }
theorem strI9 : (Tryz.prog.info? (splitLaysRen.t 9)).map (fun i => (i.zero, i.size, i.bytes)) = some (some (.string ByteArray.empty), 1, 16) := by kernel_rfl
theorem goes_gens : Goes Tryz.prog 222 := ⟨_, Tryz.func222, rfl, by kernel_rfl⟩
theorem goes_splw : Goes Tryz.prog 177 := ⟨_, Tryz.func177, rfl, by kernel_rfl⟩
theorem gens_any (s : List Bt) (c : Bt) (w : World) (hl : s.length < 4294967281) : Calls Tryz.prog 222 [Z s, Z [c], N 0, I (-1)].toArray w fun e w' =>
    ∃ b, e = .returned (.slice (some ⟨b, 0, none⟩) (spW c s).length (spW c s).length) ∧ Holds w [] [⟨b, Row 9 ((spW c s).map Z), true⟩] w' := by
  have hcnt : Go.Lib.countB (strB s) (strB [c]) = s.count c := by
    show Go.Lib.count (Fld.u8s s) [UInt8.ofBitVec c] = _
    rw [Go.Lib.count_one, u8s_count]
  have hcle : s.count c ≤ s.length := List.count_le_length
  have hlen : (Go.Lib.splitB (strB [c]) 0 (s.count c) (strB s)).length = s.count c + 1 := Go.Lib.splitB_all (strB [c]) (by rw [strB_size]; exact Nat.le_refl _) 0 _ (strB s) hcnt
  have hlen2 : (spW c s).length = s.count c + 1 := by
    have := congrArg List.length (split_is c s)
    rw [List.length_map, List.length_map, hlen] at this
    exact this.symm
  have := Any.strings_genSplit_core splitLays strI9 (strB s) (strB [c]) 0 (-1) (s.count c + 1) w (by rw [strB_size]; exact hl) (by rw [strB_size]; exact Nat.le_refl _) (Nat.zero_le _)
    (fun x cs hx => (Any.strings_Index_one { splitLays with } x (UInt8.ofBitVec c) _).mono fun e w' ⟨h1, h2⟩ => ⟨by
      rw [h1]
      show Ending.returned (Value.int .i64 (Go.Lib.indexByte x.data.toList (UInt8.ofBitVec c))) = Ending.returned (Value.int .i64 (Go.Lib.index x.data.toList [UInt8.ofBitVec c]))
      rw [Go.Lib.index_one], h2⟩)
    ((Any.strings_Count_one { splitLays with } (strB s) (UInt8.ofBitVec c) w).mono fun e w' ⟨h1, h2⟩ => ⟨by
      rw [h1]
      show Ending.returned (Value.int .i64 (((Fld.u8s s).count (UInt8.ofBitVec c) : Nat) : Int)) = Ending.returned (Value.int .i64 ((Go.Lib.countB (strB s) (strB [c]) : Nat) : Int))
      rw [hcnt, u8s_count], h2⟩) (by decide) (by decide) (by
        rw [if_pos (by decide), hcnt, strB_size]
        omega)
  refine this.mono fun e w' ⟨h1, h2⟩ => ⟨w.heap.size, ?_, ?_⟩
  · rw [h1, Nat.add_sub_cancel, hlen, hlen2]
  · rw [h2, Nat.add_sub_cancel]
    have e1 : Go.Lib.cellsOf (Go.Lib.splitB (strB [c]) 0 (s.count c) (strB s)) (s.count c + 1) = ((spW c s).map Z).toArray := by
      rw [← hlen, Go.Lib.cellsOf_full, split_is]
    rw [e1]
    exact (Holds.start w []).push (.cells ((spW c s).map Z).toArray 9 (0, 0)) rfl rfl rfl rfl rfl
theorem splw_any (s : List Bt) (c : Bt) (w : World) (hl : s.length < 4294967281) : Calls Tryz.prog 177 [Z s, Z [c]].toArray w fun e w' =>
    ∃ b, e = .returned (.slice (some ⟨b, 0, none⟩) (spW c s).length (spW c s).length) ∧ Holds w [] [⟨b, Row 9 ((spW c s).map Z), true⟩] w' := by
  refine enter (n := 8) Tryz.func177 rfl rfl rfl (Holds.start w []) ?_
  repeat (first | refine JL.q (by first | (apply OQ.move; exact rfl) | (apply OQ.assign; exact rfl)) rfl ?_ | refine JC.seq ?_ | refine JC.region ?_ | refine JL.nil ?_ | refine JE.next ?_)
  refine JL.callg (ι := Nat) (vs := [Z s, Z [c], N 0, I (-1)]) (fun b => .slice (some ⟨b, 0, none⟩) (spW c s).length (spW c s).length) (fun b => [⟨b, Row 9 ((spW c s).map Z), true⟩]) goes_gens rfl rfl (fun b e he => by rw [List.mem_singleton.1 he]) (fun w' _ => gens_any s c w' hl) fun b => ?_
  repeat (first | refine JL.q (by (apply OQ.assign; exact rfl)) rfl ?_ | refine JL.nil ?_ | refine JE.next ?_)
  exact JC.ret (JE.ret1 rfl (RV.tmp rfl) fun w' hw => ⟨b, rfl, hw⟩)
/-! ### one byte at an end -/
theorem goes_shs : Goes Tryz.prog 221 := ⟨_, Tryz.func221, rfl, by kernel_rfl⟩
theorem goes_scs : Goes Tryz.prog 175 := ⟨_, Tryz.func175, rfl, by kernel_rfl⟩
theorem goes_csw : Goes Tryz.prog 122 := ⟨_, Tryz.func122, rfl, by kernel_rfl⟩
theorem head_is (s : List Fld.By) (c : Fld.By) : decide (s.head? = some c) = (decide ((1 : Int) ≤ (s.length : Int)) && decide (s.take 1 = [c])) := by
  cases s with
  | nil => simp
  | cons d r =>
    simp
    intro _
    omega
theorem last_is (s : List Fld.By) (c : Fld.By) : decide (s.getLast? = some c) = (decide ((1 : Int) ≤ (s.length : Int)) && decide (s.drop (s.length - 1) = [c])) := by
  rcases List.eq_nil_or_concat s with rfl | ⟨r, d, rfl⟩
  · simp
  · simp
    intro _
    omega
set_option maxHeartbeats 2000000 in
theorem shs_any (s : List Bt) (c : Bt) (w : World) (hl : s.length < 9223372036854775808) : Calls Tryz.prog 221 [Z s, Z [c]].toArray w fun e w' => e = .returned (.bool (decide (s.getLast? = some c))) ∧ Ext w w' := by
  refine enter (n := 21) Tryz.func221 rfl rfl rfl (Holds.start w []) ?_
  rw [last_is]
  cases h1 : decide ((1 : Int) ≤ (s.length : Int))
  · repeat (first | refine JL.q (by first | (apply OQ.lenS; exact Tryz.underlying9; exact rfl) | (apply OQ.geqB (b := 1); exact rfl; exact rfl; exact h1) | (apply OQ.pick_f; exact rfl; exact rfl) | (apply OQ.move; exact rfl) | (apply OQ.assign; exact rfl)) rfl ?_ | refine JC.seq ?_ | refine JC.region ?_ | refine JL.nil ?_ | refine JE.next ?_ | refine JL.gskip rfl rfl rfl rfl ?_)
    exact JC.ret (JE.ret1 rfl (RV.tmp rfl) fun w' hw => ⟨rfl, hw.chg⟩)
  · have hle : 1 ≤ s.length := by have := of_decide_eq_true h1; omega
    have hsub : s.length - 1 ≤ s.length := Nat.sub_le _ _
    cases h2 : decide (s.drop (s.length - 1) = [c])
    all_goals (repeat (first | refine JL.q (by first | (apply OQ.lenS; exact Tryz.underlying9; exact rfl) | (apply OQ.geqB (b := 1); exact rfl; exact rfl; exact h1) | (apply OQ.subN (b := 1); exact rfl; exact rfl; exact hle; exact hl) | (apply OQ.subS_lo (i := s.length - 1); exact Tryz.underlying9; exact rfl; exact rfl; exact hsub) | (apply OQ.eqSB; exact rfl; exact rfl; exact h2) | (apply OQ.pick_t; exact rfl; exact rfl) | (apply OQ.move; exact rfl) | (apply OQ.assign; exact rfl)) rfl ?_ | refine JC.seq ?_ | refine JC.region ?_ | refine JL.nil ?_ | refine JE.next ?_ | refine JL.gon rfl rfl ?_))
    all_goals exact JC.ret (JE.ret1 rfl (RV.tmp rfl) fun w' hw => ⟨rfl, hw.chg⟩)
def csV (c : Bt) (s : List Bt) : Value := if s.getLast? = some c then .tuple #[Z s.dropLast, .bool true] else .tuple #[Z s, .bool false]
theorem scs_any (s : List Bt) (c : Bt) (w : World) (hl : s.length < 9223372036854775808) : Calls Tryz.prog 175 [Z s, Z [c]].toArray w fun e w' => e = .returned (csV c s) ∧ Ext w w' := by
  refine enter (n := 18) Tryz.func175 rfl rfl rfl (Holds.start w []) ?_
  have hq := fun w' => shs_any s c w' hl
  unfold csV
  by_cases h : s.getLast? = some c
  · simp only [h, decide_true, if_true] at hq ⊢
    have hle : 1 ≤ s.length := by
      cases s with
      | nil => cases h
      | cons d r => simp
    have hsub : s.length - 1 ≤ s.length := Nat.sub_le _ _
    repeat (first | refine JL.q (by first | (apply OQ.callx (vs := [Z s, Z [c]]); exact goes_shs; exact rfl; exact (fun w' _ => hq w')) | (apply OQ.not; exact rfl) | (apply OQ.move; exact rfl) | (apply OQ.assign; exact rfl)) rfl ?_ | refine JC.seq ?_ | refine JC.region ?_ | refine JL.nil ?_ | refine JE.next ?_)
    refine JC.cond rfl (fun h => by cases h) (fun _ => ?_)
    repeat (first | refine JL.q (by first | (apply OQ.lenS; exact Tryz.underlying9; exact rfl) | (apply OQ.subN (b := 1); exact rfl; exact rfl; exact hle; exact hl) | (apply OQ.subS_hi (j := s.length - 1); exact Tryz.underlying9; exact rfl; exact rfl; exact hsub) | (apply OQ.move; exact rfl) | (apply OQ.assign; exact rfl)) rfl ?_ | refine JC.seq ?_ | refine JC.region ?_ | refine JC.skip ?_ | refine JL.nil ?_ | refine JE.next ?_)
    refine JC.ret ?_
    skip
    refine JE.ret2 rfl (RV.tmp rfl) (RV.tmp rfl) fun w' hw => ⟨?_, hw.chg⟩
    rw [List.dropLast_eq_take]
  · simp only [h, decide_false, if_false] at hq ⊢
    repeat (first | refine JL.q (by first | (apply OQ.callx (vs := [Z s, Z [c]]); exact goes_shs; exact rfl; exact (fun w' _ => hq w')) | (apply OQ.not; exact rfl) | (apply OQ.move; exact rfl) | (apply OQ.assign; exact rfl)) rfl ?_ | refine JC.seq ?_ | refine JC.region ?_ | refine JL.nil ?_ | refine JE.next ?_)
    refine JC.cond rfl (fun _ => ?_) (fun h => by cases h)
    repeat (first | refine JL.q (by first | (apply OQ.move; exact rfl) | (apply OQ.assign; exact rfl)) rfl ?_ | refine JC.seq ?_ | refine JC.region ?_ | refine JL.nil ?_ | refine JE.next ?_)
    refine JC.ret ?_
    repeat (refine JE.then_ret ?_)
    exact JE.ret2 rfl (RV.tmp rfl) (RV.tmp rfl) fun w' hw => ⟨rfl, hw.chg⟩
theorem csw_any (s : List Bt) (c : Bt) (w : World) (hl : s.length < 9223372036854775808) : Calls Tryz.prog 122 [Z s, Z [c]].toArray w fun e w' => e = .returned (csV c s) ∧ Ext w w' := by
  refine enter (n := 11) Tryz.func122 rfl rfl rfl (Holds.start w []) ?_
  have hq := fun w' => scs_any s c w' hl
  unfold csV at hq ⊢
  by_cases h : s.getLast? = some c
  · simp only [h, if_true] at hq ⊢
    repeat (first | refine JL.q (by first | (apply OQ.callx (vs := [Z s, Z [c]]); exact goes_scs; exact rfl; exact (fun w' _ => hq w')) | (apply OQ.extract; exact rfl; exact rfl) | (apply OQ.move; exact rfl) | (apply OQ.assign; exact rfl)) rfl ?_ | refine JC.seq ?_ | refine JC.region ?_ | refine JL.nil ?_ | refine JE.next ?_)
    exact JC.ret (JE.ret2 rfl (RV.tmp rfl) (RV.tmp rfl) fun w' hw => ⟨rfl, hw.chg⟩)
  · simp only [h, if_false] at hq ⊢
    repeat (first | refine JL.q (by first | (apply OQ.callx (vs := [Z s, Z [c]]); exact goes_scs; exact rfl; exact (fun w' _ => hq w')) | (apply OQ.extract; exact rfl; exact rfl) | (apply OQ.move; exact rfl) | (apply OQ.assign; exact rfl)) rfl ?_ | refine JC.seq ?_ | refine JC.region ?_ | refine JL.nil ?_ | refine JE.next ?_)
    exact JC.ret (JE.ret2 rfl (RV.tmp rfl) (RV.tmp rfl) fun w' hw => ⟨rfl, hw.chg⟩)
/-! ### a byte's last place -/
theorem goes_lastb : Goes Tryz.prog 176 := ⟨_, Tryz.func176, rfl, by kernel_rfl⟩
theorem goes_lastw : Goes Tryz.prog 123 := ⟨_, Tryz.func123, rfl, by kernel_rfl⟩
set_option maxHeartbeats 2000000 in
theorem lastb_any (s : List Bt) (c : Bt) (w : World) (hl : s.length < 9223372036854775808) : Calls Tryz.prog 176 [Z s, U8 c].toArray w fun e w' => e = .returned (I (ixL c s)) ∧ Ext w w' := by
  refine enter (n := 19) Tryz.func176 rfl rfl rfl (Holds.start w []) ?_
  repeat (first | refine JL.q (by first | (apply OQ.lenS; exact Tryz.underlying9; exact rfl) | (apply OQ.subI (a := (s.length : Int)) (b := 1); exact rfl; exact rfl; exact (by omega); exact (by omega)) | (apply OQ.move; exact rfl) | (apply OQ.assign; exact rfl)) rfl ?_ | refine JC.seq ?_ | refine JC.region ?_ | refine JC.block ?_ | refine JL.nil ?_ | refine JE.next ?_)
  refine JC.loop (fun i : Int => [(0, Z s), (1, U8 c), (5, I i)]) (fun _ => []) (fun i => (i + 1).toNat) (fun i => -1 ≤ i ∧ i < s.length ∧ (la c s : Int) = (s.length : Int) - 1 - i + la c (s.take (i + 1).toNat)) ((s.length : Int) - 1) ⟨by omega, by omega, by rw [show ((s.length : Int) - 1 + 1).toNat = s.length by omega, List.take_length]; omega⟩ (by repeat (first | exact SubE.nil | refine SubE.cons _ _ _ rfl ?_)) (Less.refl _) ?_
  rintro i ⟨h1, h2, h3⟩
  cases g : decide ((0 : Int) ≤ i)
  · have hi : i = -1 := by have := of_decide_eq_false g; omega
    subst hi
    have e : ixL c s = -1 := by
      unfold ixL
      have : la c (s.take ((-1 : Int) + 1).toNat) = 0 := rfl
      rw [this] at h3
      omega
    rw [e]
    repeat (first | refine JL.q (by first | (apply OQ.geqB (b := 0); exact rfl; exact rfl; exact g) | (apply OQ.move; exact rfl)) rfl ?_ | refine JC.seq ?_ | refine JC.region ?_ | refine JL.nil ?_ | refine JE.next ?_)
    refine JC.cond rfl (fun h => by cases h) (fun _ => ?_)
    repeat (first | refine JL.q (by (apply OQ.assign; exact rfl)) rfl ?_ | refine JC.seq ?_ | refine JC.region ?_ | refine JC.exit ?_ | refine JL.nil ?_ | refine JE.next ?_ | refine JE.then_exit ?_ | refine JE.blk_hit ?_)
    refine JC.ret ?_
    exact JE.ret1 rfl (RV.tmp rfl) fun w' hw => ⟨rfl, hw.chg⟩
  · obtain ⟨k, rfl⟩ : ∃ k : Nat, i = k := ⟨i.toNat, by have := of_decide_eq_true g; omega⟩
    have hk : k < s.length := by omega
    have ht : s.take ((k : Int) + 1).toNat = s.take k ++ [s.getD k 0] := by
      rw [show ((k : Int) + 1).toNat = k + 1 by omega]
      exact take_succ_getD s hk
    rw [ht, la_snoc] at h3
    have i0 : ∀ {n : Nat} {E : Env} {C : World → Prop} {dst : Option Tmp} {ty : TypeId} {pos : String} {aft : Array Edge} {g : Option (Nat × Bool)} {x y : Operand}, ev E x = some (Z s) → ev E y = some (I k) → OQ Tryz.prog n E C ⟨dst, .index 9 x y, ty, pos, aft, g⟩ (U8 (s.getD k 0)) := fun hx hy => OQ.idxZ Tryz.underlying9 hx hy hk
    generalize s.getD k 0 = d at h3 i0
    cases g2 : decide (d = c)
    · rw [if_neg (of_decide_eq_false g2)] at h3
      repeat (first | refine JL.q (by first | (apply OQ.geqB (b := 0); exact rfl; exact rfl; exact g) | (apply OQ.move; exact rfl)) rfl ?_ | refine JC.seq ?_ | refine JC.region ?_ | refine JL.nil ?_ | refine JE.next ?_)
      refine JC.cond rfl (fun _ => ?_) (fun h => by cases h)
      repeat (first | refine JL.q (by first | (apply i0; exact rfl; exact rfl) | (apply OQ.to; exact (OQ.eq8 rfl rfl); exact (congrArg Value.bool g2)) | (apply OQ.move; exact rfl)) rfl ?_ | refine JC.seq ?_ | refine JC.region ?_ | refine JC.block ?_ | refine JC.skip ?_ | refine JL.nil ?_ | refine JE.next ?_)
      refine JC.cond rfl (fun h => by cases h) (fun _ => ?_)
      repeat (first | refine JL.q (by first | (apply OQ.subI (a := (k : Int)) (b := 1); exact rfl; exact rfl; exact (by omega); exact (by omega)) | (apply OQ.move; exact rfl) | (apply OQ.assign; exact rfl)) rfl ?_ | refine JC.region ?_ | refine JC.skip ?_ | refine JL.nil ?_ | refine JE.next ?_ | refine JE.blk_normal ?_)
      refine JE.again (i := (k : Int)) ((k : Int) - 1) ⟨by omega, by omega, ?_⟩ (by omega) (by repeat (first | exact SubE.nil | refine SubE.cons _ _ _ rfl ?_)) (Less.refl _)
      rw [show ((k : Int) - 1 + 1).toNat = k by omega]
      omega
    · rw [if_pos (of_decide_eq_true g2)] at h3
      have e : ixL c s = k := by
        unfold ixL
        omega
      rw [e]
      repeat (first | refine JL.q (by first | (apply OQ.geqB (b := 0); exact rfl; exact rfl; exact g) | (apply OQ.move; exact rfl)) rfl ?_ | refine JC.seq ?_ | refine JC.region ?_ | refine JL.nil ?_ | refine JE.next ?_)
      refine JC.cond rfl (fun _ => ?_) (fun h => by cases h)
      repeat (first | refine JL.q (by first | (apply i0; exact rfl; exact rfl) | (apply OQ.to; exact (OQ.eq8 rfl rfl); exact (congrArg Value.bool g2)) | (apply OQ.move; exact rfl)) rfl ?_ | refine JC.seq ?_ | refine JC.region ?_ | refine JC.block ?_ | refine JC.skip ?_ | refine JL.nil ?_ | refine JE.next ?_)
      refine JC.cond rfl (fun _ => ?_) (fun h => by cases h)
      repeat (first | refine JL.q (by first | (apply OQ.move; exact rfl) | (apply OQ.assign; exact rfl)) rfl ?_ | refine JC.seq ?_ | refine JC.region ?_ | refine JL.nil ?_ | refine JE.next ?_)
      refine JC.ret ?_
      repeat (first | refine JE.then_ret ?_ | refine JE.blk_ret ?_)
      exact JE.ret1 rfl (RV.tmp rfl) fun w' hw => ⟨rfl, hw.chg⟩
theorem lastw_any (s : List Bt) (c : Bt) (w : World) (hl : s.length < 9223372036854775808) : Calls Tryz.prog 123 [Z s, U8 c].toArray w fun e w' => e = .returned (I (ixL c s)) ∧ Ext w w' := by
  refine enter (n := 8) Tryz.func123 rfl rfl rfl (Holds.start w []) ?_
  repeat (first | refine JL.q (by first | (apply OQ.callx (vs := [Z s, U8 c]); exact goes_lastb; exact rfl; exact (fun w' _ => lastb_any s c w' hl)) | (apply OQ.move; exact rfl) | (apply OQ.assign; exact rfl)) rfl ?_ | refine JC.seq ?_ | refine JC.region ?_ | refine JL.nil ?_ | refine JE.next ?_)
  exact JC.ret (JE.ret1 rfl (RV.tmp rfl) fun w' hw => ⟨rfl, hw.chg⟩)
end Go.Proofs.YtdabhneehconeaaGreatDoor
