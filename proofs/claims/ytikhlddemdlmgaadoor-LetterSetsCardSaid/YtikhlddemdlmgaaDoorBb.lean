/-
  Of no statement by itself: the texts Slq, Slr, Sls, Slp, Prs, FieS, LetS, LtS, Slac, Prz, Slap, Slsu, Slfv, Slwi, LinB, FieW, FieT, FieA, LsP, LsA in one.
  Conditions: each theorem's own.
-/
import Derived.Test.YtikhlddemdlmgaaDoorBa
import Derived.Laws.BytesString
import Derived.Deep.AppendSrc
import Derived.Laws.StructEq
import Derived.Laws.Slices
import Derived.Laws.Strings2
import Derived.ScopeJumps
import Derived.Lib.Overlaps
import Derived.Laws.Cover3
import Derived.Lib.SlTrimSet
import Derived.Lib.IndexAny
import Derived.Laws.Externs
import Derived.Shelf.Strings.SlTrimAscii
/-
  Of no statement by itself: rules for strings as lists of bytes: length, one byte, equality, sums, the string of a slice's bytes; over X's partial knowledge of frame and memory, for any program P.
  Conditions: each rule's own hypotheses.
-/
namespace Go.Proofs.YtikhlddemdlmgaaDoor
open Sl
def strB (l : List Bt) : ByteArray := ⟨(l.map UInt8.ofBitVec).toArray⟩
@[reducible] def Z (l : List Bt) : Value := .string (strB l)
theorem strB_size (l : List Bt) : (strB l).size = l.length := by
  show (l.map UInt8.ofBitVec).toArray.size = l.length
  simp
theorem bytesOf_strB (l : List Bt) : bytesOf (strB l) = l := by
  show ((l.map UInt8.ofBitVec).toArray.toList).map UInt8.toBitVec = l
  simp [Function.comp_def]
theorem strB_bytesOf (s : ByteArray) : strB (bytesOf s) = s := by
  apply ByteArray.ext
  show ((s.data.toList.map UInt8.toBitVec).map UInt8.ofBitVec).toArray = s.data
  simp [Function.comp_def]
theorem strB_append (l r : List Bt) : strB l ++ strB r = strB (l ++ r) := by
  apply ByteArray.ext
  rw [ByteArray.data_append]
  show (l.map UInt8.ofBitVec).toArray ++ (r.map UInt8.ofBitVec).toArray = ((l ++ r).map UInt8.ofBitVec).toArray
  simp
theorem strB_eq (l r : List Bt) : ((strB l).toList == (strB r).toList) = decide (l = r) := by
  rw [ByteArray.toList_eq, ByteArray.toList_eq]
  show ((l.map UInt8.ofBitVec).toArray.toList == (r.map UInt8.ofBitVec).toArray.toList) = _
  rw [List.toList_toArray, List.toList_toArray]
  exact eq_list l r
section
variable {P : Program} {n : Nat} {E : Env} {C : World → Prop} {dst : Option Tmp} {ty t t' e : TypeId} {pos : String} {aft : Array Edge} {g : Option (Nat × Bool)} {x y : Operand} {l r : List Bt}
theorem OQ.lenS (hu : P.underlying t = some .string) (hx : ev E x = some (Z l)) : OQ P n E C ⟨dst, .call ⟨.builtin .len, #[x], #[t]⟩, ty, pos, aft, g⟩ (N l.length) :=
  strB_size l ▸ OQ.lenZ hu hx
theorem OQ.idxZ {k : IntKind} {i : Nat} (hu : P.underlying t = some .string) (hx : ev E x = some (Z l)) (hy : ev E y = some (.int k i)) (hi : i < l.length) : OQ P n E C ⟨dst, .index t x y, ty, pos, aft, g⟩ (U8 (l.getD i 0)) :=
  OQ.run fun a ha w _ => by
    have h1 := ha.eval hx
    have h2 := ha.eval hy
    have h3 : (underlying t).run P w = .ok .string w := run_underlying hu w
    have h4 : (strB l)[i]? = some (UInt8.ofBitVec (l.getD i 0)) := by
      have hs : i < (strB l).size := by rw [strB_size]; exact hi
      rw [getElem?_pos (strB l) i hs]
      show some (((l.map UInt8.ofBitVec).toArray)[i]'(by simpa using hi)) = _
      rw [List.getElem_toArray, List.getElem_map, List.getD_eq_getElem?_getD, List.getElem?_eq_getElem hi]; rfl
    simp [execOp, h1, h2, Instr.index, asIntOf, Sem.run_bind, h3, h4]
theorem OQ.eqS (hx : ev E x = some (Z l)) (hy : ev E y = some (Z r)) : OQ P n E C ⟨dst, .binOp .eql t x y t', ty, pos, aft, g⟩ (.bool (decide (l = r))) :=
  OQ.run fun a ha w _ => by
    have h1 := ha.eval hx
    have h2 := ha.eval hy
    simp [execOp, h1, h2, eqGuard, binOp, Op.stringOp, strB_eq]
theorem OQ.neS (hx : ev E x = some (Z l)) (hy : ev E y = some (Z r)) : OQ P n E C ⟨dst, .binOp .neq t x y t', ty, pos, aft, g⟩ (.bool (!decide (l = r))) :=
  OQ.run fun a ha w _ => by
    have h1 := ha.eval hx
    have h2 := ha.eval hy
    simp [execOp, h1, h2, eqGuard, binOp, Op.stringOp, strB_eq]
theorem OQ.eqS_t (hx : ev E x = some (Z l)) (hy : ev E y = some (Z r)) (h : l = r) : OQ P n E C ⟨dst, .binOp .eql t x y t', ty, pos, aft, g⟩ (.bool true) :=
  (decide_eq_true h : decide (l = r) = true) ▸ OQ.eqS hx hy
theorem OQ.eqS_f (hx : ev E x = some (Z l)) (hy : ev E y = some (Z r)) (h : ¬ l = r) : OQ P n E C ⟨dst, .binOp .eql t x y t', ty, pos, aft, g⟩ (.bool false) :=
  (decide_eq_false h : decide (l = r) = false) ▸ OQ.eqS hx hy
theorem OQ.addS (hx : ev E x = some (Z l)) (hy : ev E y = some (Z r)) (h : l.length + r.length < 9223372036854775808) : OQ P n E C ⟨dst, .binOp .add t x y t', ty, pos, aft, g⟩ (Z (l ++ r)) :=
  OQ.run fun a ha w _ => by
    have h1 := ha.eval hx
    have h2 := ha.eval hy
    have h3 : ¬ ((((strB l).size + (strB r).size : Nat) : Int) > IntKind.i64.max) := by
      rw [strB_size, strB_size, show IntKind.i64.max = 9223372036854775807 from rfl]
      omega
    have h4 : (Op.stringOp .add (strB l) (strB r)).run P w = .ok (Z (l ++ r)) w := by
      unfold Op.stringOp
      simp only
      rw [if_neg h3, strB_append]; rfl
    simp [execOp, h1, h2, eqGuard, binOp, h4, Sem.run_bind]
end
theorem push_all : ∀ (l : List Bt) (s : ByteArray), (l.map fun b => (b.toNat : Int)).foldl (fun r n => r.push (UInt8.ofNat n.toNat)) s = s ++ strB l
  | [], s => by
    apply ByteArray.ext
    rw [ByteArray.data_append]
    show s.data = s.data ++ #[]
    simp
  | b :: l, s => by
    rw [List.map_cons, List.foldl_cons, push_all l]
    apply ByteArray.ext
    rw [ByteArray.data_append, ByteArray.data_append, ByteArray.data_push]
    have e : UInt8.ofNat ((b.toNat : Int)).toNat = UInt8.ofBitVec b := by
      apply UInt8.toNat_inj.1
      simp
    rw [e]
    show s.data.push (UInt8.ofBitVec b) ++ (l.map UInt8.ofBitVec).toArray = s.data ++ ((b :: l).map UInt8.ofBitVec).toArray
    simp
theorem loadCells_reads {P : Program} {w : World} {ad : Addr} {cs : List Value} (h : Reads w (some ad) cs) : (loadCells ad cs.length).run P w = .ok cs.toArray w := by
  refine run_loadCells_list (P := P) w ad cs fun i v hv => ?_
  obtain ⟨b, j, h1, h2⟩ := h i v hv
  cases h1
  rw [add_off]; exact h2
section
variable {P : Program} {n : Nat} {E : Env} {w0 : World} {S : List Nat} {M : List Ent} {dst : Option Tmp} {ty t t' e : TypeId} {pos : String} {aft : Array Edge} {g : Option (Nat × Bool)} {x : Operand}
/-- string(b) -/
theorem OQ.b2s {s : Sl8} (hs : P.underlying t = some (.slice e)) (he : P.underlying e = some (.int .u8)) (hd : P.underlying t' = some .string) (hx : ev E x = some s.v) (hr : ∀ w, Holds w0 S M w → s.ok w) :
    OQ P n E (Holds w0 S M) ⟨dst, .convert t t' x, ty, pos, aft, g⟩ (Z s.l) :=
  OQ.run fun a ha w hw => by
    have h1 := ha.eval hx
    have ok := (hr w hw).reads
    have h2 : (convert t t' s.v).run P w = .ok (Z s.l) w := by
      obtain ⟨ad, cap, l⟩ := s
      show (convert t t' (.slice ad l.length cap)).run P w = _
      rw [run_convert_bytes_string w t t' e ad l.length cap hs he hd]
      cases ad with
      | none =>
        have : l = [] := by
          cases l with
          | nil => rfl
          | cons b l =>
            obtain ⟨_, _, h, _⟩ := ok 0 (U8 b) rfl
            cases h
        subst this
        rfl
      | some ad =>
        have h3 : (loadCells ad l.length).run P w = .ok ((l.map fun b => (b.toNat : Int)).map (Value.int .u8)).toArray w := by
          have := loadCells_reads (P := P) ok
          rw [List.length_map] at this
          rw [this, List.map_map]; rfl
        rw [run_bytesToString w ad l.length cap _ h3, push_all]
        have : ByteArray.empty ++ strB l = strB l := by
          apply ByteArray.ext
          rw [ByteArray.data_append]
          show #[] ++ (strB l).data = _
          simp
        rw [this]
    simp only [execOp, h1, Sem.run_bind, h2, Result.andThen_ok]; rfl
end
/-- x = append(x, v1, v2) -/
theorem JL.push2 {P : Program} {n : Nat} {w0 : World} {S : List Nat} {ops : Array Oper} {Q : Exit → Act → World → Prop} {l : List Oper} {E : Env} {M : List Ent} {t e ty ty' : TypeId} {x1 x2 y : Operand} {z v1 v2 : Value} {by' k cap b d1 d2 : Nat} {pos pos' : String} {aft aft' : Array Edge} {xs : List Value}
    (M' : Nat → Nat → List Ent) (hu : P.underlying t = some (.slice e)) (hi : EI P e z 1 by') (hz : z.cells.size = 1) (hx1 : ev E x1 = some v1) (hx2 : ev E x2 = some v2) (hv1 : v1.cells = #[v1]) (hv2 : v2.cells = #[v2]) (h1 : v1.oneCell' = true) (h2 : v2.oneCell' = true)
    (ha : ∀ bl, ev ((d1, .slice (some ⟨bl, 0, none⟩) 2 2) :: E) y = some (.slice (some ⟨b, 0, none⟩) k cap)) (hup : ∀ b' cap', Repl M b (Own e 1 k cap xs) b' (Own e 1 (k + 2) cap' (xs ++ [v1, v2])) (M' b' cap'))
    (hsm : (k + 2) * by' ≤ 140737488355328) (hsm2 : k + 2 < 9223372036854775808) (hd1 : Nat.blt d1 n = true) (hd2 : Nat.blt d2 n = true)
    (kk : ∀ bl b' cap', JL P n w0 S ops Q l ((d2, .slice (some ⟨b', 0, none⟩) (k + 2) cap') :: (d1, .slice (some ⟨bl, 0, none⟩) 2 2) :: E) (M' b' cap')) :
    JL P n w0 S ops Q (⟨some d1, .buildSlice t 2 #[(0, x1), (1, x2)], ty, pos, aft, none⟩ :: ⟨some d2, .call ⟨.builtin .append, #[y, .tmp d1], #[t, t]⟩, ty', pos', aft', none⟩ :: l) E M := by
  refine JL.litL (xs := [x1, x2]) (vs := [v1, v2]) hu hi hz rfl (by simp [evs, hx1, hx2]) (by simp [h1, h2]) (by simp [hv1, hv2]) rfl (by decide) (by decide) hd1 fun bl _ => ?_
  refine JL.append (cs := [v1, v2]) (m := 2) (ad := some ⟨bl, 0, none⟩) (sc := 2) (fun b' cap' => ⟨bl, Row e [v1, v2], true⟩ :: M' b' cap') hu hi (ha bl) (by simp [ev, lk]) (fun b' cap' => .there (hup b' cap')) rfl (fun w hw => ?_) (by simp [h1, h2]) hz (by decide) hsm hsm2 hd2 fun b' cap' => ?_
  · obtain ⟨o, ho, hA⟩ := hw.get (b := bl) (A := Row e [v1, v2]) (wr := true) .here
    exact Reads.block ho (Row.all _ hA)
  · exact ⟨fun a w ha hw => (kk bl b' cap').go a w ha (hw.weak (.drop _ _ _ (Less.refl _)))⟩
/-- an answer that is a slice of bytes -/
structure Ans (x : Sl8) (l : List Bt) : Prop where
  val : x.l = l
  none : x.ad = .none → x.l = []
theorem less_post (A M : List Ent) : Less M (A ++ M) := by
  induction A with
  | nil => exact Less.refl _
  | cons e A ih => exact .drop _ _ _ ih
theorem Ans.ok {x : Sl8} {l : List Bt} {w0 w : World} {S : List Nat} {M : List Ent} (h : Ans x l) (hw : Holds w0 S (x.ents ++ M) w) : x.ok w := Sl8.ents_ok hw h.none
theorem Ans.ok2 {x : Sl8} {l : List Bt} {w0 w : World} {S : List Nat} {A M : List Ent} (h : Ans x l) (hw : Holds w0 S (A ++ (x.ents ++ M)) w) : x.ok w := h.ok (hw.weak (less_post _ _))
theorem Ans.ok3 {x : Sl8} {l : List Bt} {w0 w : World} {S : List Nat} {A B M : List Ent} (h : Ans x l) (hw : Holds w0 S (A ++ (B ++ (x.ents ++ M))) w) : x.ok w := h.ok2 (hw.weak (less_post _ _))
theorem Ans.ok4 {x : Sl8} {l : List Bt} {w0 w : World} {S : List Nat} {A B D M : List Ent} (h : Ans x l) (hw : Holds w0 S (A ++ (B ++ (D ++ (x.ents ++ M)))) w) : x.ok w := h.ok3 (hw.weak (less_post _ _))
/-- an answer's length is within what it has room for -/
theorem JL.capf {P : Program} {n : Nat} {w0 : World} {S : List Nat} {ops : Array Oper} {Q : Exit → Act → World → Prop} {l : List Oper} {E : Env} {M : List Ent} {x : Sl8} {r : List Bt} (hx : Ans x r) (h : x.l.length ≤ x.cap → JL P n w0 S ops Q l E (x.ents ++ M)) : JL P n w0 S ops Q l E (x.ents ++ M) :=
  ⟨fun a w ha hw => (h (hx.ok hw).len).go a w ha hw⟩
theorem OQ.neI_t {P : Program} {n : Nat} {E : Env} {C : World → Prop} {dst : Option Tmp} {ty t t' : TypeId} {pos : String} {aft : Array Edge} {g : Option (Nat × Bool)} {x y : Operand} {k : IntKind} {a b : Int} (hx : ev E x = some (.int k a)) (hy : ev E y = some (.int k b)) (h : ¬ a = b) : OQ P n E C ⟨dst, .binOp .neq t x y t', ty, pos, aft, g⟩ (.bool true) := by
  have e : (!decide (a = b)) = true := by rw [decide_eq_false h]; rfl
  exact e ▸ OQ.nei hx hy
theorem by_ne {c d : Bt} (h : ¬ c = d) : ¬ (c.toNat : Int) = (d.toNat : Int) := fun e => h (BitVec.eq_of_toNat_eq (by omega))
end Go.Proofs.YtikhlddemdlmgaaDoor

/-
  Of no statement by itself: a call behind which the world that it left is the new beginning: what is known of that world stays a fact, as long as nothing of it is written; over X's partial knowledge, for any program P.
  Conditions: each rule's own hypotheses.
-/
namespace Go.Proofs.YtikhlddemdlmgaaDoor
open Sl
theorem Chg.over {w0 w1 w2 : World} {S : List Nat} (h1 : Ext w0 w1) (h2 : Chg S w1 w2) (hS : ∀ b ∈ S, w0.heap.size ≤ b) : Ext w0 w2 :=
  ⟨h2.os.trans h1.os, h2.tape.trans h1.tape, h2.output.trans h1.output, Nat.le_trans h1.size h2.size,
   fun k hk hk' => (h2.block k (Nat.lt_of_lt_of_le hk h1.size) (fun h => by have := hS k h; omega)).trans (h1.block k hk hk')⟩
theorem JL.callw {P : Program} {n : Nat} {w0 : World} {S S' : List Nat} {ops : Array Oper} {Q : Exit → Act → World → Prop} {l : List Oper} {E : Env} {M : List Ent} {d : Nat} {ty : TypeId} {pos : String} {aft : Array Edge} {ι : Type} (vf : ι → Value) (F : ι → World → Prop) (M' : List Ent)
    {f : FuncId} {xs : List Operand} {ats : Array TypeId} {vs : List Value} (hg : Goes P f) (hx : evs E xs = some vs) (hd : Nat.blt d n = true)
    (hc : ∀ w1, Holds w0 S M w1 → Calls P f vs.toArray w1 fun e w2 => ∃ i, e = .returned (vf i) ∧ Ext w1 w2 ∧ F i w2)
    (hM : Less M' M) (hS : ∀ e ∈ M', e.wr = true → e.b ∈ S')
    (k : ∀ i w1, Holds w0 S M w1 → F i w1 → JL P n w1 S' ops Q l ((d, vf i) :: E) M') : JL P n w0 S ops Q (⟨some d, .call ⟨.value (.func f), xs.toArray, ats⟩, ty, pos, aft, none⟩ :: l) E M :=
  ⟨fun a w ha hw => wpList_plain rfl fun K hK => by
    unfold Oper.wp
    rw [exec_call hg ha hx w]
    exact (hc w hw).mono fun e w' ⟨i, h1, h2, h3⟩ => by
      subst h1
      have hw' := hw.ext h2
      have hm := hw'.weak hM
      exact hK _ _ ((k i w' hw' h3).go _ _ (ha.put d _ hd) ⟨Chg.refl _ _, hm.nodup, fun e he => ⟨(hm.all e he).1, fun hr => .inl (hS e he hr)⟩⟩)⟩
/-- slices of slices of bytes -/
def flatE (rs : List Sl8) : List Ent := rs.flatMap Sl8.ents
theorem less_app {A B : List Ent} (C : List Ent) (h : Less A B) : Less A (C ++ B) := by
  induction C with
  | nil => exact h
  | cons e C ih => exact .drop _ _ _ ih
theorem less_mem {x : Sl8} : ∀ {rs : List Sl8}, x ∈ rs → Less x.ents (flatE rs)
  | y :: rs, h => by
    rcases List.mem_cons.1 h with rfl | h
    · exact less_pre _ _
    · exact less_app y.ents (less_mem h)
theorem flat_ok {rs : List Sl8} {w0 w : World} {S : List Nat} {A : List Ent} (hw : Holds w0 S (A ++ flatE rs) w) (h0 : ∀ x ∈ rs, x.ad = none → x.l = []) : ∀ x ∈ rs, x.ok w := fun x hx =>
  Sl8.ents_ok (M := []) (by rw [List.append_nil]; exact hw.weak (less_app A (less_mem hx))) (h0 x hx)
theorem less_app2 {B B' : List Ent} (h : Less B' B) : ∀ A : List Ent, Less (A ++ B') (A ++ B)
  | [] => h
  | ⟨_, _, _⟩ :: A => .keep _ _ _ _ _ _ (fun _ h => h) (less_app2 h A)
theorem JE.perm {n : Nat} {w0 : World} {S : List Nat} {Q : Exit → Act → World → Prop} {e : Exit} {E : Env} {M M' : List Ent} (hp : M.Perm M') (h : JE n w0 S Q e E M') : JE n w0 S Q e E M :=
  ⟨fun a w ha hw => h.go a w ha ⟨hw.chg, (hp.map Ent.b).nodup_iff.1 hw.nodup, fun e he => hw.all e (hp.mem_iff.2 he)⟩⟩
/-- a slice of slices of bytes -/
structure SlL where
  ad : Option Addr
  cap : Nat
  rs : List Sl8
def SlL.v (s : SlL) : Value := .slice s.ad s.rs.length s.cap
def SlL.ls (s : SlL) : List (List Bt) := s.rs.map Sl8.l
structure SlL.ok (w : World) (s : SlL) : Prop where
  len : s.rs.length ≤ s.cap
  reads : Reads w s.ad (s.rs.map Sl8.v)
  all : ∀ y ∈ s.rs, y.ok w
theorem ownL_ok {w0 w : World} {S : List Nat} {A : List Ent} {b cap : Nat} {e : TypeId} {rs : List Sl8} {wr : Bool} (hw : Holds w0 S (A ++ flatE rs) w) (hM : Has (A ++ flatE rs) b (Own e 1 rs.length cap (rs.map Sl8.v)) wr) (h0 : ∀ x ∈ rs, x.ad = none → x.l = []) : SlL.ok w ⟨some ⟨b, 0, none⟩, cap, rs⟩ := by
  obtain ⟨o, ho, hA⟩ := hw.get hM
  have hh := Own.cells _ hA
  obtain ⟨sp, rfl, h2, h3, h4⟩ := hA
  exact ⟨h4, Reads.block ho hh, flat_ok hw h0⟩
theorem own_less {e : TypeId} {k cap b : Nat} {l : List Bt} (h : l.length = k) : Less (Sl8.ents ⟨some ⟨b, 0, none⟩, cap, l⟩) [⟨b, Own e 1 k cap (l.map U8), true⟩] := by
  refine .keep _ _ _ _ _ _ (fun o ho => ?_) (.nil _)
  obtain ⟨sp, rfl, h1, h2, h3⟩ := ho
  refine ⟨⟨_, _, _, rfl, fun i hi => ?_⟩, ?_, rfl⟩
  · have hi : i < l.length := by simpa using hi
    simp [List.getElem?_append_left, hi]
  · show l.length ≤ cap
    omega
theorem flat_push {e : TypeId} {cap b : Nat} {l : List Bt} (rs : List Sl8) : Less (flatE (rs ++ [⟨some ⟨b, 0, none⟩, cap, l⟩])) (flatE rs ++ [⟨b, Own e 1 l.length cap (l.map U8), true⟩]) := by
  unfold flatE
  rw [List.flatMap_append]
  refine less_app2 ?_ _
  show Less (Sl8.ents _ ++ []) _
  rw [List.append_nil]
  exact own_less rfl
theorem perm3 (c a b : Ent) (F : List Ent) : (c :: ([a, b] ++ F)).Perm (c :: b :: (F ++ [a])) := .cons _ (List.perm_append_singleton a (b :: F)).symm
theorem Sl.Holds.base {w0 w1 w2 : World} {M : List Ent} (h1 : Ext w0 w1) (h : Holds w1 [] M w2) : Holds w0 [] M w2 :=
  ⟨Chg.over h1 h.chg (by simp), h.nodup, fun e he => ⟨(h.all e he).1, fun hr => .inr (((h.all e he).2 hr).elim (fun h => by simp at h) (fun h => Nat.le_trans h1.size h))⟩⟩
theorem JL.push3 {P : Program} {n : Nat} {w0 : World} {S : List Nat} {ops : Array Oper} {Q : Exit → Act → World → Prop} {l : List Oper} {E : Env} {M : List Ent} {t e ty ty' : TypeId} {x1 x2 x3 y : Operand} {z v1 v2 v3 : Value} {by' k cap b d1 d2 : Nat} {pos pos' : String} {aft aft' : Array Edge} {xs : List Value}
    (M' : Nat → Nat → List Ent) (hu : P.underlying t = some (.slice e)) (hi : EI P e z 1 by') (hz : z.cells.size = 1) (hx1 : ev E x1 = some v1) (hx2 : ev E x2 = some v2) (hx3 : ev E x3 = some v3) (hv1 : v1.cells = #[v1]) (hv2 : v2.cells = #[v2]) (hv3 : v3.cells = #[v3]) (h1 : v1.oneCell' = true) (h2 : v2.oneCell' = true) (h3 : v3.oneCell' = true)
    (ha : ∀ bl, ev ((d1, .slice (some ⟨bl, 0, none⟩) 3 3) :: E) y = some (.slice (some ⟨b, 0, none⟩) k cap)) (hup : ∀ b' cap', Repl M b (Own e 1 k cap xs) b' (Own e 1 (k + 3) cap' (xs ++ [v1, v2, v3])) (M' b' cap'))
    (hsm : (k + 3) * by' ≤ 140737488355328) (hsm2 : k + 3 < 9223372036854775808) (hd1 : Nat.blt d1 n = true) (hd2 : Nat.blt d2 n = true)
    (kk : ∀ bl b' cap', JL P n w0 S ops Q l ((d2, .slice (some ⟨b', 0, none⟩) (k + 3) cap') :: (d1, .slice (some ⟨bl, 0, none⟩) 3 3) :: E) (M' b' cap')) :
    JL P n w0 S ops Q (⟨some d1, .buildSlice t 3 #[(0, x1), (1, x2), (2, x3)], ty, pos, aft, none⟩ :: ⟨some d2, .call ⟨.builtin .append, #[y, .tmp d1], #[t, t]⟩, ty', pos', aft', none⟩ :: l) E M := by
  refine JL.litL (xs := [x1, x2, x3]) (vs := [v1, v2, v3]) hu hi hz rfl (by simp [evs, hx1, hx2, hx3]) (by simp [h1, h2, h3]) (by simp [hv1, hv2, hv3]) rfl (by decide) (by decide) hd1 fun bl _ => ?_
  refine JL.append (cs := [v1, v2, v3]) (m := 3) (ad := some ⟨bl, 0, none⟩) (sc := 3) (fun b' cap' => ⟨bl, Row e [v1, v2, v3], true⟩ :: M' b' cap') hu hi (ha bl) (by simp [ev, lk]) (fun b' cap' => .there (hup b' cap')) rfl (fun w hw => ?_) (by simp [h1, h2, h3]) hz (by decide) hsm hsm2 hd2 fun b' cap' => ?_
  · obtain ⟨o, ho, hA⟩ := hw.get (b := bl) (A := Row e [v1, v2, v3]) (wr := true) .here
    exact Reads.block ho (Row.all _ hA)
  · exact ⟨fun a w ha hw => (kk bl b' cap').go a w ha (hw.weak (.drop _ _ _ (Less.refl _)))⟩
theorem all8U (l : List Bt) : ∀ v ∈ l.map U8, v.oneCell' = true := by
  intro v hv
  obtain ⟨x, _, rfl⟩ := List.mem_map.1 hv
  rfl
theorem JE.ret3 {P : Program} {fn : Func} {R : Ending → World → Prop} {n : Nat} {w0 : World} {S : List Nat} {E : Env} {M : List Ent} {r1 r2 r3 : ResultVar} {v1 v2 v3 : Value} (hr : fn.results = #[r1, r2, r3]) (h1 : RV P n w0 S E M r1 v1) (h2 : RV P n w0 S E M r2 v2) (h3 : RV P n w0 S E M r3 v3) (hR : ∀ w, Holds w0 S M w → R (.returned (.tuple #[v1, v2, v3])) w) : JE n w0 S (bodyPost P fn R) .ret E M := by
  refine ⟨fun a w ha hw => ?_⟩
  refine ⟨ha.defers, .tuple #[v1, v2, v3], ?_, hR w hw⟩
  have e1 := h1 a w ha hw
  have e2 := h2 a w ha hw
  have e3 := h3 a w ha hw
  rw [results_eq, hr]
  simp [Sem.run_bind, e1, e2, e3]
theorem SlL.ok.holds {w0 w : World} {S : List Nat} {M : List Ent} {s : SlL} (h : s.ok w0) (hw : Holds w0 S M w) (hS : S = []) : s.ok w := ⟨h.len, hw.reads h.reads (fun _ a _ => by rw [hS]; simp), fun y hy => (h.all y hy).holds hw hS⟩
section
variable {P : Program} {n : Nat} {E : Env} {C : World → Prop} {dst : Option Tmp} {ty t t' : TypeId} {pos : String} {aft : Array Edge} {g : Option (Nat × Bool)} {x y : Operand}
theorem OQ.minI {a c : Int} (hx : ev E x = some (.int .i64 a)) (hy : ev E y = some (.int .i64 c)) : OQ P n E C ⟨dst, .call ⟨.builtin .min, #[x, y], #[t, t']⟩, ty, pos, aft, g⟩ (.int .i64 (min a c)) :=
  OQ.run fun ac ha w _ => by
    have h1 := ha.eval hx
    have h2 := ha.eval hy
    have h3 : (if c < a then c else a) = min a c := by split <;> omega
    simp [execOp, h1, h2, resolve, invoke, builtin, Builtin.min_, Builtin.min2, Sem.run_bind, h3]
theorem OQ.maxI {a c : Int} (hx : ev E x = some (.int .i64 a)) (hy : ev E y = some (.int .i64 c)) : OQ P n E C ⟨dst, .call ⟨.builtin .max, #[x, y], #[t, t']⟩, ty, pos, aft, g⟩ (.int .i64 (max a c)) :=
  OQ.run fun ac ha w _ => by
    have h1 := ha.eval hx
    have h2 := ha.eval hy
    have h3 : (if a < c then c else a) = max a c := by split <;> omega
    simp [execOp, h1, h2, resolve, invoke, builtin, Builtin.max_, Builtin.max2, Sem.run_bind, h3]
end
end Go.Proofs.YtikhlddemdlmgaaDoor

/-
  Of no statement by itself: append of a string's bytes onto a slice of the function's own; over X's partial knowledge, for any program P.
  Conditions: each rule's own hypotheses.
-/
namespace Go.Proofs.YtikhlddemdlmgaaDoor
namespace Sl
section
variable {P : Program} {t tx e : TypeId}
theorem byteCells_strB (l : List Bt) : Go.byteCells (strB l) = l.map U8 := by
  unfold Go.byteCells strB
  simp [U8, Function.comp_def]
theorem run_appendS_room (w : World) (ty : TypeId) (i : TypeInfo) (ht : P.underlying t = some (.slice e)) (hi : P.info? e = some i)
    (g sLen sCap : Nat) (x : Value) (m : Nat) (news : List Value) (hs : Src P i.size tx x m news w) (cur : Array Value) (hg : w.heap[g]? = some (.cells cur e (0, 0)))
    (hroom : sLen + m ≤ sCap) (hfit : sLen * i.size + news.length ≤ cur.size) :
    (Builtin.append_ #[t, tx] ty #[.slice (some ⟨g, 0, none⟩) sLen sCap, x]).run P w =
      .ok (.slice (some ⟨g, 0, none⟩) (sLen + m) sCap) (w.setRow g (cur.toList.take (sLen * i.size) ++ news ++ cur.toList.drop (sLen * i.size + news.length)).toArray) := by
  have hst := run_storeCells_at P g (sLen * i.size) e news 0 cur w hg (by simpa using hfit) hs.one
  simp only [Nat.add_zero] at hst
  rcases hs.kind with ⟨e', hk⟩ | hk <;> simp [Builtin.append_, run_underlying ht, run_underlying hk, sizeOf, typeInfo, hi, hs.len, hroom, hs.cells, Addr.add_lit] at hst ⊢ <;> simp [hst]
variable {n : Nat} {w0 : World} {S : List Nat} {ops : Array Oper} {Q : Exit → Act → World → Prop} {l : List Oper} {E : Env} {M : List Ent} {d b : Nat} {ty : TypeId} {pos : String} {aft : Array Edge} {x y : Operand}
theorem JL.appendS {k cap : Nat} {xs : List Value} {r : List Bt} (M' : Nat → Nat → List Ent) (hu : P.underlying t = some (.slice e)) (hk : P.underlying tx = some .string) (hi : EI P e (.int .u8 0) 1 1) (hx : ev E x = some (.slice (some ⟨b, 0, none⟩) k cap)) (hy : ev E y = some (Z r))
    (hup : ∀ b' cap', Repl M b (Own e 1 k cap xs) b' (Own e 1 (k + r.length) cap' (xs ++ r.map U8)) (M' b' cap'))
    (hsm : (k + r.length) ≤ 140737488355328) (hd : Nat.blt d n = true)
    (kk : ∀ b' cap', JL P n w0 S ops Q l ((d, .slice (some ⟨b', 0, none⟩) (k + r.length) cap') :: E) (M' b' cap')) : JL P n w0 S ops Q (⟨some d, .call ⟨.builtin .append, #[x, y], #[t, tx]⟩, ty, pos, aft, none⟩ :: l) E M :=
  ⟨fun a w ha hw => wpList_plain rfl fun K hK => by
    obtain ⟨i, hi1, hi2, hi3, hi4⟩ := hi.get
    obtain ⟨o, ho, sp, rfl, hc1, hc2, hc3⟩ := hw.get (hup 0 0).has
    have hsrc : Src P i.size tx (Z r) r.length (r.map U8) w := by
      have := Src.ofString (P := P) w hk (strB r)
      rw [byteCells_strB, strB_size] at this
      rw [hi3]; exact this
    unfold Oper.wp
    simp only [execOp, resolve, invoke, builtin, Sem.run_bind, Sem.run_pure, Result.andThen_ok, List.map_toArray, List.map_cons, List.map_nil, ha.eval hx, ha.eval hy]
    by_cases hroom : k + r.length ≤ cap
    · have hfit : k * i.size + (r.map U8).length ≤ (xs ++ sp).toArray.size := by
        rw [List.size_toArray, hc1, hi3, List.length_map]; omega
      rw [run_appendS_room w ty i hu hi1 b k cap (Z r) r.length (r.map U8) hsrc (xs ++ sp).toArray ho hroom hfit]
      refine hK _ _ ((kk b cap).go _ _ (ha.put d _ hd) (hw.write (hup b cap).upd (o' := .cells ((xs ++ sp).take (k * i.size) ++ r.map U8 ++ (xs ++ sp).drop (k * i.size + (r.map U8).length)).toArray e (0, 0)) ?_ (setRow_heap w b _ _ e _ ho) (by simp) (fun q hq => setRow_other w b q _ hq) rfl rfl rfl))
      rw [hi3, ← hc2, List.take_left]
      refine ⟨(xs ++ sp).drop (xs.length + (r.map U8).length), rfl, ?_, by rw [List.length_append, hc2, List.length_map, Nat.add_mul, Nat.mul_one r.length], hroom⟩
      simp only [List.size_toArray] at hfit
      simp only [List.length_append, List.length_drop, List.length_map] at hfit hc1 ⊢
      rw [hi3] at hfit
      omega
    · have hold : ∀ u v, xs[u]? = some v → w.cell? ((⟨b, 0, none⟩ : Addr).add u) = some v := fun u v hv => by
        rw [add_off]
        have hu' : u < xs.length := (List.getElem?_eq_some_iff.1 hv).1
        exact cell_of ho (by simpa [cellAt, List.getElem?_append_left hu'] using hv)
      have hfit := growslice_fits (need := k + r.length) (old := cap) (bytes := 1) (by omega) (by omega)
      have hfo := run_firstCells_some (P := P) w.drew i.size k ⟨b, 0, none⟩ k cap xs (by rw [hc2, hi3]) (by simpa using hold)
      rw [run_append_grow_src w t tx ty e i (.int .u8 0) hu hi1 hi2 (some ⟨b, 0, none⟩) k cap xs hfo (Z r) r.length (r.map U8) hsrc (by omega) (by omega) (by rw [hi4]; exact hfit)]
      have hge := grownCap_ge w (k + r.length) cap e
      generalize grownCap w (k + r.length) cap e = nc at hge
      refine hK _ _ ((kk w.heap.size nc).go _ _ (ha.put d _ hd) (hw.renew (.cells ((xs ++ r.map U8).toArray ++ Builtin.zeroCells (Value.int .u8 0).cells (nc - (k + r.length))) e) (hup _ _) ?_ rfl rfl rfl rfl))
      have h8 : (Builtin.zeroCells (Value.int .u8 0).cells (nc - (k + r.length))).size = (nc - (k + r.length)) := by
        rw [show (Value.int .u8 0).cells = #[Value.int .u8 0] from rfl]; simp [Builtin.zeroCells]
      refine ⟨(Builtin.zeroCells (Value.int .u8 0).cells (nc - (k + r.length))).toList, by simp, ?_, by rw [List.length_append, hc2, List.length_map, Nat.add_mul, Nat.mul_one r.length], hge⟩
      simp only [List.length_append, Array.length_toList, h8, hc2, List.length_map]
      omega⟩
end
end Sl
end Go.Proofs.YtikhlddemdlmgaaDoor

/-
  Of no statement by itself: comparisons whose answers were told apart ahead of the walk; and small rules; for any program P.
  Conditions: each rule's own hypotheses.
-/
namespace Go.Proofs.YtikhlddemdlmgaaDoor
namespace Sl
section
variable {P : Program} {n : Nat} {E : Env} {C : World → Prop} {dst : Option Tmp} {t t' ty : TypeId} {pos : String} {aft : Array Edge} {g : Option (Nat × Bool)} {x y : Operand} {c : Bool}
theorem OQ.lssB {k : IntKind} {a b : Int} (hx : ev E x = some (.int k a)) (hy : ev E y = some (.int k b)) (h : decide (a < b) = c) : OQ P n E C ⟨dst, .binOp .lss t x y t', ty, pos, aft, g⟩ (.bool c) := OQ.bin hx hy rfl fun _ => by cases k <;> exact okBool h
theorem OQ.leqB {k : IntKind} {a b : Int} (hx : ev E x = some (.int k a)) (hy : ev E y = some (.int k b)) (h : decide (a ≤ b) = c) : OQ P n E C ⟨dst, .binOp .leq t x y t', ty, pos, aft, g⟩ (.bool c) := OQ.bin hx hy rfl fun _ => by cases k <;> exact okBool h
theorem OQ.gtrB {k : IntKind} {a b : Int} (hx : ev E x = some (.int k a)) (hy : ev E y = some (.int k b)) (h : decide (b < a) = c) : OQ P n E C ⟨dst, .binOp .gtr t x y t', ty, pos, aft, g⟩ (.bool c) := OQ.bin hx hy rfl fun _ => by cases k <;> exact okBool h
theorem OQ.geqB {k : IntKind} {a b : Int} (hx : ev E x = some (.int k a)) (hy : ev E y = some (.int k b)) (h : decide (b ≤ a) = c) : OQ P n E C ⟨dst, .binOp .geq t x y t', ty, pos, aft, g⟩ (.bool c) := OQ.bin hx hy rfl fun _ => by cases k <;> exact okBool h
theorem OQ.eqB {k : IntKind} {a b : Int} (hx : ev E x = some (.int k a)) (hy : ev E y = some (.int k b)) (h : decide (a = b) = c) : OQ P n E C ⟨dst, .binOp .eql t x y t', ty, pos, aft, g⟩ (.bool c) := h ▸ OQ.eqi hx hy
theorem OQ.neB {k : IntKind} {a b : Int} (hx : ev E x = some (.int k a)) (hy : ev E y = some (.int k b)) (h : decide (a = b) = c) : OQ P n E C ⟨dst, .binOp .neq t x y t', ty, pos, aft, g⟩ (.bool (!c)) := by
  have := OQ.nei (P := P) (n := n) (C := C) (dst := dst) (ty := ty) (t := t) (t' := t') (pos := pos) (aft := aft) (g := g) hx hy
  rw [h] at this
  exact this
theorem OQ.ne8B {a b : BitVec 8} (hx : ev E x = some (U8 a)) (hy : ev E y = some (U8 b)) (h : decide (a = b) = c) : OQ P n E C ⟨dst, .binOp .neq t x y t', ty, pos, aft, g⟩ (.bool (!c)) := by
  have := OQ.ne8 (P := P) (n := n) (C := C) (dst := dst) (ty := ty) (t := t) (t' := t') (pos := pos) (aft := aft) (g := g) hx hy
  rw [h] at this
  exact this
theorem OQ.notB {b : Bool} (hx : ev E x = some (.bool b)) (h : (!b) = c) : OQ P n E C ⟨dst, .unOp .not t x, ty, pos, aft, g⟩ (.bool c) := h ▸ OQ.not hx
/-- a call whose answer was told apart -/
theorem OQ.callb {w0 : World} {S : List Nat} {M : List Ent} {f : FuncId} {xs : List Operand} {ats : Array TypeId} {vs : List Value} {b : Bool} (hg : Goes P f) (hx : evs E xs = some vs) (hc : ∀ w, Calls P f vs.toArray w fun e w' => e = .returned (.bool b) ∧ Ext w w') (h : b = c) :
    OQ P n E (Holds w0 S M) ⟨dst, .call ⟨.value (.func f), xs.toArray, ats⟩, ty, pos, aft, g⟩ (.bool c) := h ▸ OQ.callx hg hx fun w _ => hc w
end
theorem JC.joinB {P : Program} {n : Nat} {w0 : World} {S : List Nat} {Q Q' : Exit → Act → World → Prop} {E : Env} {M : List Ent} {ι : Type} {id : Nat} (Ei : ι → Env) (Mi : ι → List Ent) (I : ι → Prop) {p q : Code} (h : JC P n w0 S (Exit.inBlock id (Exit.then (fun a' w' => ∃ i, I i ∧ Knows n (Ei i) a' ∧ Holds w0 S (Mi i) w') Q)) p E M)
    (k : ∀ i, I i → JC P n w0 S Q' q (Ei i) (Mi i)) : JC P n w0 S (Exit.inBlock id (Exit.then (q.wp P Q') Q)) p E M :=
  ⟨fun a w ha hw => wp_mono (h.go a w ha hw) fun e a' w' he => by
    cases e with
    | normal => obtain ⟨i, hi, h1, h2⟩ := he; exact (k i hi).go a' w' h1 h2
    | exit id' =>
      by_cases hid : id' = id
      · subst hid
        have he : (if id' = id' then (Exit.then (fun a' w' => ∃ i, I i ∧ Knows n (Ei i) a' ∧ Holds w0 S (Mi i) w') Q) .normal a' w' else _) := he
        rw [if_pos rfl] at he
        obtain ⟨i, hi, h1, h2⟩ := he
        show (if id' = id' then _ else _)
        rw [if_pos rfl]
        exact (k i hi).go a' w' h1 h2
      · have he : (if id' = id then _ else (Exit.then _ Q) (.exit id') a' w') := he
        rw [if_neg hid] at he
        show (if id' = id then _ else _)
        rw [if_neg hid]
        exact he
    | goto _ => exact he
    | ret => exact he
    | panic _ => exact he
    | outgrown => exact he⟩
/-- what is known, to be read alone -/
def ro (M : List Ent) : List Ent := M.map fun e => ⟨e.b, e.A, false⟩
theorem ro_holds {w0 w : World} {S : List Nat} {M : List Ent} (h : Holds w0 S M w) : Holds w [] (ro M) w := by
  refine ⟨Chg.refl _ _, ?_, fun e he => ?_⟩
  · have e : (ro M).map Ent.b = M.map Ent.b := by simp [ro, Function.comp_def]
    rw [e]; exact h.nodup
  · obtain ⟨e', he', rfl⟩ := List.mem_map.1 he
    exact ⟨(h.all e' he').1, fun h => by cases h⟩
/-- a call behind which the world that it left is the new beginning; what is known is kept, to be read -/
theorem JL.callr {P : Program} {n : Nat} {w0 : World} {S : List Nat} {ops : Array Oper} {Q : Exit → Act → World → Prop} {l : List Oper} {E : Env} {M : List Ent} {d : Nat} {ty : TypeId} {pos : String} {aft : Array Edge} {ι : Type} (vf : ι → Value) (F : ι → World → Prop)
    {f : FuncId} {xs : List Operand} {ats : Array TypeId} {vs : List Value} (hg : Goes P f) (hx : evs E xs = some vs) (hd : Nat.blt d n = true)
    (hc : ∀ w1, Holds w0 S M w1 → Calls P f vs.toArray w1 fun e w2 => ∃ i, e = .returned (vf i) ∧ Ext w1 w2 ∧ F i w2)
    (k : ∀ i w1, Holds w0 S M w1 → F i w1 → JL P n w1 [] ops Q l ((d, vf i) :: E) (ro M)) : JL P n w0 S ops Q (⟨some d, .call ⟨.value (.func f), xs.toArray, ats⟩, ty, pos, aft, none⟩ :: l) E M :=
  ⟨fun a w ha hw => wpList_plain rfl fun K hK => by
    unfold Oper.wp
    rw [exec_call hg ha hx w]
    exact (hc w hw).mono fun e w' ⟨i, h1, h2, h3⟩ => by
      subst h1
      exact hK _ _ ((k i w' (hw.ext h2) h3).go _ _ (ha.put d _ hd) (ro_holds (hw.ext h2)))⟩
/-- all of the first ones, one more -/
theorem all_take {α : Type} (p : α → Bool) (l : List α) (d : α) {i : Nat} (h : i < l.length) : (l.take (i + 1)).all p = ((l.take i).all p && p (l.getD i d)) := by
  rw [List.take_add_one, List.getD_eq_getElem?_getD, List.getElem?_eq_getElem h, List.all_append]
  simp only [Option.toList_some, Option.getD_some, List.all_cons, List.all_nil, Bool.and_true]
theorem all_bad {α : Type} (p : α → Bool) (l : List α) (d : α) {i : Nat} (h : i < l.length) (hb : p (l.getD i d) = false) : l.all p = false := by
  rw [List.all_eq_false]
  refine ⟨l.getD i d, ?_, by rw [hb]; decide⟩
  rw [List.getD_eq_getElem?_getD, List.getElem?_eq_getElem h]
  exact List.getElem_mem h
end Sl
end Go.Proofs.YtikhlddemdlmgaaDoor

/-
  Of no statement by itself: slices of pairs of strings (fields, parameters) as arguments and as answers.
  Conditions: each theorem's own.
-/
namespace Go.Proofs.YtikhlddemdlmgaaDoor
set_option maxRecDepth 10000
open Sl
abbrev Pr := List Bt × List Bt
def pc (p : Pr) : List Value := [Z p.1, Z p.2]
structure Sl2 where
  ad : Option Addr
  cap : Nat
  l : List Pr
def Sl2.cells (s : Sl2) : List Value := s.l.flatMap pc
def Sl2.v (s : Sl2) : Value := .slice s.ad s.l.length s.cap
structure Sl2.ok (w : World) (s : Sl2) : Prop where
  len : s.l.length ≤ s.cap
  reads : Reads w s.ad s.cells
theorem Sl2.ok.holds {w0 w : World} {S : List Nat} {M : List Ent} {s : Sl2} (h : s.ok w0) (hw : Holds w0 S M w) (hS : S = []) : s.ok w := ⟨h.len, hw.reads h.reads (fun _ a _ => by rw [hS]; simp)⟩
theorem Sl2.ok.ext {w w' : World} {s : Sl2} (h : s.ok w) (hx : Ext w w') : s.ok w' := h.holds (⟨hx, by simp, by simp⟩ : Holds w [] [] w') rfl
def nil2 : Sl2 := ⟨none, 0, []⟩
theorem nil2_ok (w : World) : nil2.ok w := ⟨by simp [nil2], Reads.nil _ _⟩
theorem pc_at : ∀ (l : List Pr) {i : Nat}, i < l.length → (l.flatMap pc)[2 * i]? = some (Z (l.getD i ([], [])).1) ∧ (l.flatMap pc)[2 * i + 1]? = some (Z (l.getD i ([], [])).2)
  | [], i, h => by simp at h
  | p :: l, 0, _ => ⟨rfl, rfl⟩
  | p :: l, i + 1, h => by
    have := pc_at l (i := i) (by simpa using h)
    simp only [List.flatMap_cons, List.getD_cons_succ]
    rw [show 2 * (i + 1) = 2 * i + 2 by omega]
    exact this
theorem pc_len (l : List Pr) : (l.flatMap pc).length = 2 * l.length := by
  induction l with
  | nil => rfl
  | cons p l ih => simp only [List.flatMap_cons, List.length_append, ih, List.length_cons]; show 2 + _ = _; omega
/-- where a pair stands -/
theorem Sl2.ok.at {w : World} {s : Sl2} (h : s.ok w) {i : Nat} (hi : i < s.l.length) : ∃ b j, s.ad = some ⟨b, j, none⟩ ∧ b < w.heap.size ∧ w.cell? ⟨b, j + i * 2, none⟩ = some (Z (s.l.getD i ([], [])).1) ∧ w.cell? ⟨b, j + i * 2 + 1, none⟩ = some (Z (s.l.getD i ([], [])).2) := by
  obtain ⟨h1, h2⟩ := pc_at s.l hi
  obtain ⟨b, j, e1, c1⟩ := h.reads _ _ h1
  obtain ⟨b', j', e2, c2⟩ := h.reads _ _ h2
  rw [e1] at e2
  cases e2
  exact ⟨b, j, e1, block_lt_of_cell c1, by rw [Nat.mul_comm]; exact c1, by rw [Nat.mul_comm, Nat.add_assoc]; exact c2⟩
theorem pair_cells {w : World} {b j : Nat} {p : Pr} (h1 : w.cell? ⟨b, j, none⟩ = some (Z p.1)) (h2 : w.cell? ⟨b, j + 1, none⟩ = some (Z p.2)) : ∀ i u, (pc p)[i]? = some u → w.cell? ⟨b, j + i, none⟩ = some u := by
  intro i u hu
  match i with
  | 0 => cases hu; exact h1
  | 1 => cases hu; exact h2
  | i + 2 => simp [pc] at hu
/-- equality of pairs -/
def EqP (P : Program) (t : TypeId) : Prop := P.eqGuardType P.depth t = false ∧ ∀ (p q : Pr) (w : World), (Op.equalIn 10000 t (.agg (pc p).toArray) (.agg (pc q).toArray)).run P w = .ok (decide (p = q)) w
def pairT (P : Program) (t str : TypeId) : Bool := match (P.fieldsOf t).toList with
  | [f0, f1] => f0.type == str && f1.type == str && f0.offset == 0 && f1.offset == 1 && f0.name != "_" && f1.name != "_"
  | _ => false
theorem eqP_of {P : Program} {t str : TypeId} (ht : P.underlying t = some (.struct (P.fieldsOf t))) (hp : P.stoodInHeld t = false) (hg : P.eqGuardType P.depth t = false) (hf : pairT P t str = true) (hs : P.underlying str = some .string) (hc : scal P str = true) : EqP P t := by
  obtain ⟨f0, f1, hf, h0, h1, o0, o1, b0, b1⟩ : ∃ f0 f1, (P.fieldsOf t).toList = [f0, f1] ∧ f0.type = str ∧ f1.type = str ∧ f0.offset = 0 ∧ f1.offset = 1 ∧ ¬ f0.name = "_" ∧ ¬ f1.name = "_" := by
    unfold pairT at hf
    split at hf
    · next f0 f1 e =>
      simp only [Bool.and_eq_true, beq_iff_eq, bne_iff_ne, ne_eq] at hf
      exact ⟨f0, f1, e, hf.1.1.1.1.1, hf.1.1.1.1.2, hf.1.1.1.2, hf.1.1.2, hf.1.2, hf.2⟩
    · cases hf
  refine ⟨hg, fun p q w => ?_⟩
  rw [run_equalIn_struct w 9999 t _ _ ht hp, hf]
  have e1 : ∀ (a b : List Bt) (w : World), (Op.equalIn 9999 str (.string (strB a)) (.string (strB b))).run P w = .ok (decide (a = b)) w := fun a b w => by
    rw [show (9999 : Nat) = 9998 + 1 from rfl, run_equalIn_string w 9998 str (strB a) (strB b) hs, strB_eq]
  have pa : ∀ (x y : Value) w, (part str #[x, y] 0).run P w = .ok x w := fun x y w => by simp [part, isAgg_scal hc]
  have pb : ∀ (x y : Value) w, (part str #[x, y] 1).run P w = .ok y w := fun x y w => by simp [part, isAgg_scal hc]
  simp only [Op.eqFields, h0, h1, o0, o1, b0, b1, ne_eq, not_false_eq_true, if_true, pc, Sem.run_bind, pa, pb, Result.andThen_ok, e1]
  by_cases c1 : p.1 = q.1 <;> by_cases c2 : p.2 = q.2 <;> simp [c1, c2, Prod.ext_iff, pb, e1]
section
variable {P : Program} {n : Nat} {E : Env} {C : World → Prop} {dst : Option Tmp} {t t' ty : TypeId} {pos : String} {aft : Array Edge} {g : Option (Nat × Bool)} {x y : Operand} {p q : Pr}
theorem OQ.eqP {c : Bool} (he : EqP P t) (hx : ev E x = some (.agg (pc p).toArray)) (hy : ev E y = some (.agg (pc q).toArray)) (h : decide (p = q) = c) : OQ P n E C ⟨dst, .binOp .eql t x y t', ty, pos, aft, g⟩ (.bool c) :=
  OQ.run fun a ha w _ => by
    have h1 := ha.eval hx
    have h2 := ha.eval hy
    have h4 := fun w => run_eqGuard_agg (P := P) (w := w) .eql t x y (pc p).toArray (pc q).toArray he.1
    have h5 := fun w => run_eql_struct (P := P) (w := w) t (pc p).toArray (pc q).toArray
    simp only [execOp, h1, h2, Sem.run_bind, h4, Result.andThen_ok, h5, he.2, h]
    rfl
theorem OQ.neP {c : Bool} (he : EqP P t) (hx : ev E x = some (.agg (pc p).toArray)) (hy : ev E y = some (.agg (pc q).toArray)) (h : decide (p = q) = c) : OQ P n E C ⟨dst, .binOp .neq t x y t', ty, pos, aft, g⟩ (.bool (!c)) :=
  OQ.run fun a ha w _ => by
    have h1 := ha.eval hx
    have h2 := ha.eval hy
    have h4 := fun w => run_eqGuard_agg (P := P) (w := w) .neq t x y (pc p).toArray (pc q).toArray he.1
    have h5 := fun w => run_neq_struct (P := P) (w := w) t (pc p).toArray (pc q).toArray
    simp only [execOp, h1, h2, Sem.run_bind, h4, Result.andThen_ok, h5, he.2, h]
    rfl
end
theorem strC : scal Tryd.prog 9 = true := by kernel_rfl
theorem strS : szT Tryd.prog 9 = some 1 := by kernel_rfl
theorem eq_take {l r : List Pr} {i : Nat} (hl : i < l.length) (hr : i < r.length) (h : l.take i = r.take i) (k : l.getD i ([], []) = r.getD i ([], [])) : l.take (i + 1) = r.take (i + 1) := by
  rw [List.take_add_one, List.take_add_one, h]
  rw [List.getD_eq_getElem?_getD, List.getD_eq_getElem?_getD, List.getElem?_eq_getElem hl, List.getElem?_eq_getElem hr] at k
  rw [List.getElem?_eq_getElem hl, List.getElem?_eq_getElem hr]
  simp only [Option.getD_some] at k
  rw [k]
def small2 (a : Sl2) : Prop := ∀ p ∈ a.l, p.1.length < 9223372036854775808 ∧ p.2.length < 9223372036854775808
theorem mem_getD {l : List Pr} {i : Nat} (h : i < l.length) : l.getD i ([], []) ∈ l := by
  rw [List.getD_eq_getElem?_getD, List.getElem?_eq_getElem h]
  exact List.getElem_mem h
end Go.Proofs.YtikhlddemdlmgaaDoor

/-
  Of no statement by itself: names and values of fields, folding, and how a head is read: pure; no program stands here.
  Conditions: none but each lemma's own.
-/
namespace Go.Proofs.YtikhlddemdlmgaaDoor
namespace Fld
abbrev By := BitVec 8
def bl (c : By) : Bool := c == 32 || c == 9
def nok (c : By) : Bool := decide (33 ≤ c.toNat) && decide (c.toNat ≤ 126) && !(c == 58)
def sok (c : By) : Bool := c == 9 || (decide (32 ≤ c.toNat) && decide (c.toNat ≤ 126))
def nameB (s : List By) : Bool := s.all nok && decide (1 ≤ s.length) && decide (s.length ≤ 64)
def valB (s : List By) : Bool := s.all sok && decide (s.length ≤ 8192) && (decide (s.length = 0) || (!bl (s.getD 0 0) && !bl (s.getD (s.length - 1) 0)))
def small (c : By) : By := if 65 ≤ c.toNat ∧ c.toNat ≤ 90 then c + 32 else c
def sameB (a b : List By) : Bool := decide (a.map small = b.map small)
/-! ### names -/
theorem small_nok : ∀ c : By, nok (small c) = nok c := by
  have h : ∀ c : Fin 256, nok (small (BitVec.ofNat 8 c.val)) = nok (BitVec.ofNat 8 c.val) := by decide +kernel
  intro c
  simpa using h ⟨c.toNat, c.isLt⟩
theorem all_small (s : List By) : (s.map small).all nok = s.all nok := by
  rw [List.all_map]
  congr 1
  funext c
  exact small_nok c
theorem same_len {a b : List By} (h : sameB a b = true) : a.length = b.length := by
  have := congrArg List.length (of_decide_eq_true h)
  simpa using this
theorem same_name {a b : List By} (h : sameB a b = true) : nameB a = nameB b := by
  unfold nameB
  rw [same_len h, ← all_small a, ← all_small b, of_decide_eq_true h]
theorem same_refl (a : List By) : sameB a a = true := decide_eq_true rfl
theorem same_symm (a b : List By) : sameB a b = sameB b a := decide_eq_decide.2 ⟨Eq.symm, Eq.symm⟩
theorem same_trans {a b c : List By} (h : sameB a b = true) (k : sameB b c = true) : sameB a c = true := decide_eq_true ((of_decide_eq_true h).trans (of_decide_eq_true k))
/-! ### folding -/
/-- a blank with none ahead -/
def tn (v : List By) (i : Nat) : Bool := decide (0 < i) && (bl (v.getD i 0) && !bl (v.getD (i - 1) 0))
/-- the next such one, from a place on, or the end -/
def scan (v : List By) (i : Nat) : Nat := if h : i < v.length then (if tn v i then i else scan v (i + 1)) else v.length
termination_by v.length - i
theorem scan_hit {v : List By} {i : Nat} (h : i < v.length) (ht : tn v i = true) : scan v i = i := by rw [scan, dif_pos h, if_pos ht]
theorem scan_go {v : List By} {i : Nat} (h : i < v.length) (ht : ¬ tn v i = true) : scan v i = scan v (i + 1) := by rw [scan, dif_pos h, if_neg ht]
theorem scan_end {v : List By} {i : Nat} (h : ¬ i < v.length) : scan v i = v.length := by rw [scan, dif_neg h]
theorem scan_le (v : List By) : ∀ i, scan v i ≤ v.length := by
  intro i
  generalize hk : v.length - i = k
  induction k generalizing i with
  | zero => rw [scan_end (by omega)]; exact Nat.le_refl _
  | succ k ih =>
    by_cases ht : tn v i = true
    · rw [scan_hit (by omega) ht]; omega
    · rw [scan_go (by omega) ht]; exact ih (i + 1) (by omega)
theorem scan_ge (v : List By) : ∀ i, i ≤ v.length → i ≤ scan v i := by
  intro i hi
  generalize hk : v.length - i = k
  induction k generalizing i with
  | zero => rw [scan_end (by omega)]; exact hi
  | succ k ih =>
    by_cases ht : tn v i = true
    · rw [scan_hit (by omega) ht]; exact Nat.le_refl _
    · rw [scan_go (by omega) ht]
      have := ih (i + 1) (by omega) (by omega)
      omega
theorem scan_tn (v : List By) : ∀ i, i ≤ v.length → scan v i < v.length → tn v (scan v i) = true := by
  intro i hi
  generalize hk : v.length - i = k
  induction k generalizing i with
  | zero => rw [scan_end (by omega)]; intro h; omega
  | succ k ih =>
    by_cases ht : tn v i = true
    · rw [scan_hit (by omega) ht]; intro _; exact ht
    · rw [scan_go (by omega) ht]; exact ih (i + 1) (by omega) (by omega)
/-- none in between -/
theorem scan_no (v : List By) : ∀ i, i ≤ v.length → ∀ j, i ≤ j → j < scan v i → ¬ tn v j = true := by
  intro i hi
  generalize hk : v.length - i = k
  induction k generalizing i with
  | zero => intro j h1 h2; rw [scan_end (by omega)] at h2; omega
  | succ k ih =>
    intro j h1 h2
    by_cases ht : tn v i = true
    · rw [scan_hit (by omega) ht] at h2; omega
    · rw [scan_go (by omega) ht] at h2
      by_cases e : j = i
      · rw [e]; exact ht
      · exact ih (i + 1) (by omega) (by omega) j (by omega) h2
/-- what is written, and how long its line is, when i bytes of the value are -/
def st (n v : List By) : Nat → List By × Nat
  | 0 => (n ++ [58, 32], n.length + 2)
  | i + 1 => if tn v i = true ∧ 76 < (st n v i).2 + scan v (i + 1) - i then ((st n v i).1 ++ [13, 10, v.getD i 0], 1) else ((st n v i).1 ++ [v.getD i 0], (st n v i).2 + 1)
def foldB (n v : List By) : List By := (st n v v.length).1 ++ [13, 10]
/-- a value with lines' ends ahead of some of its blanks -/
inductive Fo : List By → List By → Prop
  | nil : Fo [] []
  | byte (c : By) (v L : List By) : sok c = true → Fo v L → Fo (c :: v) (c :: L)
  | fold (c : By) (e v L : List By) : bl c = true → (e = [10] ∨ e = [13, 10]) → Fo v L → Fo (c :: v) (e ++ c :: L)
theorem bl_sok {c : By} (h : bl c = true) : sok c = true := by
  simp only [bl, Bool.or_eq_true, beq_iff_eq] at h
  rcases h with rfl | rfl <;> decide
theorem Fo.snoc {v L : List By} (h : Fo v L) {c : By} (hc : sok c = true) : Fo (v ++ [c]) (L ++ [c]) := by
  induction h with
  | nil => exact .byte c [] [] hc .nil
  | byte d v L hd _ ih => exact .byte d _ _ hd ih
  | fold d e v L hd he _ ih =>
    rw [List.append_assoc, List.cons_append]
    exact .fold d e _ _ hd he ih
theorem Fo.snocF {v L : List By} (h : Fo v L) {c : By} (hc : bl c = true) : Fo (v ++ [c]) (L ++ [13, 10, c]) := by
  induction h with
  | nil => exact .fold c [13, 10] [] [] hc (.inr rfl) .nil
  | byte d v L hd _ ih => exact .byte d _ _ hd ih
  | fold d e v L hd he _ ih =>
    rw [List.append_assoc, List.cons_append]
    exact .fold d e _ _ hd he ih
theorem take_succ_getD (v : List By) {i : Nat} (h : i < v.length) : v.take (i + 1) = v.take i ++ [v.getD i 0] := by
  rw [List.take_add_one, List.getD_eq_getElem?_getD, List.getElem?_eq_getElem h]; rfl
theorem tn_bl {v : List By} {i : Nat} (h : tn v i = true) : bl (v.getD i 0) = true := by
  simp only [tn, Bool.and_eq_true] at h; exact h.2.1
theorem sok_at {v : List By} (h : v.all sok = true) {i : Nat} (hi : i < v.length) : sok (v.getD i 0) = true := by
  rw [List.getD_eq_getElem?_getD, List.getElem?_eq_getElem hi]
  exact List.all_eq_true.1 h _ (List.getElem_mem hi)
theorem st_fo (n v : List By) (hv : v.all sok = true) : ∀ i, i ≤ v.length → ∃ L, (st n v i).1 = n ++ 58 :: L ∧ Fo (32 :: v.take i) L
  | 0, _ => ⟨[32], rfl, .byte 32 [] [] (by decide) .nil⟩
  | i + 1, hi => by
    obtain ⟨L, h1, h2⟩ := st_fo n v hv i (by omega)
    rw [take_succ_getD v (by omega)]
    unfold st
    split
    · next ht => exact ⟨L ++ [13, 10, v.getD i 0], by rw [h1]; simp, h2.snocF (tn_bl ht.1)⟩
    · exact ⟨L ++ [v.getD i 0], by rw [h1]; simp, h2.snoc (sok_at hv (by omega))⟩
theorem fold_fo (n v : List By) (hv : v.all sok = true) : ∃ L, foldB n v = n ++ 58 :: L ++ [13, 10] ∧ Fo (32 :: v) L := by
  obtain ⟨L, h1, h2⟩ := st_fo n v hv v.length (Nat.le_refl _)
  rw [List.take_length] at h2
  exact ⟨L, by rw [foldB, h1], h2⟩
/-! ### lines of a head -/
/-- the bytes up to the first LF -/
def pre10 (b : List By) : List By := b.takeWhile (· != 10)
def chop (l : List By) : List By := if l.getLast? = some 13 then l.dropLast else l
/-- the first line, and what is behind it -/
def cut (b : List By) : Option (List By × List By) := if (pre10 b).length < b.length then some (chop (pre10 b), b.drop ((pre10 b).length + 1)) else none
theorem pre10_le (b : List By) : (pre10 b).length ≤ b.length := by
  unfold pre10
  exact (List.takeWhile_sublist _).length_le
theorem cut_lt {b l r : List By} (h : cut b = some (l, r)) : r.length < b.length := by
  unfold cut at h
  split at h
  · cases h
    rw [List.length_drop]; omega
  · cases h
/-- the lines that go on, from here: what they hold, and what is behind -/
def conts (b : List By) : Option (List By × List By) :=
  if bl (b.getD 0 0) = true ∧ b ≠ [] then
    match h : cut b with
    | none => none
    | some (l, r) => (conts r).map fun q => (l ++ q.1, q.2)
  else some ([], b)
termination_by b.length
decreasing_by exact cut_lt h
/-- how many bytes a head has, its end too -/
def hend (b : List By) : Option Nat :=
  match h : cut b with
  | none => none
  | some (l, r) => if l = [] then some (b.length - r.length) else (hend r).map (· + (b.length - r.length))
termination_by b.length
decreasing_by exact cut_lt h
def trimL (v : List By) : List By := v.dropWhile bl
def trim (v : List By) : List By := (trimL (trimL v).reverse).reverse
/-- fields, k ahead of them; an error's number, or the fields and what is behind -/
def rd (k : Nat) (b : List By) : Except Nat (List (List By × List By) × List By) :=
  match h : cut b with
  | none => .error 3
  | some (l, r) =>
    if l = [] then .ok ([], r)
    else if (l.takeWhile (· != 58)).length = l.length ∨ ¬ nameB (l.takeWhile (· != 58)) = true then .error 3
    else if k = 200 then .error 4
    else match h2 : conts r with
      | none => .error 3
      | some (vs, r') =>
        if 8192 < (trim (l.drop ((l.takeWhile (· != 58)).length + 1) ++ vs)).length then .error 4
        else if ¬ (trim (l.drop ((l.takeWhile (· != 58)).length + 1) ++ vs)).all sok = true then .error 3
        else if hr : r'.length < b.length then (rd (k + 1) r').map fun q => ((l.takeWhile (· != 58), trim (l.drop ((l.takeWhile (· != 58)).length + 1) ++ vs)) :: q.1, q.2)
        else .error 3
termination_by b.length
def readB (b : List By) : Except Nat (List (List By × List By) × List By) :=
  if 65536 < (hend b).getD b.length then .error 4 else rd 0 b
/-! ### a line of known bytes -/
/-- bytes that no line's end has -/
def clean (p : List By) : Prop := ∀ c ∈ p, c ≠ 10 ∧ c ≠ 13
theorem clean.app {p q : List By} (h : clean p) (k : clean q) : clean (p ++ q) := fun c hc => by
  rcases List.mem_append.1 hc with h' | h'
  · exact h c h'
  · exact k c h'
theorem sok_clean {c : By} (h : sok c = true) : clean [c] := by
  intro d hd
  rw [List.mem_singleton] at hd
  subst hd
  refine ⟨?_, ?_⟩ <;> rintro rfl <;> exact absurd h (by decide)
theorem nok_clean {n : List By} (h : n.all nok = true) : clean n := by
  intro c hc
  have := List.all_eq_true.1 h c hc
  refine ⟨?_, ?_⟩ <;> rintro rfl <;> exact absurd this (by decide)
theorem pre10_app {p : List By} (h : ∀ c ∈ p, c ≠ 10) (b : List By) : pre10 (p ++ b) = p ++ pre10 b := by
  unfold pre10
  rw [List.takeWhile_append_of_pos]
  intro c hc
  exact bne_iff_ne.2 (h c hc)
def isE (e : List By) : Prop := e = [10] ∨ e = [13, 10]
theorem chop_clean {p : List By} (h : clean p) : chop p = p := by
  unfold chop
  split
  · next hl => exact absurd rfl ((h 13 (List.mem_of_getLast? hl)).2)
  · rfl
theorem chop_cr (p : List By) : chop (p ++ [13]) = p := by simp [chop]
theorem cut_line {p e b : List By} (hp : clean p) (he : isE e) : cut (p ++ e ++ b) = some (p, b) := by
  rcases he with rfl | rfl
  · have e1 : pre10 (p ++ [10] ++ b) = p := by
      rw [List.append_assoc, pre10_app (fun c hc => (hp c hc).1)]
      simp [pre10]
    unfold cut
    rw [e1, if_pos (by simp only [List.length_append, List.length_singleton]; omega), chop_clean hp]
    congr 2
    rw [List.append_assoc, List.drop_append, List.drop_of_length_le (by omega)]
    simp
  · have e1 : pre10 (p ++ [13, 10] ++ b) = p ++ [13] := by
      rw [List.append_assoc, pre10_app (fun c hc => (hp c hc).1)]
      simp [pre10]
    unfold cut
    rw [e1, if_pos (by simp only [List.length_append, List.length_cons, List.length_nil]; omega), chop_cr]
    congr 2
    rw [List.append_assoc, List.drop_append, List.length_append, List.length_singleton, List.drop_of_length_le (by omega)]
    simp [show p.length + 1 + 1 - p.length = 2 by omega]
theorem cut_none {p : List By} (h : ∀ c ∈ p, c ≠ 10) : cut p = none := by
  have : pre10 p = p := by
    have := pre10_app h []
    simpa [pre10] using this
  unfold cut
  rw [this, if_neg (by omega)]
end Fld
end Go.Proofs.YtikhlddemdlmgaaDoor

/-
  Of no statement by itself: a mail's fields of a name: all values, without them, with one of them (layer 11), and what holds between them; no program.
  Conditions: none.
-/
namespace Go.Proofs.YtikhlddemdlmgaaDoor
namespace Fld
abbrev PrB := List By × List By
def allB (n : List By) (l : List PrB) : List (List By) := (l.filter fun p => sameB p.1 n).map (·.2)
def dropB (n : List By) (l : List PrB) : List PrB := l.filter fun p => !sameB p.1 n
def setR (n v : List By) : List PrB → Bool → List PrB
  | [], d => if d then [] else [(n, v)]
  | p :: l, d => if sameB p.1 n then (if d then setR n v l d else (n, v) :: setR n v l true) else p :: setR n v l d
def setB (n v : List By) (l : List PrB) : List PrB := setR n v l false
/-! ### as bytes -/
def headB (l : List PrB) : List By := l.flatMap fun p => foldB p.1 p.2
def writeK (l : List PrB) (b : List By) : Nat := if l.all (fun p => nameB p.1 && valB p.2) then (if 200 < l.length ∨ 65536 < (headB l).length + 2 ∨ 2097152 < (headB l).length + 2 + b.length then 4 else 0) else 3
def writeO (l : List PrB) (b : List By) : List By := if writeK l b = 0 then headB l ++ [13, 10] ++ b else []
theorem all_cons (n : List By) (p : PrB) (l : List PrB) : allB n (p :: l) = if sameB p.1 n then p.2 :: allB n l else allB n l := by
  unfold allB
  rw [List.filter_cons]
  split <;> rfl
theorem all_nil (n : List By) : allB n [] = [] := rfl
theorem drop_cons (n : List By) (p : PrB) (l : List PrB) : dropB n (p :: l) = if sameB p.1 n then dropB n l else p :: dropB n l := by
  unfold dropB
  rw [List.filter_cons]
  cases sameB p.1 n <;> rfl
theorem all_len (n : List By) (l : List PrB) : (allB n l).length ≤ l.length := by
  unfold allB
  rw [List.length_map]
  exact List.length_filter_le _ _
theorem drop_len (n : List By) (l : List PrB) : (dropB n l).length ≤ l.length := List.length_filter_le _ _
theorem setR_len (n v : List By) : ∀ (l : List PrB) (d : Bool), (setR n v l d).length ≤ l.length + 1
  | [], d => by cases d <;> simp [setR]
  | p :: l, d => by
    have h1 := setR_len n v l d
    have h2 := setR_len n v l true
    unfold setR
    split
    · split
      · simp only [List.length_cons]; omega
      · simp only [List.length_cons]; omega
    · simp only [List.length_cons]; omega
theorem mem_setR (n v : List By) {p : PrB} : ∀ {l : List PrB} {d : Bool}, p ∈ setR n v l d → p = (n, v) ∨ p ∈ l
  | [], d, h => by cases d <;> simp [setR] at h; exact .inl h
  | q :: l, d, h => by
    unfold setR at h
    split at h
    · split at h
      · rcases mem_setR n v h with h | h
        · exact .inl h
        · exact .inr (List.mem_cons_of_mem _ h)
      · rcases List.mem_cons.1 h with h | h
        · exact .inl h
        · rcases mem_setR n v h with h | h
          · exact .inl h
          · exact .inr (List.mem_cons_of_mem _ h)
    · rcases List.mem_cons.1 h with h | h
      · exact .inr (List.mem_cons.2 (.inl h))
      · rcases mem_setR n v h with h | h
        · exact .inl h
        · exact .inr (List.mem_cons_of_mem _ h)
theorem mem_drop {n : List By} {p : PrB} {l : List PrB} (h : p ∈ dropB n l) : p ∈ l := (List.mem_filter.1 h).1
/-- behind a Drop there is none -/
theorem all_drop (n : List By) (l : List PrB) : allB n (dropB n l) = [] := by
  induction l with
  | nil => rfl
  | cons p l ih =>
    rw [drop_cons]
    cases h : sameB p.1 n
    · rw [if_neg (by decide), all_cons, h, if_neg (by decide)]; exact ih
    · rw [if_pos rfl]; exact ih
/-- behind a Set there is one -/
theorem all_setR (n v : List By) : ∀ (l : List PrB) (d : Bool), allB n (setR n v l d) = if d then [] else [v]
  | [], d => by cases d <;> simp [setR, all_cons, all_nil, same_refl]
  | p :: l, d => by
    unfold setR
    cases h : sameB p.1 n
    · rw [if_neg (by decide), all_cons, h, if_neg (by decide)]; exact all_setR n v l d
    · rw [if_pos rfl]
      cases d
      · rw [if_neg (by decide), all_cons, if_pos (same_refl n), all_setR n v l true]; rfl
      · rw [if_pos rfl]; exact all_setR n v l true
theorem all_set (n v : List By) (l : List PrB) : allB n (setB n v l) = [v] := all_setR n v l false
/-- other names' values stay -/
theorem same_other {a n o : List By} (h : sameB n o = false) (k : sameB a n = true) : sameB a o = false := by
  cases e : sameB a o with
  | false => rfl
  | true =>
    have := same_trans (b := a) (by rw [same_symm]; exact k) e
    rw [h] at this
    cases this
theorem other_drop (n o : List By) (h : sameB n o = false) (l : List PrB) : allB o (dropB n l) = allB o l := by
  induction l with
  | nil => rfl
  | cons p l ih =>
    rw [drop_cons]
    cases k : sameB p.1 n
    · rw [if_neg (by decide), all_cons, all_cons, ih]
    · rw [if_pos rfl, ih, all_cons, same_other h k, if_neg (by decide)]
theorem other_setR (n v o : List By) (h : sameB n o = false) : ∀ (l : List PrB) (d : Bool), allB o (setR n v l d) = allB o l
  | [], d => by cases d <;> simp [setR, all_cons, all_nil, h]
  | p :: l, d => by
    unfold setR
    cases k : sameB p.1 n
    · rw [if_neg (by decide), all_cons, all_cons, other_setR n v o h l d]
    · have e2 : allB o (p :: l) = allB o l := by rw [all_cons, same_other h k, if_neg (by decide)]
      rw [if_pos rfl, e2]
      cases d
      · rw [if_neg (by decide), all_cons, h, if_neg (by decide)]; exact other_setR n v o h l true
      · rw [if_pos rfl]; exact other_setR n v o h l true
theorem other_set (n v o : List By) (h : sameB n o = false) (l : List PrB) : allB o (setB n v l) = allB o l := other_setR n v o h l false
end Fld
end Go.Proofs.YtikhlddemdlmgaaDoor

/-
  Of no statement by itself: the first of a list's pairs for which something holds, and a list without those for which it does, pair by pair; no program.
  Conditions: none.
-/
namespace Go.Proofs.YtikhlddemdlmgaaDoor
open Sl
namespace Fld
def ixP (p : Pr → Bool) (l : List Pr) : Nat := (l.takeWhile fun c => !p c).length
def ixV (p : Pr → Bool) (l : List Pr) : Int := if ixP p l < l.length then (ixP p l : Int) else -1
theorem ixP_cons (p : Pr → Bool) (c : Pr) (l : List Pr) : ixP p (c :: l) = if p c then 0 else ixP p l + 1 := by
  unfold ixP
  rw [List.takeWhile_cons]
  cases p c <;> simp
theorem ixP_no {p : Pr → Bool} {c : Pr} (h : p c = false) (l : List Pr) : ixP p (c :: l) = ixP p l + 1 := by rw [ixP_cons, h]; rfl
theorem ixP_hit {p : Pr → Bool} {c : Pr} (h : p c = true) (l : List Pr) : ixP p (c :: l) = 0 := by rw [ixP_cons, h]; rfl
theorem ixP_nil (p : Pr → Bool) : ixP p [] = 0 := rfl
theorem ixP_le (p : Pr → Bool) : ∀ l : List Pr, ixP p l ≤ l.length
  | [] => Nat.le_refl _
  | c :: l => by
    have := ixP_le p l
    rw [ixP_cons]
    split
    · exact Nat.zero_le _
    · simp only [List.length_cons]; omega
theorem ixV_yes {p : Pr → Bool} {l : List Pr} (h : ixP p l < l.length) : ixV p l = (ixP p l : Int) := if_pos h
theorem ixV_no {p : Pr → Bool} {l : List Pr} (h : ¬ ixP p l < l.length) : ixV p l = -1 := if_neg h
theorem ix_all {p : Pr → Bool} : ∀ {l : List Pr}, ¬ ixP p l < l.length → (l.filter fun c => !p c) = l
  | [], _ => rfl
  | c :: l, h => by
    rw [ixP_cons] at h
    cases hc : p c
    · rw [hc, if_neg (by decide)] at h
      simp only [List.length_cons] at h
      rw [List.filter_cons, hc, Bool.not_false, if_pos rfl, ix_all (by omega)]
    · rw [hc, if_pos rfl] at h
      simp at h
/-- ahead of the first one all stay -/
theorem ix_split {p : Pr → Bool} : ∀ {l : List Pr}, ixP p l < l.length → ∃ c, l.drop (ixP p l) = c :: l.drop (ixP p l + 1) ∧ p c = true ∧ (l.filter fun c => !p c) = l.take (ixP p l) ++ ((l.drop (ixP p l + 1)).filter fun c => !p c)
  | [], h => by simp [ixP_nil] at h
  | c :: l, h => by
    rw [ixP_cons] at h ⊢
    cases hc : p c
    · rw [hc, if_neg (by decide)] at h
      rw [if_neg (by decide)]
      obtain ⟨d, h1, h2, h3⟩ := ix_split (p := p) (l := l) (by simpa using h)
      refine ⟨d, by simpa using h1, h2, ?_⟩
      rw [List.filter_cons, hc, Bool.not_false, if_pos rfl, h3]
      simp
    · rw [if_pos rfl]
      refine ⟨c, rfl, hc, ?_⟩
      rw [List.filter_cons, hc]
      simp
theorem ixP_at {p : Pr → Bool} {l : List Pr} (h : ixP p l < l.length) : p (l.getD (ixP p l) ([], [])) = true := by
  obtain ⟨c, h1, h2, _⟩ := ix_split h
  have : l[ixP p l]? = some c := by rw [← List.head?_drop, h1]; rfl
  rw [List.getD_eq_getElem?_getD, this]
  exact h2
theorem flat_take (A B : List Pr) : ((A ++ B).flatMap pc).take (A.length * 2) = A.flatMap pc := by
  rw [List.flatMap_append]
  exact List.take_left' (by rw [pc_len]; omega)
theorem flat_drop (A B : List Pr) : ((A ++ B).flatMap pc).drop (A.length * 2) = B.flatMap pc := by
  rw [List.flatMap_append]
  exact List.drop_left' (by rw [pc_len]; omega)
theorem flat_set (A B : List Pr) (x v : Pr) : ((A ++ x :: B).flatMap pc).take (A.length * 2) ++ pc v ++ ((A ++ x :: B).flatMap pc).drop (A.length * 2 + 2) = (A ++ v :: B).flatMap pc := by
  have e1 : A ++ x :: B = (A ++ [x]) ++ B := by simp
  have e2 : A.length * 2 + 2 = (A ++ [x]).length * 2 := by simp; omega
  rw [flat_take]
  conv => lhs; rw [e1, e2]
  rw [flat_drop]
  simp [List.flatMap_append]
/-! ### a mail's fields -/
theorem head_all (n : List By) (l : List Pr) : (allB n l).headD [] = if ixP (fun c => sameB c.1 n) l < l.length then (l.getD (ixP (fun c => sameB c.1 n) l) ([], [])).2 else [] := by
  induction l with
  | nil => rfl
  | cons c l ih =>
    rw [all_cons]
    cases h : sameB c.1 n
    · rw [if_neg (by decide), ixP_no (p := fun c : Pr => sameB c.1 n) h, ih]
      simp
    · rw [if_pos rfl, ixP_hit (p := fun c : Pr => sameB c.1 n) h]
      simp
theorem none_all (n : List By) (l : List Pr) : (!(allB n l).isEmpty) = decide (ixP (fun c => sameB c.1 n) l < l.length) := by
  induction l with
  | nil => rfl
  | cons c l ih =>
    rw [all_cons]
    cases h : sameB c.1 n
    · rw [if_neg (by decide), ixP_no (p := fun c : Pr => sameB c.1 n) h, ih]
      simp
    · rw [if_pos rfl, ixP_hit (p := fun c : Pr => sameB c.1 n) h]
      simp
theorem setR_done (n v : List By) (l : List Pr) : setR n v l true = dropB n l := by
  induction l with
  | nil => rfl
  | cons c l ih =>
    unfold setR
    rw [drop_cons]
    cases h : sameB c.1 n
    · rw [if_neg (by decide), if_neg (by decide), ih]
    · rw [if_pos rfl, if_pos rfl, if_pos rfl, ih]
/-- a Set is a Drop, and the field at the place of the first one, or behind all -/
theorem set_ix (n v : List By) : ∀ l : List Pr, setB n v l = if ixP (fun c => sameB c.1 n) l < l.length then (dropB n l).take (ixP (fun c => sameB c.1 n) l) ++ (n, v) :: (dropB n l).drop (ixP (fun c => sameB c.1 n) l) else dropB n l ++ [(n, v)]
  | [] => rfl
  | c :: l => by
    have ih := set_ix n v l
    unfold setB at ih ⊢
    unfold setR
    rw [drop_cons]
    cases h : sameB c.1 n
    · have e0 : (if (false : Bool) = true then dropB n l else c :: dropB n l) = c :: dropB n l := if_neg (by decide)
      rw [e0, if_neg (by decide), ixP_no (p := fun c : Pr => sameB c.1 n) h, ih]
      by_cases hx : ixP (fun c => sameB c.1 n) l < l.length
      · rw [if_pos hx, if_pos (by simpa using hx)]
        simp
      · rw [if_neg hx, if_neg (by simpa using hx)]
        simp
    · rw [ixP_hit (p := fun c : Pr => sameB c.1 n) h]
      simp [setR_done]
theorem drop_ix_le (n : List By) {l : List Pr} : ∀ (_ : ixP (fun c => sameB c.1 n) l < l.length), ixP (fun c => sameB c.1 n) l ≤ (dropB n l).length ∧ (dropB n l).length + 1 ≤ l.length := by
  intro h
  obtain ⟨c, h1, h2, h3⟩ := ix_split h
  have h4 : dropB n l = l.take (ixP (fun c => sameB c.1 n) l) ++ ((l.drop (ixP (fun c => sameB c.1 n) l + 1)).filter fun c => !sameB c.1 n) := h3
  rw [h4, List.length_append, List.length_take, Nat.min_eq_left (by omega)]
  have := List.length_filter_le (fun c : Pr => !sameB c.1 n) (l.drop (ixP (fun c => sameB c.1 n) l + 1))
  rw [List.length_drop] at this
  omega
theorem drop_no (n : List By) {l : List Pr} (h : ¬ ixP (fun c => sameB c.1 n) l < l.length) : dropB n l = l := ix_all h
end Fld
end Go.Proofs.YtikhlddemdlmgaaDoor

/-
  Of no statement by itself: a slice that begins as nil and is appended to; over X's partial knowledge, for any program P.
  Conditions: each rule's own hypotheses.
-/
namespace Go.Proofs.YtikhlddemdlmgaaDoor
open Sl
/-- nil, or a slice of the function's own -/
abbrev Acc := Option (Nat × Nat)
def accV (q : Acc) (k : Nat) : Value := match q with
  | none => .slice none 0 0
  | some p => .slice (some ⟨p.1, 0, none⟩) k p.2
def accE (e : TypeId) (q : Acc) (xs : List Value) : List Ent := match q with
  | none => []
  | some p => [⟨p.1, Sl.Own e 1 xs.length p.2 xs, true⟩]
def accS (q : Acc) (l : List Bt) : Sl8 := match q with
  | none => nilS
  | some p => ⟨some ⟨p.1, 0, none⟩, p.2, l⟩
theorem accS_v (q : Acc) (l : List Bt) : (accS q l).v = accV q l.length := by cases q <;> rfl
theorem accS_l {q : Acc} {l : List Bt} (h : q = none → l = []) : (accS q l).l = l := by
  cases q with
  | none => exact (h rfl).symm
  | some p => rfl
theorem accS_none {q : Acc} {l : List Bt} : (accS q l).ad = none → (accS q l).l = [] := by
  cases q with
  | none => intro _; rfl
  | some p => intro h; cases h
theorem accS_ents {e : TypeId} (q : Acc) (l : List Bt) : Less (accS q l).ents (accE e q (l.map U8)) := by
  cases q with
  | none => exact .nil _
  | some p =>
    show Less (Sl8.ents ⟨some ⟨p.1, 0, none⟩, p.2, l⟩) [⟨p.1, Sl.Own e 1 (l.map U8).length p.2 (l.map U8), true⟩]
    rw [List.length_map]
    exact own_less rfl
theorem acc_ok {w0 w : World} {S : List Nat} {M : List Ent} {e : TypeId} {q : Acc} {l : List Bt} (hw : Holds w0 S (accE e q (l.map U8) ++ M) w) : (accS q l).ok w := by
  cases q with
  | none => exact nilS_ok w
  | some p =>
    have hw : Holds w0 S (⟨p.1, Sl.Own e 1 (l.map U8).length p.2 (l.map U8), true⟩ :: M) w := hw
    rw [List.length_map] at hw
    exact ownb_ok hw .here
theorem accE_wr (e : TypeId) (q : Acc) (xs : List Value) : ∀ x ∈ accE e q xs, x.wr = true := by
  intro x hx
  cases q with
  | none => cases hx
  | some p => rw [List.mem_singleton.1 hx]
section
variable {P : Program} {n : Nat} {w0 : World} {S : List Nat} {ops : Array Oper} {Q : Exit → Act → World → Prop} {l : List Oper} {E : Env} {M : List Ent} {d : Nat} {t tx e ty : TypeId} {pos : String} {aft : Array Edge} {x y : Operand}
theorem JL.appendN0 {i : TypeInfo} {ad : Option Addr} {sc : Nat} (hu : P.underlying t = some (.slice e)) (hi : P.info? e = some i) (hx : ev E x = some (.slice none 0 0)) (hy : ev E y = some (.slice ad 0 sc)) (hd : Nat.blt d n = true)
    (kk : JL P n w0 S ops Q l ((d, .slice none 0 0) :: E) M) : JL P n w0 S ops Q (⟨some d, .call ⟨.builtin .append, #[x, y], #[t, t]⟩, ty, pos, aft, none⟩ :: l) E M :=
  ⟨fun a w ha hw => wpList_plain rfl fun K hK => by
    unfold Oper.wp
    simp only [execOp, resolve, invoke, builtin, Sem.run_bind, Sem.run_pure, Result.andThen_ok, List.map_toArray, List.map_cons, List.map_nil, ha.eval hx, ha.eval hy]
    rw [append_none (_t' := t) hu hi (Nat.le_refl 0)]
    exact hK _ _ (kk.go _ _ (ha.put d _ hd) hw)⟩
/-- append onto nil, or onto a slice of the function's own -/
theorem JL.appendQ {z : Value} {by' m sc : Nat} {ad : Option Addr} {xs cs : List Value} (q : Acc) (hu : P.underlying t = some (.slice e)) (hi : EI P e z 1 by') (hq : q = none → xs = []) (hx : ev E x = some (accV q xs.length)) (hy : ev E y = some (.slice ad m sc))
    (hl : cs.length = m) (hr : ∀ w, Holds w0 S (accE e q xs ++ M) w → Reads w ad cs) (h1 : ∀ v ∈ cs, v.oneCell' = true)
    (hzz : z.cells.size = 1) (hsm : (xs.length + m) * by' ≤ 140737488355328) (hsm2 : xs.length + m < 9223372036854775808) (hd : Nat.blt d n = true)
    (kk : ∀ q' : Acc, (q' = none → xs ++ cs = []) → JL P n w0 S ops Q l ((d, accV q' (xs ++ cs).length) :: E) (accE e q' (xs ++ cs) ++ M)) : JL P n w0 S ops Q (⟨some d, .call ⟨.builtin .append, #[x, y], #[t, t]⟩, ty, pos, aft, none⟩ :: l) E (accE e q xs ++ M) := by
  subst hl
  cases q with
  | none =>
    obtain rfl := hq rfl
    cases cs with
    | nil =>
      obtain ⟨i, hi1, _⟩ := hi.get
      exact JL.appendN0 hu hi1 hx hy hd (kk none fun _ => rfl)
    | cons c cs =>
      refine JL.append_nil (cs := c :: cs) hu hi hx hy (by rw [Nat.mul_one]) hr (by simp) hzz (by decide) (by simpa using hsm) (by simpa using hsm2) hd fun b' cap' _ => ?_
      exact kk (some (b', cap')) (fun h => by cases h)
  | some p =>
    have e1 : (xs ++ cs).length = xs.length + cs.length := List.length_append
    refine JL.append (cs := cs) (b := p.1) (cap := p.2) (xs := xs) (fun b' cap' => accE e (some (b', cap')) (xs ++ cs) ++ M) hu hi hx hy (fun b' cap' => ?_) (by rw [Nat.mul_one]) hr h1 hzz (by decide) hsm hsm2 hd fun b' cap' => ?_
    · show Repl (⟨p.1, Sl.Own e 1 xs.length p.2 xs, true⟩ :: M) _ _ _ _ (⟨b', Sl.Own e 1 (xs ++ cs).length cap' (xs ++ cs), true⟩ :: M)
      rw [e1]
      exact .here
    · have := kk (some (b', cap')) (fun h => by cases h)
      show JL P n w0 S ops Q l ((d, .slice (some ⟨b', 0, none⟩) (xs.length + cs.length) cap') :: E) _
      rw [← e1]
      exact this
/-- append of a string's bytes onto nil, or onto a slice of the function's own -/
theorem JL.appendZ {r : List Bt} {xs : List Value} (q : Acc) (hu : P.underlying t = some (.slice e)) (hk : P.underlying tx = some .string) (hi : EI P e (.int .u8 0) 1 1) (hq : q = none → xs = []) (hx : ev E x = some (accV q xs.length)) (hy : ev E y = some (Z r)) (h0 : r ≠ [])
    (hsm : (xs.length + r.length) ≤ 140737488355328) (hd : Nat.blt d n = true)
    (kk : ∀ p : Nat × Nat, JL P n w0 S ops Q l ((d, accV (some p) (xs ++ r.map U8).length) :: E) (accE e (some p) (xs ++ r.map U8) ++ M)) : JL P n w0 S ops Q (⟨some d, .call ⟨.builtin .append, #[x, y], #[t, tx]⟩, ty, pos, aft, none⟩ :: l) E (accE e q xs ++ M) := by
  cases q with
  | none =>
    obtain rfl := hq rfl
    refine ⟨fun a w ha hw => wpList_plain rfl fun K hK => ?_⟩
    obtain ⟨i, hi1, hi2, hi3, hi4⟩ := hi.get
    have hpos : 0 < r.length := List.length_pos_iff.2 h0
    have hsrc : Src P i.size tx (Z r) r.length (r.map U8) w := by
      have := Src.ofString (P := P) w hk (strB r)
      rw [byteCells_strB, strB_size] at this
      rw [hi3]; exact this
    simp only [List.length_nil, Nat.zero_add] at hsm
    have hx' : a.eval x = .slice none 0 0 := ha.eval hx
    unfold Oper.wp
    simp only [execOp, resolve, invoke, builtin, Sem.run_bind, Sem.run_pure, Result.andThen_ok, List.map_toArray, List.map_cons, List.map_nil, hx', ha.eval hy]
    have hfit := growslice_fits (need := r.length) (old := 0) (bytes := 1) (by omega) (by omega)
    have hfo : (Builtin.firstCells i.size 0 (.slice none 0 0)).run P w.drew = .ok ([] : List Value).toArray w.drew := by simp [Builtin.firstCells]
    have hrun := run_append_grow_src (P := P) w t tx ty e i (.int .u8 0) hu hi1 hi2 none 0 0 [] hfo (Z r) r.length (r.map U8) hsrc (by omega) (by omega) (by rw [hi4, Nat.zero_add]; exact hfit)
    rw [hrun]
    simp only [Nat.zero_add]
    have hge := grownCap_ge w r.length 0 e
    generalize grownCap w r.length 0 e = nc at hge
    refine hK _ _ ?_
    have k := kk (w.heap.size, nc)
    have e1 : ([] ++ r.map U8 : List Value).length = r.length := by simp
    refine JL.go (E := (d, accV (some (w.heap.size, nc)) r.length) :: E) ?_ _ _ (ha.put d _ hd) (Holds.push hw (.cells (([] ++ r.map U8 : List Value).toArray ++ Builtin.zeroCells (Value.int .u8 0).cells (nc - r.length)) e) (A := Sl.Own e 1 r.length nc (r.map U8)) ?_ ?_ rfl rfl rfl)
    · rw [e1] at k
      have k2 : accE e (some (w.heap.size, nc)) ([] ++ r.map U8) ++ M = ⟨w.heap.size, Sl.Own e 1 r.length nc (r.map U8), true⟩ :: M := by
        show ⟨w.heap.size, Sl.Own e 1 ([] ++ r.map U8 : List Value).length nc ([] ++ r.map U8), true⟩ :: M = _
        rw [e1, List.nil_append]
      rw [k2] at k
      exact k
    · have h8 : (Builtin.zeroCells (Value.int .u8 0).cells (nc - r.length)).size = nc - r.length := by
        rw [show (Value.int .u8 0).cells = #[Value.int .u8 0] from rfl]; simp [Builtin.zeroCells]
      refine ⟨(Builtin.zeroCells (Value.int .u8 0).cells (nc - r.length)).toList, by simp, ?_, by simp, hge⟩
      simp only [List.length_append, Array.length_toList, h8, List.length_map]
      omega
    · rfl
  | some p =>
    have e1 : (xs ++ r.map U8).length = xs.length + r.length := by simp
    refine JL.appendS (b := p.1) (cap := p.2) (k := xs.length) (xs := xs) (fun b' cap' => accE e (some (b', cap')) (xs ++ r.map U8) ++ M) hu hk hi hx hy (fun b' cap' => ?_) hsm hd fun b' cap' => ?_
    · show Repl (⟨p.1, Sl.Own e 1 xs.length p.2 xs, true⟩ :: M) _ _ _ _ (⟨b', Sl.Own e 1 (xs ++ r.map U8).length cap' (xs ++ r.map U8), true⟩ :: M)
      rw [e1]
      exact .here
    · have := kk (b', cap')
      rw [e1] at this
      exact this
end
/-- ways that meet again behind two pieces of code -/
theorem JC.mid2 {P : Program} {n : Nat} {w0 : World} {S : List Nat} {Q : Exit → Act → World → Prop} {E : Env} {M : List Ent} {ι : Type} (Ei : ι → Env) (Mi : ι → List Ent) (I : ι → Prop) {p q r : Code}
    (h : JC P n w0 S (Exit.then (q.wp P (Exit.then (fun a' w' => ∃ i, I i ∧ Knows n (Ei i) a' ∧ Holds w0 S (Mi i) w') Q)) (Exit.then (fun a' w' => ∃ i, I i ∧ Knows n (Ei i) a' ∧ Holds w0 S (Mi i) w') Q)) p E M)
    (k : ∀ i, I i → JC P n w0 S Q r (Ei i) (Mi i)) : JC P n w0 S Q (.seq p (.seq q r)) E M :=
  ⟨fun a w ha hw => wp_seq (wp_mono (h.go a w ha hw) fun e a' w' he => by
    cases e with
    | normal => exact wp_seq (wp_mono he fun e a' w' he => by
        cases e with
        | normal => obtain ⟨i, hi, h1, h2⟩ := he; exact (k i hi).go a' w' h1 h2
        | exit _ => exact he
        | goto _ => exact he
        | ret => exact he
        | panic _ => exact he
        | outgrown => exact he)
    | exit _ => exact he
    | goto _ => exact he
    | ret => exact he
    | panic _ => exact he
    | outgrown => exact he)⟩
end Go.Proofs.YtikhlddemdlmgaaDoor

/-
  Of no statement by itself: slices of strings as answers; a slice of pairs, a slice of strings out of an entry.
  Conditions: each theorem's own.
-/
namespace Go.Proofs.YtikhlddemdlmgaaDoor
set_option maxRecDepth 10000
open Sl
structure SlZ where
  ad : Option Addr
  cap : Nat
  l : List (List Bt)
def SlZ.cells (s : SlZ) : List Value := s.l.map Z
def SlZ.v (s : SlZ) : Value := .slice s.ad s.l.length s.cap
structure SlZ.ok (w : World) (s : SlZ) : Prop where
  len : s.l.length ≤ s.cap
  reads : Reads w s.ad s.cells
theorem SlZ.ok.holds {w0 w : World} {S : List Nat} {M : List Ent} {s : SlZ} (h : s.ok w0) (hw : Holds w0 S M w) (hS : S = []) : s.ok w := ⟨h.len, hw.reads h.reads (fun _ a _ => by rw [hS]; simp)⟩
theorem SlZ.ok.ext {w w' : World} {s : SlZ} (h : s.ok w) (hx : Ext w w') : s.ok w' := h.holds (⟨hx, by simp, by simp⟩ : Holds w [] [] w') rfl
def nilZ : SlZ := ⟨none, 0, []⟩
theorem nilZ_ok (w : World) : nilZ.ok w := ⟨by simp [nilZ], Reads.nil _ _⟩
theorem slZ_own {w0 w : World} {S : List Nat} {M : List Ent} {b k cap : Nat} {e : TypeId} {l : List (List Bt)} {wr : Bool} (hw : Holds w0 S M w) (hM : Has M b (Own e 1 k cap (l.map Z)) wr) (hk : l.length = k) : SlZ.ok w ⟨some ⟨b, 0, none⟩, cap, l⟩ := by
  obtain ⟨o, ho, hA⟩ := hw.get hM
  have hh := Own.cells _ hA
  obtain ⟨sp, rfl, h2, h3, h4⟩ := hA
  exact ⟨by show l.length ≤ cap; omega, Reads.block ho hh⟩
theorem strE : EI Tryd.prog 9 (Z []) 1 16 := by unfold EI; kernel_rfl
theorem sl2_own {w0 w : World} {S : List Nat} {M : List Ent} {b k cap : Nat} {e : TypeId} {l : List Pr} {wr : Bool} (hw : Holds w0 S M w) (hM : Has M b (Own e 2 k cap (l.flatMap pc)) wr) : Sl2.ok w ⟨some ⟨b, 0, none⟩, cap, l⟩ := by
  obtain ⟨o, ho, hA⟩ := hw.get hM
  have hh := Own.cells _ hA
  obtain ⟨sp, rfl, h2, h3, h4⟩ := hA
  rw [pc_len] at h3
  exact ⟨by show l.length ≤ cap; omega, Reads.block ho hh⟩
theorem SlZ.ok.at {w : World} {s : SlZ} (h : s.ok w) (h0 : 0 < s.l.length) : ∃ b j, s.ad = some ⟨b, j, none⟩ ∧ b < w.heap.size ∧ ∀ i, i < s.l.length → w.cell? ⟨b, j + i, none⟩ = some (Z (s.l.getD i [])) := by
  obtain ⟨b, j, h1, h2⟩ := h.reads.at (by simpa [SlZ.cells] using h0)
  have hc : ∀ i, i < s.l.length → w.cell? ⟨b, j + i, none⟩ = some (Z (s.l.getD i [])) := fun i hi => h2 i _ (map_at Z [] hi)
  exact ⟨b, j, h1, block_lt_of_cell (hc 0 h0), hc⟩
/-! ### as new memory -/
def Sl2.ents (s : Sl2) : List Ent := match s.ad with
  | some a => [⟨a.block, fun o => hasCells o a.off s.cells ∧ s.l.length ≤ s.cap ∧ a.spot = none, true⟩]
  | none => []
theorem Sl2.ents_ok {s : Sl2} {w0 w : World} {S : List Nat} {M : List Ent} (h : Holds w0 S (s.ents ++ M) w) (h0 : s.ad = none → s.l = []) : s.ok w := by
  obtain ⟨ad, cap, l⟩ := s
  cases ad with
  | none =>
    have : l = [] := h0 rfl
    subst this
    exact ⟨by simp, Reads.nil _ _⟩
  | some a =>
    obtain ⟨o, ho, h1, h2, h3⟩ := h.get (b := a.block) (A := fun o => hasCells o a.off (l.flatMap pc) ∧ l.length ≤ cap ∧ a.spot = none) (wr := true) .here
    obtain ⟨b, j, sp⟩ := a
    simp only at h3
    subst h3
    exact ⟨h2, Reads.block ho h1⟩
theorem Sl2.ents_wr (s : Sl2) : ∀ e ∈ s.ents, e.wr = true := by
  intro e he
  unfold Sl2.ents at he
  split at he
  · rw [List.mem_singleton.1 he]
  · cases he
def SlZ.ents (s : SlZ) : List Ent := match s.ad with
  | some a => [⟨a.block, fun o => hasCells o a.off s.cells ∧ s.l.length ≤ s.cap ∧ a.spot = none, true⟩]
  | none => []
theorem SlZ.ents_ok {s : SlZ} {w0 w : World} {S : List Nat} {M : List Ent} (h : Holds w0 S (s.ents ++ M) w) (h0 : s.ad = none → s.l = []) : s.ok w := by
  obtain ⟨ad, cap, l⟩ := s
  cases ad with
  | none =>
    have : l = [] := h0 rfl
    subst this
    exact ⟨by simp, Reads.nil _ _⟩
  | some a =>
    obtain ⟨o, ho, h1, h2, h3⟩ := h.get (b := a.block) (A := fun o => hasCells o a.off (l.map Z) ∧ l.length ≤ cap ∧ a.spot = none) (wr := true) .here
    obtain ⟨b, j, sp⟩ := a
    simp only at h3
    subst h3
    exact ⟨h2, Reads.block ho h1⟩
theorem SlZ.ents_wr (s : SlZ) : ∀ e ∈ s.ents, e.wr = true := by
  intro e he
  unfold SlZ.ents at he
  split at he
  · rw [List.mem_singleton.1 he]
  · cases he
theorem ownZ_ents {M : List Ent} {b cap : Nat} {e : TypeId} {o : List (List Bt)} : Less (SlZ.ents ⟨some ⟨b, 0, none⟩, cap, o⟩) (⟨b, Own e 1 o.length cap (o.map Z), true⟩ :: M) := by
  refine .keep _ _ _ _ _ _ (fun ob hA => ?_) (.nil _)
  have hh := Own.cells _ hA
  obtain ⟨sp, rfl, h2, h3, h4⟩ := hA
  exact ⟨hh, h4, rfl⟩
theorem own2_ents {M : List Ent} {b cap : Nat} {e : TypeId} {o : List Pr} : Less (Sl2.ents ⟨some ⟨b, 0, none⟩, cap, o⟩) (⟨b, Own e 2 o.length cap (o.flatMap pc), true⟩ :: M) := by
  refine .keep _ _ _ _ _ _ (fun ob hA => ?_) (.nil _)
  have hh := Own.cells _ hA
  obtain ⟨sp, rfl, h2, h3, h4⟩ := hA
  exact ⟨hh, h4, rfl⟩
/-- strings as an answer -/
structure Gz (A : List (List Bt)) where
  z : SlZ
  h : z.l = A
  n : z.ad = none → z.l = []
instance {A : List (List Bt)} : Inhabited (Gz A) := ⟨⟨⟨some ⟨0, 0, none⟩, 0, A⟩, rfl, nofun⟩⟩
/-- pairs as an answer -/
structure G2 (A : List Pr) where
  z : Sl2
  h : z.l = A
  n : z.ad = none → z.l = []
instance {A : List Pr} : Inhabited (G2 A) := ⟨⟨⟨some ⟨0, 0, none⟩, 0, A⟩, rfl, nofun⟩⟩
/-- what was made stands, and is written no more -/
def cold (M : List Ent) : List Ent := M.map fun e => ⟨e.b, e.A, false⟩
theorem Holds.cold {w0 w : World} {S : List Nat} {M : List Ent} (h : Holds w0 S M w) : Holds w [] (cold M) w := by
  refine ⟨Chg.refl _ _, ?_, fun e he => ?_⟩
  · rw [Proofs.YtikhlddemdlmgaaDoor.cold, List.map_map]
    exact h.nodup
  · obtain ⟨q, hq, rfl⟩ := List.mem_map.1 he
    exact ⟨(h.all q hq).1, nofun⟩
end Go.Proofs.YtikhlddemdlmgaaDoor

/-
  Of no statement by itself: append of one pair of texts, or of one text, that a literal holds, onto nil or onto a slice of the function's own.
  Conditions: each rule's own hypotheses.
-/
namespace Go.Proofs.YtikhlddemdlmgaaDoor
set_option maxRecDepth 10000
namespace Sl
theorem less_of_sub {N M : List Ent} (h : N.Sublist M) : Less N M := by
  induction h with
  | slnil => exact .nil _
  | cons a _ ih => exact .drop _ _ _ ih
  | cons_cons a _ ih => exact .keep _ _ _ _ _ _ (fun _ h => h) ih
section
variable {P : Program} {n : Nat} {w0 : World} {S : List Nat} {ops : Array Oper} {Q : Exit → Act → World → Prop} {l : List Oper} {E : Env} {M M' M0 : List Ent} {d : Nat} {t e ty : TypeId} {pos : String} {aft : Array Edge} {x y : Operand}
theorem Holds.perm' {w0 w : World} {S : List Nat} {M M' : List Ent} (hp : M.Perm M') (h : Holds w0 S M w) : Holds w0 S M' w :=
  h.sub ((hp.map Ent.b).nodup_iff.1 h.nodup) fun e he => hp.mem_iff.2 he
theorem JL.lessM (h : JL P n w0 S ops Q l E M') (hM : Less M' M) : JL P n w0 S ops Q l E M := ⟨fun a w ha hw => h.go a w ha (hw.weak hM)⟩
theorem JL.perm (h : JL P n w0 S ops Q l E M') (hp : M.Perm M') : JL P n w0 S ops Q l E M := ⟨fun a w ha hw => h.go a w ha (hw.perm' hp)⟩
theorem JC.lessM {c : Code} (h : JC P n w0 S Q c E M') (hM : Less M' M) : JC P n w0 S Q c E M := ⟨fun a w ha hw => h.go a w ha (hw.weak hM)⟩
def accP (e : TypeId) (q : Acc) (l : List Pr) : List Ent := match q with
  | none => []
  | some p => [⟨p.1, Sl.Own e 2 l.length p.2 (l.flatMap pc), true⟩]
def accLp (q : Acc) (l : List Pr) : Sl2 := match q with
  | none => nil2
  | some p => ⟨some ⟨p.1, 0, none⟩, p.2, l⟩
theorem accLp_v (q : Acc) (l : List Pr) : (accLp q l).v = accV q l.length := by cases q <;> rfl
theorem accLp_l {q : Acc} {l : List Pr} (h : q = none → l = []) : (accLp q l).l = l := by
  cases q with
  | none => rw [h rfl]; rfl
  | some p => rfl
theorem accLp_ok {w0 w : World} {S : List Nat} {M : List Ent} {e : TypeId} {q : Acc} {l : List Pr} (hw : Holds w0 S (accP e q l ++ M) w) : (accLp q l).ok w := by
  cases q with
  | none => exact nil2_ok w
  | some p => exact sl2_own hw .here
theorem pc_one {p : Pr} : ∀ v ∈ pc p, v.oneCell' = true := by
  intro v hv
  simp only [pc, List.mem_cons, List.not_mem_nil, or_false] at hv
  rcases hv with rfl | rfl <;> rfl
/-- one pair more -/
theorem JL.appendP {z : Value} {by' bl : Nat} {p : Pr} {L : List Pr} {ba : Ent} (q : Acc) (hu : P.underlying t = some (.slice e)) (hi : EI P e z 2 by') (hq : q = none → L = []) (hx : ev E x = some (accV q L.length)) (hy : ev E y = some (.slice (some ⟨bl, 0, none⟩) 1 1))
    (hzz : z.cells.size = 2) (hsm : (L.length + 1) * by' ≤ 140737488355328) (hsm2 : L.length + 1 < 9223372036854775808) (hd : Nat.blt d n = true)
    (kk : ∀ b' cap', JL P n w0 S ops Q l ((d, accV (some (b', cap')) (L ++ [p]).length) :: E) (accP e (some (b', cap')) (L ++ [p]) ++ M0)) :
    JL P n w0 S ops Q (⟨some d, .call ⟨.builtin .append, #[x, y], #[t, t]⟩, ty, pos, aft, none⟩ :: l) E (⟨bl, Row e (pc p), true⟩ :: ba :: (accP e q L ++ M0)) := by
  have hr : ∀ w, Holds w0 S (⟨bl, Row e (pc p), true⟩ :: ba :: (accP e q L ++ M0)) w → Reads w (some ⟨bl, 0, none⟩) (pc p) := fun w hw => by
    obtain ⟨o, ho, hA⟩ := hw.get (b := bl) (A := Row e (pc p)) (wr := true) .here
    exact Reads.block ho (Row.all _ hA)
  have eN : (L ++ [p]).length = L.length + 1 := List.length_append
  have eF : (L ++ [p]).flatMap pc = L.flatMap pc ++ pc p := by rw [List.flatMap_append]; simp
  cases q with
  | none =>
    obtain rfl := hq rfl
    refine JL.append_nil (cs := pc p) (m := 1) hu hi hx hy rfl hr (by decide) hzz (by decide) (by simpa using hsm) (by decide) hd fun b' cap' _ => ?_
    refine (kk b' cap').lessM ?_
    exact .keep _ _ _ _ _ _ (fun o h => h) (.drop _ _ _ (.drop _ _ _ (Less.refl _)))
  | some r =>
    refine JL.append (cs := pc p) (m := 1) (b := r.1) (cap := r.2) (k := L.length) (xs := L.flatMap pc) (fun b' cap' => ⟨bl, Row e (pc p), true⟩ :: ba :: (accP e (some (b', cap')) (L ++ [p]) ++ M0)) hu hi hx hy (fun b' cap' => ?_) rfl hr pc_one hzz (by decide) hsm hsm2 hd fun b' cap' => ?_
    · show Repl (_ :: ba :: ⟨r.1, Sl.Own e 2 L.length r.2 (L.flatMap pc), true⟩ :: M0) _ _ _ _ (_ :: ba :: ⟨b', Sl.Own e 2 (L ++ [p]).length cap' ((L ++ [p]).flatMap pc), true⟩ :: M0)
      rw [eN, eF]
      exact .there (.there .here)
    · have := kk b' cap'
      rw [show accV (some (b', cap')) (L ++ [p]).length = Value.slice (some ⟨b', 0, none⟩) (L.length + 1) cap' by rw [eN]; rfl] at this
      exact this.lessM (.drop _ _ _ (.drop _ _ _ (Less.refl _)))
/-- one text more -/
theorem JL.appendT {z : Value} {by' bl : Nat} {p : List Bt} {L : List (List Bt)} (q : Acc) (hu : P.underlying t = some (.slice e)) (hi : EI P e z 1 by') (hq : q = none → L = []) (hx : ev E x = some (accV q L.length)) (hy : ev E y = some (.slice (some ⟨bl, 0, none⟩) 1 1))
    (hzz : z.cells.size = 1) (hsm : (L.length + 1) * by' ≤ 140737488355328) (hsm2 : L.length + 1 < 9223372036854775808) (hd : Nat.blt d n = true)
    (kk : ∀ b' cap', JL P n w0 S ops Q l ((d, accV (some (b', cap')) (L ++ [p]).length) :: E) (accE e (some (b', cap')) ((L ++ [p]).map Z) ++ M0)) :
    JL P n w0 S ops Q (⟨some d, .call ⟨.builtin .append, #[x, y], #[t, t]⟩, ty, pos, aft, none⟩ :: l) E (⟨bl, Row e [Z p], true⟩ :: (accE e q (L.map Z) ++ M0)) := by
  have hr : ∀ w, Holds w0 S (⟨bl, Row e [Z p], true⟩ :: (accE e q (L.map Z) ++ M0)) w → Reads w (some ⟨bl, 0, none⟩) [Z p] := fun w hw => by
    obtain ⟨o, ho, hA⟩ := hw.get (b := bl) (A := Row e [Z p]) (wr := true) .here
    exact Reads.block ho (Row.all _ hA)
  have h1 : ∀ v ∈ [Z p], v.oneCell' = true := fun v hv => by rw [List.mem_singleton.1 hv]; rfl
  have eN : (L ++ [p]).length = L.length + 1 := List.length_append
  have eM : (L ++ [p]).map Z = L.map Z ++ [Z p] := by rw [List.map_append]; rfl
  have eL : ((L ++ [p]).map Z).length = L.length + 1 := by rw [List.length_map, eN]
  cases q with
  | none =>
    obtain rfl := hq rfl
    refine JL.append_nil (cs := [Z p]) (m := 1) hu hi hx hy rfl hr (by decide) hzz (by decide) (by simpa using hsm) (by decide) hd fun b' cap' _ => ?_
    exact (kk b' cap').lessM (.keep _ _ _ _ _ _ (fun o h => h) (.drop _ _ _ (Less.refl _)))
  | some r =>
    refine JL.append (cs := [Z p]) (m := 1) (b := r.1) (cap := r.2) (k := L.length) (xs := L.map Z) (fun b' cap' => ⟨bl, Row e [Z p], true⟩ :: (accE e (some (b', cap')) ((L ++ [p]).map Z) ++ M0)) hu hi hx hy (fun b' cap' => ?_) rfl hr h1 hzz (by decide) hsm hsm2 hd fun b' cap' => ?_
    · show Repl (_ :: ⟨r.1, Sl.Own e 1 (L.map Z).length r.2 (L.map Z), true⟩ :: M0) _ _ _ _ (_ :: ⟨b', Sl.Own e 1 ((L ++ [p]).map Z).length cap' ((L ++ [p]).map Z), true⟩ :: M0)
      rw [eL, eM, List.length_map]
      exact .there .here
    · have := kk b' cap'
      rw [show accV (some (b', cap')) (L ++ [p]).length = Value.slice (some ⟨b', 0, none⟩) (L.length + 1) cap' by rw [eN]; rfl] at this
      exact this.lessM (.drop _ _ _ (Less.refl _))
end
end Sl
end Go.Proofs.YtikhlddemdlmgaaDoor

/-
  Of no statement by itself: parts of strings (x[i:], x[:j], x[i:j]); for any program P.
  Conditions: each rule's own hypotheses.
-/
namespace Go.Proofs.YtikhlddemdlmgaaDoor
namespace Sl
theorem strB_extract (l : List Bt) (i j : Nat) : (strB l).extract i j = strB ((l.take j).drop i) := by
  apply ByteArray.ext
  rw [ByteArray.data_extract]
  show (l.map UInt8.ofBitVec).toArray.extract i j = (((l.take j).drop i).map UInt8.ofBitVec).toArray
  rw [List.extract_toArray, List.extract_eq_drop_take', List.map_drop, List.map_take]
section
variable {P : Program} {n : Nat} {E : Env} {C : World → Prop} {dst : Option Tmp} {t ty : TypeId} {pos : String} {aft : Array Edge} {g : Option (Nat × Bool)} {x y z : Operand} {l : List Bt}
theorem OQ.subS_lo {i : Nat} (hu : P.underlying t = some .string) (hx : ev E x = some (Z l)) (hy : ev E y = some (N i)) (h : i ≤ l.length) : OQ P n E C ⟨dst, .slice t x (some y) none none, ty, pos, aft, g⟩ (Z (l.drop i)) :=
  OQ.run fun a ha w _ => by
    have h1 := ha.eval hx
    have h2 := ha.eval hy
    have h3 : (underlying t).run P w = .ok .string w := run_underlying hu w
    have h4 := run_slice_string_l w t (strB l) hu .i64 (i : Int) (by omega) (by rw [strB_size]; omega)
    rw [strB_size, strB_extract, List.take_length, Int.toNat_natCast] at h4
    simp [execOp, h1, h2, Instr.sliceAt, Sem.run_bind, h3, h4]
theorem OQ.subS_hi {j : Nat} (hu : P.underlying t = some .string) (hx : ev E x = some (Z l)) (hy : ev E y = some (N j)) (h : j ≤ l.length) : OQ P n E C ⟨dst, .slice t x none (some y) none, ty, pos, aft, g⟩ (Z (l.take j)) :=
  OQ.run fun a ha w _ => by
    have h1 := ha.eval hx
    have h2 := ha.eval hy
    have h3 : (underlying t).run P w = .ok .string w := run_underlying hu w
    have h4 := run_slice_string_h w t (strB l) hu .i64 (j : Int) (by omega) (by rw [strB_size]; omega)
    rw [strB_extract, List.drop_zero, Int.toNat_natCast] at h4
    simp [execOp, h1, h2, Instr.sliceAt, Sem.run_bind, h3, h4]
theorem OQ.subS {i j : Nat} (hu : P.underlying t = some .string) (hx : ev E x = some (Z l)) (hy : ev E y = some (N i)) (hz : ev E z = some (N j)) (h : i ≤ j) (h' : j ≤ l.length) : OQ P n E C ⟨dst, .slice t x (some y) (some z) none, ty, pos, aft, g⟩ (Z ((l.take j).drop i)) :=
  OQ.run fun a ha w _ => by
    have h1 := ha.eval hx
    have h2 := ha.eval hy
    have h5 := ha.eval hz
    have h3 : (underlying t).run P w = .ok .string w := run_underlying hu w
    have h4 := run_slice_string w t (strB l) .i64 .i64 (i : Int) (j : Int) hu (by omega) (by omega) (by rw [strB_size]; omega)
    rw [strB_extract, Int.toNat_natCast, Int.toNat_natCast] at h4
    simp [execOp, h1, h2, h5, Instr.sliceAt, Sem.run_bind, h3, h4]
end
end Sl
end Go.Proofs.YtikhlddemdlmgaaDoor

/-
  Of no statement by itself: rules for function values of one byte, and for labels that are jumped to, over partial knowledge of frame and memory, for any program P.
  Conditions: each rule's own hypotheses.
-/
namespace Go.Proofs.YtikhlddemdlmgaaDoor
set_option maxRecDepth 10000
namespace Sl
/-- a function value of a byte: it answers p, and keeps all blocks -/
def Fun8 (P : Program) (w0 : World) (fv : Value) (p : Bt → Bool) : Prop :=
  ∃ (f : FuncId) (caps : List Value), fv = .func (.func f) #[] caps.toArray ∧ Goes P f ∧ ∀ (c : Bt) (w : World), Ext w0 w → Calls P f (U8 c :: caps).toArray w fun e w' => e = .returned (.bool (p c)) ∧ Ext w w'
theorem Fun8.ext {P : Program} {w0 w1 : World} {fv : Value} {p : Bt → Bool} (h : Fun8 P w0 fv p) (hx : Ext w0 w1) : Fun8 P w1 fv p := by
  obtain ⟨f, caps, h1, h2, h3⟩ := h
  exact ⟨f, caps, h1, h2, fun c w hw => h3 c w (hx.trans hw)⟩
theorem Fun8.holds {P : Program} {w0 w1 : World} {M : List Ent} {fv : Value} {p : Bt → Bool} (h : Fun8 P w0 fv p) (hw : Holds w0 [] M w1) : Fun8 P w1 fv p := h.ext hw.chg
section
variable {P : Program} {n : Nat} {w0 : World} {S : List Nat} {Q Q' : Exit → Act → World → Prop} {E E' : Env} {M M' : List Ent}
variable {dst : Option Tmp} {ty : TypeId} {pos : String} {aft : Array Edge} {g : Option (Nat × Bool)} {x y : Operand} {ats : Array TypeId}
theorem exec_callv {f : FuncId} {caps : List Value} {xs : List Operand} {vs : List Value} {a : Act} (hg : Goes P f) (hk : Knows n E a) (hf : ev E x = some (.func (.func f) #[] caps.toArray)) (hx : evs E xs = some vs) (w : World) :
    (execOp a.eval ⟨dst, .call ⟨.value x, xs.toArray, ats⟩, ty, pos, aft, g⟩).run P w = .ok (.enter f (vs ++ caps).toArray) w := by
  obtain ⟨fn, h1, h2, h3⟩ := hg
  have hm : xs.toArray.map a.eval = vs.toArray := by simp [evs_map hk hx]
  have h2' : ¬ fn.body = none := fun h => by rw [h] at h2; cases h2
  have h3' : ¬ fn.name = "runtime.NumGoroutine" := by simpa using h3
  have hf' := hk.eval hf
  simp [execOp, resolve, Sem.run_bind, hm, hf', Deferred.ofValue, invoke, callFunc, program, Sem.run, h1, h2', h3']
/-- a call of such a function value -/
theorem OQ.callF {fv : Value} {p : Bt → Bool} {c : Bt} {b : Bool} (hF : Fun8 P w0 fv p) (hx : ev E x = some fv) (hy : ev E y = some (U8 c)) (h : p c = b) : OQ P n E (Holds w0 [] M) ⟨dst, .call ⟨.value x, #[y], ats⟩, ty, pos, aft, g⟩ (.bool b) := by
  obtain ⟨f, caps, h1, h2, h3⟩ := hF
  subst h1
  refine ⟨fun a hk w hw => ?_⟩
  have hy' : evs E [y] = some [U8 c] := by simp [evs, hy]
  unfold Oper.quietAt
  rw [show (#[y] : Array Operand) = [y].toArray from rfl, exec_callv (xs := [y]) h2 hk hx hy' w]
  refine ⟨rfl, (h3 c w hw.chg).mono fun e w' ⟨k1, k2⟩ => ⟨?_, hw.ext k2⟩⟩
  rw [k1, h]
theorem OQ.mkF {f : FuncId} {xs : Array Operand} {caps : List Value} (hx : evs E xs.toList = some caps) : OQ P n E (Holds w0 S M) ⟨dst, .makeFunc (.func f) #[] xs, ty, pos, aft, g⟩ (.func (.func f) #[] caps.toArray) := by
  refine OQ.run fun a hk w _ => ?_
  have hm : xs.map a.eval = caps.toArray := by
    have h1 := evs_map hk hx
    rw [← h1]
    apply Array.ext'
    simp
  simp [execOp, Instr.makeFunc, Sem.run_bind, hm]
theorem JC.mono {c : Code} (h : JC P n w0 S Q c E M) (hq : ∀ e a w, Q e a w → Q' e a w) : JC P n w0 S Q' c E M :=
  ⟨fun a w ha hw b k cs => let ⟨e, a', w', h1, h2⟩ := h.go a w ha hw b k cs; ⟨e, a', w', hq e a' w' h1, h2⟩⟩
theorem OQ.neSB {C : World → Prop} {t t' : TypeId} {l r : List Bt} {c : Bool} (hx : ev E x = some (Z l)) (hy : ev E y = some (Z r)) (h : decide (l = r) = c) : OQ P n E C ⟨dst, .binOp .neq t x y t', ty, pos, aft, g⟩ (.bool (!c)) := h ▸ OQ.neS hx hy
theorem OQ.eqSB {C : World → Prop} {t t' : TypeId} {l r : List Bt} {c : Bool} (hx : ev E x = some (Z l)) (hy : ev E y = some (Z r)) (h : decide (l = r) = c) : OQ P n E C ⟨dst, .binOp .eql t x y t', ty, pos, aft, g⟩ (.bool c) := h ▸ OQ.eqS hx hy
/-! ### a label that is jumped to -/
abbrev Jmp (n : Nat) (w0 : World) (S : List Nat) {ι : Type} (Ei : ι → Env) (Mi : ι → List Ent) (p : ι → Prop) : Act → World → Prop := fun a w => ∃ j, p j ∧ Knows n (Ei j) a ∧ Holds w0 S (Mi j) w
theorem JC.scope {ι : Type} (l : Nat) (Ei : ι → Env) (Mi : ι → List Ent) (μ : ι → Nat) (I : ι → Prop) {c rest : Code} (hf : findLabel c l = some rest)
    (first : JC P n w0 S (Exit.jump l (Jmp n w0 S Ei Mi I) Q) c E M)
    (pass : ∀ i, I i → JC P n w0 S (Exit.jump l (Jmp n w0 S Ei Mi fun j => I j ∧ μ j < μ i) Q) rest (Ei i) (Mi i)) : JC P n w0 S Q (.scope c) E M := by
  refine ⟨fun a0 w0' ha0 hw0 b k cs => ?_⟩
  have hg : gotoIn l (.inScope c :: k) = some (.code rest :: .inScope c :: k) := by simp [gotoIn, hf]
  have key : ∀ m i, μ i = m → I i → ∀ a w, Knows n (Ei i) a → Holds w0 S (Mi i) w → ∃ e a' w', Q e a' w' ∧ Arrives P (lone (b.at a (.code rest :: .inScope c :: k)) cs w) b k cs e a' w' := by
    intro m
    induction m using Nat.strongRecOn with
    | _ m ih =>
      intro i hm hI a w ha hw
      obtain ⟨e, a₁, w₁, hq, harr⟩ := (pass i hI).go a w ha hw b (.inScope c :: k) cs
      cases e with
      | normal => exact ⟨.normal, a₁, w₁, hq, Steps.trans harr (.one step_inScope)⟩
      | exit id => exact ⟨.exit id, a₁, w₁, hq, fun k' hk => harr k' (by simp [exitTo, hk])⟩
      | goto l' =>
        obtain ⟨rfl, j, ⟨hJ, hlt⟩, ha₁, hw₁⟩ := hq
        obtain ⟨e₂, a₂, w₂, hq₂, harr₂⟩ := ih (μ j) (by omega) j rfl hJ a₁ w₁ ha₁ hw₁
        exact ⟨e₂, a₂, w₂, hq₂, .of_steps (harr _ hg) harr₂⟩
      | ret => exact ⟨_, a₁, w₁, hq, harr⟩
      | panic ch => exact ⟨_, a₁, w₁, hq, harr⟩
      | outgrown => exact ⟨_, a₁, w₁, hq, harr⟩
  obtain ⟨e, a₁, w₁, hq, harr⟩ := first.go a0 w0' ha0 hw0 b (.inScope c :: k) cs
  cases e with
  | normal => exact ⟨.normal, a₁, w₁, hq, .head step_scope (Steps.trans harr (.one step_inScope))⟩
  | exit id => exact ⟨.exit id, a₁, w₁, hq, fun k' hk => .head step_scope (harr k' (by simp [exitTo, hk]))⟩
  | goto l' =>
    obtain ⟨rfl, j, hJ, ha₁, hw₁⟩ := hq
    obtain ⟨e₂, a₂, w₂, hq₂, harr₂⟩ := key _ j rfl hJ a₁ w₁ ha₁ hw₁
    exact ⟨e₂, a₂, w₂, hq₂, .of_steps (.head step_scope (harr _ hg)) harr₂⟩
  | ret => exact ⟨_, a₁, w₁, hq, .of_steps (.one step_scope) harr⟩
  | panic ch => exact ⟨_, a₁, w₁, hq, .of_steps (.one step_scope) harr⟩
  | outgrown => exact ⟨_, a₁, w₁, hq, .of_steps (.one step_scope) harr⟩
/-- what the passes give serves the way to the label too -/
theorem JC.land {ι : Type} {l : Nat} {Ei : ι → Env} {Mi : ι → List Ent} {I : ι → Prop} {rest : Code} {p : ι → Prop} (h : JC P n w0 S (Exit.jump l (Jmp n w0 S Ei Mi p) Q) rest E' M') (hp : ∀ j, p j → I j) (hE : SubE E E') (hM : Less M' M) :
    JC P n w0 S (Exit.jump l (Jmp n w0 S Ei Mi I) Q) rest E M :=
  (h.mono fun e a w hq => by
    cases e with
    | goto l' => exact ⟨hq.1, let ⟨j, h1, h2⟩ := hq.2; ⟨j, hp j h1, h2⟩⟩
    | _ => exact hq).weak hE hM
theorem JC.goto {l : Nat} (h : JE n w0 S Q (.goto l) E M) : JC P n w0 S Q (.goto l) E M := ⟨fun a w ha hw => wp_goto (h.go a w ha hw)⟩
theorem JE.jump_to {ι : Type} {l : Nat} {Ei : ι → Env} {Mi : ι → List Ent} {p : ι → Prop} (j : ι) (hp : p j) (hE : SubE E (Ei j)) (hM : Less (Mi j) M) : JE n w0 S (Exit.jump l (Jmp n w0 S Ei Mi p) Q) (.goto l) E M :=
  ⟨fun _ _ ha hw => ⟨rfl, j, hp, ha.sub hE, hw.weak hM⟩⟩
theorem JE.jump_ret {l : Nat} {J : Act → World → Prop} (h : JE n w0 S Q .ret E M) : JE n w0 S (Exit.jump l J Q) .ret E M := ⟨h.go⟩
theorem JE.jump_normal {l : Nat} {J : Act → World → Prop} (h : JE n w0 S Q .normal E M) : JE n w0 S (Exit.jump l J Q) .normal E M := ⟨h.go⟩
theorem JE.then_goto {K : Act → World → Prop} {l : Nat} (h : JE n w0 S Q (.goto l) E M) : JE n w0 S (Exit.then K Q) (.goto l) E M := ⟨h.go⟩
theorem JE.blk_goto {id l : Nat} (h : JE n w0 S Q (.goto l) E M) : JE n w0 S (Exit.inBlock id Q) (.goto l) E M := ⟨h.go⟩
end
end Sl
end Go.Proofs.YtikhlddemdlmgaaDoor

/-
  Of no statement by itself: rules for writes into a slice of the function's own (stores of whole elements, copy, clear), for calls that write what came in, for function values of a pair, and for slices.overlaps; over partial knowledge, for any program P.
  Conditions: each rule's own hypotheses.
-/
namespace Go.Proofs.YtikhlddemdlmgaaDoor
set_option maxRecDepth 10000
namespace Sl
section
variable {w0 w w' : World} {S : List Nat} {X Y M M0 : List Ent}
def keys (X : List Ent) : List Nat := X.map Ent.b
/-- what came in writable is one's own from here on, all else is read -/
theorem Holds.own (h : Holds w0 S (X ++ M0) w) : Holds w (keys X) (X ++ cold M0) w := by
  refine ⟨Chg.refl _ _, ?_, fun e he => ?_⟩
  · have : (X ++ cold M0).map Ent.b = (X ++ M0).map Ent.b := by simp [cold, Function.comp_def]
    rw [this]; exact h.nodup
  · rcases List.mem_append.1 he with he | he
    · exact ⟨(h.all e (List.mem_append_left _ he)).1, fun _ => .inl (List.mem_map_of_mem he)⟩
    · obtain ⟨q, hq, rfl⟩ := List.mem_map.1 he
      exact ⟨(h.all q (List.mem_append_right _ hq)).1, nofun⟩
theorem Holds.swapW (h : Holds w0 S (X ++ M0) w) (h2 : Holds w (keys X) Y w') (hX : ∀ e ∈ X, e.wr = true) (hY : ∀ e ∈ Y, e.wr = true) : Holds w0 S (Y ++ M0) w' := by
  have hs : ∀ k ∈ keys X, k ∈ S ∨ w0.heap.size ≤ k := fun k hk => by
    obtain ⟨e, he, rfl⟩ := List.mem_map.1 hk
    exact (h.all e (List.mem_append_left _ he)).2 (hX e he)
  have hnd := h.nodup
  rw [List.map_append, List.nodup_append] at hnd
  refine ⟨⟨h2.chg.os.trans h.chg.os, h2.chg.tape.trans h.chg.tape, h2.chg.output.trans h.chg.output, Nat.le_trans h.chg.size h2.chg.size, fun k hk hS => ?_⟩, ?_, fun e he => ?_⟩
  · refine (h2.chg.block k (Nat.lt_of_lt_of_le hk h.chg.size) fun hm => ?_).trans (h.chg.block k hk hS)
    rcases hs k hm with h | h
    · exact hS h
    · omega
  · rw [List.map_append, List.nodup_append]
    refine ⟨h2.nodup, hnd.2.1, fun a ha b hb e => ?_⟩
    subst e
    obtain ⟨e1, he1, rfl⟩ := List.mem_map.1 ha
    obtain ⟨e2, he2, hb2⟩ := List.mem_map.1 hb
    rcases (h2.all e1 he1).2 (hY e1 he1) with hk | hk
    · exact hnd.2.2 _ hk _ hb rfl
    · have := h.lt (List.mem_append_right X he2)
      omega
  · rcases List.mem_append.1 he with he | he
    · refine ⟨(h2.all e he).1, fun hw => ?_⟩
      rcases (h2.all e he).2 hw with hk | hk
      · exact hs _ hk
      · exact .inr (Nat.le_trans h.chg.size hk)
    · obtain ⟨⟨o, ho, hA⟩, hw⟩ := h.all e (List.mem_append_right X he)
      refine ⟨⟨o, (h2.chg.block e.b (h.lt (List.mem_append_right X he)) fun hm => ?_).trans ho, hA⟩, hw⟩
      exact hnd.2.2 _ hm _ (List.mem_map_of_mem he) rfl
end
section
variable {P : Program} {n : Nat} {w0 : World} {S : List Nat} {ops : Array Oper} {Q : Exit → Act → World → Prop} {l : List Oper} {E : Env} {M M' : List Ent} {C : World → Prop}
variable {dst : Option Tmp} {d b j : Nat} {op : Op} {t t' ty e : TypeId} {pos : String} {aft : Array Edge} {g : Option (Nat × Bool)} {x y : Operand} {cs : List Value}
/-- a call that writes what came in: X becomes one of the Yf -/
theorem JL.callW {ι : Type} {X M0 : List Ent} (vf : ι → Value) (Yf : ι → List Ent) {f : FuncId} {xs : List Operand} {ats : Array TypeId} {vs : List Value} (hg : Goes P f) (hx : evs E xs = some vs) (hd : Nat.blt d n = true) (hX : ∀ e ∈ X, e.wr = true) (hY : ∀ i, ∀ e ∈ Yf i, e.wr = true)
    (hc : ∀ w, Holds w (keys X) (X ++ cold M0) w → Calls P f vs.toArray w fun e w' => ∃ i, e = .returned (vf i) ∧ Holds w (keys X) (Yf i) w')
    (k : ∀ i, JL P n w0 S ops Q l ((d, vf i) :: E) (Yf i ++ M0)) : JL P n w0 S ops Q (⟨some d, .call ⟨.value (.func f), xs.toArray, ats⟩, ty, pos, aft, none⟩ :: l) E (X ++ M0) :=
  JL.call (ι := ι) vf (fun i => Yf i ++ M0) hg hx hd (fun w hw => (hc w hw.own).mono fun _ _ ⟨i, h1, h2⟩ => ⟨i, h1, hw.swapW h2 hX (hY i)⟩) k
/-- a whole element of one's own slice -/
theorem JL.storeO {k cap i sz o : Nat} {xs xs' : List Value} (hz : szT P t = some sz) (hx : ev E x = some (.pointer (some ⟨b, o, none⟩))) (ho : o = i * sz) (hy : ev E y = some (.agg cs.toArray)) (hl : cs.length = sz) (hv : cs.all Value.oneCell' = true)
    (hu : Upd M b (Own e sz k cap xs) (Own e sz k cap xs') M') (hi : i < k) (he : xs.take (i * sz) ++ cs ++ xs.drop (i * sz + sz) = xs') (hk : JL P n w0 S ops Q l E M') : JL P n w0 S ops Q (⟨none, .store t x y, ty, pos, aft, none⟩ :: l) E M := by
  subst ho
  refine JL.store_agg hz hx hy hl hv hu (fun ob hob => ?_) hk
  obtain ⟨sp, rfl, h1, h2, h3⟩ := hob
  have hm : i * sz + sz ≤ xs.length := by rw [h2, ← Nat.succ_mul]; exact Nat.mul_le_mul_right _ hi
  have hxl : xs'.length = xs.length := by rw [← he]; simp; omega
  refine ⟨xs ++ sp, e, rfl, by rw [List.length_append]; omega, sp, ?_, by rw [List.length_append] at h1 ⊢; omega, by omega, h3⟩
  rw [← he, hl]
  rw [List.take_append_of_le_length (by omega), List.drop_append_of_le_length (by omega)]
  simp
theorem copyO_run {t' : TypeId} {w : World} {ad : Option Addr} {dl dc sl sc sz m : Nat} {r : List Value} (hu : P.underlying t = some (.slice e)) (hz : szT P e = some sz) (ho : w.heap[b]? = some (.cells r.toArray ty (0, 0)))
    (hm : min sl dl = m) (hl : cs.length = m * sz) (hr : Reads w ad cs) (h1 : ∀ v ∈ cs, v.oneCell' = true) (hj : j + m * sz ≤ r.length) :
    ∃ w', (Builtin.copy_ #[t, t'] 0 #[.slice (some ⟨b, j, none⟩) dl dc, .slice ad sl sc]).run P w = .ok (N m) w' ∧ w'.heap[b]? = some (.cells (r.take j ++ cs ++ r.drop (j + m * sz)).toArray ty (0, 0)) ∧ w'.heap.size = w.heap.size ∧
      (∀ k, k ≠ b → w'.heap[k]? = w.heap[k]?) ∧ w'.os = w.os ∧ w'.tape = w.tape ∧ w'.output = w.output := by
  obtain ⟨w', r1, r2, r3, r4, r5, r6, r7⟩ := storeCells_run (P := P) (b := b) (j := j) (e := ty) cs 0 w r h1 ho (by omega)
  refine ⟨w', ?_, by rw [hl] at r2; simpa using r2, r3, r4, r5, r6, r7⟩
  have h3 : (underlying t).run P w = .ok (.slice e) w := run_underlying hu w
  have h4 := firstCells_run (P := P) (m := m) (sz := sz) (c := sc) hl hr sl
  have h5 : Nat.min sl dl = m := hm
  simp only [Builtin.copy_, Sem.run_bind, Sem.run_pure, h3, Result.andThen_ok, Builtin.lenOf, sizeOf_run hz, List.getElem?_toArray, List.getElem?_cons_zero, List.getElem?_cons_succ]
  rw [h5, h4]
  simp only [Result.andThen_ok, r1]
  rfl
/-- copy into a block of one's own (the cells that are copied may be the block's own too) -/
theorem JL.copyO {t' : TypeId} {ad : Option Addr} {dl dc sl sc sz m : Nat} {A A' : Obj → Prop} {M' : List Ent} (hu : P.underlying t = some (.slice e)) (hz : szT P e = some sz) (hx : ev E x = some (.slice (some ⟨b, j, none⟩) dl dc)) (hy : ev E y = some (.slice ad sl sc))
    (hup : Upd M b A A' M') (hm : min sl dl = m) (hl : cs.length = m * sz) (hr : ∀ w, Holds w0 S M w → Reads w ad cs) (h1 : ∀ v ∈ cs, v.oneCell' = true) (hA : ∀ o, A o → ∃ r te, o = .cells (List.toArray r) te (0, 0) ∧ j + m * sz ≤ r.length ∧ A' (.cells (r.take j ++ cs ++ r.drop (j + m * sz)).toArray te (0, 0))) (hd : Nat.blt d n = true)
    (k : JL P n w0 S ops Q l ((d, N m) :: E) M') : JL P n w0 S ops Q (⟨some d, .call ⟨.builtin .copy, #[x, y], #[t, t']⟩, ty, pos, aft, none⟩ :: l) E M :=
  ⟨fun a w ha hw => wpList_plain rfl fun K hK => by
    obtain ⟨o, ho, hAo⟩ := hw.get hup.has
    obtain ⟨r, te, rfl, hj, hA'⟩ := hA o hAo
    obtain ⟨w', r1, r2, r3, r4, r5, r6, r7⟩ := copyO_run (P := P) (t' := t') (dc := dc) (sc := sc) (ty := te) hu hz ho hm hl (hr w hw) h1 hj
    have r1' : (Builtin.copy_ #[t, t'] ty #[.slice (some ⟨b, j, none⟩) dl dc, .slice ad sl sc]).run P w = .ok (N m) w' := r1
    unfold Oper.wp
    simp only [execOp, resolve, invoke, builtin, Sem.run_bind, Sem.run_pure, Result.andThen_ok, List.map_toArray, List.map_cons, List.map_nil, ha.eval hx, ha.eval hy, r1']
    exact hK _ _ (k.go _ _ (ha.put d _ hd) (hw.write hup hA' r2 r3 r4 r5 r6 r7))⟩
/-- clear of a part of one's own slice: what is there is made anew, all that lies ahead of it stays -/
theorem JL.clearO {z : Value} {by' sz k lo cap : Nat} {xs : List Value} (hu : P.underlying t = some (.slice e)) (hi : EI P e z sz by') (hzz : z.cells.size = sz) (hz1 : ∀ v ∈ z.cells.toList, v.oneCell' = true) (h0 : 0 < sz)
    (hx : ev E x = some (.slice (if cap = lo then some ⟨b, 0, none⟩ else (some ⟨b, 0, none⟩ : Option Addr).map (·.add (lo * sz))) (k - lo) (cap - lo))) (hlo : lo ≤ k)
    (hup : Upd M b (Own e sz k cap xs) (Own e sz lo cap (xs.take (lo * sz))) M') (hk : JL P n w0 S ops Q l E M') : JL P n w0 S ops Q (⟨none, .call ⟨.builtin .clear, #[x], #[t]⟩, ty, pos, aft, none⟩ :: l) E M :=
  ⟨fun a w ha hw => wpList_plain rfl fun K hK => by
    obtain ⟨o, ho, sp, rfl, h1, h2, h3⟩ := hw.get hup.has
    obtain ⟨i, hi1, hi2, hi3, hi4⟩ := hi.get
    have hu3 : (underlying t).run P w = .ok (.slice e) w := run_underlying hu w
    have hzv : (zeroValue e).run P w = .ok z w := by simp [zeroValue, typeInfo, Sem.run_bind, hi1, hi2]
    unfold Oper.wp
    by_cases hkl : k - lo = 0
    · have hke : lo = k := by omega
      have hrun : (Builtin.clear_ #[t] ty #[a.eval x]).run P w = .ok (.tuple #[]) w := by
        rw [ha.eval hx, hkl]
        simp only [Builtin.clear_, List.getElem?_toArray, List.getElem?_cons_zero, Sem.run_bind, hu3, Result.andThen_ok]
        split <;> simp_all
      simp only [execOp, resolve, invoke, builtin, Sem.run_bind, Sem.run_pure, Result.andThen_ok, List.map_toArray, List.map_cons, List.map_nil, hrun]
      refine hK _ _ (hk.go _ _ (ha.put_none _) (hw.write hup (o' := .cells (xs ++ sp).toArray e (0, 0)) ?_ ho rfl (fun _ _ => rfl) rfl rfl rfl))
      refine ⟨sp, ?_, ?_, ?_, by omega⟩
      · rw [List.take_of_length_le (by rw [h2, hke]; exact Nat.le_refl _)]
      · rw [List.take_of_length_le (by rw [h2, hke]; exact Nat.le_refl _)]; exact h1
      · rw [List.take_of_length_le (by rw [h2, hke]; exact Nat.le_refl _), h2, hke]
    · have hc : ¬ cap = lo := by omega
      have hzc : (Builtin.zeroCells z.cells (k - lo)).size = (k - lo) * sz := by simp [Builtin.zeroCells, hzz]
      have hle : lo * sz + (k - lo) * sz = xs.length := by rw [h2, ← Nat.add_mul]; congr 1; omega
      obtain ⟨w', r1, r2, r3, r4, r5, r6, r7⟩ := storeCells_run (P := P) (b := b) (j := lo * sz) (e := e) (Builtin.zeroCells z.cells (k - lo)).toList 0 w (xs ++ sp) (fun v hv => by
        obtain ⟨q, hq, rfl⟩ : ∃ a, a < (k - lo) * z.cells.size ∧ z.cells[a % z.cells.size]! = v := by simpa [Builtin.zeroCells] using hv
        have hlt : q % z.cells.size < z.cells.size := Nat.mod_lt _ (by omega)
        rw [getElem!_pos z.cells _ hlt]
        exact hz1 _ (by simp)) ho (by rw [List.length_append, Array.length_toList, hzc]; omega)
      have hrun : (Builtin.clear_ #[t] ty #[a.eval x]).run P w = .ok (.tuple #[]) w' := by
        rw [ha.eval hx, if_neg hc]
        simp only [Builtin.clear_, List.getElem?_toArray, List.getElem?_cons_zero, Sem.run_bind, hu3, Result.andThen_ok, Option.map_some, add_off, Nat.zero_add]
        obtain ⟨m, hm⟩ : ∃ m, k - lo = m + 1 := ⟨k - lo - 1, by omega⟩
        rw [hm] at r1 ⊢
        simp only [Sem.run_bind, hzv, Result.andThen_ok, r1]
        rfl
      simp only [execOp, resolve, invoke, builtin, Sem.run_bind, Sem.run_pure, Result.andThen_ok, List.map_toArray, List.map_cons, List.map_nil, hrun]
      refine hK _ _ (hk.go _ _ (ha.put_none _) (hw.write hup ?_ r2 r3 r4 r5 r6 r7))
      have hzl : (Builtin.zeroCells z.cells (k - lo)).toList.length = (k - lo) * sz := by rw [Array.length_toList, hzc]
      rw [Nat.add_zero, hzl, List.take_append_of_le_length (by omega), hle, List.drop_left]
      generalize (Builtin.zeroCells z.cells (k - lo)).toList = zs at hzl ⊢
      refine ⟨zs ++ sp, by rw [List.append_assoc], ?_, by rw [List.length_take]; rw [Nat.min_eq_left (by omega)], by omega⟩
      rw [List.length_append] at h1
      simp only [List.length_append, List.length_take]
      rw [Nat.min_eq_left (by omega)]
      omega⟩
theorem hi_slice {b hi cap : Nat} : Value.slice (if cap = 0 then some ⟨b, 0, none⟩ else (some ⟨b, 0, none⟩ : Option Addr).map (·.add 0)) hi cap = .slice (some ⟨b, 0, none⟩) hi cap := by
  split <;> simp [Addr.add]
/-- what a block's entry tells may be used -/
theorem JL.capIs {A : Obj → Prop} {wr : Bool} {F : Prop} (hM : Has M b A wr) (hA : ∀ o, A o → F) (k : F → JL P n w0 S ops Q l E M) : JL P n w0 S ops Q l E M :=
  ⟨fun a w ha hw => by obtain ⟨o, _, h⟩ := hw.get hM; exact (k (hA o h)).go a w ha hw⟩
theorem JC.capIs {A : Obj → Prop} {wr : Bool} {F : Prop} {c : Code} (hM : Has M b A wr) (hA : ∀ o, A o → F) (k : F → JC P n w0 S Q c E M) : JC P n w0 S Q c E M :=
  ⟨fun a w ha hw => by obtain ⟨o, _, h⟩ := hw.get hM; exact (k (hA o h)).go a w ha hw⟩
/-! ### function values of a pair -/
/-- in worlds of C, for pairs of D, it answers p, and keeps all blocks -/
def FunP (P : Program) (C : World → Prop) (D : Pr → Prop) (fv : Value) (p : Pr → Bool) : Prop :=
  ∃ (f : FuncId) (caps : List Value), fv = .func (.func f) #[] caps.toArray ∧ Goes P f ∧ ∀ (c : Pr) (w : World), D c → C w → Calls P f (.agg (pc c).toArray :: caps).toArray w fun e w' => e = .returned (.bool (p c)) ∧ Ext w w'
theorem OQ.callP {D : Pr → Prop} {fv : Value} {p : Pr → Bool} {c : Pr} {r : Bool} (hF : FunP P C D fv p) (hD : D c) (hC : ∀ w, Holds w0 S M w → C w) (hx : ev E x = some fv) (hy : ev E y = some (.agg (pc c).toArray)) (h : p c = r) {ats : Array TypeId} : OQ P n E (Holds w0 S M) ⟨dst, .call ⟨.value x, #[y], ats⟩, ty, pos, aft, g⟩ (.bool r) := by
  obtain ⟨f, caps, h1, h2, h3⟩ := hF
  subst h1
  refine ⟨fun a hk w hw => ?_⟩
  have hy' : evs E [y] = some [.agg (pc c).toArray] := by simp [evs, hy]
  unfold Oper.quietAt
  rw [show (#[y] : Array Operand) = [y].toArray from rfl, exec_callv (xs := [y]) h2 hk hx hy' w]
  refine ⟨rfl, (h3 c w hD (hC w hw)).mono fun e w' ⟨k1, k2⟩ => ⟨?_, hw.ext k2⟩⟩
  rw [k1, h]
theorem OQ.capS {ad : Option Addr} {k cap : Nat} (hu : P.underlying t = some (.slice e)) (hx : ev E x = some (.slice ad k cap)) : OQ P n E C ⟨dst, .call ⟨.builtin .cap, #[x], #[t]⟩, ty, pos, aft, g⟩ (N cap) :=
  OQ.run fun a hk w _ => by
    have h1 := hk.eval hx
    have h3 : (underlying t).run P w = .ok (.slice e) w := run_underlying hu w
    simp [execOp, h1, resolve, invoke, builtin, Builtin.cap_, Sem.run_bind, h3, goInt]
/-! ### slices.overlaps of two blocks -/
structure IsLap (P : Program) (f : FuncId) (tS tR : TypeId) : Prop where
  go : ∃ fn, P.funcs[f]? = some fn ∧ (fn.name == "runtime.NumGoroutine") = false ∧ fn.body.isNone = true ∧ Extern.findNext fn = none ∧ Extern.find fn = some (Extern.SlicesOverlaps.overlaps #[tS, tS] #[tR])
theorem OQ.lap {f : FuncId} {tS tR : TypeId} {ats : Array TypeId} {sz b1 b2 o2 la ca lb cb : Nat} {A1 A2 : Obj → Prop} {wr1 wr2 : Bool} (hf : IsLap P f tS tR) (hu : P.underlying tS = some (.slice e)) (hz : szT P e = some sz) (hx : ev E x = some (.slice (some ⟨b1, 0, none⟩) la ca)) (hy : ev E y = some (.slice (some ⟨b2, o2, none⟩) lb cb))
    (h1 : Has M b1 A1 wr1) (h2 : Has M b2 A2 wr2) (hA1 : ∀ o, A1 o → ∃ c te, o = .cells c te (0, 0)) (hA2 : ∀ o, A2 o → ∃ c te, o = .cells c te (0, 0) ∧ c.size ≠ 0) (hne : ∀ w, Holds w0 S M w → b1 ≠ b2) :
    OQ P n E (Holds w0 S M) ⟨dst, .call ⟨.value (.func f), #[x, y], ats⟩, ty, pos, aft, g⟩ (.bool false) := by
  refine OQ.run fun ac hk w hw => ?_
  obtain ⟨fn, g1, g2, g3, g4, g5⟩ := hf.go
  obtain ⟨q1, p1, r1⟩ := hw.get h1
  obtain ⟨q2, p2, r2⟩ := hw.get h2
  obtain ⟨c1, te1, rfl⟩ := hA1 _ r1
  obtain ⟨c2, te2, rfl, hc2⟩ := hA2 _ r2
  have r := run_callFunc_extern g1 g2 g3 g4 g5 #[.slice (some ⟨b1, 0, none⟩) la ca, .slice (some ⟨b2, o2, none⟩) lb cb] w
  rw [Lib.run_overlaps_apart w tS tR e hu sz (fun w => sizeOf_run hz w) ⟨b1, 0, none⟩ ⟨b2, o2, none⟩ la ca lb cb (hne w hw) te1 te2 c1.size c2.size (by simp [World.shape?, p1]) (by simp [World.shape?, p2]) hc2 (by simp [World.frozen?, p1]) (by simp [World.frozen?, p1])] at r
  simp only [Result.andThen] at r
  have e1 := hk.eval hx
  have e2 := hk.eval hy
  simp only [execOp, resolve, Sem.run_bind, Sem.run_pure, Result.andThen_ok, List.map_toArray, List.map_cons, List.map_nil, e1, e2]
  simpa [Act.eval, Deferred.ofValue, invoke, Sem.run_bind] using r
end
end Sl
end Go.Proofs.YtikhlddemdlmgaaDoor

/-
  Of no statement by itself: package bytes: Equal, HasPrefix, HasSuffix, TrimPrefix, Clone.
  Conditions: each theorem's own.
-/
namespace Go.Proofs.YtikhlddemdlmgaaDoor
set_option maxRecDepth 10000
open Sl
def preB (s d : List Bt) : Bool := decide ((d.length : Int) ≤ (s.length : Int)) && decide (s.take d.length = d)
def sufB (s d : List Bt) : Bool := decide ((d.length : Int) ≤ (s.length : Int)) && decide (s.drop (s.length - d.length) = d)
theorem OQ.isNil {P : Program} {n : Nat} {E : Env} {C : World → Prop} {dst : Option Tmp} {t t' ty e : TypeId} {pos : String} {aft : Array Edge} {g : Option (Nat × Bool)} {x y : Operand} {ad : Option Addr} {k cap : Nat} (hu : P.underlying t = some (.slice e)) (hx : ev E x = some (.slice ad k cap)) (hy : ev E y = some (.slice none 0 0)) :
    OQ P n E C ⟨dst, .binOp .eql t x y t', ty, pos, aft, g⟩ (.bool ad.isNone) :=
  OQ.run fun c ha w _ => by
    have h1 := ha.eval hx
    have h2 := ha.eval hy
    have h4 : (binOp .eql t (.slice ad k cap) (.slice none 0 0)).run P w = .ok (.bool ad.isNone) w := by
      show (do pure (.bool (← Op.equal t (.slice ad k cap) (.slice none 0 0))) : Sem Value).run P w = _
      simp [Sem.run_bind, run_equal_slice_nil w t e ad k cap hu]
    simp [execOp, h1, h2, eqGuard, h4]
theorem goes_clone : Goes Tryd.prog 23 := ⟨_, Tryd.func23, rfl, by kernel_rfl⟩
set_option maxHeartbeats 4000000 in
theorem clone_any (s : Sl8) (w : World) (hs : s.ok w) (hl : s.l.length ≤ 4294967296) : Calls Tryd.prog 23 [s.v].toArray w fun e w' => ∃ q : Acc, e = .returned (accV q s.l.length) ∧ (q = none → s.l = []) ∧ Holds w [] (accE 5 q (s.l.map U8)) w' := by
  refine enter (n := 8) Tryd.func23 rfl rfl rfl (Holds.start w []) ?_
  obtain ⟨ad, cap, l⟩ := s
  cases ad with
  | none =>
    have h0 : l = [] := by
      cases l with
      | nil => rfl
      | cons c l =>
        obtain ⟨b, j, h1, _⟩ := hs.reads.at (by simp)
        cases h1
    repeat (first | refine JL.q (by first | (apply OQ.isNil; exact Tryd.underlying23; exact rfl; exact rfl) | (apply OQ.move; exact rfl) | (apply OQ.assign; exact rfl) | (apply OQ.len; exact rfl; exact rfl) | (apply OQ.subN; exact rfl; exact rfl; exact (by (try simp only []); omega); exact (by (try simp only []); omega))) rfl ?_ | refine JC.seq ?_ | refine JC.region ?_ | refine JC.block ?_ | refine JC.skip ?_ | refine JC.exit ?_ | refine JL.nil ?_ | refine JE.next ?_ | refine JE.blk_normal ?_ | refine JE.then_exit ?_ | refine JE.blk_hit ?_ | refine JE.blk_miss rfl ?_ | refine JE.then_ret ?_ | refine JE.blk_ret ?_ | refine JC.label ?_ | refine JL.gon rfl rfl ?_ | refine JL.gskip rfl rfl rfl rfl ?_ | refine JL.gskipU rfl rfl rfl rfl ?_)
    refine JC.cond_true rfl rfl ?_
    repeat (first | refine JL.q (by first | (apply OQ.move; exact rfl) | (apply OQ.assign; exact rfl) | (apply OQ.len; exact rfl; exact rfl) | (apply OQ.subN; exact rfl; exact rfl; exact (by (try simp only []); omega); exact (by (try simp only []); omega))) rfl ?_ | refine JC.seq ?_ | refine JC.region ?_ | refine JC.block ?_ | refine JC.skip ?_ | refine JC.exit ?_ | refine JL.nil ?_ | refine JE.next ?_ | refine JE.blk_normal ?_ | refine JE.then_exit ?_ | refine JE.blk_hit ?_ | refine JE.blk_miss rfl ?_ | refine JE.then_ret ?_ | refine JE.blk_ret ?_ | refine JC.label ?_ | refine JL.gon rfl rfl ?_ | refine JL.gskip rfl rfl rfl rfl ?_ | refine JL.gskipU rfl rfl rfl rfl ?_)
    refine JC.ret ?_
    repeat (first | refine JL.q (by first | (apply OQ.move; exact rfl) | (apply OQ.assign; exact rfl) | (apply OQ.len; exact rfl; exact rfl) | (apply OQ.subN; exact rfl; exact rfl; exact (by (try simp only []); omega); exact (by (try simp only []); omega))) rfl ?_ | refine JC.seq ?_ | refine JC.region ?_ | refine JC.block ?_ | refine JC.skip ?_ | refine JC.exit ?_ | refine JL.nil ?_ | refine JE.next ?_ | refine JE.blk_normal ?_ | refine JE.then_exit ?_ | refine JE.blk_hit ?_ | refine JE.blk_miss rfl ?_ | refine JE.then_ret ?_ | refine JE.blk_ret ?_ | refine JC.label ?_ | refine JL.gon rfl rfl ?_ | refine JL.gskip rfl rfl rfl rfl ?_ | refine JL.gskipU rfl rfl rfl rfl ?_)
    exact JE.ret1 rfl (RV.tmp rfl) fun w' hw => ⟨none, rfl, fun _ => h0, hw⟩
  | some ad =>
    repeat (first | refine JL.q (by first | (apply OQ.isNil; exact Tryd.underlying23; exact rfl; exact rfl) | (apply OQ.move; exact rfl) | (apply OQ.assign; exact rfl) | (apply OQ.len; exact rfl; exact rfl) | (apply OQ.subN; exact rfl; exact rfl; exact (by (try simp only []); omega); exact (by (try simp only []); omega))) rfl ?_ | refine JC.seq ?_ | refine JC.region ?_ | refine JC.block ?_ | refine JC.skip ?_ | refine JC.exit ?_ | refine JL.nil ?_ | refine JE.next ?_ | refine JE.blk_normal ?_ | refine JE.then_exit ?_ | refine JE.blk_hit ?_ | refine JE.blk_miss rfl ?_ | refine JE.then_ret ?_ | refine JE.blk_ret ?_ | refine JC.label ?_ | refine JL.gon rfl rfl ?_ | refine JL.gskip rfl rfl rfl rfl ?_ | refine JL.gskipU rfl rfl rfl rfl ?_)
    refine JC.cond_false rfl rfl ?_
    repeat (first | refine JL.q (by first | (apply OQ.move; exact rfl) | (apply OQ.assign; exact rfl) | (apply OQ.len; exact rfl; exact rfl) | (apply OQ.subN; exact rfl; exact rfl; exact (by (try simp only []); omega); exact (by (try simp only []); omega))) rfl ?_ | refine JC.seq ?_ | refine JC.region ?_ | refine JC.block ?_ | refine JC.skip ?_ | refine JC.exit ?_ | refine JL.nil ?_ | refine JE.next ?_ | refine JE.blk_normal ?_ | refine JE.then_exit ?_ | refine JE.blk_hit ?_ | refine JE.blk_miss rfl ?_ | refine JE.then_ret ?_ | refine JE.blk_ret ?_ | refine JC.label ?_ | refine JL.gon rfl rfl ?_ | refine JL.gskip rfl rfl rfl rfl ?_ | refine JL.gskipU rfl rfl rfl rfl ?_)
    refine JL.lit0O Tryd.underlying23 u8e rfl fun b0 _ => ?_
    repeat (first | refine JL.q (by first | (apply OQ.move; exact rfl) | (apply OQ.assign; exact rfl) | (apply OQ.len; exact rfl; exact rfl) | (apply OQ.subN; exact rfl; exact rfl; exact (by (try simp only []); omega); exact (by (try simp only []); omega))) rfl ?_ | refine JC.seq ?_ | refine JC.region ?_ | refine JC.block ?_ | refine JC.skip ?_ | refine JC.exit ?_ | refine JL.nil ?_ | refine JE.next ?_ | refine JE.blk_normal ?_ | refine JE.then_exit ?_ | refine JE.blk_hit ?_ | refine JE.blk_miss rfl ?_ | refine JE.then_ret ?_ | refine JE.blk_ret ?_ | refine JC.label ?_ | refine JL.gon rfl rfl ?_ | refine JL.gskip rfl rfl rfl rfl ?_ | refine JL.gskipU rfl rfl rfl rfl ?_)
    refine JL.append (cs := l.map U8) (m := l.length) (ad := some ad) (sc := cap) (xs := []) (fun b' cap' => [⟨b', Own 5 1 (0 + l.length) cap' ([] ++ l.map U8), true⟩]) Tryd.underlying23 u8e rfl rfl (by intro _ _; repeat (first | exact Repl.here | apply Repl.there)) (by simp) (fun w' hw' => (hs.holds hw' rfl).reads) (all8U _) rfl (by decide) (by simp only [] at hl; omega) (by simp only [] at hl; omega) rfl fun b1 cap1 => ?_
    rw [Nat.zero_add, List.nil_append]
    repeat (first | refine JL.q (by first | (apply OQ.move; exact rfl) | (apply OQ.assign; exact rfl) | (apply OQ.len; exact rfl; exact rfl) | (apply OQ.subN; exact rfl; exact rfl; exact (by (try simp only []); omega); exact (by (try simp only []); omega))) rfl ?_ | refine JC.seq ?_ | refine JC.region ?_ | refine JC.block ?_ | refine JC.skip ?_ | refine JC.exit ?_ | refine JL.nil ?_ | refine JE.next ?_ | refine JE.blk_normal ?_ | refine JE.then_exit ?_ | refine JE.blk_hit ?_ | refine JE.blk_miss rfl ?_ | refine JE.then_ret ?_ | refine JE.blk_ret ?_ | refine JC.label ?_ | refine JL.gon rfl rfl ?_ | refine JL.gskip rfl rfl rfl rfl ?_ | refine JL.gskipU rfl rfl rfl rfl ?_)
    refine JC.ret (JE.ret1 rfl (RV.tmp rfl) fun w' hw => ⟨some (b1, cap1), rfl, (fun h => by cases h), ?_⟩)
    show Holds w [] [⟨b1, Own 5 1 (l.map U8).length cap1 (l.map U8), true⟩] w'
    rw [List.length_map]
    exact hw
end Go.Proofs.YtikhlddemdlmgaaDoor

/-
  Of no statement by itself: what the reference's Name, Signs, Value, blank, small and Same (layer 9) give.
  Conditions: each theorem's own.
-/
namespace Go.Proofs.YtikhlddemdlmgaaDoor
set_option maxRecDepth 10000
open Sl Fld
theorem goes_rsmall : Goes Tryd.prog 24 := ⟨_, Tryd.func24, rfl, by kernel_rfl⟩
theorem goes_rsame9 : Goes Tryd.prog 16 := ⟨_, Tryd.func16, rfl, by kernel_rfl⟩
theorem nok_is : ∀ c : Fld.By, nok c = !(decide ((c.toNat : Int) < 33) || decide (126 < (c.toNat : Int)) || decide ((c.toNat : Int) = 58)) := by
  have h : ∀ c : Fin 256, nok (BitVec.ofNat 8 c.val) = !(decide (((BitVec.ofNat 8 c.val).toNat : Int) < 33) || decide (126 < ((BitVec.ofNat 8 c.val).toNat : Int)) || decide (((BitVec.ofNat 8 c.val).toNat : Int) = 58)) := by decide +kernel
  intro c
  simpa using h ⟨c.toNat, c.isLt⟩
theorem sok_is : ∀ c : Fld.By, sok c = !(!decide ((c.toNat : Int) = 9) && (decide ((c.toNat : Int) < 32) || decide (126 < (c.toNat : Int)))) := by
  have h : ∀ c : Fin 256, sok (BitVec.ofNat 8 c.val) = !(!decide (((BitVec.ofNat 8 c.val).toNat : Int) = 9) && (decide (((BitVec.ofNat 8 c.val).toNat : Int) < 32) || decide (126 < ((BitVec.ofNat 8 c.val).toNat : Int)))) := by decide +kernel
  intro c
  simpa using h ⟨c.toNat, c.isLt⟩
theorem bl_is : ∀ c : Fld.By, bl c = (decide ((c.toNat : Int) = 32) || decide ((c.toNat : Int) = 9)) := by
  have h : ∀ c : Fin 256, bl (BitVec.ofNat 8 c.val) = (decide (((BitVec.ofNat 8 c.val).toNat : Int) = 32) || decide (((BitVec.ofNat 8 c.val).toNat : Int) = 9)) := by decide +kernel
  intro c
  simpa using h ⟨c.toNat, c.isLt⟩
theorem idxAt {s : List Fld.By} {i : Nat} (h : i < s.length) {n : Nat} {E : Env} {C : World → Prop} {dst : Option Tmp} {ty : TypeId} {pos : String} {aft : Array Edge} {g : Option (Nat × Bool)} {x y : Operand} (hx : ev E x = some (Z s)) (hy : ev E y = some (N i)) : OQ Tryd.prog n E C ⟨dst, .index 9 x y, ty, pos, aft, g⟩ (U8 (s.getD i 0)) := OQ.idxZ Tryd.underlying9 hx hy h
theorem rsmall_any (c : Fld.By) (w : World) : Calls Tryd.prog 24 [U8 c].toArray w fun e w' => e = .returned (U8 (small c)) ∧ Ext w w' := by
  refine enter (n := 12) Tryd.func24 rfl rfl rfl (Holds.start w []) ?_
  have hs : small c = if decide ((65 : Int) ≤ (c.toNat : Int)) && decide ((c.toNat : Int) ≤ 90) then c + 32 else c := by
    unfold small
    by_cases h : 65 ≤ c.toNat ∧ c.toNat ≤ 90
    · rw [if_pos h, if_pos (by simp; omega)]
    · rw [if_neg h, if_neg (by simp; omega)]
  rw [hs]
  cases h1 : decide ((65 : Int) ≤ (c.toNat : Int)) <;> cases h2 : decide ((c.toNat : Int) ≤ 90)
  all_goals (repeat (first | refine JL.q (by first | (apply OQ.geqB (b := 65); exact rfl; exact rfl; exact h1) | (apply OQ.leqB (b := 90); exact rfl; exact rfl; exact h2) | (apply OQ.pick_t; exact rfl; exact rfl) | (apply OQ.pick_f; exact rfl; exact rfl) | (apply OQ.move; exact rfl) | (apply OQ.assign; exact rfl) | (apply OQ.len; exact rfl; exact rfl) | (apply OQ.addN; exact rfl; exact rfl; exact (by (try simp only []); omega)) | (apply OQ.subN; exact rfl; exact rfl; exact (by (try simp only []); omega); exact (by (try simp only []); omega)) | (apply OQ.lssN; exact rfl; exact rfl)) rfl ?_ | refine JC.seq ?_ | refine JC.region ?_ | refine JC.block ?_ | refine JC.skip ?_ | refine JC.exit ?_ | refine JL.nil ?_ | refine JE.next ?_ | refine JE.blk_normal ?_ | refine JE.then_exit ?_ | refine JE.blk_hit ?_ | refine JE.blk_miss rfl ?_ | refine JE.then_ret ?_ | refine JE.blk_ret ?_ | refine JC.label ?_ | refine JL.gon rfl rfl ?_ | refine JL.gskip rfl rfl rfl rfl ?_ | refine JL.gskipU rfl rfl rfl rfl ?_))
  all_goals refine JC.cond rfl (fun h => ?_) (fun h => ?_)
  all_goals first | (exfalso; revert h; decide) | skip
  all_goals (repeat (first | refine JL.q (by first | (apply OQ.add8 (b := 32#8); exact rfl; exact rfl) | (apply OQ.move; exact rfl) | (apply OQ.assign; exact rfl) | (apply OQ.len; exact rfl; exact rfl) | (apply OQ.addN; exact rfl; exact rfl; exact (by (try simp only []); omega)) | (apply OQ.subN; exact rfl; exact rfl; exact (by (try simp only []); omega); exact (by (try simp only []); omega)) | (apply OQ.lssN; exact rfl; exact rfl)) rfl ?_ | refine JC.seq ?_ | refine JC.region ?_ | refine JC.block ?_ | refine JC.skip ?_ | refine JC.exit ?_ | refine JL.nil ?_ | refine JE.next ?_ | refine JE.blk_normal ?_ | refine JE.then_exit ?_ | refine JE.blk_hit ?_ | refine JE.blk_miss rfl ?_ | refine JE.then_ret ?_ | refine JE.blk_ret ?_ | refine JC.label ?_ | refine JL.gon rfl rfl ?_ | refine JL.gskip rfl rfl rfl rfl ?_ | refine JL.gskipU rfl rfl rfl rfl ?_))
  all_goals refine JC.ret ?_
  all_goals (repeat (first | refine JL.q (by first | (apply OQ.move; exact rfl) | (apply OQ.assign; exact rfl) | (apply OQ.len; exact rfl; exact rfl) | (apply OQ.addN; exact rfl; exact rfl; exact (by (try simp only []); omega)) | (apply OQ.subN; exact rfl; exact rfl; exact (by (try simp only []); omega); exact (by (try simp only []); omega)) | (apply OQ.lssN; exact rfl; exact rfl)) rfl ?_ | refine JC.seq ?_ | refine JC.region ?_ | refine JC.block ?_ | refine JC.skip ?_ | refine JC.exit ?_ | refine JL.nil ?_ | refine JE.next ?_ | refine JE.blk_normal ?_ | refine JE.then_exit ?_ | refine JE.blk_hit ?_ | refine JE.blk_miss rfl ?_ | refine JE.then_ret ?_ | refine JE.blk_ret ?_ | refine JC.label ?_ | refine JL.gon rfl rfl ?_ | refine JL.gskip rfl rfl rfl rfl ?_ | refine JL.gskipU rfl rfl rfl rfl ?_))
  all_goals exact JE.ret1 rfl (RV.tmp rfl) fun w' hw => ⟨rfl, hw.chg⟩
theorem map_take_eq (a b : List Fld.By) {i : Nat} (ha : i < a.length) (hb : i < b.length) (h : (a.take i).map small = (b.take i).map small) (k : small (a.getD i 0) = small (b.getD i 0)) : (a.take (i + 1)).map small = (b.take (i + 1)).map small := by
  rw [take_succ_getD a ha, take_succ_getD b hb, List.map_append, List.map_append, h, List.map_singleton, List.map_singleton, k]
theorem map_at_ne (a b : List Fld.By) {i : Nat} (ha : i < a.length) (hb : i < b.length) (k : ¬ small (a.getD i 0) = small (b.getD i 0)) : sameB a b = false := by
  refine decide_eq_false fun h => k ?_
  have := congrArg (fun l => l[i]?) h
  simp only [List.getElem?_map, List.getElem?_eq_getElem ha, List.getElem?_eq_getElem hb, Option.map_some, Option.some.injEq] at this
  rw [List.getD_eq_getElem?_getD, List.getD_eq_getElem?_getD, List.getElem?_eq_getElem ha, List.getElem?_eq_getElem hb]
  exact this
set_option maxHeartbeats 8000000 in
theorem rsame9_any (a b : List Fld.By) (w : World) (hl : a.length < 9223372036854775808) (hl2 : b.length < 9223372036854775808) : Calls Tryd.prog 16 [Z a, Z b].toArray w fun e w' => e = .returned (.bool (sameB a b)) ∧ Ext w w' := by
  refine enter (n := 26) Tryd.func16 rfl rfl rfl (Holds.start w []) ?_
  cases h0 : decide ((a.length : Int) = (b.length : Int))
  · have hne : sameB a b = false := decide_eq_false fun h => by
      have := congrArg List.length h
      simp only [List.length_map] at this
      exact of_decide_eq_false h0 (by omega)
    rw [hne]
    repeat (first | refine JL.q (by first | (apply OQ.lenS; exact Tryd.underlying9; exact rfl) | (apply OQ.neB; exact rfl; exact rfl; exact h0) | (apply OQ.move; exact rfl) | (apply OQ.assign; exact rfl) | (apply OQ.len; exact rfl; exact rfl) | (apply OQ.addN; exact rfl; exact rfl; exact (by (try simp only []); omega)) | (apply OQ.subN; exact rfl; exact rfl; exact (by (try simp only []); omega); exact (by (try simp only []); omega)) | (apply OQ.lssN; exact rfl; exact rfl)) rfl ?_ | refine JC.seq ?_ | refine JC.region ?_ | refine JC.block ?_ | refine JC.skip ?_ | refine JC.exit ?_ | refine JL.nil ?_ | refine JE.next ?_ | refine JE.blk_normal ?_ | refine JE.then_exit ?_ | refine JE.blk_hit ?_ | refine JE.blk_miss rfl ?_ | refine JE.then_ret ?_ | refine JE.blk_ret ?_ | refine JC.label ?_ | refine JL.gon rfl rfl ?_ | refine JL.gskip rfl rfl rfl rfl ?_ | refine JL.gskipU rfl rfl rfl rfl ?_)
    refine JC.cond rfl (fun _ => ?_) (fun h => by cases h)
    repeat (first | refine JL.q (by first | (apply OQ.move; exact rfl) | (apply OQ.assign; exact rfl) | (apply OQ.len; exact rfl; exact rfl) | (apply OQ.addN; exact rfl; exact rfl; exact (by (try simp only []); omega)) | (apply OQ.subN; exact rfl; exact rfl; exact (by (try simp only []); omega); exact (by (try simp only []); omega)) | (apply OQ.lssN; exact rfl; exact rfl)) rfl ?_ | refine JC.seq ?_ | refine JC.region ?_ | refine JC.block ?_ | refine JC.skip ?_ | refine JC.exit ?_ | refine JL.nil ?_ | refine JE.next ?_ | refine JE.blk_normal ?_ | refine JE.then_exit ?_ | refine JE.blk_hit ?_ | refine JE.blk_miss rfl ?_ | refine JE.then_ret ?_ | refine JE.blk_ret ?_ | refine JC.label ?_ | refine JL.gon rfl rfl ?_ | refine JL.gskip rfl rfl rfl rfl ?_ | refine JL.gskipU rfl rfl rfl rfl ?_)
    refine JC.ret ?_
    repeat (first | refine JL.q (by first | (apply OQ.move; exact rfl) | (apply OQ.assign; exact rfl) | (apply OQ.len; exact rfl; exact rfl) | (apply OQ.addN; exact rfl; exact rfl; exact (by (try simp only []); omega)) | (apply OQ.subN; exact rfl; exact rfl; exact (by (try simp only []); omega); exact (by (try simp only []); omega)) | (apply OQ.lssN; exact rfl; exact rfl)) rfl ?_ | refine JC.seq ?_ | refine JC.region ?_ | refine JC.block ?_ | refine JC.skip ?_ | refine JC.exit ?_ | refine JL.nil ?_ | refine JE.next ?_ | refine JE.blk_normal ?_ | refine JE.then_exit ?_ | refine JE.blk_hit ?_ | refine JE.blk_miss rfl ?_ | refine JE.then_ret ?_ | refine JE.blk_ret ?_ | refine JC.label ?_ | refine JL.gon rfl rfl ?_ | refine JL.gskip rfl rfl rfl rfl ?_ | refine JL.gskipU rfl rfl rfl rfl ?_)
    exact JE.ret1 rfl (RV.tmp rfl) fun w' hw => ⟨rfl, hw.chg⟩
  · have hab : a.length = b.length := by have := of_decide_eq_true h0; omega
    repeat (first | refine JL.q (by first | (apply OQ.lenS; exact Tryd.underlying9; exact rfl) | (apply OQ.neB; exact rfl; exact rfl; exact h0) | (apply OQ.move; exact rfl) | (apply OQ.assign; exact rfl) | (apply OQ.len; exact rfl; exact rfl) | (apply OQ.addN; exact rfl; exact rfl; exact (by (try simp only []); omega)) | (apply OQ.subN; exact rfl; exact rfl; exact (by (try simp only []); omega); exact (by (try simp only []); omega)) | (apply OQ.lssN; exact rfl; exact rfl)) rfl ?_ | refine JC.seq ?_ | refine JC.region ?_ | refine JC.block ?_ | refine JC.skip ?_ | refine JC.exit ?_ | refine JL.nil ?_ | refine JE.next ?_ | refine JE.blk_normal ?_ | refine JE.then_exit ?_ | refine JE.blk_hit ?_ | refine JE.blk_miss rfl ?_ | refine JE.then_ret ?_ | refine JE.blk_ret ?_ | refine JC.label ?_ | refine JL.gon rfl rfl ?_ | refine JL.gskip rfl rfl rfl rfl ?_ | refine JL.gskipU rfl rfl rfl rfl ?_)
    refine JC.cond rfl (fun h => by cases h) (fun _ => ?_)
    repeat (first | refine JL.q (by first | (apply OQ.move; exact rfl) | (apply OQ.assign; exact rfl) | (apply OQ.len; exact rfl; exact rfl) | (apply OQ.addN; exact rfl; exact rfl; exact (by (try simp only []); omega)) | (apply OQ.subN; exact rfl; exact rfl; exact (by (try simp only []); omega); exact (by (try simp only []); omega)) | (apply OQ.lssN; exact rfl; exact rfl)) rfl ?_ | refine JC.seq ?_ | refine JC.region ?_ | refine JC.block ?_ | refine JC.skip ?_ | refine JC.exit ?_ | refine JL.nil ?_ | refine JE.next ?_ | refine JE.blk_normal ?_ | refine JE.then_exit ?_ | refine JE.blk_hit ?_ | refine JE.blk_miss rfl ?_ | refine JE.then_ret ?_ | refine JE.blk_ret ?_ | refine JC.label ?_ | refine JL.gon rfl rfl ?_ | refine JL.gskip rfl rfl rfl rfl ?_ | refine JL.gskipU rfl rfl rfl rfl ?_)
    refine JC.loop (fun i : Nat => [(0, Z a), (1, Z b), (5, N i)]) (fun _ => []) (fun i => a.length - i) (fun i => i ≤ a.length ∧ (a.take i).map small = (b.take i).map small) 0 ⟨Nat.zero_le _, rfl⟩ (by repeat (first | exact SubE.nil | refine SubE.cons _ _ _ rfl ?_)) (Less.refl _) ?_
    rintro i ⟨hi, ha⟩
    repeat (first | refine JL.q (by first | (apply OQ.lenS; exact Tryd.underlying9; exact rfl) | (apply OQ.move; exact rfl) | (apply OQ.assign; exact rfl) | (apply OQ.len; exact rfl; exact rfl) | (apply OQ.addN; exact rfl; exact rfl; exact (by (try simp only []); omega)) | (apply OQ.subN; exact rfl; exact rfl; exact (by (try simp only []); omega); exact (by (try simp only []); omega)) | (apply OQ.lssN; exact rfl; exact rfl)) rfl ?_ | refine JC.seq ?_ | refine JC.region ?_ | refine JC.block ?_ | refine JC.skip ?_ | refine JC.exit ?_ | refine JL.nil ?_ | refine JE.next ?_ | refine JE.blk_normal ?_ | refine JE.then_exit ?_ | refine JE.blk_hit ?_ | refine JE.blk_miss rfl ?_ | refine JE.then_ret ?_ | refine JE.blk_ret ?_ | refine JC.label ?_ | refine JL.gon rfl rfl ?_ | refine JL.gskip rfl rfl rfl rfl ?_ | refine JL.gskipU rfl rfl rfl rfl ?_)
    refine JC.cond rfl (fun h => ?_) (fun h => ?_)
    · have hi' : i < a.length := of_decide_eq_true h
      have hi2 : i < b.length := by omega
      clear h hi
      have hx := map_take_eq a b hi' hi2 ha
      have hbad := map_at_ne a b hi' hi2
      have i0 := fun {n : Nat} {E : Env} {C : World → Prop} {dst : Option Tmp} {ty : TypeId} {pos : String} {aft : Array Edge} {g : Option (Nat × Bool)} {x y : Operand} => idxAt hi' (n := n) (E := E) (C := C) (dst := dst) (ty := ty) (pos := pos) (aft := aft) (g := g) (x := x) (y := y)
      have i1 := fun {n : Nat} {E : Env} {C : World → Prop} {dst : Option Tmp} {ty : TypeId} {pos : String} {aft : Array Edge} {g : Option (Nat × Bool)} {x y : Operand} => idxAt hi2 (n := n) (E := E) (C := C) (dst := dst) (ty := ty) (pos := pos) (aft := aft) (g := g) (x := x) (y := y)
      generalize a.getD i 0 = c at hx hbad i0
      generalize b.getD i 0 = d at hx hbad i1
      cases h1 : decide (small c = small d)
      · rw [hbad (of_decide_eq_false h1)]
        repeat (first | refine JL.q (by first | (apply OQ.move; exact rfl) | (apply OQ.assign; exact rfl) | (apply OQ.len; exact rfl; exact rfl) | (apply OQ.addN; exact rfl; exact rfl; exact (by (try simp only []); omega)) | (apply OQ.subN; exact rfl; exact rfl; exact (by (try simp only []); omega); exact (by (try simp only []); omega)) | (apply OQ.lssN; exact rfl; exact rfl)) rfl ?_ | refine JC.seq ?_ | refine JC.region ?_ | refine JC.block ?_ | refine JC.skip ?_ | refine JC.exit ?_ | refine JL.nil ?_ | refine JE.next ?_ | refine JE.blk_normal ?_ | refine JE.then_exit ?_ | refine JE.blk_hit ?_ | refine JE.blk_miss rfl ?_ | refine JE.then_ret ?_ | refine JE.blk_ret ?_ | refine JC.label ?_ | refine JL.gon rfl rfl ?_ | refine JL.gskip rfl rfl rfl rfl ?_ | refine JL.gskipU rfl rfl rfl rfl ?_)
        refine JC.quiet mixT (by kernel_rfl) ?_
        repeat (first | refine JL.q (by first | (apply i0; exact rfl; exact rfl) | (apply i1; exact rfl; exact rfl) | (apply OQ.callx (vs := [U8 c]); exact goes_rsmall; exact rfl; exact (fun w' _ => rsmall_any c w')) | (apply OQ.callx (vs := [U8 d]); exact goes_rsmall; exact rfl; exact (fun w' _ => rsmall_any d w')) | (apply OQ.ne8B; exact rfl; exact rfl; exact h1) | (apply OQ.move; exact rfl) | (apply OQ.assign; exact rfl) | (apply OQ.len; exact rfl; exact rfl) | (apply OQ.addN; exact rfl; exact rfl; exact (by (try simp only []); omega)) | (apply OQ.subN; exact rfl; exact rfl; exact (by (try simp only []); omega); exact (by (try simp only []); omega)) | (apply OQ.lssN; exact rfl; exact rfl)) rfl ?_ | refine JQ.q (by first | (apply i0; exact rfl; exact rfl) | (apply i1; exact rfl; exact rfl) | (apply OQ.callx (vs := [U8 c]); exact goes_rsmall; exact rfl; exact (fun w' _ => rsmall_any c w')) | (apply OQ.callx (vs := [U8 d]); exact goes_rsmall; exact rfl; exact (fun w' _ => rsmall_any d w')) | (apply OQ.ne8B; exact rfl; exact rfl; exact h1) | (apply OQ.move; exact rfl) | (apply OQ.assign; exact rfl) | (apply OQ.len; exact rfl; exact rfl) | (apply OQ.addN; exact rfl; exact rfl; exact (by (try simp only []); omega)) | (apply OQ.subN; exact rfl; exact rfl; exact (by (try simp only []); omega); exact (by (try simp only []); omega)) | (apply OQ.lssN; exact rfl; exact rfl)) rfl ?_ | refine JC.seq ?_ | refine JC.region ?_ | refine JC.block ?_ | refine JC.skip ?_ | refine JC.exit ?_ | refine JL.nil ?_ | refine JQ.nil ?_ | refine JQ.nil_tail ?_ | refine JE.next ?_ | refine JE.blk_normal ?_ | refine JE.then_exit ?_ | refine JE.blk_hit ?_ | refine JE.blk_miss rfl ?_ | refine JE.then_ret ?_ | refine JE.blk_ret ?_ | refine JC.label ?_ | refine JL.gon rfl rfl ?_ | refine JQ.gon rfl rfl ?_ | refine JL.gskip rfl rfl rfl rfl ?_ | refine JQ.gskip rfl rfl rfl rfl ?_ | refine JL.gskipU rfl rfl rfl rfl ?_ | refine JQ.gskipU rfl rfl rfl rfl ?_)
        refine JC.cond rfl (fun _ => ?_) (fun h => by cases h)
        repeat (first | refine JL.q (by first | (apply OQ.move; exact rfl) | (apply OQ.assign; exact rfl) | (apply OQ.len; exact rfl; exact rfl) | (apply OQ.addN; exact rfl; exact rfl; exact (by (try simp only []); omega)) | (apply OQ.subN; exact rfl; exact rfl; exact (by (try simp only []); omega); exact (by (try simp only []); omega)) | (apply OQ.lssN; exact rfl; exact rfl)) rfl ?_ | refine JQ.q (by first | (apply OQ.move; exact rfl) | (apply OQ.assign; exact rfl) | (apply OQ.len; exact rfl; exact rfl) | (apply OQ.addN; exact rfl; exact rfl; exact (by (try simp only []); omega)) | (apply OQ.subN; exact rfl; exact rfl; exact (by (try simp only []); omega); exact (by (try simp only []); omega)) | (apply OQ.lssN; exact rfl; exact rfl)) rfl ?_ | refine JC.seq ?_ | refine JC.region ?_ | refine JC.block ?_ | refine JC.skip ?_ | refine JC.exit ?_ | refine JL.nil ?_ | refine JQ.nil ?_ | refine JQ.nil_tail ?_ | refine JE.next ?_ | refine JE.blk_normal ?_ | refine JE.then_exit ?_ | refine JE.blk_hit ?_ | refine JE.blk_miss rfl ?_ | refine JE.then_ret ?_ | refine JE.blk_ret ?_ | refine JC.label ?_ | refine JL.gon rfl rfl ?_ | refine JQ.gon rfl rfl ?_ | refine JL.gskip rfl rfl rfl rfl ?_ | refine JQ.gskip rfl rfl rfl rfl ?_ | refine JL.gskipU rfl rfl rfl rfl ?_ | refine JQ.gskipU rfl rfl rfl rfl ?_)
        refine JC.ret ?_
        repeat (first | refine JL.q (by first | (apply OQ.move; exact rfl) | (apply OQ.assign; exact rfl) | (apply OQ.len; exact rfl; exact rfl) | (apply OQ.addN; exact rfl; exact rfl; exact (by (try simp only []); omega)) | (apply OQ.subN; exact rfl; exact rfl; exact (by (try simp only []); omega); exact (by (try simp only []); omega)) | (apply OQ.lssN; exact rfl; exact rfl)) rfl ?_ | refine JQ.q (by first | (apply OQ.move; exact rfl) | (apply OQ.assign; exact rfl) | (apply OQ.len; exact rfl; exact rfl) | (apply OQ.addN; exact rfl; exact rfl; exact (by (try simp only []); omega)) | (apply OQ.subN; exact rfl; exact rfl; exact (by (try simp only []); omega); exact (by (try simp only []); omega)) | (apply OQ.lssN; exact rfl; exact rfl)) rfl ?_ | refine JC.seq ?_ | refine JC.region ?_ | refine JC.block ?_ | refine JC.skip ?_ | refine JC.exit ?_ | refine JL.nil ?_ | refine JQ.nil ?_ | refine JQ.nil_tail ?_ | refine JE.next ?_ | refine JE.blk_normal ?_ | refine JE.then_exit ?_ | refine JE.blk_hit ?_ | refine JE.blk_miss rfl ?_ | refine JE.then_ret ?_ | refine JE.blk_ret ?_ | refine JC.label ?_ | refine JL.gon rfl rfl ?_ | refine JQ.gon rfl rfl ?_ | refine JL.gskip rfl rfl rfl rfl ?_ | refine JQ.gskip rfl rfl rfl rfl ?_ | refine JL.gskipU rfl rfl rfl rfl ?_ | refine JQ.gskipU rfl rfl rfl rfl ?_)
        exact JE.ret1 rfl (RV.tmp rfl) fun w' hw => ⟨rfl, hw.chg⟩
      · repeat (first | refine JL.q (by first | (apply OQ.move; exact rfl) | (apply OQ.assign; exact rfl) | (apply OQ.len; exact rfl; exact rfl) | (apply OQ.addN; exact rfl; exact rfl; exact (by (try simp only []); omega)) | (apply OQ.subN; exact rfl; exact rfl; exact (by (try simp only []); omega); exact (by (try simp only []); omega)) | (apply OQ.lssN; exact rfl; exact rfl)) rfl ?_ | refine JQ.q (by first | (apply OQ.move; exact rfl) | (apply OQ.assign; exact rfl) | (apply OQ.len; exact rfl; exact rfl) | (apply OQ.addN; exact rfl; exact rfl; exact (by (try simp only []); omega)) | (apply OQ.subN; exact rfl; exact rfl; exact (by (try simp only []); omega); exact (by (try simp only []); omega)) | (apply OQ.lssN; exact rfl; exact rfl)) rfl ?_ | refine JC.seq ?_ | refine JC.region ?_ | refine JC.block ?_ | refine JC.skip ?_ | refine JC.exit ?_ | refine JL.nil ?_ | refine JQ.nil ?_ | refine JQ.nil_tail ?_ | refine JE.next ?_ | refine JE.blk_normal ?_ | refine JE.then_exit ?_ | refine JE.blk_hit ?_ | refine JE.blk_miss rfl ?_ | refine JE.then_ret ?_ | refine JE.blk_ret ?_ | refine JC.label ?_ | refine JL.gon rfl rfl ?_ | refine JQ.gon rfl rfl ?_ | refine JL.gskip rfl rfl rfl rfl ?_ | refine JQ.gskip rfl rfl rfl rfl ?_ | refine JL.gskipU rfl rfl rfl rfl ?_ | refine JQ.gskipU rfl rfl rfl rfl ?_)
        refine JC.quiet mixT (by kernel_rfl) ?_
        repeat (first | refine JL.q (by first | (apply i0; exact rfl; exact rfl) | (apply i1; exact rfl; exact rfl) | (apply OQ.callx (vs := [U8 c]); exact goes_rsmall; exact rfl; exact (fun w' _ => rsmall_any c w')) | (apply OQ.callx (vs := [U8 d]); exact goes_rsmall; exact rfl; exact (fun w' _ => rsmall_any d w')) | (apply OQ.ne8B; exact rfl; exact rfl; exact h1) | (apply OQ.move; exact rfl) | (apply OQ.assign; exact rfl) | (apply OQ.len; exact rfl; exact rfl) | (apply OQ.addN; exact rfl; exact rfl; exact (by (try simp only []); omega)) | (apply OQ.subN; exact rfl; exact rfl; exact (by (try simp only []); omega); exact (by (try simp only []); omega)) | (apply OQ.lssN; exact rfl; exact rfl)) rfl ?_ | refine JQ.q (by first | (apply i0; exact rfl; exact rfl) | (apply i1; exact rfl; exact rfl) | (apply OQ.callx (vs := [U8 c]); exact goes_rsmall; exact rfl; exact (fun w' _ => rsmall_any c w')) | (apply OQ.callx (vs := [U8 d]); exact goes_rsmall; exact rfl; exact (fun w' _ => rsmall_any d w')) | (apply OQ.ne8B; exact rfl; exact rfl; exact h1) | (apply OQ.move; exact rfl) | (apply OQ.assign; exact rfl) | (apply OQ.len; exact rfl; exact rfl) | (apply OQ.addN; exact rfl; exact rfl; exact (by (try simp only []); omega)) | (apply OQ.subN; exact rfl; exact rfl; exact (by (try simp only []); omega); exact (by (try simp only []); omega)) | (apply OQ.lssN; exact rfl; exact rfl)) rfl ?_ | refine JC.seq ?_ | refine JC.region ?_ | refine JC.block ?_ | refine JC.skip ?_ | refine JC.exit ?_ | refine JL.nil ?_ | refine JQ.nil ?_ | refine JQ.nil_tail ?_ | refine JE.next ?_ | refine JE.blk_normal ?_ | refine JE.then_exit ?_ | refine JE.blk_hit ?_ | refine JE.blk_miss rfl ?_ | refine JE.then_ret ?_ | refine JE.blk_ret ?_ | refine JC.label ?_ | refine JL.gon rfl rfl ?_ | refine JQ.gon rfl rfl ?_ | refine JL.gskip rfl rfl rfl rfl ?_ | refine JQ.gskip rfl rfl rfl rfl ?_ | refine JL.gskipU rfl rfl rfl rfl ?_ | refine JQ.gskipU rfl rfl rfl rfl ?_)
        refine JC.cond rfl (fun h => by cases h) (fun _ => ?_)
        repeat (first | refine JL.q (by first | (apply OQ.move; exact rfl) | (apply OQ.assign; exact rfl) | (apply OQ.len; exact rfl; exact rfl) | (apply OQ.addN; exact rfl; exact rfl; exact (by (try simp only []); omega)) | (apply OQ.subN; exact rfl; exact rfl; exact (by (try simp only []); omega); exact (by (try simp only []); omega)) | (apply OQ.lssN; exact rfl; exact rfl)) rfl ?_ | refine JQ.q (by first | (apply OQ.move; exact rfl) | (apply OQ.assign; exact rfl) | (apply OQ.len; exact rfl; exact rfl) | (apply OQ.addN; exact rfl; exact rfl; exact (by (try simp only []); omega)) | (apply OQ.subN; exact rfl; exact rfl; exact (by (try simp only []); omega); exact (by (try simp only []); omega)) | (apply OQ.lssN; exact rfl; exact rfl)) rfl ?_ | refine JC.seq ?_ | refine JC.region ?_ | refine JC.block ?_ | refine JC.skip ?_ | refine JC.exit ?_ | refine JL.nil ?_ | refine JQ.nil ?_ | refine JQ.nil_tail ?_ | refine JE.next ?_ | refine JE.blk_normal ?_ | refine JE.then_exit ?_ | refine JE.blk_hit ?_ | refine JE.blk_miss rfl ?_ | refine JE.then_ret ?_ | refine JE.blk_ret ?_ | refine JC.label ?_ | refine JL.gon rfl rfl ?_ | refine JQ.gon rfl rfl ?_ | refine JL.gskip rfl rfl rfl rfl ?_ | refine JQ.gskip rfl rfl rfl rfl ?_ | refine JL.gskipU rfl rfl rfl rfl ?_ | refine JQ.gskipU rfl rfl rfl rfl ?_)
        exact JE.again (i := i) (i + 1) ⟨hi', hx (of_decide_eq_true h1)⟩ (by omega) (by repeat (first | exact SubE.nil | refine SubE.cons _ _ _ rfl ?_)) (Less.refl _)
    · have hi' : ¬ i < a.length := of_decide_eq_false h
      obtain rfl : i = a.length := by omega
      clear h hi hi'
      rw [List.take_length, List.take_of_length_le (by omega)] at ha
      rw [show sameB a b = true from decide_eq_true ha]
      repeat (first | refine JL.q (by first | (apply OQ.move; exact rfl) | (apply OQ.assign; exact rfl) | (apply OQ.len; exact rfl; exact rfl) | (apply OQ.addN; exact rfl; exact rfl; exact (by (try simp only []); omega)) | (apply OQ.subN; exact rfl; exact rfl; exact (by (try simp only []); omega); exact (by (try simp only []); omega)) | (apply OQ.lssN; exact rfl; exact rfl)) rfl ?_ | refine JQ.q (by first | (apply OQ.move; exact rfl) | (apply OQ.assign; exact rfl) | (apply OQ.len; exact rfl; exact rfl) | (apply OQ.addN; exact rfl; exact rfl; exact (by (try simp only []); omega)) | (apply OQ.subN; exact rfl; exact rfl; exact (by (try simp only []); omega); exact (by (try simp only []); omega)) | (apply OQ.lssN; exact rfl; exact rfl)) rfl ?_ | refine JC.seq ?_ | refine JC.region ?_ | refine JC.block ?_ | refine JC.skip ?_ | refine JC.exit ?_ | refine JL.nil ?_ | refine JQ.nil ?_ | refine JQ.nil_tail ?_ | refine JE.next ?_ | refine JE.blk_normal ?_ | refine JE.then_exit ?_ | refine JE.blk_hit ?_ | refine JE.blk_miss rfl ?_ | refine JE.then_ret ?_ | refine JE.blk_ret ?_ | refine JC.label ?_ | refine JL.gon rfl rfl ?_ | refine JQ.gon rfl rfl ?_ | refine JL.gskip rfl rfl rfl rfl ?_ | refine JQ.gskip rfl rfl rfl rfl ?_ | refine JL.gskipU rfl rfl rfl rfl ?_ | refine JQ.gskipU rfl rfl rfl rfl ?_)
      refine JC.ret ?_
      exact JE.ret1 rfl (RV.tmp rfl) fun w' hw => ⟨rfl, hw.chg⟩
end Go.Proofs.YtikhlddemdlmgaaDoor

/-
  Of no statement by itself: right fields are read from their lines, however they are folded; no beginning of a head is one: pure; no program stands here.
  Conditions: none but each lemma's own.
-/
namespace Go.Proofs.YtikhlddemdlmgaaDoor
namespace Fld
theorem conts_no {b : List By} (h : b = [] ∨ bl (b.getD 0 0) = false) : conts b = some ([], b) := by
  rw [conts, if_neg]
  rintro ⟨h1, h2⟩
  rcases h with h | h
  · exact h2 h
  · rw [h] at h1; cases h1
theorem conts_some {b l r : List By} (hb : bl (b.getD 0 0) = true ∧ b ≠ []) (h : cut b = some (l, r)) : conts b = (conts r).map fun q => (l ++ q.1, q.2) := by
  rw [conts, if_pos hb]
  split
  · next h' => rw [h] at h'; cases h'
  · next l' r' h' => rw [h] at h'; cases h'; rfl
theorem conts_none {b : List By} (hb : bl (b.getD 0 0) = true ∧ b ≠ []) (h : cut b = none) : conts b = none := by
  rw [conts, if_pos hb]
  split
  · rfl
  · next l' r' h' => rw [h] at h'; cases h'
theorem hend_none {b : List By} (h : cut b = none) : hend b = none := by
  rw [hend]
  split
  · rfl
  · next l' r' h' => rw [h] at h'; cases h'
theorem hend_end {b r : List By} (h : cut b = some ([], r)) : hend b = some (b.length - r.length) := by
  rw [hend]
  split
  · next h' => rw [h] at h'; cases h'
  · next l' r' h' => rw [h] at h'; cases h'; rw [if_pos rfl]
theorem hend_go {b l r : List By} (h : cut b = some (l, r)) (hl : l ≠ []) : hend b = (hend r).map (· + (b.length - r.length)) := by
  rw [hend]
  split
  · next h' => rw [h] at h'; cases h'
  · next l' r' h' => rw [h] at h'; cases h'; rw [if_neg hl]
theorem rd_none {k : Nat} {b : List By} (h : cut b = none) : rd k b = .error 3 := by
  rw [rd]
  split
  · rfl
  · next l' r' h' => rw [h] at h'; cases h'
theorem rd_end {k : Nat} {b r : List By} (h : cut b = some ([], r)) : rd k b = .ok ([], r) := by
  rw [rd]
  split
  · next h' => rw [h] at h'; cases h'
  · next l' r' h' => rw [h] at h'; cases h'; rw [if_pos rfl]
theorem takeWhile_name {n : List By} (h : n.all nok = true) (l : List By) : (n ++ 58 :: l).takeWhile (· != 58) = n := by
  rw [List.takeWhile_append_of_pos]
  · simp
  · intro c hc
    have := List.all_eq_true.1 h c hc
    simp only [nok, Bool.and_eq_true] at this
    simpa using this.2
theorem rd_line {k : Nat} {b n l r : List By} (h : cut b = some (n ++ 58 :: l, r)) (hn : nameB n = true) (hk : k ≠ 200) :
    rd k b = (match conts r with
      | none => .error 3
      | some (vs, r') => if 8192 < (trim (l ++ vs)).length then .error 4 else if ¬ (trim (l ++ vs)).all sok = true then .error 3 else if r'.length < b.length then (rd (k + 1) r').map fun q => ((n, trim (l ++ vs)) :: q.1, q.2) else .error 3) := by
  have hn1 : n.all nok = true := by simp only [nameB, Bool.and_eq_true] at hn; exact hn.1.1
  rw [rd]
  split
  · next h' => rw [h] at h'; cases h'
  · next l' r2 h' =>
    rw [h] at h'
    cases h'
    have e2 : (n ++ 58 :: l).drop (n.length + 1) = l := by rw [List.drop_append, List.drop_of_length_le (by omega)]; simp
    rw [if_neg (by simp), takeWhile_name hn1, if_neg (by simp [hn]), if_neg hk, e2]
    split
    · next hc => simp only [hc]
    · next vs r' hc =>
      simp only [hc]
      split
      · rfl
      · split
        · rfl
        · split
          · rfl
          · rfl
/-! ### a field's lines -/
theorem isE_pos {e : List By} (h : isE e) : e ≠ [] := by rcases h with rfl | rfl <;> simp
theorem fo_lines {u L : List By} (h : Fo u L) : ∀ p e T, clean p → isE e → (T = [] ∨ bl (T.getD 0 0) = false) → ∃ l' r vs, cut (p ++ L ++ e ++ T) = some (p ++ l', r) ∧ conts r = some (vs, T) ∧ l' ++ vs = u := by
  induction h with
  | nil =>
    intro p e T hp he hT
    refine ⟨[], T, [], ?_, conts_no hT, rfl⟩
    rw [List.append_nil, cut_line hp he]
  | byte c v L hc _ ih =>
    intro p e T hp he hT
    obtain ⟨l', r, vs, h1, h2, h3⟩ := ih (p ++ [c]) e T (hp.app (sok_clean hc)) he hT
    refine ⟨c :: l', r, vs, ?_, h2, by rw [← h3]; rfl⟩
    simpa using h1
  | fold c e1 v L hc he1 _ ih =>
    intro p e T hp he hT
    obtain ⟨l', r, vs, h1, h2, h3⟩ := ih [c] e T (sok_clean (bl_sok hc)) he hT
    refine ⟨[], c :: L ++ e ++ T, c :: v, ?_, ?_, rfl⟩
    · have := cut_line (b := c :: L ++ e ++ T) hp he1
      simpa using this
    · have e2 : c :: L ++ e ++ T = [c] ++ L ++ e ++ T := by simp
      rw [e2, conts_some ⟨by simpa using hc, by simp⟩ h1, h2, ← h3]
      simp
theorem fo_hend {u L : List By} (h : Fo u L) : ∀ p e T, clean p → p ≠ [] → isE e → hend (p ++ L ++ e ++ T) = (hend T).map (· + (p ++ L ++ e).length) := by
  induction h with
  | nil =>
    intro p e T hp h0 he
    rw [List.append_nil, hend_go (cut_line hp he) h0]
    congr 1
    funext x
    simp only [List.length_append]
    omega
  | byte c v L hc _ ih =>
    intro p e T hp h0 he
    have := ih (p ++ [c]) e T (hp.app (sok_clean hc)) (by simp) he
    simpa [Nat.add_assoc, Nat.add_comm, Nat.add_left_comm] using this
  | fold c e1 v L hc he1 _ ih =>
    intro p e T hp h0 he
    have h1 := cut_line (b := [c] ++ L ++ e ++ T) hp he1
    have e2 : p ++ (e1 ++ c :: L) ++ e ++ T = p ++ e1 ++ ([c] ++ L ++ e ++ T) := by simp
    rw [e2, hend_go h1 h0, ih [c] e T (sok_clean (bl_sok hc)) (by simp) he, Option.map_map]
    congr 1
    funext x
    simp only [Function.comp, List.length_append, List.length_cons, List.length_nil]
    omega
theorem dropWhile_none {v : List By} (h : v = [] ∨ bl (v.getD 0 0) = false) : trimL v = v := by
  unfold trimL
  cases v with
  | nil => rfl
  | cons c v =>
    rcases h with h | h
    · cases h
    · simp only [List.getD_cons_zero] at h
      rw [List.dropWhile_cons, h]; rfl
theorem valB_parts {v : List By} (h : valB v = true) : v.all sok = true ∧ v.length ≤ 8192 ∧ (v = [] ∨ (bl (v.getD 0 0) = false ∧ bl (v.getD (v.length - 1) 0) = false)) := by
  simp only [valB, Bool.and_eq_true, decide_eq_true_eq, Bool.or_eq_true, Bool.not_eq_true', List.length_eq_zero_iff] at h
  exact ⟨h.1.1, h.1.2, h.2⟩
theorem trim_val {v : List By} (h : valB v = true) : trim (32 :: v) = v := by
  obtain ⟨_, _, h3⟩ := valB_parts h
  have e1 : trimL (32 :: v) = v := by
    show (32 :: v).dropWhile bl = v
    rw [List.dropWhile_cons, if_pos (by decide)]
    exact dropWhile_none (h3.imp_right (·.1))
  unfold trim
  rw [e1, dropWhile_none, List.reverse_reverse]
  rcases h3 with rfl | ⟨_, h4⟩
  · exact .inl rfl
  · refine .inr ?_
    by_cases h0 : v = []
    · subst h0; exact h4
    · have hp := List.length_pos_iff.2 h0
      rw [List.getD_eq_getElem?_getD] at h4 ⊢
      rw [List.getElem?_reverse hp]
      exact h4
theorem name_parts {n : List By} (h : nameB n = true) : n.all nok = true ∧ n ≠ [] ∧ n.length ≤ 64 := by
  simp only [nameB, Bool.and_eq_true, decide_eq_true_eq] at h
  exact ⟨h.1.1, List.length_pos_iff.1 (by omega), h.2⟩
theorem rd_field {n v L e T : List By} {k : Nat} (hn : nameB n = true) (hv : valB v = true) (hf : Fo (32 :: v) L) (he : isE e) (hT : T = [] ∨ bl (T.getD 0 0) = false) (hk : k < 200) :
    rd k (n ++ 58 :: L ++ e ++ T) = (rd (k + 1) T).map fun q => ((n, v) :: q.1, q.2) := by
  obtain ⟨h1, h2, h3⟩ := valB_parts hv
  have hp : clean (n ++ [58]) := (nok_clean (name_parts hn).1).app (by intro c hc; rw [List.mem_singleton] at hc; subst hc; decide)
  obtain ⟨l', r, vs, c1, c2, c3⟩ := fo_lines hf (n ++ [58]) e T hp he hT
  have e1 : n ++ 58 :: L ++ e ++ T = n ++ [58] ++ L ++ e ++ T := by simp
  rw [e1, rd_line (l := l') (r := r) (by rw [c1]; simp) hn (by omega), c2]
  simp only [c3, trim_val hv]
  rw [if_neg (by omega), if_neg (by simp [h1]), if_pos (by simp only [List.length_append, List.length_cons]; omega)]
/-- fields as lines -/
inductive Hd : List (List By × List By) → List By → Prop
  | nil : Hd [] []
  | cons (n v L e : List By) (fs : List (List By × List By)) (H : List By) : nameB n = true → valB v = true → Fo (32 :: v) L → isE e → Hd fs H → Hd ((n, v) :: fs) (n ++ 58 :: L ++ e ++ H)
theorem nok_bl {c : By} (h : nok c = true) : bl c = false := by
  cases hb : bl c with
  | false => rfl
  | true =>
    simp only [bl, Bool.or_eq_true, beq_iff_eq] at hb
    rcases hb with rfl | rfl <;> exact absurd h (by decide)
theorem name_head {n : List By} (h : nameB n = true) (X : List By) : bl ((n ++ X).getD 0 0) = false := by
  obtain ⟨h1, h2, _⟩ := name_parts h
  cases n with
  | nil => exact absurd rfl h2
  | cons c n =>
    simp only [List.cons_append, List.getD_cons_zero]
    exact nok_bl (List.all_eq_true.1 h1 c (by simp))
theorem isE_head {e : List By} (h : isE e) (X : List By) : bl ((e ++ X).getD 0 0) = false := by
  rcases h with rfl | rfl <;> rfl
theorem hd_head {fs : List (List By × List By)} {H e : List By} (h : Hd fs H) (he : isE e) (R : List By) : bl ((H ++ e ++ R).getD 0 0) = false := by
  cases h with
  | nil => simpa using isE_head he R
  | cons n v L e1 fs H hn hv hf he1 hh =>
    have := name_head hn (58 :: L ++ e1 ++ H ++ e ++ R)
    simpa using this
theorem rd_head {fs : List (List By × List By)} {H e : List By} (h : Hd fs H) (he : isE e) (R : List By) : ∀ k, k + fs.length ≤ 200 → rd k (H ++ e ++ R) = .ok (fs, R) := by
  induction h with
  | nil =>
    intro k _
    have := cut_line (p := []) (b := R) (fun _ h => by cases h) he
    exact rd_end (by simpa using this)
  | cons n v L e1 fs H hn hv hf he1 hh ih =>
    intro k hk
    simp only [List.length_cons] at hk
    have := rd_field (T := H ++ e ++ R) (k := k) hn hv hf he1 (.inr (hd_head hh he R)) (by omega)
    rw [show n ++ 58 :: L ++ e1 ++ H ++ e ++ R = n ++ 58 :: L ++ e1 ++ (H ++ e ++ R) by simp, this, ih (k + 1) (by omega)]
    rfl
theorem hend_head {fs : List (List By × List By)} {H e : List By} (h : Hd fs H) (he : isE e) (R : List By) : hend (H ++ e ++ R) = some (H.length + e.length) := by
  induction h with
  | nil =>
    have := cut_line (p := []) (b := R) (fun _ h => by cases h) he
    rw [hend_end (r := R) (by simpa using this)]
    simp
  | cons n v L e1 fs H hn hv hf he1 hh ih =>
    have hp : clean (n ++ [58]) := (nok_clean (name_parts hn).1).app (by intro c hc; rw [List.mem_singleton] at hc; subst hc; decide)
    have := fo_hend hf (n ++ [58]) e1 (H ++ e ++ R) hp (by simp) he1
    rw [show n ++ 58 :: L ++ e1 ++ H ++ e ++ R = n ++ [58] ++ L ++ e1 ++ (H ++ e ++ R) by simp, this, ih]
    simp only [Option.map_some, List.length_append, List.length_cons, List.length_nil]
    congr 1
    omega
theorem read_head {fs : List (List By × List By)} {H e : List By} (h : Hd fs H) (he : isE e) (R : List By) (h1 : fs.length ≤ 200) (h2 : H.length + e.length ≤ 65536) : readB (H ++ e ++ R) = .ok (fs, R) := by
  unfold readB
  rw [hend_head h he R, Option.getD_some, if_neg (by omega), rd_head h he R 0 (by omega)]
/-! ### beginnings -/
theorem pre_cons {c x : By} {X q s : List By} (h : c :: X = q ++ x :: s) : q = [] ∨ ∃ q', q = c :: q' ∧ X = q' ++ x :: s := by
  cases q with
  | nil => exact .inl rfl
  | cons d q' =>
    simp only [List.cons_append, List.cons.injEq] at h
    exact .inr ⟨q', by rw [h.1], h.2⟩
/-- a beginning of two rows, one behind the other -/
theorem pre_app : ∀ {A X q s : List By} {x : By}, A ++ X = q ++ x :: s → (∃ y t, A = q ++ y :: t) ∨ ∃ q', q = A ++ q' ∧ X = q' ++ x :: s
  | [], X, q, s, x, h => .inr ⟨q, rfl, h⟩
  | a :: A, X, q, s, x, h => by
    rcases pre_cons (show a :: (A ++ X) = q ++ x :: s from h) with rfl | ⟨q', rfl, h'⟩
    · exact .inl ⟨a, A, rfl⟩
    · rcases pre_app h' with ⟨y, t, h2⟩ | ⟨q2, h2, h3⟩
      · exact .inl ⟨y, t, by rw [h2]; rfl⟩
      · exact .inr ⟨q2, by rw [h2]; rfl, h3⟩
theorem isE_pre {e q s : List By} {x : By} (he : isE e) (h : e = q ++ x :: s) : ∀ c ∈ q, c ≠ 10 := by
  rcases he with rfl | rfl
  · rcases pre_cons h with rfl | ⟨q', rfl, h'⟩
    · intro c hc; cases hc
    · simp at h'
  · rcases pre_cons h with rfl | ⟨q', rfl, h'⟩
    · intro c hc; cases hc
    · rcases pre_cons h' with rfl | ⟨q2, rfl, h2⟩
      · intro c hc; rw [List.mem_singleton] at hc; subst hc; decide
      · simp at h2
theorem no10 {p q : List By} (hp : clean p) (hq : ∀ c ∈ q, c ≠ 10) : ∀ c ∈ p ++ q, c ≠ 10 := fun c hc => by
  rcases List.mem_append.1 hc with h | h
  · exact (hp c h).1
  · exact hq c h
theorem fo_pre {u L : List By} (h : Fo u L) : ∀ p e q x s, clean p → isE e → L ++ e = q ++ x :: s →
    cut (p ++ q) = none ∨ ∃ l' r, cut (p ++ q) = some (p ++ l', r) ∧ (conts r = none ∨ ∃ vs w, conts r = some (vs, []) ∧ u = l' ++ vs ++ w) := by
  induction h with
  | nil =>
    intro p e q x s hp he hq
    exact .inl (cut_none (no10 hp (isE_pre he (by simpa using hq))))
  | byte c v L hc _ ih =>
    intro p e q x s hp he hq
    rcases pre_cons (show c :: (L ++ e) = q ++ x :: s from hq) with rfl | ⟨q', rfl, h'⟩
    · exact .inl (cut_none (no10 hp (by intro c hc; cases hc)))
    · have e1 : p ++ c :: q' = p ++ [c] ++ q' := by simp
      rcases ih (p ++ [c]) e q' x s (hp.app (sok_clean hc)) he h' with h1 | ⟨l', r, h1, h2⟩
      · exact .inl (by rw [e1]; exact h1)
      · refine .inr ⟨c :: l', r, by rw [e1, h1]; simp, h2.imp_right ?_⟩
        rintro ⟨vs, w, h3, h4⟩
        exact ⟨vs, w, h3, by rw [h4]; rfl⟩
  | fold c e1 v L hc he1 _ ih =>
    intro p e q x s hp he hq
    rw [List.append_assoc] at hq
    rcases pre_app hq with ⟨y, t, h1⟩ | ⟨q1, rfl, h1⟩
    · exact .inl (cut_none (no10 hp (isE_pre he1 h1)))
    · have c1 : cut (p ++ (e1 ++ q1)) = some (p, q1) := by rw [← List.append_assoc]; exact cut_line hp he1
      refine .inr ⟨[], q1, by rw [c1, List.append_nil], ?_⟩
      rcases pre_cons h1 with rfl | ⟨q', rfl, h'⟩
      · exact .inr ⟨[], c :: v, conts_no (.inl rfl), rfl⟩
      · have hb : bl ((c :: q').getD 0 0) = true ∧ c :: q' ≠ [] := ⟨hc, by simp⟩
        rcases ih [c] e q' x s (sok_clean (bl_sok hc)) he h' with h1 | ⟨l', r, h1, h2 | ⟨vs, w, h2, h3⟩⟩
        · exact .inl (conts_none hb h1)
        · exact .inl (by rw [conts_some hb h1, h2]; rfl)
        · exact .inr ⟨c :: l' ++ vs, w, by rw [conts_some hb h1, h2]; rfl, by rw [h3]; simp⟩
theorem fo_hend_pre {u L : List By} (h : Fo u L) : ∀ p e q x s, clean p → p ≠ [] → isE e → L ++ e = q ++ x :: s → hend (p ++ q) = none := by
  induction h with
  | nil =>
    intro p e q x s hp _ he hq
    exact hend_none (cut_none (no10 hp (isE_pre he (by simpa using hq))))
  | byte c v L hc _ ih =>
    intro p e q x s hp h0 he hq
    rcases pre_cons (show c :: (L ++ e) = q ++ x :: s from hq) with rfl | ⟨q', rfl, h'⟩
    · exact hend_none (cut_none (no10 hp (by intro c hc; cases hc)))
    · rw [show p ++ c :: q' = p ++ [c] ++ q' by simp]
      exact ih (p ++ [c]) e q' x s (hp.app (sok_clean hc)) (by simp) he h'
  | fold c e1 v L hc he1 _ ih =>
    intro p e q x s hp h0 he hq
    rw [List.append_assoc] at hq
    rcases pre_app hq with ⟨y, t, h1⟩ | ⟨q1, rfl, h1⟩
    · exact hend_none (cut_none (no10 hp (isE_pre he1 h1)))
    · have c1 : cut (p ++ (e1 ++ q1)) = some (p, q1) := by rw [← List.append_assoc]; exact cut_line hp he1
      rw [hend_go c1 h0]
      rcases pre_cons h1 with rfl | ⟨q', rfl, h'⟩
      · rw [hend_none (cut_none (by intro c hc; cases hc))]; rfl
      · rw [show c :: q' = [c] ++ q' from rfl, ih [c] e q' x s (sok_clean (bl_sok hc)) (by simp) he h']; rfl
theorem trim_pre {v w w2 : List By} (hv : valB v = true) (h : 32 :: v = w ++ w2) : (trim w).length ≤ 8192 ∧ (trim w).all sok = true := by
  obtain ⟨h1, h2, _⟩ := valB_parts hv
  have hs : ∀ {l : List By}, (trimL l).Sublist l := fun {l} => List.dropWhile_sublist _
  have hsub : (trim w).Sublist w := by
    unfold trim
    have := (hs (l := (trimL w).reverse)).reverse
    rw [List.reverse_reverse] at this
    exact this.trans hs
  have hw : ∀ c ∈ w, sok c = true := fun c hc => by
    have : c ∈ 32 :: v := by rw [h]; exact List.mem_append_left _ hc
    rcases List.mem_cons.1 this with rfl | h'
    · decide
    · exact List.all_eq_true.1 h1 c h'
  refine ⟨?_, List.all_eq_true.2 fun c hc => hw c (hsub.subset hc)⟩
  cases w with
  | nil => exact Nat.le_trans hsub.length_le (by simp)
  | cons c w =>
    simp only [List.cons_append, List.cons.injEq] at h
    obtain ⟨rfl, h⟩ := h
    have h3 : w.length ≤ v.length := by rw [h, List.length_append]; omega
    have e1 : trimL (32 :: w) = trimL w := by
      unfold trimL
      rw [List.dropWhile_cons, if_pos (by decide)]
    have : (trim (32 :: w)).length ≤ w.length := by
      unfold trim
      rw [e1, List.length_reverse]
      have a1 := (hs (l := (trimL w).reverse)).length_le
      have a2 := (hs (l := w)).length_le
      rw [List.length_reverse] at a1
      omega
    omega
theorem rd_pre {fs : List (List By × List By)} {H e : List By} (h : Hd fs H) (he : isE e) : ∀ k q x s, k + fs.length ≤ 200 → H ++ e = q ++ x :: s → rd k q = .error 3 ∧ hend q = none := by
  induction h with
  | nil =>
    intro k q x s _ hq
    have := cut_none (isE_pre he (by simpa using hq))
    exact ⟨rd_none this, hend_none this⟩
  | cons n v L e1 fs H hn hv hf he1 hh ih =>
    intro k q x s hk hq
    simp only [List.length_cons] at hk
    have hp : clean (n ++ [58]) := (nok_clean (name_parts hn).1).app (by intro c hc; rw [List.mem_singleton] at hc; subst hc; decide)
    rw [show n ++ 58 :: L ++ e1 ++ H ++ e = (n ++ [58]) ++ ((L ++ e1) ++ (H ++ e)) by simp] at hq
    rcases pre_app hq with ⟨y, t, h1⟩ | ⟨q1, rfl, h1⟩
    · have h10 : ∀ c ∈ q, c ≠ 10 := fun c hc => (hp c (by rw [h1]; exact List.mem_append_left _ hc)).1
      exact ⟨rd_none (cut_none h10), hend_none (cut_none h10)⟩
    · rcases pre_app h1 with ⟨y, t, h2⟩ | ⟨q2, rfl, h2⟩
      · refine ⟨?_, fo_hend_pre hf _ _ _ _ _ hp (by simp) he1 h2⟩
        rcases fo_pre hf _ _ _ _ _ hp he1 h2 with h3 | ⟨l', r, h3, h4⟩
        · exact rd_none h3
        · rw [rd_line (l := l') (r := r) (by rw [h3]; simp) hn (by omega)]
          rcases h4 with h4 | ⟨vs, w, h4, h5⟩
          · rw [h4]
          · obtain ⟨t1, t2⟩ := trim_pre hv h5
            rw [h4]
            simp only
            rw [if_neg (by omega), if_neg (by simp [t2]), rd_none (k := k + 1) (cut_none (p := []) (by intro c hc; cases hc))]
            split <;> rfl
      · obtain ⟨i1, i2⟩ := ih (k + 1) q2 x s (by omega) h2
        have hT : q2 = [] ∨ bl (q2.getD 0 0) = false := by
          cases q2 with
          | nil => exact .inl rfl
          | cons c q2 =>
            have := hd_head hh he []
            rw [List.append_nil, h2] at this
            exact .inr this
        refine ⟨?_, ?_⟩
        · have := rd_field (T := q2) (k := k) hn hv hf he1 hT (by omega)
          rw [show n ++ [58] ++ (L ++ e1 ++ q2) = n ++ 58 :: L ++ e1 ++ q2 by simp, this, i1]; rfl
        · have := fo_hend hf (n ++ [58]) e1 q2 hp (by simp) he1
          rw [show n ++ [58] ++ (L ++ e1 ++ q2) = n ++ [58] ++ L ++ e1 ++ q2 by simp, this, i2]; rfl
theorem read_pre {fs : List (List By × List By)} {H e q s : List By} {x : By} (h : Hd fs H) (he : isE e) (h1 : fs.length ≤ 200) (h2 : q.length ≤ 65536) (hq : H ++ e = q ++ x :: s) : readB q = .error 3 := by
  obtain ⟨i1, i2⟩ := rd_pre h he 0 q x s (by omega) hq
  unfold readB
  rw [i2, Option.getD_none, if_neg (by omega), i1]
end Fld
end Go.Proofs.YtikhlddemdlmgaaDoor

/-
  Of no statement by itself: how the landed field folds and reads (pieces, heads that are too long): pure; no program stands here.
  Conditions: none but each lemma's own.
-/
namespace Go.Proofs.YtikhlddemdlmgaaDoor
namespace Fld
/-! ### the ends of a value -/
theorem trimL_self {v : List By} : trimL v = v ↔ (v = [] ∨ bl (v.getD 0 0) = false) := by
  constructor
  · intro h
    cases v with
    | nil => exact .inl rfl
    | cons c r =>
      refine .inr ?_
      cases hc : bl c with
      | false => exact hc
      | true =>
        exfalso
        have h1 : trimL (c :: r) = trimL r := by simp [trimL, hc]
        rw [h1] at h
        have h2 := congrArg List.length h
        have h3 : (trimL r).length ≤ r.length := (List.dropWhile_sublist _).length_le
        rw [List.length_cons] at h2
        omega
  · exact dropWhile_none
theorem trim_self {v : List By} : trim v = v ↔ (v = [] ∨ (bl (v.getD 0 0) = false ∧ bl (v.getD (v.length - 1) 0) = false)) := by
  have e0 : ∀ u : List By, u ≠ [] → u.reverse.getD 0 0 = u.getD (u.length - 1) 0 := by
    intro u hu
    have hl : 0 < u.length := List.length_pos_iff.2 hu
    rw [List.getD_eq_getElem?_getD, List.getD_eq_getElem?_getD, List.getElem?_reverse (by omega)]
    simp
  constructor
  · intro h
    have h1 : (trim v).length = v.length := congrArg List.length h
    have h2 : (trimL (trimL v).reverse).length ≤ (trimL v).reverse.length := (List.dropWhile_sublist _).length_le
    have h3 : (trimL v).length ≤ v.length := (List.dropWhile_sublist _).length_le
    unfold trim at h1
    rw [List.length_reverse] at h1 h2
    have h4 : trimL v = v := List.IsSuffix.eq_of_length (l₁ := trimL v) (List.dropWhile_suffix bl) (by omega)
    unfold trim at h
    rw [h4] at h
    have h5 : trimL v.reverse = v.reverse := by
      have := congrArg List.reverse h
      rwa [List.reverse_reverse] at this
    cases v with
    | nil => exact .inl rfl
    | cons c r =>
      refine .inr ⟨(trimL_self.1 h4).resolve_left (by simp), ?_⟩
      have := (trimL_self.1 h5).resolve_left (by simp)
      rwa [e0 _ (by simp)] at this
  · rintro (rfl | ⟨h1, h2⟩)
    · rfl
    · unfold trim
      by_cases hv : v = []
      · subst hv; rfl
      · rw [dropWhile_none (.inr h1), dropWhile_none (v := v.reverse) (.inr (by rw [e0 _ hv]; exact h2)), List.reverse_reverse]
theorem trim_trim (v : List By) : trim (trim v) = trim v := by
  have key : ∀ u : List By, trimL (trimL u) = trimL u := fun u => by
    rw [trimL_self]
    unfold trimL
    induction u with
    | nil => exact .inl rfl
    | cons c r ih =>
      cases hc : bl c with
      | true => simpa [List.dropWhile_cons, hc] using ih
      | false => exact .inr (by simp [List.dropWhile_cons, hc])
  rw [trim_self]
  by_cases he : trim v = []
  · exact .inl he
  refine .inr ?_
  have e0 : ∀ u : List By, u ≠ [] → u.reverse.getD 0 0 = u.getD (u.length - 1) 0 := by
    intro u hu
    have hl : 0 < u.length := List.length_pos_iff.2 hu
    rw [List.getD_eq_getElem?_getD, List.getD_eq_getElem?_getD, List.getElem?_reverse (by omega)]
    simp
  have hx : trimL (trimL v).reverse ≠ [] := fun h => he (by unfold trim; rw [h]; rfl)
  have hb : bl ((trimL (trimL v).reverse).getD 0 0) = false := (trimL_self.1 (key _)).resolve_left hx
  have hv : trimL v ≠ [] := fun h => hx (by rw [h]; rfl)
  have ha : bl ((trimL v).getD 0 0) = false := (trimL_self.1 (key _)).resolve_left hv
  obtain ⟨p, hp⟩ := List.dropWhile_suffix bl (l := (trimL v).reverse)
  have hp : p ++ trimL (trimL v).reverse = (trimL v).reverse := hp
  constructor
  · have h1 : trimL v = trim v ++ p.reverse := by
      have := congrArg List.reverse hp
      rw [List.reverse_append, List.reverse_reverse] at this
      exact this.symm
    rw [h1] at ha
    have : 0 < (trim v).length := List.length_pos_iff.2 he
    rwa [List.getD_eq_getElem?_getD, List.getElem?_append_left this, ← List.getD_eq_getElem?_getD] at ha
  · rw [← e0 _ he]
    have : (trim v).reverse = trimL (trimL v).reverse := by unfold trim; rw [List.reverse_reverse]
    rw [this]
    exact hb
theorem valB_is (v : List By) : valB v = (decide (v.length ≤ 8192) && (decide (v = trim v) && v.all sok)) := by
  unfold valB
  have h : (decide (v.length = 0) || (!bl (v.getD 0 0) && !bl (v.getD (v.length - 1) 0))) = decide (v = trim v) := by
    rw [Bool.eq_iff_iff, Bool.or_eq_true, Bool.and_eq_true, decide_eq_true_eq, decide_eq_true_eq, eq_comm (a := v), trim_self, List.length_eq_zero_iff, Bool.not_eq_true', Bool.not_eq_true']
  rw [h]
  cases v.all sok <;> cases decide (v.length ≤ 8192) <;> cases decide (v = trim v) <;> rfl
theorem valB_trim (v : List By) (h : (trim v).length ≤ 8192) : valB (trim v) = (trim v).all sok := by
  rw [valB_is, trim_trim, decide_eq_true h, decide_eq_true rfl, Bool.true_and, Bool.true_and]
/-! ### pieces -/
/-- how many bytes ahead of the first blank -/
def fb (w : List By) : Nat := (w.takeWhile fun c => !bl c).length
theorem fb_le (w : List By) : fb w ≤ w.length := (List.takeWhile_sublist _).length_le
theorem fb_in : ∀ (w : List By) {k : Nat}, k < fb w → bl (w.getD k 0) = false
  | [], k, h => by simp [fb] at h
  | c :: r, k, h => by
    cases hc : bl c with
    | true => simp [fb, hc] at h
    | false =>
      have e : fb (c :: r) = fb r + 1 := by simp [fb, hc]
      cases k with
      | zero => exact hc
      | succ k => exact fb_in r (by omega)
theorem fb_at : ∀ (w : List By), fb w < w.length → bl (w.getD (fb w) 0) = true
  | [], h => by simp [fb] at h
  | c :: r, h => by
    cases hc : bl c with
    | true =>
      have e : fb (c :: r) = 0 := by simp [fb, hc]
      rw [e]; exact hc
    | false =>
      have e : fb (c :: r) = fb r + 1 := by simp [fb, hc]
      rw [e] at h ⊢
      exact fb_at r (by simpa using h)
theorem trimL_split : ∀ (u : List By), ∃ p, u = p ++ trimL u ∧ ∀ c ∈ p, bl c = true
  | [] => ⟨[], rfl, by simp⟩
  | c :: r => by
    cases hc : bl c with
    | true =>
      obtain ⟨p, h1, h2⟩ := trimL_split r
      refine ⟨c :: p, ?_, ?_⟩
      · have : trimL (c :: r) = trimL r := by simp [trimL, hc]
        rw [this, List.cons_append, ← h1]
      · intro d hd
        rcases List.mem_cons.1 hd with rfl | hd
        · exact hc
        · exact h2 d hd
    | false => exact ⟨[], by simp [trimL, hc], by simp⟩
theorem trimL_len (u : List By) : (trimL u).length ≤ u.length := (List.dropWhile_sublist _).length_le
def pieceB (s : List By) : Nat := s.length - (trimL s).length + fb (trimL s)
theorem scan_eq {v : List By} {i e : Nat} (h1 : i ≤ e) (h2 : e ≤ v.length) (hn : ∀ j, i ≤ j → j < e → ¬ tn v j = true) (he : e < v.length → tn v e = true) : scan v i = e := by
  have hi : i ≤ v.length := by omega
  have a1 := scan_le v i
  have a2 := scan_ge v i hi
  by_cases hlt : scan v i < e
  · exact absurd (scan_tn v i hi (by omega)) (hn _ a2 hlt)
  · by_cases hgt : e < scan v i
    · exact absurd (he (by omega)) (scan_no v i hi e h1 hgt)
    · omega
theorem piece_scan {v : List By} {i : Nat} (hi : i < v.length) : i + pieceB (v.drop i) = scan v (i + 1) := by
  obtain ⟨p, h1, h2⟩ := trimL_split (v.drop i)
  have hw0 : trimL (v.drop i) = [] ∨ bl ((trimL (v.drop i)).getD 0 0) = false := by
    have key : ∀ u : List By, trimL (trimL u) = trimL u := fun u => by
      rw [trimL_self]
      unfold trimL
      induction u with
      | nil => exact .inl rfl
      | cons c r ih =>
        cases hc : bl c with
        | true => simpa [List.dropWhile_cons, hc] using ih
        | false => exact .inr (by simp [List.dropWhile_cons, hc])
    exact trimL_self.1 (key _)
  have hlen : (v.drop i).length = v.length - i := List.length_drop
  have e0 : pieceB (v.drop i) = p.length + fb (trimL (v.drop i)) := by
    have := congrArg List.length h1
    rw [List.length_append] at this
    unfold pieceB
    omega
  rw [e0]
  generalize hw : trimL (v.drop i) = w at h1 hw0 e0 ⊢
  have hl : p.length + w.length = v.length - i := by
    have := congrArg List.length h1
    rw [List.length_append, hlen] at this
    omega
  have at1 : ∀ k, v.getD (i + k) 0 = (p ++ w).getD k 0 := fun k => by
    rw [← h1, List.getD_eq_getElem?_getD, List.getD_eq_getElem?_getD, List.getElem?_drop]
  have atp : ∀ k, k < p.length → bl (v.getD (i + k) 0) = true := fun k hk => by
    rw [at1, List.getD_eq_getElem?_getD, List.getElem?_append_left hk, List.getElem?_eq_getElem hk]
    exact h2 _ (List.getElem_mem hk)
  have atw : ∀ k, v.getD (i + p.length + k) 0 = w.getD k 0 := fun k => by
    rw [Nat.add_assoc, at1, List.getD_eq_getElem?_getD, List.getD_eq_getElem?_getD, List.getElem?_append_right (by omega)]
    congr 2
    omega
  have hfl := fb_le w
  have hf0 : w ≠ [] → 0 < fb w := by
    intro hne
    have hb := hw0.resolve_left hne
    cases w with
    | nil => exact absurd rfl hne
    | cons c r =>
      have hb : bl c = false := hb
      simp [fb, hb]
  have hwl : w ≠ [] ↔ 0 < w.length := List.length_pos_iff.symm
  symm
  refine scan_eq (by
    by_cases hp : p.length = 0
    · have := hf0 (hwl.2 (by omega)); omega
    · omega) (by omega) ?_ ?_
  · intro j hj1 hj2 ht
    have hb := tn_bl ht
    simp only [tn, Bool.and_eq_true, Bool.not_eq_true'] at ht
    by_cases hj : j ≤ i + p.length
    · have := atp (j - 1 - i) (by omega)
      rw [show i + (j - 1 - i) = j - 1 by omega] at this
      rw [this] at ht
      exact absurd ht.2.2 (by decide)
    · have := fb_in w (k := j - i - p.length) (by omega)
      rw [← atw, show i + p.length + (j - i - p.length) = j by omega] at this
      rw [this] at hb
      cases hb
  · intro hlt
    have hfw : fb w < w.length := by omega
    have h0 : 0 < fb w := hf0 (hwl.2 (by omega))
    have a := fb_at w hfw
    have b := fb_in w (k := fb w - 1) (by omega)
    rw [← atw] at a b
    simp only [tn, Bool.and_eq_true, Bool.not_eq_true', decide_eq_true_eq]
    refine ⟨by omega, ?_, ?_⟩
    · rw [show i + (p.length + fb w) = i + p.length + fb w by omega]; exact a
    · rw [show i + (p.length + fb w) - 1 = i + p.length + (fb w - 1) by omega]; exact b
theorem st_run (n v : List By) (i : Nat) : ∀ k, i + 1 + k ≤ v.length → (∀ j, i + 1 ≤ j → j < i + 1 + k → ¬ tn v j = true) →
    st n v (i + 1 + k) = ((st n v (i + 1)).1 ++ (v.take (i + 1 + k)).drop (i + 1), (st n v (i + 1)).2 + k)
  | 0, h, _ => by
    rw [List.drop_of_length_le (by rw [List.length_take]; omega)]
    simp
  | k + 1, h, hn => by
    have ih := st_run n v i k (by omega) (fun j h1 h2 => hn j h1 (by omega))
    have ht := hn (i + 1 + k) (by omega) (by omega)
    have e : i + 1 + (k + 1) = (i + 1 + k) + 1 := by omega
    rw [e, st, if_neg (fun hh => ht hh.1), ih, take_succ_getD v (by omega)]
    rw [List.drop_append_of_le_length (by rw [List.length_take]; omega)]
    simp only [List.append_assoc]
    rfl
/-- is a line's end put ahead of the piece at i? -/
def brkA (n v : List By) (i : Nat) : Bool := tn v i && decide (76 < (st n v i).2 + (scan v (i + 1) - i))
theorem st_piece (n v : List By) {i : Nat} (hi : i < v.length) : st n v (scan v (i + 1)) =
    (((st n v i).1 ++ (if brkA n v i then [13, 10] else [])) ++ (v.take (scan v (i + 1))).drop i, (if brkA n v i then 0 else (st n v i).2) + (scan v (i + 1) - i)) := by
  have a1 := scan_le v (i + 1)
  have a2 := scan_ge v (i + 1) hi
  have a3 := scan_no v (i + 1) hi
  generalize he : scan v (i + 1) = e at a1 a2 a3 ⊢
  have h1 := st_run n v i (e - (i + 1)) (by omega) (fun j h1 h2 => a3 j h1 (by omega))
  rw [show i + 1 + (e - (i + 1)) = e by omega] at h1
  have e2 : (v.take e).drop i = v.getD i 0 :: (v.take e).drop (i + 1) := by
    rw [List.drop_eq_getElem_cons (by rw [List.length_take]; omega), List.getElem_take, List.getD_eq_getElem?_getD, List.getElem?_eq_getElem hi]
    rfl
  rw [h1, e2]
  have hb : brkA n v i = true ↔ (tn v i = true ∧ 76 < (st n v i).2 + scan v (i + 1) - i) := by
    unfold brkA
    rw [he, Bool.and_eq_true, decide_eq_true_eq]
    constructor
    · rintro ⟨p, q⟩; exact ⟨p, by omega⟩
    · rintro ⟨p, q⟩; exact ⟨p, by omega⟩
  conv => lhs; rw [st]
  by_cases h : tn v i = true ∧ 76 < (st n v i).2 + scan v (i + 1) - i
  · rw [if_pos h, if_pos (hb.2 h), if_pos (hb.2 h)]
    simp only [List.append_assoc, List.cons_append, List.nil_append, Prod.mk.injEq, true_and]
    omega
  · rw [if_neg h, if_neg (fun k => h (hb.1 k)), if_neg (fun k => h (hb.1 k))]
    simp only [List.append_assoc, List.cons_append, List.nil_append, List.append_nil, Prod.mk.injEq, true_and]
    omega
theorem st_low (n v : List By) : ∀ i, n.length + 2 + i ≤ (st n v i).1.length
  | 0 => by simp [st]
  | i + 1 => by
    have := st_low n v i
    unfold st
    split
    · simp only [List.length_append, List.length_cons, List.length_nil]; omega
    · simp only [List.length_append, List.length_cons, List.length_nil]; omega
/-! ### heads that are too long -/
theorem cut_some {b l r : List By} (h : cut b = some (l, r)) : (pre10 b).length < b.length ∧ l = chop (pre10 b) ∧ r = b.drop ((pre10 b).length + 1) := by
  unfold cut at h
  split at h
  · cases h; exact ⟨by assumption, rfl, rfl⟩
  · cases h
theorem pre10_at : ∀ (b : List By), (pre10 b).length < b.length → b = pre10 b ++ 10 :: b.drop ((pre10 b).length + 1)
  | [], h => by simp [pre10] at h
  | c :: r, h => by
    by_cases hc : c = 10
    · subst hc
      have : pre10 (10 :: r) = [] := by simp [pre10]
      rw [this]; rfl
    · have e : pre10 (c :: r) = c :: pre10 r := by
        unfold pre10
        rw [List.takeWhile_cons, if_pos (bne_iff_ne.2 hc)]
      rw [e] at h ⊢
      simp only [List.length_cons, List.drop_succ_cons, List.cons_append, List.cons.injEq, true_and] at h ⊢
      exact pre10_at r (by omega)
theorem pre10_no (b : List By) : ∀ c ∈ pre10 b, c ≠ 10 := by
  intro c hc
  have := (List.all_eq_true.1 (List.all_takeWhile (l := b) (p := (· != 10)))) c hc
  simpa using this
theorem pre10_take {b : List By} {m : Nat} (h : (pre10 b).length < m) (hb : (pre10 b).length < b.length) : pre10 (b.take m) = pre10 b := by
  have e := pre10_at b hb
  have h2 : b.take m = pre10 b ++ (10 :: b.drop ((pre10 b).length + 1)).take (m - (pre10 b).length) := by
    conv => lhs; rw [e]
    rw [List.take_append, List.take_of_length_le (by omega)]
  rw [h2, pre10_app (pre10_no b)]
  have h3 : m - (pre10 b).length = (m - (pre10 b).length - 1) + 1 := by omega
  rw [h3, List.take_succ_cons]
  simp [pre10]
theorem pre10_take2 {b : List By} {m : Nat} (h : (pre10 (b.take m)).length < (b.take m).length) : pre10 (b.take m) = pre10 b := by
  have e := pre10_at _ h
  have h2 : b = pre10 (b.take m) ++ (10 :: (b.take m).drop ((pre10 (b.take m)).length + 1) ++ b.drop m) := by
    have := List.take_append_drop m b
    conv => lhs; rw [← this]
    conv => lhs; rw [e]
    rw [List.append_assoc]
  conv => rhs; rw [h2]
  rw [pre10_app (pre10_no _)]
  simp [pre10]
/-- a head's end within the first m bytes -/
theorem hend_take (m : Nat) : ∀ (n : Nat) (b : List By), b.length ≤ n → ∀ k, (hend (b.take m) = some k ↔ (hend b = some k ∧ k ≤ m)) := by
  intro n
  induction n generalizing m with
  | zero =>
    intro b hb k
    obtain rfl : b = [] := List.eq_nil_of_length_eq_zero (by omega)
    have : hend [] = none := hend_none (by simp [cut, pre10])
    rw [List.take_nil, this]
    simp
  | succ n ih =>
    intro b hb k
    by_cases hc : (pre10 b).length < b.length
    · by_cases hm : (pre10 b).length < m
      · have e1 := pre10_take hm hc
        have c1 : cut b = some (chop (pre10 b), b.drop ((pre10 b).length + 1)) := by unfold cut; rw [if_pos hc]
        have c2 : cut (b.take m) = some (chop (pre10 b), (b.drop ((pre10 b).length + 1)).take (m - ((pre10 b).length + 1))) := by
          unfold cut
          rw [e1, if_pos (by rw [List.length_take]; omega), List.drop_take]
        have l1 : b.length - (b.drop ((pre10 b).length + 1)).length = (pre10 b).length + 1 := by rw [List.length_drop]; omega
        have l2 : (b.take m).length - ((b.drop ((pre10 b).length + 1)).take (m - ((pre10 b).length + 1))).length = (pre10 b).length + 1 := by
          rw [List.length_take, List.length_take, List.length_drop]; omega
        generalize hp : chop (pre10 b) = p at c1 c2
        by_cases hp0 : p = []
        · subst hp0
          rw [hend_end c1, hend_end c2, l1, l2]
          constructor
          · intro h; cases h; exact ⟨rfl, hm⟩
          · rintro ⟨h, _⟩; exact h
        · rw [hend_go c1 hp0, hend_go c2 hp0, l1, l2]
          have := ih (m - ((pre10 b).length + 1)) (b.drop ((pre10 b).length + 1)) (by rw [List.length_drop]; omega)
          constructor
          · intro h
            obtain ⟨a, h1, h2⟩ := Option.map_eq_some_iff.1 h
            obtain ⟨h3, h4⟩ := (this a).1 h1
            rw [h3]
            subst h2
            exact ⟨rfl, by omega⟩
          · rintro ⟨h, h4⟩
            obtain ⟨a, h1, h2⟩ := Option.map_eq_some_iff.1 h
            subst h2
            rw [(this a).2 ⟨h1, by omega⟩]
            rfl
      · -- the first line's end is behind
        have n2 : cut (b.take m) = none := by
          unfold cut
          rw [if_neg]
          intro h
          have := pre10_take2 h
          rw [this, List.length_take] at h
          omega
        rw [hend_none n2]
        constructor
        · intro h; cases h
        · rintro ⟨h, h4⟩
          exfalso
          have c1 : cut b = some (chop (pre10 b), b.drop ((pre10 b).length + 1)) := by unfold cut; rw [if_pos hc]
          have l1 : b.length - (b.drop ((pre10 b).length + 1)).length = (pre10 b).length + 1 := by rw [List.length_drop]; omega
          generalize chop (pre10 b) = p at c1
          by_cases hp0 : p = []
          · subst hp0
            rw [hend_end c1, l1] at h
            cases h; omega
          · rw [hend_go c1 hp0, l1] at h
            obtain ⟨a, _, h2⟩ := Option.map_eq_some_iff.1 h
            omega
    · have n1 : cut b = none := by unfold cut; rw [if_neg hc]
      have n2 : cut (b.take m) = none := by
        unfold cut
        rw [if_neg]
        intro h
        have := pre10_take2 h
        rw [this, List.length_take] at h
        omega
      rw [hend_none n1, hend_none n2]
      simp
def longB (b : List By) : Bool := decide (65536 < b.length) && (hend (b.take 65536)).isNone
theorem hend_le : ∀ (n : Nat) (b : List By), b.length ≤ n → ∀ k, hend b = some k → k ≤ b.length := by
  intro n b _ k h
  have := (hend_take b.length n b (by assumption) k).1 (by rw [List.take_length]; exact h)
  exact this.2
theorem long_is (b : List By) : (65536 < (hend b).getD b.length) ↔ longB b = true := by
  unfold longB
  rw [Bool.and_eq_true, decide_eq_true_eq]
  have ht := hend_take 65536 b.length b (Nat.le_refl _)
  cases h : hend b with
  | none =>
    have : hend (b.take 65536) = none := by
      cases h2 : hend (b.take 65536) with
      | none => rfl
      | some k => rw [((ht k).1 h2).1] at h; cases h
    rw [this]
    simp
  | some k =>
    have hk := hend_le b.length b (Nat.le_refl _) k h
    simp only [Option.getD_some]
    constructor
    · intro hlt
      refine ⟨by omega, ?_⟩
      cases h2 : hend (b.take 65536) with
      | none => rfl
      | some k' =>
        obtain ⟨h3, h4⟩ := (ht k').1 h2
        rw [h] at h3
        cases h3; omega
    · rintro ⟨_, hn⟩
      by_cases hlt : 65536 < k
      · exact hlt
      · rw [(ht k).2 ⟨h, by omega⟩] at hn
        cases hn
end Fld
end Go.Proofs.YtikhlddemdlmgaaDoor

/-
  Of no statement by itself: what the library's functions on texts tell, in plain words: pure; no program stands here.
  Conditions: none but each lemma's own.
-/
namespace Go.Proofs.YtikhlddemdlmgaaDoor
namespace Fld
def u8s (l : List By) : List UInt8 := l.map UInt8.ofBitVec
theorem strB_list (l : List By) : (strB l).data.toList = u8s l := rfl
theorem u8s_str (l : List By) : (⟨(u8s l).toArray⟩ : ByteArray) = strB l := rfl
theorem u8s_drop (p : UInt8 → Bool) : ∀ l : List By, (u8s l).dropWhile p = u8s (l.dropWhile fun c => p (UInt8.ofBitVec c))
  | [] => rfl
  | c :: l => by
    show (UInt8.ofBitVec c :: u8s l).dropWhile p = _
    rw [List.dropWhile_cons, List.dropWhile_cons]
    cases h : p (UInt8.ofBitVec c) with
    | true => exact u8s_drop p l
    | false => rfl
theorem u8s_rev (l : List By) : (u8s l).reverse = u8s l.reverse := by unfold u8s; rw [List.map_reverse]
theorem blank_u8 (c : By) : (u8s [32, 9]).contains (UInt8.ofBitVec c) = bl c := by
  have h : ∀ c : Fin 256, (u8s [32, 9]).contains (UInt8.ofBitVec (BitVec.ofNat 8 c.val)) = bl (BitVec.ofNat 8 c.val) := by decide +kernel
  simpa using h ⟨c.toNat, c.isLt⟩
theorem trimL_u8 (l : List By) : Go.Lib.trimLeftS (u8s l) (u8s [32, 9]) = u8s (trimL l) := by
  unfold Go.Lib.trimLeftS
  rw [u8s_drop]
  congr 1
  unfold trimL
  congr 1
  funext c
  exact blank_u8 c
/-- the other end -/
def trimR (v : List By) : List By := (trimL v.reverse).reverse
theorem trimR_cons (c : By) (r : List By) : trimR (c :: r) = if trimR r = [] ∧ bl c = true then [] else c :: trimR r := by
  unfold trimR trimL
  rw [List.reverse_cons, List.dropWhile_append]
  by_cases h : (r.reverse.dropWhile bl) = []
  · rw [h]
    cases hc : bl c <;> simp [hc]
  · have h2 : (r.reverse.dropWhile bl).isEmpty = false := by simpa using h
    rw [h2, if_neg (by decide), if_neg (by rintro ⟨k, _⟩; exact h (by simpa using k)), List.reverse_append]
    rfl
theorem trim_swap : ∀ v : List By, trimL (trimR v) = trimR (trimL v)
  | [] => rfl
  | c :: r => by
    have ih := trim_swap r
    rw [trimR_cons]
    cases hc : bl c with
    | true =>
      have e : trimL (c :: r) = trimL r := by simp [trimL, hc]
      rw [e, ← ih]
      by_cases h : trimR r = []
      · rw [if_pos ⟨h, rfl⟩, h]
      · rw [if_neg (fun k => h k.1)]
        simp [trimL, hc]
    | false =>
      have e : trimL (c :: r) = c :: r := by simp [trimL, hc]
      rw [if_neg (by rintro ⟨_, k⟩; cases k), e, trimR_cons, if_neg (by rintro ⟨_, k⟩; rw [hc] at k; cases k)]
      simp [trimL, hc]
theorem trim_u8 (l : List By) : Go.Lib.trimS (u8s l) (u8s [32, 9]) = u8s (trim l) := by
  have h1 : Go.Lib.trimRightS (u8s l) (u8s [32, 9]) = u8s (trimR l) := by
    unfold Go.Lib.trimRightS
    rw [u8s_rev]
    have := trimL_u8 l.reverse
    unfold Go.Lib.trimLeftS at this
    rw [this, u8s_rev]
    rfl
  unfold Go.Lib.trimS
  rw [h1, trimL_u8, trim_swap]
  rfl
theorem trim_len (v : List By) : (trim v).length ≤ v.length := by
  unfold trim
  rw [List.length_reverse]
  have h1 := trimL_len (trimL v).reverse
  have h2 := trimL_len v
  rw [List.length_reverse] at h1
  omega
/-- the place of the first blank, or less than nought -/
def ixB (w : List By) : Int := if fb w < w.length then (fb w : Int) else -1
theorem fb_cons (c : By) (r : List By) : fb (c :: r) = if bl c then 0 else fb r + 1 := by
  unfold fb
  rw [List.takeWhile_cons]
  cases bl c <;> simp
theorem indexAny_u8 : ∀ w : List By, Go.Lib.indexAny (u8s w) (u8s [32, 9]) = ixB w
  | [] => rfl
  | c :: r => by
    show (if (u8s [32, 9]).contains (UInt8.ofBitVec c) then 0 else if Go.Lib.indexAny (u8s r) (u8s [32, 9]) == -1 then -1 else Go.Lib.indexAny (u8s r) (u8s [32, 9]) + 1 : Int) = _
    rw [blank_u8, indexAny_u8 r]
    unfold ixB
    rw [fb_cons]
    cases hc : bl c with
    | true => simp
    | false =>
      simp only [Bool.false_eq_true, if_false, List.length_cons, Nat.add_lt_add_iff_right]
      by_cases h : fb r < r.length
      · simp only [h, if_true]
        rw [if_neg (by rw [beq_iff_eq]; omega)]
        omega
      · simp only [h, if_false]
        rfl
theorem piece_ix (s : List By) : pieceB s = if 0 ≤ ixB (trimL s) then s.length - (trimL s).length + (ixB (trimL s)).toNat else s.length := by
  have h1 := trimL_len s
  have h2 := fb_le (trimL s)
  unfold pieceB ixB
  by_cases h : fb (trimL s) < (trimL s).length
  · rw [if_pos h, if_pos (by omega)]
    omega
  · rw [if_neg h, if_neg (by omega)]
    omega
/-- a byte's first place, or less than nought -/
def fi (c : By) (s : List By) : Nat := (s.takeWhile (· != c)).length
theorem fi_le (c : By) (s : List By) : fi c s ≤ s.length := (List.takeWhile_sublist _).length_le
theorem fi_cons (c d : By) (r : List By) : fi c (d :: r) = if d = c then 0 else fi c r + 1 := by
  unfold fi
  rw [List.takeWhile_cons]
  by_cases h : d = c
  · simp [h]
  · simp [h]
theorem fi_at : ∀ (c : By) (s : List By), fi c s < s.length → s.getD (fi c s) 0 = c
  | c, [], h => by simp [fi] at h
  | c, d :: r, h => by
    rw [fi_cons] at h ⊢
    by_cases hd : d = c
    · rw [if_pos hd]; exact hd
    · rw [if_neg hd] at h ⊢
      exact fi_at c r (by simpa using h)
theorem fi_before : ∀ (c : By) (s : List By) {j : Nat}, j < fi c s → ¬ s.getD j 0 = c
  | c, [], j, h => by simp [fi] at h
  | c, d :: r, j, h => by
    rw [fi_cons] at h
    by_cases hd : d = c
    · rw [if_pos hd] at h; omega
    · rw [if_neg hd] at h
      cases j with
      | zero => exact hd
      | succ j => exact fi_before c r (by omega)
theorem fi_lt (c : By) (s : List By) : fi c s < s.length ↔ c ∈ s := by
  induction s with
  | nil => simp [fi]
  | cons d r ih =>
    rw [fi_cons]
    by_cases h : d = c
    · simp [h]
    · have h' : ¬ c = d := fun e => h e.symm
      rw [if_neg h, List.length_cons, List.mem_cons]
      constructor
      · intro k; exact .inr (ih.1 (by omega))
      · rintro (k | k)
        · exact absurd k h'
        · have := ih.2 k; omega
def ixC (c : By) (s : List By) : Int := if fi c s < s.length then (fi c s : Int) else -1
theorem u8s_get (s : List By) {i : Nat} (h : i < s.length) : (strB s)[i]! = UInt8.ofBitVec (s.getD i 0) := by
  have hs : i < (strB s).size := by rw [strB_size]; exact h
  rw [getElem!_pos (strB s) i hs]
  show (strB s).data[i]'_ = _
  show ((u8s s).toArray)[i]'_ = _
  simp [u8s, List.getD_eq_getElem?_getD, List.getElem?_eq_getElem h]
/-- the model's own search -/
theorem first_is (s : List By) (c : By) : firstIdx (strB s) ((c.toNat : Int)).toNat.toUInt8 = ixC c s := by
  have hc : ((c.toNat : Int)).toNat.toUInt8 = UInt8.ofBitVec c := by
    rw [Int.toNat_natCast]
    apply UInt8.toBitVec_inj.1
    apply BitVec.eq_of_toNat_eq
    simp [Nat.toUInt8, UInt8.ofNat]
  rw [hc]
  unfold firstIdx
  rw [strB_size]
  have hp : ∀ i, i < s.length → ((strB s)[i]! == UInt8.ofBitVec c) = decide (s.getD i 0 = c) := by
    intro i hi
    rw [u8s_get s hi]
    by_cases h : s.getD i 0 = c
    · rw [h]; simp
    · rw [decide_eq_false h]
      refine beq_eq_false_iff_ne.2 fun k => h ?_
      have := congrArg UInt8.toBitVec k
      exact this
  unfold ixC
  by_cases h : fi c s < s.length
  · rw [if_pos h]
    have hf : (List.range s.length).find? (fun i => (strB s)[i]! == UInt8.ofBitVec c) = some (fi c s) := by
      rw [List.find?_range_eq_some]
      refine ⟨?_, by simpa using h, ?_⟩
      · rw [hp _ h, decide_eq_true (fi_at c s h)]
      · intro j hj
        rw [hp j (by omega), decide_eq_false (fi_before c s hj)]
        rfl
    rw [hf]
  · rw [if_neg h]
    have hf : (List.range s.length).find? (fun i => (strB s)[i]! == UInt8.ofBitVec c) = none := by
      rw [List.find?_range_eq_none]
      intro j hj
      have := fi_le c s
      rw [hp j hj, decide_eq_false (fi_before c s (by omega))]
      rfl
    rw [hf]
/-- a byte's last place, or less than nought -/
def la (c : By) (s : List By) : Nat := (s.reverse.takeWhile fun d => !(d == c)).length
def ixL (c : By) (s : List By) : Int := (s.length : Int) - 1 - la c s
theorem la_snoc (c : By) (s : List By) (d : By) : la c (s ++ [d]) = if d = c then 0 else la c s + 1 := by
  unfold la
  rw [List.reverse_append, List.reverse_singleton, List.singleton_append, List.takeWhile_cons]
  by_cases h : d = c
  · simp [h]
  · simp [h]
theorem la_le (c : By) (s : List By) : la c s ≤ s.length := by
  unfold la
  have := (List.takeWhile_sublist (fun d => !(d == c)) (l := s.reverse)).length_le
  simpa using this
theorem la_lt (c : By) (s : List By) : la c s < s.length ↔ c ∈ s := by
  have h := fi_lt c s.reverse
  have e : fi c s.reverse = la c s := by
    unfold fi la
    congr 1
  rw [e] at h
  simpa using h
end Fld
end Go.Proofs.YtikhlddemdlmgaaDoor

/-
  Of no statement by itself: strings.Trim, TrimLeft, IndexAny at the two blanks, by the library's contracts over any program; strings.IndexByte, Cut at one byte by their bodies.
  Conditions: each theorem's own.
-/
namespace Go.Proofs.YtikhlddemdlmgaaDoor
set_option maxRecDepth 10000
open Sl Fld Go.Shelf
theorem below_ext {w w' : World} (h : RowKit.Below w.heap.size w w') : Ext w w' := ⟨h.os, h.tape, h.output, h.size, fun k hk _ => h.block k hk⟩
theorem set_info : (Tryd.prog.info? 67).map (fun i => (i.zero, i.size)) = some (some (.agg (Array.replicate 256 (.bool false))), 256) := by kernel_rfl
def blanks2 : List Bt := [32, 9]
theorem blanks2_ok : ∀ (j : Nat) b, (strB [32, 9]).data.toList[j]? = some b → b.toNat < 128 := ascii_of_all (by decide)
def trimLaysRen : Ren := ⟨fun | 160 => 39 | 232 => 44 | 231 => 43 | 227 => 45 | 234 => 47 | 233 => 46 | 236 => 49 | 235 => 48 | 228 => 52 | 271 => 55 | 151 => 54 | 197 => 53 | 120 => 61 | 152 => 50 | 260 => 60 | 137 => 56 | 119 => 57 | 224 => 58 | 225 => 59 | 217 => 62 | 266 => 63 | n => n,
  fun | 9 => 9 | 4 => 4 | 3 => 3 | 5 => 5 | 117 => 68 | 116 => 67 | 0 => 0 | 124 => 71 | 21 => 21 | 105 => 74 | 46 => 80 | 119 => 81 | 139 => 84 | 138 => 83 | n => n,
  fun | 3 => 1 | 4 => 2 | n => n⟩
theorem trimLays : Lays.n160 Tryd.prog trimLaysRen := {
  mixed := by kernel_rfl
  f119 := Tryd.func57.trans (congrArg some (by kernel_rfl))
  f120 := Tryd.func61.trans (congrArg some (by kernel_rfl))
  f137 := Tryd.func56.trans (congrArg some (by kernel_rfl))
  f151 := Tryd.func54.trans (congrArg some (by kernel_rfl))
  f152 := Tryd.func50.trans (congrArg some (by kernel_rfl))
  f160 := Tryd.func39.trans (congrArg some (by kernel_rfl))
  f197 := Tryd.func53.trans (congrArg some (by kernel_rfl))
  f217 := Tryd.func62.trans (congrArg some (by kernel_rfl))
  f224 := Tryd.func58.trans (congrArg some (by kernel_rfl))
  f225 := Tryd.func59.trans (congrArg some (by kernel_rfl))
  f227 := Tryd.func45.trans (congrArg some (by kernel_rfl))
  f228 := Tryd.func52.trans (congrArg some (by kernel_rfl))
  f231 := Tryd.func43.trans (congrArg some (by kernel_rfl))
  f232 := Tryd.func44.trans (congrArg some (by kernel_rfl))
  f233 := Tryd.func46.trans (congrArg some (by kernel_rfl))
  f234 := Tryd.func47.trans (congrArg some (by kernel_rfl))
  f235 := Tryd.func48.trans (congrArg some (by kernel_rfl))
  f236 := Tryd.func49.trans (congrArg some (by kernel_rfl))
  f260 := Tryd.func60.trans (congrArg some (by kernel_rfl))
  f266 := Tryd.func63.trans (congrArg some (by kernel_rfl))
  f271 := Tryd.func55.trans (congrArg some (by kernel_rfl))
  t0 := Tryd.underlying0
  a0 := Tryd.isAgg0
  z0 := Tryd.sizeOf0
  v0 := Tryd.zeroValue0
  t3 := Tryd.underlying3
  a3 := Tryd.isAgg3
  z3 := Tryd.sizeOf3
  v3 := Tryd.zeroValue3
  t4 := Tryd.underlying4
  a4 := Tryd.isAgg4
  z4 := Tryd.sizeOf4
  v4 := Tryd.zeroValue4
  t5 := Tryd.underlying5
  a5 := Tryd.isAgg5
  z5 := Tryd.sizeOf5
  v5 := Tryd.zeroValue5
  t9 := Tryd.underlying9
  a9 := Tryd.isAgg9
  z9 := Tryd.sizeOf9
  v9 := Tryd.zeroValue9
  t21 := Tryd.underlying21
  a21 := Tryd.isAgg21
  z21 := Tryd.sizeOf21
  v21 := Tryd.zeroValue21
  t46 := Tryd.underlying80
  a46 := Tryd.isAgg80
  z46 := Tryd.sizeOf80
  v46 := Tryd.zeroValue80
  t105 := Tryd.underlying74
  a105 := Tryd.isAgg74
  z105 := Tryd.sizeOf74
  v105 := Tryd.zeroValue74
  t116 := Tryd.underlying67
  a116 := Tryd.isAgg67
  z116 := Tryd.sizeOf67
  t117 := Tryd.underlying68
  a117 := Tryd.isAgg68
  z117 := Tryd.sizeOf68
  v117 := Tryd.zeroValue68
  t119 := Tryd.underlying81
  a119 := Tryd.isAgg81
  z119 := Tryd.sizeOf81
  t124 := Tryd.underlying71
  a124 := Tryd.isAgg71
  z124 := Tryd.sizeOf71
  v124 := Tryd.zeroValue71
  t138 := Tryd.underlying83
  a138 := Tryd.isAgg83
  z138 := Tryd.sizeOf83
  v138 := Tryd.zeroValue83
  t139 := Tryd.underlying84
  a139 := Tryd.isAgg84
  z139 := Tryd.sizeOf84
  v139 := Tryd.zeroValue84
  g3 := by kernel_rfl
  g4 := by kernel_rfl }
theorem goes_trimw : Goes Tryd.prog 39 := ⟨_, Tryd.func39, rfl, by kernel_rfl⟩
theorem trimw_any (s : List Bt) (w : World) (hl : s.length < 9223372036854775808) : Calls Tryd.prog 39 [Z s, Z [32, 9]].toArray w fun e w' => e = .returned (Z (trim s)) ∧ Ext w w' :=
  (Any.strings_Trim_laid trimLays set_info (strB s) (strB [32, 9]) w (by rw [strB_size]; omega) (by decide) blanks2_ok).mono fun e w' ⟨h1, h2⟩ => ⟨by
    rw [h1, strB_list, strB_list, trim_u8, u8s_str], below_ext h2⟩
def trimlLaysRen : Ren := ⟨fun | 161 => 41 | 231 => 43 | 227 => 45 | 233 => 46 | 235 => 48 | 228 => 52 | 197 => 53 | 151 => 54 | 260 => 60 | 152 => 50 | 137 => 56 | 119 => 57 | 224 => 58 | 225 => 59 | 217 => 62 | 266 => 63 | n => n,
  fun | 9 => 9 | 4 => 4 | 3 => 3 | 5 => 5 | 117 => 68 | 116 => 67 | 0 => 0 | 124 => 71 | 105 => 74 | 21 => 21 | 119 => 81 | 46 => 80 | 139 => 84 | 138 => 83 | n => n,
  fun | 3 => 1 | 4 => 2 | n => n⟩
theorem trimlLays : Lays.n161 Tryd.prog trimlLaysRen := {
  mixed := by kernel_rfl
  f119 := Tryd.func57.trans (congrArg some (by kernel_rfl))
  f137 := Tryd.func56.trans (congrArg some (by kernel_rfl))
  f151 := Tryd.func54.trans (congrArg some (by kernel_rfl))
  f152 := Tryd.func50.trans (congrArg some (by kernel_rfl))
  f161 := Tryd.func41.trans (congrArg some (by kernel_rfl))
  f197 := Tryd.func53.trans (congrArg some (by kernel_rfl))
  f217 := Tryd.func62.trans (congrArg some (by kernel_rfl))
  f224 := Tryd.func58.trans (congrArg some (by kernel_rfl))
  f225 := Tryd.func59.trans (congrArg some (by kernel_rfl))
  f227 := Tryd.func45.trans (congrArg some (by kernel_rfl))
  f228 := Tryd.func52.trans (congrArg some (by kernel_rfl))
  f231 := Tryd.func43.trans (congrArg some (by kernel_rfl))
  f233 := Tryd.func46.trans (congrArg some (by kernel_rfl))
  f235 := Tryd.func48.trans (congrArg some (by kernel_rfl))
  f260 := Tryd.func60.trans (congrArg some (by kernel_rfl))
  f266 := Tryd.func63.trans (congrArg some (by kernel_rfl))
  t0 := Tryd.underlying0
  a0 := Tryd.isAgg0
  z0 := Tryd.sizeOf0
  v0 := Tryd.zeroValue0
  t3 := Tryd.underlying3
  a3 := Tryd.isAgg3
  z3 := Tryd.sizeOf3
  v3 := Tryd.zeroValue3
  t4 := Tryd.underlying4
  a4 := Tryd.isAgg4
  z4 := Tryd.sizeOf4
  v4 := Tryd.zeroValue4
  t5 := Tryd.underlying5
  a5 := Tryd.isAgg5
  z5 := Tryd.sizeOf5
  v5 := Tryd.zeroValue5
  t9 := Tryd.underlying9
  a9 := Tryd.isAgg9
  z9 := Tryd.sizeOf9
  v9 := Tryd.zeroValue9
  t21 := Tryd.underlying21
  a21 := Tryd.isAgg21
  z21 := Tryd.sizeOf21
  v21 := Tryd.zeroValue21
  t46 := Tryd.underlying80
  a46 := Tryd.isAgg80
  z46 := Tryd.sizeOf80
  v46 := Tryd.zeroValue80
  t105 := Tryd.underlying74
  a105 := Tryd.isAgg74
  z105 := Tryd.sizeOf74
  v105 := Tryd.zeroValue74
  t116 := Tryd.underlying67
  a116 := Tryd.isAgg67
  z116 := Tryd.sizeOf67
  t117 := Tryd.underlying68
  a117 := Tryd.isAgg68
  z117 := Tryd.sizeOf68
  v117 := Tryd.zeroValue68
  t119 := Tryd.underlying81
  a119 := Tryd.isAgg81
  z119 := Tryd.sizeOf81
  t124 := Tryd.underlying71
  a124 := Tryd.isAgg71
  z124 := Tryd.sizeOf71
  v124 := Tryd.zeroValue71
  t138 := Tryd.underlying83
  a138 := Tryd.isAgg83
  z138 := Tryd.sizeOf83
  v138 := Tryd.zeroValue83
  t139 := Tryd.underlying84
  a139 := Tryd.isAgg84
  z139 := Tryd.sizeOf84
  v139 := Tryd.zeroValue84
  g3 := by kernel_rfl
  g4 := by kernel_rfl }
theorem goes_triml : Goes Tryd.prog 41 := ⟨_, Tryd.func41, rfl, by kernel_rfl⟩
theorem triml_any (s : List Bt) (w : World) : Calls Tryd.prog 41 [Z s, Z [32, 9]].toArray w fun e w' => e = .returned (Z (trimL s)) ∧ Ext w w' :=
  (Any.strings_TrimLeft_laid trimlLays set_info (strB s) (strB [32, 9]) w (by decide) blanks2_ok).mono fun e w' ⟨h1, h2⟩ => ⟨by
    rw [h1, strB_list, strB_list, trimL_u8, u8s_str], below_ext h2⟩
def ixanyLaysRen : Ren := ⟨fun | 153 => 42 | 152 => 50 | 226 => 51 | 227 => 45 | 228 => 52 | 137 => 56 | 119 => 57 | 224 => 58 | 225 => 59 | 217 => 62 | 266 => 63 | n => n,
  fun | 9 => 9 | 3 => 3 | 4 => 4 | 5 => 5 | 21 => 21 | 117 => 68 | 116 => 67 | 0 => 0 | 46 => 80 | 124 => 71 | n => n,
  fun n => n⟩
theorem ixanyLays : Lays.n153 Tryd.prog ixanyLaysRen := {
  mixed := by kernel_rfl
  f119 := Tryd.func57.trans (congrArg some (by kernel_rfl))
  f137 := Tryd.func56.trans (congrArg some (by kernel_rfl))
  f152 := Tryd.func50.trans (congrArg some (by kernel_rfl))
  f153 := Tryd.func42.trans (congrArg some (by kernel_rfl))
  f217 := Tryd.func62.trans (congrArg some (by kernel_rfl))
  f224 := Tryd.func58.trans (congrArg some (by kernel_rfl))
  f225 := Tryd.func59.trans (congrArg some (by kernel_rfl))
  f226 := Tryd.func51.trans (congrArg some (by kernel_rfl))
  f227 := Tryd.func45.trans (congrArg some (by kernel_rfl))
  f228 := Tryd.func52.trans (congrArg some (by kernel_rfl))
  f266 := Tryd.func63.trans (congrArg some (by kernel_rfl))
  t0 := Tryd.underlying0
  a0 := Tryd.isAgg0
  z0 := Tryd.sizeOf0
  v0 := Tryd.zeroValue0
  t3 := Tryd.underlying3
  a3 := Tryd.isAgg3
  z3 := Tryd.sizeOf3
  v3 := Tryd.zeroValue3
  t4 := Tryd.underlying4
  a4 := Tryd.isAgg4
  z4 := Tryd.sizeOf4
  v4 := Tryd.zeroValue4
  t5 := Tryd.underlying5
  a5 := Tryd.isAgg5
  z5 := Tryd.sizeOf5
  v5 := Tryd.zeroValue5
  t9 := Tryd.underlying9
  a9 := Tryd.isAgg9
  z9 := Tryd.sizeOf9
  v9 := Tryd.zeroValue9
  t21 := Tryd.underlying21
  a21 := Tryd.isAgg21
  z21 := Tryd.sizeOf21
  v21 := Tryd.zeroValue21
  t46 := Tryd.underlying80
  a46 := Tryd.isAgg80
  z46 := Tryd.sizeOf80
  v46 := Tryd.zeroValue80
  t116 := Tryd.underlying67
  a116 := Tryd.isAgg67
  z116 := Tryd.sizeOf67
  t117 := Tryd.underlying68
  a117 := Tryd.isAgg68
  z117 := Tryd.sizeOf68
  v117 := Tryd.zeroValue68
  t124 := Tryd.underlying71
  a124 := Tryd.isAgg71
  z124 := Tryd.sizeOf71
  v124 := Tryd.zeroValue71 }
theorem goes_ixany : Goes Tryd.prog 42 := ⟨_, Tryd.func42, rfl, by kernel_rfl⟩
theorem ixany_any (s : List Bt) (w : World) (hl : s.length < 4294967281) (hs : ∀ c ∈ s, c.toNat < 128) : Calls Tryd.prog 42 [Z s, Z [32, 9]].toArray w fun e w' => e = .returned (I (ixB s)) ∧ Ext w w' :=
  (Any.strings_IndexAny_laid ixanyLays set_info (strB s) (strB [32, 9]) w (by rw [strB_size]; exact hl) (by decide) (fun j b hb => by
    rw [strB_list] at hb
    obtain ⟨c, hc, rfl⟩ := List.mem_map.1 (List.mem_of_getElem? hb)
    exact hs c hc) blanks2_ok).mono fun e w' ⟨h1, h2⟩ => ⟨by
    rw [h1, strB_list, strB_list, indexAny_u8], below_ext h2⟩
/-! ### one byte's first place, by the bodies and the model's own entry -/
structure IsIdxS (P : Program) (f : FuncId) : Prop where
  go : ∃ fn, P.funcs[f]? = some fn ∧ (fn.name == "runtime.NumGoroutine") = false ∧ fn.body.isNone = true ∧ Extern.findNext fn = none ∧ Extern.find fn = some Extern.BytealgIndexByte.indexByte
theorem OQ.idxs {P : Program} {n : Nat} {E : Env} {C : World → Prop} {dst : Option Tmp} {ty : TypeId} {pos : String} {aft : Array Edge} {g : Option (Nat × Bool)} {f : FuncId} {ats : Array TypeId} {x y : Operand} {s : List Bt} {c : Bt} (hf : IsIdxS P f) (hx : ev E x = some (Z s)) (hy : ev E y = some (U8 c)) :
    OQ P n E C ⟨dst, .call ⟨.value (.func f), #[x, y], ats⟩, ty, pos, aft, g⟩ (I (ixC c s)) := by
  refine ⟨fun ac hk w hw => ?_⟩
  obtain ⟨fn, h1, h2, h3, h4, h5⟩ := hf.go
  have r := run_callFunc_extern h1 h2 h3 h4 h5 #[Z s, U8 c] w
  rw [run_indexByte_string, first_is] at r
  unfold Oper.quietAt
  have r' : (execOp ac.eval ⟨dst, .call ⟨.value (.func f), #[x, y], ats⟩, ty, pos, aft, g⟩).run P w = .ok (.value (I (ixC c s))) w := by
    simp only [Result.andThen] at r
    have k1 := hk.eval hx
    have k2 := hk.eval hy
    have e : (.ok (.value (I (ixC c s))) w : Result Next) = (callFunc f #[Z s, U8 c]).run P w := r.symm
    rw [e]
    simp [execOp, resolve, Sem.run_bind, Act.eval, Deferred.ofValue, invoke, k1, k2]
    simp [Act.eval] at k1 k2
    simp [k1, k2]
  rw [r']
  exact ⟨rfl, rfl⟩
theorem is_idxs : IsIdxS Tryd.prog 63 := ⟨_, Tryd.func63, rfl, rfl, by kernel_rfl, by kernel_rfl⟩
theorem goes_sidx : Goes Tryd.prog 62 := ⟨_, Tryd.func62, rfl, by kernel_rfl⟩
theorem goes_idxb : Goes Tryd.prog 56 := ⟨_, Tryd.func56, rfl, by kernel_rfl⟩
theorem sidx_any (s : List Bt) (c : Bt) (w : World) : Calls Tryd.prog 62 [Z s, U8 c].toArray w fun e w' => e = .returned (I (ixC c s)) ∧ Ext w w' := by
  refine enter (n := 8) Tryd.func62 rfl rfl rfl (Holds.start w []) ?_
  repeat (first | refine JL.q (by first | (apply OQ.idxs; exact is_idxs; exact rfl; exact rfl) | (apply OQ.move; exact rfl) | (apply OQ.assign; exact rfl)) rfl ?_ | refine JC.seq ?_ | refine JC.region ?_ | refine JC.block ?_ | refine JC.skip ?_ | refine JC.exit ?_ | refine JL.nil ?_ | refine JE.next ?_ | refine JE.blk_normal ?_ | refine JE.then_exit ?_ | refine JE.blk_hit ?_ | refine JE.blk_miss rfl ?_ | refine JE.then_ret ?_ | refine JE.blk_ret ?_ | refine JC.label ?_ | refine JL.gon rfl rfl ?_ | refine JL.gskip rfl rfl rfl rfl ?_ | refine JL.gskipU rfl rfl rfl rfl ?_)
  exact JC.ret (JE.ret1 rfl (RV.tmp rfl) fun w' hw => ⟨rfl, hw.chg⟩)
theorem idxb_any (s : List Bt) (c : Bt) (w : World) : Calls Tryd.prog 56 [Z s, U8 c].toArray w fun e w' => e = .returned (I (ixC c s)) ∧ Ext w w' := by
  refine enter (n := 8) Tryd.func56 rfl rfl rfl (Holds.start w []) ?_
  repeat (first | refine JL.q (by first | (apply OQ.callx; exact goes_sidx; exact rfl; exact (fun w' _ => sidx_any s c w')) | (apply OQ.move; exact rfl) | (apply OQ.assign; exact rfl)) rfl ?_ | refine JC.seq ?_ | refine JC.region ?_ | refine JC.block ?_ | refine JC.skip ?_ | refine JC.exit ?_ | refine JL.nil ?_ | refine JE.next ?_ | refine JE.blk_normal ?_ | refine JE.then_exit ?_ | refine JE.blk_hit ?_ | refine JE.blk_miss rfl ?_ | refine JE.then_ret ?_ | refine JE.blk_ret ?_ | refine JC.label ?_ | refine JL.gon rfl rfl ?_ | refine JL.gskip rfl rfl rfl rfl ?_ | refine JL.gskipU rfl rfl rfl rfl ?_)
  exact JC.ret (JE.ret1 rfl (RV.tmp rfl) fun w' hw => ⟨rfl, hw.chg⟩)
/-! ### texts cut at a byte -/
theorem ixC_one (c : Bt) : ixC c [c] = 0 := by simp [ixC, fi]
/-- what a cut at a byte tells -/
def cutV (c : Bt) (s : List Bt) : Value := if fi c s < s.length then .tuple #[Z (s.take (fi c s)), Z (s.drop (fi c s + 1)), .bool true] else .tuple #[Z s, Z [], .bool false]
end Go.Proofs.YtikhlddemdlmgaaDoor
