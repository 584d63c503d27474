/-
  Of no statement by itself: the texts Slq, Slr, Sls, Slp, Slac, Typ, Prs, Prz, Slap, Slsu, Slfv, Slwi, Slcc, DskP, DskA, DskB, Slf, Slfi in one.
  Conditions: each theorem's own.
-/
import Derived.Test.YtopdkpeahhnihaaBa
import Derived.Laws.BytesString
import Derived.Deep.AppendSrc
import Derived.Test.YtopdkpeahhnihaaProg
import Derived.Laws.StructEq
import Derived.Laws.Slices
import Derived.Laws.Strings2
import Derived.ScopeJumps
import Derived.Lib.Overlaps
import Init
import Derived.Laws.Tables
import Derived.RangeFuncWrites
import Derived.RangeFuncLeaves
import Derived.TacticsIn
import Derived.Shelf.Abstract
/-
  Of no statement by itself: rules for strings as lists of bytes: length, one byte, equality, sums, the string of a slice's bytes; over X's partial knowledge of frame and memory, for any program P.
  Conditions: each rule's own hypotheses.
-/
namespace Go.Proofs.Ytopdkpeahhnihaa
open Sl
def strB (l : List Bt) : ByteArray := ⟨(l.map UInt8.ofBitVec).toArray⟩
@[reducible] def Z (l : List Bt) : Value := .string (strB l)
theorem strB_size (l : List Bt) : (strB l).size = l.length := by
  show (l.map UInt8.ofBitVec).toArray.size = l.length
  simp
theorem bytesOf_strB (l : List Bt) : bytesOf (strB l) = l := by
  show ((l.map UInt8.ofBitVec).toArray.toList).map UInt8.toBitVec = l
  simp [Function.comp_def]
theorem strB_bytesOf (s : ByteArray) : strB (bytesOf s) = s := by
  apply ByteArray.ext
  show ((s.data.toList.map UInt8.toBitVec).map UInt8.ofBitVec).toArray = s.data
  simp [Function.comp_def]
theorem strB_append (l r : List Bt) : strB l ++ strB r = strB (l ++ r) := by
  apply ByteArray.ext
  rw [ByteArray.data_append]
  show (l.map UInt8.ofBitVec).toArray ++ (r.map UInt8.ofBitVec).toArray = ((l ++ r).map UInt8.ofBitVec).toArray
  simp
theorem strB_eq (l r : List Bt) : ((strB l).toList == (strB r).toList) = decide (l = r) := by
  rw [ByteArray.toList_eq, ByteArray.toList_eq]
  show ((l.map UInt8.ofBitVec).toArray.toList == (r.map UInt8.ofBitVec).toArray.toList) = _
  rw [List.toList_toArray, List.toList_toArray]
  exact eq_list l r
section
variable {P : Program} {n : Nat} {E : Env} {C : World → Prop} {dst : Option Tmp} {ty t t' e : TypeId} {pos : String} {aft : Array Edge} {g : Option (Nat × Bool)} {x y : Operand} {l r : List Bt}
theorem OQ.lenS (hu : P.underlying t = some .string) (hx : ev E x = some (Z l)) : OQ P n E C ⟨dst, .call ⟨.builtin .len, #[x], #[t]⟩, ty, pos, aft, g⟩ (N l.length) :=
  strB_size l ▸ OQ.lenZ hu hx
theorem OQ.idxZ {k : IntKind} {i : Nat} (hu : P.underlying t = some .string) (hx : ev E x = some (Z l)) (hy : ev E y = some (.int k i)) (hi : i < l.length) : OQ P n E C ⟨dst, .index t x y, ty, pos, aft, g⟩ (U8 (l.getD i 0)) :=
  OQ.run fun a ha w _ => by
    have h1 := ha.eval hx
    have h2 := ha.eval hy
    have h3 : (underlying t).run P w = .ok .string w := run_underlying hu w
    have h4 : (strB l)[i]? = some (UInt8.ofBitVec (l.getD i 0)) := by
      have hs : i < (strB l).size := by rw [strB_size]; exact hi
      rw [getElem?_pos (strB l) i hs]
      show some (((l.map UInt8.ofBitVec).toArray)[i]'(by simpa using hi)) = _
      rw [List.getElem_toArray, List.getElem_map, List.getD_eq_getElem?_getD, List.getElem?_eq_getElem hi]; rfl
    simp [execOp, h1, h2, Instr.index, asIntOf, Sem.run_bind, h3, h4]
theorem OQ.eqS (hx : ev E x = some (Z l)) (hy : ev E y = some (Z r)) : OQ P n E C ⟨dst, .binOp .eql t x y t', ty, pos, aft, g⟩ (.bool (decide (l = r))) :=
  OQ.run fun a ha w _ => by
    have h1 := ha.eval hx
    have h2 := ha.eval hy
    simp [execOp, h1, h2, eqGuard, binOp, Op.stringOp, strB_eq]
theorem OQ.neS (hx : ev E x = some (Z l)) (hy : ev E y = some (Z r)) : OQ P n E C ⟨dst, .binOp .neq t x y t', ty, pos, aft, g⟩ (.bool (!decide (l = r))) :=
  OQ.run fun a ha w _ => by
    have h1 := ha.eval hx
    have h2 := ha.eval hy
    simp [execOp, h1, h2, eqGuard, binOp, Op.stringOp, strB_eq]
theorem OQ.eqS_t (hx : ev E x = some (Z l)) (hy : ev E y = some (Z r)) (h : l = r) : OQ P n E C ⟨dst, .binOp .eql t x y t', ty, pos, aft, g⟩ (.bool true) :=
  (decide_eq_true h : decide (l = r) = true) ▸ OQ.eqS hx hy
theorem OQ.eqS_f (hx : ev E x = some (Z l)) (hy : ev E y = some (Z r)) (h : ¬ l = r) : OQ P n E C ⟨dst, .binOp .eql t x y t', ty, pos, aft, g⟩ (.bool false) :=
  (decide_eq_false h : decide (l = r) = false) ▸ OQ.eqS hx hy
theorem OQ.addS (hx : ev E x = some (Z l)) (hy : ev E y = some (Z r)) (h : l.length + r.length < 9223372036854775808) : OQ P n E C ⟨dst, .binOp .add t x y t', ty, pos, aft, g⟩ (Z (l ++ r)) :=
  OQ.run fun a ha w _ => by
    have h1 := ha.eval hx
    have h2 := ha.eval hy
    have h3 : ¬ ((((strB l).size + (strB r).size : Nat) : Int) > IntKind.i64.max) := by
      rw [strB_size, strB_size, show IntKind.i64.max = 9223372036854775807 from rfl]
      omega
    have h4 : (Op.stringOp .add (strB l) (strB r)).run P w = .ok (Z (l ++ r)) w := by
      unfold Op.stringOp
      simp only
      rw [if_neg h3, strB_append]; rfl
    simp [execOp, h1, h2, eqGuard, binOp, h4, Sem.run_bind]
end
theorem push_all : ∀ (l : List Bt) (s : ByteArray), (l.map fun b => (b.toNat : Int)).foldl (fun r n => r.push (UInt8.ofNat n.toNat)) s = s ++ strB l
  | [], s => by
    apply ByteArray.ext
    rw [ByteArray.data_append]
    show s.data = s.data ++ #[]
    simp
  | b :: l, s => by
    rw [List.map_cons, List.foldl_cons, push_all l]
    apply ByteArray.ext
    rw [ByteArray.data_append, ByteArray.data_append, ByteArray.data_push]
    have e : UInt8.ofNat ((b.toNat : Int)).toNat = UInt8.ofBitVec b := by
      apply UInt8.toNat_inj.1
      simp
    rw [e]
    show s.data.push (UInt8.ofBitVec b) ++ (l.map UInt8.ofBitVec).toArray = s.data ++ ((b :: l).map UInt8.ofBitVec).toArray
    simp
theorem loadCells_reads {P : Program} {w : World} {ad : Addr} {cs : List Value} (h : Reads w (some ad) cs) : (loadCells ad cs.length).run P w = .ok cs.toArray w := by
  refine run_loadCells_list (P := P) w ad cs fun i v hv => ?_
  obtain ⟨b, j, h1, h2⟩ := h i v hv
  cases h1
  rw [add_off]; exact h2
section
variable {P : Program} {n : Nat} {E : Env} {w0 : World} {S : List Nat} {M : List Ent} {dst : Option Tmp} {ty t t' e : TypeId} {pos : String} {aft : Array Edge} {g : Option (Nat × Bool)} {x : Operand}
/-- string(b) -/
theorem OQ.b2s {s : Sl8} (hs : P.underlying t = some (.slice e)) (he : P.underlying e = some (.int .u8)) (hd : P.underlying t' = some .string) (hx : ev E x = some s.v) (hr : ∀ w, Holds w0 S M w → s.ok w) :
    OQ P n E (Holds w0 S M) ⟨dst, .convert t t' x, ty, pos, aft, g⟩ (Z s.l) :=
  OQ.run fun a ha w hw => by
    have h1 := ha.eval hx
    have ok := (hr w hw).reads
    have h2 : (convert t t' s.v).run P w = .ok (Z s.l) w := by
      obtain ⟨ad, cap, l⟩ := s
      show (convert t t' (.slice ad l.length cap)).run P w = _
      rw [run_convert_bytes_string w t t' e ad l.length cap hs he hd]
      cases ad with
      | none =>
        have : l = [] := by
          cases l with
          | nil => rfl
          | cons b l =>
            obtain ⟨_, _, h, _⟩ := ok 0 (U8 b) rfl
            cases h
        subst this
        rfl
      | some ad =>
        have h3 : (loadCells ad l.length).run P w = .ok ((l.map fun b => (b.toNat : Int)).map (Value.int .u8)).toArray w := by
          have := loadCells_reads (P := P) ok
          rw [List.length_map] at this
          rw [this, List.map_map]; rfl
        rw [run_bytesToString w ad l.length cap _ h3, push_all]
        have : ByteArray.empty ++ strB l = strB l := by
          apply ByteArray.ext
          rw [ByteArray.data_append]
          show #[] ++ (strB l).data = _
          simp
        rw [this]
    simp only [execOp, h1, Sem.run_bind, h2, Result.andThen_ok]; rfl
end
/-- x = append(x, v1, v2) -/
theorem JL.push2 {P : Program} {n : Nat} {w0 : World} {S : List Nat} {ops : Array Oper} {Q : Exit → Act → World → Prop} {l : List Oper} {E : Env} {M : List Ent} {t e ty ty' : TypeId} {x1 x2 y : Operand} {z v1 v2 : Value} {by' k cap b d1 d2 : Nat} {pos pos' : String} {aft aft' : Array Edge} {xs : List Value}
    (M' : Nat → Nat → List Ent) (hu : P.underlying t = some (.slice e)) (hi : EI P e z 1 by') (hz : z.cells.size = 1) (hx1 : ev E x1 = some v1) (hx2 : ev E x2 = some v2) (hv1 : v1.cells = #[v1]) (hv2 : v2.cells = #[v2]) (h1 : v1.oneCell' = true) (h2 : v2.oneCell' = true)
    (ha : ∀ bl, ev ((d1, .slice (some ⟨bl, 0, none⟩) 2 2) :: E) y = some (.slice (some ⟨b, 0, none⟩) k cap)) (hup : ∀ b' cap', Repl M b (Own e 1 k cap xs) b' (Own e 1 (k + 2) cap' (xs ++ [v1, v2])) (M' b' cap'))
    (hsm : (k + 2) * by' ≤ 140737488355328) (hsm2 : k + 2 < 9223372036854775808) (hd1 : Nat.blt d1 n = true) (hd2 : Nat.blt d2 n = true)
    (kk : ∀ bl b' cap', JL P n w0 S ops Q l ((d2, .slice (some ⟨b', 0, none⟩) (k + 2) cap') :: (d1, .slice (some ⟨bl, 0, none⟩) 2 2) :: E) (M' b' cap')) :
    JL P n w0 S ops Q (⟨some d1, .buildSlice t 2 #[(0, x1), (1, x2)], ty, pos, aft, none⟩ :: ⟨some d2, .call ⟨.builtin .append, #[y, .tmp d1], #[t, t]⟩, ty', pos', aft', none⟩ :: l) E M := by
  refine JL.litL (xs := [x1, x2]) (vs := [v1, v2]) hu hi hz rfl (by simp [evs, hx1, hx2]) (by simp [h1, h2]) (by simp [hv1, hv2]) rfl (by decide) (by decide) hd1 fun bl _ => ?_
  refine JL.append (cs := [v1, v2]) (m := 2) (ad := some ⟨bl, 0, none⟩) (sc := 2) (fun b' cap' => ⟨bl, Row e [v1, v2], true⟩ :: M' b' cap') hu hi (ha bl) (by simp [ev, lk]) (fun b' cap' => .there (hup b' cap')) rfl (fun w hw => ?_) (by simp [h1, h2]) hz (by decide) hsm hsm2 hd2 fun b' cap' => ?_
  · obtain ⟨o, ho, hA⟩ := hw.get (b := bl) (A := Row e [v1, v2]) (wr := true) .here
    exact Reads.block ho (Row.all _ hA)
  · exact ⟨fun a w ha hw => (kk bl b' cap').go a w ha (hw.weak (.drop _ _ _ (Less.refl _)))⟩
/-- an answer that is a slice of bytes -/
structure Ans (x : Sl8) (l : List Bt) : Prop where
  val : x.l = l
  none : x.ad = .none → x.l = []
theorem less_post (A M : List Ent) : Less M (A ++ M) := by
  induction A with
  | nil => exact Less.refl _
  | cons e A ih => exact .drop _ _ _ ih
theorem Ans.ok {x : Sl8} {l : List Bt} {w0 w : World} {S : List Nat} {M : List Ent} (h : Ans x l) (hw : Holds w0 S (x.ents ++ M) w) : x.ok w := Sl8.ents_ok hw h.none
theorem Ans.ok2 {x : Sl8} {l : List Bt} {w0 w : World} {S : List Nat} {A M : List Ent} (h : Ans x l) (hw : Holds w0 S (A ++ (x.ents ++ M)) w) : x.ok w := h.ok (hw.weak (less_post _ _))
theorem Ans.ok3 {x : Sl8} {l : List Bt} {w0 w : World} {S : List Nat} {A B M : List Ent} (h : Ans x l) (hw : Holds w0 S (A ++ (B ++ (x.ents ++ M))) w) : x.ok w := h.ok2 (hw.weak (less_post _ _))
theorem Ans.ok4 {x : Sl8} {l : List Bt} {w0 w : World} {S : List Nat} {A B D M : List Ent} (h : Ans x l) (hw : Holds w0 S (A ++ (B ++ (D ++ (x.ents ++ M)))) w) : x.ok w := h.ok3 (hw.weak (less_post _ _))
/-- an answer's length is within what it has room for -/
theorem JL.capf {P : Program} {n : Nat} {w0 : World} {S : List Nat} {ops : Array Oper} {Q : Exit → Act → World → Prop} {l : List Oper} {E : Env} {M : List Ent} {x : Sl8} {r : List Bt} (hx : Ans x r) (h : x.l.length ≤ x.cap → JL P n w0 S ops Q l E (x.ents ++ M)) : JL P n w0 S ops Q l E (x.ents ++ M) :=
  ⟨fun a w ha hw => (h (hx.ok hw).len).go a w ha hw⟩
theorem OQ.neI_t {P : Program} {n : Nat} {E : Env} {C : World → Prop} {dst : Option Tmp} {ty t t' : TypeId} {pos : String} {aft : Array Edge} {g : Option (Nat × Bool)} {x y : Operand} {k : IntKind} {a b : Int} (hx : ev E x = some (.int k a)) (hy : ev E y = some (.int k b)) (h : ¬ a = b) : OQ P n E C ⟨dst, .binOp .neq t x y t', ty, pos, aft, g⟩ (.bool true) := by
  have e : (!decide (a = b)) = true := by rw [decide_eq_false h]; rfl
  exact e ▸ OQ.nei hx hy
theorem by_ne {c d : Bt} (h : ¬ c = d) : ¬ (c.toNat : Int) = (d.toNat : Int) := fun e => h (BitVec.eq_of_toNat_eq (by omega))
end Go.Proofs.Ytopdkpeahhnihaa

/-
  Of no statement by itself: a call behind which the world that it left is the new beginning: what is known of that world stays a fact, as long as nothing of it is written; over X's partial knowledge, for any program P.
  Conditions: each rule's own hypotheses.
-/
namespace Go.Proofs.Ytopdkpeahhnihaa
open Sl
theorem Chg.over {w0 w1 w2 : World} {S : List Nat} (h1 : Ext w0 w1) (h2 : Chg S w1 w2) (hS : ∀ b ∈ S, w0.heap.size ≤ b) : Ext w0 w2 :=
  ⟨h2.os.trans h1.os, h2.tape.trans h1.tape, h2.output.trans h1.output, Nat.le_trans h1.size h2.size,
   fun k hk hk' => (h2.block k (Nat.lt_of_lt_of_le hk h1.size) (fun h => by have := hS k h; omega)).trans (h1.block k hk hk')⟩
theorem JL.callw {P : Program} {n : Nat} {w0 : World} {S S' : List Nat} {ops : Array Oper} {Q : Exit → Act → World → Prop} {l : List Oper} {E : Env} {M : List Ent} {d : Nat} {ty : TypeId} {pos : String} {aft : Array Edge} {ι : Type} (vf : ι → Value) (F : ι → World → Prop) (M' : List Ent)
    {f : FuncId} {xs : List Operand} {ats : Array TypeId} {vs : List Value} (hg : Goes P f) (hx : evs E xs = some vs) (hd : Nat.blt d n = true)
    (hc : ∀ w1, Holds w0 S M w1 → Calls P f vs.toArray w1 fun e w2 => ∃ i, e = .returned (vf i) ∧ Ext w1 w2 ∧ F i w2)
    (hM : Less M' M) (hS : ∀ e ∈ M', e.wr = true → e.b ∈ S')
    (k : ∀ i w1, Holds w0 S M w1 → F i w1 → JL P n w1 S' ops Q l ((d, vf i) :: E) M') : JL P n w0 S ops Q (⟨some d, .call ⟨.value (.func f), xs.toArray, ats⟩, ty, pos, aft, none⟩ :: l) E M :=
  ⟨fun a w ha hw => wpList_plain rfl fun K hK => by
    unfold Oper.wp
    rw [exec_call hg ha hx w]
    exact (hc w hw).mono fun e w' ⟨i, h1, h2, h3⟩ => by
      subst h1
      have hw' := hw.ext h2
      have hm := hw'.weak hM
      exact hK _ _ ((k i w' hw' h3).go _ _ (ha.put d _ hd) ⟨Chg.refl _ _, hm.nodup, fun e he => ⟨(hm.all e he).1, fun hr => .inl (hS e he hr)⟩⟩)⟩
/-- slices of slices of bytes -/
def flatE (rs : List Sl8) : List Ent := rs.flatMap Sl8.ents
theorem less_app {A B : List Ent} (C : List Ent) (h : Less A B) : Less A (C ++ B) := by
  induction C with
  | nil => exact h
  | cons e C ih => exact .drop _ _ _ ih
theorem less_mem {x : Sl8} : ∀ {rs : List Sl8}, x ∈ rs → Less x.ents (flatE rs)
  | y :: rs, h => by
    rcases List.mem_cons.1 h with rfl | h
    · exact less_pre _ _
    · exact less_app y.ents (less_mem h)
theorem flat_ok {rs : List Sl8} {w0 w : World} {S : List Nat} {A : List Ent} (hw : Holds w0 S (A ++ flatE rs) w) (h0 : ∀ x ∈ rs, x.ad = none → x.l = []) : ∀ x ∈ rs, x.ok w := fun x hx =>
  Sl8.ents_ok (M := []) (by rw [List.append_nil]; exact hw.weak (less_app A (less_mem hx))) (h0 x hx)
theorem less_app2 {B B' : List Ent} (h : Less B' B) : ∀ A : List Ent, Less (A ++ B') (A ++ B)
  | [] => h
  | ⟨_, _, _⟩ :: A => .keep _ _ _ _ _ _ (fun _ h => h) (less_app2 h A)
theorem JE.perm {n : Nat} {w0 : World} {S : List Nat} {Q : Exit → Act → World → Prop} {e : Exit} {E : Env} {M M' : List Ent} (hp : M.Perm M') (h : JE n w0 S Q e E M') : JE n w0 S Q e E M :=
  ⟨fun a w ha hw => h.go a w ha ⟨hw.chg, (hp.map Ent.b).nodup_iff.1 hw.nodup, fun e he => hw.all e (hp.mem_iff.2 he)⟩⟩
/-- a slice of slices of bytes -/
structure SlL where
  ad : Option Addr
  cap : Nat
  rs : List Sl8
def SlL.v (s : SlL) : Value := .slice s.ad s.rs.length s.cap
def SlL.ls (s : SlL) : List (List Bt) := s.rs.map Sl8.l
structure SlL.ok (w : World) (s : SlL) : Prop where
  len : s.rs.length ≤ s.cap
  reads : Reads w s.ad (s.rs.map Sl8.v)
  all : ∀ y ∈ s.rs, y.ok w
theorem ownL_ok {w0 w : World} {S : List Nat} {A : List Ent} {b cap : Nat} {e : TypeId} {rs : List Sl8} {wr : Bool} (hw : Holds w0 S (A ++ flatE rs) w) (hM : Has (A ++ flatE rs) b (Own e 1 rs.length cap (rs.map Sl8.v)) wr) (h0 : ∀ x ∈ rs, x.ad = none → x.l = []) : SlL.ok w ⟨some ⟨b, 0, none⟩, cap, rs⟩ := by
  obtain ⟨o, ho, hA⟩ := hw.get hM
  have hh := Own.cells _ hA
  obtain ⟨sp, rfl, h2, h3, h4⟩ := hA
  exact ⟨h4, Reads.block ho hh, flat_ok hw h0⟩
theorem own_less {e : TypeId} {k cap b : Nat} {l : List Bt} (h : l.length = k) : Less (Sl8.ents ⟨some ⟨b, 0, none⟩, cap, l⟩) [⟨b, Own e 1 k cap (l.map U8), true⟩] := by
  refine .keep _ _ _ _ _ _ (fun o ho => ?_) (.nil _)
  obtain ⟨sp, rfl, h1, h2, h3⟩ := ho
  refine ⟨⟨_, _, _, rfl, fun i hi => ?_⟩, ?_, rfl⟩
  · have hi : i < l.length := by simpa using hi
    simp [List.getElem?_append_left, hi]
  · show l.length ≤ cap
    omega
theorem flat_push {e : TypeId} {cap b : Nat} {l : List Bt} (rs : List Sl8) : Less (flatE (rs ++ [⟨some ⟨b, 0, none⟩, cap, l⟩])) (flatE rs ++ [⟨b, Own e 1 l.length cap (l.map U8), true⟩]) := by
  unfold flatE
  rw [List.flatMap_append]
  refine less_app2 ?_ _
  show Less (Sl8.ents _ ++ []) _
  rw [List.append_nil]
  exact own_less rfl
theorem perm3 (c a b : Ent) (F : List Ent) : (c :: ([a, b] ++ F)).Perm (c :: b :: (F ++ [a])) := .cons _ (List.perm_append_singleton a (b :: F)).symm
theorem Sl.Holds.base {w0 w1 w2 : World} {M : List Ent} (h1 : Ext w0 w1) (h : Holds w1 [] M w2) : Holds w0 [] M w2 :=
  ⟨Chg.over h1 h.chg (by simp), h.nodup, fun e he => ⟨(h.all e he).1, fun hr => .inr (((h.all e he).2 hr).elim (fun h => by simp at h) (fun h => Nat.le_trans h1.size h))⟩⟩
theorem JL.push3 {P : Program} {n : Nat} {w0 : World} {S : List Nat} {ops : Array Oper} {Q : Exit → Act → World → Prop} {l : List Oper} {E : Env} {M : List Ent} {t e ty ty' : TypeId} {x1 x2 x3 y : Operand} {z v1 v2 v3 : Value} {by' k cap b d1 d2 : Nat} {pos pos' : String} {aft aft' : Array Edge} {xs : List Value}
    (M' : Nat → Nat → List Ent) (hu : P.underlying t = some (.slice e)) (hi : EI P e z 1 by') (hz : z.cells.size = 1) (hx1 : ev E x1 = some v1) (hx2 : ev E x2 = some v2) (hx3 : ev E x3 = some v3) (hv1 : v1.cells = #[v1]) (hv2 : v2.cells = #[v2]) (hv3 : v3.cells = #[v3]) (h1 : v1.oneCell' = true) (h2 : v2.oneCell' = true) (h3 : v3.oneCell' = true)
    (ha : ∀ bl, ev ((d1, .slice (some ⟨bl, 0, none⟩) 3 3) :: E) y = some (.slice (some ⟨b, 0, none⟩) k cap)) (hup : ∀ b' cap', Repl M b (Own e 1 k cap xs) b' (Own e 1 (k + 3) cap' (xs ++ [v1, v2, v3])) (M' b' cap'))
    (hsm : (k + 3) * by' ≤ 140737488355328) (hsm2 : k + 3 < 9223372036854775808) (hd1 : Nat.blt d1 n = true) (hd2 : Nat.blt d2 n = true)
    (kk : ∀ bl b' cap', JL P n w0 S ops Q l ((d2, .slice (some ⟨b', 0, none⟩) (k + 3) cap') :: (d1, .slice (some ⟨bl, 0, none⟩) 3 3) :: E) (M' b' cap')) :
    JL P n w0 S ops Q (⟨some d1, .buildSlice t 3 #[(0, x1), (1, x2), (2, x3)], ty, pos, aft, none⟩ :: ⟨some d2, .call ⟨.builtin .append, #[y, .tmp d1], #[t, t]⟩, ty', pos', aft', none⟩ :: l) E M := by
  refine JL.litL (xs := [x1, x2, x3]) (vs := [v1, v2, v3]) hu hi hz rfl (by simp [evs, hx1, hx2, hx3]) (by simp [h1, h2, h3]) (by simp [hv1, hv2, hv3]) rfl (by decide) (by decide) hd1 fun bl _ => ?_
  refine JL.append (cs := [v1, v2, v3]) (m := 3) (ad := some ⟨bl, 0, none⟩) (sc := 3) (fun b' cap' => ⟨bl, Row e [v1, v2, v3], true⟩ :: M' b' cap') hu hi (ha bl) (by simp [ev, lk]) (fun b' cap' => .there (hup b' cap')) rfl (fun w hw => ?_) (by simp [h1, h2, h3]) hz (by decide) hsm hsm2 hd2 fun b' cap' => ?_
  · obtain ⟨o, ho, hA⟩ := hw.get (b := bl) (A := Row e [v1, v2, v3]) (wr := true) .here
    exact Reads.block ho (Row.all _ hA)
  · exact ⟨fun a w ha hw => (kk bl b' cap').go a w ha (hw.weak (.drop _ _ _ (Less.refl _)))⟩
theorem all8U (l : List Bt) : ∀ v ∈ l.map U8, v.oneCell' = true := by
  intro v hv
  obtain ⟨x, _, rfl⟩ := List.mem_map.1 hv
  rfl
theorem JE.ret3 {P : Program} {fn : Func} {R : Ending → World → Prop} {n : Nat} {w0 : World} {S : List Nat} {E : Env} {M : List Ent} {r1 r2 r3 : ResultVar} {v1 v2 v3 : Value} (hr : fn.results = #[r1, r2, r3]) (h1 : RV P n w0 S E M r1 v1) (h2 : RV P n w0 S E M r2 v2) (h3 : RV P n w0 S E M r3 v3) (hR : ∀ w, Holds w0 S M w → R (.returned (.tuple #[v1, v2, v3])) w) : JE n w0 S (bodyPost P fn R) .ret E M := by
  refine ⟨fun a w ha hw => ?_⟩
  refine ⟨ha.defers, .tuple #[v1, v2, v3], ?_, hR w hw⟩
  have e1 := h1 a w ha hw
  have e2 := h2 a w ha hw
  have e3 := h3 a w ha hw
  rw [results_eq, hr]
  simp [Sem.run_bind, e1, e2, e3]
theorem SlL.ok.holds {w0 w : World} {S : List Nat} {M : List Ent} {s : SlL} (h : s.ok w0) (hw : Holds w0 S M w) (hS : S = []) : s.ok w := ⟨h.len, hw.reads h.reads (fun _ a _ => by rw [hS]; simp), fun y hy => (h.all y hy).holds hw hS⟩
section
variable {P : Program} {n : Nat} {E : Env} {C : World → Prop} {dst : Option Tmp} {ty t t' : TypeId} {pos : String} {aft : Array Edge} {g : Option (Nat × Bool)} {x y : Operand}
theorem OQ.minI {a c : Int} (hx : ev E x = some (.int .i64 a)) (hy : ev E y = some (.int .i64 c)) : OQ P n E C ⟨dst, .call ⟨.builtin .min, #[x, y], #[t, t']⟩, ty, pos, aft, g⟩ (.int .i64 (min a c)) :=
  OQ.run fun ac ha w _ => by
    have h1 := ha.eval hx
    have h2 := ha.eval hy
    have h3 : (if c < a then c else a) = min a c := by split <;> omega
    simp [execOp, h1, h2, resolve, invoke, builtin, Builtin.min_, Builtin.min2, Sem.run_bind, h3]
theorem OQ.maxI {a c : Int} (hx : ev E x = some (.int .i64 a)) (hy : ev E y = some (.int .i64 c)) : OQ P n E C ⟨dst, .call ⟨.builtin .max, #[x, y], #[t, t']⟩, ty, pos, aft, g⟩ (.int .i64 (max a c)) :=
  OQ.run fun ac ha w _ => by
    have h1 := ha.eval hx
    have h2 := ha.eval hy
    have h3 : (if a < c then c else a) = max a c := by split <;> omega
    simp [execOp, h1, h2, resolve, invoke, builtin, Builtin.max_, Builtin.max2, Sem.run_bind, h3]
end
end Go.Proofs.Ytopdkpeahhnihaa

/-
  Of no statement by itself: append of a string's bytes onto a slice of the function's own; over X's partial knowledge, for any program P.
  Conditions: each rule's own hypotheses.
-/
namespace Go.Proofs.Ytopdkpeahhnihaa
namespace Sl
section
variable {P : Program} {t tx e : TypeId}
theorem byteCells_strB (l : List Bt) : Go.byteCells (strB l) = l.map U8 := by
  unfold Go.byteCells strB
  simp [U8, Function.comp_def]
theorem run_appendS_room (w : World) (ty : TypeId) (i : TypeInfo) (ht : P.underlying t = some (.slice e)) (hi : P.info? e = some i)
    (g sLen sCap : Nat) (x : Value) (m : Nat) (news : List Value) (hs : Src P i.size tx x m news w) (cur : Array Value) (hg : w.heap[g]? = some (.cells cur e (0, 0)))
    (hroom : sLen + m ≤ sCap) (hfit : sLen * i.size + news.length ≤ cur.size) :
    (Builtin.append_ #[t, tx] ty #[.slice (some ⟨g, 0, none⟩) sLen sCap, x]).run P w =
      .ok (.slice (some ⟨g, 0, none⟩) (sLen + m) sCap) (w.setRow g (cur.toList.take (sLen * i.size) ++ news ++ cur.toList.drop (sLen * i.size + news.length)).toArray) := by
  have hst := run_storeCells_at P g (sLen * i.size) e news 0 cur w hg (by simpa using hfit) hs.one
  simp only [Nat.add_zero] at hst
  rcases hs.kind with ⟨e', hk⟩ | hk <;> simp [Builtin.append_, run_underlying ht, run_underlying hk, sizeOf, typeInfo, hi, hs.len, hroom, hs.cells, Addr.add_lit] at hst ⊢ <;> simp [hst]
variable {n : Nat} {w0 : World} {S : List Nat} {ops : Array Oper} {Q : Exit → Act → World → Prop} {l : List Oper} {E : Env} {M : List Ent} {d b : Nat} {ty : TypeId} {pos : String} {aft : Array Edge} {x y : Operand}
theorem JL.appendS {k cap : Nat} {xs : List Value} {r : List Bt} (M' : Nat → Nat → List Ent) (hu : P.underlying t = some (.slice e)) (hk : P.underlying tx = some .string) (hi : EI P e (.int .u8 0) 1 1) (hx : ev E x = some (.slice (some ⟨b, 0, none⟩) k cap)) (hy : ev E y = some (Z r))
    (hup : ∀ b' cap', Repl M b (Own e 1 k cap xs) b' (Own e 1 (k + r.length) cap' (xs ++ r.map U8)) (M' b' cap'))
    (hsm : (k + r.length) ≤ 140737488355328) (hd : Nat.blt d n = true)
    (kk : ∀ b' cap', JL P n w0 S ops Q l ((d, .slice (some ⟨b', 0, none⟩) (k + r.length) cap') :: E) (M' b' cap')) : JL P n w0 S ops Q (⟨some d, .call ⟨.builtin .append, #[x, y], #[t, tx]⟩, ty, pos, aft, none⟩ :: l) E M :=
  ⟨fun a w ha hw => wpList_plain rfl fun K hK => by
    obtain ⟨i, hi1, hi2, hi3, hi4⟩ := hi.get
    obtain ⟨o, ho, sp, rfl, hc1, hc2, hc3⟩ := hw.get (hup 0 0).has
    have hsrc : Src P i.size tx (Z r) r.length (r.map U8) w := by
      have := Src.ofString (P := P) w hk (strB r)
      rw [byteCells_strB, strB_size] at this
      rw [hi3]; exact this
    unfold Oper.wp
    simp only [execOp, resolve, invoke, builtin, Sem.run_bind, Sem.run_pure, Result.andThen_ok, List.map_toArray, List.map_cons, List.map_nil, ha.eval hx, ha.eval hy]
    by_cases hroom : k + r.length ≤ cap
    · have hfit : k * i.size + (r.map U8).length ≤ (xs ++ sp).toArray.size := by
        rw [List.size_toArray, hc1, hi3, List.length_map]; omega
      rw [run_appendS_room w ty i hu hi1 b k cap (Z r) r.length (r.map U8) hsrc (xs ++ sp).toArray ho hroom hfit]
      refine hK _ _ ((kk b cap).go _ _ (ha.put d _ hd) (hw.write (hup b cap).upd (o' := .cells ((xs ++ sp).take (k * i.size) ++ r.map U8 ++ (xs ++ sp).drop (k * i.size + (r.map U8).length)).toArray e (0, 0)) ?_ (setRow_heap w b _ _ e _ ho) (by simp) (fun q hq => setRow_other w b q _ hq) rfl rfl rfl))
      rw [hi3, ← hc2, List.take_left]
      refine ⟨(xs ++ sp).drop (xs.length + (r.map U8).length), rfl, ?_, by rw [List.length_append, hc2, List.length_map, Nat.add_mul, Nat.mul_one r.length], hroom⟩
      simp only [List.size_toArray] at hfit
      simp only [List.length_append, List.length_drop, List.length_map] at hfit hc1 ⊢
      rw [hi3] at hfit
      omega
    · have hold : ∀ u v, xs[u]? = some v → w.cell? ((⟨b, 0, none⟩ : Addr).add u) = some v := fun u v hv => by
        rw [add_off]
        have hu' : u < xs.length := (List.getElem?_eq_some_iff.1 hv).1
        exact cell_of ho (by simpa [cellAt, List.getElem?_append_left hu'] using hv)
      have hfit := growslice_fits (need := k + r.length) (old := cap) (bytes := 1) (by omega) (by omega)
      have hfo := run_firstCells_some (P := P) w.drew i.size k ⟨b, 0, none⟩ k cap xs (by rw [hc2, hi3]) (by simpa using hold)
      rw [run_append_grow_src w t tx ty e i (.int .u8 0) hu hi1 hi2 (some ⟨b, 0, none⟩) k cap xs hfo (Z r) r.length (r.map U8) hsrc (by omega) (by omega) (by rw [hi4]; exact hfit)]
      have hge := grownCap_ge w (k + r.length) cap e
      generalize grownCap w (k + r.length) cap e = nc at hge
      refine hK _ _ ((kk w.heap.size nc).go _ _ (ha.put d _ hd) (hw.renew (.cells ((xs ++ r.map U8).toArray ++ Builtin.zeroCells (Value.int .u8 0).cells (nc - (k + r.length))) e) (hup _ _) ?_ rfl rfl rfl rfl))
      have h8 : (Builtin.zeroCells (Value.int .u8 0).cells (nc - (k + r.length))).size = (nc - (k + r.length)) := by
        rw [show (Value.int .u8 0).cells = #[Value.int .u8 0] from rfl]; simp [Builtin.zeroCells]
      refine ⟨(Builtin.zeroCells (Value.int .u8 0).cells (nc - (k + r.length))).toList, by simp, ?_, by rw [List.length_append, hc2, List.length_map, Nat.add_mul, Nat.mul_one r.length], hge⟩
      simp only [List.length_append, Array.length_toList, h8, hc2, List.length_map]
      omega⟩
end
end Sl
end Go.Proofs.Ytopdkpeahhnihaa

/-
  Of no statement by itself: comparisons whose answers were told apart ahead of the walk; and small rules; for any program P.
  Conditions: each rule's own hypotheses.
-/
namespace Go.Proofs.Ytopdkpeahhnihaa
namespace Sl
section
variable {P : Program} {n : Nat} {E : Env} {C : World → Prop} {dst : Option Tmp} {t t' ty : TypeId} {pos : String} {aft : Array Edge} {g : Option (Nat × Bool)} {x y : Operand} {c : Bool}
theorem OQ.lssB {k : IntKind} {a b : Int} (hx : ev E x = some (.int k a)) (hy : ev E y = some (.int k b)) (h : decide (a < b) = c) : OQ P n E C ⟨dst, .binOp .lss t x y t', ty, pos, aft, g⟩ (.bool c) := OQ.bin hx hy rfl fun _ => by cases k <;> exact okBool h
theorem OQ.leqB {k : IntKind} {a b : Int} (hx : ev E x = some (.int k a)) (hy : ev E y = some (.int k b)) (h : decide (a ≤ b) = c) : OQ P n E C ⟨dst, .binOp .leq t x y t', ty, pos, aft, g⟩ (.bool c) := OQ.bin hx hy rfl fun _ => by cases k <;> exact okBool h
theorem OQ.gtrB {k : IntKind} {a b : Int} (hx : ev E x = some (.int k a)) (hy : ev E y = some (.int k b)) (h : decide (b < a) = c) : OQ P n E C ⟨dst, .binOp .gtr t x y t', ty, pos, aft, g⟩ (.bool c) := OQ.bin hx hy rfl fun _ => by cases k <;> exact okBool h
theorem OQ.geqB {k : IntKind} {a b : Int} (hx : ev E x = some (.int k a)) (hy : ev E y = some (.int k b)) (h : decide (b ≤ a) = c) : OQ P n E C ⟨dst, .binOp .geq t x y t', ty, pos, aft, g⟩ (.bool c) := OQ.bin hx hy rfl fun _ => by cases k <;> exact okBool h
theorem OQ.eqB {k : IntKind} {a b : Int} (hx : ev E x = some (.int k a)) (hy : ev E y = some (.int k b)) (h : decide (a = b) = c) : OQ P n E C ⟨dst, .binOp .eql t x y t', ty, pos, aft, g⟩ (.bool c) := h ▸ OQ.eqi hx hy
theorem OQ.neB {k : IntKind} {a b : Int} (hx : ev E x = some (.int k a)) (hy : ev E y = some (.int k b)) (h : decide (a = b) = c) : OQ P n E C ⟨dst, .binOp .neq t x y t', ty, pos, aft, g⟩ (.bool (!c)) := by
  have := OQ.nei (P := P) (n := n) (C := C) (dst := dst) (ty := ty) (t := t) (t' := t') (pos := pos) (aft := aft) (g := g) hx hy
  rw [h] at this
  exact this
theorem OQ.ne8B {a b : BitVec 8} (hx : ev E x = some (U8 a)) (hy : ev E y = some (U8 b)) (h : decide (a = b) = c) : OQ P n E C ⟨dst, .binOp .neq t x y t', ty, pos, aft, g⟩ (.bool (!c)) := by
  have := OQ.ne8 (P := P) (n := n) (C := C) (dst := dst) (ty := ty) (t := t) (t' := t') (pos := pos) (aft := aft) (g := g) hx hy
  rw [h] at this
  exact this
theorem OQ.notB {b : Bool} (hx : ev E x = some (.bool b)) (h : (!b) = c) : OQ P n E C ⟨dst, .unOp .not t x, ty, pos, aft, g⟩ (.bool c) := h ▸ OQ.not hx
/-- a call whose answer was told apart -/
theorem OQ.callb {w0 : World} {S : List Nat} {M : List Ent} {f : FuncId} {xs : List Operand} {ats : Array TypeId} {vs : List Value} {b : Bool} (hg : Goes P f) (hx : evs E xs = some vs) (hc : ∀ w, Calls P f vs.toArray w fun e w' => e = .returned (.bool b) ∧ Ext w w') (h : b = c) :
    OQ P n E (Holds w0 S M) ⟨dst, .call ⟨.value (.func f), xs.toArray, ats⟩, ty, pos, aft, g⟩ (.bool c) := h ▸ OQ.callx hg hx fun w _ => hc w
end
theorem JC.joinB {P : Program} {n : Nat} {w0 : World} {S : List Nat} {Q Q' : Exit → Act → World → Prop} {E : Env} {M : List Ent} {ι : Type} {id : Nat} (Ei : ι → Env) (Mi : ι → List Ent) (I : ι → Prop) {p q : Code} (h : JC P n w0 S (Exit.inBlock id (Exit.then (fun a' w' => ∃ i, I i ∧ Knows n (Ei i) a' ∧ Holds w0 S (Mi i) w') Q)) p E M)
    (k : ∀ i, I i → JC P n w0 S Q' q (Ei i) (Mi i)) : JC P n w0 S (Exit.inBlock id (Exit.then (q.wp P Q') Q)) p E M :=
  ⟨fun a w ha hw => wp_mono (h.go a w ha hw) fun e a' w' he => by
    cases e with
    | normal => obtain ⟨i, hi, h1, h2⟩ := he; exact (k i hi).go a' w' h1 h2
    | exit id' =>
      by_cases hid : id' = id
      · subst hid
        have he : (if id' = id' then (Exit.then (fun a' w' => ∃ i, I i ∧ Knows n (Ei i) a' ∧ Holds w0 S (Mi i) w') Q) .normal a' w' else _) := he
        rw [if_pos rfl] at he
        obtain ⟨i, hi, h1, h2⟩ := he
        show (if id' = id' then _ else _)
        rw [if_pos rfl]
        exact (k i hi).go a' w' h1 h2
      · have he : (if id' = id then _ else (Exit.then _ Q) (.exit id') a' w') := he
        rw [if_neg hid] at he
        show (if id' = id then _ else _)
        rw [if_neg hid]
        exact he
    | goto _ => exact he
    | ret => exact he
    | panic _ => exact he
    | outgrown => exact he⟩
/-- what is known, to be read alone -/
def ro (M : List Ent) : List Ent := M.map fun e => ⟨e.b, e.A, false⟩
theorem ro_holds {w0 w : World} {S : List Nat} {M : List Ent} (h : Holds w0 S M w) : Holds w [] (ro M) w := by
  refine ⟨Chg.refl _ _, ?_, fun e he => ?_⟩
  · have e : (ro M).map Ent.b = M.map Ent.b := by simp [ro, Function.comp_def]
    rw [e]; exact h.nodup
  · obtain ⟨e', he', rfl⟩ := List.mem_map.1 he
    exact ⟨(h.all e' he').1, fun h => by cases h⟩
/-- a call behind which the world that it left is the new beginning; what is known is kept, to be read -/
theorem JL.callr {P : Program} {n : Nat} {w0 : World} {S : List Nat} {ops : Array Oper} {Q : Exit → Act → World → Prop} {l : List Oper} {E : Env} {M : List Ent} {d : Nat} {ty : TypeId} {pos : String} {aft : Array Edge} {ι : Type} (vf : ι → Value) (F : ι → World → Prop)
    {f : FuncId} {xs : List Operand} {ats : Array TypeId} {vs : List Value} (hg : Goes P f) (hx : evs E xs = some vs) (hd : Nat.blt d n = true)
    (hc : ∀ w1, Holds w0 S M w1 → Calls P f vs.toArray w1 fun e w2 => ∃ i, e = .returned (vf i) ∧ Ext w1 w2 ∧ F i w2)
    (k : ∀ i w1, Holds w0 S M w1 → F i w1 → JL P n w1 [] ops Q l ((d, vf i) :: E) (ro M)) : JL P n w0 S ops Q (⟨some d, .call ⟨.value (.func f), xs.toArray, ats⟩, ty, pos, aft, none⟩ :: l) E M :=
  ⟨fun a w ha hw => wpList_plain rfl fun K hK => by
    unfold Oper.wp
    rw [exec_call hg ha hx w]
    exact (hc w hw).mono fun e w' ⟨i, h1, h2, h3⟩ => by
      subst h1
      exact hK _ _ ((k i w' (hw.ext h2) h3).go _ _ (ha.put d _ hd) (ro_holds (hw.ext h2)))⟩
/-- all of the first ones, one more -/
theorem all_take {α : Type} (p : α → Bool) (l : List α) (d : α) {i : Nat} (h : i < l.length) : (l.take (i + 1)).all p = ((l.take i).all p && p (l.getD i d)) := by
  rw [List.take_add_one, List.getD_eq_getElem?_getD, List.getElem?_eq_getElem h, List.all_append]
  simp only [Option.toList_some, Option.getD_some, List.all_cons, List.all_nil, Bool.and_true]
theorem all_bad {α : Type} (p : α → Bool) (l : List α) (d : α) {i : Nat} (h : i < l.length) (hb : p (l.getD i d) = false) : l.all p = false := by
  rw [List.all_eq_false]
  refine ⟨l.getD i d, ?_, by rw [hb]; decide⟩
  rw [List.getD_eq_getElem?_getD, List.getElem?_eq_getElem h]
  exact List.getElem_mem h
end Sl
end Go.Proofs.Ytopdkpeahhnihaa

/-
  Of no statement by itself: a slice that begins as nil and is appended to; over X's partial knowledge, for any program P.
  Conditions: each rule's own hypotheses.
-/
namespace Go.Proofs.Ytopdkpeahhnihaa
open Sl
/-- nil, or a slice of the function's own -/
abbrev Acc := Option (Nat × Nat)
def accV (q : Acc) (k : Nat) : Value := match q with
  | none => .slice none 0 0
  | some p => .slice (some ⟨p.1, 0, none⟩) k p.2
def accE (e : TypeId) (q : Acc) (xs : List Value) : List Ent := match q with
  | none => []
  | some p => [⟨p.1, Sl.Own e 1 xs.length p.2 xs, true⟩]
def accS (q : Acc) (l : List Bt) : Sl8 := match q with
  | none => nilS
  | some p => ⟨some ⟨p.1, 0, none⟩, p.2, l⟩
theorem accS_v (q : Acc) (l : List Bt) : (accS q l).v = accV q l.length := by cases q <;> rfl
theorem accS_l {q : Acc} {l : List Bt} (h : q = none → l = []) : (accS q l).l = l := by
  cases q with
  | none => exact (h rfl).symm
  | some p => rfl
theorem accS_none {q : Acc} {l : List Bt} : (accS q l).ad = none → (accS q l).l = [] := by
  cases q with
  | none => intro _; rfl
  | some p => intro h; cases h
theorem accS_ents {e : TypeId} (q : Acc) (l : List Bt) : Less (accS q l).ents (accE e q (l.map U8)) := by
  cases q with
  | none => exact .nil _
  | some p =>
    show Less (Sl8.ents ⟨some ⟨p.1, 0, none⟩, p.2, l⟩) [⟨p.1, Sl.Own e 1 (l.map U8).length p.2 (l.map U8), true⟩]
    rw [List.length_map]
    exact own_less rfl
theorem acc_ok {w0 w : World} {S : List Nat} {M : List Ent} {e : TypeId} {q : Acc} {l : List Bt} (hw : Holds w0 S (accE e q (l.map U8) ++ M) w) : (accS q l).ok w := by
  cases q with
  | none => exact nilS_ok w
  | some p =>
    have hw : Holds w0 S (⟨p.1, Sl.Own e 1 (l.map U8).length p.2 (l.map U8), true⟩ :: M) w := hw
    rw [List.length_map] at hw
    exact ownb_ok hw .here
theorem accE_wr (e : TypeId) (q : Acc) (xs : List Value) : ∀ x ∈ accE e q xs, x.wr = true := by
  intro x hx
  cases q with
  | none => cases hx
  | some p => rw [List.mem_singleton.1 hx]
section
variable {P : Program} {n : Nat} {w0 : World} {S : List Nat} {ops : Array Oper} {Q : Exit → Act → World → Prop} {l : List Oper} {E : Env} {M : List Ent} {d : Nat} {t tx e ty : TypeId} {pos : String} {aft : Array Edge} {x y : Operand}
theorem JL.appendN0 {i : TypeInfo} {ad : Option Addr} {sc : Nat} (hu : P.underlying t = some (.slice e)) (hi : P.info? e = some i) (hx : ev E x = some (.slice none 0 0)) (hy : ev E y = some (.slice ad 0 sc)) (hd : Nat.blt d n = true)
    (kk : JL P n w0 S ops Q l ((d, .slice none 0 0) :: E) M) : JL P n w0 S ops Q (⟨some d, .call ⟨.builtin .append, #[x, y], #[t, t]⟩, ty, pos, aft, none⟩ :: l) E M :=
  ⟨fun a w ha hw => wpList_plain rfl fun K hK => by
    unfold Oper.wp
    simp only [execOp, resolve, invoke, builtin, Sem.run_bind, Sem.run_pure, Result.andThen_ok, List.map_toArray, List.map_cons, List.map_nil, ha.eval hx, ha.eval hy]
    rw [append_none (_t' := t) hu hi (Nat.le_refl 0)]
    exact hK _ _ (kk.go _ _ (ha.put d _ hd) hw)⟩
/-- append onto nil, or onto a slice of the function's own -/
theorem JL.appendQ {z : Value} {by' m sc : Nat} {ad : Option Addr} {xs cs : List Value} (q : Acc) (hu : P.underlying t = some (.slice e)) (hi : EI P e z 1 by') (hq : q = none → xs = []) (hx : ev E x = some (accV q xs.length)) (hy : ev E y = some (.slice ad m sc))
    (hl : cs.length = m) (hr : ∀ w, Holds w0 S (accE e q xs ++ M) w → Reads w ad cs) (h1 : ∀ v ∈ cs, v.oneCell' = true)
    (hzz : z.cells.size = 1) (hsm : (xs.length + m) * by' ≤ 140737488355328) (hsm2 : xs.length + m < 9223372036854775808) (hd : Nat.blt d n = true)
    (kk : ∀ q' : Acc, (q' = none → xs ++ cs = []) → JL P n w0 S ops Q l ((d, accV q' (xs ++ cs).length) :: E) (accE e q' (xs ++ cs) ++ M)) : JL P n w0 S ops Q (⟨some d, .call ⟨.builtin .append, #[x, y], #[t, t]⟩, ty, pos, aft, none⟩ :: l) E (accE e q xs ++ M) := by
  subst hl
  cases q with
  | none =>
    obtain rfl := hq rfl
    cases cs with
    | nil =>
      obtain ⟨i, hi1, _⟩ := hi.get
      exact JL.appendN0 hu hi1 hx hy hd (kk none fun _ => rfl)
    | cons c cs =>
      refine JL.append_nil (cs := c :: cs) hu hi hx hy (by rw [Nat.mul_one]) hr (by simp) hzz (by decide) (by simpa using hsm) (by simpa using hsm2) hd fun b' cap' _ => ?_
      exact kk (some (b', cap')) (fun h => by cases h)
  | some p =>
    have e1 : (xs ++ cs).length = xs.length + cs.length := List.length_append
    refine JL.append (cs := cs) (b := p.1) (cap := p.2) (xs := xs) (fun b' cap' => accE e (some (b', cap')) (xs ++ cs) ++ M) hu hi hx hy (fun b' cap' => ?_) (by rw [Nat.mul_one]) hr h1 hzz (by decide) hsm hsm2 hd fun b' cap' => ?_
    · show Repl (⟨p.1, Sl.Own e 1 xs.length p.2 xs, true⟩ :: M) _ _ _ _ (⟨b', Sl.Own e 1 (xs ++ cs).length cap' (xs ++ cs), true⟩ :: M)
      rw [e1]
      exact .here
    · have := kk (some (b', cap')) (fun h => by cases h)
      show JL P n w0 S ops Q l ((d, .slice (some ⟨b', 0, none⟩) (xs.length + cs.length) cap') :: E) _
      rw [← e1]
      exact this
/-- append of a string's bytes onto nil, or onto a slice of the function's own -/
theorem JL.appendZ {r : List Bt} {xs : List Value} (q : Acc) (hu : P.underlying t = some (.slice e)) (hk : P.underlying tx = some .string) (hi : EI P e (.int .u8 0) 1 1) (hq : q = none → xs = []) (hx : ev E x = some (accV q xs.length)) (hy : ev E y = some (Z r)) (h0 : r ≠ [])
    (hsm : (xs.length + r.length) ≤ 140737488355328) (hd : Nat.blt d n = true)
    (kk : ∀ p : Nat × Nat, JL P n w0 S ops Q l ((d, accV (some p) (xs ++ r.map U8).length) :: E) (accE e (some p) (xs ++ r.map U8) ++ M)) : JL P n w0 S ops Q (⟨some d, .call ⟨.builtin .append, #[x, y], #[t, tx]⟩, ty, pos, aft, none⟩ :: l) E (accE e q xs ++ M) := by
  cases q with
  | none =>
    obtain rfl := hq rfl
    refine ⟨fun a w ha hw => wpList_plain rfl fun K hK => ?_⟩
    obtain ⟨i, hi1, hi2, hi3, hi4⟩ := hi.get
    have hpos : 0 < r.length := List.length_pos_iff.2 h0
    have hsrc : Src P i.size tx (Z r) r.length (r.map U8) w := by
      have := Src.ofString (P := P) w hk (strB r)
      rw [byteCells_strB, strB_size] at this
      rw [hi3]; exact this
    simp only [List.length_nil, Nat.zero_add] at hsm
    have hx' : a.eval x = .slice none 0 0 := ha.eval hx
    unfold Oper.wp
    simp only [execOp, resolve, invoke, builtin, Sem.run_bind, Sem.run_pure, Result.andThen_ok, List.map_toArray, List.map_cons, List.map_nil, hx', ha.eval hy]
    have hfit := growslice_fits (need := r.length) (old := 0) (bytes := 1) (by omega) (by omega)
    have hfo : (Builtin.firstCells i.size 0 (.slice none 0 0)).run P w.drew = .ok ([] : List Value).toArray w.drew := by simp [Builtin.firstCells]
    have hrun := run_append_grow_src (P := P) w t tx ty e i (.int .u8 0) hu hi1 hi2 none 0 0 [] hfo (Z r) r.length (r.map U8) hsrc (by omega) (by omega) (by rw [hi4, Nat.zero_add]; exact hfit)
    rw [hrun]
    simp only [Nat.zero_add]
    have hge := grownCap_ge w r.length 0 e
    generalize grownCap w r.length 0 e = nc at hge
    refine hK _ _ ?_
    have k := kk (w.heap.size, nc)
    have e1 : ([] ++ r.map U8 : List Value).length = r.length := by simp
    refine JL.go (E := (d, accV (some (w.heap.size, nc)) r.length) :: E) ?_ _ _ (ha.put d _ hd) (Holds.push hw (.cells (([] ++ r.map U8 : List Value).toArray ++ Builtin.zeroCells (Value.int .u8 0).cells (nc - r.length)) e) (A := Sl.Own e 1 r.length nc (r.map U8)) ?_ ?_ rfl rfl rfl)
    · rw [e1] at k
      have k2 : accE e (some (w.heap.size, nc)) ([] ++ r.map U8) ++ M = ⟨w.heap.size, Sl.Own e 1 r.length nc (r.map U8), true⟩ :: M := by
        show ⟨w.heap.size, Sl.Own e 1 ([] ++ r.map U8 : List Value).length nc ([] ++ r.map U8), true⟩ :: M = _
        rw [e1, List.nil_append]
      rw [k2] at k
      exact k
    · have h8 : (Builtin.zeroCells (Value.int .u8 0).cells (nc - r.length)).size = nc - r.length := by
        rw [show (Value.int .u8 0).cells = #[Value.int .u8 0] from rfl]; simp [Builtin.zeroCells]
      refine ⟨(Builtin.zeroCells (Value.int .u8 0).cells (nc - r.length)).toList, by simp, ?_, by simp, hge⟩
      simp only [List.length_append, Array.length_toList, h8, List.length_map]
      omega
    · rfl
  | some p =>
    have e1 : (xs ++ r.map U8).length = xs.length + r.length := by simp
    refine JL.appendS (b := p.1) (cap := p.2) (k := xs.length) (xs := xs) (fun b' cap' => accE e (some (b', cap')) (xs ++ r.map U8) ++ M) hu hk hi hx hy (fun b' cap' => ?_) hsm hd fun b' cap' => ?_
    · show Repl (⟨p.1, Sl.Own e 1 xs.length p.2 xs, true⟩ :: M) _ _ _ _ (⟨b', Sl.Own e 1 (xs ++ r.map U8).length cap' (xs ++ r.map U8), true⟩ :: M)
      rw [e1]
      exact .here
    · have := kk (b', cap')
      rw [e1] at this
      exact this
end
/-- ways that meet again behind two pieces of code -/
theorem JC.mid2 {P : Program} {n : Nat} {w0 : World} {S : List Nat} {Q : Exit → Act → World → Prop} {E : Env} {M : List Ent} {ι : Type} (Ei : ι → Env) (Mi : ι → List Ent) (I : ι → Prop) {p q r : Code}
    (h : JC P n w0 S (Exit.then (q.wp P (Exit.then (fun a' w' => ∃ i, I i ∧ Knows n (Ei i) a' ∧ Holds w0 S (Mi i) w') Q)) (Exit.then (fun a' w' => ∃ i, I i ∧ Knows n (Ei i) a' ∧ Holds w0 S (Mi i) w') Q)) p E M)
    (k : ∀ i, I i → JC P n w0 S Q r (Ei i) (Mi i)) : JC P n w0 S Q (.seq p (.seq q r)) E M :=
  ⟨fun a w ha hw => wp_seq (wp_mono (h.go a w ha hw) fun e a' w' he => by
    cases e with
    | normal => exact wp_seq (wp_mono he fun e a' w' he => by
        cases e with
        | normal => obtain ⟨i, hi, h1, h2⟩ := he; exact (k i hi).go a' w' h1 h2
        | exit _ => exact he
        | goto _ => exact he
        | ret => exact he
        | panic _ => exact he
        | outgrown => exact he)
    | exit _ => exact he
    | goto _ => exact he
    | ret => exact he
    | panic _ => exact he
    | outgrown => exact he)⟩
end Go.Proofs.Ytopdkpeahhnihaa

/-
  Of no statement by itself: facts of the program's types that many texts use.
  Conditions: none.
-/
namespace Go.Proofs.Ytopdkpeahhnihaa
set_option maxRecDepth 10000
open Sl
theorem mixT : Try.prog.follows .mixedOrders = true := by kernel_rfl
theorem u8s : szT Try.prog 5 = some 1 := by kernel_rfl
theorem u8c : scal Try.prog 5 = true := by kernel_rfl
theorem u8e : EI Try.prog 5 (.int .u8 0) 1 1 := by unfold EI; kernel_rfl
end Go.Proofs.Ytopdkpeahhnihaa

/-
  Of no statement by itself: slices of pairs of strings (fields, parameters) as arguments and as answers.
  Conditions: each theorem's own.
-/
namespace Go.Proofs.Ytopdkpeahhnihaa
set_option maxRecDepth 10000
open Sl
abbrev Pr := List Bt × List Bt
def pc (p : Pr) : List Value := [Z p.1, Z p.2]
structure Sl2 where
  ad : Option Addr
  cap : Nat
  l : List Pr
def Sl2.cells (s : Sl2) : List Value := s.l.flatMap pc
def Sl2.v (s : Sl2) : Value := .slice s.ad s.l.length s.cap
structure Sl2.ok (w : World) (s : Sl2) : Prop where
  len : s.l.length ≤ s.cap
  reads : Reads w s.ad s.cells
theorem Sl2.ok.holds {w0 w : World} {S : List Nat} {M : List Ent} {s : Sl2} (h : s.ok w0) (hw : Holds w0 S M w) (hS : S = []) : s.ok w := ⟨h.len, hw.reads h.reads (fun _ a _ => by rw [hS]; simp)⟩
theorem Sl2.ok.ext {w w' : World} {s : Sl2} (h : s.ok w) (hx : Ext w w') : s.ok w' := h.holds (⟨hx, by simp, by simp⟩ : Holds w [] [] w') rfl
def nil2 : Sl2 := ⟨none, 0, []⟩
theorem nil2_ok (w : World) : nil2.ok w := ⟨by simp [nil2], Reads.nil _ _⟩
theorem pc_at : ∀ (l : List Pr) {i : Nat}, i < l.length → (l.flatMap pc)[2 * i]? = some (Z (l.getD i ([], [])).1) ∧ (l.flatMap pc)[2 * i + 1]? = some (Z (l.getD i ([], [])).2)
  | [], i, h => by simp at h
  | p :: l, 0, _ => ⟨rfl, rfl⟩
  | p :: l, i + 1, h => by
    have := pc_at l (i := i) (by simpa using h)
    simp only [List.flatMap_cons, List.getD_cons_succ]
    rw [show 2 * (i + 1) = 2 * i + 2 by omega]
    exact this
theorem pc_len (l : List Pr) : (l.flatMap pc).length = 2 * l.length := by
  induction l with
  | nil => rfl
  | cons p l ih => simp only [List.flatMap_cons, List.length_append, ih, List.length_cons]; show 2 + _ = _; omega
/-- where a pair stands -/
theorem Sl2.ok.at {w : World} {s : Sl2} (h : s.ok w) {i : Nat} (hi : i < s.l.length) : ∃ b j, s.ad = some ⟨b, j, none⟩ ∧ b < w.heap.size ∧ w.cell? ⟨b, j + i * 2, none⟩ = some (Z (s.l.getD i ([], [])).1) ∧ w.cell? ⟨b, j + i * 2 + 1, none⟩ = some (Z (s.l.getD i ([], [])).2) := by
  obtain ⟨h1, h2⟩ := pc_at s.l hi
  obtain ⟨b, j, e1, c1⟩ := h.reads _ _ h1
  obtain ⟨b', j', e2, c2⟩ := h.reads _ _ h2
  rw [e1] at e2
  cases e2
  exact ⟨b, j, e1, block_lt_of_cell c1, by rw [Nat.mul_comm]; exact c1, by rw [Nat.mul_comm, Nat.add_assoc]; exact c2⟩
theorem pair_cells {w : World} {b j : Nat} {p : Pr} (h1 : w.cell? ⟨b, j, none⟩ = some (Z p.1)) (h2 : w.cell? ⟨b, j + 1, none⟩ = some (Z p.2)) : ∀ i u, (pc p)[i]? = some u → w.cell? ⟨b, j + i, none⟩ = some u := by
  intro i u hu
  match i with
  | 0 => cases hu; exact h1
  | 1 => cases hu; exact h2
  | i + 2 => simp [pc] at hu
/-- equality of pairs -/
def EqP (P : Program) (t : TypeId) : Prop := P.eqGuardType P.depth t = false ∧ ∀ (p q : Pr) (w : World), (Op.equalIn 10000 t (.agg (pc p).toArray) (.agg (pc q).toArray)).run P w = .ok (decide (p = q)) w
def pairT (P : Program) (t str : TypeId) : Bool := match (P.fieldsOf t).toList with
  | [f0, f1] => f0.type == str && f1.type == str && f0.offset == 0 && f1.offset == 1 && f0.name != "_" && f1.name != "_"
  | _ => false
theorem eqP_of {P : Program} {t str : TypeId} (ht : P.underlying t = some (.struct (P.fieldsOf t))) (hp : P.stoodInHeld t = false) (hg : P.eqGuardType P.depth t = false) (hf : pairT P t str = true) (hs : P.underlying str = some .string) (hc : scal P str = true) : EqP P t := by
  obtain ⟨f0, f1, hf, h0, h1, o0, o1, b0, b1⟩ : ∃ f0 f1, (P.fieldsOf t).toList = [f0, f1] ∧ f0.type = str ∧ f1.type = str ∧ f0.offset = 0 ∧ f1.offset = 1 ∧ ¬ f0.name = "_" ∧ ¬ f1.name = "_" := by
    unfold pairT at hf
    split at hf
    · next f0 f1 e =>
      simp only [Bool.and_eq_true, beq_iff_eq, bne_iff_ne, ne_eq] at hf
      exact ⟨f0, f1, e, hf.1.1.1.1.1, hf.1.1.1.1.2, hf.1.1.1.2, hf.1.1.2, hf.1.2, hf.2⟩
    · cases hf
  refine ⟨hg, fun p q w => ?_⟩
  rw [run_equalIn_struct w 9999 t _ _ ht hp, hf]
  have e1 : ∀ (a b : List Bt) (w : World), (Op.equalIn 9999 str (.string (strB a)) (.string (strB b))).run P w = .ok (decide (a = b)) w := fun a b w => by
    rw [show (9999 : Nat) = 9998 + 1 from rfl, run_equalIn_string w 9998 str (strB a) (strB b) hs, strB_eq]
  have pa : ∀ (x y : Value) w, (part str #[x, y] 0).run P w = .ok x w := fun x y w => by simp [part, isAgg_scal hc]
  have pb : ∀ (x y : Value) w, (part str #[x, y] 1).run P w = .ok y w := fun x y w => by simp [part, isAgg_scal hc]
  simp only [Op.eqFields, h0, h1, o0, o1, b0, b1, ne_eq, not_false_eq_true, if_true, pc, Sem.run_bind, pa, pb, Result.andThen_ok, e1]
  by_cases c1 : p.1 = q.1 <;> by_cases c2 : p.2 = q.2 <;> simp [c1, c2, Prod.ext_iff, pb, e1]
section
variable {P : Program} {n : Nat} {E : Env} {C : World → Prop} {dst : Option Tmp} {t t' ty : TypeId} {pos : String} {aft : Array Edge} {g : Option (Nat × Bool)} {x y : Operand} {p q : Pr}
theorem OQ.eqP {c : Bool} (he : EqP P t) (hx : ev E x = some (.agg (pc p).toArray)) (hy : ev E y = some (.agg (pc q).toArray)) (h : decide (p = q) = c) : OQ P n E C ⟨dst, .binOp .eql t x y t', ty, pos, aft, g⟩ (.bool c) :=
  OQ.run fun a ha w _ => by
    have h1 := ha.eval hx
    have h2 := ha.eval hy
    have h4 := fun w => run_eqGuard_agg (P := P) (w := w) .eql t x y (pc p).toArray (pc q).toArray he.1
    have h5 := fun w => run_eql_struct (P := P) (w := w) t (pc p).toArray (pc q).toArray
    simp only [execOp, h1, h2, Sem.run_bind, h4, Result.andThen_ok, h5, he.2, h]
    rfl
theorem OQ.neP {c : Bool} (he : EqP P t) (hx : ev E x = some (.agg (pc p).toArray)) (hy : ev E y = some (.agg (pc q).toArray)) (h : decide (p = q) = c) : OQ P n E C ⟨dst, .binOp .neq t x y t', ty, pos, aft, g⟩ (.bool (!c)) :=
  OQ.run fun a ha w _ => by
    have h1 := ha.eval hx
    have h2 := ha.eval hy
    have h4 := fun w => run_eqGuard_agg (P := P) (w := w) .neq t x y (pc p).toArray (pc q).toArray he.1
    have h5 := fun w => run_neq_struct (P := P) (w := w) t (pc p).toArray (pc q).toArray
    simp only [execOp, h1, h2, Sem.run_bind, h4, Result.andThen_ok, h5, he.2, h]
    rfl
end
theorem strC : scal Try.prog 9 = true := by kernel_rfl
theorem strS : szT Try.prog 9 = some 1 := by kernel_rfl
theorem eq_take {l r : List Pr} {i : Nat} (hl : i < l.length) (hr : i < r.length) (h : l.take i = r.take i) (k : l.getD i ([], []) = r.getD i ([], [])) : l.take (i + 1) = r.take (i + 1) := by
  rw [List.take_add_one, List.take_add_one, h]
  rw [List.getD_eq_getElem?_getD, List.getD_eq_getElem?_getD, List.getElem?_eq_getElem hl, List.getElem?_eq_getElem hr] at k
  rw [List.getElem?_eq_getElem hl, List.getElem?_eq_getElem hr]
  simp only [Option.getD_some] at k
  rw [k]
def small2 (a : Sl2) : Prop := ∀ p ∈ a.l, p.1.length < 9223372036854775808 ∧ p.2.length < 9223372036854775808
theorem mem_getD {l : List Pr} {i : Nat} (h : i < l.length) : l.getD i ([], []) ∈ l := by
  rw [List.getD_eq_getElem?_getD, List.getElem?_eq_getElem h]
  exact List.getElem_mem h
end Go.Proofs.Ytopdkpeahhnihaa

/-
  Of no statement by itself: slices of strings as answers; a slice of pairs, a slice of strings out of an entry.
  Conditions: each theorem's own.
-/
namespace Go.Proofs.Ytopdkpeahhnihaa
set_option maxRecDepth 10000
open Sl
structure SlZ where
  ad : Option Addr
  cap : Nat
  l : List (List Bt)
def SlZ.cells (s : SlZ) : List Value := s.l.map Z
def SlZ.v (s : SlZ) : Value := .slice s.ad s.l.length s.cap
structure SlZ.ok (w : World) (s : SlZ) : Prop where
  len : s.l.length ≤ s.cap
  reads : Reads w s.ad s.cells
theorem SlZ.ok.holds {w0 w : World} {S : List Nat} {M : List Ent} {s : SlZ} (h : s.ok w0) (hw : Holds w0 S M w) (hS : S = []) : s.ok w := ⟨h.len, hw.reads h.reads (fun _ a _ => by rw [hS]; simp)⟩
theorem SlZ.ok.ext {w w' : World} {s : SlZ} (h : s.ok w) (hx : Ext w w') : s.ok w' := h.holds (⟨hx, by simp, by simp⟩ : Holds w [] [] w') rfl
def nilZ : SlZ := ⟨none, 0, []⟩
theorem nilZ_ok (w : World) : nilZ.ok w := ⟨by simp [nilZ], Reads.nil _ _⟩
theorem slZ_own {w0 w : World} {S : List Nat} {M : List Ent} {b k cap : Nat} {e : TypeId} {l : List (List Bt)} {wr : Bool} (hw : Holds w0 S M w) (hM : Has M b (Own e 1 k cap (l.map Z)) wr) (hk : l.length = k) : SlZ.ok w ⟨some ⟨b, 0, none⟩, cap, l⟩ := by
  obtain ⟨o, ho, hA⟩ := hw.get hM
  have hh := Own.cells _ hA
  obtain ⟨sp, rfl, h2, h3, h4⟩ := hA
  exact ⟨by show l.length ≤ cap; omega, Reads.block ho hh⟩
theorem strE : EI Try.prog 9 (Z []) 1 16 := by unfold EI; kernel_rfl
theorem sl2_own {w0 w : World} {S : List Nat} {M : List Ent} {b k cap : Nat} {e : TypeId} {l : List Pr} {wr : Bool} (hw : Holds w0 S M w) (hM : Has M b (Own e 2 k cap (l.flatMap pc)) wr) : Sl2.ok w ⟨some ⟨b, 0, none⟩, cap, l⟩ := by
  obtain ⟨o, ho, hA⟩ := hw.get hM
  have hh := Own.cells _ hA
  obtain ⟨sp, rfl, h2, h3, h4⟩ := hA
  rw [pc_len] at h3
  exact ⟨by show l.length ≤ cap; omega, Reads.block ho hh⟩
theorem SlZ.ok.at {w : World} {s : SlZ} (h : s.ok w) (h0 : 0 < s.l.length) : ∃ b j, s.ad = some ⟨b, j, none⟩ ∧ b < w.heap.size ∧ ∀ i, i < s.l.length → w.cell? ⟨b, j + i, none⟩ = some (Z (s.l.getD i [])) := by
  obtain ⟨b, j, h1, h2⟩ := h.reads.at (by simpa [SlZ.cells] using h0)
  have hc : ∀ i, i < s.l.length → w.cell? ⟨b, j + i, none⟩ = some (Z (s.l.getD i [])) := fun i hi => h2 i _ (map_at Z [] hi)
  exact ⟨b, j, h1, block_lt_of_cell (hc 0 h0), hc⟩
/-! ### as new memory -/
def Sl2.ents (s : Sl2) : List Ent := match s.ad with
  | some a => [⟨a.block, fun o => hasCells o a.off s.cells ∧ s.l.length ≤ s.cap ∧ a.spot = none, true⟩]
  | none => []
theorem Sl2.ents_ok {s : Sl2} {w0 w : World} {S : List Nat} {M : List Ent} (h : Holds w0 S (s.ents ++ M) w) (h0 : s.ad = none → s.l = []) : s.ok w := by
  obtain ⟨ad, cap, l⟩ := s
  cases ad with
  | none =>
    have : l = [] := h0 rfl
    subst this
    exact ⟨by simp, Reads.nil _ _⟩
  | some a =>
    obtain ⟨o, ho, h1, h2, h3⟩ := h.get (b := a.block) (A := fun o => hasCells o a.off (l.flatMap pc) ∧ l.length ≤ cap ∧ a.spot = none) (wr := true) .here
    obtain ⟨b, j, sp⟩ := a
    simp only at h3
    subst h3
    exact ⟨h2, Reads.block ho h1⟩
theorem Sl2.ents_wr (s : Sl2) : ∀ e ∈ s.ents, e.wr = true := by
  intro e he
  unfold Sl2.ents at he
  split at he
  · rw [List.mem_singleton.1 he]
  · cases he
def SlZ.ents (s : SlZ) : List Ent := match s.ad with
  | some a => [⟨a.block, fun o => hasCells o a.off s.cells ∧ s.l.length ≤ s.cap ∧ a.spot = none, true⟩]
  | none => []
theorem SlZ.ents_ok {s : SlZ} {w0 w : World} {S : List Nat} {M : List Ent} (h : Holds w0 S (s.ents ++ M) w) (h0 : s.ad = none → s.l = []) : s.ok w := by
  obtain ⟨ad, cap, l⟩ := s
  cases ad with
  | none =>
    have : l = [] := h0 rfl
    subst this
    exact ⟨by simp, Reads.nil _ _⟩
  | some a =>
    obtain ⟨o, ho, h1, h2, h3⟩ := h.get (b := a.block) (A := fun o => hasCells o a.off (l.map Z) ∧ l.length ≤ cap ∧ a.spot = none) (wr := true) .here
    obtain ⟨b, j, sp⟩ := a
    simp only at h3
    subst h3
    exact ⟨h2, Reads.block ho h1⟩
theorem SlZ.ents_wr (s : SlZ) : ∀ e ∈ s.ents, e.wr = true := by
  intro e he
  unfold SlZ.ents at he
  split at he
  · rw [List.mem_singleton.1 he]
  · cases he
theorem ownZ_ents {M : List Ent} {b cap : Nat} {e : TypeId} {o : List (List Bt)} : Less (SlZ.ents ⟨some ⟨b, 0, none⟩, cap, o⟩) (⟨b, Own e 1 o.length cap (o.map Z), true⟩ :: M) := by
  refine .keep _ _ _ _ _ _ (fun ob hA => ?_) (.nil _)
  have hh := Own.cells _ hA
  obtain ⟨sp, rfl, h2, h3, h4⟩ := hA
  exact ⟨hh, h4, rfl⟩
theorem own2_ents {M : List Ent} {b cap : Nat} {e : TypeId} {o : List Pr} : Less (Sl2.ents ⟨some ⟨b, 0, none⟩, cap, o⟩) (⟨b, Own e 2 o.length cap (o.flatMap pc), true⟩ :: M) := by
  refine .keep _ _ _ _ _ _ (fun ob hA => ?_) (.nil _)
  have hh := Own.cells _ hA
  obtain ⟨sp, rfl, h2, h3, h4⟩ := hA
  exact ⟨hh, h4, rfl⟩
/-- strings as an answer -/
structure Gz (A : List (List Bt)) where
  z : SlZ
  h : z.l = A
  n : z.ad = none → z.l = []
instance {A : List (List Bt)} : Inhabited (Gz A) := ⟨⟨⟨some ⟨0, 0, none⟩, 0, A⟩, rfl, nofun⟩⟩
/-- pairs as an answer -/
structure G2 (A : List Pr) where
  z : Sl2
  h : z.l = A
  n : z.ad = none → z.l = []
instance {A : List Pr} : Inhabited (G2 A) := ⟨⟨⟨some ⟨0, 0, none⟩, 0, A⟩, rfl, nofun⟩⟩
/-- what was made stands, and is written no more -/
def cold (M : List Ent) : List Ent := M.map fun e => ⟨e.b, e.A, false⟩
theorem Holds.cold {w0 w : World} {S : List Nat} {M : List Ent} (h : Holds w0 S M w) : Holds w [] (cold M) w := by
  refine ⟨Chg.refl _ _, ?_, fun e he => ?_⟩
  · rw [Proofs.Ytopdkpeahhnihaa.cold, List.map_map]
    exact h.nodup
  · obtain ⟨q, hq, rfl⟩ := List.mem_map.1 he
    exact ⟨(h.all q hq).1, nofun⟩
end Go.Proofs.Ytopdkpeahhnihaa

/-
  Of no statement by itself: append of one pair of texts, or of one text, that a literal holds, onto nil or onto a slice of the function's own.
  Conditions: each rule's own hypotheses.
-/
namespace Go.Proofs.Ytopdkpeahhnihaa
set_option maxRecDepth 10000
namespace Sl
theorem less_of_sub {N M : List Ent} (h : N.Sublist M) : Less N M := by
  induction h with
  | slnil => exact .nil _
  | cons a _ ih => exact .drop _ _ _ ih
  | cons_cons a _ ih => exact .keep _ _ _ _ _ _ (fun _ h => h) ih
section
variable {P : Program} {n : Nat} {w0 : World} {S : List Nat} {ops : Array Oper} {Q : Exit → Act → World → Prop} {l : List Oper} {E : Env} {M M' M0 : List Ent} {d : Nat} {t e ty : TypeId} {pos : String} {aft : Array Edge} {x y : Operand}
theorem Holds.perm' {w0 w : World} {S : List Nat} {M M' : List Ent} (hp : M.Perm M') (h : Holds w0 S M w) : Holds w0 S M' w :=
  h.sub ((hp.map Ent.b).nodup_iff.1 h.nodup) fun e he => hp.mem_iff.2 he
theorem JL.lessM (h : JL P n w0 S ops Q l E M') (hM : Less M' M) : JL P n w0 S ops Q l E M := ⟨fun a w ha hw => h.go a w ha (hw.weak hM)⟩
theorem JL.perm (h : JL P n w0 S ops Q l E M') (hp : M.Perm M') : JL P n w0 S ops Q l E M := ⟨fun a w ha hw => h.go a w ha (hw.perm' hp)⟩
theorem JC.lessM {c : Code} (h : JC P n w0 S Q c E M') (hM : Less M' M) : JC P n w0 S Q c E M := ⟨fun a w ha hw => h.go a w ha (hw.weak hM)⟩
def accP (e : TypeId) (q : Acc) (l : List Pr) : List Ent := match q with
  | none => []
  | some p => [⟨p.1, Sl.Own e 2 l.length p.2 (l.flatMap pc), true⟩]
def accLp (q : Acc) (l : List Pr) : Sl2 := match q with
  | none => nil2
  | some p => ⟨some ⟨p.1, 0, none⟩, p.2, l⟩
theorem accLp_v (q : Acc) (l : List Pr) : (accLp q l).v = accV q l.length := by cases q <;> rfl
theorem accLp_l {q : Acc} {l : List Pr} (h : q = none → l = []) : (accLp q l).l = l := by
  cases q with
  | none => rw [h rfl]; rfl
  | some p => rfl
theorem accLp_ok {w0 w : World} {S : List Nat} {M : List Ent} {e : TypeId} {q : Acc} {l : List Pr} (hw : Holds w0 S (accP e q l ++ M) w) : (accLp q l).ok w := by
  cases q with
  | none => exact nil2_ok w
  | some p => exact sl2_own hw .here
theorem pc_one {p : Pr} : ∀ v ∈ pc p, v.oneCell' = true := by
  intro v hv
  simp only [pc, List.mem_cons, List.not_mem_nil, or_false] at hv
  rcases hv with rfl | rfl <;> rfl
/-- one pair more -/
theorem JL.appendP {z : Value} {by' bl : Nat} {p : Pr} {L : List Pr} {ba : Ent} (q : Acc) (hu : P.underlying t = some (.slice e)) (hi : EI P e z 2 by') (hq : q = none → L = []) (hx : ev E x = some (accV q L.length)) (hy : ev E y = some (.slice (some ⟨bl, 0, none⟩) 1 1))
    (hzz : z.cells.size = 2) (hsm : (L.length + 1) * by' ≤ 140737488355328) (hsm2 : L.length + 1 < 9223372036854775808) (hd : Nat.blt d n = true)
    (kk : ∀ b' cap', JL P n w0 S ops Q l ((d, accV (some (b', cap')) (L ++ [p]).length) :: E) (accP e (some (b', cap')) (L ++ [p]) ++ M0)) :
    JL P n w0 S ops Q (⟨some d, .call ⟨.builtin .append, #[x, y], #[t, t]⟩, ty, pos, aft, none⟩ :: l) E (⟨bl, Row e (pc p), true⟩ :: ba :: (accP e q L ++ M0)) := by
  have hr : ∀ w, Holds w0 S (⟨bl, Row e (pc p), true⟩ :: ba :: (accP e q L ++ M0)) w → Reads w (some ⟨bl, 0, none⟩) (pc p) := fun w hw => by
    obtain ⟨o, ho, hA⟩ := hw.get (b := bl) (A := Row e (pc p)) (wr := true) .here
    exact Reads.block ho (Row.all _ hA)
  have eN : (L ++ [p]).length = L.length + 1 := List.length_append
  have eF : (L ++ [p]).flatMap pc = L.flatMap pc ++ pc p := by rw [List.flatMap_append]; simp
  cases q with
  | none =>
    obtain rfl := hq rfl
    refine JL.append_nil (cs := pc p) (m := 1) hu hi hx hy rfl hr (by decide) hzz (by decide) (by simpa using hsm) (by decide) hd fun b' cap' _ => ?_
    refine (kk b' cap').lessM ?_
    exact .keep _ _ _ _ _ _ (fun o h => h) (.drop _ _ _ (.drop _ _ _ (Less.refl _)))
  | some r =>
    refine JL.append (cs := pc p) (m := 1) (b := r.1) (cap := r.2) (k := L.length) (xs := L.flatMap pc) (fun b' cap' => ⟨bl, Row e (pc p), true⟩ :: ba :: (accP e (some (b', cap')) (L ++ [p]) ++ M0)) hu hi hx hy (fun b' cap' => ?_) rfl hr pc_one hzz (by decide) hsm hsm2 hd fun b' cap' => ?_
    · show Repl (_ :: ba :: ⟨r.1, Sl.Own e 2 L.length r.2 (L.flatMap pc), true⟩ :: M0) _ _ _ _ (_ :: ba :: ⟨b', Sl.Own e 2 (L ++ [p]).length cap' ((L ++ [p]).flatMap pc), true⟩ :: M0)
      rw [eN, eF]
      exact .there (.there .here)
    · have := kk b' cap'
      rw [show accV (some (b', cap')) (L ++ [p]).length = Value.slice (some ⟨b', 0, none⟩) (L.length + 1) cap' by rw [eN]; rfl] at this
      exact this.lessM (.drop _ _ _ (.drop _ _ _ (Less.refl _)))
/-- one text more -/
theorem JL.appendT {z : Value} {by' bl : Nat} {p : List Bt} {L : List (List Bt)} (q : Acc) (hu : P.underlying t = some (.slice e)) (hi : EI P e z 1 by') (hq : q = none → L = []) (hx : ev E x = some (accV q L.length)) (hy : ev E y = some (.slice (some ⟨bl, 0, none⟩) 1 1))
    (hzz : z.cells.size = 1) (hsm : (L.length + 1) * by' ≤ 140737488355328) (hsm2 : L.length + 1 < 9223372036854775808) (hd : Nat.blt d n = true)
    (kk : ∀ b' cap', JL P n w0 S ops Q l ((d, accV (some (b', cap')) (L ++ [p]).length) :: E) (accE e (some (b', cap')) ((L ++ [p]).map Z) ++ M0)) :
    JL P n w0 S ops Q (⟨some d, .call ⟨.builtin .append, #[x, y], #[t, t]⟩, ty, pos, aft, none⟩ :: l) E (⟨bl, Row e [Z p], true⟩ :: (accE e q (L.map Z) ++ M0)) := by
  have hr : ∀ w, Holds w0 S (⟨bl, Row e [Z p], true⟩ :: (accE e q (L.map Z) ++ M0)) w → Reads w (some ⟨bl, 0, none⟩) [Z p] := fun w hw => by
    obtain ⟨o, ho, hA⟩ := hw.get (b := bl) (A := Row e [Z p]) (wr := true) .here
    exact Reads.block ho (Row.all _ hA)
  have h1 : ∀ v ∈ [Z p], v.oneCell' = true := fun v hv => by rw [List.mem_singleton.1 hv]; rfl
  have eN : (L ++ [p]).length = L.length + 1 := List.length_append
  have eM : (L ++ [p]).map Z = L.map Z ++ [Z p] := by rw [List.map_append]; rfl
  have eL : ((L ++ [p]).map Z).length = L.length + 1 := by rw [List.length_map, eN]
  cases q with
  | none =>
    obtain rfl := hq rfl
    refine JL.append_nil (cs := [Z p]) (m := 1) hu hi hx hy rfl hr (by decide) hzz (by decide) (by simpa using hsm) (by decide) hd fun b' cap' _ => ?_
    exact (kk b' cap').lessM (.keep _ _ _ _ _ _ (fun o h => h) (.drop _ _ _ (Less.refl _)))
  | some r =>
    refine JL.append (cs := [Z p]) (m := 1) (b := r.1) (cap := r.2) (k := L.length) (xs := L.map Z) (fun b' cap' => ⟨bl, Row e [Z p], true⟩ :: (accE e (some (b', cap')) ((L ++ [p]).map Z) ++ M0)) hu hi hx hy (fun b' cap' => ?_) rfl hr h1 hzz (by decide) hsm hsm2 hd fun b' cap' => ?_
    · show Repl (_ :: ⟨r.1, Sl.Own e 1 (L.map Z).length r.2 (L.map Z), true⟩ :: M0) _ _ _ _ (_ :: ⟨b', Sl.Own e 1 ((L ++ [p]).map Z).length cap' ((L ++ [p]).map Z), true⟩ :: M0)
      rw [eL, eM, List.length_map]
      exact .there .here
    · have := kk b' cap'
      rw [show accV (some (b', cap')) (L ++ [p]).length = Value.slice (some ⟨b', 0, none⟩) (L.length + 1) cap' by rw [eN]; rfl] at this
      exact this.lessM (.drop _ _ _ (Less.refl _))
end
end Sl
end Go.Proofs.Ytopdkpeahhnihaa

/-
  Of no statement by itself: parts of strings (x[i:], x[:j], x[i:j]); for any program P.
  Conditions: each rule's own hypotheses.
-/
namespace Go.Proofs.Ytopdkpeahhnihaa
namespace Sl
theorem strB_extract (l : List Bt) (i j : Nat) : (strB l).extract i j = strB ((l.take j).drop i) := by
  apply ByteArray.ext
  rw [ByteArray.data_extract]
  show (l.map UInt8.ofBitVec).toArray.extract i j = (((l.take j).drop i).map UInt8.ofBitVec).toArray
  rw [List.extract_toArray, List.extract_eq_drop_take', List.map_drop, List.map_take]
section
variable {P : Program} {n : Nat} {E : Env} {C : World → Prop} {dst : Option Tmp} {t ty : TypeId} {pos : String} {aft : Array Edge} {g : Option (Nat × Bool)} {x y z : Operand} {l : List Bt}
theorem OQ.subS_lo {i : Nat} (hu : P.underlying t = some .string) (hx : ev E x = some (Z l)) (hy : ev E y = some (N i)) (h : i ≤ l.length) : OQ P n E C ⟨dst, .slice t x (some y) none none, ty, pos, aft, g⟩ (Z (l.drop i)) :=
  OQ.run fun a ha w _ => by
    have h1 := ha.eval hx
    have h2 := ha.eval hy
    have h3 : (underlying t).run P w = .ok .string w := run_underlying hu w
    have h4 := run_slice_string_l w t (strB l) hu .i64 (i : Int) (by omega) (by rw [strB_size]; omega)
    rw [strB_size, strB_extract, List.take_length, Int.toNat_natCast] at h4
    simp [execOp, h1, h2, Instr.sliceAt, Sem.run_bind, h3, h4]
theorem OQ.subS_hi {j : Nat} (hu : P.underlying t = some .string) (hx : ev E x = some (Z l)) (hy : ev E y = some (N j)) (h : j ≤ l.length) : OQ P n E C ⟨dst, .slice t x none (some y) none, ty, pos, aft, g⟩ (Z (l.take j)) :=
  OQ.run fun a ha w _ => by
    have h1 := ha.eval hx
    have h2 := ha.eval hy
    have h3 : (underlying t).run P w = .ok .string w := run_underlying hu w
    have h4 := run_slice_string_h w t (strB l) hu .i64 (j : Int) (by omega) (by rw [strB_size]; omega)
    rw [strB_extract, List.drop_zero, Int.toNat_natCast] at h4
    simp [execOp, h1, h2, Instr.sliceAt, Sem.run_bind, h3, h4]
theorem OQ.subS {i j : Nat} (hu : P.underlying t = some .string) (hx : ev E x = some (Z l)) (hy : ev E y = some (N i)) (hz : ev E z = some (N j)) (h : i ≤ j) (h' : j ≤ l.length) : OQ P n E C ⟨dst, .slice t x (some y) (some z) none, ty, pos, aft, g⟩ (Z ((l.take j).drop i)) :=
  OQ.run fun a ha w _ => by
    have h1 := ha.eval hx
    have h2 := ha.eval hy
    have h5 := ha.eval hz
    have h3 : (underlying t).run P w = .ok .string w := run_underlying hu w
    have h4 := run_slice_string w t (strB l) .i64 .i64 (i : Int) (j : Int) hu (by omega) (by omega) (by rw [strB_size]; omega)
    rw [strB_extract, Int.toNat_natCast, Int.toNat_natCast] at h4
    simp [execOp, h1, h2, h5, Instr.sliceAt, Sem.run_bind, h3, h4]
end
end Sl
end Go.Proofs.Ytopdkpeahhnihaa

/-
  Of no statement by itself: rules for function values of one byte, and for labels that are jumped to, over partial knowledge of frame and memory, for any program P.
  Conditions: each rule's own hypotheses.
-/
namespace Go.Proofs.Ytopdkpeahhnihaa
set_option maxRecDepth 10000
namespace Sl
/-- a function value of a byte: it answers p, and keeps all blocks -/
def Fun8 (P : Program) (w0 : World) (fv : Value) (p : Bt → Bool) : Prop :=
  ∃ (f : FuncId) (caps : List Value), fv = .func (.func f) #[] caps.toArray ∧ Goes P f ∧ ∀ (c : Bt) (w : World), Ext w0 w → Calls P f (U8 c :: caps).toArray w fun e w' => e = .returned (.bool (p c)) ∧ Ext w w'
theorem Fun8.ext {P : Program} {w0 w1 : World} {fv : Value} {p : Bt → Bool} (h : Fun8 P w0 fv p) (hx : Ext w0 w1) : Fun8 P w1 fv p := by
  obtain ⟨f, caps, h1, h2, h3⟩ := h
  exact ⟨f, caps, h1, h2, fun c w hw => h3 c w (hx.trans hw)⟩
theorem Fun8.holds {P : Program} {w0 w1 : World} {M : List Ent} {fv : Value} {p : Bt → Bool} (h : Fun8 P w0 fv p) (hw : Holds w0 [] M w1) : Fun8 P w1 fv p := h.ext hw.chg
section
variable {P : Program} {n : Nat} {w0 : World} {S : List Nat} {Q Q' : Exit → Act → World → Prop} {E E' : Env} {M M' : List Ent}
variable {dst : Option Tmp} {ty : TypeId} {pos : String} {aft : Array Edge} {g : Option (Nat × Bool)} {x y : Operand} {ats : Array TypeId}
theorem exec_callv {f : FuncId} {caps : List Value} {xs : List Operand} {vs : List Value} {a : Act} (hg : Goes P f) (hk : Knows n E a) (hf : ev E x = some (.func (.func f) #[] caps.toArray)) (hx : evs E xs = some vs) (w : World) :
    (execOp a.eval ⟨dst, .call ⟨.value x, xs.toArray, ats⟩, ty, pos, aft, g⟩).run P w = .ok (.enter f (vs ++ caps).toArray) w := by
  obtain ⟨fn, h1, h2, h3⟩ := hg
  have hm : xs.toArray.map a.eval = vs.toArray := by simp [evs_map hk hx]
  have h2' : ¬ fn.body = none := fun h => by rw [h] at h2; cases h2
  have h3' : ¬ fn.name = "runtime.NumGoroutine" := by simpa using h3
  have hf' := hk.eval hf
  simp [execOp, resolve, Sem.run_bind, hm, hf', Deferred.ofValue, invoke, callFunc, program, Sem.run, h1, h2', h3']
/-- a call of such a function value -/
theorem OQ.callF {fv : Value} {p : Bt → Bool} {c : Bt} {b : Bool} (hF : Fun8 P w0 fv p) (hx : ev E x = some fv) (hy : ev E y = some (U8 c)) (h : p c = b) : OQ P n E (Holds w0 [] M) ⟨dst, .call ⟨.value x, #[y], ats⟩, ty, pos, aft, g⟩ (.bool b) := by
  obtain ⟨f, caps, h1, h2, h3⟩ := hF
  subst h1
  refine ⟨fun a hk w hw => ?_⟩
  have hy' : evs E [y] = some [U8 c] := by simp [evs, hy]
  unfold Oper.quietAt
  rw [show (#[y] : Array Operand) = [y].toArray from rfl, exec_callv (xs := [y]) h2 hk hx hy' w]
  refine ⟨rfl, (h3 c w hw.chg).mono fun e w' ⟨k1, k2⟩ => ⟨?_, hw.ext k2⟩⟩
  rw [k1, h]
theorem OQ.mkF {f : FuncId} {xs : Array Operand} {caps : List Value} (hx : evs E xs.toList = some caps) : OQ P n E (Holds w0 S M) ⟨dst, .makeFunc (.func f) #[] xs, ty, pos, aft, g⟩ (.func (.func f) #[] caps.toArray) := by
  refine OQ.run fun a hk w _ => ?_
  have hm : xs.map a.eval = caps.toArray := by
    have h1 := evs_map hk hx
    rw [← h1]
    apply Array.ext'
    simp
  simp [execOp, Instr.makeFunc, Sem.run_bind, hm]
theorem JC.mono {c : Code} (h : JC P n w0 S Q c E M) (hq : ∀ e a w, Q e a w → Q' e a w) : JC P n w0 S Q' c E M :=
  ⟨fun a w ha hw b k cs => let ⟨e, a', w', h1, h2⟩ := h.go a w ha hw b k cs; ⟨e, a', w', hq e a' w' h1, h2⟩⟩
theorem OQ.neSB {C : World → Prop} {t t' : TypeId} {l r : List Bt} {c : Bool} (hx : ev E x = some (Z l)) (hy : ev E y = some (Z r)) (h : decide (l = r) = c) : OQ P n E C ⟨dst, .binOp .neq t x y t', ty, pos, aft, g⟩ (.bool (!c)) := h ▸ OQ.neS hx hy
theorem OQ.eqSB {C : World → Prop} {t t' : TypeId} {l r : List Bt} {c : Bool} (hx : ev E x = some (Z l)) (hy : ev E y = some (Z r)) (h : decide (l = r) = c) : OQ P n E C ⟨dst, .binOp .eql t x y t', ty, pos, aft, g⟩ (.bool c) := h ▸ OQ.eqS hx hy
/-! ### a label that is jumped to -/
abbrev Jmp (n : Nat) (w0 : World) (S : List Nat) {ι : Type} (Ei : ι → Env) (Mi : ι → List Ent) (p : ι → Prop) : Act → World → Prop := fun a w => ∃ j, p j ∧ Knows n (Ei j) a ∧ Holds w0 S (Mi j) w
theorem JC.scope {ι : Type} (l : Nat) (Ei : ι → Env) (Mi : ι → List Ent) (μ : ι → Nat) (I : ι → Prop) {c rest : Code} (hf : findLabel c l = some rest)
    (first : JC P n w0 S (Exit.jump l (Jmp n w0 S Ei Mi I) Q) c E M)
    (pass : ∀ i, I i → JC P n w0 S (Exit.jump l (Jmp n w0 S Ei Mi fun j => I j ∧ μ j < μ i) Q) rest (Ei i) (Mi i)) : JC P n w0 S Q (.scope c) E M := by
  refine ⟨fun a0 w0' ha0 hw0 b k cs => ?_⟩
  have hg : gotoIn l (.inScope c :: k) = some (.code rest :: .inScope c :: k) := by simp [gotoIn, hf]
  have key : ∀ m i, μ i = m → I i → ∀ a w, Knows n (Ei i) a → Holds w0 S (Mi i) w → ∃ e a' w', Q e a' w' ∧ Arrives P (lone (b.at a (.code rest :: .inScope c :: k)) cs w) b k cs e a' w' := by
    intro m
    induction m using Nat.strongRecOn with
    | _ m ih =>
      intro i hm hI a w ha hw
      obtain ⟨e, a₁, w₁, hq, harr⟩ := (pass i hI).go a w ha hw b (.inScope c :: k) cs
      cases e with
      | normal => exact ⟨.normal, a₁, w₁, hq, Steps.trans harr (.one step_inScope)⟩
      | exit id => exact ⟨.exit id, a₁, w₁, hq, fun k' hk => harr k' (by simp [exitTo, hk])⟩
      | goto l' =>
        obtain ⟨rfl, j, ⟨hJ, hlt⟩, ha₁, hw₁⟩ := hq
        obtain ⟨e₂, a₂, w₂, hq₂, harr₂⟩ := ih (μ j) (by omega) j rfl hJ a₁ w₁ ha₁ hw₁
        exact ⟨e₂, a₂, w₂, hq₂, .of_steps (harr _ hg) harr₂⟩
      | ret => exact ⟨_, a₁, w₁, hq, harr⟩
      | panic ch => exact ⟨_, a₁, w₁, hq, harr⟩
      | outgrown => exact ⟨_, a₁, w₁, hq, harr⟩
  obtain ⟨e, a₁, w₁, hq, harr⟩ := first.go a0 w0' ha0 hw0 b (.inScope c :: k) cs
  cases e with
  | normal => exact ⟨.normal, a₁, w₁, hq, .head step_scope (Steps.trans harr (.one step_inScope))⟩
  | exit id => exact ⟨.exit id, a₁, w₁, hq, fun k' hk => .head step_scope (harr k' (by simp [exitTo, hk]))⟩
  | goto l' =>
    obtain ⟨rfl, j, hJ, ha₁, hw₁⟩ := hq
    obtain ⟨e₂, a₂, w₂, hq₂, harr₂⟩ := key _ j rfl hJ a₁ w₁ ha₁ hw₁
    exact ⟨e₂, a₂, w₂, hq₂, .of_steps (.head step_scope (harr _ hg)) harr₂⟩
  | ret => exact ⟨_, a₁, w₁, hq, .of_steps (.one step_scope) harr⟩
  | panic ch => exact ⟨_, a₁, w₁, hq, .of_steps (.one step_scope) harr⟩
  | outgrown => exact ⟨_, a₁, w₁, hq, .of_steps (.one step_scope) harr⟩
/-- what the passes give serves the way to the label too -/
theorem JC.land {ι : Type} {l : Nat} {Ei : ι → Env} {Mi : ι → List Ent} {I : ι → Prop} {rest : Code} {p : ι → Prop} (h : JC P n w0 S (Exit.jump l (Jmp n w0 S Ei Mi p) Q) rest E' M') (hp : ∀ j, p j → I j) (hE : SubE E E') (hM : Less M' M) :
    JC P n w0 S (Exit.jump l (Jmp n w0 S Ei Mi I) Q) rest E M :=
  (h.mono fun e a w hq => by
    cases e with
    | goto l' => exact ⟨hq.1, let ⟨j, h1, h2⟩ := hq.2; ⟨j, hp j h1, h2⟩⟩
    | _ => exact hq).weak hE hM
theorem JC.goto {l : Nat} (h : JE n w0 S Q (.goto l) E M) : JC P n w0 S Q (.goto l) E M := ⟨fun a w ha hw => wp_goto (h.go a w ha hw)⟩
theorem JE.jump_to {ι : Type} {l : Nat} {Ei : ι → Env} {Mi : ι → List Ent} {p : ι → Prop} (j : ι) (hp : p j) (hE : SubE E (Ei j)) (hM : Less (Mi j) M) : JE n w0 S (Exit.jump l (Jmp n w0 S Ei Mi p) Q) (.goto l) E M :=
  ⟨fun _ _ ha hw => ⟨rfl, j, hp, ha.sub hE, hw.weak hM⟩⟩
theorem JE.jump_ret {l : Nat} {J : Act → World → Prop} (h : JE n w0 S Q .ret E M) : JE n w0 S (Exit.jump l J Q) .ret E M := ⟨h.go⟩
theorem JE.jump_normal {l : Nat} {J : Act → World → Prop} (h : JE n w0 S Q .normal E M) : JE n w0 S (Exit.jump l J Q) .normal E M := ⟨h.go⟩
theorem JE.then_goto {K : Act → World → Prop} {l : Nat} (h : JE n w0 S Q (.goto l) E M) : JE n w0 S (Exit.then K Q) (.goto l) E M := ⟨h.go⟩
theorem JE.blk_goto {id l : Nat} (h : JE n w0 S Q (.goto l) E M) : JE n w0 S (Exit.inBlock id Q) (.goto l) E M := ⟨h.go⟩
end
end Sl
end Go.Proofs.Ytopdkpeahhnihaa

/-
  Of no statement by itself: rules for writes into a slice of the function's own (stores of whole elements, copy, clear), for calls that write what came in, for function values of a pair, and for slices.overlaps; over partial knowledge, for any program P.
  Conditions: each rule's own hypotheses.
-/
namespace Go.Proofs.Ytopdkpeahhnihaa
set_option maxRecDepth 10000
namespace Sl
section
variable {w0 w w' : World} {S : List Nat} {X Y M M0 : List Ent}
theorem less_two {A B C D : List Ent} (h : Less A B) (k : Less C D) : Less (A ++ C) (B ++ D) := by
  induction h with
  | nil N =>
    induction N with
    | nil => exact k
    | cons e N ih => exact .drop _ _ _ ih
  | keep b A A' wr N N' h _ ih => exact .keep b A A' wr _ _ h ih
  | drop e N N' _ ih => exact .drop e _ _ ih
def keys (X : List Ent) : List Nat := X.map Ent.b
/-- what came in writable is one's own from here on, all else is read -/
theorem Holds.own (h : Holds w0 S (X ++ M0) w) : Holds w (keys X) (X ++ cold M0) w := by
  refine ⟨Chg.refl _ _, ?_, fun e he => ?_⟩
  · have : (X ++ cold M0).map Ent.b = (X ++ M0).map Ent.b := by simp [cold, Function.comp_def]
    rw [this]; exact h.nodup
  · rcases List.mem_append.1 he with he | he
    · exact ⟨(h.all e (List.mem_append_left _ he)).1, fun _ => .inl (List.mem_map_of_mem he)⟩
    · obtain ⟨q, hq, rfl⟩ := List.mem_map.1 he
      exact ⟨(h.all q (List.mem_append_right _ hq)).1, nofun⟩
theorem Holds.swapW (h : Holds w0 S (X ++ M0) w) (h2 : Holds w (keys X) Y w') (hX : ∀ e ∈ X, e.wr = true) (hY : ∀ e ∈ Y, e.wr = true) : Holds w0 S (Y ++ M0) w' := by
  have hs : ∀ k ∈ keys X, k ∈ S ∨ w0.heap.size ≤ k := fun k hk => by
    obtain ⟨e, he, rfl⟩ := List.mem_map.1 hk
    exact (h.all e (List.mem_append_left _ he)).2 (hX e he)
  have hnd := h.nodup
  rw [List.map_append, List.nodup_append] at hnd
  refine ⟨⟨h2.chg.os.trans h.chg.os, h2.chg.tape.trans h.chg.tape, h2.chg.output.trans h.chg.output, Nat.le_trans h.chg.size h2.chg.size, fun k hk hS => ?_⟩, ?_, fun e he => ?_⟩
  · refine (h2.chg.block k (Nat.lt_of_lt_of_le hk h.chg.size) fun hm => ?_).trans (h.chg.block k hk hS)
    rcases hs k hm with h | h
    · exact hS h
    · omega
  · rw [List.map_append, List.nodup_append]
    refine ⟨h2.nodup, hnd.2.1, fun a ha b hb e => ?_⟩
    subst e
    obtain ⟨e1, he1, rfl⟩ := List.mem_map.1 ha
    obtain ⟨e2, he2, hb2⟩ := List.mem_map.1 hb
    rcases (h2.all e1 he1).2 (hY e1 he1) with hk | hk
    · exact hnd.2.2 _ hk _ hb rfl
    · have := h.lt (List.mem_append_right X he2)
      omega
  · rcases List.mem_append.1 he with he | he
    · refine ⟨(h2.all e he).1, fun hw => ?_⟩
      rcases (h2.all e he).2 hw with hk | hk
      · exact hs _ hk
      · exact .inr (Nat.le_trans h.chg.size hk)
    · obtain ⟨⟨o, ho, hA⟩, hw⟩ := h.all e (List.mem_append_right X he)
      refine ⟨⟨o, (h2.chg.block e.b (h.lt (List.mem_append_right X he)) fun hm => ?_).trans ho, hA⟩, hw⟩
      exact hnd.2.2 _ hm _ (List.mem_map_of_mem he) rfl
end
section
variable {P : Program} {n : Nat} {w0 : World} {S : List Nat} {ops : Array Oper} {Q : Exit → Act → World → Prop} {l : List Oper} {E : Env} {M M' : List Ent} {C : World → Prop}
variable {dst : Option Tmp} {d b j : Nat} {op : Op} {t t' ty e : TypeId} {pos : String} {aft : Array Edge} {g : Option (Nat × Bool)} {x y : Operand} {cs : List Value}
/-- a call that writes what came in: X becomes one of the Yf -/
theorem JL.callW {ι : Type} {X M0 : List Ent} (vf : ι → Value) (Yf : ι → List Ent) {f : FuncId} {xs : List Operand} {ats : Array TypeId} {vs : List Value} (hg : Goes P f) (hx : evs E xs = some vs) (hd : Nat.blt d n = true) (hX : ∀ e ∈ X, e.wr = true) (hY : ∀ i, ∀ e ∈ Yf i, e.wr = true)
    (hc : ∀ w, Holds w (keys X) (X ++ cold M0) w → Calls P f vs.toArray w fun e w' => ∃ i, e = .returned (vf i) ∧ Holds w (keys X) (Yf i) w')
    (k : ∀ i, JL P n w0 S ops Q l ((d, vf i) :: E) (Yf i ++ M0)) : JL P n w0 S ops Q (⟨some d, .call ⟨.value (.func f), xs.toArray, ats⟩, ty, pos, aft, none⟩ :: l) E (X ++ M0) :=
  JL.call (ι := ι) vf (fun i => Yf i ++ M0) hg hx hd (fun w hw => (hc w hw.own).mono fun _ _ ⟨i, h1, h2⟩ => ⟨i, h1, hw.swapW h2 hX (hY i)⟩) k
/-- a whole element of one's own slice -/
theorem JL.storeO {k cap i sz o : Nat} {xs xs' : List Value} (hz : szT P t = some sz) (hx : ev E x = some (.pointer (some ⟨b, o, none⟩))) (ho : o = i * sz) (hy : ev E y = some (.agg cs.toArray)) (hl : cs.length = sz) (hv : cs.all Value.oneCell' = true)
    (hu : Upd M b (Own e sz k cap xs) (Own e sz k cap xs') M') (hi : i < k) (he : xs.take (i * sz) ++ cs ++ xs.drop (i * sz + sz) = xs') (hk : JL P n w0 S ops Q l E M') : JL P n w0 S ops Q (⟨none, .store t x y, ty, pos, aft, none⟩ :: l) E M := by
  subst ho
  refine JL.store_agg hz hx hy hl hv hu (fun ob hob => ?_) hk
  obtain ⟨sp, rfl, h1, h2, h3⟩ := hob
  have hm : i * sz + sz ≤ xs.length := by rw [h2, ← Nat.succ_mul]; exact Nat.mul_le_mul_right _ hi
  have hxl : xs'.length = xs.length := by rw [← he]; simp; omega
  refine ⟨xs ++ sp, e, rfl, by rw [List.length_append]; omega, sp, ?_, by rw [List.length_append] at h1 ⊢; omega, by omega, h3⟩
  rw [← he, hl]
  rw [List.take_append_of_le_length (by omega), List.drop_append_of_le_length (by omega)]
  simp
theorem copyO_run {t' : TypeId} {w : World} {ad : Option Addr} {dl dc sl sc sz m : Nat} {r : List Value} (hu : P.underlying t = some (.slice e)) (hz : szT P e = some sz) (ho : w.heap[b]? = some (.cells r.toArray ty (0, 0)))
    (hm : min sl dl = m) (hl : cs.length = m * sz) (hr : Reads w ad cs) (h1 : ∀ v ∈ cs, v.oneCell' = true) (hj : j + m * sz ≤ r.length) :
    ∃ w', (Builtin.copy_ #[t, t'] 0 #[.slice (some ⟨b, j, none⟩) dl dc, .slice ad sl sc]).run P w = .ok (N m) w' ∧ w'.heap[b]? = some (.cells (r.take j ++ cs ++ r.drop (j + m * sz)).toArray ty (0, 0)) ∧ w'.heap.size = w.heap.size ∧
      (∀ k, k ≠ b → w'.heap[k]? = w.heap[k]?) ∧ w'.os = w.os ∧ w'.tape = w.tape ∧ w'.output = w.output := by
  obtain ⟨w', r1, r2, r3, r4, r5, r6, r7⟩ := storeCells_run (P := P) (b := b) (j := j) (e := ty) cs 0 w r h1 ho (by omega)
  refine ⟨w', ?_, by rw [hl] at r2; simpa using r2, r3, r4, r5, r6, r7⟩
  have h3 : (underlying t).run P w = .ok (.slice e) w := run_underlying hu w
  have h4 := firstCells_run (P := P) (m := m) (sz := sz) (c := sc) hl hr sl
  have h5 : Nat.min sl dl = m := hm
  simp only [Builtin.copy_, Sem.run_bind, Sem.run_pure, h3, Result.andThen_ok, Builtin.lenOf, sizeOf_run hz, List.getElem?_toArray, List.getElem?_cons_zero, List.getElem?_cons_succ]
  rw [h5, h4]
  simp only [Result.andThen_ok, r1]
  rfl
/-- copy into a block of one's own (the cells that are copied may be the block's own too) -/
theorem JL.copyO {t' : TypeId} {ad : Option Addr} {dl dc sl sc sz m : Nat} {A A' : Obj → Prop} {M' : List Ent} (hu : P.underlying t = some (.slice e)) (hz : szT P e = some sz) (hx : ev E x = some (.slice (some ⟨b, j, none⟩) dl dc)) (hy : ev E y = some (.slice ad sl sc))
    (hup : Upd M b A A' M') (hm : min sl dl = m) (hl : cs.length = m * sz) (hr : ∀ w, Holds w0 S M w → Reads w ad cs) (h1 : ∀ v ∈ cs, v.oneCell' = true) (hA : ∀ o, A o → ∃ r te, o = .cells (List.toArray r) te (0, 0) ∧ j + m * sz ≤ r.length ∧ A' (.cells (r.take j ++ cs ++ r.drop (j + m * sz)).toArray te (0, 0))) (hd : Nat.blt d n = true)
    (k : JL P n w0 S ops Q l ((d, N m) :: E) M') : JL P n w0 S ops Q (⟨some d, .call ⟨.builtin .copy, #[x, y], #[t, t']⟩, ty, pos, aft, none⟩ :: l) E M :=
  ⟨fun a w ha hw => wpList_plain rfl fun K hK => by
    obtain ⟨o, ho, hAo⟩ := hw.get hup.has
    obtain ⟨r, te, rfl, hj, hA'⟩ := hA o hAo
    obtain ⟨w', r1, r2, r3, r4, r5, r6, r7⟩ := copyO_run (P := P) (t' := t') (dc := dc) (sc := sc) (ty := te) hu hz ho hm hl (hr w hw) h1 hj
    have r1' : (Builtin.copy_ #[t, t'] ty #[.slice (some ⟨b, j, none⟩) dl dc, .slice ad sl sc]).run P w = .ok (N m) w' := r1
    unfold Oper.wp
    simp only [execOp, resolve, invoke, builtin, Sem.run_bind, Sem.run_pure, Result.andThen_ok, List.map_toArray, List.map_cons, List.map_nil, ha.eval hx, ha.eval hy, r1']
    exact hK _ _ (k.go _ _ (ha.put d _ hd) (hw.write hup hA' r2 r3 r4 r5 r6 r7))⟩
/-- clear of a part of one's own slice: what is there is made anew, all that lies ahead of it stays -/
theorem JL.clearO {z : Value} {by' sz k lo cap : Nat} {xs : List Value} (hu : P.underlying t = some (.slice e)) (hi : EI P e z sz by') (hzz : z.cells.size = sz) (hz1 : ∀ v ∈ z.cells.toList, v.oneCell' = true) (h0 : 0 < sz)
    (hx : ev E x = some (.slice (if cap = lo then some ⟨b, 0, none⟩ else (some ⟨b, 0, none⟩ : Option Addr).map (·.add (lo * sz))) (k - lo) (cap - lo))) (hlo : lo ≤ k)
    (hup : Upd M b (Own e sz k cap xs) (Own e sz lo cap (xs.take (lo * sz))) M') (hk : JL P n w0 S ops Q l E M') : JL P n w0 S ops Q (⟨none, .call ⟨.builtin .clear, #[x], #[t]⟩, ty, pos, aft, none⟩ :: l) E M :=
  ⟨fun a w ha hw => wpList_plain rfl fun K hK => by
    obtain ⟨o, ho, sp, rfl, h1, h2, h3⟩ := hw.get hup.has
    obtain ⟨i, hi1, hi2, hi3, hi4⟩ := hi.get
    have hu3 : (underlying t).run P w = .ok (.slice e) w := run_underlying hu w
    have hzv : (zeroValue e).run P w = .ok z w := by simp [zeroValue, typeInfo, Sem.run_bind, hi1, hi2]
    unfold Oper.wp
    by_cases hkl : k - lo = 0
    · have hke : lo = k := by omega
      have hrun : (Builtin.clear_ #[t] ty #[a.eval x]).run P w = .ok (.tuple #[]) w := by
        rw [ha.eval hx, hkl]
        simp only [Builtin.clear_, List.getElem?_toArray, List.getElem?_cons_zero, Sem.run_bind, hu3, Result.andThen_ok]
        split <;> simp_all
      simp only [execOp, resolve, invoke, builtin, Sem.run_bind, Sem.run_pure, Result.andThen_ok, List.map_toArray, List.map_cons, List.map_nil, hrun]
      refine hK _ _ (hk.go _ _ (ha.put_none _) (hw.write hup (o' := .cells (xs ++ sp).toArray e (0, 0)) ?_ ho rfl (fun _ _ => rfl) rfl rfl rfl))
      refine ⟨sp, ?_, ?_, ?_, by omega⟩
      · rw [List.take_of_length_le (by rw [h2, hke]; exact Nat.le_refl _)]
      · rw [List.take_of_length_le (by rw [h2, hke]; exact Nat.le_refl _)]; exact h1
      · rw [List.take_of_length_le (by rw [h2, hke]; exact Nat.le_refl _), h2, hke]
    · have hc : ¬ cap = lo := by omega
      have hzc : (Builtin.zeroCells z.cells (k - lo)).size = (k - lo) * sz := by simp [Builtin.zeroCells, hzz]
      have hle : lo * sz + (k - lo) * sz = xs.length := by rw [h2, ← Nat.add_mul]; congr 1; omega
      obtain ⟨w', r1, r2, r3, r4, r5, r6, r7⟩ := storeCells_run (P := P) (b := b) (j := lo * sz) (e := e) (Builtin.zeroCells z.cells (k - lo)).toList 0 w (xs ++ sp) (fun v hv => by
        obtain ⟨q, hq, rfl⟩ : ∃ a, a < (k - lo) * z.cells.size ∧ z.cells[a % z.cells.size]! = v := by simpa [Builtin.zeroCells] using hv
        have hlt : q % z.cells.size < z.cells.size := Nat.mod_lt _ (by omega)
        rw [getElem!_pos z.cells _ hlt]
        exact hz1 _ (by simp)) ho (by rw [List.length_append, Array.length_toList, hzc]; omega)
      have hrun : (Builtin.clear_ #[t] ty #[a.eval x]).run P w = .ok (.tuple #[]) w' := by
        rw [ha.eval hx, if_neg hc]
        simp only [Builtin.clear_, List.getElem?_toArray, List.getElem?_cons_zero, Sem.run_bind, hu3, Result.andThen_ok, Option.map_some, add_off, Nat.zero_add]
        obtain ⟨m, hm⟩ : ∃ m, k - lo = m + 1 := ⟨k - lo - 1, by omega⟩
        rw [hm] at r1 ⊢
        simp only [Sem.run_bind, hzv, Result.andThen_ok, r1]
        rfl
      simp only [execOp, resolve, invoke, builtin, Sem.run_bind, Sem.run_pure, Result.andThen_ok, List.map_toArray, List.map_cons, List.map_nil, hrun]
      refine hK _ _ (hk.go _ _ (ha.put_none _) (hw.write hup ?_ r2 r3 r4 r5 r6 r7))
      have hzl : (Builtin.zeroCells z.cells (k - lo)).toList.length = (k - lo) * sz := by rw [Array.length_toList, hzc]
      rw [Nat.add_zero, hzl, List.take_append_of_le_length (by omega), hle, List.drop_left]
      generalize (Builtin.zeroCells z.cells (k - lo)).toList = zs at hzl ⊢
      refine ⟨zs ++ sp, by rw [List.append_assoc], ?_, by rw [List.length_take]; rw [Nat.min_eq_left (by omega)], by omega⟩
      rw [List.length_append] at h1
      simp only [List.length_append, List.length_take]
      rw [Nat.min_eq_left (by omega)]
      omega⟩
theorem hi_slice {b hi cap : Nat} : Value.slice (if cap = 0 then some ⟨b, 0, none⟩ else (some ⟨b, 0, none⟩ : Option Addr).map (·.add 0)) hi cap = .slice (some ⟨b, 0, none⟩) hi cap := by
  split <;> simp [Addr.add]
/-- what a block's entry tells may be used -/
theorem JL.capIs {A : Obj → Prop} {wr : Bool} {F : Prop} (hM : Has M b A wr) (hA : ∀ o, A o → F) (k : F → JL P n w0 S ops Q l E M) : JL P n w0 S ops Q l E M :=
  ⟨fun a w ha hw => by obtain ⟨o, _, h⟩ := hw.get hM; exact (k (hA o h)).go a w ha hw⟩
theorem JC.capIs {A : Obj → Prop} {wr : Bool} {F : Prop} {c : Code} (hM : Has M b A wr) (hA : ∀ o, A o → F) (k : F → JC P n w0 S Q c E M) : JC P n w0 S Q c E M :=
  ⟨fun a w ha hw => by obtain ⟨o, _, h⟩ := hw.get hM; exact (k (hA o h)).go a w ha hw⟩
/-! ### function values of a pair -/
/-- in worlds of C, for pairs of D, it answers p, and keeps all blocks -/
def FunP (P : Program) (C : World → Prop) (D : Pr → Prop) (fv : Value) (p : Pr → Bool) : Prop :=
  ∃ (f : FuncId) (caps : List Value), fv = .func (.func f) #[] caps.toArray ∧ Goes P f ∧ ∀ (c : Pr) (w : World), D c → C w → Calls P f (.agg (pc c).toArray :: caps).toArray w fun e w' => e = .returned (.bool (p c)) ∧ Ext w w'
theorem OQ.callP {D : Pr → Prop} {fv : Value} {p : Pr → Bool} {c : Pr} {r : Bool} (hF : FunP P C D fv p) (hD : D c) (hC : ∀ w, Holds w0 S M w → C w) (hx : ev E x = some fv) (hy : ev E y = some (.agg (pc c).toArray)) (h : p c = r) {ats : Array TypeId} : OQ P n E (Holds w0 S M) ⟨dst, .call ⟨.value x, #[y], ats⟩, ty, pos, aft, g⟩ (.bool r) := by
  obtain ⟨f, caps, h1, h2, h3⟩ := hF
  subst h1
  refine ⟨fun a hk w hw => ?_⟩
  have hy' : evs E [y] = some [.agg (pc c).toArray] := by simp [evs, hy]
  unfold Oper.quietAt
  rw [show (#[y] : Array Operand) = [y].toArray from rfl, exec_callv (xs := [y]) h2 hk hx hy' w]
  refine ⟨rfl, (h3 c w hD (hC w hw)).mono fun e w' ⟨k1, k2⟩ => ⟨?_, hw.ext k2⟩⟩
  rw [k1, h]
theorem OQ.capS {ad : Option Addr} {k cap : Nat} (hu : P.underlying t = some (.slice e)) (hx : ev E x = some (.slice ad k cap)) : OQ P n E C ⟨dst, .call ⟨.builtin .cap, #[x], #[t]⟩, ty, pos, aft, g⟩ (N cap) :=
  OQ.run fun a hk w _ => by
    have h1 := hk.eval hx
    have h3 : (underlying t).run P w = .ok (.slice e) w := run_underlying hu w
    simp [execOp, h1, resolve, invoke, builtin, Builtin.cap_, Sem.run_bind, h3, goInt]
/-! ### slices.overlaps of two blocks -/
structure IsLap (P : Program) (f : FuncId) (tS tR : TypeId) : Prop where
  go : ∃ fn, P.funcs[f]? = some fn ∧ (fn.name == "runtime.NumGoroutine") = false ∧ fn.body.isNone = true ∧ Extern.findNext fn = none ∧ Extern.find fn = some (Extern.SlicesOverlaps.overlaps #[tS, tS] #[tR])
theorem OQ.lap {f : FuncId} {tS tR : TypeId} {ats : Array TypeId} {sz b1 b2 o2 la ca lb cb : Nat} {A1 A2 : Obj → Prop} {wr1 wr2 : Bool} (hf : IsLap P f tS tR) (hu : P.underlying tS = some (.slice e)) (hz : szT P e = some sz) (hx : ev E x = some (.slice (some ⟨b1, 0, none⟩) la ca)) (hy : ev E y = some (.slice (some ⟨b2, o2, none⟩) lb cb))
    (h1 : Has M b1 A1 wr1) (h2 : Has M b2 A2 wr2) (hA1 : ∀ o, A1 o → ∃ c te, o = .cells c te (0, 0)) (hA2 : ∀ o, A2 o → ∃ c te, o = .cells c te (0, 0) ∧ c.size ≠ 0) (hne : ∀ w, Holds w0 S M w → b1 ≠ b2) :
    OQ P n E (Holds w0 S M) ⟨dst, .call ⟨.value (.func f), #[x, y], ats⟩, ty, pos, aft, g⟩ (.bool false) := by
  refine OQ.run fun ac hk w hw => ?_
  obtain ⟨fn, g1, g2, g3, g4, g5⟩ := hf.go
  obtain ⟨q1, p1, r1⟩ := hw.get h1
  obtain ⟨q2, p2, r2⟩ := hw.get h2
  obtain ⟨c1, te1, rfl⟩ := hA1 _ r1
  obtain ⟨c2, te2, rfl, hc2⟩ := hA2 _ r2
  have r := run_callFunc_extern g1 g2 g3 g4 g5 #[.slice (some ⟨b1, 0, none⟩) la ca, .slice (some ⟨b2, o2, none⟩) lb cb] w
  rw [Lib.run_overlaps_apart w tS tR e hu sz (fun w => sizeOf_run hz w) ⟨b1, 0, none⟩ ⟨b2, o2, none⟩ la ca lb cb (hne w hw) te1 te2 c1.size c2.size (by simp [World.shape?, p1]) (by simp [World.shape?, p2]) hc2 (by simp [World.frozen?, p1]) (by simp [World.frozen?, p1])] at r
  simp only [Result.andThen] at r
  have e1 := hk.eval hx
  have e2 := hk.eval hy
  simp only [execOp, resolve, Sem.run_bind, Sem.run_pure, Result.andThen_ok, List.map_toArray, List.map_cons, List.map_nil, e1, e2]
  simpa [Act.eval, Deferred.ofValue, invoke, Sem.run_bind] using r
end
end Sl
end Go.Proofs.Ytopdkpeahhnihaa

/-
  Of no statement by itself: slices of the function's own whose elements have many cells: their elements as chunks, append of one element, stores of one; parts of a literal of a struct; for any program P.
  Conditions: each rule's own hypotheses.
-/
namespace Go.Proofs.Ytopdkpeahhnihaa
set_option maxRecDepth 10000
open Sl
namespace Sl
section
variable {P : Program} {n : Nat} {w0 : World} {S : List Nat} {ops : Array Oper} {Q : Exit → Act → World → Prop} {l : List Oper} {E : Env} {M M' M0 : List Ent} {d : Nat} {t e ty : TypeId} {pos : String} {aft : Array Edge} {x y : Operand}
def accC (e : TypeId) (sz : Nat) (q : Acc) (L : List (List Value)) : List Ent := match q with
  | none => []
  | some p => [⟨p.1, Sl.Own e sz L.length p.2 L.flatten, true⟩]
theorem accC_wr (e : TypeId) (sz : Nat) (q : Acc) (L : List (List Value)) : ∀ x ∈ accC e sz q L, x.wr = true := by
  cases q with
  | none => nofun
  | some p => intro x hx; rw [List.mem_singleton.1 hx]
/-- one element more -/
theorem JL.appendC {z : Value} {by' bl sz : Nat} {c : List Value} {L : List (List Value)} (q : Acc) (hu : P.underlying t = some (.slice e)) (hi : EI P e z sz by') (hq : q = none → L = []) (hx : ev E x = some (accV q L.length)) (hy : ev E y = some (.slice (some ⟨bl, 0, none⟩) 1 1))
    (hcl : c.length = sz) (h1 : ∀ v ∈ c, v.oneCell' = true) (hzz : z.cells.size = sz) (h0 : 0 < sz) (hsm : (L.length + 1) * by' ≤ 140737488355328) (hsm2 : L.length + 1 < 9223372036854775808) (hd : Nat.blt d n = true)
    (kk : ∀ b' cap', JL P n w0 S ops Q l ((d, accV (some (b', cap')) (L ++ [c]).length) :: E) (accC e sz (some (b', cap')) (L ++ [c]) ++ M0)) :
    JL P n w0 S ops Q (⟨some d, .call ⟨.builtin .append, #[x, y], #[t, t]⟩, ty, pos, aft, none⟩ :: l) E (⟨bl, Row e c, true⟩ :: (accC e sz q L ++ M0)) := by
  have hr : ∀ w, Holds w0 S (⟨bl, Row e c, true⟩ :: (accC e sz q L ++ M0)) w → Reads w (some ⟨bl, 0, none⟩) c := fun w hw => by
    obtain ⟨o, ho, hA⟩ := hw.get (b := bl) (A := Row e c) (wr := true) .here
    exact Reads.block ho (Row.all _ hA)
  have eN : (L ++ [c]).length = L.length + 1 := List.length_append
  have eF : (L ++ [c]).flatten = L.flatten ++ c := by rw [List.flatten_append]; simp
  cases q with
  | none =>
    obtain rfl := hq rfl
    refine JL.append_nil (cs := c) (m := 1) hu hi hx hy (by rw [hcl, Nat.one_mul]) hr (by decide) hzz h0 (by simpa using hsm) (by decide) hd fun b' cap' _ => ?_
    refine (kk b' cap').lessM ?_
    refine .keep _ _ _ _ _ _ (fun o h => ?_) (.drop _ _ _ (Less.refl _))
    rw [eF]
    exact h
  | some r =>
    refine JL.append (cs := c) (m := 1) (b := r.1) (cap := r.2) (k := L.length) (xs := L.flatten) (fun b' cap' => ⟨bl, Row e c, true⟩ :: (accC e sz (some (b', cap')) (L ++ [c]) ++ M0)) hu hi hx hy (fun b' cap' => ?_) (by rw [hcl, Nat.one_mul]) hr h1 hzz h0 hsm hsm2 hd fun b' cap' => ?_
    · show Repl (_ :: ⟨r.1, Sl.Own e sz L.length r.2 L.flatten, true⟩ :: M0) _ _ _ _ (_ :: ⟨b', Sl.Own e sz (L ++ [c]).length cap' (L ++ [c]).flatten, true⟩ :: M0)
      rw [eN, eF]
      exact .there .here
    · have := kk b' cap'
      rw [show accV (some (b', cap')) (L ++ [c]).length = Value.slice (some ⟨b', 0, none⟩) (L.length + 1) cap' by rw [eN]; rfl] at this
      exact this.lessM (.drop _ _ _ (Less.refl _))
end
/-! ### chunks -/
theorem chunk_len {sz : Nat} : ∀ {L : List (List Value)} (_ : ∀ c ∈ L, c.length = sz), L.flatten.length = L.length * sz
  | [], _ => by simp
  | c :: L, h => by
    rw [List.flatten_cons, List.length_append, h c (by simp), chunk_len fun d hd => h d (by simp [hd]), List.length_cons, Nat.succ_mul]
    omega
theorem chunk_drop {sz : Nat} : ∀ {L : List (List Value)} (_ : ∀ c ∈ L, c.length = sz) (i : Nat), L.flatten.drop (i * sz) = (L.drop i).flatten
  | [], _, i => by simp
  | c :: L, h, 0 => by simp
  | c :: L, h, i + 1 => by
    rw [List.flatten_cons, Nat.succ_mul, Nat.add_comm, ← List.drop_drop, ← h c (by simp), List.drop_left, h c (by simp), chunk_drop (fun d hd => h d (by simp [hd])) i]
    rfl
theorem chunk_take {sz : Nat} : ∀ {L : List (List Value)} (_ : ∀ c ∈ L, c.length = sz) (i : Nat), L.flatten.take (i * sz) = (L.take i).flatten
  | [], _, i => by simp
  | c :: L, h, 0 => by simp
  | c :: L, h, i + 1 => by
    have hc := h c (by simp)
    rw [List.flatten_cons, Nat.succ_mul, Nat.add_comm, List.take_append, List.take_of_length_le (by omega), hc, Nat.add_sub_cancel_left, chunk_take (fun d hd => h d (by simp [hd])) i]
    rfl
theorem chunk_at {sz i : Nat} {L : List (List Value)} (h : ∀ c ∈ L, c.length = sz) (hi : i < L.length) : (L.flatten.drop (i * sz)).take sz = L.getD i [] := by
  rw [chunk_drop h, List.drop_eq_getElem_cons hi, List.flatten_cons, List.take_append_of_le_length (by rw [h _ (List.getElem_mem hi)]; exact Nat.le_refl _), List.take_of_length_le (by rw [h _ (List.getElem_mem hi)]; exact Nat.le_refl _)]
  simp [hi]
theorem chunk_set {sz i : Nat} {L : List (List Value)} {c : List Value} (h : ∀ c ∈ L, c.length = sz) (hi : i < L.length) : L.flatten.take (i * sz) ++ c ++ L.flatten.drop (i * sz + sz) = (L.set i c).flatten := by
  rw [← Nat.succ_mul, chunk_drop h, chunk_take h, List.set_eq_take_append_cons_drop, if_pos hi, List.flatten_append, List.flatten_cons, List.append_assoc]
theorem Own.chunk {e : TypeId} {sz k cap i : Nat} {L : List (List Value)} (h : ∀ c ∈ L, c.length = sz) (hi : i < L.length) : ∀ o, Own e sz k cap L.flatten o → hasCells o (i * sz) (L.getD i []) := by
  intro o ho
  have h1 := Own.cells o ho
  have hl := chunk_len h
  have hle : i * sz + sz ≤ L.flatten.length := by rw [hl, ← Nat.succ_mul]; exact Nat.mul_le_mul_right _ hi
  have h2 := has_part (k := i * sz) (t := sz) h1 hle
  rwa [chunk_at h hi, Nat.zero_add] at h2
section
variable {P : Program} {n : Nat} {w0 : World} {S : List Nat} {ops : Array Oper} {Q : Exit → Act → World → Prop} {l : List Oper} {E : Env} {M M' : List Ent} {C : World → Prop}
variable {dst : Option Tmp} {d b : Nat} {t e ty : TypeId} {pos : String} {aft : Array Edge} {g : Option (Nat × Bool)} {x y : Operand} {c : List Value} {L : List (List Value)} {wr : Bool}
/-- a whole element is loaded -/
theorem OQ.loadC {sz k cap i o : Nat} (ha : aggT P t = true) (hz : szT P t = some sz) (hx : ev E x = some (.pointer (some ⟨b, o, none⟩))) (ho : o = i * sz) (hM : Has M b (Own e sz k cap L.flatten) wr) (hL : ∀ c ∈ L, c.length = sz) (hi : i < L.length) : OQ P n E (Holds w0 S M) ⟨dst, .load t x, ty, pos, aft, g⟩ (.agg (L.getD i []).toArray) := by
  subst ho
  exact OQ.load_agg ha hz hx hM (hL _ (by rw [List.getD_eq_getElem?_getD, List.getElem?_eq_getElem hi]; exact List.getElem_mem _)) (Own.chunk hL hi)
/-- a whole element is stored -/
theorem JL.storeC {sz k cap i o : Nat} (hz : szT P t = some sz) (hx : ev E x = some (.pointer (some ⟨b, o, none⟩))) (ho : o = i * sz) (hy : ev E y = some (.agg c.toArray)) (hl : c.length = sz) (hv : c.all Value.oneCell' = true)
    (hL : ∀ c ∈ L, c.length = sz) (hk : L.length = k) (hi : i < k) (hu : Upd M b (Own e sz k cap L.flatten) (Own e sz k cap (L.set i c).flatten) M') (hk' : JL P n w0 S ops Q l E M') : JL P n w0 S ops Q (⟨none, .store t x y, ty, pos, aft, none⟩ :: l) E M :=
  JL.storeO hz hx ho hy hl hv hu hi (chunk_set hL (by omega)) hk'
end
theorem chunk_part {sz sz' i off : Nat} {L : List (List Value)} {c : List Value} (h : ∀ c ∈ L, c.length = sz) (hi : i < L.length) (ho : off + sz' ≤ sz) : L.flatten.take (i * sz + off) ++ c ++ L.flatten.drop (i * sz + off + sz') = (L.set i ((L.getD i []).take off ++ c ++ (L.getD i []).drop (off + sz'))).flatten := by
  rw [← chunk_set h hi, ← chunk_at h hi, List.take_add, List.take_take, Nat.min_eq_left (by omega)]
  have e : L.flatten.drop (i * sz) = (L.flatten.drop (i * sz)).take sz ++ L.flatten.drop (i * sz + sz) := by rw [← List.drop_drop, List.take_append_drop]
  have hl : ((L.flatten.drop (i * sz)).take sz).length = sz := by
    rw [chunk_at h hi, List.getD_eq_getElem?_getD, List.getElem?_eq_getElem hi]
    exact h _ (List.getElem_mem _)
  have e2 : L.flatten.drop (i * sz + off + sz') = ((L.flatten.drop (i * sz)).take sz).drop (off + sz') ++ L.flatten.drop (i * sz + sz) := by
    rw [Nat.add_assoc, ← List.drop_drop, e, List.drop_append_of_le_length (by omega), ← e]
  rw [e2]
  simp only [List.append_assoc]
section
variable {P : Program} {n : Nat} {w0 : World} {S : List Nat} {ops : Array Oper} {Q : Exit → Act → World → Prop} {l : List Oper} {E : Env} {M M' : List Ent}
variable {b : Nat} {t e ty : TypeId} {pos : String} {aft : Array Edge} {x y : Operand} {c : List Value} {L : List (List Value)}
/-- cells within one's own slice -/
theorem JL.storeAt {sz sz' k cap o : Nat} {xs xs' : List Value} (hz : szT P t = some sz') (hx : ev E x = some (.pointer (some ⟨b, o, none⟩))) (hy : ev E y = some (.agg c.toArray)) (hl : c.length = sz') (hv : c.all Value.oneCell' = true)
    (hu : Upd M b (Own e sz k cap xs) (Own e sz k cap xs') M') (hi : o + sz' ≤ xs.length) (he : xs.take o ++ c ++ xs.drop (o + sz') = xs') (hk : JL P n w0 S ops Q l E M') : JL P n w0 S ops Q (⟨none, .store t x y, ty, pos, aft, none⟩ :: l) E M := by
  refine JL.store_agg hz hx hy hl hv hu (fun ob hob => ?_) hk
  obtain ⟨sp, rfl, h1, h2, h3⟩ := hob
  have hxl : xs'.length = xs.length := by rw [← he]; simp; omega
  refine ⟨xs ++ sp, e, rfl, by rw [List.length_append]; omega, sp, ?_, by rw [List.length_append] at h1 ⊢; omega, by omega, h3⟩
  rw [← he, hl]
  rw [List.take_append_of_le_length (by omega), List.drop_append_of_le_length (by omega)]
  simp
/-- a part of an element -/
theorem JL.storeP {sz sz' k cap i o off : Nat} (hz : szT P t = some sz') (hx : ev E x = some (.pointer (some ⟨b, o, none⟩))) (ho : o = i * sz + off) (hy : ev E y = some (.agg c.toArray)) (hl : c.length = sz') (hv : c.all Value.oneCell' = true)
    (hL : ∀ c ∈ L, c.length = sz) (hk : L.length = k) (hi : i < k) (hof : off + sz' ≤ sz) (hu : Upd M b (Own e sz k cap L.flatten) (Own e sz k cap (L.set i ((L.getD i []).take off ++ c ++ (L.getD i []).drop (off + sz'))).flatten) M') (hk' : JL P n w0 S ops Q l E M') : JL P n w0 S ops Q (⟨none, .store t x y, ty, pos, aft, none⟩ :: l) E M := by
  subst ho
  have hle : i * sz + sz ≤ L.flatten.length := by rw [chunk_len hL, ← Nat.succ_mul]; exact Nat.mul_le_mul_right _ (by omega)
  exact JL.storeAt hz hx hy hl hv hu (by omega) (chunk_part hL (by omega) hof) hk'
end
theorem row_ownC {e : TypeId} {sz m : Nat} {xs : List Value} (h : xs.length = m * sz) : ∀ o, Row e xs o → Own e sz m m xs o := by
  rintro o rfl
  exact ⟨[], by simp, by simp [h], h, Nat.le_refl _⟩
/-! ### parts of a literal of a struct -/
theorem fill_put : ∀ (cs : List Value) (k off : Nat) (l : List Value), off + k + cs.length ≤ l.length → (cs.zipIdx k).foldl (fun a (x : Value × Nat) => a.setIfInBounds (off + x.2) x.1) l.toArray = (l.take (off + k) ++ cs ++ l.drop (off + k + cs.length)).toArray
  | [], k, off, l, _ => by simp
  | c :: cs, k, off, l, h => by
    simp only [List.length_cons] at h
    rw [List.zipIdx_cons, List.foldl_cons]
    show (cs.zipIdx (k + 1)).foldl _ (l.toArray.setIfInBounds (off + k) c) = _
    rw [List.setIfInBounds_toArray, fill_put cs (k + 1) off (l.set (off + k) c) (by rw [List.length_set]; omega)]
    congr 1
    rw [List.take_set, List.drop_set, if_pos (by omega)]
    rw [show off + (k + 1) = off + k + 1 by omega, List.take_add_one]
    simp only [List.getElem?_eq_getElem (show off + k < l.length by omega), Option.toList_some, List.length_cons]
    rw [List.set_append_right _ _ (by rw [List.length_take]; omega)]
    have e0 : off + k - (l.take (off + k)).length = 0 := by rw [List.length_take]; omega
    rw [e0]
    simp [Nat.add_assoc, Nat.add_comm, Nat.add_left_comm]
theorem fill_one {place : Nat → Option (Nat × Nat)} {i off sz : Nat} {v : Value} {cs l : List Value} {rest : List (Nat × Value)} (hp : place i = some (off, sz)) (hv : v.cells = cs.toArray) (hl : cs.length = sz) (hb : off + sz ≤ l.length) :
    Instr.fill place l.toArray ((i, v) :: rest) = Instr.fill place (l.take off ++ cs ++ l.drop (off + sz)).toArray rest := by
  have h1 := fill_put cs 0 off l (by omega)
  rw [Nat.add_zero, hl] at h1
  rw [← h1]
  have hc : ¬ (v.cells.size ≠ sz ∨ off + v.cells.size > l.toArray.size) := by
    rw [hv, List.size_toArray, hl, List.size_toArray]
    omega
  simp only [Instr.fill, hp]
  rw [if_neg (by simpa using hc), hv]
  simp
end Sl
end Go.Proofs.Ytopdkpeahhnihaa

/-
  Of no statement by itself: what a disk of blocks does, by definition: writes, a sync, a crash that undoes and redoes; facts of these.
  Conditions: each theorem's own.
-/
namespace Go.Proofs.Ytopdkpeahhnihaa
namespace Dsk
abbrev Bk := List (BitVec 8)
structure Dk where
  bl : List Bk
  pd : List (Nat × Bk)
structure Ok (bl : List Bk) (pd : List (Nat × Bk)) : Prop where
  b : ∀ x ∈ bl, x.length = 64
  p : ∀ x ∈ pd, x.1 < bl.length ∧ x.2.length = 64
def zero : Bk := List.replicate 64 0
def newB (n : Nat) : List Bk := List.replicate n zero
def old (bl : List Bk) (n : Nat) : Bk := bl.getD n []
def nth (pd : List (Nat × Bk)) (i : Nat) : Nat × Bk := pd.getD i (0, [])
def wrote (bl : List Bk) (pd : List (Nat × Bk)) (n : Nat) : List (Nat × Bk) := pd ++ [(n, old bl n)]
/-- one write undone -/
def step (s : List Bk × List (Nat × Bk)) (i : Nat) : List Bk × List (Nat × Bk) :=
  (s.1.set (nth s.2 i).1 (nth s.2 i).2, s.2.set i ((nth s.2 i).1, old s.1 (nth s.2 i).1))
def run (s : List Bk × List (Nat × Bk)) (l : List Nat) : List Bk × List (Nat × Bk) := l.foldl step s
def down (m : Nat) : List Nat := (List.range m).reverse
def undoN (bl : List Bk) (pd : List (Nat × Bk)) (k : Nat) : List Bk × List (Nat × Bk) := run (bl, pd) ((down pd.length).take k)
def undo (bl : List Bk) (pd : List (Nat × Bk)) : List Bk × List (Nat × Bk) := undoN bl pd pd.length
def doneB (p : BitVec 8) : Nat := if p.toNat % 3 = 1 then 64 else if p.toNat % 3 = 2 then p.toNat / 3 % 64 else 0
def pick (picks : List (BitVec 8)) (i : Nat) : BitVec 8 := if picks = [] then 0 else picks.getD (i % picks.length) 0
def part (bl : List Bk) (w : Nat × Bk) (n : Nat) : List Bk := bl.set w.1 (w.2.take n ++ (old bl w.1).drop n)
def redoN (picks : List (BitVec 8)) (bl : List Bk) (ws : List (Nat × Bk)) (k : Nat) : List Bk :=
  (List.range k).foldl (fun l i => part l (nth ws i) (doneB (pick picks i))) bl
def crash (picks : List (BitVec 8)) (bl : List Bk) (pd : List (Nat × Bk)) : List Bk := redoN picks (undo bl pd).1 (undo bl pd).2 (undo bl pd).2.length

theorem doneB_le (p : BitVec 8) : doneB p ≤ 64 := by
  unfold doneB
  split
  · omega
  · split <;> omega
theorem down_len (m : Nat) : (down m).length = m := by simp [down]
theorem down_succ (m : Nat) : down (m + 1) = m :: down m := by simp [down, List.range_succ]
theorem down_get {m k : Nat} (h : k < m) : (down m)[k]? = some (m - 1 - k) := by
  unfold down
  rw [List.getElem?_reverse (by simpa using h)]
  simp only [List.length_range]
  rw [List.getElem?_range (by omega)]
theorem down_lt {m i : Nat} (h : i ∈ down m) : i < m := by simpa [down] using h
theorem undoN_zero (bl : List Bk) (pd : List (Nat × Bk)) : undoN bl pd 0 = (bl, pd) := by simp [undoN, run]
theorem undoN_succ {bl : List Bk} {pd : List (Nat × Bk)} {k : Nat} (h : k < pd.length) : undoN bl pd (k + 1) = step (undoN bl pd k) (pd.length - 1 - k) := by
  unfold undoN run
  rw [List.take_add_one, down_get h, List.foldl_append]
  rfl
theorem redoN_zero (picks : List (BitVec 8)) (bl : List Bk) (ws : List (Nat × Bk)) : redoN picks bl ws 0 = bl := by simp [redoN]
theorem redoN_succ (picks : List (BitVec 8)) (bl : List Bk) (ws : List (Nat × Bk)) (k : Nat) : redoN picks bl ws (k + 1) = part (redoN picks bl ws k) (nth ws k) (doneB (pick picks k)) := by
  unfold redoN
  rw [List.range_succ, List.foldl_append]
  rfl

theorem nth_mem {pd : List (Nat × Bk)} {i : Nat} (h : i < pd.length) : nth pd i ∈ pd := by
  unfold nth
  rw [List.getD_eq_getElem?_getD, List.getElem?_eq_getElem h]
  exact List.getElem_mem _
theorem old_mem {bl : List Bk} {i : Nat} (h : i < bl.length) : old bl i ∈ bl := by
  unfold old
  rw [List.getD_eq_getElem?_getD, List.getElem?_eq_getElem h]
  exact List.getElem_mem _
theorem mem_set {α : Type} {l : List α} {i : Nat} {a x : α} (h : x ∈ l.set i a) : x ∈ l ∨ x = a := List.mem_or_eq_of_mem_set h
theorem Ok.new (n : Nat) : Ok (newB n) [] := ⟨fun x hx => by rw [List.eq_of_mem_replicate hx]; rfl, by simp⟩
theorem Ok.old {bl : List Bk} {pd : List (Nat × Bk)} (h : Ok bl pd) {n : Nat} (hn : n < bl.length) : (old bl n).length = 64 := h.b _ (old_mem hn)
theorem Ok.write {bl : List Bk} {pd : List (Nat × Bk)} (h : Ok bl pd) {n : Nat} {b : Bk} (hn : n < bl.length) (hb : b.length = 64) : Ok (bl.set n b) (wrote bl pd n) := by
  refine ⟨fun x hx => ?_, fun x hx => ?_⟩
  · rcases mem_set hx with hx | rfl
    · exact h.b x hx
    · exact hb
  · rw [List.length_set]
    rcases List.mem_append.1 hx with hx | hx
    · exact h.p x hx
    · obtain rfl := List.mem_singleton.1 hx
      exact ⟨hn, h.old hn⟩
theorem Ok.sync {bl : List Bk} {pd : List (Nat × Bk)} (h : Ok bl pd) : Ok bl [] := ⟨h.b, by simp⟩
theorem Ok.step {s : List Bk × List (Nat × Bk)} (h : Ok s.1 s.2) {i : Nat} (hi : i < s.2.length) : Ok (step s i).1 (step s i).2 := by
  have h1 := h.p _ (nth_mem hi)
  refine ⟨fun x hx => ?_, fun x hx => ?_⟩
  · rcases mem_set hx with hx | rfl
    · exact h.b x hx
    · exact h1.2
  · show _ < (s.1.set _ _).length ∧ _
    rw [List.length_set]
    rcases mem_set hx with hx | rfl
    · exact h.p x hx
    · exact ⟨h1.1, h.old h1.1⟩
theorem step_len (s : List Bk × List (Nat × Bk)) (i : Nat) : (step s i).1.length = s.1.length ∧ (step s i).2.length = s.2.length := by simp [step]
theorem undoN_len (bl : List Bk) (pd : List (Nat × Bk)) : ∀ k, k ≤ pd.length → (undoN bl pd k).1.length = bl.length ∧ (undoN bl pd k).2.length = pd.length
  | 0, _ => by simp [undoN_zero]
  | k + 1, h => by
    have ih := undoN_len bl pd k (by omega)
    rw [undoN_succ h]
    have := step_len (undoN bl pd k) (pd.length - 1 - k)
    omega
theorem Ok.undoN {bl : List Bk} {pd : List (Nat × Bk)} (h : Ok bl pd) : ∀ k, k ≤ pd.length → Ok (undoN bl pd k).1 (undoN bl pd k).2
  | 0, _ => by rw [undoN_zero]; exact h
  | k + 1, hk => by
    rw [undoN_succ hk]
    exact (Ok.undoN h k (by omega)).step (by rw [(undoN_len bl pd k (by omega)).2]; omega)
theorem undo_len (bl : List Bk) (pd : List (Nat × Bk)) : (undo bl pd).1.length = bl.length ∧ (undo bl pd).2.length = pd.length := undoN_len bl pd _ (Nat.le_refl _)
theorem Ok.undo {bl : List Bk} {pd : List (Nat × Bk)} (h : Ok bl pd) : Ok (undo bl pd).1 (undo bl pd).2 := h.undoN _ (Nat.le_refl _)
theorem part_len (bl : List Bk) (w : Nat × Bk) (n : Nat) : (part bl w n).length = bl.length := by simp [part]
theorem Ok.part {bl : List Bk} {ws : List (Nat × Bk)} (h : Ok bl ws) {w : Nat × Bk} (hw : w ∈ ws) {n : Nat} (hn : n ≤ 64) : Ok (part bl w n) ws := by
  obtain ⟨h1, h2⟩ := h.p w hw
  refine ⟨fun x hx => ?_, fun x hx => by rw [part_len]; exact h.p x hx⟩
  rcases mem_set hx with hx | rfl
  · exact h.b x hx
  · have := h.old h1
    simp only [List.length_append, List.length_take, List.length_drop]
    omega
theorem redoN_len (picks : List (BitVec 8)) (bl : List Bk) (ws : List (Nat × Bk)) : ∀ k, (redoN picks bl ws k).length = bl.length
  | 0 => by rw [redoN_zero]
  | k + 1 => by rw [redoN_succ, part_len, redoN_len picks bl ws k]
theorem Ok.redoN {picks : List (BitVec 8)} {bl : List Bk} {ws : List (Nat × Bk)} (h : Ok bl ws) : ∀ k, k ≤ ws.length → Ok (redoN picks bl ws k) ws
  | 0, _ => by rw [redoN_zero]; exact h
  | k + 1, hk => by
    rw [redoN_succ]
    exact (Ok.redoN h k (by omega)).part (nth_mem hk) (doneB_le _)
theorem crash_len (picks : List (BitVec 8)) (bl : List Bk) (pd : List (Nat × Bk)) : (crash picks bl pd).length = bl.length := by
  unfold crash
  rw [redoN_len, (undo_len bl pd).1]
theorem Ok.crash {picks : List (BitVec 8)} {bl : List Bk} {pd : List (Nat × Bk)} (h : Ok bl pd) : Ok (crash picks bl pd) [] := (h.undo.redoN _ (Nat.le_refl _)).sync

/-! ### what is undone of one more write -/
theorem run_snoc : ∀ (is : List Nat) (l : List Bk) (ws : List (Nat × Bk)) (x : Nat × Bk), (∀ i ∈ is, i < ws.length) → run (l, ws ++ [x]) is = ((run (l, ws) is).1, (run (l, ws) is).2 ++ [x])
  | [], l, ws, x, _ => rfl
  | i :: is, l, ws, x, h => by
    have hi := h i (by simp)
    have e1 : nth (ws ++ [x]) i = nth ws i := by simp [nth, List.getD_eq_getElem?_getD, List.getElem?_append_left hi]
    have e2 : step (l, ws ++ [x]) i = ((step (l, ws) i).1, (step (l, ws) i).2 ++ [x]) := by
      unfold step
      simp only [e1, List.set_append_left _ _ hi]
    show run (step (l, ws ++ [x]) i) is = _
    rw [e2]
    exact run_snoc is _ _ x fun j hj => by
      have h1 : (step (l, ws) i).2.length = ws.length := (step_len (l, ws) i).2
      have h2 := h j (by simp [hj])
      rw [h1]
      exact h2
theorem set_back {bl : List Bk} {n : Nat} {b : Bk} : (bl.set n b).set n (old bl n) = bl := by
  rw [List.set_set]
  apply List.ext_getElem?
  intro i
  rw [List.getElem?_set]
  by_cases h : n = i
  · subst h
    by_cases hl : n < bl.length
    · simp [hl, old]
    · simp [hl]
  · simp [h]
theorem undo_write {bl : List Bk} {pd : List (Nat × Bk)} {n : Nat} {b : Bk} (hn : n < bl.length) : undo (bl.set n b) (wrote bl pd n) = ((undo bl pd).1, (undo bl pd).2 ++ [(n, b)]) := by
  have hl : (wrote bl pd n).length = pd.length + 1 := by simp [wrote]
  have e0 : undo (bl.set n b) (wrote bl pd n) = run (bl.set n b, wrote bl pd n) (down (pd.length + 1)) := by
    unfold undo undoN
    rw [hl, List.take_of_length_le (by rw [down_len]; exact Nat.le_refl _)]
  have e1 : undo bl pd = run (bl, pd) (down pd.length) := by
    unfold undo undoN
    rw [List.take_of_length_le (by rw [down_len]; exact Nat.le_refl _)]
  have e2 : nth (wrote bl pd n) pd.length = (n, old bl n) := by simp [nth, wrote]
  have e3 : step (bl.set n b, wrote bl pd n) pd.length = (bl, pd ++ [(n, b)]) := by
    unfold step
    simp only [e2, set_back]
    congr 1
    have : old (bl.set n b) n = b := by simp [old, hn]
    rw [this]
    simp [wrote]
  rw [e0, e1, down_succ]
  show run (step _ _) _ = _
  rw [e3]
  exact run_snoc _ _ _ _ fun i hi => down_lt hi

/-! ### a block that nothing is written to -/
theorem nth_set {pd : List (Nat × Bk)} {i j : Nat} {x : Nat × Bk} (h : i < pd.length) : nth (pd.set i x) j = if i = j then x else nth pd j := by
  unfold nth
  simp only [List.getD_eq_getElem?_getD, List.getElem?_set]
  split
  · next e => subst e; simp [h]
  · rfl
theorem old_set_ne {bl : List Bk} {n j : Nat} {b : Bk} (h : n ≠ j) : old (bl.set n b) j = old bl j := by simp [old, List.getD_eq_getElem?_getD, List.getElem?_set, h]
theorem old_set {bl : List Bk} {n : Nat} {b : Bk} (h : n < bl.length) : old (bl.set n b) n = b := by simp [old, h]
def apartP (j : Nat) (pd : List (Nat × Bk)) : Prop := ∀ x ∈ pd, x.1 ≠ j
theorem apart_step {j i : Nat} {s : List Bk × List (Nat × Bk)} (h : apartP j s.2) (hi : i < s.2.length) : apartP j (step s i).2 ∧ old (step s i).1 j = old s.1 j := by
  have h1 := h _ (nth_mem hi)
  refine ⟨fun x hx => ?_, old_set_ne h1⟩
  rcases mem_set hx with hx | rfl
  · exact h x hx
  · exact h1
theorem apart_undoN {j : Nat} {bl : List Bk} {pd : List (Nat × Bk)} (h : apartP j pd) : ∀ k, k ≤ pd.length → apartP j (undoN bl pd k).2 ∧ old (undoN bl pd k).1 j = old bl j
  | 0, _ => by rw [undoN_zero]; exact ⟨h, rfl⟩
  | k + 1, hk => by
    obtain ⟨i1, i2⟩ := apart_undoN (bl := bl) h k (by omega)
    rw [undoN_succ hk]
    have := apart_step (i := pd.length - 1 - k) i1 (by rw [(undoN_len bl pd k (by omega)).2]; omega)
    exact ⟨this.1, this.2.trans i2⟩
theorem apart_redoN {j : Nat} {picks : List (BitVec 8)} {bl : List Bk} {ws : List (Nat × Bk)} (h : apartP j ws) : ∀ k, k ≤ ws.length → old (redoN picks bl ws k) j = old bl j
  | 0, _ => by rw [redoN_zero]
  | k + 1, hk => by
    rw [redoN_succ]
    refine (old_set_ne (h _ (nth_mem hk))).trans (apart_redoN h k (by omega))
theorem apart_crash {j : Nat} {picks : List (BitVec 8)} {bl : List Bk} {pd : List (Nat × Bk)} (h : apartP j pd) : old (crash picks bl pd) j = old bl j := by
  obtain ⟨h1, h2⟩ := apart_undoN (bl := bl) h _ (Nat.le_refl _)
  exact (apart_redoN h1 _ (Nat.le_refl _)).trans h2
theorem apart_write {j n : Nat} {bl : List Bk} {pd : List (Nat × Bk)} (h : apartP j pd) (hn : n ≠ j) : apartP j (wrote bl pd n) := by
  intro x hx
  rcases List.mem_append.1 hx with hx | hx
  · exact h x hx
  · obtain rfl := List.mem_singleton.1 hx
    exact hn

/-- one write, and a crash -/
theorem crash_one {bl : List Bk} {n : Nat} {b : Bk} {p : BitVec 8} (hn : n < bl.length) : crash [p] (bl.set n b) (wrote bl [] n) = part bl (n, b) (doneB p) := by
  unfold crash
  rw [undo_write hn]
  have e : undo bl [] = (bl, []) := by simp [undo, undoN_zero]
  rw [e]
  show redoN [p] bl [(n, b)] 1 = _
  rw [redoN_succ, redoN_zero]
  rfl
end Dsk
end Go.Proofs.Ytopdkpeahhnihaa

/-
  Of no statement by itself: the landed disk as blocks of memory; has, Size, Pending, New, Read, Sync, doneBytes.
  Conditions: each theorem's own.
-/
namespace Go.Proofs.Ytopdkpeahhnihaa
set_option maxRecDepth 10000
open Sl Dsk
theorem dkB : szT Try.prog 32 = some 64 := by kernel_rfl
theorem dkAg : aggT Try.prog 32 = true := by kernel_rfl
theorem dkZ : zc Try.prog 32 = some (List.replicate 64 (.int .u8 0)) := by kernel_rfl
theorem dkI : EI Try.prog 32 (.agg (List.replicate 64 (.int .u8 0)).toArray) 64 64 := by unfold EI; kernel_rfl
theorem dwI : EI Try.prog 77 (.agg (Value.int .i64 0 :: List.replicate 64 (.int .u8 0)).toArray) 65 72 := by unfold EI; kernel_rfl
theorem dwB : szT Try.prog 77 = some 65 := by kernel_rfl
theorem dwAg : aggT Try.prog 77 = true := by kernel_rfl
theorem dwZ : zc Try.prog 77 = some (Value.int .i64 0 :: List.replicate 64 (.int .u8 0)) := by kernel_rfl
theorem bsC : scal Try.prog 41 = true := by kernel_rfl
theorem bs1 : szT Try.prog 41 = some 1 := by kernel_rfl
theorem wsC : scal Try.prog 73 = true := by kernel_rfl
theorem ws1 : szT Try.prog 73 = some 1 := by kernel_rfl
theorem intC : scal Try.prog 3 = true := by kernel_rfl
/-- the cells of a block, of a write -/
def bc (b : Bk) : List Value := b.map U8
def wc (w : Nat × Bk) : List Value := N w.1 :: bc w.2
def bcs (bl : List Bk) : List (List Value) := bl.map bc
def wcs (pd : List (Nat × Bk)) : List (List Value) := pd.map wc
/-- where a disk's struct and its blocks stand, how many there is room for, and where what is pending stands -/
structure Dp where
  p : Nat
  q : Nat
  cap : Nat
  a : Acc
def dkRow (x : Dp) (bl : List Bk) (pd : List (Nat × Bk)) : List Value := [.slice (some ⟨x.q, 0, none⟩) bl.length x.cap, accV x.a pd.length]
def dkE (x : Dp) (bl : List Bk) (pd : List (Nat × Bk)) : List Ent :=
  ⟨x.p, Row 75 (dkRow x bl pd), true⟩ :: ⟨x.q, Sl.Own 32 64 bl.length x.cap (bcs bl).flatten, true⟩ :: accC 77 65 x.a (wcs pd)
theorem dkE_wr (x : Dp) (bl : List Bk) (pd : List (Nat × Bk)) : ∀ e ∈ dkE x bl pd, e.wr = true := by
  intro e he
  rcases List.mem_cons.1 he with rfl | he
  · rfl
  · rcases List.mem_cons.1 he with rfl | he
    · rfl
    · exact accC_wr _ _ _ _ e he
/-- what must hold of a disk -/
structure DkOk (x : Dp) (bl : List Bk) (pd : List (Nat × Bk)) : Prop where
  ok : Ok bl pd
  n0 : 0 < bl.length
  n1 : bl.length ≤ 65536
  m : pd.length ≤ 1000000
  a : x.a = none → pd = []
theorem bc_len {b : Bk} (h : b.length = 64) : (bc b).length = 64 := by rw [bc, List.length_map]; exact h
theorem bcs_len {bl : List Bk} {pd : List (Nat × Bk)} (h : Ok bl pd) : ∀ c ∈ bcs bl, c.length = 64 := by
  intro c hc
  obtain ⟨b, hb, rfl⟩ := List.mem_map.1 hc
  exact bc_len (h.b b hb)
theorem wcs_len {bl : List Bk} {pd : List (Nat × Bk)} (h : Ok bl pd) : ∀ c ∈ wcs pd, c.length = 65 := by
  intro c hc
  obtain ⟨w, hw, rfl⟩ := List.mem_map.1 hc
  rw [wc, List.length_cons, bc_len (h.p w hw).2]
theorem bcs_at {bl : List Bk} {i : Nat} (h : i < bl.length) : (bcs bl).getD i [] = bc (old bl i) := by
  simp [bcs, old, h]
theorem wcs_at {pd : List (Nat × Bk)} {i : Nat} (h : i < pd.length) : (wcs pd).getD i [] = wc (nth pd i) := by
  simp [wcs, nth, h]
theorem bcs_set (bl : List Bk) (i : Nat) (b : Bk) : (bcs bl).set i (bc b) = bcs (bl.set i b) := by
  simp [bcs, List.map_set]
theorem bc_cell (b : Bk) : (bc b).all Value.oneCell' = true := by simp [bc, Value.oneCell']
theorem bcs_n (bl : List Bk) : (bcs bl).length = bl.length := List.length_map _
theorem wcs_n (pd : List (Nat × Bk)) : (wcs pd).length = pd.length := List.length_map _
theorem dk_cell {x : Dp} {bl : List Bk} {pd : List (Nat × Bk)} {w0 w : World} {S : List Nat} {M : List Ent} (hw : Holds w0 S (dkE x bl pd ++ M) w) : w.cell? ⟨x.p, 0, none⟩ = some (.slice (some ⟨x.q, 0, none⟩) bl.length x.cap) ∧ w.cell? ⟨x.p, 1, none⟩ = some (accV x.a pd.length) := by
  obtain ⟨o, ho, hA⟩ := hw.get (b := x.p) (A := Row 75 (dkRow x bl pd)) (wr := true) .here
  exact ⟨cell_of ho (Row.cell rfl _ hA), cell_of ho (Row.cell rfl _ hA)⟩
theorem goes_has : Goes Try.prog 37 := ⟨_, Try.func37, rfl, by kernel_rfl⟩
theorem has_any (p : Nat) (ad : Option Addr) (len cap : Nat) (n : Int) (w : World) (hc : w.cell? ⟨p, 0, none⟩ = some (.slice ad len cap)) :
    Calls Try.prog 37 [Pt p 0, .int .i64 n].toArray w fun e w' => e = .returned (.bool (decide (0 ≤ n ∧ n < len))) ∧ Ext w w' := by
  refine enter (n := 16) Try.func37 rfl rfl rfl (Holds.start w []) ?_
  cases h1 : decide ((0 : Int) ≤ n)
  · repeat (first | refine JL.q (by first | (apply OQ.geqB (b := 0); exact rfl; exact rfl; exact h1) | (apply OQ.pick_f; exact rfl; exact rfl) | (apply OQ.move; exact rfl) | (apply OQ.assign; exact rfl) | (apply OQ.nilc; exact rfl) | (apply OQ.len; exact rfl; exact rfl) | (apply OQ.lssN; exact rfl; exact rfl) | (apply OQ.gtrN; exact rfl; exact rfl) | (apply OQ.fld; exact rfl; exact rfl; exact rfl; exact (by decide); exact rfl)) rfl ?_ | refine JC.seq ?_ | refine JC.region ?_ | refine JC.block ?_ | refine JC.skip ?_ | refine JC.exit ?_ | refine JL.nil ?_ | refine JE.next ?_ | refine JE.blk_normal ?_ | refine JE.then_exit ?_ | refine JE.blk_hit ?_ | refine JE.blk_miss rfl ?_ | refine JE.then_ret ?_ | refine JE.blk_ret ?_ | refine JC.label ?_ | refine JL.gon rfl rfl ?_ | refine JL.gskip rfl rfl rfl rfl ?_ | refine JL.gskipU rfl rfl rfl rfl ?_)
    refine JC.ret (JE.ret1 rfl (RV.tmp rfl) fun w' hw => ⟨?_, hw.chg⟩)
    rw [decide_eq_false fun h => of_decide_eq_false h1 h.1]
  · cases h2 : decide (n < (len : Int))
    · repeat (first | refine JL.q (by first | (apply OQ.geqB (b := 0); exact rfl; exact rfl; exact h1) | (apply OQ.load_old; exact bsC; exact rfl; exact (block_lt_of_cell hc); exact (by simp); exact hc) | (apply OQ.len; exact Try.underlying41; exact rfl) | (apply OQ.lssB; exact rfl; exact rfl; exact h2) | (apply OQ.pick_t; exact rfl; exact rfl) | (apply OQ.move; exact rfl) | (apply OQ.assign; exact rfl) | (apply OQ.nilc; exact rfl) | (apply OQ.len; exact rfl; exact rfl) | (apply OQ.lssN; exact rfl; exact rfl) | (apply OQ.gtrN; exact rfl; exact rfl) | (apply OQ.fld; exact rfl; exact rfl; exact rfl; exact (by decide); exact rfl)) rfl ?_ | refine JC.seq ?_ | refine JC.region ?_ | refine JC.block ?_ | refine JC.skip ?_ | refine JC.exit ?_ | refine JL.nil ?_ | refine JE.next ?_ | refine JE.blk_normal ?_ | refine JE.then_exit ?_ | refine JE.blk_hit ?_ | refine JE.blk_miss rfl ?_ | refine JE.then_ret ?_ | refine JE.blk_ret ?_ | refine JC.label ?_ | refine JL.gon rfl rfl ?_ | refine JL.gskip rfl rfl rfl rfl ?_ | refine JL.gskipU rfl rfl rfl rfl ?_)
      refine JC.ret (JE.ret1 rfl (RV.tmp rfl) fun w' hw => ⟨?_, hw.chg⟩)
      rw [decide_eq_false fun h => of_decide_eq_false h2 h.2]
    · repeat (first | refine JL.q (by first | (apply OQ.geqB (b := 0); exact rfl; exact rfl; exact h1) | (apply OQ.load_old; exact bsC; exact rfl; exact (block_lt_of_cell hc); exact (by simp); exact hc) | (apply OQ.len; exact Try.underlying41; exact rfl) | (apply OQ.lssB; exact rfl; exact rfl; exact h2) | (apply OQ.pick_t; exact rfl; exact rfl) | (apply OQ.move; exact rfl) | (apply OQ.assign; exact rfl) | (apply OQ.nilc; exact rfl) | (apply OQ.len; exact rfl; exact rfl) | (apply OQ.lssN; exact rfl; exact rfl) | (apply OQ.gtrN; exact rfl; exact rfl) | (apply OQ.fld; exact rfl; exact rfl; exact rfl; exact (by decide); exact rfl)) rfl ?_ | refine JC.seq ?_ | refine JC.region ?_ | refine JC.block ?_ | refine JC.skip ?_ | refine JC.exit ?_ | refine JL.nil ?_ | refine JE.next ?_ | refine JE.blk_normal ?_ | refine JE.then_exit ?_ | refine JE.blk_hit ?_ | refine JE.blk_miss rfl ?_ | refine JE.then_ret ?_ | refine JE.blk_ret ?_ | refine JC.label ?_ | refine JL.gon rfl rfl ?_ | refine JL.gskip rfl rfl rfl rfl ?_ | refine JL.gskipU rfl rfl rfl rfl ?_)
      refine JC.ret (JE.ret1 rfl (RV.tmp rfl) fun w' hw => ⟨?_, hw.chg⟩)
      rw [decide_eq_true ⟨of_decide_eq_true h1, of_decide_eq_true h2⟩]
theorem goes_size : Goes Try.prog 11 := ⟨_, Try.func11, rfl, by kernel_rfl⟩
theorem dsize_any (p : Nat) (ad : Option Addr) (len cap : Nat) (w : World) (hc : w.cell? ⟨p, 0, none⟩ = some (.slice ad len cap)) :
    Calls Try.prog 11 [Pt p 0].toArray w fun e w' => e = .returned (N len) ∧ Ext w w' := by
  refine enter (n := 8) Try.func11 rfl rfl rfl (Holds.start w []) ?_
  repeat (first | refine JL.q (by first | (apply OQ.load_old; exact bsC; exact rfl; exact (block_lt_of_cell hc); exact (by simp); exact hc) | (apply OQ.len; exact Try.underlying41; exact rfl) | (apply OQ.move; exact rfl) | (apply OQ.assign; exact rfl) | (apply OQ.nilc; exact rfl) | (apply OQ.len; exact rfl; exact rfl) | (apply OQ.lssN; exact rfl; exact rfl) | (apply OQ.gtrN; exact rfl; exact rfl) | (apply OQ.fld; exact rfl; exact rfl; exact rfl; exact (by decide); exact rfl)) rfl ?_ | refine JC.seq ?_ | refine JC.region ?_ | refine JC.block ?_ | refine JC.skip ?_ | refine JC.exit ?_ | refine JL.nil ?_ | refine JE.next ?_ | refine JE.blk_normal ?_ | refine JE.then_exit ?_ | refine JE.blk_hit ?_ | refine JE.blk_miss rfl ?_ | refine JE.then_ret ?_ | refine JE.blk_ret ?_ | refine JC.label ?_ | refine JL.gon rfl rfl ?_ | refine JL.gskip rfl rfl rfl rfl ?_ | refine JL.gskipU rfl rfl rfl rfl ?_)
  exact JC.ret (JE.ret1 rfl (RV.tmp rfl) fun w' hw => ⟨rfl, hw.chg⟩)
theorem goes_pending : Goes Try.prog 20 := ⟨_, Try.func20, rfl, by kernel_rfl⟩
theorem OQ.lenV {P : Program} {n : Nat} {E : Env} {C : World → Prop} {dst : Option Tmp} {t ty e : TypeId} {pos : String} {aft : Array Edge} {g : Option (Nat × Bool)} {x : Operand} {q : Acc} {k : Nat} (hu : P.underlying t = some (.slice e)) (hq : q = none → k = 0) (hx : ev E x = some (accV q k)) : OQ P n E C ⟨dst, .call ⟨.builtin .len, #[x], #[t]⟩, ty, pos, aft, g⟩ (N k) := by
  cases q with
  | none => obtain rfl := hq rfl; exact OQ.len hu hx
  | some r => exact OQ.len hu hx
theorem dpend_any (p : Nat) (q : Acc) (len : Nat) (hq : q = none → len = 0) (w : World) (hc : w.cell? ⟨p, 1, none⟩ = some (accV q len)) :
    Calls Try.prog 20 [Pt p 0].toArray w fun e w' => e = .returned (N len) ∧ Ext w w' := by
  refine enter (n := 8) Try.func20 rfl rfl rfl (Holds.start w []) ?_
  repeat (first | refine JL.q (by first | (apply OQ.load_old; exact wsC; exact rfl; exact (block_lt_of_cell hc); exact (by simp); exact hc) | (apply OQ.lenV; exact Try.underlying73; exact hq; exact rfl) | (apply OQ.move; exact rfl) | (apply OQ.assign; exact rfl) | (apply OQ.nilc; exact rfl) | (apply OQ.len; exact rfl; exact rfl) | (apply OQ.lssN; exact rfl; exact rfl) | (apply OQ.gtrN; exact rfl; exact rfl) | (apply OQ.fld; exact rfl; exact rfl; exact rfl; exact (by decide); exact rfl)) rfl ?_ | refine JC.seq ?_ | refine JC.region ?_ | refine JC.block ?_ | refine JC.skip ?_ | refine JC.exit ?_ | refine JL.nil ?_ | refine JE.next ?_ | refine JE.blk_normal ?_ | refine JE.then_exit ?_ | refine JE.blk_hit ?_ | refine JE.blk_miss rfl ?_ | refine JE.then_ret ?_ | refine JE.blk_ret ?_ | refine JC.label ?_ | refine JL.gon rfl rfl ?_ | refine JL.gskip rfl rfl rfl rfl ?_ | refine JL.gskipU rfl rfl rfl rfl ?_)
  exact JC.ret (JE.ret1 rfl (RV.tmp rfl) fun w' hw => ⟨rfl, hw.chg⟩)
theorem goes_done : Goes Try.prog 39 := ⟨_, Try.func39, rfl, by kernel_rfl⟩
theorem done_any (p : Bt) (w : World) : Calls Try.prog 39 [U8 p].toArray w fun e w' => e = .returned (N (doneB p)) ∧ Ext w w' := by
  refine enter (n := 13) Try.func39 rfl rfl rfl (Holds.start w []) ?_
  have h3 : (3#8).toNat = 3 := rfl
  have e0 : (p % 3#8).toNat = p.toNat % 3 := BitVec.toNat_umod
  have e1 : (p / 3#8).toNat = p.toNat / 3 := BitVec.toNat_udiv
  cases h1 : decide (((p % 3#8).toNat : Int) = 1)
  · cases h2 : decide (((p % 3#8).toNat : Int) = 2)
    · repeat (first | refine JL.q (by first | (apply OQ.rem8 (b := 3#8); exact rfl; exact rfl; exact (by decide)) | (apply OQ.eqB (b := 1); exact rfl; exact rfl; exact h1) | (apply OQ.eqB (b := 2); exact rfl; exact rfl; exact h2) | (apply OQ.move; exact rfl) | (apply OQ.assign; exact rfl) | (apply OQ.nilc; exact rfl) | (apply OQ.len; exact rfl; exact rfl) | (apply OQ.lssN; exact rfl; exact rfl) | (apply OQ.gtrN; exact rfl; exact rfl) | (apply OQ.fld; exact rfl; exact rfl; exact rfl; exact (by decide); exact rfl)) rfl ?_ | refine JC.seq ?_ | refine JC.region ?_ | refine JC.block ?_ | refine JC.skip ?_ | refine JC.exit ?_ | refine JL.nil ?_ | refine JE.next ?_ | refine JE.blk_normal ?_ | refine JE.then_exit ?_ | refine JE.blk_hit ?_ | refine JE.blk_miss rfl ?_ | refine JE.then_ret ?_ | refine JE.blk_ret ?_ | refine JC.label ?_ | refine JL.gon rfl rfl ?_ | refine JL.gskip rfl rfl rfl rfl ?_ | refine JL.gskipU rfl rfl rfl rfl ?_)
      refine JC.cond_false rfl rfl ?_
      repeat (first | refine JL.q (by first | (apply OQ.eqB (b := 2); exact rfl; exact rfl; exact h2) | (apply OQ.move; exact rfl) | (apply OQ.assign; exact rfl) | (apply OQ.nilc; exact rfl) | (apply OQ.len; exact rfl; exact rfl) | (apply OQ.lssN; exact rfl; exact rfl) | (apply OQ.gtrN; exact rfl; exact rfl) | (apply OQ.fld; exact rfl; exact rfl; exact rfl; exact (by decide); exact rfl)) rfl ?_ | refine JC.seq ?_ | refine JC.region ?_ | refine JC.block ?_ | refine JC.skip ?_ | refine JC.exit ?_ | refine JL.nil ?_ | refine JE.next ?_ | refine JE.blk_normal ?_ | refine JE.then_exit ?_ | refine JE.blk_hit ?_ | refine JE.blk_miss rfl ?_ | refine JE.then_ret ?_ | refine JE.blk_ret ?_ | refine JC.label ?_ | refine JL.gon rfl rfl ?_ | refine JL.gskip rfl rfl rfl rfl ?_ | refine JL.gskipU rfl rfl rfl rfl ?_)
      refine JC.cond_false rfl rfl ?_
      repeat (first | refine JL.q (by first | (apply OQ.move; exact rfl) | (apply OQ.assign; exact rfl) | (apply OQ.nilc; exact rfl) | (apply OQ.len; exact rfl; exact rfl) | (apply OQ.lssN; exact rfl; exact rfl) | (apply OQ.gtrN; exact rfl; exact rfl) | (apply OQ.fld; exact rfl; exact rfl; exact rfl; exact (by decide); exact rfl)) rfl ?_ | refine JC.seq ?_ | refine JC.region ?_ | refine JC.block ?_ | refine JC.skip ?_ | refine JC.exit ?_ | refine JL.nil ?_ | refine JE.next ?_ | refine JE.blk_normal ?_ | refine JE.then_exit ?_ | refine JE.blk_hit ?_ | refine JE.blk_miss rfl ?_ | refine JE.then_ret ?_ | refine JE.blk_ret ?_ | refine JC.label ?_ | refine JL.gon rfl rfl ?_ | refine JL.gskip rfl rfl rfl rfl ?_ | refine JL.gskipU rfl rfl rfl rfl ?_)
      refine JC.ret (JE.ret1 rfl (RV.tmp rfl) fun w' hw => ⟨?_, hw.chg⟩)
      have h1 := of_decide_eq_false h1
      have h2 := of_decide_eq_false h2
      unfold doneB
      rw [if_neg (by omega), if_neg (by omega)]
      rfl
    · repeat (first | refine JL.q (by first | (apply OQ.rem8 (b := 3#8); exact rfl; exact rfl; exact (by decide)) | (apply OQ.eqB (b := 1); exact rfl; exact rfl; exact h1) | (apply OQ.eqB (b := 2); exact rfl; exact rfl; exact h2) | (apply OQ.move; exact rfl) | (apply OQ.assign; exact rfl) | (apply OQ.nilc; exact rfl) | (apply OQ.len; exact rfl; exact rfl) | (apply OQ.lssN; exact rfl; exact rfl) | (apply OQ.gtrN; exact rfl; exact rfl) | (apply OQ.fld; exact rfl; exact rfl; exact rfl; exact (by decide); exact rfl)) rfl ?_ | refine JC.seq ?_ | refine JC.region ?_ | refine JC.block ?_ | refine JC.skip ?_ | refine JC.exit ?_ | refine JL.nil ?_ | refine JE.next ?_ | refine JE.blk_normal ?_ | refine JE.then_exit ?_ | refine JE.blk_hit ?_ | refine JE.blk_miss rfl ?_ | refine JE.then_ret ?_ | refine JE.blk_ret ?_ | refine JC.label ?_ | refine JL.gon rfl rfl ?_ | refine JL.gskip rfl rfl rfl rfl ?_ | refine JL.gskipU rfl rfl rfl rfl ?_)
      refine JC.cond_false rfl rfl ?_
      repeat (first | refine JL.q (by first | (apply OQ.eqB (b := 2); exact rfl; exact rfl; exact h2) | (apply OQ.move; exact rfl) | (apply OQ.assign; exact rfl) | (apply OQ.nilc; exact rfl) | (apply OQ.len; exact rfl; exact rfl) | (apply OQ.lssN; exact rfl; exact rfl) | (apply OQ.gtrN; exact rfl; exact rfl) | (apply OQ.fld; exact rfl; exact rfl; exact rfl; exact (by decide); exact rfl)) rfl ?_ | refine JC.seq ?_ | refine JC.region ?_ | refine JC.block ?_ | refine JC.skip ?_ | refine JC.exit ?_ | refine JL.nil ?_ | refine JE.next ?_ | refine JE.blk_normal ?_ | refine JE.then_exit ?_ | refine JE.blk_hit ?_ | refine JE.blk_miss rfl ?_ | refine JE.then_ret ?_ | refine JE.blk_ret ?_ | refine JC.label ?_ | refine JL.gon rfl rfl ?_ | refine JL.gskip rfl rfl rfl rfl ?_ | refine JL.gskipU rfl rfl rfl rfl ?_)
      refine JC.cond_true rfl rfl ?_
      repeat (first | refine JL.q (by first | (apply OQ.quo8 (b := 3#8); exact rfl; exact rfl; exact (by decide)) | (apply OQ.conv8_N; exact Try.underlying5; exact Try.underlying3; exact rfl) | (apply OQ.remN (b := 64); exact rfl; exact rfl; exact (by decide)) | (apply OQ.move; exact rfl) | (apply OQ.assign; exact rfl) | (apply OQ.nilc; exact rfl) | (apply OQ.len; exact rfl; exact rfl) | (apply OQ.lssN; exact rfl; exact rfl) | (apply OQ.gtrN; exact rfl; exact rfl) | (apply OQ.fld; exact rfl; exact rfl; exact rfl; exact (by decide); exact rfl)) rfl ?_ | refine JC.seq ?_ | refine JC.region ?_ | refine JC.block ?_ | refine JC.skip ?_ | refine JC.exit ?_ | refine JL.nil ?_ | refine JE.next ?_ | refine JE.blk_normal ?_ | refine JE.then_exit ?_ | refine JE.blk_hit ?_ | refine JE.blk_miss rfl ?_ | refine JE.then_ret ?_ | refine JE.blk_ret ?_ | refine JC.label ?_ | refine JL.gon rfl rfl ?_ | refine JL.gskip rfl rfl rfl rfl ?_ | refine JL.gskipU rfl rfl rfl rfl ?_)
      refine JC.ret ?_
      repeat (first | refine JL.q (by first | (apply OQ.move; exact rfl) | (apply OQ.assign; exact rfl) | (apply OQ.nilc; exact rfl) | (apply OQ.len; exact rfl; exact rfl) | (apply OQ.lssN; exact rfl; exact rfl) | (apply OQ.gtrN; exact rfl; exact rfl) | (apply OQ.fld; exact rfl; exact rfl; exact rfl; exact (by decide); exact rfl)) rfl ?_ | refine JC.seq ?_ | refine JC.region ?_ | refine JC.block ?_ | refine JC.skip ?_ | refine JC.exit ?_ | refine JL.nil ?_ | refine JE.next ?_ | refine JE.blk_normal ?_ | refine JE.then_exit ?_ | refine JE.blk_hit ?_ | refine JE.blk_miss rfl ?_ | refine JE.then_ret ?_ | refine JE.blk_ret ?_ | refine JC.label ?_ | refine JL.gon rfl rfl ?_ | refine JL.gskip rfl rfl rfl rfl ?_ | refine JL.gskipU rfl rfl rfl rfl ?_)
      refine (JE.ret1 rfl (RV.tmp rfl) fun w' hw => ⟨?_, hw.chg⟩)
      have h1 := of_decide_eq_false h1
      have h2 := of_decide_eq_true h2
      unfold doneB
      rw [if_neg (by omega), if_pos (by omega), e1]
  · repeat (first | refine JL.q (by first | (apply OQ.rem8 (b := 3#8); exact rfl; exact rfl; exact (by decide)) | (apply OQ.eqB (b := 1); exact rfl; exact rfl; exact h1) | (apply OQ.move; exact rfl) | (apply OQ.assign; exact rfl) | (apply OQ.nilc; exact rfl) | (apply OQ.len; exact rfl; exact rfl) | (apply OQ.lssN; exact rfl; exact rfl) | (apply OQ.gtrN; exact rfl; exact rfl) | (apply OQ.fld; exact rfl; exact rfl; exact rfl; exact (by decide); exact rfl)) rfl ?_ | refine JC.seq ?_ | refine JC.region ?_ | refine JC.block ?_ | refine JC.skip ?_ | refine JC.exit ?_ | refine JL.nil ?_ | refine JE.next ?_ | refine JE.blk_normal ?_ | refine JE.then_exit ?_ | refine JE.blk_hit ?_ | refine JE.blk_miss rfl ?_ | refine JE.then_ret ?_ | refine JE.blk_ret ?_ | refine JC.label ?_ | refine JL.gon rfl rfl ?_ | refine JL.gskip rfl rfl rfl rfl ?_ | refine JL.gskipU rfl rfl rfl rfl ?_)
    refine JC.cond_true rfl rfl ?_
    repeat (first | refine JL.q (by first | (apply OQ.move; exact rfl) | (apply OQ.assign; exact rfl) | (apply OQ.nilc; exact rfl) | (apply OQ.len; exact rfl; exact rfl) | (apply OQ.lssN; exact rfl; exact rfl) | (apply OQ.gtrN; exact rfl; exact rfl) | (apply OQ.fld; exact rfl; exact rfl; exact rfl; exact (by decide); exact rfl)) rfl ?_ | refine JC.seq ?_ | refine JC.region ?_ | refine JC.block ?_ | refine JC.skip ?_ | refine JC.exit ?_ | refine JL.nil ?_ | refine JE.next ?_ | refine JE.blk_normal ?_ | refine JE.then_exit ?_ | refine JE.blk_hit ?_ | refine JE.blk_miss rfl ?_ | refine JE.then_ret ?_ | refine JE.blk_ret ?_ | refine JC.label ?_ | refine JL.gon rfl rfl ?_ | refine JL.gskip rfl rfl rfl rfl ?_ | refine JL.gskipU rfl rfl rfl rfl ?_)
    refine JC.ret ?_
    repeat (first | refine JL.q (by first | (apply OQ.move; exact rfl) | (apply OQ.assign; exact rfl) | (apply OQ.nilc; exact rfl) | (apply OQ.len; exact rfl; exact rfl) | (apply OQ.lssN; exact rfl; exact rfl) | (apply OQ.gtrN; exact rfl; exact rfl) | (apply OQ.fld; exact rfl; exact rfl; exact rfl; exact (by decide); exact rfl)) rfl ?_ | refine JC.seq ?_ | refine JC.region ?_ | refine JC.block ?_ | refine JC.skip ?_ | refine JC.exit ?_ | refine JL.nil ?_ | refine JE.next ?_ | refine JE.blk_normal ?_ | refine JE.then_exit ?_ | refine JE.blk_hit ?_ | refine JE.blk_miss rfl ?_ | refine JE.then_ret ?_ | refine JE.blk_ret ?_ | refine JC.label ?_ | refine JL.gon rfl rfl ?_ | refine JL.gskip rfl rfl rfl rfl ?_ | refine JL.gskipU rfl rfl rfl rfl ?_)
    refine (JE.ret1 rfl (RV.tmp rfl) fun w' hw => ⟨?_, hw.chg⟩)
    have h1 := of_decide_eq_true h1
    unfold doneB
    rw [if_pos (by omega)]
    rfl
end Go.Proofs.Ytopdkpeahhnihaa

/-
  Of no statement by itself: the landed disk's New, Read, Sync, Write.
  Conditions: each theorem's own.
-/
namespace Go.Proofs.Ytopdkpeahhnihaa
set_option maxRecDepth 10000
open Sl Dsk
theorem OQ.buildW {n : Nat} {E : Env} {C : World → Prop} {dst : Option Tmp} {ty : TypeId} {pos : String} {aft : Array Edge} {g : Option (Nat × Bool)} {x y : Operand} {k : Nat} {b : Bk} (hx : ev E x = some (N k)) (hy : ev E y = some (.agg (bc b).toArray)) (hb : b.length = 64) :
    OQ Try.prog n E C ⟨dst, .build 77 #[(0, x), (1, y)], ty, pos, aft, g⟩ (.agg (wc (k, b)).toArray) :=
  OQ.run fun a ha w _ => by
    have h1 := ha.eval hx
    have h2 := ha.eval hy
    have hbl : (bc b).length = 64 := bc_len hb
    have hb2 : Try.prog.built 77 [(0, N k), (1, .agg (bc b).toArray)] = some (wc (k, b)).toArray := by
      have h : Try.prog.built 77 [(0, N k), (1, .agg (bc b).toArray)] = Instr.fill (fun i => #[(0, 1), (1, 64)][i]?) ((Value.int .i64 0 :: List.replicate 64 (.int .u8 0)).toArray) [(0, N k), (1, .agg (bc b).toArray)] := by kernel_rfl
      rw [h, fill_one (cs := [N k]) (off := 0) (sz := 1) rfl rfl rfl (by simp), fill_one (cs := bc b) (off := 1) (sz := 64) rfl rfl hbl (by simp)]
      have e : ∀ c : List Value, c.length = 64 → List.take 1 (List.take 0 (Value.int .i64 0 :: List.replicate 64 (.int .u8 0)) ++ [N k] ++ List.drop (0 + 1) (Value.int .i64 0 :: List.replicate 64 (.int .u8 0))) ++ c ++ List.drop (1 + 64) (List.take 0 (Value.int .i64 0 :: List.replicate 64 (.int .u8 0)) ++ [N k] ++ List.drop (0 + 1) (Value.int .i64 0 :: List.replicate 64 (.int .u8 0))) = N k :: c := fun c hc => by simp
      rw [e _ hbl]
      rfl
    have r := run_build w 77 #[(0, N k), (1, .agg (bc b).toArray)] (wc (k, b)).toArray (by simpa using hb2)
    simp [execOp, h1, h2, r]
theorem zero_cells (n : Nat) : (bcs (newB n)).flatten = List.replicate (n * 64) (.int .u8 0) := by
  induction n with
  | zero => rfl
  | succ n ih =>
    show bc zero ++ (bcs (newB n)).flatten = _
    rw [ih, Nat.succ_mul, Nat.add_comm, ← List.replicate_append_replicate]
    rfl
theorem goes_dnew : Goes Try.prog 10 := ⟨_, Try.func10, rfl, by kernel_rfl⟩
theorem dnew_bad (n : Int) (h : n < 1 ∨ 65536 < n) (w : World) : Calls Try.prog 10 [.int .i64 n].toArray w fun e w' => e = .returned (.tuple #[.pointer none, N 2]) ∧ Ext w w' := by
  refine enter (n := 14) Try.func10 rfl rfl rfl (Holds.start w []) ?_
  cases h1 : decide (n < (1 : Int))
  · have h2 : decide ((65536 : Int) < n) = true := decide_eq_true (by have := of_decide_eq_false h1; omega)
    repeat (first | refine JL.q (by first | (apply OQ.lssB (b := 1); exact rfl; exact rfl; exact h1) | (apply OQ.gtrB (b := 65536); exact rfl; exact rfl; exact h2) | (apply OQ.pick_f; exact rfl; exact rfl) | (apply OQ.move; exact rfl) | (apply OQ.assign; exact rfl) | (apply OQ.nilc; exact rfl) | (apply OQ.len; exact rfl; exact rfl) | (apply OQ.lssN; exact rfl; exact rfl) | (apply OQ.gtrN; exact rfl; exact rfl) | (apply OQ.idxS; exact rfl; exact rfl; exact rfl; exact rfl; exact (by (try simp only []); omega)) | (apply OQ.fld; exact rfl; exact rfl; exact rfl; exact (by decide); exact rfl)) rfl ?_ | refine JC.seq ?_ | refine JC.region ?_ | refine JC.block ?_ | refine JC.skip ?_ | refine JC.exit ?_ | refine JL.nil ?_ | refine JE.next ?_ | refine JE.blk_normal ?_ | refine JE.then_exit ?_ | refine JE.blk_hit ?_ | refine JE.blk_miss rfl ?_ | refine JE.then_ret ?_ | refine JE.blk_ret ?_ | refine JC.label ?_ | refine JL.gon rfl rfl ?_ | refine JL.gskip rfl rfl rfl rfl ?_ | refine JL.gskipU rfl rfl rfl rfl ?_)
    refine JC.cond_true rfl rfl ?_
    repeat (first | refine JL.q (by first | (apply OQ.move; exact rfl) | (apply OQ.assign; exact rfl) | (apply OQ.nilc; exact rfl) | (apply OQ.len; exact rfl; exact rfl) | (apply OQ.lssN; exact rfl; exact rfl) | (apply OQ.gtrN; exact rfl; exact rfl) | (apply OQ.idxS; exact rfl; exact rfl; exact rfl; exact rfl; exact (by (try simp only []); omega)) | (apply OQ.fld; exact rfl; exact rfl; exact rfl; exact (by decide); exact rfl)) rfl ?_ | refine JC.seq ?_ | refine JC.region ?_ | refine JC.block ?_ | refine JC.skip ?_ | refine JC.exit ?_ | refine JL.nil ?_ | refine JE.next ?_ | refine JE.blk_normal ?_ | refine JE.then_exit ?_ | refine JE.blk_hit ?_ | refine JE.blk_miss rfl ?_ | refine JE.then_ret ?_ | refine JE.blk_ret ?_ | refine JC.label ?_ | refine JL.gon rfl rfl ?_ | refine JL.gskip rfl rfl rfl rfl ?_ | refine JL.gskipU rfl rfl rfl rfl ?_)
    refine JC.ret ?_
    repeat (first | refine JL.q (by first | (apply OQ.move; exact rfl) | (apply OQ.assign; exact rfl) | (apply OQ.nilc; exact rfl) | (apply OQ.len; exact rfl; exact rfl) | (apply OQ.lssN; exact rfl; exact rfl) | (apply OQ.gtrN; exact rfl; exact rfl) | (apply OQ.idxS; exact rfl; exact rfl; exact rfl; exact rfl; exact (by (try simp only []); omega)) | (apply OQ.fld; exact rfl; exact rfl; exact rfl; exact (by decide); exact rfl)) rfl ?_ | refine JC.seq ?_ | refine JC.region ?_ | refine JC.block ?_ | refine JC.skip ?_ | refine JC.exit ?_ | refine JL.nil ?_ | refine JE.next ?_ | refine JE.blk_normal ?_ | refine JE.then_exit ?_ | refine JE.blk_hit ?_ | refine JE.blk_miss rfl ?_ | refine JE.then_ret ?_ | refine JE.blk_ret ?_ | refine JC.label ?_ | refine JL.gon rfl rfl ?_ | refine JL.gskip rfl rfl rfl rfl ?_ | refine JL.gskipU rfl rfl rfl rfl ?_)
    exact JE.ret2 rfl (RV.tmp rfl) (RV.tmp rfl) fun w' hw => ⟨rfl, hw.chg⟩
  · repeat (first | refine JL.q (by first | (apply OQ.lssB (b := 1); exact rfl; exact rfl; exact h1) | (apply OQ.pick_t; exact rfl; exact rfl) | (apply OQ.move; exact rfl) | (apply OQ.assign; exact rfl) | (apply OQ.nilc; exact rfl) | (apply OQ.len; exact rfl; exact rfl) | (apply OQ.lssN; exact rfl; exact rfl) | (apply OQ.gtrN; exact rfl; exact rfl) | (apply OQ.idxS; exact rfl; exact rfl; exact rfl; exact rfl; exact (by (try simp only []); omega)) | (apply OQ.fld; exact rfl; exact rfl; exact rfl; exact (by decide); exact rfl)) rfl ?_ | refine JC.seq ?_ | refine JC.region ?_ | refine JC.block ?_ | refine JC.skip ?_ | refine JC.exit ?_ | refine JL.nil ?_ | refine JE.next ?_ | refine JE.blk_normal ?_ | refine JE.then_exit ?_ | refine JE.blk_hit ?_ | refine JE.blk_miss rfl ?_ | refine JE.then_ret ?_ | refine JE.blk_ret ?_ | refine JC.label ?_ | refine JL.gon rfl rfl ?_ | refine JL.gskip rfl rfl rfl rfl ?_ | refine JL.gskipU rfl rfl rfl rfl ?_)
    refine JC.cond_true rfl rfl ?_
    repeat (first | refine JL.q (by first | (apply OQ.move; exact rfl) | (apply OQ.assign; exact rfl) | (apply OQ.nilc; exact rfl) | (apply OQ.len; exact rfl; exact rfl) | (apply OQ.lssN; exact rfl; exact rfl) | (apply OQ.gtrN; exact rfl; exact rfl) | (apply OQ.idxS; exact rfl; exact rfl; exact rfl; exact rfl; exact (by (try simp only []); omega)) | (apply OQ.fld; exact rfl; exact rfl; exact rfl; exact (by decide); exact rfl)) rfl ?_ | refine JC.seq ?_ | refine JC.region ?_ | refine JC.block ?_ | refine JC.skip ?_ | refine JC.exit ?_ | refine JL.nil ?_ | refine JE.next ?_ | refine JE.blk_normal ?_ | refine JE.then_exit ?_ | refine JE.blk_hit ?_ | refine JE.blk_miss rfl ?_ | refine JE.then_ret ?_ | refine JE.blk_ret ?_ | refine JC.label ?_ | refine JL.gon rfl rfl ?_ | refine JL.gskip rfl rfl rfl rfl ?_ | refine JL.gskipU rfl rfl rfl rfl ?_)
    refine JC.ret ?_
    repeat (first | refine JL.q (by first | (apply OQ.move; exact rfl) | (apply OQ.assign; exact rfl) | (apply OQ.nilc; exact rfl) | (apply OQ.len; exact rfl; exact rfl) | (apply OQ.lssN; exact rfl; exact rfl) | (apply OQ.gtrN; exact rfl; exact rfl) | (apply OQ.idxS; exact rfl; exact rfl; exact rfl; exact rfl; exact (by (try simp only []); omega)) | (apply OQ.fld; exact rfl; exact rfl; exact rfl; exact (by decide); exact rfl)) rfl ?_ | refine JC.seq ?_ | refine JC.region ?_ | refine JC.block ?_ | refine JC.skip ?_ | refine JC.exit ?_ | refine JL.nil ?_ | refine JE.next ?_ | refine JE.blk_normal ?_ | refine JE.then_exit ?_ | refine JE.blk_hit ?_ | refine JE.blk_miss rfl ?_ | refine JE.then_ret ?_ | refine JE.blk_ret ?_ | refine JC.label ?_ | refine JL.gon rfl rfl ?_ | refine JL.gskip rfl rfl rfl rfl ?_ | refine JL.gskipU rfl rfl rfl rfl ?_)
    exact JE.ret2 rfl (RV.tmp rfl) (RV.tmp rfl) fun w' hw => ⟨rfl, hw.chg⟩
theorem OQ.buildD {n : Nat} {E : Env} {C : World → Prop} {dst : Option Tmp} {ty : TypeId} {pos : String} {aft : Array Edge} {g : Option (Nat × Bool)} {x : Operand} {ad : Option Addr} {len cap : Nat} (hx : ev E x = some (.slice ad len cap)) :
    OQ Try.prog n E C ⟨dst, .build 75 #[(0, x)], ty, pos, aft, g⟩ (.agg [.slice ad len cap, .slice none 0 0].toArray) :=
  OQ.run fun a ha w _ => by
    have h1 := ha.eval hx
    have r := run_build (P := Try.prog) w 75 #[(0, .slice ad len cap)] [.slice ad len cap, .slice none 0 0].toArray (by kernel_rfl)
    simp [execOp, h1, r]
set_option maxHeartbeats 4000000 in
theorem dnew_ok (n : Nat) (h1 : 1 ≤ n) (h2 : n ≤ 65536) (w : World) : Calls Try.prog 10 [N n].toArray w fun e w' => ∃ x : Dp, e = .returned (.tuple #[Pt x.p 0, N 0]) ∧ x.a = none ∧ Holds w [] (dkE x (newB n) []) w' := by
  refine enter (n := 14) Try.func10 rfl rfl rfl (Holds.start w []) ?_
  have g1 : decide ((n : Int) < 1) = false := decide_eq_false (by omega)
  have g2 : decide ((65536 : Int) < n) = false := decide_eq_false (by omega)
  repeat (first | refine JL.q (by first | (apply OQ.lssB (b := 1); exact rfl; exact rfl; exact g1) | (apply OQ.gtrB (b := 65536); exact rfl; exact rfl; exact g2) | (apply OQ.pick_f; exact rfl; exact rfl) | (apply OQ.move; exact rfl) | (apply OQ.assign; exact rfl) | (apply OQ.nilc; exact rfl) | (apply OQ.len; exact rfl; exact rfl) | (apply OQ.lssN; exact rfl; exact rfl) | (apply OQ.gtrN; exact rfl; exact rfl) | (apply OQ.idxS; exact rfl; exact rfl; exact rfl; exact rfl; exact (by (try simp only []); omega)) | (apply OQ.fld; exact rfl; exact rfl; exact rfl; exact (by decide); exact rfl)) rfl ?_ | refine JC.seq ?_ | refine JC.region ?_ | refine JC.block ?_ | refine JC.skip ?_ | refine JC.exit ?_ | refine JL.nil ?_ | refine JE.next ?_ | refine JE.blk_normal ?_ | refine JE.then_exit ?_ | refine JE.blk_hit ?_ | refine JE.blk_miss rfl ?_ | refine JE.then_ret ?_ | refine JE.blk_ret ?_ | refine JC.label ?_ | refine JL.gon rfl rfl ?_ | refine JL.gskip rfl rfl rfl rfl ?_ | refine JL.gskipU rfl rfl rfl rfl ?_)
  refine JC.cond_false rfl rfl ?_
  repeat (first | refine JL.q (by first | (apply OQ.move; exact rfl) | (apply OQ.assign; exact rfl) | (apply OQ.nilc; exact rfl) | (apply OQ.len; exact rfl; exact rfl) | (apply OQ.lssN; exact rfl; exact rfl) | (apply OQ.gtrN; exact rfl; exact rfl) | (apply OQ.idxS; exact rfl; exact rfl; exact rfl; exact rfl; exact (by (try simp only []); omega)) | (apply OQ.fld; exact rfl; exact rfl; exact rfl; exact (by decide); exact rfl)) rfl ?_ | refine JC.seq ?_ | refine JC.region ?_ | refine JC.block ?_ | refine JC.skip ?_ | refine JC.exit ?_ | refine JL.nil ?_ | refine JE.next ?_ | refine JE.blk_normal ?_ | refine JE.then_exit ?_ | refine JE.blk_hit ?_ | refine JE.blk_miss rfl ?_ | refine JE.then_ret ?_ | refine JE.blk_ret ?_ | refine JC.label ?_ | refine JL.gon rfl rfl ?_ | refine JL.gskip rfl rfl rfl rfl ?_ | refine JL.gskipU rfl rfl rfl rfl ?_)
  refine JL.make (c := n) (sz := 64) Try.underlying41 dkI rfl (by decide) rfl rfl (by omega) (by omega) rfl fun b hb => ?_
  repeat (first | refine JL.q (by first | (apply OQ.buildD; exact rfl) | (apply OQ.move; exact rfl) | (apply OQ.assign; exact rfl) | (apply OQ.nilc; exact rfl) | (apply OQ.len; exact rfl; exact rfl) | (apply OQ.lssN; exact rfl; exact rfl) | (apply OQ.gtrN; exact rfl; exact rfl) | (apply OQ.idxS; exact rfl; exact rfl; exact rfl; exact rfl; exact (by (try simp only []); omega)) | (apply OQ.fld; exact rfl; exact rfl; exact rfl; exact (by decide); exact rfl)) rfl ?_ | refine JC.seq ?_ | refine JC.region ?_ | refine JC.block ?_ | refine JC.skip ?_ | refine JC.exit ?_ | refine JL.nil ?_ | refine JE.next ?_ | refine JE.blk_normal ?_ | refine JE.then_exit ?_ | refine JE.blk_hit ?_ | refine JE.blk_miss rfl ?_ | refine JE.then_ret ?_ | refine JE.blk_ret ?_ | refine JC.label ?_ | refine JL.gon rfl rfl ?_ | refine JL.gskip rfl rfl rfl rfl ?_ | refine JL.gskipU rfl rfl rfl rfl ?_)
  refine JL.box (r := [.slice (some ⟨b, 0, none⟩) n n, .slice none 0 0]) rfl rfl rfl fun p hp => ?_
  repeat (first | refine JL.q (by first | (apply OQ.move; exact rfl) | (apply OQ.assign; exact rfl) | (apply OQ.nilc; exact rfl) | (apply OQ.len; exact rfl; exact rfl) | (apply OQ.lssN; exact rfl; exact rfl) | (apply OQ.gtrN; exact rfl; exact rfl) | (apply OQ.idxS; exact rfl; exact rfl; exact rfl; exact rfl; exact (by (try simp only []); omega)) | (apply OQ.fld; exact rfl; exact rfl; exact rfl; exact (by decide); exact rfl)) rfl ?_ | refine JC.seq ?_ | refine JC.region ?_ | refine JC.block ?_ | refine JC.skip ?_ | refine JC.exit ?_ | refine JL.nil ?_ | refine JE.next ?_ | refine JE.blk_normal ?_ | refine JE.then_exit ?_ | refine JE.blk_hit ?_ | refine JE.blk_miss rfl ?_ | refine JE.then_ret ?_ | refine JE.blk_ret ?_ | refine JC.label ?_ | refine JL.gon rfl rfl ?_ | refine JL.gskip rfl rfl rfl rfl ?_ | refine JL.gskipU rfl rfl rfl rfl ?_)
  refine JC.ret (JE.ret2 rfl (RV.tmp rfl) (RV.tmp rfl) fun w' hw => ⟨⟨p, b, n, none⟩, rfl, rfl, hw.weak ?_⟩)
  refine .keep _ _ _ _ _ _ (fun o ho => ?_) (.keep _ _ _ _ _ _ (fun o ho => ?_) (.nil _))
  · have e : (newB n).length = n := List.length_replicate
    unfold dkRow
    rw [e]
    exact ho
  · have e : (newB n).length = n := List.length_replicate
    rw [e, zero_cells]
    exact row_ownC List.length_replicate o ho
theorem goes_dread : Goes Try.prog 19 := ⟨_, Try.func19, rfl, by kernel_rfl⟩
theorem OQ.buildB0 {n : Nat} {E : Env} {C : World → Prop} {dst : Option Tmp} {ty : TypeId} {pos : String} {aft : Array Edge} {g : Option (Nat × Bool)} : OQ Try.prog n E C ⟨dst, .build 32 #[], ty, pos, aft, g⟩ (.agg (bc zero).toArray) := OQ.pure rfl rfl (by kernel_rfl)
theorem zero_len : zero.length = 64 := rfl
set_option maxHeartbeats 4000000 in
theorem dread_bad (x : Dp) (bl : List Bk) (pd : List (Nat × Bk)) (n : Int) (hn : ¬ (0 ≤ n ∧ n < bl.length)) {u w : World} {S : List Nat} {M : List Ent} (h : Holds u S (dkE x bl pd ++ M) w) :
    Calls Try.prog 19 [Pt x.p 0, .int .i64 n].toArray w fun e w' => e = .returned (.tuple #[.agg (bc zero).toArray, N 2]) ∧ Ext w w' := by
  have c := fun w' (hx : Ext w w') => has_any x.p (some ⟨x.q, 0, none⟩) bl.length x.cap n w' (by
    have := (dk_cell h).1
    rw [World.cell?, hx.block x.p (block_lt_of_cell this) (by simp)]
    exact this)
  rw [decide_eq_false hn] at c
  refine enter (n := 18) Try.func19 rfl rfl rfl (Holds.start w []) ?_
  repeat (first | refine JL.q (by first | (apply OQ.move; exact rfl) | (apply OQ.assign; exact rfl) | (apply OQ.nilc; exact rfl) | (apply OQ.len; exact rfl; exact rfl) | (apply OQ.lssN; exact rfl; exact rfl) | (apply OQ.gtrN; exact rfl; exact rfl) | (apply OQ.idxS; exact rfl; exact rfl; exact rfl; exact rfl; exact (by (try simp only []); omega)) | (apply OQ.fld; exact rfl; exact rfl; exact rfl; exact (by decide); exact rfl)) rfl ?_ | refine JC.seq ?_ | refine JC.region ?_ | refine JC.block ?_ | refine JC.skip ?_ | refine JC.exit ?_ | refine JL.nil ?_ | refine JE.next ?_ | refine JE.blk_normal ?_ | refine JE.then_exit ?_ | refine JE.blk_hit ?_ | refine JE.blk_miss rfl ?_ | refine JE.then_ret ?_ | refine JE.blk_ret ?_ | refine JC.label ?_ | refine JL.gon rfl rfl ?_ | refine JL.gskip rfl rfl rfl rfl ?_ | refine JL.gskipU rfl rfl rfl rfl ?_)
  refine JL.alloc dkZ rfl fun b4 _ => ?_
  repeat (first | refine JL.q (by first | (apply OQ.callx (vs := [Pt x.p 0, .int .i64 n]); exact goes_has; exact rfl; exact (fun w' hw => c w' hw.chg)) | (apply OQ.not; exact rfl) | (apply OQ.move; exact rfl) | (apply OQ.assign; exact rfl) | (apply OQ.nilc; exact rfl) | (apply OQ.len; exact rfl; exact rfl) | (apply OQ.lssN; exact rfl; exact rfl) | (apply OQ.gtrN; exact rfl; exact rfl) | (apply OQ.idxS; exact rfl; exact rfl; exact rfl; exact rfl; exact (by (try simp only []); omega)) | (apply OQ.fld; exact rfl; exact rfl; exact rfl; exact (by decide); exact rfl)) rfl ?_ | refine JC.seq ?_ | refine JC.region ?_ | refine JC.block ?_ | refine JC.skip ?_ | refine JC.exit ?_ | refine JL.nil ?_ | refine JE.next ?_ | refine JE.blk_normal ?_ | refine JE.then_exit ?_ | refine JE.blk_hit ?_ | refine JE.blk_miss rfl ?_ | refine JE.then_ret ?_ | refine JE.blk_ret ?_ | refine JC.label ?_ | refine JL.gon rfl rfl ?_ | refine JL.gskip rfl rfl rfl rfl ?_ | refine JL.gskipU rfl rfl rfl rfl ?_)
  refine JC.cond_true rfl rfl ?_
  repeat (first | refine JL.q (by first | (apply OQ.buildB0) | (apply OQ.move; exact rfl) | (apply OQ.assign; exact rfl) | (apply OQ.nilc; exact rfl) | (apply OQ.len; exact rfl; exact rfl) | (apply OQ.lssN; exact rfl; exact rfl) | (apply OQ.gtrN; exact rfl; exact rfl) | (apply OQ.idxS; exact rfl; exact rfl; exact rfl; exact rfl; exact (by (try simp only []); omega)) | (apply OQ.fld; exact rfl; exact rfl; exact rfl; exact (by decide); exact rfl)) rfl ?_ | refine JC.seq ?_ | refine JC.region ?_ | refine JC.block ?_ | refine JC.skip ?_ | refine JC.exit ?_ | refine JL.nil ?_ | refine JE.next ?_ | refine JE.blk_normal ?_ | refine JE.then_exit ?_ | refine JE.blk_hit ?_ | refine JE.blk_miss rfl ?_ | refine JE.then_ret ?_ | refine JE.blk_ret ?_ | refine JC.label ?_ | refine JL.gon rfl rfl ?_ | refine JL.gskip rfl rfl rfl rfl ?_ | refine JL.gskipU rfl rfl rfl rfl ?_)
  refine JL.store_all (cs := bc zero) dkB rfl rfl rfl rfl .here rfl ?_
  repeat (first | refine JL.q (by first | (apply OQ.move; exact rfl) | (apply OQ.assign; exact rfl) | (apply OQ.nilc; exact rfl) | (apply OQ.len; exact rfl; exact rfl) | (apply OQ.lssN; exact rfl; exact rfl) | (apply OQ.gtrN; exact rfl; exact rfl) | (apply OQ.idxS; exact rfl; exact rfl; exact rfl; exact rfl; exact (by (try simp only []); omega)) | (apply OQ.fld; exact rfl; exact rfl; exact rfl; exact (by decide); exact rfl)) rfl ?_ | refine JC.seq ?_ | refine JC.region ?_ | refine JC.block ?_ | refine JC.skip ?_ | refine JC.exit ?_ | refine JL.nil ?_ | refine JE.next ?_ | refine JE.blk_normal ?_ | refine JE.then_exit ?_ | refine JE.blk_hit ?_ | refine JE.blk_miss rfl ?_ | refine JE.then_ret ?_ | refine JE.blk_ret ?_ | refine JC.label ?_ | refine JL.gon rfl rfl ?_ | refine JL.gskip rfl rfl rfl rfl ?_ | refine JL.gskipU rfl rfl rfl rfl ?_)
  refine JC.ret ?_
  repeat (first | refine JL.q (by first | (apply OQ.move; exact rfl) | (apply OQ.assign; exact rfl) | (apply OQ.nilc; exact rfl) | (apply OQ.len; exact rfl; exact rfl) | (apply OQ.lssN; exact rfl; exact rfl) | (apply OQ.gtrN; exact rfl; exact rfl) | (apply OQ.idxS; exact rfl; exact rfl; exact rfl; exact rfl; exact (by (try simp only []); omega)) | (apply OQ.fld; exact rfl; exact rfl; exact rfl; exact (by decide); exact rfl)) rfl ?_ | refine JC.seq ?_ | refine JC.region ?_ | refine JC.block ?_ | refine JC.skip ?_ | refine JC.exit ?_ | refine JL.nil ?_ | refine JE.next ?_ | refine JE.blk_normal ?_ | refine JE.then_exit ?_ | refine JE.blk_hit ?_ | refine JE.blk_miss rfl ?_ | refine JE.then_ret ?_ | refine JE.blk_ret ?_ | refine JC.label ?_ | refine JL.gon rfl rfl ?_ | refine JL.gskip rfl rfl rfl rfl ?_ | refine JL.gskipU rfl rfl rfl rfl ?_)
  exact JE.ret2 rfl (RV.cell_agg dkAg dkB rfl .here rfl Row.all) (RV.tmp rfl) fun w' hw => ⟨rfl, hw.chg⟩
set_option maxHeartbeats 4000000 in
theorem dread_ok (x : Dp) (bl : List Bk) (pd : List (Nat × Bk)) (n : Nat) (hn : n < bl.length) (ok : Ok bl pd) {u w : World} {S : List Nat} {M : List Ent} (h : Holds u S (dkE x bl pd ++ M) w) :
    Calls Try.prog 19 [Pt x.p 0, N n].toArray w fun e w' => e = .returned (.tuple #[.agg (bc (old bl n)).toArray, N 0]) ∧ Ext w w' := by
  have c := fun w' (hx : Ext w w') => has_any x.p (some ⟨x.q, 0, none⟩) bl.length x.cap n w' (by
    have := (dk_cell h).1
    rw [World.cell?, hx.block x.p (block_lt_of_cell this) (by simp)]
    exact this)
  rw [decide_eq_true (show (0 : Int) ≤ n ∧ (n : Int) < bl.length by omega)] at c
  have hro : Holds w [] (⟨x.p, Row 75 (dkRow x bl pd), false⟩ :: ⟨x.q, Sl.Own 32 64 bl.length x.cap (bcs bl).flatten, false⟩ :: []) w :=
    (ro_holds h).weak (.keep _ _ _ _ _ _ (fun _ h => h) (.keep _ _ _ _ _ _ (fun _ h => h) (.nil _)))
  refine enter (n := 18) Try.func19 rfl rfl rfl hro ?_
  repeat (first | refine JL.q (by first | (apply OQ.move; exact rfl) | (apply OQ.assign; exact rfl) | (apply OQ.nilc; exact rfl) | (apply OQ.len; exact rfl; exact rfl) | (apply OQ.lssN; exact rfl; exact rfl) | (apply OQ.gtrN; exact rfl; exact rfl) | (apply OQ.idxS; exact rfl; exact rfl; exact rfl; exact rfl; exact (by (try simp only []); omega)) | (apply OQ.fld; exact rfl; exact rfl; exact rfl; exact (by decide); exact rfl)) rfl ?_ | refine JC.seq ?_ | refine JC.region ?_ | refine JC.block ?_ | refine JC.skip ?_ | refine JC.exit ?_ | refine JL.nil ?_ | refine JE.next ?_ | refine JE.blk_normal ?_ | refine JE.then_exit ?_ | refine JE.blk_hit ?_ | refine JE.blk_miss rfl ?_ | refine JE.then_ret ?_ | refine JE.blk_ret ?_ | refine JC.label ?_ | refine JL.gon rfl rfl ?_ | refine JL.gskip rfl rfl rfl rfl ?_ | refine JL.gskipU rfl rfl rfl rfl ?_)
  refine JL.alloc dkZ rfl fun b4 _ => ?_
  repeat (first | refine JL.q (by first | (apply OQ.callx (vs := [Pt x.p 0, .int .i64 n]); exact goes_has; exact rfl; exact (fun w' hw => c w' hw.chg)) | (apply OQ.not; exact rfl) | (apply OQ.move; exact rfl) | (apply OQ.assign; exact rfl) | (apply OQ.nilc; exact rfl) | (apply OQ.len; exact rfl; exact rfl) | (apply OQ.lssN; exact rfl; exact rfl) | (apply OQ.gtrN; exact rfl; exact rfl) | (apply OQ.idxS; exact rfl; exact rfl; exact rfl; exact rfl; exact (by (try simp only []); omega)) | (apply OQ.fld; exact rfl; exact rfl; exact rfl; exact (by decide); exact rfl)) rfl ?_ | refine JC.seq ?_ | refine JC.region ?_ | refine JC.block ?_ | refine JC.skip ?_ | refine JC.exit ?_ | refine JL.nil ?_ | refine JE.next ?_ | refine JE.blk_normal ?_ | refine JE.then_exit ?_ | refine JE.blk_hit ?_ | refine JE.blk_miss rfl ?_ | refine JE.then_ret ?_ | refine JE.blk_ret ?_ | refine JC.label ?_ | refine JL.gon rfl rfl ?_ | refine JL.gskip rfl rfl rfl rfl ?_ | refine JL.gskipU rfl rfl rfl rfl ?_)
  refine JC.cond_false rfl rfl ?_
  repeat (first | refine JL.q (by first | (apply OQ.load; exact bsC; exact rfl; exact (.there .here); exact (Row.cell (v := .slice (some ⟨x.q, 0, none⟩) bl.length x.cap) rfl)) | (apply OQ.idxS; exact Try.underlying41; exact dkB; exact rfl; exact rfl; exact hn) | (apply OQ.move; exact rfl) | (apply OQ.assign; exact rfl) | (apply OQ.nilc; exact rfl) | (apply OQ.len; exact rfl; exact rfl) | (apply OQ.lssN; exact rfl; exact rfl) | (apply OQ.gtrN; exact rfl; exact rfl) | (apply OQ.idxS; exact rfl; exact rfl; exact rfl; exact rfl; exact (by (try simp only []); omega)) | (apply OQ.fld; exact rfl; exact rfl; exact rfl; exact (by decide); exact rfl)) rfl ?_ | refine JC.seq ?_ | refine JC.region ?_ | refine JC.block ?_ | refine JC.skip ?_ | refine JC.exit ?_ | refine JL.nil ?_ | refine JE.next ?_ | refine JE.blk_normal ?_ | refine JE.then_exit ?_ | refine JE.blk_hit ?_ | refine JE.blk_miss rfl ?_ | refine JE.then_ret ?_ | refine JE.blk_ret ?_ | refine JC.label ?_ | refine JL.gon rfl rfl ?_ | refine JL.gskip rfl rfl rfl rfl ?_ | refine JL.gskipU rfl rfl rfl rfl ?_)
  refine JL.q (v := .agg (bc (old bl n)).toArray) (OQ.to (OQ.loadC (L := bcs bl) (i := n) dkAg dkB rfl (Nat.zero_add _) (.there (.there .here)) (bcs_len ok) (by rw [bcs_n]; exact hn)) (by rw [bcs_at hn])) rfl ?_
  refine JL.store_all (cs := bc (old bl n)) dkB rfl rfl (bc_len (ok.old hn)) (bc_cell _) .here rfl ?_
  repeat (first | refine JL.q (by first | (apply OQ.move; exact rfl) | (apply OQ.assign; exact rfl) | (apply OQ.nilc; exact rfl) | (apply OQ.len; exact rfl; exact rfl) | (apply OQ.lssN; exact rfl; exact rfl) | (apply OQ.gtrN; exact rfl; exact rfl) | (apply OQ.idxS; exact rfl; exact rfl; exact rfl; exact rfl; exact (by (try simp only []); omega)) | (apply OQ.fld; exact rfl; exact rfl; exact rfl; exact (by decide); exact rfl)) rfl ?_ | refine JC.seq ?_ | refine JC.region ?_ | refine JC.block ?_ | refine JC.skip ?_ | refine JC.exit ?_ | refine JL.nil ?_ | refine JE.next ?_ | refine JE.blk_normal ?_ | refine JE.then_exit ?_ | refine JE.blk_hit ?_ | refine JE.blk_miss rfl ?_ | refine JE.then_ret ?_ | refine JE.blk_ret ?_ | refine JC.label ?_ | refine JL.gon rfl rfl ?_ | refine JL.gskip rfl rfl rfl rfl ?_ | refine JL.gskipU rfl rfl rfl rfl ?_)
  refine JC.ret ?_
  repeat (first | refine JL.q (by first | (apply OQ.move; exact rfl) | (apply OQ.assign; exact rfl) | (apply OQ.nilc; exact rfl) | (apply OQ.len; exact rfl; exact rfl) | (apply OQ.lssN; exact rfl; exact rfl) | (apply OQ.gtrN; exact rfl; exact rfl) | (apply OQ.idxS; exact rfl; exact rfl; exact rfl; exact rfl; exact (by (try simp only []); omega)) | (apply OQ.fld; exact rfl; exact rfl; exact rfl; exact (by decide); exact rfl)) rfl ?_ | refine JC.seq ?_ | refine JC.region ?_ | refine JC.block ?_ | refine JC.skip ?_ | refine JC.exit ?_ | refine JL.nil ?_ | refine JE.next ?_ | refine JE.blk_normal ?_ | refine JE.then_exit ?_ | refine JE.blk_hit ?_ | refine JE.blk_miss rfl ?_ | refine JE.then_ret ?_ | refine JE.blk_ret ?_ | refine JC.label ?_ | refine JL.gon rfl rfl ?_ | refine JL.gskip rfl rfl rfl rfl ?_ | refine JL.gskipU rfl rfl rfl rfl ?_)
  exact JE.ret2 rfl (RV.cell_agg dkAg dkB rfl .here (bc_len (ok.old hn)) Row.all) (RV.tmp rfl) fun w' hw => ⟨rfl, hw.chg⟩
theorem goes_dsync : Goes Try.prog 15 := ⟨_, Try.func15, rfl, by kernel_rfl⟩
theorem dsync_any (x : Dp) (bl : List Bk) (pd : List (Nat × Bk)) (w : World) (h : Holds w (keys (dkE x bl pd)) (dkE x bl pd) w) :
    Calls Try.prog 15 [Pt x.p 0].toArray w fun e w' => e = .returned (.tuple #[]) ∧ Holds w (keys (dkE x bl pd)) (dkE ⟨x.p, x.q, x.cap, none⟩ bl []) w' := by
  refine enter (n := 5) Try.func15 rfl rfl rfl h ?_
  repeat (first | refine JL.q (by first | (apply OQ.move; exact rfl) | (apply OQ.assign; exact rfl) | (apply OQ.nilc; exact rfl) | (apply OQ.len; exact rfl; exact rfl) | (apply OQ.lssN; exact rfl; exact rfl) | (apply OQ.gtrN; exact rfl; exact rfl) | (apply OQ.idxS; exact rfl; exact rfl; exact rfl; exact rfl; exact (by (try simp only []); omega)) | (apply OQ.fld; exact rfl; exact rfl; exact rfl; exact (by decide); exact rfl)) rfl ?_ | refine JC.seq ?_ | refine JC.region ?_ | refine JC.block ?_ | refine JC.skip ?_ | refine JC.exit ?_ | refine JL.nil ?_ | refine JE.next ?_ | refine JE.blk_normal ?_ | refine JE.then_exit ?_ | refine JE.blk_hit ?_ | refine JE.blk_miss rfl ?_ | refine JE.then_ret ?_ | refine JE.blk_ret ?_ | refine JC.label ?_ | refine JL.gon rfl rfl ?_ | refine JL.gskip rfl rfl rfl rfl ?_ | refine JL.gskipU rfl rfl rfl rfl ?_)
  refine JL.store_eq (b := x.p) (r := dkRow x bl pd) (r' := [.slice (some ⟨x.q, 0, none⟩) bl.length x.cap, .slice none 0 0]) ws1 rfl rfl rfl rfl .here (show 1 < 2 by decide) rfl ?_
  repeat (first | refine JL.q (by first | (apply OQ.move; exact rfl) | (apply OQ.assign; exact rfl) | (apply OQ.nilc; exact rfl) | (apply OQ.len; exact rfl; exact rfl) | (apply OQ.lssN; exact rfl; exact rfl) | (apply OQ.gtrN; exact rfl; exact rfl) | (apply OQ.idxS; exact rfl; exact rfl; exact rfl; exact rfl; exact (by (try simp only []); omega)) | (apply OQ.fld; exact rfl; exact rfl; exact rfl; exact (by decide); exact rfl)) rfl ?_ | refine JC.seq ?_ | refine JC.region ?_ | refine JC.block ?_ | refine JC.skip ?_ | refine JC.exit ?_ | refine JL.nil ?_ | refine JE.next ?_ | refine JE.blk_normal ?_ | refine JE.then_exit ?_ | refine JE.blk_hit ?_ | refine JE.blk_miss rfl ?_ | refine JE.then_ret ?_ | refine JE.blk_ret ?_ | refine JC.label ?_ | refine JL.gon rfl rfl ?_ | refine JL.gskip rfl rfl rfl rfl ?_ | refine JL.gskipU rfl rfl rfl rfl ?_)
  refine JE.end0 rfl fun w' hw => ⟨rfl, hw.weak ?_⟩
  exact .keep _ _ _ _ _ _ (fun _ h => h) (.keep _ _ _ _ _ _ (fun _ h => h) (.nil _))
theorem goes_dwrite : Goes Try.prog 13 := ⟨_, Try.func13, rfl, by kernel_rfl⟩
set_option maxHeartbeats 4000000 in
theorem dwrite_bad (x : Dp) (bl : List Bk) (pd : List (Nat × Bk)) (n : Int) (b : Bk) (hn : ¬ (0 ≤ n ∧ n < bl.length)) {u w : World} {S : List Nat} {M : List Ent} (h : Holds u S (dkE x bl pd ++ M) w) :
    Calls Try.prog 13 [Pt x.p 0, .int .i64 n, .agg (bc b).toArray].toArray w fun e w' => e = .returned (N 2) ∧ Ext w w' := by
  have c := fun w' (hx : Ext w w') => has_any x.p (some ⟨x.q, 0, none⟩) bl.length x.cap n w' (by
    have := (dk_cell h).1
    rw [World.cell?, hx.block x.p (block_lt_of_cell this) (by simp)]
    exact this)
  rw [decide_eq_false hn] at c
  refine enter (n := 36) Try.func13 rfl rfl rfl (Holds.start w []) ?_
  repeat (first | refine JL.q (by first | (apply OQ.move; exact rfl) | (apply OQ.assign; exact rfl) | (apply OQ.nilc; exact rfl) | (apply OQ.len; exact rfl; exact rfl) | (apply OQ.lssN; exact rfl; exact rfl) | (apply OQ.gtrN; exact rfl; exact rfl) | (apply OQ.idxS; exact rfl; exact rfl; exact rfl; exact rfl; exact (by (try simp only []); omega)) | (apply OQ.fld; exact rfl; exact rfl; exact rfl; exact (by decide); exact rfl)) rfl ?_ | refine JC.seq ?_ | refine JC.region ?_ | refine JC.block ?_ | refine JC.skip ?_ | refine JC.exit ?_ | refine JL.nil ?_ | refine JE.next ?_ | refine JE.blk_normal ?_ | refine JE.then_exit ?_ | refine JE.blk_hit ?_ | refine JE.blk_miss rfl ?_ | refine JE.then_ret ?_ | refine JE.blk_ret ?_ | refine JC.label ?_ | refine JL.gon rfl rfl ?_ | refine JL.gskip rfl rfl rfl rfl ?_ | refine JL.gskipU rfl rfl rfl rfl ?_)
  refine JL.box (r := bc b) rfl rfl rfl fun b5 _ => ?_
  repeat (first | refine JL.q (by first | (apply OQ.callx (vs := [Pt x.p 0, .int .i64 n]); exact goes_has; exact rfl; exact (fun w' hw => c w' hw.chg)) | (apply OQ.not; exact rfl) | (apply OQ.move; exact rfl) | (apply OQ.assign; exact rfl) | (apply OQ.nilc; exact rfl) | (apply OQ.len; exact rfl; exact rfl) | (apply OQ.lssN; exact rfl; exact rfl) | (apply OQ.gtrN; exact rfl; exact rfl) | (apply OQ.idxS; exact rfl; exact rfl; exact rfl; exact rfl; exact (by (try simp only []); omega)) | (apply OQ.fld; exact rfl; exact rfl; exact rfl; exact (by decide); exact rfl)) rfl ?_ | refine JC.seq ?_ | refine JC.region ?_ | refine JC.block ?_ | refine JC.skip ?_ | refine JC.exit ?_ | refine JL.nil ?_ | refine JE.next ?_ | refine JE.blk_normal ?_ | refine JE.then_exit ?_ | refine JE.blk_hit ?_ | refine JE.blk_miss rfl ?_ | refine JE.then_ret ?_ | refine JE.blk_ret ?_ | refine JC.label ?_ | refine JL.gon rfl rfl ?_ | refine JL.gskip rfl rfl rfl rfl ?_ | refine JL.gskipU rfl rfl rfl rfl ?_)
  refine JC.cond_true rfl rfl ?_
  repeat (first | refine JL.q (by first | (apply OQ.move; exact rfl) | (apply OQ.assign; exact rfl) | (apply OQ.nilc; exact rfl) | (apply OQ.len; exact rfl; exact rfl) | (apply OQ.lssN; exact rfl; exact rfl) | (apply OQ.gtrN; exact rfl; exact rfl) | (apply OQ.idxS; exact rfl; exact rfl; exact rfl; exact rfl; exact (by (try simp only []); omega)) | (apply OQ.fld; exact rfl; exact rfl; exact rfl; exact (by decide); exact rfl)) rfl ?_ | refine JC.seq ?_ | refine JC.region ?_ | refine JC.block ?_ | refine JC.skip ?_ | refine JC.exit ?_ | refine JL.nil ?_ | refine JE.next ?_ | refine JE.blk_normal ?_ | refine JE.then_exit ?_ | refine JE.blk_hit ?_ | refine JE.blk_miss rfl ?_ | refine JE.then_ret ?_ | refine JE.blk_ret ?_ | refine JC.label ?_ | refine JL.gon rfl rfl ?_ | refine JL.gskip rfl rfl rfl rfl ?_ | refine JL.gskipU rfl rfl rfl rfl ?_)
  refine JC.ret ?_
  repeat (first | refine JL.q (by first | (apply OQ.move; exact rfl) | (apply OQ.assign; exact rfl) | (apply OQ.nilc; exact rfl) | (apply OQ.len; exact rfl; exact rfl) | (apply OQ.lssN; exact rfl; exact rfl) | (apply OQ.gtrN; exact rfl; exact rfl) | (apply OQ.idxS; exact rfl; exact rfl; exact rfl; exact rfl; exact (by (try simp only []); omega)) | (apply OQ.fld; exact rfl; exact rfl; exact rfl; exact (by decide); exact rfl)) rfl ?_ | refine JC.seq ?_ | refine JC.region ?_ | refine JC.block ?_ | refine JC.skip ?_ | refine JC.exit ?_ | refine JL.nil ?_ | refine JE.next ?_ | refine JE.blk_normal ?_ | refine JE.then_exit ?_ | refine JE.blk_hit ?_ | refine JE.blk_miss rfl ?_ | refine JE.then_ret ?_ | refine JE.blk_ret ?_ | refine JC.label ?_ | refine JL.gon rfl rfl ?_ | refine JL.gskip rfl rfl rfl rfl ?_ | refine JL.gskipU rfl rfl rfl rfl ?_)
  exact JE.ret1 rfl (RV.tmp rfl) fun w' hw => ⟨rfl, hw.chg⟩
set_option maxHeartbeats 16000000 in
theorem dwrite_ok (x : Dp) (bl : List Bk) (pd : List (Nat × Bk)) (n : Nat) (b : Bk) (hn : n < bl.length) (hb : b.length = 64) (h : DkOk x bl pd) (w : World) (hw : Holds w (keys (dkE x bl pd)) (dkE x bl pd) w) :
    Calls Try.prog 13 [Pt x.p 0, N n, .agg (bc b).toArray].toArray w fun e w' => ∃ y : Nat × Nat, e = .returned (N 0) ∧ Holds w (keys (dkE x bl pd)) (dkE ⟨x.p, x.q, x.cap, some y⟩ (bl.set n b) (wrote bl pd n)) w' := by
  have hq : x.a = none → wcs pd = [] := fun e => by rw [h.a e]; rfl
  have hr1 : (dkRow x bl pd)[1]? = some (accV x.a (wcs pd).length) := by rw [wcs_n]; rfl
  have hol : (old bl n).length = 64 := h.ok.old hn
  have hwl : (wc (n, old bl n)).length = 65 := by rw [wc, List.length_cons, bc_len hol]
  have hwo : ∀ v ∈ wc (n, old bl n), v.oneCell' = true := by
    intro v hv
    rcases List.mem_cons.1 hv with rfl | hv
    · rfl
    · exact List.all_eq_true.1 (bc_cell _) v hv
  generalize hS : keys (dkE x bl pd) = S at hw ⊢
  refine enter (n := 36) Try.func13 rfl rfl rfl hw ?_
  repeat (first | refine JL.q (by first | (apply OQ.move; exact rfl) | (apply OQ.assign; exact rfl) | (apply OQ.nilc; exact rfl) | (apply OQ.len; exact rfl; exact rfl) | (apply OQ.lssN; exact rfl; exact rfl) | (apply OQ.gtrN; exact rfl; exact rfl) | (apply OQ.idxS; exact rfl; exact rfl; exact rfl; exact rfl; exact (by (try simp only []); omega)) | (apply OQ.fld; exact rfl; exact rfl; exact rfl; exact (by decide); exact rfl)) rfl ?_ | refine JC.seq ?_ | refine JC.region ?_ | refine JC.block ?_ | refine JC.skip ?_ | refine JC.exit ?_ | refine JL.nil ?_ | refine JE.next ?_ | refine JE.blk_normal ?_ | refine JE.then_exit ?_ | refine JE.blk_hit ?_ | refine JE.blk_miss rfl ?_ | refine JE.then_ret ?_ | refine JE.blk_ret ?_ | refine JC.label ?_ | refine JL.gon rfl rfl ?_ | refine JL.gskip rfl rfl rfl rfl ?_ | refine JL.gskipU rfl rfl rfl rfl ?_)
  refine JL.box (r := bc b) rfl rfl rfl fun b5 _ => ?_
  have hc : ∀ w', Holds w S (⟨b5, Row 32 (bc b), true⟩ :: dkE x bl pd) w' → Calls Try.prog 37 [Pt x.p 0, .int .i64 n].toArray w' fun e w2 => e = .returned (.bool true) ∧ Ext w' w2 := fun w' hw' => by
    have := has_any x.p (some ⟨x.q, 0, none⟩) bl.length x.cap n w' (dk_cell (M := []) (hw'.weak (.drop _ _ _ (by rw [List.append_nil]; exact Less.refl _)))).1
    rwa [decide_eq_true (show (0 : Int) ≤ n ∧ (n : Int) < bl.length by omega)] at this
  repeat (first | refine JL.q (by first | (apply OQ.callx (vs := [Pt x.p 0, .int .i64 n]); exact goes_has; exact rfl; exact hc) | (apply OQ.not; exact rfl) | (apply OQ.move; exact rfl) | (apply OQ.assign; exact rfl) | (apply OQ.nilc; exact rfl) | (apply OQ.len; exact rfl; exact rfl) | (apply OQ.lssN; exact rfl; exact rfl) | (apply OQ.gtrN; exact rfl; exact rfl) | (apply OQ.idxS; exact rfl; exact rfl; exact rfl; exact rfl; exact (by (try simp only []); omega)) | (apply OQ.fld; exact rfl; exact rfl; exact rfl; exact (by decide); exact rfl)) rfl ?_ | refine JC.seq ?_ | refine JC.region ?_ | refine JC.block ?_ | refine JC.skip ?_ | refine JC.exit ?_ | refine JL.nil ?_ | refine JE.next ?_ | refine JE.blk_normal ?_ | refine JE.then_exit ?_ | refine JE.blk_hit ?_ | refine JE.blk_miss rfl ?_ | refine JE.then_ret ?_ | refine JE.blk_ret ?_ | refine JC.label ?_ | refine JL.gon rfl rfl ?_ | refine JL.gskip rfl rfl rfl rfl ?_ | refine JL.gskipU rfl rfl rfl rfl ?_)
  refine JC.cond_false rfl rfl ?_
  repeat (first | refine JL.q (by first | (apply OQ.move; exact rfl) | (apply OQ.assign; exact rfl) | (apply OQ.nilc; exact rfl) | (apply OQ.len; exact rfl; exact rfl) | (apply OQ.lssN; exact rfl; exact rfl) | (apply OQ.gtrN; exact rfl; exact rfl) | (apply OQ.idxS; exact rfl; exact rfl; exact rfl; exact rfl; exact (by (try simp only []); omega)) | (apply OQ.fld; exact rfl; exact rfl; exact rfl; exact (by decide); exact rfl)) rfl ?_ | refine JC.seq ?_ | refine JC.region ?_ | refine JC.block ?_ | refine JC.skip ?_ | refine JC.exit ?_ | refine JL.nil ?_ | refine JE.next ?_ | refine JE.blk_normal ?_ | refine JE.then_exit ?_ | refine JE.blk_hit ?_ | refine JE.blk_miss rfl ?_ | refine JE.then_ret ?_ | refine JE.blk_ret ?_ | refine JC.label ?_ | refine JL.gon rfl rfl ?_ | refine JL.gskip rfl rfl rfl rfl ?_ | refine JL.gskipU rfl rfl rfl rfl ?_)
  let vs : Nat → Nat × Nat → Value := fun j y => match j with
    | 0 => Pt x.p 0
    | 1 => Pt x.p 0
    | 2 => Pt x.p 0
    | 3 => Pt x.p 1
    | 4 => accV x.a (wcs pd).length
    | 5 => N n
    | 6 => Pt x.p 0
    | 7 => Pt x.p 0
    | 8 => Pt x.p 0
    | 9 => .slice (some ⟨x.q, 0, none⟩) bl.length x.cap
    | 10 => N n
    | 11 => Pt x.q (0 + n * 64)
    | 12 => .agg (bc (old bl n)).toArray
    | 13 => .agg (wc (n, old bl n)).toArray
    | 14 => .slice (some ⟨y.1, 0, none⟩) 1 1
    | 15 => accV (some y) (wcs pd ++ [wc (n, old bl n)]).length
    | 16 => Pt x.p 0
    | 17 => Pt x.p 1
    | _ => N 0
  let Ms : Nat → Nat × Nat → List Ent := fun j y => match j with
    | 14 => [⟨y.1, Row 77 (wc (n, old bl n)), true⟩]
    | 15 => accC 77 65 (some y) (wcs pd ++ [wc (n, old bl n)])
    | 18 => [⟨x.p, Row 75 [.slice (some ⟨x.q, 0, none⟩) bl.length x.cap, accV (some y) (wcs pd ++ [wc (n, old bl n)]).length], true⟩]
    | 19 => [⟨b5, Row 32 (bc b), true⟩]
    | 20 => [⟨x.p, Row 75 (dkRow x bl pd), true⟩]
    | 21 => [⟨x.q, Sl.Own 32 64 bl.length x.cap (bcs bl).flatten, true⟩]
    | 22 => accC 77 65 x.a (wcs pd)
    | _ => []
  refine JC.grow (g := ⟨[(0, Pt x.p 0), (1, N n), (5, Pt b5 0)], 23, vs, Ms, (fun j => match j with | 2 => [(1, 12)] | 3 => [(2, 13)] | 4 => [(3, 14)] | 7 => [(6, 17)] | 8 => [(7, 18)] | 9 => [(8, 19)] | 11 => [(9, 20), (10, 21)] | 12 => [(11, 22)] | 13 => [(5, 16), (12, 23)] | 14 => [(13, 24)] | 15 => [(4, 15), (14, 25)] | 16 => [(0, 11)] | 17 => [(16, 27)] | 18 => [(17, 28), (15, 26)] | _ => []), (fun j => match j with | 4 => [20] | 9 => [20] | 12 => [21] | 15 => [14, 22] | 18 => [20] | _ => []), (fun j => match j with | 15 => [14, 22] | 18 => [20] | _ => []), (fun j => match j with | 18 => some 15 | _ => none)⟩) [] [18, 21, 15, 19] mixT (by repeat (first | exact SubE.nil | refine SubE.cons _ _ _ rfl ?_)) ?_ (by kernel_rfl) (by kernel_rfl) (by kernel_rfl) ?_ ?_
  · show Less (Ms 19 default ++ (Ms 20 default ++ (Ms 21 default ++ (Ms 22 default ++ [])))) _; rw [List.append_nil]; exact Less.refl _
  · refine ⟨?_, ?_, ?_, ?_, ?_, ?_, ?_, ?_, ?_, ?_, ?_, ?_, ?_, ?_, ?_, ?_, ?_, ?_, ?_, trivial⟩
    · (intro xx EF MF Q kk; (try refine JL.gon rfl rfl ?_); exact JL.q (OQ.move rfl) rfl (JL.nil (kk default nofun)))
    · (intro xx EF MF Q kk; (try refine JL.gon rfl rfl ?_); exact JL.q (OQ.move rfl) rfl (JL.nil (kk default nofun)))
    · (intro xx EF MF Q kk; (try refine JL.gon rfl rfl ?_); exact JL.q (OQ.nilc rfl) rfl (JL.nil (kk default nofun)))
    · (intro xx EF MF Q kk; (try refine JL.gon rfl rfl ?_); exact JL.q (OQ.fld rfl rfl rfl (by decide) rfl) rfl (JL.nil (kk default nofun)))
    · (intro xx EF MF Q kk; (try refine JL.gon rfl rfl ?_); exact JL.q (OQ.load wsC rfl .here (Row.cell (v := accV x.a (wcs pd).length) hr1)) rfl (JL.nil (kk default nofun)))
    · (intro xx EF MF Q kk; (try refine JL.gon rfl rfl ?_); exact JL.q (OQ.move rfl) rfl (JL.nil (kk default nofun)))
    · (intro xx EF MF Q kk; (try refine JL.gon rfl rfl ?_); exact JL.q (OQ.move rfl) rfl (JL.nil (kk default nofun)))
    · (intro xx EF MF Q kk; (try refine JL.gon rfl rfl ?_); exact JL.q (OQ.nilc rfl) rfl (JL.nil (kk default nofun)))
    · (intro xx EF MF Q kk; (try refine JL.gon rfl rfl ?_); exact JL.q (OQ.fld rfl rfl rfl (by decide) rfl) rfl (JL.nil (kk default nofun)))
    · (intro xx EF MF Q kk; (try refine JL.gon rfl rfl ?_); exact JL.q (OQ.load bsC rfl .here (Row.cell (v := .slice (some ⟨x.q, 0, none⟩) bl.length x.cap) rfl)) rfl (JL.nil (kk default nofun)))
    · (intro xx EF MF Q kk; (try refine JL.gon rfl rfl ?_); exact JL.q (OQ.move rfl) rfl (JL.nil (kk default nofun)))
    · (intro xx EF MF Q kk; (try refine JL.gon rfl rfl ?_); exact JL.q (OQ.idxS Try.underlying41 dkB rfl rfl hn) rfl (JL.nil (kk default nofun)))
    · (intro xx EF MF Q kk; (try refine JL.gon rfl rfl ?_); exact JL.q (OQ.to (OQ.loadC (L := bcs bl) (i := n) dkAg dkB rfl (Nat.zero_add _) .here (bcs_len h.ok) (by rw [bcs_n]; exact hn)) (by rw [bcs_at hn]; rfl)) rfl (JL.nil (kk default nofun)))
    · (intro xx EF MF Q kk; (try refine JL.gon rfl rfl ?_); exact JL.q (OQ.buildW rfl rfl hol) rfl (JL.nil (kk default nofun)))
    · (intro xx EF MF Q kk; exact JL.litA (cs := wc (n, old bl n)) Try.underlying73 dwI rfl (by decide) (by decide) rfl hwl rfl fun b _ => JL.nil (kk (b, 0) nofun))
    · (intro xx EF MF Q kk; refine JL.perm (M' := ⟨(xx 14).1, Row 77 (wc (n, old bl n)), true⟩ :: (accC 77 65 x.a (wcs pd) ++ MF)) ?_ (List.Perm.of_eq (by show (Ms 14 (xx 14) ++ (Ms 22 (xx 22) ++ [])) ++ MF = _; simp [Ms])); exact JL.appendC x.a Try.underlying73 dwI hq rfl rfl hwl hwo rfl (by decide) (by rw [wcs_n]; have := h.m; omega) (by rw [wcs_n]; have := h.m; omega) rfl fun b' cap' => JL.nil (kk (b', cap') nofun))
    · (intro xx EF MF Q kk; (try refine JL.gon rfl rfl ?_); exact JL.q (OQ.nilc rfl) rfl (JL.nil (kk default nofun)))
    · (intro xx EF MF Q kk; (try refine JL.gon rfl rfl ?_); exact JL.q (OQ.fld rfl rfl rfl (by decide) rfl) rfl (JL.nil (kk default nofun)))
    · (intro xx EF MF Q kk; exact JL.store_eq (b := x.p) (r := dkRow x bl pd) (r' := [.slice (some ⟨x.q, 0, none⟩) bl.length x.cap, accV (some (xx 15)) (wcs pd ++ [wc (n, old bl n)]).length]) ws1 rfl rfl rfl rfl .here (show 1 < 2 by decide) rfl (JL.nil (kk (xx 15) (fun k h => by cases h; rfl))))
  · intro xx hx
    have e18 := hx 18 15 (by decide) rfl
    show JE _ _ _ _ _ [(0, Pt x.p 0), (1, N n), (5, Pt b5 0)] [⟨x.p, Row 75 [.slice (some ⟨x.q, 0, none⟩) bl.length x.cap, accV (some (xx 18)) (wcs pd ++ [wc (n, old bl n)]).length], true⟩, ⟨x.q, Sl.Own 32 64 bl.length x.cap (bcs bl).flatten, true⟩, ⟨(xx 15).1, Sl.Own 77 65 (wcs pd ++ [wc (n, old bl n)]).length (xx 15).2 (wcs pd ++ [wc (n, old bl n)]).flatten, true⟩, ⟨b5, Row 32 (bc b), true⟩]
    rw [e18]
    generalize xx 15 = y
    clear hx e18 xx vs Ms
    (repeat (first | refine JL.q (by first | (apply OQ.move; exact rfl) | (apply OQ.assign; exact rfl) | (apply OQ.nilc; exact rfl) | (apply OQ.len; exact rfl; exact rfl) | (apply OQ.lssN; exact rfl; exact rfl) | (apply OQ.gtrN; exact rfl; exact rfl) | (apply OQ.idxS; exact rfl; exact rfl; exact rfl; exact rfl; exact (by (try simp only []); omega)) | (apply OQ.fld; exact rfl; exact rfl; exact rfl; exact (by decide); exact rfl)) rfl ?_ | refine JC.seq ?_ | refine JC.region ?_ | refine JC.block ?_ | refine JC.skip ?_ | refine JC.exit ?_ | refine JL.nil ?_ | refine JE.next ?_ | refine JE.blk_normal ?_ | refine JE.then_exit ?_ | refine JE.blk_hit ?_ | refine JE.blk_miss rfl ?_ | refine JE.then_ret ?_ | refine JE.blk_ret ?_ | refine JC.label ?_ | refine JL.gon rfl rfl ?_ | refine JL.gskip rfl rfl rfl rfl ?_ | refine JL.gskipU rfl rfl rfl rfl ?_))
    refine JC.tail 6 mixT (by kernel_rfl) ?_
    simp only [List.take_succ_cons, List.take_zero, List.drop_succ_cons, List.drop_zero]
    (repeat (first | refine JL.q (by first | (apply OQ.load; exact bsC; exact rfl; exact .here; exact (Row.cell (v := .slice (some ⟨x.q, 0, none⟩) bl.length x.cap) rfl)) | (apply OQ.load_agg (cs := bc b); exact dkAg; exact dkB; exact rfl; exact (.there (.there (.there .here))); exact (bc_len hb); exact Row.all) | (apply OQ.idxS; exact Try.underlying41; exact dkB; exact rfl; exact rfl; exact hn) | (apply OQ.move; exact rfl) | (apply OQ.assign; exact rfl) | (apply OQ.nilc; exact rfl) | (apply OQ.len; exact rfl; exact rfl) | (apply OQ.lssN; exact rfl; exact rfl) | (apply OQ.gtrN; exact rfl; exact rfl) | (apply OQ.idxS; exact rfl; exact rfl; exact rfl; exact rfl; exact (by (try simp only []); omega)) | (apply OQ.fld; exact rfl; exact rfl; exact rfl; exact (by decide); exact rfl)) rfl ?_ | refine JQ.q (by first | (apply OQ.load; exact bsC; exact rfl; exact .here; exact (Row.cell (v := .slice (some ⟨x.q, 0, none⟩) bl.length x.cap) rfl)) | (apply OQ.load_agg (cs := bc b); exact dkAg; exact dkB; exact rfl; exact (.there (.there (.there .here))); exact (bc_len hb); exact Row.all) | (apply OQ.idxS; exact Try.underlying41; exact dkB; exact rfl; exact rfl; exact hn) | (apply OQ.move; exact rfl) | (apply OQ.assign; exact rfl) | (apply OQ.nilc; exact rfl) | (apply OQ.len; exact rfl; exact rfl) | (apply OQ.lssN; exact rfl; exact rfl) | (apply OQ.gtrN; exact rfl; exact rfl) | (apply OQ.idxS; exact rfl; exact rfl; exact rfl; exact rfl; exact (by (try simp only []); omega)) | (apply OQ.fld; exact rfl; exact rfl; exact rfl; exact (by decide); exact rfl)) rfl ?_ | refine JC.seq ?_ | refine JC.region ?_ | refine JC.block ?_ | refine JC.skip ?_ | refine JC.exit ?_ | refine JL.nil ?_ | refine JQ.nil ?_ | refine JQ.nil_tail ?_ | refine JE.next ?_ | refine JE.blk_normal ?_ | refine JE.then_exit ?_ | refine JE.blk_hit ?_ | refine JE.blk_miss rfl ?_ | refine JE.then_ret ?_ | refine JE.blk_ret ?_ | refine JC.label ?_ | refine JL.gon rfl rfl ?_ | refine JQ.gon rfl rfl ?_ | refine JL.gskip rfl rfl rfl rfl ?_ | refine JQ.gskip rfl rfl rfl rfl ?_ | refine JL.gskipU rfl rfl rfl rfl ?_ | refine JQ.gskipU rfl rfl rfl rfl ?_))
    refine JL.storeC (L := bcs bl) (i := n) dkB rfl (Nat.zero_add _) rfl (bc_len hb) (bc_cell _) (bcs_len h.ok) (bcs_n bl) hn (.there .here) ?_
    (repeat (first | refine JL.q (by first | (apply OQ.move; exact rfl) | (apply OQ.assign; exact rfl) | (apply OQ.nilc; exact rfl) | (apply OQ.len; exact rfl; exact rfl) | (apply OQ.lssN; exact rfl; exact rfl) | (apply OQ.gtrN; exact rfl; exact rfl) | (apply OQ.idxS; exact rfl; exact rfl; exact rfl; exact rfl; exact (by (try simp only []); omega)) | (apply OQ.fld; exact rfl; exact rfl; exact rfl; exact (by decide); exact rfl)) rfl ?_ | refine JQ.q (by first | (apply OQ.move; exact rfl) | (apply OQ.assign; exact rfl) | (apply OQ.nilc; exact rfl) | (apply OQ.len; exact rfl; exact rfl) | (apply OQ.lssN; exact rfl; exact rfl) | (apply OQ.gtrN; exact rfl; exact rfl) | (apply OQ.idxS; exact rfl; exact rfl; exact rfl; exact rfl; exact (by (try simp only []); omega)) | (apply OQ.fld; exact rfl; exact rfl; exact rfl; exact (by decide); exact rfl)) rfl ?_ | refine JC.seq ?_ | refine JC.region ?_ | refine JC.block ?_ | refine JC.skip ?_ | refine JC.exit ?_ | refine JL.nil ?_ | refine JQ.nil ?_ | refine JQ.nil_tail ?_ | refine JE.next ?_ | refine JE.blk_normal ?_ | refine JE.then_exit ?_ | refine JE.blk_hit ?_ | refine JE.blk_miss rfl ?_ | refine JE.then_ret ?_ | refine JE.blk_ret ?_ | refine JC.label ?_ | refine JL.gon rfl rfl ?_ | refine JQ.gon rfl rfl ?_ | refine JL.gskip rfl rfl rfl rfl ?_ | refine JQ.gskip rfl rfl rfl rfl ?_ | refine JL.gskipU rfl rfl rfl rfl ?_ | refine JQ.gskipU rfl rfl rfl rfl ?_))
    refine JC.ret (JE.ret1 rfl (RV.tmp rfl) fun w' hw => ⟨y, rfl, hw.weak ?_⟩)
    have e1 : wcs (wrote bl pd n) = wcs pd ++ [wc (n, old bl n)] := by simp [wcs, wrote]
    have e2 : (wrote bl pd n).length = (wcs pd ++ [wc (n, old bl n)]).length := by rw [← e1, wcs_n]
    unfold dkE dkRow
    rw [e1, e2, List.length_set, ← bcs_set]
    exact .keep _ _ _ _ _ _ (fun _ h => h) (.keep _ _ _ _ _ _ (fun _ h => h) (.keep _ _ _ _ _ _ (fun _ h => h) (.nil _)))
end Go.Proofs.Ytopdkpeahhnihaa

/-
  Of no statement by itself: ranges over functions ('for x := range seq'): a round's body walked with the rules for lists of operations; what the caller of the iterator owes; a function that leaves with such a loop's mark among its deferred calls; for any program P.
  Conditions: each rule's own hypotheses.
-/
namespace Go.Proofs.Ytopdkpeahhnihaa
namespace Sl

/-! ### entries, less than known -/
inductive Less2 : List Ent → List Ent → Prop where
  | nil (N : List Ent) : Less2 [] N
  | keep (b : Nat) (A A' : Obj → Prop) (wr wr' : Bool) (N N' : List Ent) : (∀ o, A o → A' o) → (wr' = true → wr = true) → Less2 N' N → Less2 (⟨b, A', wr'⟩ :: N') (⟨b, A, wr⟩ :: N)
  | drop (e : Ent) (N N' : List Ent) : Less2 N' N → Less2 N' (e :: N)
theorem Less2.keys {M M' : List Ent} (h : Less2 M' M) : (M'.map Ent.b).Sublist (M.map Ent.b) := by
  induction h with
  | nil => exact List.nil_sublist _
  | keep _ _ _ _ _ _ _ _ _ _ ih => exact ih.cons_cons _
  | drop _ _ _ _ ih => exact ih.cons _
theorem Less2.old {M M' : List Ent} (h : Less2 M' M) : ∀ e ∈ M', ∃ e' ∈ M, e'.b = e.b ∧ (e.wr = true → e'.wr = true) ∧ ∀ o, e'.A o → e.A o := by
  induction h with
  | nil => simp
  | keep b A A' wr wr' M M' hA hw _ ih =>
    intro e he
    simp only [List.mem_cons] at he
    rcases he with rfl | he
    · exact ⟨⟨b, A, wr⟩, by simp, rfl, hw, hA⟩
    · obtain ⟨e', h1, h2⟩ := ih e he
      exact ⟨e', by simp [h1], h2⟩
  | drop _ _ _ _ ih =>
    intro e he
    obtain ⟨e', h1, h2⟩ := ih e he
    exact ⟨e', by simp [h1], h2⟩
theorem Holds.weak2 {w0 w : World} {S : List Nat} {M M' : List Ent} (h : Holds w0 S M w) (hs : Less2 M' M) : Holds w0 S M' w := by
  refine ⟨h.chg, h.nodup.sublist hs.keys, fun e he => ?_⟩
  obtain ⟨e', h1, h2, h3, h4⟩ := hs.old e he
  obtain ⟨⟨o, ho, hA⟩, h5⟩ := h.all e' h1
  exact ⟨⟨o, h2 ▸ ho, h4 o hA⟩, fun hw => h2 ▸ h5 (h3 hw)⟩
theorem Holds.perm {w0 w : World} {S : List Nat} {M M' : List Ent} (h : Holds w0 S M w) (hp : M.Perm M') : Holds w0 S M' w :=
  ⟨h.chg, (hp.map Ent.b).nodup_iff.1 h.nodup, fun e he => h.all e (hp.mem_iff.2 he)⟩
/-- the blocks that may be written -/
def wrs (M : List Ent) : List Nat := (M.filter (·.wr)).map Ent.b
theorem mem_wrs {M : List Ent} {k : Nat} : k ∈ wrs M ↔ ∃ e ∈ M, e.wr = true ∧ e.b = k := by
  simp [wrs, and_assoc]
/-- the same knowledge, from this world on -/
theorem Holds.rebase {w0 w : World} {S : List Nat} {M : List Ent} (h : Holds w0 S M w) : Holds w (wrs M) M w :=
  ⟨Chg.refl _ _, h.nodup, fun e he => ⟨(h.all e he).1, fun hw => .inl (mem_wrs.2 ⟨e, he, hw, rfl⟩)⟩⟩
theorem Holds.wrs_ge {w0 w : World} {M : List Ent} (h : Holds w0 [] M w) : ∀ k ∈ wrs M, w0.heap.size ≤ k := fun k hk => by
  obtain ⟨e, he, hw, rfl⟩ := mem_wrs.1 hk
  rcases (h.all e he).2 hw with h | h
  · cases h
  · exact h
theorem Holds.unbase {w0 w w' : World} {M M' : List Ent} (h : Holds w0 [] M w) (h' : Holds w (wrs M) M' w') : Holds w0 [] M' w' := by
  refine ⟨⟨h'.chg.os.trans h.chg.os, h'.chg.tape.trans h.chg.tape, h'.chg.output.trans h.chg.output, Nat.le_trans h.chg.size h'.chg.size, fun k hk _ => ?_⟩, h'.nodup, fun e he => ⟨(h'.all e he).1, fun hw => .inr ?_⟩⟩
  · refine (h'.chg.block k (Nat.lt_of_lt_of_le hk h.chg.size) fun hm => ?_).trans (h.chg.block k hk (by simp))
    have := h.wrs_ge k hm
    omega
  · rcases (h'.all e he).2 hw with h1 | h1
    · exact h.wrs_ge _ h1
    · exact Nat.le_trans h.chg.size h1
theorem Holds.rebound {w0 w1 w : World} {M M' : List Ent} (h : Holds w1 (wrs M) M' w) (hx : Ext w0 w1) (hge : ∀ k ∈ wrs M, w0.heap.size ≤ k) : Ext w0 w :=
  ⟨h.chg.os.trans hx.os, h.chg.tape.trans hx.tape, h.chg.output.trans hx.output, Nat.le_trans hx.size h.chg.size, fun k hk _ => (h.chg.block k (Nat.lt_of_lt_of_le hk hx.size) fun hm => by have := hge k hm; omega).trans (hx.block k hk (by simp))⟩
theorem nodup_inj {M : List Ent} (h : (M.map Ent.b).Nodup) : ∀ {e1 e2 : Ent}, e1 ∈ M → e2 ∈ M → e1.b = e2.b → e1 = e2 := by
  induction M with
  | nil => intro e1 e2 h1; cases h1
  | cons x M ih =>
    simp only [List.map_cons, List.nodup_cons] at h
    intro e1 e2 h1 h2 he
    rcases List.mem_cons.1 h1 with rfl | h1'
    · rcases List.mem_cons.1 h2 with rfl | h2'
      · rfl
      · exact absurd (he ▸ List.mem_map_of_mem (f := Ent.b) h2') h.1
    · rcases List.mem_cons.1 h2 with rfl | h2'
      · exact absurd (he ▸ List.mem_map_of_mem (f := Ent.b) h1') h.1
      · exact ih h.2 h1' h2' he
theorem Repl.other {M M' : List Ent} {b b' : Nat} {A A' : Obj → Prop} (h : Repl M b A b' A' M') (hn : (M.map Ent.b).Nodup) : ∀ e ∈ M', e = ⟨b', A', true⟩ ∨ (e ∈ M ∧ e.b ≠ b) := by
  induction h with
  | @here b A b' A' M =>
    intro e he
    simp only [List.map_cons, List.nodup_cons] at hn
    simp only [List.mem_cons] at he
    rcases he with rfl | he
    · exact .inl rfl
    · exact .inr ⟨by simp [he], fun h => hn.1 (h ▸ List.mem_map_of_mem he)⟩
  | @there x M b A b' A' M' hu ih =>
    intro e he
    simp only [List.map_cons, List.nodup_cons] at hn
    simp only [List.mem_cons] at he
    rcases he with rfl | he
    · refine .inr ⟨by simp, fun h => hn.1 ?_⟩
      rw [h]
      exact List.mem_map_of_mem hu.has.mem (f := Ent.b)
    · rcases ih hn.2 e he with h | ⟨h1, h2⟩
      · exact .inl h
      · exact .inr ⟨by simp [h1], h2⟩
/-- A call was handed a block of one's own, wrote it, or handed back a new one in its place. -/
theorem Holds.relay {w0 w w' : World} {S : List Nat} {M M' : List Ent} {b b' : Nat} {A A' : Obj → Prop} (h : Holds w0 S M w) (hr : Repl M b A b' A' M') (hc : Holds w [b] [⟨b', A', true⟩] w') : Holds w0 S M' w' := by
  have hin := (h.all _ hr.has.mem).2 rfl
  obtain ⟨⟨o, ho, hA⟩, hb'⟩ := hc.all ⟨b', A', true⟩ (by simp)
  have hb' := hb' rfl
  simp only [List.mem_singleton] at hb' hin ho
  have hlt : b < w.heap.size := h.lt hr.has.mem
  refine ⟨⟨hc.chg.os.trans h.chg.os, hc.chg.tape.trans h.chg.tape, hc.chg.output.trans h.chg.output, Nat.le_trans h.chg.size hc.chg.size, fun k hk hS => ?_⟩, ?_, fun e he => ?_⟩
  · refine (hc.chg.block k (Nat.lt_of_lt_of_le hk h.chg.size) ?_).trans (h.chg.block k hk hS)
    intro hkb
    have hkb : k = b := by simpa using hkb
    subst hkb
    rcases hin with h4 | h4
    · exact hS h4
    · omega
  · rcases hb' with rfl | hb'
    · rw [hr.upd.keys]; exact h.nodup
    · refine hr.nodup h.nodup fun hm => ?_
      obtain ⟨e, he, hb⟩ := List.mem_map.1 hm
      have := h.lt he
      omega
  · rcases hr.other h.nodup e he with rfl | ⟨h4, h5⟩
    · refine ⟨⟨o, ho, hA⟩, fun _ => ?_⟩
      rcases hb' with rfl | hb'
      · exact hin
      · exact .inr (Nat.le_trans h.chg.size hb')
    · obtain ⟨⟨o2, ho2, hA2⟩, h6⟩ := h.all e h4
      exact ⟨⟨o2, (hc.chg.block _ (h.lt h4) (by simpa using h5)).trans ho2, hA2⟩, h6⟩

/-! ### operations in a round -/
section
variable {P : Program} {m l : Nat}
def noDef (o : Oper) : Bool := match o.op with
  | .defer _ => false
  | _ => true
abbrev Rd (l : Nat) : Fence := Fence.wide.inRound l
theorem wpIn_of_wp {o : Oper} {a : Act} {w : World} {K K' : Act → World → Prop} {Q : Exit → Act → World → Prop} (hd : noDef o = true) (hQ : ¬ LetsOut Q) (hK : ∀ a w, K a w → K' a w) (h : o.wp P a w K Q) : o.wpIn (Rd l) m P a w K' Q := by
  refine ⟨fun _ _ => trivial, ?_⟩
  have e : Oper.semAt (Rd l).round a.eval o = execOp a.eval o := Oper.semAt_some l _ _ fun c hc => by
    unfold noDef at hd
    rw [hc] at hd
    cases hd
  rw [e]
  unfold Oper.wp at h
  have hdep : (Rd l).depth.isSome = true → 1 ≤ m := fun h => by cases h
  cases hr : (execOp a.eval o).run P w with
  | ok nx w' =>
    rw [hr] at h
    cases nx with
    | value v => exact hK _ _ h
    | skip => exact hK _ _ h
    | defer d => exact hK _ _ h
    | enter f args =>
      have h' : Calls P f args w' fun
        | .returned v, w'' => K (a.put o.dst v) w''
        | .panicked chain, w'' => Q (.panic chain) a w''
        | .outgrown, _ => LetsOut Q := h
      refine ⟨hdep, (callsIn_wide (n := m - 1)).2 (h'.mono fun e w2 h2 => ?_)⟩
      cases e with
      | returned v => exact hK _ _ h2
      | panicked ch => exact h2
      | outgrown => exact h2
    | row r args =>
      have h' : Rows P r args w' fun v w'' => K (a.put o.dst v) w'' := h
      refine ⟨hdep, fun c cs _ => ?_⟩
      obtain ⟨v, w2, h2, hs⟩ := h' c cs
      exact ⟨v, w2, hK _ _ h2, stepsIn_wide.2 hs⟩
    | round => exact h.elim
    | _ => exact h.elim
  | halt x w' =>
    rw [hr] at h
    cases x with
    | panic v => exact h
    | _ => exact h.elim
theorem wpListIn_of_wpList {ops : Array Oper} {Q : Exit → Act → World → Prop} (hQ : ¬ LetsOut Q) : ∀ (os : List Oper), os.all noDef = true → ∀ a w, wpList P ops Q os a w → wpListIn (Rd l) m P ops Q os a w
  | [], _, a, w, h => h
  | o :: os, hd, a, w, h => by
    simp only [List.all_cons, Bool.and_eq_true] at hd
    have ih := wpListIn_of_wpList (ops := ops) hQ os hd.2
    unfold wpList at h
    unfold wpListIn
    by_cases hw : Region.wanted o (yielded ops a.tmps) = true
    · simp only [hw, if_true] at h ⊢
      rcases h with h | h
      · exact wpIn_of_wp hd.1 hQ ih h
      · exact absurd h.2 hQ
    · simp only [hw, if_false] at h ⊢
      exact ⟨fun _ _ => trivial, ih _ _ h⟩
end

section
variable {P : Program} {n : Nat} {w0 : World} {S : List Nat} {Q Q' : Exit → Act → World → Prop} {E : Env} {M : List Ent} {m l : Nat}
structure JR (P : Program) (n : Nat) (w0 : World) (S : List Nat) (l m : Nat) (Q : Exit → Act → World → Prop) (c : Code) (E : Env) (M : List Ent) : Prop where
  go : ∀ a w, Knows n E a → Holds w0 S M w → c.wpIn (Rd l) m P Q a w
theorem JR.region {id : Nat} {os : List Oper} (hd : os.all noDef = true) (hQ : ¬ LetsOut Q) (h : JL P n w0 S os.toArray Q os E M) : JR P n w0 S l m Q (.region id os.toArray false) E M :=
  ⟨fun a w ha hw => wpIn_region_lit (wpListIn_of_wpList hQ os hd a w (h.go a w ha hw))⟩
theorem JR.seq {x y : Code} (h : JR P n w0 S l m (Exit.then (y.wpIn (Rd l) m P Q) Q) x E M) : JR P n w0 S l m Q (.seq x y) E M := ⟨fun a w ha hw => wpIn_seq (h.go a w ha hw)⟩
theorem JR.block {id : Nat} {c : Code} (h : JR P n w0 S l m (Exit.inBlock id Q) c E M) : JR P n w0 S l m Q (.block id c) E M := ⟨fun a w ha hw => wpIn_block (h.go a w ha hw)⟩
theorem JE.nextR {y : Code} (h : JR P n w0 S l m Q' y E M) : JE n w0 S (Exit.then (y.wpIn (Rd l) m P Q') Q) .normal E M := ⟨h.go⟩
theorem lo_then {K : Act → World → Prop} (h : ¬ LetsOut Q) : ¬ LetsOut (Exit.then K Q) := fun ⟨a, w, x⟩ => h ⟨a, w, x⟩
theorem lo_blk {id : Nat} (h : ¬ LetsOut Q) : ¬ LetsOut (Exit.inBlock id Q) := fun ⟨a, w, x⟩ => h ⟨a, w, x⟩
end

/-! ### behind the loop: the mark among the deferred calls -/
def mk (D : Nat) : Deferred := { target := .collected D, args := #[] }
def Dead : Obj → Prop := fun o => o = .deferred (some [])
structure KnowsM (D n : Nat) (E : Env) (a : Act) : Prop where
  defers : a.defers = [mk D]
  base : Knows n E { a with defers := [] }
section
variable {P : Program} {D n : Nat} {w0 : World} {S : List Nat} {ops : Array Oper} {Q Q' : Exit → Act → World → Prop} {os : List Oper} {E : Env} {M : List Ent} {d : Nat} {op : Op} {ty : TypeId} {pos : String} {aft : Array Edge} {v : Value}
theorem bare_eval (a : Act) : ({ a with defers := [] } : Act).eval = a.eval := funext fun x => by cases x <;> rfl
theorem KnowsM.put {a : Act} (h : KnowsM D n E a) (d : Nat) (v : Value) (hd : Nat.blt d n = true) : KnowsM D n ((d, v) :: E) (a.put (some d) v) := ⟨h.defers, h.base.put d v hd⟩
theorem KnowsM.eval {a : Act} (h : KnowsM D n E a) {x : Operand} {v : Value} (hx : ev E x = some v) : a.eval x = v := by
  rw [← bare_eval]; exact h.base.eval hx
structure KL (P : Program) (D n : Nat) (w0 : World) (S : List Nat) (ops : Array Oper) (Q : Exit → Act → World → Prop) (os : List Oper) (E : Env) (M : List Ent) : Prop where
  go : ∀ a w, KnowsM D n E a → Holds w0 S M w → wpList P ops Q os a w
structure KE (D n : Nat) (w0 : World) (S : List Nat) (Q : Exit → Act → World → Prop) (e : Exit) (E : Env) (M : List Ent) : Prop where
  go : ∀ a w, KnowsM D n E a → Holds w0 S M w → Q e a w
structure KC (P : Program) (D n : Nat) (w0 : World) (S : List Nat) (Q : Exit → Act → World → Prop) (c : Code) (E : Env) (M : List Ent) : Prop where
  go : ∀ a w, KnowsM D n E a → Holds w0 S M w → c.wp P Q a w
theorem KC.seq {x y : Code} (h : KC P D n w0 S (Exit.then (y.wp P Q) Q) x E M) : KC P D n w0 S Q (.seq x y) E M := ⟨fun a w ha hw => wp_seq (h.go a w ha hw)⟩
theorem KC.skip (h : KE D n w0 S Q .normal E M) : KC P D n w0 S Q .skip E M := ⟨fun a w ha hw => wp_skip (h.go a w ha hw)⟩
theorem KC.ret (h : KE D n w0 S Q .ret E M) : KC P D n w0 S Q .ret E M := ⟨fun a w ha hw => wp_ret (h.go a w ha hw)⟩
theorem KC.cond {c : Operand} {x y : Code} {t : Bool} (hc : ev E c = some (.bool t)) (ht : t = true → KC P D n w0 S Q x E M) (hf : t = false → KC P D n w0 S Q y E M) : KC P D n w0 S Q (.cond c x y) E M :=
  ⟨fun a w ha hw => wp_cond_split (ha.eval hc) (fun h => (ht h).go a w ha hw) (fun h => (hf h).go a w ha hw)⟩
theorem KC.region {id : Nat} {os : List Oper} (h : KL P D n w0 S os.toArray Q os E M) : KC P D n w0 S Q (.region id os.toArray false) E M := ⟨fun a w ha hw => wp_region_lit (h.go a w ha hw)⟩
theorem KE.next {y : Code} (h : KC P D n w0 S Q' y E M) : KE D n w0 S (Exit.then (y.wp P Q') Q) .normal E M := ⟨h.go⟩
theorem KE.then_ret {K : Act → World → Prop} (h : KE D n w0 S Q .ret E M) : KE D n w0 S (Exit.then K Q) .ret E M := ⟨h.go⟩
theorem KE.blk_normal {id : Nat} (h : KE D n w0 S Q .normal E M) : KE D n w0 S (Exit.inBlock id Q) .normal E M := ⟨h.go⟩
theorem KL.nil (h : KE D n w0 S Q .normal E M) : KL P D n w0 S ops Q [] E M := ⟨h.go⟩
theorem KL.q (h : OQ P n E (Holds w0 S M) ⟨some d, op, ty, pos, aft, none⟩ v) (hd : Nat.blt d n = true) (k : KL P D n w0 S ops Q os ((d, v) :: E) M) : KL P D n w0 S ops Q (⟨some d, op, ty, pos, aft, none⟩ :: os) E M :=
  ⟨fun a _ ha hw => wpList_plain rfl fun _ hK => Oper.wp_of_quiet (C := Holds w0 S M) (K := fun a' => a' = a.put (some d) v) hw (fun _ _ hw' e => hK _ _ (e ▸ k.go _ _ (ha.put d v hd) hw')) ⟨v, fun w hw => by
    have := h.go _ ha.base w hw
    unfold Oper.quietAt at this ⊢
    rwa [bare_eval] at this, rfl⟩⟩
theorem KL.qs (h : OQ P n E (Holds w0 S M) ⟨some d, op, ty, pos, aft, none⟩ v) (hd : Nat.blt d n = true) (k : KL P D n w0 S ops Q os ((d, v) :: E) M) : KL P D n w0 S ops Q (⟨some d, op, ty, pos, aft, none⟩ :: os) E M := KL.q h hd k
theorem KC.weak {c : Code} {M' : List Ent} (hM : Less M' M) (h : KC P D n w0 S Q c E M') : KC P D n w0 S Q c E M := ⟨fun a w ha hw => h.go a w ha (hw.weak hM)⟩
/-- the way out: the block of the rounds' deferred calls is shut -/
theorem leaves_mark {m : Nat} {fn : Func} {R : Ending → World → Prop} {a : Act} {w : World} {v : Value} (ha : KnowsM D n E a) (hw : Holds w0 S (⟨D, Dead, true⟩ :: M) w)
    (hv : ∀ w', Holds w0 S M w' → (results fn a.tmps).run P w' = .ok v w') (hR : ∀ w', Holds w0 S M w' → R (.returned v) w') : bodyPostM Fence.wide m P fn R .ret a w := by
  obtain ⟨o, ho, hA⟩ := hw.get (b := D) (A := Dead) (wr := true) .here
  cases hA
  have hlt : D < w.heap.size := (Array.getElem?_eq_some_iff.1 ho).1
  have h2 : Holds w0 S (⟨D, fun o => o = .deferred none, true⟩ :: M) (w.putObj D (.deferred none)) :=
    hw.write (A' := fun o => o = .deferred none) .here rfl (World.putObj_heap_same hlt) World.putObj_size (fun k hk => World.putObj_heap_other hk) rfl rfl rfl
  have h3 : Holds w0 S M (w.putObj D (.deferred none)) := h2.weak (.drop _ _ _ (Less.refl _))
  show LeavesInM Fence.wide m P fn a.tmps R a.defers .returning w
  rw [ha.defers]
  exact ⟨by simp, .inl ⟨D, _, rfl, run_takeDeferred ho, v, hv _ h3, hR _ h3⟩⟩
theorem KE.ret1 {m : Nat} {fn : Func} {R : Ending → World → Prop} {r1 : Tmp} {v1 : Value} (hr : fn.results = #[.tmp r1]) (h1 : lk E r1 = some v1) (hR : ∀ w, Holds w0 S M w → R (.returned v1) w) : KE D n w0 S (bodyPostM Fence.wide m P fn R) .ret E (⟨D, Dead, true⟩ :: M) := by
  refine ⟨fun a w ha hw => leaves_mark (v := v1) ha hw (fun w' _ => ?_) hR⟩
  have e1 : a.tmps.getD r1 undef = v1 := ha.base.all r1 v1 h1
  rw [results_eq, hr]
  simp [rvRun, e1]
theorem KE.ret2 {m : Nat} {fn : Func} {R : Ending → World → Prop} {r1 r2 : Tmp} {v1 v2 : Value} (hr : fn.results = #[.tmp r1, .tmp r2]) (h1 : lk E r1 = some v1) (h2 : lk E r2 = some v2) (hR : ∀ w, Holds w0 S M w → R (.returned (.tuple #[v1, v2])) w) : KE D n w0 S (bodyPostM Fence.wide m P fn R) .ret E (⟨D, Dead, true⟩ :: M) := by
  refine ⟨fun a w ha hw => leaves_mark (v := .tuple #[v1, v2]) ha hw (fun w' _ => ?_) hR⟩
  have e1 : a.tmps.getD r1 undef = v1 := ha.base.all r1 v1 h1
  have e2 : a.tmps.getD r2 undef = v2 := ha.base.all r2 v2 h2
  rw [results_eq, hr]
  simp [rvRun, e1, e2, Sem.run_bind]
theorem KE.less {e : Exit} {M' : List Ent} (hM : Less M' M) (h : KE D n w0 S Q e E M') : KE D n w0 S Q e E M := ⟨fun a w ha hw => h.go a w ha (hw.weak hM)⟩
/-- a function that holds a range over a function -/
theorem enterM {f : FuncId} {fn : Func} {c : Code} {vs : List Value} {w : World} {R : Ending → World → Prop} (hf : P.funcs[f]? = some fn) (hb : fn.body = some c) (hn : fn.ntmps = n) (hl : Nat.ble vs.length n = true)
    (hM : Holds w S M w) (h : JC P n w S (bodyPostM Fence.wide 3 P fn R) c (enum 0 vs) M) : Calls P f vs.toArray w R := by
  refine callsIn_wide.1 (callsIn_of_wp_marks (n := 3) hf hb trivial (wpIn_wide.2 (h.go _ _ ?_ hM)))
  rw [hn]
  exact Knows.enter vs (by simpa using hl)
end

/-! ### the statement -/
structure KeepL (L : List Nat) (W W' : World) : Prop where
  os : W'.os = W.os
  tape : W'.tape = W.tape
  output : W'.output = W.output
  size : W.heap.size ≤ W'.heap.size
  same : ∀ k ∈ L, W'.heap[k]? = W.heap[k]?
theorem KeepL.trans {L : List Nat} {X Y Z : World} (h : KeepL L X Y) (k : KeepL L Y Z) : KeepL L X Z :=
  ⟨k.os.trans h.os, k.tape.trans h.tape, k.output.trans h.output, Nat.le_trans h.size k.size, fun i hi => (k.same i hi).trans (h.same i hi)⟩
/-- how a round's body is left -/
def roundQ {α ι : Type} (Mi : ι → List Ent) (Inv : List α → ι → Prop) (xs : List α) (w1 : World) (S1 : List Nat) : Exit → Act → World → Prop
  | .normal, _, W' => ∃ j, Inv xs j ∧ Holds w1 S1 (Mi j) W'
  | _, _, _ => False
theorem lo_roundQ {α ι : Type} {Mi : ι → List Ent} {Inv : List α → ι → Prop} {xs : List α} {w1 : World} {S1 : List Nat} : ¬ LetsOut (roundQ Mi Inv xs w1 S1) := fun ⟨_, _, h⟩ => h
theorem JE.round {α ι : Type} {n : Nat} {w1 : World} {S1 : List Nat} {E : Env} {M : List Ent} {Mi : ι → List Ent} {Inv : List α → ι → Prop} {xs : List α} (j : ι) (hj : Inv xs j) (hM : Less (Mi j) M) : JE n w1 S1 (roundQ Mi Inv xs w1 S1) .normal E M :=
  ⟨fun _ _ _ hw => ⟨j, hj, hw.weak hM⟩⟩
theorem JC.range {P : Program} {n : Nat} {w0 : World} {Q : Exit → Act → World → Prop} {E : Env} {M : List Ent} {α ι : Type} {g : Operand} {p d rid : Nat} {ty : TypeId} {pos : String} {body : Code} {gf : Nat} {lb : Array Value} (enc : α → Value) (L : List Nat) (Sd Sp : List α → Prop) (N : Nat)
    (Mi : ι → List Ent) (Inv : List α → ι → Prop) (hg : ev E g = some (.func (.func gf) #[] lb)) (eg : ∀ args w, (callFunc gf args).run P w = .ok (.enter gf args) w)
    (hseq : ∀ W, Holds w0 [] M W → SeqStopsK Fence.wide 2 P gf lb (fun x => #[enc x]) (KeepL L) Sd Sp N W)
    (hcell : ∀ i, ∀ e ∈ Mi i, ∀ o, e.A o → o.isCells = true) (hL : ∀ i, ∀ k ∈ L, k < w0.heap.size ∨ ∃ A, Has (Mi i) k A false)
    (i0 : ι) (h0 : Inv [] i0) (hM : ∀ w, Holds w0 [] M w → Holds w0 [] (Mi i0) w) (hp : Nat.blt p n = true) (hd : Nat.blt d n = true)
    (hbody : ∀ l pre x i w1, Inv pre i → pre.length < N → Ext w0 w1 → (∀ k ∈ wrs (Mi i), w0.heap.size ≤ k) → JR P n w1 (wrs (Mi i)) l 1 (roundQ Mi Inv (pre ++ [x]) w1 (wrs (Mi i))) body ((d, enc x) :: (p, enc x) :: E) (Mi i))
    (hdone : ∀ D xs i, Sd xs → Inv xs i → KE D n w0 [] Q .normal E (⟨D, Dead, true⟩ :: Mi i)) :
    JC P n w0 [] Q (.rangeFunc g #[p] (.region rid #[⟨some d, .assign (.tmp p), ty, pos, #[], none⟩] false) body) E M := by
  refine ⟨fun a w ha hw => (wpIn_wide (n := 3)).1 ?_⟩
  have hLw : ∀ k ∈ L, k < w.heap.size := fun k hk => by
    rcases hL i0 k hk with h | ⟨A, h⟩
    · exact Nat.lt_of_lt_of_le h hw.chg.size
    · exact (hM w hw).lt h.mem
  have hI : OwnFrom w.heap.size (fun pre W => ∃ i, Inv pre i ∧ Holds w0 [] (Mi i) W) := by
    rintro pre W W' row ⟨i, hi, h⟩ hgr hrow
    refine ⟨i, hi, ⟨hgr.os.trans h.chg.os, hgr.tape.trans h.chg.tape, hgr.output.trans h.chg.output, Nat.le_trans h.chg.size hgr.size, fun k hk _ => ?_⟩, h.nodup, fun e he => ⟨?_, (h.all e he).2⟩⟩
    · refine (hgr.block k (Nat.lt_of_lt_of_le hk h.chg.size) fun hr => ?_).trans (h.chg.block k hk (by simp))
      have := (hrow k hr.symm).1
      have := hw.chg.size
      omega
    · obtain ⟨o, ho, hA⟩ := (h.all e he).1
      refine ⟨o, (hgr.block e.b (h.lt he) fun hr => ?_).trans ho, hA⟩
      obtain ⟨_, o2, ho2, hc⟩ := hrow _ hr.symm
      rw [ho] at ho2
      cases ho2
      rw [hcell i e he o hA] at hc
      cases hc
  have hpn : p < n := by simpa using hp
  have hdn : d < n := by simpa using hd
  refine wpIn_rangeFunc_ownG (n := 3) rfl (by omega) (gf := gf) (lb := lb) (ha.eval hg) trivial eg (w0 := w) (hseq w hw) (fun h k => h.trans k) (fun W l o o' hl _ _ _ => ?_) (RowKit.Below.refl _ _) (fun _ => rfl)
    (fun pre W => ∃ i, Inv pre i ∧ Holds w0 [] (Mi i) W) (fun _ _ _ => False) hI (fun _ _ _ _ _ h _ _ => h) ⟨i0, h0, hM w hw⟩ (fun x => (a.put (some p) (enc x)).put (some d) (enc x)) ?_ ?_ ?_ (fun _ _ _ _ _ _ h _ => h.elim)
  · exact ⟨rfl, rfl, rfl, by simp, fun k hk => World.putObj_heap_other (by have := hLw k hk; omega)⟩
  · intro l x W K hK
    refine wpIn_region_lit (wpListIn_plain rfl fun K' hK' => ⟨fun _ _ => trivial, ?_⟩)
    have he : ((#[p].zip #[enc x]).foldl (fun t (x : Nat × Value) => t.setIfInBounds x.1 x.2) a.tmps).getD p undef = enc x := by
      have : p < a.tmps.size := by rw [ha.size]; exact hpn
      simp [this]
    have hs : Oper.semAt (Rd l).round ({ tmps := (#[p].zip #[enc x]).foldl (fun t (x : Nat × Value) => t.setIfInBounds x.1 x.2) a.tmps, defers := [] } : Act).eval ⟨some d, .assign (.tmp p), ty, pos, #[], none⟩ = .pure (.value (enc x)) := by
      refine (Oper.semAt_some l _ _ ?_).trans ?_
      · intro c h; cases h
      show Sem.pure (Next.value (_ : Value)) = _
      exact congrArg (fun v => Sem.pure (Next.value v)) he
    show Oper.uponIn _ _ _ _ _ _ _ ((Oper.semAt (Rd l).round _ _).run P W)
    rw [hs]
    refine hK' _ _ (wpListIn_nil ?_)
    show K _ W
    have e : ({ tmps := (#[p].zip #[enc x]).foldl (fun t (x : Nat × Value) => t.setIfInBounds x.1 x.2) a.tmps, defers := [] } : Act).put (some d) (enc x) = (a.put (some p) (enc x)).put (some d) (enc x) := by
      obtain ⟨tm, df⟩ := a
      have := ha.defers
      simp only at this
      subst this
      simp [Act.put]
    rw [e]
    exact hK
  · rintro l pre x W ⟨i, hi, h⟩ hlen
    refine wpIn_mono ((hbody l pre x i W hi hlen h.chg h.wrs_ge).go _ W ((ha.put p _ hp).put d _ hd) h.rebase) ?_
    · rintro e a2 W2 hq
      cases e with
      | normal =>
        obtain ⟨j, hj, h2⟩ := hq
        refine ⟨⟨h2.chg.size, fun k o _ hk ho => ?_⟩, ⟨h2.chg.os, h2.chg.tape, h2.chg.output, h2.chg.size, fun k hk => ?_⟩, j, hj, h.unbase h2⟩
        · refine (h2.chg.block k (Array.getElem?_eq_some_iff.1 hk).1 fun hm => ?_).trans hk
          obtain ⟨e, he, _, rfl⟩ := mem_wrs.1 hm
          obtain ⟨o', ho', hA⟩ := (h.all e he).1
          rw [hk] at ho'
          cases ho'
          rw [hcell i e he _ hA] at ho
          cases ho
        · rcases hL i k hk with hlt | ⟨A, hA⟩
          · exact h2.chg.block k (Nat.lt_of_lt_of_le hlt h.chg.size) fun hm => by have := h.wrs_ge k hm; omega
          · refine h2.chg.block k (h.lt hA.mem) fun hm => ?_
            obtain ⟨e, he, hwr, hb⟩ := mem_wrs.1 hm
            have := nodup_inj h.nodup he hA.mem hb
            subst this
            cases hwr
      | ret => exact hq.elim
      | exit id => exact hq.elim
      | goto t => exact hq.elim
      | panic ch => exact hq.elim
      | outgrown => exact hq.elim
  · rintro D xs W hD hS ⟨i, hi, h⟩ hk
    refine (hdone D xs i hS hi).go _ W ⟨?_, ?_⟩ ?_
    · show _ :: a.defers = _
      rw [ha.defers]; rfl
    · exact ⟨ha.size, rfl, ha.all⟩
    · refine ⟨h.chg, ?_, fun e he => ?_⟩
      · simp only [List.map_cons, List.nodup_cons, h.nodup, and_true]
        intro hm
        obtain ⟨e, he, hb⟩ := List.mem_map.1 hm
        obtain ⟨o, ho, hA⟩ := (h.all e he).1
        rw [hb] at ho
        rw [hk] at ho
        cases ho
        have := hcell i e he _ hA
        cases this
      · simp only [List.mem_cons] at he
        rcases he with rfl | he
        · exact ⟨⟨_, hk, rfl⟩, fun _ => .inr (Nat.le_trans hw.chg.size hD)⟩
        · exact h.all e he
end Sl
end Go.Proofs.Ytopdkpeahhnihaa

/-
  Of no statement by itself: rules by which an iterator's own text is walked (a function that calls yield): the world is fixed between two rounds; for any program P.
  Conditions: each rule's own hypotheses.
-/
namespace Go.Proofs.Ytopdkpeahhnihaa
namespace Sl
section
variable {P : Program} {n : Nat} {W : World} {ops : Array Oper} {Q Q' : Exit → Act → World → Prop} {os : List Oper} {E E' : Env} {d : Nat} {op : Op} {ty : TypeId} {pos : String} {aft : Array Edge} {v : Value} {m : Nat}
structure FL (P : Program) (n m : Nat) (W : World) (ops : Array Oper) (Q : Exit → Act → World → Prop) (os : List Oper) (E : Env) : Prop where
  go : ∀ a, Knows n E a → wpListIn Fence.wide m P ops Q os a W
structure FE (n : Nat) (W : World) (Q : Exit → Act → World → Prop) (e : Exit) (E : Env) : Prop where
  go : ∀ a, Knows n E a → Q e a W
structure FC (P : Program) (n : Nat) (W : World) (Q : Exit → Act → World → Prop) (c : Code) (E : Env) : Prop where
  go : ∀ a, Knows n E a → c.wp P Q a W
theorem FC.seq {x y : Code} (h : FC P n W (Exit.then (y.wp P Q) Q) x E) : FC P n W Q (.seq x y) E := ⟨fun a ha => wp_seq (h.go a ha)⟩
theorem FC.skip (h : FE n W Q .normal E) : FC P n W Q .skip E := ⟨fun a ha => wp_skip (h.go a ha)⟩
theorem FC.ret (h : FE n W Q .ret E) : FC P n W Q .ret E := ⟨fun a ha => wp_ret (h.go a ha)⟩
theorem FC.exit {id : Nat} (h : FE n W Q (.exit id) E) : FC P n W Q (.exit id) E := ⟨fun a ha => wp_exit (h.go a ha)⟩
theorem FC.block {id : Nat} {c : Code} (h : FC P n W (Exit.inBlock id Q) c E) : FC P n W Q (.block id c) E := ⟨fun a ha => wp_block (h.go a ha)⟩
theorem FC.cond {c : Operand} {x y : Code} {t : Bool} (hc : ev E c = some (.bool t)) (ht : t = true → FC P n W Q x E) (hf : t = false → FC P n W Q y E) : FC P n W Q (.cond c x y) E :=
  ⟨fun a ha => wp_cond_split (ha.eval hc) (fun h => (ht h).go a ha) (fun h => (hf h).go a ha)⟩
theorem FC.region {id : Nat} {os : List Oper} (h : FL P n 2 W os.toArray Q os E) : FC P n W Q (.region id os.toArray false) E := ⟨fun a ha => (wpIn_wide (n := 2)).1 (wpIn_region_lit (h.go a ha))⟩
theorem FE.next {y : Code} (h : FC P n W Q' y E) : FE n W (Exit.then (y.wp P Q') Q) .normal E := ⟨h.go⟩
theorem FE.then_exit {K : Act → World → Prop} {id : Nat} (h : FE n W Q (.exit id) E) : FE n W (Exit.then K Q) (.exit id) E := ⟨h.go⟩
theorem FE.then_ret {K : Act → World → Prop} (h : FE n W Q .ret E) : FE n W (Exit.then K Q) .ret E := ⟨h.go⟩
theorem FE.blk_normal {id : Nat} (h : FE n W Q .normal E) : FE n W (Exit.inBlock id Q) .normal E := ⟨h.go⟩
theorem FE.blk_ret {id : Nat} (h : FE n W Q .ret E) : FE n W (Exit.inBlock id Q) .ret E := ⟨h.go⟩
theorem FE.blk_hit {id : Nat} (h : FE n W Q .normal E) : FE n W (Exit.inBlock id Q) (.exit id) E := ⟨fun a ha => by
  show (if id = id then Q .normal a W else _)
  rw [if_pos rfl]; exact h.go a ha⟩
theorem FE.blk_miss {id id' : Nat} (hne : (id == id') = false) (h : FE n W Q (.exit id) E) : FE n W (Exit.inBlock id' Q) (.exit id) E := ⟨fun a ha => by
  show (if id = id' then _ else Q (.exit id) a W)
  rw [if_neg (by simpa using hne)]; exact h.go a ha⟩
theorem FL.nil (h : FE n W Q .normal E) : FL P n m W ops Q [] E := ⟨h.go⟩
theorem FL.q (h : OQ P n E (fun w => w = W) ⟨some d, op, ty, pos, aft, none⟩ v) (hdf : noDef ⟨some d, op, ty, pos, aft, none⟩ = true) (hd : Nat.blt d n = true) (k : FL P n m W ops Q os ((d, v) :: E)) : FL P n m W ops Q (⟨some d, op, ty, pos, aft, none⟩ :: os) E :=
  ⟨fun a ha => wpListIn_plain rfl fun K hK => by
    have hk := hK _ _ (k.go _ (ha.put d v hd))
    have hq := h.go a ha W rfl
    refine ⟨fun _ _ => trivial, ?_⟩
    have e : Oper.semAt Fence.wide.round a.eval ⟨some d, op, ty, pos, aft, none⟩ = execOp a.eval ⟨some d, op, ty, pos, aft, none⟩ := rfl
    rw [e]
    unfold Oper.quietAt at hq
    cases hr : (execOp a.eval ⟨some d, op, ty, pos, aft, none⟩).run P W with
    | ok nx w' =>
      rw [hr] at hq
      cases nx with
      | value u =>
        obtain ⟨rfl, rfl⟩ := hq
        exact hk
      | skip =>
        obtain ⟨rfl, rfl⟩ := hq
        exact hk
      | enter f args =>
        obtain ⟨rfl, hc⟩ := hq
        refine ⟨fun h => (by cases h), (callsIn_wide (n := m - 1)).2 (hc.mono ?_)⟩
        rintro e w2 ⟨rfl, rfl⟩
        exact hk
      | _ => exact hq.elim
    | halt x w' =>
      rw [hr] at hq
      exact hq.elim⟩
/-- a call of yield -/
theorem FL.yield {l : Nat} {x y : Operand} {t : TypeId} {R : Ending → World → Prop} (hx : ev E x = some (.func (.yield l) #[] #[])) (hy : ev E y = some v) (hd : Nat.blt d n = true) (h : YieldAt Fence.wide 1 P l #[v] W R)
    (hR : ∀ e W', R e W' → ∃ b, e = .returned (.bool b) ∧ FL P n 2 W' ops Q os ((d, .bool b) :: E)) : FL P n 2 W ops Q (⟨some d, .call ⟨.value x, #[y], #[t]⟩, ty, pos, aft, none⟩ :: os) E :=
  ⟨fun a ha => wpListIn_plain rfl fun K hK => by
    obtain ⟨fn, tmps, assign, body, hrun, hro⟩ := h
    refine ⟨fun _ _ => trivial, ?_⟩
    have e : (Oper.semAt Fence.wide.round a.eval ⟨some d, .call ⟨.value x, #[y], #[t]⟩, ty, pos, aft, none⟩).run P W = .ok (.round l fn tmps assign body) W := by
      have e0 : Oper.semAt Fence.wide.round a.eval ⟨some d, .call ⟨.value x, #[y], #[t]⟩, ty, pos, aft, none⟩ = execOp a.eval ⟨some d, .call ⟨.value x, #[y], #[t]⟩, ty, pos, aft, none⟩ := rfl
      rw [e0]
      simp only [execOp, resolve, Sem.run_bind, ha.eval hx, List.map_toArray, List.map_cons, List.map_nil, ha.eval hy, Deferred.ofValue, Sem.run_pure, Result.andThen_ok, invoke]
      simpa using hrun
    rw [e]
    refine ⟨fun h => (by cases h), hro.mono fun e W' hr => ?_⟩
    obtain ⟨b, rfl, hl⟩ := hR e W' hr
    exact hK _ _ (hl.go _ (ha.put d _ hd))⟩
/-- a loop whose rounds leave other worlds -/
theorem FC.loop {ι : Type} (Ei : ι → Env) (Ci : ι → World → Prop) (μ : ι → Nat) {c : Code} (i : ι) (hi : Ci i W) (hE : SubE E (Ei i))
    (h : ∀ i w, Ci i w → FC P n w (Exit.then (fun a' w' => ∃ j, Ci j w' ∧ μ j < μ i ∧ Knows n (Ei j) a') Q) c (Ei i)) : FC P n W Q (.loop c) E := by
  refine ⟨fun a ha => ?_⟩
  have ha' := ha.sub hE
  clear ha hE
  have key : ∀ m i, μ i = m → ∀ a w, Ci i w → Knows n (Ei i) a → ∀ (b : Frame) (k : List Item) (cs : List Frame),
      ∃ e a' w', Q e a' w' ∧ Arrives P (lone (b.at a (.code c :: .inLoop c :: k)) cs w) b k cs e a' w' := by
    intro m
    induction m using Nat.strongRecOn with
    | _ m ih =>
      intro i hm a w hw ha b k cs
      obtain ⟨e, a₁, w₁, hq, harr⟩ := (h i w hw).go a ha b (.inLoop c :: k) cs
      cases e with
      | normal =>
        obtain ⟨j, hw₁, hlt, ha₁⟩ := hq
        obtain ⟨e₂, a₂, w₂, hq₂, harr₂⟩ := ih (μ j) (hm ▸ hlt) j rfl a₁ w₁ hw₁ ha₁ b k cs
        exact ⟨e₂, a₂, w₂, hq₂, .of_steps (Steps.trans harr (.one step_inLoop)) harr₂⟩
      | exit id => exact ⟨_, a₁, w₁, hq, .pass (x := .inLoop c) rfl (fun _ _ => .inl (by simp)) harr⟩
      | goto l => exact ⟨_, a₁, w₁, hq, .pass (x := .inLoop c) rfl (fun _ _ => .inl (by simp)) harr⟩
      | ret => exact ⟨_, a₁, w₁, hq, .pass (x := .inLoop c) rfl (fun _ _ => .inl (by simp)) harr⟩
      | panic ch => exact ⟨_, a₁, w₁, hq, .pass (x := .inLoop c) rfl (fun _ _ => .inl (by simp)) harr⟩
      | outgrown => exact ⟨_, a₁, w₁, hq, .pass (x := .inLoop c) rfl (fun _ _ => .inl (by simp)) harr⟩
  intro b k cs
  obtain ⟨e, a', w', hq, harr⟩ := key _ i rfl a W hi ha' b k cs
  exact ⟨e, a', w', hq, .of_steps (.one step_loop) harr⟩
theorem FE.again {ι : Type} {Ei : ι → Env} {Ci : ι → World → Prop} {μ : ι → Nat} {i : ι} (j : ι) (hj : Ci j W) (hμ : μ j < μ i) (hE : SubE E (Ei j)) :
    FE n W (Exit.then (fun a' w' => ∃ j, Ci j w' ∧ μ j < μ i ∧ Knows n (Ei j) a') Q) .normal E := ⟨fun _ ha => ⟨j, hj, hμ, ha.sub hE⟩⟩
theorem FE.ret0 {fn : Func} {R : Ending → World → Prop} (hr : fn.results = #[]) (hR : R (.returned (.tuple #[])) W) : FE n W (bodyPost P fn R) .ret E := ⟨fun a ha => ⟨ha.defers, .tuple #[], by simp [results, hr], hR⟩⟩
theorem FE.end0 {fn : Func} {R : Ending → World → Prop} (hr : fn.results = #[]) (hR : R (.returned (.tuple #[])) W) : FE n W (bodyPost P fn R) .normal E := ⟨fun a ha => ⟨ha.defers, .tuple #[], by simp [results, hr], hR⟩⟩
theorem enterF {f : FuncId} {fn : Func} {c : Code} {vs : List Value} {R : Ending → World → Prop} (hf : P.funcs[f]? = some fn) (hb : fn.body = some c) (hn : fn.ntmps = n) (hl : Nat.ble vs.length n = true)
    (h : FC P n W (bodyPost P fn R) c (enum 0 vs)) : Calls P f vs.toArray W R := by
  refine calls_of_wp hf hb (h.go _ ?_)
  rw [hn]
  exact Knows.enter vs (by simpa using hl)
end
end Sl
end Go.Proofs.Ytopdkpeahhnihaa
