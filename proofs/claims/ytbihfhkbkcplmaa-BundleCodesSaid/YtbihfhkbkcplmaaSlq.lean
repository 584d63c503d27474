/-
  Of no statement by itself: rules for strings as lists of bytes: length, one byte, equality, sums, the string of a slice's bytes; over X's partial knowledge of frame and memory, for any program P.
  Conditions: each rule's own hypotheses.
-/
import Derived.Test.YtbihfhkbkcplmaaSlt
import Derived.Test.YtbihfhkbkcplmaaSlv
import Derived.Laws.BytesString
namespace Go.Proofs.Ytbihfhkbkcplmaa
open Sl
def strB (l : List Bt) : ByteArray := ⟨(l.map UInt8.ofBitVec).toArray⟩
@[reducible] def Z (l : List Bt) : Value := .string (strB l)
theorem strB_size (l : List Bt) : (strB l).size = l.length := by
  show (l.map UInt8.ofBitVec).toArray.size = l.length
  simp
theorem bytesOf_strB (l : List Bt) : bytesOf (strB l) = l := by
  show ((l.map UInt8.ofBitVec).toArray.toList).map UInt8.toBitVec = l
  simp [Function.comp_def]
theorem strB_bytesOf (s : ByteArray) : strB (bytesOf s) = s := by
  apply ByteArray.ext
  show ((s.data.toList.map UInt8.toBitVec).map UInt8.ofBitVec).toArray = s.data
  simp [Function.comp_def]
theorem strB_append (l r : List Bt) : strB l ++ strB r = strB (l ++ r) := by
  apply ByteArray.ext
  rw [ByteArray.data_append]
  show (l.map UInt8.ofBitVec).toArray ++ (r.map UInt8.ofBitVec).toArray = ((l ++ r).map UInt8.ofBitVec).toArray
  simp
theorem strB_eq (l r : List Bt) : ((strB l).toList == (strB r).toList) = decide (l = r) := by
  rw [ByteArray.toList_eq, ByteArray.toList_eq]
  show ((l.map UInt8.ofBitVec).toArray.toList == (r.map UInt8.ofBitVec).toArray.toList) = _
  rw [List.toList_toArray, List.toList_toArray]
  exact eq_list l r
section
variable {P : Program} {n : Nat} {E : Env} {C : World → Prop} {dst : Option Tmp} {ty t t' e : TypeId} {pos : String} {aft : Array Edge} {g : Option (Nat × Bool)} {x y : Operand} {l r : List Bt}
theorem OQ.lenS (hu : P.underlying t = some .string) (hx : ev E x = some (Z l)) : OQ P n E C ⟨dst, .call ⟨.builtin .len, #[x], #[t]⟩, ty, pos, aft, g⟩ (N l.length) :=
  strB_size l ▸ OQ.lenZ hu hx
theorem OQ.idxZ {k : IntKind} {i : Nat} (hu : P.underlying t = some .string) (hx : ev E x = some (Z l)) (hy : ev E y = some (.int k i)) (hi : i < l.length) : OQ P n E C ⟨dst, .index t x y, ty, pos, aft, g⟩ (U8 (l.getD i 0)) :=
  OQ.run fun a ha w _ => by
    have h1 := ha.eval hx
    have h2 := ha.eval hy
    have h3 : (underlying t).run P w = .ok .string w := run_underlying hu w
    have h4 : (strB l)[i]? = some (UInt8.ofBitVec (l.getD i 0)) := by
      have hs : i < (strB l).size := by rw [strB_size]; exact hi
      rw [getElem?_pos (strB l) i hs]
      show some (((l.map UInt8.ofBitVec).toArray)[i]'(by simpa using hi)) = _
      rw [List.getElem_toArray, List.getElem_map, List.getD_eq_getElem?_getD, List.getElem?_eq_getElem hi]; rfl
    simp [execOp, h1, h2, Instr.index, asIntOf, Sem.run_bind, h3, h4]
theorem OQ.eqS (hx : ev E x = some (Z l)) (hy : ev E y = some (Z r)) : OQ P n E C ⟨dst, .binOp .eql t x y t', ty, pos, aft, g⟩ (.bool (decide (l = r))) :=
  OQ.run fun a ha w _ => by
    have h1 := ha.eval hx
    have h2 := ha.eval hy
    simp [execOp, h1, h2, eqGuard, binOp, Op.stringOp, strB_eq]
theorem OQ.neS (hx : ev E x = some (Z l)) (hy : ev E y = some (Z r)) : OQ P n E C ⟨dst, .binOp .neq t x y t', ty, pos, aft, g⟩ (.bool (!decide (l = r))) :=
  OQ.run fun a ha w _ => by
    have h1 := ha.eval hx
    have h2 := ha.eval hy
    simp [execOp, h1, h2, eqGuard, binOp, Op.stringOp, strB_eq]
theorem OQ.eqS_t (hx : ev E x = some (Z l)) (hy : ev E y = some (Z r)) (h : l = r) : OQ P n E C ⟨dst, .binOp .eql t x y t', ty, pos, aft, g⟩ (.bool true) :=
  (decide_eq_true h : decide (l = r) = true) ▸ OQ.eqS hx hy
theorem OQ.eqS_f (hx : ev E x = some (Z l)) (hy : ev E y = some (Z r)) (h : ¬ l = r) : OQ P n E C ⟨dst, .binOp .eql t x y t', ty, pos, aft, g⟩ (.bool false) :=
  (decide_eq_false h : decide (l = r) = false) ▸ OQ.eqS hx hy
theorem OQ.addS (hx : ev E x = some (Z l)) (hy : ev E y = some (Z r)) (h : l.length + r.length < 9223372036854775808) : OQ P n E C ⟨dst, .binOp .add t x y t', ty, pos, aft, g⟩ (Z (l ++ r)) :=
  OQ.run fun a ha w _ => by
    have h1 := ha.eval hx
    have h2 := ha.eval hy
    have h3 : ¬ ((((strB l).size + (strB r).size : Nat) : Int) > IntKind.i64.max) := by
      rw [strB_size, strB_size, show IntKind.i64.max = 9223372036854775807 from rfl]
      omega
    have h4 : (Op.stringOp .add (strB l) (strB r)).run P w = .ok (Z (l ++ r)) w := by
      unfold Op.stringOp
      simp only
      rw [if_neg h3, strB_append]; rfl
    simp [execOp, h1, h2, eqGuard, binOp, h4, Sem.run_bind]
end
theorem push_all : ∀ (l : List Bt) (s : ByteArray), (l.map fun b => (b.toNat : Int)).foldl (fun r n => r.push (UInt8.ofNat n.toNat)) s = s ++ strB l
  | [], s => by
    apply ByteArray.ext
    rw [ByteArray.data_append]
    show s.data = s.data ++ #[]
    simp
  | b :: l, s => by
    rw [List.map_cons, List.foldl_cons, push_all l]
    apply ByteArray.ext
    rw [ByteArray.data_append, ByteArray.data_append, ByteArray.data_push]
    have e : UInt8.ofNat ((b.toNat : Int)).toNat = UInt8.ofBitVec b := by
      apply UInt8.toNat_inj.1
      simp
    rw [e]
    show s.data.push (UInt8.ofBitVec b) ++ (l.map UInt8.ofBitVec).toArray = s.data ++ ((b :: l).map UInt8.ofBitVec).toArray
    simp
theorem loadCells_reads {P : Program} {w : World} {ad : Addr} {cs : List Value} (h : Reads w (some ad) cs) : (loadCells ad cs.length).run P w = .ok cs.toArray w := by
  refine run_loadCells_list (P := P) w ad cs fun i v hv => ?_
  obtain ⟨b, j, h1, h2⟩ := h i v hv
  cases h1
  rw [add_off]; exact h2
section
variable {P : Program} {n : Nat} {E : Env} {w0 : World} {S : List Nat} {M : List Ent} {dst : Option Tmp} {ty t t' e : TypeId} {pos : String} {aft : Array Edge} {g : Option (Nat × Bool)} {x : Operand}
/-- string(b) -/
theorem OQ.b2s {s : Sl8} (hs : P.underlying t = some (.slice e)) (he : P.underlying e = some (.int .u8)) (hd : P.underlying t' = some .string) (hx : ev E x = some s.v) (hr : ∀ w, Holds w0 S M w → s.ok w) :
    OQ P n E (Holds w0 S M) ⟨dst, .convert t t' x, ty, pos, aft, g⟩ (Z s.l) :=
  OQ.run fun a ha w hw => by
    have h1 := ha.eval hx
    have ok := (hr w hw).reads
    have h2 : (convert t t' s.v).run P w = .ok (Z s.l) w := by
      obtain ⟨ad, cap, l⟩ := s
      show (convert t t' (.slice ad l.length cap)).run P w = _
      rw [run_convert_bytes_string w t t' e ad l.length cap hs he hd]
      cases ad with
      | none =>
        have : l = [] := by
          cases l with
          | nil => rfl
          | cons b l =>
            obtain ⟨_, _, h, _⟩ := ok 0 (U8 b) rfl
            cases h
        subst this
        rfl
      | some ad =>
        have h3 : (loadCells ad l.length).run P w = .ok ((l.map fun b => (b.toNat : Int)).map (Value.int .u8)).toArray w := by
          have := loadCells_reads (P := P) ok
          rw [List.length_map] at this
          rw [this, List.map_map]; rfl
        rw [run_bytesToString w ad l.length cap _ h3, push_all]
        have : ByteArray.empty ++ strB l = strB l := by
          apply ByteArray.ext
          rw [ByteArray.data_append]
          show #[] ++ (strB l).data = _
          simp
        rw [this]
    simp only [execOp, h1, Sem.run_bind, h2, Result.andThen_ok]; rfl
end
/-- x = append(x, v1, v2) -/
theorem JL.push2 {P : Program} {n : Nat} {w0 : World} {S : List Nat} {ops : Array Oper} {Q : Exit → Act → World → Prop} {l : List Oper} {E : Env} {M : List Ent} {t e ty ty' : TypeId} {x1 x2 y : Operand} {z v1 v2 : Value} {by' k cap b d1 d2 : Nat} {pos pos' : String} {aft aft' : Array Edge} {xs : List Value}
    (M' : Nat → Nat → List Ent) (hu : P.underlying t = some (.slice e)) (hi : EI P e z 1 by') (hz : z.cells.size = 1) (hx1 : ev E x1 = some v1) (hx2 : ev E x2 = some v2) (hv1 : v1.cells = #[v1]) (hv2 : v2.cells = #[v2]) (h1 : v1.oneCell' = true) (h2 : v2.oneCell' = true)
    (ha : ∀ bl, ev ((d1, .slice (some ⟨bl, 0, none⟩) 2 2) :: E) y = some (.slice (some ⟨b, 0, none⟩) k cap)) (hup : ∀ b' cap', Repl M b (Own e 1 k cap xs) b' (Own e 1 (k + 2) cap' (xs ++ [v1, v2])) (M' b' cap'))
    (hsm : (k + 2) * by' ≤ 140737488355328) (hsm2 : k + 2 < 9223372036854775808) (hd1 : Nat.blt d1 n = true) (hd2 : Nat.blt d2 n = true)
    (kk : ∀ bl b' cap', JL P n w0 S ops Q l ((d2, .slice (some ⟨b', 0, none⟩) (k + 2) cap') :: (d1, .slice (some ⟨bl, 0, none⟩) 2 2) :: E) (M' b' cap')) :
    JL P n w0 S ops Q (⟨some d1, .buildSlice t 2 #[(0, x1), (1, x2)], ty, pos, aft, none⟩ :: ⟨some d2, .call ⟨.builtin .append, #[y, .tmp d1], #[t, t]⟩, ty', pos', aft', none⟩ :: l) E M := by
  refine JL.litL (xs := [x1, x2]) (vs := [v1, v2]) hu hi hz rfl (by simp [evs, hx1, hx2]) (by simp [h1, h2]) (by simp [hv1, hv2]) rfl (by decide) (by decide) hd1 fun bl _ => ?_
  refine JL.append (cs := [v1, v2]) (m := 2) (ad := some ⟨bl, 0, none⟩) (sc := 2) (fun b' cap' => ⟨bl, Row e [v1, v2], true⟩ :: M' b' cap') hu hi (ha bl) (by simp [ev, lk]) (fun b' cap' => .there (hup b' cap')) rfl (fun w hw => ?_) (by simp [h1, h2]) hz (by decide) hsm hsm2 hd2 fun b' cap' => ?_
  · obtain ⟨o, ho, hA⟩ := hw.get (b := bl) (A := Row e [v1, v2]) (wr := true) .here
    exact Reads.block ho (Row.all _ hA)
  · exact ⟨fun a w ha hw => (kk bl b' cap').go a w ha (hw.weak (.drop _ _ _ (Less.refl _)))⟩
/-- an answer that is a slice of bytes -/
structure Ans (x : Sl8) (l : List Bt) : Prop where
  val : x.l = l
  none : x.ad = .none → x.l = []
theorem less_post (A M : List Ent) : Less M (A ++ M) := by
  induction A with
  | nil => exact Less.refl _
  | cons e A ih => exact .drop _ _ _ ih
theorem Ans.ok {x : Sl8} {l : List Bt} {w0 w : World} {S : List Nat} {M : List Ent} (h : Ans x l) (hw : Holds w0 S (x.ents ++ M) w) : x.ok w := Sl8.ents_ok hw h.none
theorem Ans.ok2 {x : Sl8} {l : List Bt} {w0 w : World} {S : List Nat} {A M : List Ent} (h : Ans x l) (hw : Holds w0 S (A ++ (x.ents ++ M)) w) : x.ok w := h.ok (hw.weak (less_post _ _))
theorem Ans.ok3 {x : Sl8} {l : List Bt} {w0 w : World} {S : List Nat} {A B M : List Ent} (h : Ans x l) (hw : Holds w0 S (A ++ (B ++ (x.ents ++ M))) w) : x.ok w := h.ok2 (hw.weak (less_post _ _))
theorem Ans.ok4 {x : Sl8} {l : List Bt} {w0 w : World} {S : List Nat} {A B D M : List Ent} (h : Ans x l) (hw : Holds w0 S (A ++ (B ++ (D ++ (x.ents ++ M)))) w) : x.ok w := h.ok3 (hw.weak (less_post _ _))
/-- an answer's length is within what it has room for -/
theorem JL.capf {P : Program} {n : Nat} {w0 : World} {S : List Nat} {ops : Array Oper} {Q : Exit → Act → World → Prop} {l : List Oper} {E : Env} {M : List Ent} {x : Sl8} {r : List Bt} (hx : Ans x r) (h : x.l.length ≤ x.cap → JL P n w0 S ops Q l E (x.ents ++ M)) : JL P n w0 S ops Q l E (x.ents ++ M) :=
  ⟨fun a w ha hw => (h (hx.ok hw).len).go a w ha hw⟩
theorem OQ.neI_t {P : Program} {n : Nat} {E : Env} {C : World → Prop} {dst : Option Tmp} {ty t t' : TypeId} {pos : String} {aft : Array Edge} {g : Option (Nat × Bool)} {x y : Operand} {k : IntKind} {a b : Int} (hx : ev E x = some (.int k a)) (hy : ev E y = some (.int k b)) (h : ¬ a = b) : OQ P n E C ⟨dst, .binOp .neq t x y t', ty, pos, aft, g⟩ (.bool true) := by
  have e : (!decide (a = b)) = true := by rw [decide_eq_false h]; rfl
  exact e ▸ OQ.nei hx hy
theorem by_ne {c d : Bt} (h : ¬ c = d) : ¬ (c.toNat : Int) = (d.toNat : Int) := fun e => h (BitVec.eq_of_toNat_eq (by omega))
end Go.Proofs.Ytbihfhkbkcplmaa
