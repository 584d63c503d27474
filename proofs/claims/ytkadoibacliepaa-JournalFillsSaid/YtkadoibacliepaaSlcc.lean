/-
  Of no statement by itself: slices of the function's own whose elements have many cells: their elements as chunks, append of one element, stores of one; parts of a literal of a struct; for any program P.
  Conditions: each rule's own hypotheses.
-/
import Derived.Test.YtkadoibacliepaaSlwi
namespace Go.Proofs.Ytkadoibacliepaa
set_option maxRecDepth 10000
open Sl
namespace Sl
section
variable {P : Program} {n : Nat} {w0 : World} {S : List Nat} {ops : Array Oper} {Q : Exit → Act → World → Prop} {l : List Oper} {E : Env} {M M' M0 : List Ent} {d : Nat} {t e ty : TypeId} {pos : String} {aft : Array Edge} {x y : Operand}
def accC (e : TypeId) (sz : Nat) (q : Acc) (L : List (List Value)) : List Ent := match q with
  | none => []
  | some p => [⟨p.1, Sl.Own e sz L.length p.2 L.flatten, true⟩]
theorem accC_wr (e : TypeId) (sz : Nat) (q : Acc) (L : List (List Value)) : ∀ x ∈ accC e sz q L, x.wr = true := by
  cases q with
  | none => nofun
  | some p => intro x hx; rw [List.mem_singleton.1 hx]
/-- one element more -/
theorem JL.appendC {z : Value} {by' bl sz : Nat} {c : List Value} {L : List (List Value)} (q : Acc) (hu : P.underlying t = some (.slice e)) (hi : EI P e z sz by') (hq : q = none → L = []) (hx : ev E x = some (accV q L.length)) (hy : ev E y = some (.slice (some ⟨bl, 0, none⟩) 1 1))
    (hcl : c.length = sz) (h1 : ∀ v ∈ c, v.oneCell' = true) (hzz : z.cells.size = sz) (h0 : 0 < sz) (hsm : (L.length + 1) * by' ≤ 140737488355328) (hsm2 : L.length + 1 < 9223372036854775808) (hd : Nat.blt d n = true)
    (kk : ∀ b' cap', JL P n w0 S ops Q l ((d, accV (some (b', cap')) (L ++ [c]).length) :: E) (accC e sz (some (b', cap')) (L ++ [c]) ++ M0)) :
    JL P n w0 S ops Q (⟨some d, .call ⟨.builtin .append, #[x, y], #[t, t]⟩, ty, pos, aft, none⟩ :: l) E (⟨bl, Row e c, true⟩ :: (accC e sz q L ++ M0)) := by
  have hr : ∀ w, Holds w0 S (⟨bl, Row e c, true⟩ :: (accC e sz q L ++ M0)) w → Reads w (some ⟨bl, 0, none⟩) c := fun w hw => by
    obtain ⟨o, ho, hA⟩ := hw.get (b := bl) (A := Row e c) (wr := true) .here
    exact Reads.block ho (Row.all _ hA)
  have eN : (L ++ [c]).length = L.length + 1 := List.length_append
  have eF : (L ++ [c]).flatten = L.flatten ++ c := by rw [List.flatten_append]; simp
  cases q with
  | none =>
    obtain rfl := hq rfl
    refine JL.append_nil (cs := c) (m := 1) hu hi hx hy (by rw [hcl, Nat.one_mul]) hr (by decide) hzz h0 (by simpa using hsm) (by decide) hd fun b' cap' _ => ?_
    refine (kk b' cap').lessM ?_
    refine .keep _ _ _ _ _ _ (fun o h => ?_) (.drop _ _ _ (Less.refl _))
    rw [eF]
    exact h
  | some r =>
    refine JL.append (cs := c) (m := 1) (b := r.1) (cap := r.2) (k := L.length) (xs := L.flatten) (fun b' cap' => ⟨bl, Row e c, true⟩ :: (accC e sz (some (b', cap')) (L ++ [c]) ++ M0)) hu hi hx hy (fun b' cap' => ?_) (by rw [hcl, Nat.one_mul]) hr h1 hzz h0 hsm hsm2 hd fun b' cap' => ?_
    · show Repl (_ :: ⟨r.1, Sl.Own e sz L.length r.2 L.flatten, true⟩ :: M0) _ _ _ _ (_ :: ⟨b', Sl.Own e sz (L ++ [c]).length cap' (L ++ [c]).flatten, true⟩ :: M0)
      rw [eN, eF]
      exact .there .here
    · have := kk b' cap'
      rw [show accV (some (b', cap')) (L ++ [c]).length = Value.slice (some ⟨b', 0, none⟩) (L.length + 1) cap' by rw [eN]; rfl] at this
      exact this.lessM (.drop _ _ _ (Less.refl _))
end
/-! ### chunks -/
theorem chunk_len {sz : Nat} : ∀ {L : List (List Value)} (_ : ∀ c ∈ L, c.length = sz), L.flatten.length = L.length * sz
  | [], _ => by simp
  | c :: L, h => by
    rw [List.flatten_cons, List.length_append, h c (by simp), chunk_len fun d hd => h d (by simp [hd]), List.length_cons, Nat.succ_mul]
    omega
theorem chunk_drop {sz : Nat} : ∀ {L : List (List Value)} (_ : ∀ c ∈ L, c.length = sz) (i : Nat), L.flatten.drop (i * sz) = (L.drop i).flatten
  | [], _, i => by simp
  | c :: L, h, 0 => by simp
  | c :: L, h, i + 1 => by
    rw [List.flatten_cons, Nat.succ_mul, Nat.add_comm, ← List.drop_drop, ← h c (by simp), List.drop_left, h c (by simp), chunk_drop (fun d hd => h d (by simp [hd])) i]
    rfl
theorem chunk_take {sz : Nat} : ∀ {L : List (List Value)} (_ : ∀ c ∈ L, c.length = sz) (i : Nat), L.flatten.take (i * sz) = (L.take i).flatten
  | [], _, i => by simp
  | c :: L, h, 0 => by simp
  | c :: L, h, i + 1 => by
    have hc := h c (by simp)
    rw [List.flatten_cons, Nat.succ_mul, Nat.add_comm, List.take_append, List.take_of_length_le (by omega), hc, Nat.add_sub_cancel_left, chunk_take (fun d hd => h d (by simp [hd])) i]
    rfl
theorem chunk_at {sz i : Nat} {L : List (List Value)} (h : ∀ c ∈ L, c.length = sz) (hi : i < L.length) : (L.flatten.drop (i * sz)).take sz = L.getD i [] := by
  rw [chunk_drop h, List.drop_eq_getElem_cons hi, List.flatten_cons, List.take_append_of_le_length (by rw [h _ (List.getElem_mem hi)]; exact Nat.le_refl _), List.take_of_length_le (by rw [h _ (List.getElem_mem hi)]; exact Nat.le_refl _)]
  simp [hi]
theorem chunk_set {sz i : Nat} {L : List (List Value)} {c : List Value} (h : ∀ c ∈ L, c.length = sz) (hi : i < L.length) : L.flatten.take (i * sz) ++ c ++ L.flatten.drop (i * sz + sz) = (L.set i c).flatten := by
  rw [← Nat.succ_mul, chunk_drop h, chunk_take h, List.set_eq_take_append_cons_drop, if_pos hi, List.flatten_append, List.flatten_cons, List.append_assoc]
theorem Own.chunk {e : TypeId} {sz k cap i : Nat} {L : List (List Value)} (h : ∀ c ∈ L, c.length = sz) (hi : i < L.length) : ∀ o, Own e sz k cap L.flatten o → hasCells o (i * sz) (L.getD i []) := by
  intro o ho
  have h1 := Own.cells o ho
  have hl := chunk_len h
  have hle : i * sz + sz ≤ L.flatten.length := by rw [hl, ← Nat.succ_mul]; exact Nat.mul_le_mul_right _ hi
  have h2 := has_part (k := i * sz) (t := sz) h1 hle
  rwa [chunk_at h hi, Nat.zero_add] at h2
section
variable {P : Program} {n : Nat} {w0 : World} {S : List Nat} {ops : Array Oper} {Q : Exit → Act → World → Prop} {l : List Oper} {E : Env} {M M' : List Ent} {C : World → Prop}
variable {dst : Option Tmp} {d b : Nat} {t e ty : TypeId} {pos : String} {aft : Array Edge} {g : Option (Nat × Bool)} {x y : Operand} {c : List Value} {L : List (List Value)} {wr : Bool}
/-- a whole element is loaded -/
theorem OQ.loadC {sz k cap i o : Nat} (ha : aggT P t = true) (hz : szT P t = some sz) (hx : ev E x = some (.pointer (some ⟨b, o, none⟩))) (ho : o = i * sz) (hM : Has M b (Own e sz k cap L.flatten) wr) (hL : ∀ c ∈ L, c.length = sz) (hi : i < L.length) : OQ P n E (Holds w0 S M) ⟨dst, .load t x, ty, pos, aft, g⟩ (.agg (L.getD i []).toArray) := by
  subst ho
  exact OQ.load_agg ha hz hx hM (hL _ (by rw [List.getD_eq_getElem?_getD, List.getElem?_eq_getElem hi]; exact List.getElem_mem _)) (Own.chunk hL hi)
/-- a whole element is stored -/
theorem JL.storeC {sz k cap i o : Nat} (hz : szT P t = some sz) (hx : ev E x = some (.pointer (some ⟨b, o, none⟩))) (ho : o = i * sz) (hy : ev E y = some (.agg c.toArray)) (hl : c.length = sz) (hv : c.all Value.oneCell' = true)
    (hL : ∀ c ∈ L, c.length = sz) (hk : L.length = k) (hi : i < k) (hu : Upd M b (Own e sz k cap L.flatten) (Own e sz k cap (L.set i c).flatten) M') (hk' : JL P n w0 S ops Q l E M') : JL P n w0 S ops Q (⟨none, .store t x y, ty, pos, aft, none⟩ :: l) E M :=
  JL.storeO hz hx ho hy hl hv hu hi (chunk_set hL (by omega)) hk'
end
theorem chunk_part {sz sz' i off : Nat} {L : List (List Value)} {c : List Value} (h : ∀ c ∈ L, c.length = sz) (hi : i < L.length) (ho : off + sz' ≤ sz) : L.flatten.take (i * sz + off) ++ c ++ L.flatten.drop (i * sz + off + sz') = (L.set i ((L.getD i []).take off ++ c ++ (L.getD i []).drop (off + sz'))).flatten := by
  rw [← chunk_set h hi, ← chunk_at h hi, List.take_add, List.take_take, Nat.min_eq_left (by omega)]
  have e : L.flatten.drop (i * sz) = (L.flatten.drop (i * sz)).take sz ++ L.flatten.drop (i * sz + sz) := by rw [← List.drop_drop, List.take_append_drop]
  have hl : ((L.flatten.drop (i * sz)).take sz).length = sz := by
    rw [chunk_at h hi, List.getD_eq_getElem?_getD, List.getElem?_eq_getElem hi]
    exact h _ (List.getElem_mem _)
  have e2 : L.flatten.drop (i * sz + off + sz') = ((L.flatten.drop (i * sz)).take sz).drop (off + sz') ++ L.flatten.drop (i * sz + sz) := by
    rw [Nat.add_assoc, ← List.drop_drop, e, List.drop_append_of_le_length (by omega), ← e]
  rw [e2]
  simp only [List.append_assoc]
section
variable {P : Program} {n : Nat} {w0 : World} {S : List Nat} {ops : Array Oper} {Q : Exit → Act → World → Prop} {l : List Oper} {E : Env} {M M' : List Ent}
variable {b : Nat} {t e ty : TypeId} {pos : String} {aft : Array Edge} {x y : Operand} {c : List Value} {L : List (List Value)}
/-- cells within one's own slice -/
theorem JL.storeAt {sz sz' k cap o : Nat} {xs xs' : List Value} (hz : szT P t = some sz') (hx : ev E x = some (.pointer (some ⟨b, o, none⟩))) (hy : ev E y = some (.agg c.toArray)) (hl : c.length = sz') (hv : c.all Value.oneCell' = true)
    (hu : Upd M b (Own e sz k cap xs) (Own e sz k cap xs') M') (hi : o + sz' ≤ xs.length) (he : xs.take o ++ c ++ xs.drop (o + sz') = xs') (hk : JL P n w0 S ops Q l E M') : JL P n w0 S ops Q (⟨none, .store t x y, ty, pos, aft, none⟩ :: l) E M := by
  refine JL.store_agg hz hx hy hl hv hu (fun ob hob => ?_) hk
  obtain ⟨sp, rfl, h1, h2, h3⟩ := hob
  have hxl : xs'.length = xs.length := by rw [← he]; simp; omega
  refine ⟨xs ++ sp, e, rfl, by rw [List.length_append]; omega, sp, ?_, by rw [List.length_append] at h1 ⊢; omega, by omega, h3⟩
  rw [← he, hl]
  rw [List.take_append_of_le_length (by omega), List.drop_append_of_le_length (by omega)]
  simp
/-- a part of an element -/
theorem JL.storeP {sz sz' k cap i o off : Nat} (hz : szT P t = some sz') (hx : ev E x = some (.pointer (some ⟨b, o, none⟩))) (ho : o = i * sz + off) (hy : ev E y = some (.agg c.toArray)) (hl : c.length = sz') (hv : c.all Value.oneCell' = true)
    (hL : ∀ c ∈ L, c.length = sz) (hk : L.length = k) (hi : i < k) (hof : off + sz' ≤ sz) (hu : Upd M b (Own e sz k cap L.flatten) (Own e sz k cap (L.set i ((L.getD i []).take off ++ c ++ (L.getD i []).drop (off + sz'))).flatten) M') (hk' : JL P n w0 S ops Q l E M') : JL P n w0 S ops Q (⟨none, .store t x y, ty, pos, aft, none⟩ :: l) E M := by
  subst ho
  have hle : i * sz + sz ≤ L.flatten.length := by rw [chunk_len hL, ← Nat.succ_mul]; exact Nat.mul_le_mul_right _ (by omega)
  exact JL.storeAt hz hx hy hl hv hu (by omega) (chunk_part hL (by omega) hof) hk'
end
theorem row_ownC {e : TypeId} {sz m : Nat} {xs : List Value} (h : xs.length = m * sz) : ∀ o, Row e xs o → Own e sz m m xs o := by
  rintro o rfl
  exact ⟨[], by simp, by simp [h], h, Nat.le_refl _⟩
/-! ### parts of a literal of a struct -/
theorem fill_put : ∀ (cs : List Value) (k off : Nat) (l : List Value), off + k + cs.length ≤ l.length → (cs.zipIdx k).foldl (fun a (x : Value × Nat) => a.setIfInBounds (off + x.2) x.1) l.toArray = (l.take (off + k) ++ cs ++ l.drop (off + k + cs.length)).toArray
  | [], k, off, l, _ => by simp
  | c :: cs, k, off, l, h => by
    simp only [List.length_cons] at h
    rw [List.zipIdx_cons, List.foldl_cons]
    show (cs.zipIdx (k + 1)).foldl _ (l.toArray.setIfInBounds (off + k) c) = _
    rw [List.setIfInBounds_toArray, fill_put cs (k + 1) off (l.set (off + k) c) (by rw [List.length_set]; omega)]
    congr 1
    rw [List.take_set, List.drop_set, if_pos (by omega)]
    rw [show off + (k + 1) = off + k + 1 by omega, List.take_add_one]
    simp only [List.getElem?_eq_getElem (show off + k < l.length by omega), Option.toList_some, List.length_cons]
    rw [List.set_append_right _ _ (by rw [List.length_take]; omega)]
    have e0 : off + k - (l.take (off + k)).length = 0 := by rw [List.length_take]; omega
    rw [e0]
    simp [Nat.add_assoc, Nat.add_comm, Nat.add_left_comm]
theorem fill_one {place : Nat → Option (Nat × Nat)} {i off sz : Nat} {v : Value} {cs l : List Value} {rest : List (Nat × Value)} (hp : place i = some (off, sz)) (hv : v.cells = cs.toArray) (hl : cs.length = sz) (hb : off + sz ≤ l.length) :
    Instr.fill place l.toArray ((i, v) :: rest) = Instr.fill place (l.take off ++ cs ++ l.drop (off + sz)).toArray rest := by
  have h1 := fill_put cs 0 off l (by omega)
  rw [Nat.add_zero, hl] at h1
  rw [← h1]
  have hc : ¬ (v.cells.size ≠ sz ∨ off + v.cells.size > l.toArray.size) := by
    rw [hv, List.size_toArray, hl, List.size_toArray]
    omega
  simp only [Instr.fill, hp]
  rw [if_neg (by simpa using hc), hv]
  simp
end Sl
end Go.Proofs.Ytkadoibacliepaa
