/-
  Of no statement by itself: rules for parts of an answer with several results, for made slices, and for slices with three bounds.
  Conditions: each rule's own hypotheses.
-/
import Derived.Test.YtbihfhkbkcplmaaSlh
import Derived.Laws.MakeOwn
import Derived.Lib.ConvBytes
namespace Go.Proofs.Ytbihfhkbkcplmaa
namespace Sl
section
variable {P : Program} {n : Nat} {w0 : World} {S : List Nat} {ops : Array Oper} {Q : Exit → Act → World → Prop} {l : List Oper} {E : Env} {M : List Ent} {C : World → Prop}
variable {dst : Option Tmp} {d b : Nat} {t e ty : TypeId} {pos : String} {aft : Array Edge} {g : Option (Nat × Bool)} {v : Value} {x y z : Operand}
theorem OQ.extract {vs : Array Value} {i : Nat} (hx : ev E x = some (.tuple vs)) (hi : vs[i]? = some v) : OQ P n E C ⟨dst, .extract x i, ty, pos, aft, g⟩ v :=
  OQ.run fun a ha w _ => by
    have h1 := ha.eval hx
    simp [execOp, h1, Instr.extract, hi]
/-- 'x[:hi:mx]' of a slice -/
theorem OQ.slS_hi3 {len cap hi mx sz : Nat} {ad : Option Addr} (hu : P.underlying t = some (.slice e)) (hz : szT P e = some sz) (hx : ev E x = some (.slice ad len cap)) (hh : ev E y = some (N hi)) (hm : ev E z = some (N mx)) (h : hi ≤ mx) (h' : mx ≤ cap) :
    OQ P n E C ⟨dst, .slice t x none (some y) (some z), ty, pos, aft, g⟩ (.slice (if mx = 0 then ad else ad.map (·.add 0)) hi mx) :=
  OQ.run fun a ha w _ => by
    have h1 := ha.eval hx
    have h2 := ha.eval hh
    have h4 := ha.eval hm
    have h3 : (underlying t).run P w = .ok (.slice e) w := run_underlying hu w
    simp [execOp, h1, h2, h4, Instr.sliceAt, Sem.run_bind, h3, Instr.slice, Instr.sliceBounds, Instr.sliceBound, asIntOf, h, h', sizeOf_run hz]
theorem made_u8 {k : Nat} (zc : Array Value) (h : zc = (List.replicate k (Value.int .u8 0)).toArray) (h0 : 0 < k) (m : Nat) : madeCells zc m = (List.replicate m (Value.int .u8 0)).toArray := by
  subst h
  apply Array.ext'
  simp only [madeCells, List.size_toArray, List.length_replicate, Array.toList_map, Array.toList_range]
  apply List.ext_getElem?
  intro i
  by_cases h : i < m
  · simp [h, Nat.mod_lt _ h0]
  · simp [h]
/-- make([]T, c): a new row of noughts -/
theorem JL.make {zv : Value} {sz by' c : Nat} (hu : P.underlying t = some (.slice e)) (hi : EI P e zv sz by') (hz : zv.cells = (List.replicate sz (Value.int .u8 0)).toArray) (h0 : 0 < sz) (hx : ev E x = some (N c)) (hy : ev E y = some (N c)) (hb : by' * c ≤ 281474976710656) (hc : c < 9223372036854775808) (hd : Nat.blt d n = true)
    (k : ∀ b, w0.heap.size ≤ b → JL P n w0 S ops Q l ((d, .slice (some ⟨b, 0, none⟩) c c) :: E) (⟨b, Row e (List.replicate (c * sz) (.int .u8 0)), true⟩ :: M)) : JL P n w0 S ops Q (⟨some d, .makeSlice t x y, ty, pos, aft, none⟩ :: l) E M :=
  ⟨fun a w ha hw => wpList_plain rfl fun K hK => by
    obtain ⟨i, hi1, hi2, hi3, hi4⟩ := hi.get
    have hbb : (i.bytes : Int) * (c : Int) ≤ 281474976710656 := by
      rw [hi4, ← Int.natCast_mul]
      exact Int.ofNat_le.2 hb
    have hrun := run_make (P := P) w t e i zv hu hi1 hi2 .i64 .i64 c c (by omega) (Int.le_refl _) hbb (by omega)
    simp only [Int.toNat_natCast, hi3] at hrun
    rw [made_u8 _ hz h0] at hrun
    unfold Oper.wp
    simp only [execOp, ha.eval hx, ha.eval hy, Sem.run_bind, hrun, Result.andThen_ok]
    exact hK _ _ ((k w.heap.size hw.chg.size).go _ _ (ha.put d _ hd) (hw.push (.cells (List.replicate (c * sz) (Value.int .u8 0)).toArray e (0, 0)) rfl rfl rfl rfl rfl))⟩
end
end Sl
end Go.Proofs.Ytbihfhkbkcplmaa
