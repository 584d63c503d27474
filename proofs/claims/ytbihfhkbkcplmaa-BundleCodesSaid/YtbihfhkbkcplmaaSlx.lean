/-
  Of no statement by itself: rules for conversions between numbers, for addresses and for cuts of arrays and slices, over X's partial knowledge of frame and memory, for any program P.
  Conditions: each rule's own hypotheses.
-/
import Derived.Test.YtbihfhkbkcplmaaSlw
namespace Go.Proofs.Ytbihfhkbkcplmaa
namespace Sl

section
variable {P : Program} {n : Nat} {E : Env} {C : World → Prop} {dst : Option Tmp} {ty t t' e : TypeId} {pos : String} {aft : Array Edge} {g : Option (Nat × Bool)} {x y : Operand} {u v r : Value}

/-! #### conversions -/
theorem OQ.conv {k k' : IntKind} {d : TypeDesc} {i : Int} (hs : P.underlying t = some d) (hd : P.underlying t' = some (.int k)) (hx : ev E x = some (.int k' i)) (hv : v = .int k (k.wrap i)) : OQ P n E C ⟨dst, .convert t t' x, ty, pos, aft, g⟩ v := by
  subst hv
  refine OQ.run fun a ha w _ => ?_
  have h1 := ha.eval hx
  have h2 : (underlying t).run P w = .ok d w := run_underlying hs w
  have h3 : (underlying t').run P w = .ok (.int k) w := run_underlying hd w
  cases d <;> simp [execOp, h1, convert, Sem.run_bind, h2, h3, Conv.intToInt]
theorem OQ.conv8_32 {d : TypeDesc} {a : BitVec 8} (hs : P.underlying t = some d) (hd : P.underlying t' = some (.int .u32)) (hx : ev E x = some (U8 a)) : OQ P n E C ⟨dst, .convert t t' x, ty, pos, aft, g⟩ (U32 (a.setWidth 32)) :=
  OQ.conv hs hd hx (by rw [wrap32]; simp [U32])
theorem OQ.conv32_8 {d : TypeDesc} {a : BitVec 32} (hs : P.underlying t = some d) (hd : P.underlying t' = some (.int .u8)) (hx : ev E x = some (U32 a)) : OQ P n E C ⟨dst, .convert t t' x, ty, pos, aft, g⟩ (U8 (a.setWidth 8)) :=
  OQ.conv hs hd hx (by rw [wrap8]; simp [U8])
theorem OQ.conv64_8 {d : TypeDesc} {a : BitVec 64} (hs : P.underlying t = some d) (hd : P.underlying t' = some (.int .u8)) (hx : ev E x = some (U64 a)) : OQ P n E C ⟨dst, .convert t t' x, ty, pos, aft, g⟩ (U8 (a.setWidth 8)) :=
  OQ.conv hs hd hx (by rw [wrap8]; simp [U8])
theorem OQ.convN_64 {d : TypeDesc} {a : Nat} (hs : P.underlying t = some d) (hd : P.underlying t' = some (.int .u64)) (hx : ev E x = some (N a)) : OQ P n E C ⟨dst, .convert t t' x, ty, pos, aft, g⟩ (U64 (BitVec.ofNat 64 a)) :=
  OQ.conv hs hd hx (by rw [wrap64]; simp [U64])
theorem OQ.convN_8 {d : TypeDesc} {a : Nat} (hs : P.underlying t = some d) (hd : P.underlying t' = some (.int .u8)) (hx : ev E x = some (N a)) : OQ P n E C ⟨dst, .convert t t' x, ty, pos, aft, g⟩ (U8 (BitVec.ofNat 8 a)) :=
  OQ.conv hs hd hx (by rw [wrap8]; simp [U8])
theorem OQ.conv64_N {d : TypeDesc} {a : BitVec 64} (hs : P.underlying t = some d) (hd : P.underlying t' = some (.int .i64)) (hx : ev E x = some (U64 a)) (h : a.toNat < 9223372036854775808) : OQ P n E C ⟨dst, .convert t t' x, ty, pos, aft, g⟩ (N a.toNat) :=
  OQ.conv hs hd hx (by rw [wrapN (by omega) (by omega)])

theorem OQ.negN {a : Nat} (hx : ev E x = some (N a)) (h : a < 9223372036854775808) : OQ P n E C ⟨dst, .unOp .neg t x, ty, pos, aft, g⟩ (.int .i64 (-(a : Int))) :=
  OQ.run fun c ha w _ => by
    have h1 := ha.eval hx
    have h3 : IntKind.i64.wrap ((0 : Int) - (a : Int)) = -(a : Int) := (wrapN (by omega) (by omega)).trans (by omega)
    simp only [execOp, h1]
    exact congrArg (fun z : Int => (Result.ok (Next.value (Value.int .i64 z)) w : Result Next)) h3
theorem OQ.sub64 {a b : BitVec 64} (hx : ev E x = some (U64 a)) (hy : ev E y = some (U64 b)) (h : b.toNat ≤ a.toNat) : OQ P n E C ⟨dst, .binOp .sub t x y t', ty, pos, aft, g⟩ (U64 (a - b)) :=
  OQ.bin hx hy rfl fun _ => okInt (k := .u64) (show IntKind.u64.wrap ((a.toNat : Int) - b.toNat) = ((a - b).toNat : Int) by
    rw [BitVec.toNat_sub_of_le (by simpa [BitVec.le_def] using h), ← Int.ofNat_sub h, wrap64, Nat.mod_eq_of_lt (by have := a.isLt; omega)])

/-! #### places -/
theorem OQ.idxA {len b j i sz : Nat} (hu : P.underlying t = some (.array len e)) (hz : szT P e = some sz) (hx : ev E x = some (.pointer (some ⟨b, j, none⟩))) (hy : ev E y = some (N i)) (hi : i < len) :
    OQ P n E C ⟨dst, .indexAddr t x y, ty, pos, aft, g⟩ (.pointer (some ⟨b, j + i * sz, none⟩)) :=
  OQ.run fun a ha w _ => by
    have h1 := ha.eval hx
    have h2 := ha.eval hy
    have h3 : (underlying t).run P w = .ok (.array len e) w := run_underlying hu w
    have h4 : (0 : Int) ≤ (i : Int) ∧ (i : Int) < (len : Int) := by omega
    simp [execOp, h1, h2, Instr.indexAt, asIntOf, Sem.run_bind, h3, Instr.sureAddr, hi, sizeOf_run hz, add_off]
theorem OQ.idxS {len cap b j i sz : Nat} (hu : P.underlying t = some (.slice e)) (hz : szT P e = some sz) (hx : ev E x = some (.slice (some ⟨b, j, none⟩) len cap)) (hy : ev E y = some (N i)) (hi : i < len) :
    OQ P n E C ⟨dst, .indexAddr t x y, ty, pos, aft, g⟩ (.pointer (some ⟨b, j + i * sz, none⟩)) :=
  OQ.run fun a ha w _ => by
    have h1 := ha.eval hx
    have h2 := ha.eval hy
    have h3 : (underlying t).run P w = .ok (.slice e) w := run_underlying hu w
    simp [execOp, h1, h2, Instr.indexAt, asIntOf, Sem.run_bind, h3, hi, sizeOf_run hz, add_off]
theorem OQ.idxA0 {len b i : Nat} (hu : P.underlying t = some (.array len e)) (hz : szT P e = some 1) (hx : ev E x = some (.pointer (some ⟨b, 0, none⟩))) (hy : ev E y = some (N i)) (hi : i < len) :
    OQ P n E C ⟨dst, .indexAddr t x y, ty, pos, aft, g⟩ (.pointer (some ⟨b, i, none⟩)) := by
  have := OQ.idxA (P := P) (n := n) (C := C) (dst := dst) (ty := ty) (pos := pos) (aft := aft) (g := g) hu hz hx hy hi
  rwa [Nat.mul_one, Nat.zero_add] at this
theorem OQ.idxA1 {len b j i : Nat} (hu : P.underlying t = some (.array len e)) (hz : szT P e = some 1) (hx : ev E x = some (.pointer (some ⟨b, j, none⟩))) (hy : ev E y = some (N i)) (hi : i < len) :
    OQ P n E C ⟨dst, .indexAddr t x y, ty, pos, aft, g⟩ (.pointer (some ⟨b, j + i, none⟩)) := by
  have := OQ.idxA (P := P) (n := n) (C := C) (dst := dst) (ty := ty) (pos := pos) (aft := aft) (g := g) hu hz hx hy hi
  rwa [Nat.mul_one] at this
theorem OQ.idxS0 {len cap b i : Nat} (hu : P.underlying t = some (.slice e)) (hz : szT P e = some 1) (hx : ev E x = some (.slice (some ⟨b, 0, none⟩) len cap)) (hy : ev E y = some (N i)) (hi : i < len) :
    OQ P n E C ⟨dst, .indexAddr t x y, ty, pos, aft, g⟩ (.pointer (some ⟨b, i, none⟩)) := by
  have := OQ.idxS (P := P) (n := n) (C := C) (dst := dst) (ty := ty) (pos := pos) (aft := aft) (g := g) hu hz hx hy hi
  rwa [Nat.mul_one, Nat.zero_add] at this
theorem OQ.idxS1 {len cap b j i : Nat} (hu : P.underlying t = some (.slice e)) (hz : szT P e = some 1) (hx : ev E x = some (.slice (some ⟨b, j, none⟩) len cap)) (hy : ev E y = some (N i)) (hi : i < len) :
    OQ P n E C ⟨dst, .indexAddr t x y, ty, pos, aft, g⟩ (.pointer (some ⟨b, j + i, none⟩)) := by
  have := OQ.idxS (P := P) (n := n) (C := C) (dst := dst) (ty := ty) (pos := pos) (aft := aft) (g := g) hu hz hx hy hi
  rwa [Nat.mul_one] at this
theorem OQ.index {len i : Nat} {cs : List Value} (hu : P.underlying t = some (.array len e)) (hz : szT P e = some 1) (hs : scal P e = true) (hx : ev E x = some (.agg cs.toArray)) (hy : ev E y = some (N i)) (hi : i < len) (hv : cs[i]? = some v) :
    OQ P n E C ⟨dst, .index t x y, ty, pos, aft, g⟩ v :=
  OQ.run fun a ha w _ => by
    have h1 := ha.eval hx
    have h2 := ha.eval hy
    have h3 : (underlying t).run P w = .ok (.array len e) w := run_underlying hu w
    simp [execOp, h1, h2, Instr.index, asIntOf, Sem.run_bind, h3, hi, sizeOf_run hz, part, isAgg_scal hs, hv]
theorem OQ.fld {s f : Nat} {fs : Array Field} {fd : Field} {b j sz : Nat} (hu : P.underlying s = some (.struct fs)) (hf : fs[f]? = some fd) (hz : szT P fd.type = some sz) (h0 : sz ≠ 0) (hx : ev E x = some (.pointer (some ⟨b, j, none⟩))) :
    OQ P n E C ⟨dst, .fieldAddr s x f, ty, pos, aft, g⟩ (.pointer (some ⟨b, j + fd.offset, none⟩)) :=
  OQ.run fun a ha w _ => by
    have h1 := ha.eval hx
    have h3 : (underlying s).run P w = .ok (.struct fs) w := run_underlying hu w
    simp [execOp, h1, Instr.fieldAt, Sem.run_bind, h3, hf, Instr.sureAddr, fieldPlace, sizeOf_run hz, h0, add_off]
theorem OQ.arr {len cap k : Nat} {ad : Option Addr} (hu : P.underlying t = some (.array k e)) (hx : ev E x = some (.slice ad len cap)) (hl : k ≤ len) : OQ P n E C ⟨dst, .sliceToArrayPointer t x, ty, pos, aft, g⟩ (.pointer ad) :=
  OQ.run fun a ha w _ => by
    have h1 := ha.eval hx
    have h3 : (underlying t).run P w = .ok (.array k e) w := run_underlying hu w
    have : ¬ len < k := by omega
    simp [execOp, h1, Instr.arrayAt, Sem.run_bind, h3, this]
/-- 'x[lo:]' of an array behind its address -/
theorem OQ.slA_lo {len b j lo : Nat} (hu : P.underlying t = some (.array len e)) (hz : szT P e = some 1) (hx : ev E x = some (.pointer (some ⟨b, j, none⟩))) (hl : ev E y = some (N lo)) (h : lo < len) :
    OQ P n E C ⟨dst, .slice t x (some y) none none, ty, pos, aft, g⟩ (.slice (some ⟨b, j + lo, none⟩) (len - lo) (len - lo)) :=
  OQ.run fun a ha w _ => by
    have h1 := ha.eval hx
    have h2 := ha.eval hl
    have h3 : (underlying t).run P w = .ok (.array len e) w := run_underlying hu w
    have h4 : lo ≤ len := by omega
    have h5 : ¬ len = lo := by omega
    simp [execOp, h1, h2, Instr.sliceAt, Sem.run_bind, h3, Instr.sureAddr, Instr.sliceBounds, Instr.sliceBound, asIntOf, h4, sizeOf_run hz, h5, add_off]
/-- 'x[:]' of an array behind its address -/
theorem OQ.slA {len b j sz : Nat} (hu : P.underlying t = some (.array len e)) (hz : szT P e = some sz) (hx : ev E x = some (.pointer (some ⟨b, j, none⟩))) :
    OQ P n E C ⟨dst, .slice t x none none none, ty, pos, aft, g⟩ (.slice (some ⟨b, j, none⟩) len len) :=
  OQ.run fun a ha w _ => by
    have h1 := ha.eval hx
    have h3 : (underlying t).run P w = .ok (.array len e) w := run_underlying hu w
    have h6 : (⟨b, j, none⟩ : Addr).add 0 = ⟨b, j, none⟩ := by rw [add_off]; rfl
    simp [execOp, h1, Instr.sliceAt, Sem.run_bind, h3, Instr.sureAddr, Instr.sliceBounds, sizeOf_run hz, h6]
/-- 'x[:hi:mx]' of an array behind its address -/
theorem OQ.slA_hi3 {len b j hi mx sz : Nat} {z : Operand} (hu : P.underlying t = some (.array len e)) (hz : szT P e = some sz) (hx : ev E x = some (.pointer (some ⟨b, j, none⟩))) (hh : ev E y = some (N hi)) (hm : ev E z = some (N mx)) (h : hi ≤ mx) (h' : mx ≤ len) :
    OQ P n E C ⟨dst, .slice t x none (some y) (some z), ty, pos, aft, g⟩ (.slice (some ⟨b, j, none⟩) hi mx) :=
  OQ.run fun a ha w _ => by
    have h1 := ha.eval hx
    have h2 := ha.eval hh
    have h2' := ha.eval hm
    have h3 : (underlying t).run P w = .ok (.array len e) w := run_underlying hu w
    have h6 : (⟨b, j, none⟩ : Addr).add 0 = ⟨b, j, none⟩ := by rw [add_off]; rfl
    simp [execOp, h1, h2, h2', Instr.sliceAt, Sem.run_bind, h3, Instr.sureAddr, Instr.sliceBounds, Instr.sliceBound, asIntOf, h, h', sizeOf_run hz, h6]
/-- 'x[lo:]' of a slice: its cells from lo on (where nothing is left the old address is kept) -/
theorem OQ.slS_lo {len cap lo sz : Nat} {ad : Option Addr} (hu : P.underlying t = some (.slice e)) (hz : szT P e = some sz) (hx : ev E x = some (.slice ad len cap)) (hl : ev E y = some (N lo)) (h : lo ≤ len) :
    OQ P n E C ⟨dst, .slice t x (some y) none none, ty, pos, aft, g⟩ (.slice (if cap = lo then ad else ad.map (·.add (lo * sz))) (len - lo) (cap - lo)) :=
  OQ.run fun a ha w _ => by
    have h1 := ha.eval hx
    have h2 := ha.eval hl
    have h3 : (underlying t).run P w = .ok (.slice e) w := run_underlying hu w
    simp [execOp, h1, h2, Instr.sliceAt, Sem.run_bind, h3, Instr.slice, Instr.sliceBounds, Instr.sliceBound, asIntOf, h, sizeOf_run hz]
/-- 'x[:hi]' of a slice -/
theorem OQ.slS_hi {len cap hi sz : Nat} {ad : Option Addr} (hu : P.underlying t = some (.slice e)) (hz : szT P e = some sz) (hx : ev E x = some (.slice ad len cap)) (hh : ev E y = some (N hi)) (h : hi ≤ cap) :
    OQ P n E C ⟨dst, .slice t x none (some y) none, ty, pos, aft, g⟩ (.slice (if cap = 0 then ad else ad.map (·.add 0)) hi cap) :=
  OQ.run fun a ha w _ => by
    have h1 := ha.eval hx
    have h2 := ha.eval hh
    have h3 : (underlying t).run P w = .ok (.slice e) w := run_underlying hu w
    simp [execOp, h1, h2, Instr.sliceAt, Sem.run_bind, h3, Instr.slice, Instr.sliceBounds, Instr.sliceBound, asIntOf, h, sizeOf_run hz]
end
end Sl
end Go.Proofs.Ytbihfhkbkcplmaa
