/-
  Of no statement by itself: rules for words of 64 bits (or, exclusive or, shift, difference round 2^64, negation, conversion of a byte), for fields of no offset, and for a call of math/bits.Add64 (the model stands in for it), over X's partial knowledge of frame and memory, for any program P.
  Conditions: each rule's own hypotheses.
-/
import Derived.Test.YtbihfhkbkcplmaaSli
import Derived.Laws.Externs
namespace Go.Proofs.Ytbihfhkbkcplmaa
namespace Sl
section
variable {P : Program} {n : Nat} {E : Env} {C : World → Prop} {dst : Option Tmp} {ty t t' : TypeId} {pos : String} {aft : Array Edge} {g : Option (Nat × Bool)} {x y z : Operand}
theorem OQ.or64 {a b : BitVec 64} (hx : ev E x = some (U64 a)) (hy : ev E y = some (U64 b)) : OQ P n E C ⟨dst, .binOp .or t x y t', ty, pos, aft, g⟩ (U64 (a ||| b)) :=
  OQ.bin hx hy rfl fun _ => okInt (k := .u64) (show IntKind.u64.wrap ((BitVec.ofInt 64 (a.toNat : Int) ||| BitVec.ofInt 64 (b.toNat : Int)).toNat : Int) = _ by rw [ofIntNat, ofIntNat, wrapb64])
theorem OQ.xor64 {a b : BitVec 64} (hx : ev E x = some (U64 a)) (hy : ev E y = some (U64 b)) : OQ P n E C ⟨dst, .binOp .xor t x y t', ty, pos, aft, g⟩ (U64 (a ^^^ b)) :=
  OQ.bin hx hy rfl fun _ => okInt (k := .u64) (show IntKind.u64.wrap ((BitVec.ofInt 64 (a.toNat : Int) ^^^ BitVec.ofInt 64 (b.toNat : Int)).toNat : Int) = _ by rw [ofIntNat, ofIntNat, wrapb64])
theorem wrap64I (i : Int) : IntKind.u64.wrap i = i % 18446744073709551616 := by simp [IntKind.wrap, IntKind.bits, IntKind.signed]
theorem OQ.sub64w {a b : BitVec 64} (hx : ev E x = some (U64 a)) (hy : ev E y = some (U64 b)) : OQ P n E C ⟨dst, .binOp .sub t x y t', ty, pos, aft, g⟩ (U64 (a - b)) :=
  OQ.bin hx hy rfl fun _ => okInt (k := .u64) (show IntKind.u64.wrap ((a.toNat : Int) - b.toNat) = ((a - b).toNat : Int) by
    rw [BitVec.toNat_sub, wrap64I]
    have := a.isLt
    have := b.isLt
    omega)
theorem OQ.neg64 {a : BitVec 64} (hx : ev E x = some (U64 a)) : OQ P n E C ⟨dst, .unOp .neg t x, ty, pos, aft, g⟩ (U64 (-a)) :=
  OQ.run fun c ha w _ => by
    have h1 := ha.eval hx
    have h3 : IntKind.u64.wrap ((0 : Int) - (a.toNat : Int)) = ((-a).toNat : Int) := by
      rw [BitVec.toNat_neg, wrap64I]
      have := a.isLt
      omega
    simp only [execOp, h1]
    exact congrArg (fun z : Int => (Result.ok (Next.value (Value.int .u64 z)) w : Result Next)) h3
theorem OQ.shl64 {a : BitVec 64} {yk : IntKind} {k : Nat} (hx : ev E x = some (U64 a)) (hy : ev E y = some (.int yk k)) : OQ P n E C ⟨dst, .binOp .shl t x y t', ty, pos, aft, g⟩ (U64 (a <<< k)) :=
  OQ.bin hx hy rfl fun w => by
    have h1 : IntKind.u64.wrap ((a.toNat : Int) * 2 ^ (min k 64)) = ((a <<< k).toNat : Int) := by
      rw [show ((a.toNat : Int) * 2 ^ (min k 64)) = ((a.toNat * 2 ^ (min k 64) : Nat) : Int) by simp, wrap64, BitVec.toNat_shiftLeft, Nat.shiftLeft_eq]
      by_cases hk : k ≤ 64
      · rw [Nat.min_eq_left hk]
      · rw [Nat.min_eq_right (by omega)]
        congr 1
        rw [show k = 64 + (k - 64) by omega, Nat.pow_add, Nat.mul_mod_left, Nat.mul_left_comm, Nat.mul_mod_right]
    have h7 : Op.shift .shl .u64 (a.toNat : Int) yk (k : Int) = (Pure.pure (.int .u64 (IntKind.u64.wrap ((a.toNat : Int) * 2 ^ (min k 64)))) : Sem Value) := by
      unfold Op.shift
      rw [if_neg (by omega)]; rfl
    show Sem.run P (Op.shift .shl .u64 (a.toNat : Int) yk (k : Int)) w = _
    rw [h7, h1]; rfl
theorem OQ.conv8_64 {d : TypeDesc} {a : BitVec 8} (hs : P.underlying t = some d) (hd : P.underlying t' = some (.int .u64)) (hx : ev E x = some (U8 a)) : OQ P n E C ⟨dst, .convert t t' x, ty, pos, aft, g⟩ (U64 (a.setWidth 64)) :=
  OQ.conv hs hd hx (by rw [wrap64]; simp [U64])
theorem OQ.fldx {s f o : Nat} {fs : Array Field} {fd : Field} {b j sz : Nat} (hu : P.underlying s = some (.struct fs)) (hf : fs[f]? = some fd) (hz : szT P fd.type = some sz) (h0 : sz ≠ 0) (hx : ev E x = some (.pointer (some ⟨b, j, none⟩))) (ho : j + fd.offset = o) :
    OQ P n E C ⟨dst, .fieldAddr s x f, ty, pos, aft, g⟩ (.pointer (some ⟨b, o, none⟩)) := ho ▸ OQ.fld hu hf hz h0 hx
/-- a call of math/bits.Add64 -/
structure IsAdd (P : Program) (f : FuncId) : Prop where
  go : ∃ fn, P.funcs[f]? = some fn ∧ (fn.name == "runtime.NumGoroutine") = false ∧ fn.body.isNone = true ∧ Extern.findNext fn = none ∧ Extern.find fn = some add64Entry
theorem OQ.add64c {f : FuncId} {ats : Array TypeId} {a b c s o : BitVec 64} (hf : IsAdd P f) (hx : ev E x = some (U64 a)) (hy : ev E y = some (U64 b)) (hz : ev E z = some (U64 c)) (hc : c.toNat ≤ 1)
    (hs : s.toNat = (a.toNat + b.toNat + c.toNat) % 18446744073709551616) (ho : o.toNat = (a.toNat + b.toNat + c.toNat) / 18446744073709551616) :
    OQ P n E C ⟨dst, .call ⟨.value (.func f), #[x, y, z], ats⟩, ty, pos, aft, g⟩ (.tuple #[U64 s, U64 o]) := by
  refine ⟨fun ac hk w hw => ?_⟩
  obtain ⟨fn, h1, h2, h3, h4, h5⟩ := hf.go
  have r := run_callFunc_extern h1 h2 h3 h4 h5 #[U64 a, U64 b, U64 c] w
  rw [run_add64 (P := P) (a.toNat : Int) (b.toNat : Int) (c.toNat : Int) (by omega) (by omega) (by omega) (by omega) w] at r
  have e1 : ((a.toNat : Int) + b.toNat + c.toNat) % 18446744073709551616 = (s.toNat : Int) := by omega
  have e2 : ((a.toNat : Int) + b.toNat + c.toNat) / 18446744073709551616 = (o.toNat : Int) := by omega
  rw [e1, e2] at r
  unfold Oper.quietAt
  have r' : (execOp ac.eval ⟨dst, .call ⟨.value (.func f), #[x, y, z], ats⟩, ty, pos, aft, g⟩).run P w = .ok (.value (.tuple #[U64 s, U64 o])) w := by
    simp only [Result.andThen] at r
    have k1 := hk.eval hx
    have k2 := hk.eval hy
    have k3 := hk.eval hz
    rw [← r]
    simp [execOp, resolve, Sem.run_bind, Act.eval, Deferred.ofValue, invoke, k1, k2, k3]
    simp [Act.eval] at k1 k2 k3
    simp [k1, k2, k3]
  rw [r']
  exact ⟨rfl, rfl⟩
end
end Sl
end Go.Proofs.Ytbihfhkbkcplmaa
