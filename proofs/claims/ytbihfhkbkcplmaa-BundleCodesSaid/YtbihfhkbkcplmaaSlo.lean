/-
  Of no statement by itself: more rules for bytes, and for made slices that are empty and have room.
  Conditions: each rule's own hypotheses.
-/
import Derived.Test.YtbihfhkbkcplmaaSlm
namespace Go.Proofs.Ytbihfhkbkcplmaa
namespace Sl
section
variable {P : Program} {n : Nat} {w0 : World} {S : List Nat} {ops : Array Oper} {Q : Exit → Act → World → Prop} {l : List Oper} {E : Env} {M : List Ent} {C : World → Prop}
variable {dst : Option Tmp} {d b : Nat} {t t' e ty : TypeId} {pos : String} {aft : Array Edge} {g : Option (Nat × Bool)} {v zv : Value} {x y z : Operand} {by' : Nat}
theorem OQ.or8 {a b : BitVec 8} (hx : ev E x = some (U8 a)) (hy : ev E y = some (U8 b)) : OQ P n E C ⟨dst, .binOp .or t x y t', ty, pos, aft, g⟩ (U8 (a ||| b)) :=
  OQ.bin hx hy rfl fun _ => okInt (k := .u8) (show IntKind.u8.wrap ((BitVec.ofInt 8 (a.toNat : Int) ||| BitVec.ofInt 8 (b.toNat : Int)).toNat : Int) = _ by rw [ofIntNat, ofIntNat, wrapb8])
theorem OQ.eq8 {a b : BitVec 8} (hx : ev E x = some (U8 a)) (hy : ev E y = some (U8 b)) : OQ P n E C ⟨dst, .binOp .eql t x y t', ty, pos, aft, g⟩ (.bool (decide (a = b))) := by
  have := OQ.eqi (P := P) (n := n) (C := C) (dst := dst) (ty := ty) (t := t) (t' := t') (pos := pos) (aft := aft) (g := g) hx hy
  have h : decide ((a.toNat : Int) = b.toNat) = decide (a = b) := decide_eq_decide.2 ⟨fun h => BitVec.eq_of_toNat_eq (by omega), fun h => by rw [h]⟩
  rwa [h] at this
theorem OQ.shl8 {a : BitVec 8} {yk : IntKind} {k : Nat} (hx : ev E x = some (U8 a)) (hy : ev E y = some (.int yk k)) : OQ P n E C ⟨dst, .binOp .shl t x y t', ty, pos, aft, g⟩ (U8 (a <<< k)) :=
  OQ.bin hx hy rfl fun w => by
    have h1 : IntKind.u8.wrap ((a.toNat : Int) * 2 ^ (min k 8)) = ((a <<< k).toNat : Int) := by
      rw [show ((a.toNat : Int) * 2 ^ (min k 8)) = ((a.toNat * 2 ^ (min k 8) : Nat) : Int) by simp, wrap8, BitVec.toNat_shiftLeft, Nat.shiftLeft_eq]
      by_cases hk : k ≤ 8
      · rw [Nat.min_eq_left hk]
      · rw [Nat.min_eq_right (by omega)]
        congr 1
        rw [show k = 8 + (k - 8) by omega, Nat.pow_add, Nat.mul_mod_left, Nat.mul_left_comm, Nat.mul_mod_right]
    have h7 : Op.shift .shl .u8 (a.toNat : Int) yk (k : Int) = (Pure.pure (.int .u8 (IntKind.u8.wrap ((a.toNat : Int) * 2 ^ (min k 8)))) : Sem Value) := by
      unfold Op.shift
      rw [if_neg (by omega)]; rfl
    show Sem.run P (Op.shift .shl .u8 (a.toNat : Int) yk (k : Int)) w = _
    rw [h7, h1]; rfl
/-- make([]byte, 0, c) -/
theorem JL.make0 {c : Nat} (hu : P.underlying t = some (.slice e)) (hi : EI P e (.int .u8 0) 1 1) (hx : ev E x = some (N 0)) (hy : ev E y = some (N c)) (hb : c ≤ 281474976710656) (hd : Nat.blt d n = true)
    (k : ∀ b, w0.heap.size ≤ b → JL P n w0 S ops Q l ((d, .slice (some ⟨b, 0, none⟩) 0 c) :: E) (⟨b, Own e 1 0 c [], true⟩ :: M)) : JL P n w0 S ops Q (⟨some d, .makeSlice t x y, ty, pos, aft, none⟩ :: l) E M :=
  ⟨fun a w ha hw => wpList_plain rfl fun K hK => by
    obtain ⟨i, hi1, hi2, hi3, hi4⟩ := hi.get
    have hbb : (i.bytes : Int) * (c : Int) ≤ 281474976710656 := by
      rw [hi4, ← Int.natCast_mul, Nat.one_mul]
      exact Int.ofNat_le.2 hb
    have hrun := run_make (P := P) w t e i _ hu hi1 hi2 .i64 .i64 0 c (by omega) (by omega) hbb (by omega)
    have hz : (Value.int .u8 0).cells = (List.replicate 1 (Value.int .u8 0)).toArray := rfl
    simp only [Int.toNat_natCast, hi3, Int.toNat_zero] at hrun
    rw [made_u8 _ hz (by decide)] at hrun
    have h0 : (N 0 : Value) = .int .i64 0 := rfl
    unfold Oper.wp
    simp only [execOp, ha.eval hx, ha.eval hy, Sem.run_bind, h0, hrun, Result.andThen_ok]
    exact hK _ _ ((k w.heap.size hw.chg.size).go _ _ (ha.put d _ hd) (hw.push (.cells (List.replicate (c * 1) (Value.int .u8 0)).toArray e (0, 0)) ⟨List.replicate (c * 1) (.int .u8 0), rfl, by simp, rfl, Nat.zero_le _⟩ rfl rfl rfl rfl))⟩
end
end Sl
end Go.Proofs.Ytbihfhkbkcplmaa
