/-
  Of no statement by itself: rules for int and int64 as whole numbers below and above nought, over X's partial knowledge of frame and memory, for any program P.
  Conditions: each rule's own hypotheses.
-/
import Derived.Test.YtbihfhkbkcplmaaSlo
namespace Go.Proofs.Ytbihfhkbkcplmaa
namespace Sl
@[reducible] def I (a : Int) : Value := .int .i64 a
theorem I_cell (l : List Int) : (l.map I).all Value.oneCell' = true := by simp [Value.oneCell']
section
variable {P : Program} {n : Nat} {E : Env} {C : World → Prop} {dst : Option Tmp} {ty t t' : TypeId} {pos : String} {aft : Array Edge} {g : Option (Nat × Bool)} {x y : Operand}
theorem OQ.addI {a b : Int} (hx : ev E x = some (I a)) (hy : ev E y = some (I b)) (h0 : -9223372036854775808 ≤ a + b) (h : a + b < 9223372036854775808) : OQ P n E C ⟨dst, .binOp .add t x y t', ty, pos, aft, g⟩ (I (a + b)) :=
  OQ.bin hx hy rfl fun _ => okInt (k := .i64) (show IntKind.i64.wrap (a + b) = a + b from wrapN h0 h)
theorem OQ.mulI {a b : Int} (hx : ev E x = some (I a)) (hy : ev E y = some (I b)) (h0 : -9223372036854775808 ≤ a * b) (h : a * b < 9223372036854775808) : OQ P n E C ⟨dst, .binOp .mul t x y t', ty, pos, aft, g⟩ (I (a * b)) :=
  OQ.bin hx hy rfl fun _ => okInt (k := .i64) (show IntKind.i64.wrap (a * b) = a * b from wrapN h0 h)
theorem OQ.shrI {a m : Int} {yk : IntKind} {k : Nat} (hm : (2 : Int) ^ k = m) (hk : k ≤ 64) (hx : ev E x = some (I a)) (hy : ev E y = some (.int yk k)) : OQ P n E C ⟨dst, .binOp .shr t x y t', ty, pos, aft, g⟩ (I (a / m)) :=
  OQ.bin hx hy rfl fun w => by
    have h1 : a.fdiv (2 ^ (min k 64)) = a / m := by
      rw [Int.fdiv_eq_ediv_of_nonneg _ (by exact Int.le_of_lt (Int.pow_pos (by decide))), Nat.min_eq_left hk, hm]
    have h7 : Op.shift .shr .i64 a yk (k : Int) = (Pure.pure (.int .i64 (a.fdiv (2 ^ (min k 64)))) : Sem Value) := by
      unfold Op.shift
      rw [if_neg (by omega)]; rfl
    show Sem.run P (Op.shift .shr .i64 a yk (k : Int)) w = _
    rw [h7, h1]; rfl
theorem OQ.shlI {a m : Int} {yk : IntKind} {k : Nat} (hm : (2 : Int) ^ k = m) (hk : k ≤ 64) (hx : ev E x = some (I a)) (hy : ev E y = some (.int yk k)) (h0 : -9223372036854775808 ≤ a * m) (h : a * m < 9223372036854775808) : OQ P n E C ⟨dst, .binOp .shl t x y t', ty, pos, aft, g⟩ (I (a * m)) :=
  OQ.bin hx hy rfl fun w => by
    have h1 : IntKind.i64.wrap (a * 2 ^ (min k 64)) = a * m := by
      rw [Nat.min_eq_left hk, hm, wrapN h0 h]
    have h7 : Op.shift .shl .i64 a yk (k : Int) = (Pure.pure (.int .i64 (IntKind.i64.wrap (a * 2 ^ (min k 64)))) : Sem Value) := by
      unfold Op.shift
      rw [if_neg (by omega)]; rfl
    show Sem.run P (Op.shift .shl .i64 a yk (k : Int)) w = _
    rw [h7, h1]; rfl
theorem OQ.andI {a m r : Int} (k : Nat) (hk : k < 63) (hm : (2 : Int) ^ k - 1 = m) (hr : (2 : Int) ^ k = r) (hx : ev E x = some (I a)) (hy : ev E y = some (I m)) : OQ P n E C ⟨dst, .binOp .and t x y t', ty, pos, aft, g⟩ (I (a % r)) :=
  OQ.bin hx hy rfl fun _ => okInt (k := .i64) (show IntKind.i64.wrap ((BitVec.ofInt 64 a &&& BitVec.ofInt 64 m).toNat : Int) = a % r from by
    have p1 : 2 ^ k < 2 ^ 63 := Nat.pow_lt_pow_right (by omega) hk
    have p0 : 0 < 2 ^ k := Nat.pow_pos (by omega)
    have e0 : m = ((2 ^ k - 1 : Nat) : Int) := by
      rw [← hm, Int.natCast_sub p0]
      simp
    have e1 : BitVec.ofInt 64 m = BitVec.ofNat 64 (2 ^ k - 1) := by rw [e0]; simp only [BitVec.ofInt_natCast]
    have e2 : ((BitVec.ofInt 64 a &&& BitVec.ofNat 64 (2 ^ k - 1)).toNat : Int) = a % r := by
      rw [BitVec.toNat_and, BitVec.toNat_ofNat, Nat.mod_eq_of_lt (by omega), Nat.and_two_pow_sub_one_eq_mod, BitVec.toNat_ofInt, ← hr]
      have q : (0 : Int) ≤ a % (2 ^ 64 : Nat) := Int.emod_nonneg _ (by decide)
      rw [Int.natCast_emod, Int.toNat_of_nonneg q, Int.natCast_pow]
      exact Int.emod_emod_of_dvd a (by
        obtain ⟨j, hj⟩ : ∃ j, 64 = k + j := ⟨64 - k, by omega⟩
        rw [Int.natCast_pow, hj, Int.pow_add]
        exact Int.dvd_mul_right _ _)
    rw [e1, e2]
    have q0 : 0 ≤ a % r := Int.emod_nonneg _ (by rw [← hr]; have := Int.pow_pos (n := 2) (m := k) (by decide); omega)
    have q1 : a % r < r := Int.emod_lt_of_pos _ (by rw [← hr]; exact Int.pow_pos (by decide))
    have q2 : r = ((2 ^ k : Nat) : Int) := by rw [← hr]; simp
    exact wrapN (by omega) (by omega))
theorem OQ.convI_8 {d : TypeDesc} {a : Int} (hs : P.underlying t = some d) (hd : P.underlying t' = some (.int .u8)) (hx : ev E x = some (I a)) : OQ P n E C ⟨dst, .convert t t' x, ty, pos, aft, g⟩ (U8 (BitVec.ofInt 8 a)) :=
  OQ.conv hs hd hx (by
    have e : IntKind.u8.wrap a = ((BitVec.ofInt 8 a).toNat : Int) := by
      rw [BitVec.toNat_ofInt, Int.toNat_of_nonneg (Int.emod_nonneg _ (by decide))]
      rfl
    rw [e])
theorem OQ.conv8_N {d : TypeDesc} {a : BitVec 8} (hs : P.underlying t = some d) (hd : P.underlying t' = some (.int .i64)) (hx : ev E x = some (U8 a)) : OQ P n E C ⟨dst, .convert t t' x, ty, pos, aft, g⟩ (N a.toNat) :=
  OQ.conv hs hd hx (by rw [wrapN (by omega) (by have := a.isLt; omega)])
theorem OQ.and8 {a b : BitVec 8} (hx : ev E x = some (U8 a)) (hy : ev E y = some (U8 b)) : OQ P n E C ⟨dst, .binOp .and t x y t', ty, pos, aft, g⟩ (U8 (a &&& b)) :=
  OQ.bin hx hy rfl fun _ => okInt (k := .u8) (show IntKind.u8.wrap ((BitVec.ofInt 8 (a.toNat : Int) &&& BitVec.ofInt 8 (b.toNat : Int)).toNat : Int) = _ by rw [ofIntNat, ofIntNat, wrapb8])
theorem OQ.add8 {a b : BitVec 8} (hx : ev E x = some (U8 a)) (hy : ev E y = some (U8 b)) : OQ P n E C ⟨dst, .binOp .add t x y t', ty, pos, aft, g⟩ (U8 (a + b)) :=
  OQ.bin hx hy rfl fun _ => okInt (k := .u8) (show IntKind.u8.wrap ((a.toNat : Int) + b.toNat) = _ by rw [← Int.natCast_add, wrap8, BitVec.toNat_add])
theorem OQ.mul8 {a b : BitVec 8} (hx : ev E x = some (U8 a)) (hy : ev E y = some (U8 b)) : OQ P n E C ⟨dst, .binOp .mul t x y t', ty, pos, aft, g⟩ (U8 (a * b)) :=
  OQ.bin hx hy rfl fun _ => okInt (k := .u8) (show IntKind.u8.wrap ((a.toNat : Int) * b.toNat) = _ by rw [← Int.natCast_mul, wrap8, BitVec.toNat_mul])
theorem OQ.quo8 {a b : BitVec 8} (hx : ev E x = some (U8 a)) (hy : ev E y = some (U8 b)) (h : 0 < b.toNat) : OQ P n E C ⟨dst, .binOp .quo t x y t', ty, pos, aft, g⟩ (U8 (a / b)) :=
  OQ.bin hx hy rfl fun w => by
    have h4 : ((a.toNat : Int).tdiv b.toNat) = ((a.toNat / b.toNat : Nat) : Int) := by rw [Int.tdiv_eq_ediv_of_nonneg (by omega)]; exact_mod_cast rfl
    have h5 : ¬ (b.toNat : Int) = 0 := by omega
    have h6 : IntKind.u8.wrap ((a.toNat : Int).tdiv b.toNat) = ((a / b).toNat : Int) := by
      rw [h4, wrap8, BitVec.toNat_udiv, Nat.mod_eq_of_lt (Nat.lt_of_le_of_lt (Nat.div_le_self _ _) a.isLt)]
    have h7 : Op.intDiv .quo .u8 (a.toNat : Int) b.toNat = (Pure.pure (.int .u8 (IntKind.u8.wrap ((a.toNat : Int).tdiv b.toNat))) : Sem Value) := by simp only [Op.intDiv, if_neg h5]
    show Sem.run P (Op.intDiv .quo .u8 (a.toNat : Int) b.toNat) w = _
    rw [h7, h6]; rfl
theorem OQ.rem8 {a b : BitVec 8} (hx : ev E x = some (U8 a)) (hy : ev E y = some (U8 b)) (h : 0 < b.toNat) : OQ P n E C ⟨dst, .binOp .rem t x y t', ty, pos, aft, g⟩ (U8 (a % b)) :=
  OQ.bin hx hy rfl fun w => by
    have h4 : ((a.toNat : Int).tmod b.toNat) = ((a % b).toNat : Int) := by rw [Int.tmod_eq_emod_of_nonneg (by omega), BitVec.toNat_umod]; exact_mod_cast rfl
    have h5 : ¬ (b.toNat : Int) = 0 := by omega
    have h7 : Op.intDiv .rem .u8 (a.toNat : Int) b.toNat = (Pure.pure (.int .u8 ((a.toNat : Int).tmod b.toNat)) : Sem Value) := by simp only [Op.intDiv, if_neg h5]
    show Sem.run P (Op.intDiv .rem .u8 (a.toNat : Int) b.toNat) w = _
    rw [h7, h4]; rfl
theorem OQ.shr8 {a : BitVec 8} {yk : IntKind} {k : Nat} (hx : ev E x = some (U8 a)) (hy : ev E y = some (.int yk k)) : OQ P n E C ⟨dst, .binOp .shr t x y t', ty, pos, aft, g⟩ (U8 (a >>> k)) :=
  OQ.bin hx hy rfl fun w => by
    have h1 : (a.toNat : Int).fdiv (2 ^ (min k 8)) = ((a >>> k).toNat : Int) := by
      rw [Int.fdiv_eq_ediv_of_nonneg _ (by exact Int.le_of_lt (Int.pow_pos (by decide))), BitVec.toNat_ushiftRight, Nat.shiftRight_eq_div_pow]
      by_cases hk : k ≤ 8
      · rw [Nat.min_eq_left hk]; simp
      · rw [Nat.min_eq_right (by omega)]
        have := a.isLt
        rw [Nat.div_eq_of_lt (Nat.lt_of_lt_of_le this (Nat.pow_le_pow_right (by omega) (by omega)))]
        exact Int.ediv_eq_zero_of_lt (by omega) (by exact_mod_cast this)
    have h7 : Op.shift .shr .u8 (a.toNat : Int) yk (k : Int) = (Pure.pure (.int .u8 ((a.toNat : Int).fdiv (2 ^ (min k 8)))) : Sem Value) := by
      unfold Op.shift
      rw [if_neg (by omega)]; rfl
    show Sem.run P (Op.shift .shr .u8 (a.toNat : Int) yk (k : Int)) w = _
    rw [h7, h1]; rfl
end
end Sl
end Go.Proofs.Ytbihfhkbkcplmaa
