/-
  Of no statement by itself: rules for single operations on numbers (words of 8, 32 and 64 bits as bit vectors, int as a natural number), addresses and slices, over X's partial knowledge of frame and memory, for any program P.
  Conditions: each rule's own hypotheses.
-/
import Derived.Test.YtbihfhkbkcplmaaSlc
namespace Go.Proofs.Ytbihfhkbkcplmaa
namespace Sl

@[reducible] def N (a : Nat) : Value := .int .i64 a
@[reducible] def U8 (a : BitVec 8) : Value := .int .u8 a.toNat
@[reducible] def U32 (a : BitVec 32) : Value := .int .u32 a.toNat
@[reducible] def U64 (a : BitVec 64) : Value := .int .u64 a.toNat

section
variable {P : Program} {n : Nat} {E : Env} {C : World → Prop} {dst : Option Tmp} {ty t t' : TypeId} {pos : String} {aft : Array Edge} {g : Option (Nat × Bool)} {x y : Operand} {u v r : Value} {o : BinOp}

def notEq : BinOp → Bool
  | .eql | .neq => false
  | _ => true
theorem OQ.bin (hx : ev E x = some u) (hy : ev E y = some v) (ho : notEq o = true) (h : ∀ w, (binOp o t u v).run P w = .ok r w) : OQ P n E C ⟨dst, .binOp o t x y t', ty, pos, aft, g⟩ r :=
  OQ.run fun a ha w _ => by
    have h1 := ha.eval hx
    have h2 := ha.eval hy
    have hg : ∀ w, (eqGuard o t x y u v).run P w = .ok () w := fun w => by
      cases o <;> first | rfl | cases ho
    simp [execOp, h1, h2, Sem.run_bind, hg, h w]
/-- equality of two numbers of one kind -/
theorem OQ.eqi {k : IntKind} {a b : Int} (hx : ev E x = some (.int k a)) (hy : ev E y = some (.int k b)) : OQ P n E C ⟨dst, .binOp .eql t x y t', ty, pos, aft, g⟩ (.bool (decide (a = b))) :=
  OQ.run fun c ha w _ => by
    have h1 := ha.eval hx
    have h2 := ha.eval hy
    simp [execOp, h1, h2, eqGuard, binOp, Op.intCmp]
    rfl
theorem OQ.nei {k : IntKind} {a b : Int} (hx : ev E x = some (.int k a)) (hy : ev E y = some (.int k b)) : OQ P n E C ⟨dst, .binOp .neq t x y t', ty, pos, aft, g⟩ (.bool (!decide (a = b))) :=
  OQ.run fun c ha w _ => by
    have h1 := ha.eval hx
    have h2 := ha.eval hy
    simp [execOp, h1, h2, eqGuard, binOp, Op.intCmp]
    rfl

/-! #### int as a natural number -/
theorem okInt {w : World} {k : IntKind} {i j : Int} (e : i = j) : (Result.ok (Value.int k i) w : Result Value) = .ok (.int k j) w := by rw [e]
theorem okBool {w : World} {i j : Bool} (e : i = j) : (Result.ok (Value.bool i) w : Result Value) = .ok (.bool j) w := by rw [e]
theorem wrapN {a : Int} (h0 : -9223372036854775808 ≤ a) (h : a < 9223372036854775808) : IntKind.i64.wrap a = a := by
  simp [IntKind.wrap, IntKind.bits, IntKind.signed]; omega
theorem OQ.addN {a b : Nat} (hx : ev E x = some (N a)) (hy : ev E y = some (N b)) (h : a + b < 9223372036854775808) : OQ P n E C ⟨dst, .binOp .add t x y t', ty, pos, aft, g⟩ (N (a + b)) :=
  OQ.bin hx hy rfl fun _ => okInt (k := .i64) (show IntKind.i64.wrap ((a : Int) + b) = ((a + b : Nat) : Int) from (wrapN (by omega) (by omega)).trans (by simp))
theorem OQ.subN {a b : Nat} (hx : ev E x = some (N a)) (hy : ev E y = some (N b)) (h : b ≤ a) (h2 : a < 9223372036854775808) : OQ P n E C ⟨dst, .binOp .sub t x y t', ty, pos, aft, g⟩ (N (a - b)) :=
  OQ.bin hx hy rfl fun _ => okInt (k := .i64) (show IntKind.i64.wrap ((a : Int) - b) = ((a - b : Nat) : Int) from (wrapN (by omega) (by omega)).trans (by omega))
theorem OQ.mulN {a b : Nat} (hx : ev E x = some (N a)) (hy : ev E y = some (N b)) (h : a * b < 9223372036854775808) : OQ P n E C ⟨dst, .binOp .mul t x y t', ty, pos, aft, g⟩ (N (a * b)) :=
  OQ.bin hx hy rfl fun _ => okInt (k := .i64) (show IntKind.i64.wrap ((a : Int) * b) = ((a * b : Nat) : Int) from by
    rw [← Int.natCast_mul]
    generalize a * b = c at h
    exact wrapN (by omega) (by omega))
theorem OQ.quoN {a b : Nat} (hx : ev E x = some (N a)) (hy : ev E y = some (N b)) (h : 0 < b) (h2 : a < 9223372036854775808) : OQ P n E C ⟨dst, .binOp .quo t x y t', ty, pos, aft, g⟩ (N (a / b)) :=
  OQ.bin hx hy rfl fun w => by
    have h3 : a / b ≤ a := Nat.div_le_self _ _
    have h4 : ((a : Int).tdiv b) = ((a / b : Nat) : Int) := by rw [Int.tdiv_eq_ediv_of_nonneg (by omega)]; exact_mod_cast rfl
    have h5 : ¬ (b : Int) = 0 := by omega
    have h6 : IntKind.i64.wrap ((a : Int).tdiv b) = ((a / b : Nat) : Int) := by rw [h4]; generalize a / b = c at h3; exact wrapN (by omega) (by omega)
    have h7 : Op.intDiv .quo .i64 (a : Int) b = (Pure.pure (.int .i64 (IntKind.i64.wrap ((a : Int).tdiv b))) : Sem Value) := by simp only [Op.intDiv, if_neg h5]
    show Sem.run P (Op.intDiv .quo .i64 (a : Int) b) w = _
    rw [h7, h6]; rfl
theorem OQ.remN {a b : Nat} (hx : ev E x = some (N a)) (hy : ev E y = some (N b)) (h : 0 < b) : OQ P n E C ⟨dst, .binOp .rem t x y t', ty, pos, aft, g⟩ (N (a % b)) :=
  OQ.bin hx hy rfl fun w => by
    have h4 : ((a : Int).tmod b) = ((a % b : Nat) : Int) := by rw [Int.tmod_eq_emod_of_nonneg (by omega)]; exact_mod_cast rfl
    have h5 : ¬ (b : Int) = 0 := by omega
    have h7 : Op.intDiv .rem .i64 (a : Int) b = (Pure.pure (.int .i64 ((a : Int).tmod b)) : Sem Value) := by simp only [Op.intDiv, if_neg h5]
    show Sem.run P (Op.intDiv .rem .i64 (a : Int) b) w = _
    rw [h7, h4]; rfl
theorem OQ.lssN {a b : Nat} (hx : ev E x = some (N a)) (hy : ev E y = some (N b)) : OQ P n E C ⟨dst, .binOp .lss t x y t', ty, pos, aft, g⟩ (.bool (decide (a < b))) :=
  OQ.bin hx hy rfl fun _ => okBool (decide_eq_decide.2 Int.ofNat_lt)
theorem OQ.leqN {a b : Nat} (hx : ev E x = some (N a)) (hy : ev E y = some (N b)) : OQ P n E C ⟨dst, .binOp .leq t x y t', ty, pos, aft, g⟩ (.bool (decide (a ≤ b))) :=
  OQ.bin hx hy rfl fun _ => okBool (decide_eq_decide.2 Int.ofNat_le)
theorem OQ.gtrN {a b : Nat} (hx : ev E x = some (N a)) (hy : ev E y = some (N b)) : OQ P n E C ⟨dst, .binOp .gtr t x y t', ty, pos, aft, g⟩ (.bool (decide (b < a))) :=
  OQ.bin hx hy rfl fun _ => okBool (decide_eq_decide.2 Int.ofNat_lt)
theorem OQ.geqN {a b : Nat} (hx : ev E x = some (N a)) (hy : ev E y = some (N b)) : OQ P n E C ⟨dst, .binOp .geq t x y t', ty, pos, aft, g⟩ (.bool (decide (b ≤ a))) :=
  OQ.bin hx hy rfl fun _ => okBool (decide_eq_decide.2 Int.ofNat_le)
theorem OQ.eqN {a b : Nat} (hx : ev E x = some (N a)) (hy : ev E y = some (N b)) : OQ P n E C ⟨dst, .binOp .eql t x y t', ty, pos, aft, g⟩ (.bool (decide (a = b))) :=
  (decide_eq_decide.2 Int.ofNat_inj : decide ((a : Int) = b) = decide (a = b)) ▸ OQ.eqi hx hy
theorem OQ.neN {a b : Nat} (hx : ev E x = some (N a)) (hy : ev E y = some (N b)) : OQ P n E C ⟨dst, .binOp .neq t x y t', ty, pos, aft, g⟩ (.bool (!decide (a = b))) :=
  (decide_eq_decide.2 Int.ofNat_inj : decide ((a : Int) = b) = decide (a = b)) ▸ OQ.nei hx hy

/-! #### words -/
theorem ofIntNat {k : Nat} (a : BitVec k) : BitVec.ofInt k (a.toNat : Int) = a := by simp
theorem wrap32 (a : Nat) : IntKind.u32.wrap (a : Int) = ((a % 2 ^ 32 : Nat) : Int) := by simp [IntKind.wrap, IntKind.bits, IntKind.signed]
theorem wrap8 (a : Nat) : IntKind.u8.wrap (a : Int) = ((a % 2 ^ 8 : Nat) : Int) := by simp [IntKind.wrap, IntKind.bits, IntKind.signed]
theorem wrap64 (a : Nat) : IntKind.u64.wrap (a : Int) = ((a % 2 ^ 64 : Nat) : Int) := by simp [IntKind.wrap, IntKind.bits, IntKind.signed]
theorem wrapb32 (a : BitVec 32) : IntKind.u32.wrap (a.toNat : Int) = a.toNat := by rw [wrap32, Nat.mod_eq_of_lt a.isLt]
theorem wrapb8 (a : BitVec 8) : IntKind.u8.wrap (a.toNat : Int) = a.toNat := by rw [wrap8, Nat.mod_eq_of_lt a.isLt]
theorem wrapb64 (a : BitVec 64) : IntKind.u64.wrap (a.toNat : Int) = a.toNat := by rw [wrap64, Nat.mod_eq_of_lt a.isLt]

theorem OQ.add32 {a b : BitVec 32} (hx : ev E x = some (U32 a)) (hy : ev E y = some (U32 b)) : OQ P n E C ⟨dst, .binOp .add t x y t', ty, pos, aft, g⟩ (U32 (a + b)) :=
  OQ.bin hx hy rfl fun _ => okInt (k := .u32) (show IntKind.u32.wrap ((a.toNat : Int) + b.toNat) = ((a + b).toNat : Int) by rw [BitVec.toNat_add, ← wrap32]; simp)
theorem OQ.mul32 {a b : BitVec 32} (hx : ev E x = some (U32 a)) (hy : ev E y = some (U32 b)) : OQ P n E C ⟨dst, .binOp .mul t x y t', ty, pos, aft, g⟩ (U32 (a * b)) :=
  OQ.bin hx hy rfl fun _ => okInt (k := .u32) (show IntKind.u32.wrap ((a.toNat : Int) * b.toNat) = ((a * b).toNat : Int) by rw [BitVec.toNat_mul, ← wrap32]; simp)
theorem OQ.add64 {a b : BitVec 64} (hx : ev E x = some (U64 a)) (hy : ev E y = some (U64 b)) : OQ P n E C ⟨dst, .binOp .add t x y t', ty, pos, aft, g⟩ (U64 (a + b)) :=
  OQ.bin hx hy rfl fun _ => okInt (k := .u64) (show IntKind.u64.wrap ((a.toNat : Int) + b.toNat) = ((a + b).toNat : Int) by rw [BitVec.toNat_add, ← wrap64]; simp)
theorem OQ.mul64 {a b : BitVec 64} (hx : ev E x = some (U64 a)) (hy : ev E y = some (U64 b)) : OQ P n E C ⟨dst, .binOp .mul t x y t', ty, pos, aft, g⟩ (U64 (a * b)) :=
  OQ.bin hx hy rfl fun _ => okInt (k := .u64) (show IntKind.u64.wrap ((a.toNat : Int) * b.toNat) = ((a * b).toNat : Int) by rw [BitVec.toNat_mul, ← wrap64]; simp)
theorem OQ.rem64 {a b : BitVec 64} (hx : ev E x = some (U64 a)) (hy : ev E y = some (U64 b)) (hb : b.toNat ≠ 0) : OQ P n E C ⟨dst, .binOp .rem t x y t', ty, pos, aft, g⟩ (U64 (a % b)) :=
  OQ.bin hx hy rfl fun w => by
    have h4 : ((a.toNat : Int).tmod b.toNat) = (((a % b).toNat : Nat) : Int) := by rw [Int.tmod_eq_emod_of_nonneg (by omega), BitVec.toNat_umod]; exact_mod_cast rfl
    have h5 : ¬ ((b.toNat : Int) = 0) := by omega
    have h7 : Op.intDiv .rem .u64 (a.toNat : Int) b.toNat = (Pure.pure (.int .u64 ((a.toNat : Int).tmod b.toNat)) : Sem Value) := by simp only [Op.intDiv, if_neg h5]
    show Sem.run P (Op.intDiv .rem .u64 (a.toNat : Int) b.toNat) w = _
    rw [h7, h4]; rfl
theorem OQ.and32 {a b : BitVec 32} (hx : ev E x = some (U32 a)) (hy : ev E y = some (U32 b)) : OQ P n E C ⟨dst, .binOp .and t x y t', ty, pos, aft, g⟩ (U32 (a &&& b)) :=
  OQ.bin hx hy rfl fun _ => okInt (k := .u32) (show IntKind.u32.wrap ((BitVec.ofInt 32 (a.toNat : Int) &&& BitVec.ofInt 32 (b.toNat : Int)).toNat : Int) = _ by rw [ofIntNat, ofIntNat, wrapb32])
theorem OQ.or32 {a b : BitVec 32} (hx : ev E x = some (U32 a)) (hy : ev E y = some (U32 b)) : OQ P n E C ⟨dst, .binOp .or t x y t', ty, pos, aft, g⟩ (U32 (a ||| b)) :=
  OQ.bin hx hy rfl fun _ => okInt (k := .u32) (show IntKind.u32.wrap ((BitVec.ofInt 32 (a.toNat : Int) ||| BitVec.ofInt 32 (b.toNat : Int)).toNat : Int) = _ by rw [ofIntNat, ofIntNat, wrapb32])
theorem OQ.xor32 {a b : BitVec 32} (hx : ev E x = some (U32 a)) (hy : ev E y = some (U32 b)) : OQ P n E C ⟨dst, .binOp .xor t x y t', ty, pos, aft, g⟩ (U32 (a ^^^ b)) :=
  OQ.bin hx hy rfl fun _ => okInt (k := .u32) (show IntKind.u32.wrap ((BitVec.ofInt 32 (a.toNat : Int) ^^^ BitVec.ofInt 32 (b.toNat : Int)).toNat : Int) = _ by rw [ofIntNat, ofIntNat, wrapb32])
theorem OQ.xor8 {a b : BitVec 8} (hx : ev E x = some (U8 a)) (hy : ev E y = some (U8 b)) : OQ P n E C ⟨dst, .binOp .xor t x y t', ty, pos, aft, g⟩ (U8 (a ^^^ b)) :=
  OQ.bin hx hy rfl fun _ => okInt (k := .u8) (show IntKind.u8.wrap ((BitVec.ofInt 8 (a.toNat : Int) ^^^ BitVec.ofInt 8 (b.toNat : Int)).toNat : Int) = _ by rw [ofIntNat, ofIntNat, wrapb8])
theorem OQ.and64 {a b : BitVec 64} (hx : ev E x = some (U64 a)) (hy : ev E y = some (U64 b)) : OQ P n E C ⟨dst, .binOp .and t x y t', ty, pos, aft, g⟩ (U64 (a &&& b)) :=
  OQ.bin hx hy rfl fun _ => okInt (k := .u64) (show IntKind.u64.wrap ((BitVec.ofInt 64 (a.toNat : Int) &&& BitVec.ofInt 64 (b.toNat : Int)).toNat : Int) = _ by rw [ofIntNat, ofIntNat, wrapb64])
theorem OQ.not32 {a : BitVec 32} (hx : ev E x = some (U32 a)) : OQ P n E C ⟨dst, .unOp .xor t x, ty, pos, aft, g⟩ (U32 (~~~ a)) :=
  OQ.run fun c ha w _ => by
    have h1 := ha.eval hx
    have h2 : BitVec.ofInt 32 IntKind.u32.max ^^^ BitVec.ofInt 32 (a.toNat : Int) = ~~~ a := by
      rw [ofIntNat, show BitVec.ofInt 32 IntKind.u32.max = BitVec.allOnes 32 from rfl, BitVec.allOnes_xor]
    have h3 : IntKind.u32.wrap ((BitVec.ofInt 32 IntKind.u32.max ^^^ BitVec.ofInt 32 (a.toNat : Int)).toNat : Int) = ((~~~ a).toNat : Int) := by rw [h2, wrapb32]
    simp only [execOp, h1]
    exact congrArg (fun z : Int => (Result.ok (Next.value (Value.int .u32 z)) w : Result Next)) h3
theorem OQ.shl32 {a : BitVec 32} {yk : IntKind} {k : Nat} (hx : ev E x = some (U32 a)) (hy : ev E y = some (.int yk k)) : OQ P n E C ⟨dst, .binOp .shl t x y t', ty, pos, aft, g⟩ (U32 (a <<< k)) :=
  OQ.bin hx hy rfl fun w => by
    have h1 : IntKind.u32.wrap ((a.toNat : Int) * 2 ^ (min k 32)) = ((a <<< k).toNat : Int) := by
      rw [show ((a.toNat : Int) * 2 ^ (min k 32)) = ((a.toNat * 2 ^ (min k 32) : Nat) : Int) by simp, wrap32, BitVec.toNat_shiftLeft, Nat.shiftLeft_eq]
      by_cases hk : k ≤ 32
      · rw [Nat.min_eq_left hk]
      · rw [Nat.min_eq_right (by omega)]
        congr 1
        rw [show k = 32 + (k - 32) by omega, Nat.pow_add, Nat.mul_mod_left, Nat.mul_left_comm, Nat.mul_mod_right]
    have h7 : Op.shift .shl .u32 (a.toNat : Int) yk (k : Int) = (Pure.pure (.int .u32 (IntKind.u32.wrap ((a.toNat : Int) * 2 ^ (min k 32)))) : Sem Value) := by
      unfold Op.shift
      rw [if_neg (by omega)]; rfl
    show Sem.run P (Op.shift .shl .u32 (a.toNat : Int) yk (k : Int)) w = _
    rw [h7, h1]; rfl
theorem OQ.shr32 {a : BitVec 32} {yk : IntKind} {k : Nat} (hx : ev E x = some (U32 a)) (hy : ev E y = some (.int yk k)) : OQ P n E C ⟨dst, .binOp .shr t x y t', ty, pos, aft, g⟩ (U32 (a >>> k)) :=
  OQ.bin hx hy rfl fun w => by
    have h1 : (a.toNat : Int).fdiv (2 ^ (min k 32)) = ((a >>> k).toNat : Int) := by
      rw [Int.fdiv_eq_ediv_of_nonneg _ (by exact Int.le_of_lt (Int.pow_pos (by decide))), BitVec.toNat_ushiftRight, Nat.shiftRight_eq_div_pow]
      by_cases hk : k ≤ 32
      · rw [Nat.min_eq_left hk]; simp
      · rw [Nat.min_eq_right (by omega)]
        have := a.isLt
        rw [Nat.div_eq_of_lt (Nat.lt_of_lt_of_le this (Nat.pow_le_pow_right (by omega) (by omega)))]
        exact Int.ediv_eq_zero_of_lt (by omega) (by exact_mod_cast this)
    have h7 : Op.shift .shr .u32 (a.toNat : Int) yk (k : Int) = (Pure.pure (.int .u32 ((a.toNat : Int).fdiv (2 ^ (min k 32)))) : Sem Value) := by
      unfold Op.shift
      rw [if_neg (by omega)]; rfl
    show Sem.run P (Op.shift .shr .u32 (a.toNat : Int) yk (k : Int)) w = _
    rw [h7, h1]; rfl
theorem OQ.shr64 {a : BitVec 64} {yk : IntKind} {k : Nat} (hx : ev E x = some (U64 a)) (hy : ev E y = some (.int yk k)) : OQ P n E C ⟨dst, .binOp .shr t x y t', ty, pos, aft, g⟩ (U64 (a >>> k)) :=
  OQ.bin hx hy rfl fun w => by
    have h1 : (a.toNat : Int).fdiv (2 ^ (min k 64)) = ((a >>> k).toNat : Int) := by
      rw [Int.fdiv_eq_ediv_of_nonneg _ (by exact Int.le_of_lt (Int.pow_pos (by decide))), BitVec.toNat_ushiftRight, Nat.shiftRight_eq_div_pow]
      by_cases hk : k ≤ 64
      · rw [Nat.min_eq_left hk]; simp
      · rw [Nat.min_eq_right (by omega)]
        have := a.isLt
        rw [Nat.div_eq_of_lt (Nat.lt_of_lt_of_le this (Nat.pow_le_pow_right (by omega) (by omega)))]
        exact Int.ediv_eq_zero_of_lt (by omega) (by exact_mod_cast this)
    have h7 : Op.shift .shr .u64 (a.toNat : Int) yk (k : Int) = (Pure.pure (.int .u64 ((a.toNat : Int).fdiv (2 ^ (min k 64)))) : Sem Value) := by
      unfold Op.shift
      rw [if_neg (by omega)]; rfl
    show Sem.run P (Op.shift .shr .u64 (a.toNat : Int) yk (k : Int)) w = _
    rw [h7, h1]; rfl
end
end Sl
end Go.Proofs.Ytbihfhkbkcplmaa
