/-
  Of no statement by itself: floats of 64 bits that hold small whole numbers, and complex numbers of two of these; for any program P.
  Conditions: each rule's own hypotheses.
-/
import Derived.Test.YtnopllkpfdgkkaaSlp
import Derived.Laws.ComplexArith
namespace Go.Proofs.Ytnopllkpfdgkkaa
namespace Sl
section
open Ieee
theorem sh_mul (n k : Nat) : n <<< k = n * 2 ^ k := Nat.shiftLeft_eq n k
theorem pow_ne {n : Nat} (h : n ≠ 0) (k : Nat) : n * 2 ^ k ≠ 0 := Nat.mul_ne_zero h (Nat.pos_iff_ne_zero.1 (Nat.two_pow_pos k))
theorem log_mul {n : Nat} (h : n ≠ 0) (k : Nat) : (n * 2 ^ k).log2 = n.log2 + k := by
  have hp : n * 2 ^ k ≠ 0 := Nat.mul_ne_zero h (Nat.pos_iff_ne_zero.1 (Nat.two_pow_pos k))
  have h1 := (Nat.log2_eq_iff h).1 rfl
  rw [Nat.log2_eq_iff hp, Nat.pow_add, show n.log2 + k + 1 = (n.log2 + 1) + k by omega, Nat.pow_add]
  exact ⟨Nat.mul_le_mul_right _ h1.1, Nat.mul_lt_mul_of_pos_right h1.2 (Nat.two_pow_pos k)⟩
theorem cut_exact (way : Toward) (n d : Nat) (hn : n ≠ 0) : way.cut false (n * 2 ^ d) d = n := by
  unfold Toward.cut
  have hm : min d ((n * 2 ^ d).log2 + 2) = d := by rw [log_mul hn]; omega
  have hp := Nat.two_pow_pos d
  simp only [hm, sh_mul, Nat.one_mul, Nat.mul_div_cancel _ hp, Nat.mul_mod_left]
  cases way <;> simp <;> omega
theorem cut_zero (way : Toward) (n : Nat) (hn : n ≠ 0) : way.cut false n 0 = n := by
  have := cut_exact way n 0 hn
  simpa using this
/-- the rung of a whole number -/
def rung (n : Nat) : Nat := (1022 + n.log2) * 2 ^ 52 + n * 2 ^ (52 - n.log2)
theorem log_le {n : Nat} (h0 : n ≠ 0) (h : n < 2 ^ 53) : n.log2 ≤ 52 := by
  have := (Nat.log2_lt h0).2 h
  omega
theorem mant {n : Nat} (h0 : n ≠ 0) (h : n < 2 ^ 53) : 2 ^ 52 ≤ n * 2 ^ (52 - n.log2) ∧ n * 2 ^ (52 - n.log2) < 2 ^ 53 := by
  have hl := log_le h0 h
  have h1 := (Nat.log2_eq_iff h0).1 rfl
  have hp := Nat.two_pow_pos (52 - n.log2)
  have e1 : 2 ^ 52 = 2 ^ n.log2 * 2 ^ (52 - n.log2) := by rw [← Nat.pow_add]; congr 1; omega
  have e2 : 2 ^ 53 = 2 ^ (n.log2 + 1) * 2 ^ (52 - n.log2) := by rw [← Nat.pow_add]; congr 1; omega
  rw [e1, e2]
  exact ⟨Nat.mul_le_mul_right _ h1.1, Nat.mul_lt_mul_of_pos_right h1.2 hp⟩
theorem near {n : Nat} (h0 : n ≠ 0) (h : n < 2 ^ 53) (k : Nat) : double.nearest false (n * 2 ^ k) (-(k : Int)) = rung n := by
  have hl := log_le h0 h
  have hm := mant h0 h
  have hp : n * 2 ^ k ≠ 0 := Nat.mul_ne_zero h0 (Nat.pos_iff_ne_zero.1 (Nat.two_pow_pos k))
  unfold Format.nearest
  rw [if_neg hp, log_mul h0]
  have e1 : (double.fractionBits : Int) = 52 := rfl
  have e2 : double.leastPlace = -1074 := by decide
  have e3 : max (-(k : Int) + ((n.log2 + k : Nat) : Int) - double.fractionBits) double.leastPlace = (n.log2 : Int) - 52 := by rw [e1, e2]; omega
  have e4 : double.binade = 2 ^ 52 := rfl
  have e5 : double.infRung = 2047 * 2 ^ 52 := by decide
  simp only [e3]
  have hk : Toward.even.cut false ((n * 2 ^ k) <<< (-(k : Int) - ((n.log2 : Int) - 52)).toNat) (((n.log2 : Int) - 52) - -(k : Int)).toNat = n * 2 ^ (52 - n.log2) := by
    by_cases hc : k + n.log2 ≤ 52
    · have a1 : (-(k : Int) - ((n.log2 : Int) - 52)).toNat = 52 - n.log2 - k := by omega
      have a2 : (((n.log2 : Int) - 52) - -(k : Int)).toNat = 0 := by omega
      rw [a1, a2, sh_mul, Nat.mul_assoc, ← Nat.pow_add, show k + (52 - n.log2 - k) = 52 - n.log2 by omega]
      exact cut_zero _ _ (by omega)
    · have a1 : (-(k : Int) - ((n.log2 : Int) - 52)).toNat = 0 := by omega
      have a2 : (((n.log2 : Int) - 52) - -(k : Int)).toNat = n.log2 + k - 52 := by omega
      rw [a1, a2, Nat.shiftLeft_zero]
      have e : n * 2 ^ k = n * 2 ^ (52 - n.log2) * 2 ^ (n.log2 + k - 52) := by rw [Nat.mul_assoc, ← Nat.pow_add]; congr 2; omega
      rw [e]
      exact cut_exact _ _ _ (by omega)
  rw [hk, e2, e4, e5]
  have a3 : ((n.log2 : Int) - 52 - -1074).toNat = 1022 + n.log2 := by omega
  rw [a3]
  unfold Format.word rung
  generalize n * 2 ^ (52 - n.log2) = m at hm ⊢
  generalize n.log2 = L at hl ⊢
  rw [if_neg (by decide)]
  exact Nat.min_eq_left (by omega)
theorem read_rung {n : Nat} (h0 : n ≠ 0) (h : n < 2 ^ 53) : double.read (rung n) = .number false (n * 2 ^ (52 - n.log2)) ((n.log2 : Int) - 52) := by
  have hl := log_le h0 h
  have hm := mant h0 h
  unfold rung
  generalize n * 2 ^ (52 - n.log2) = m at hm ⊢
  generalize n.log2 = L at hl ⊢
  unfold Format.read
  have e2 : double.leastPlace = -1074 := by decide
  have e4 : double.binade = 2 ^ 52 := rfl
  have e5 : double.infRung = 2047 * 2 ^ 52 := by decide
  have e6 : double.signWeight = 2 ^ 63 := by decide
  simp only [e2, e4, e5, e6]
  have hw : (1022 + L) * 2 ^ 52 + m < 2 ^ 63 := by omega
  rw [Nat.mod_eq_of_lt hw, Nat.div_eq_of_lt hw, if_neg (by omega), if_pos (by omega)]
  have q1 : ((1022 + L) * 2 ^ 52 + m) / 2 ^ 52 = 1023 + L := by omega
  have q2 : ((1022 + L) * 2 ^ 52 + m) % 2 ^ 52 = m - 2 ^ 52 := by omega
  have r1 : 2 ^ 52 + (m - 2 ^ 52) = m := by omega
  have r2 : (-1074 : Int) + ((1023 + L - 1 : Nat) : Int) = (L : Int) - 52 := by omega
  rw [q1, q2, r1, r2]
  rfl
/-- the bits of a float that holds a whole number -/
def fbit (n : Nat) : Nat := floatOfInt .f64 n
theorem fbit_rung {n : Nat} (h0 : n ≠ 0) (h : n < 2 ^ 53) : fbit n = rung n := by
  have := near h0 h 0
  rw [Nat.pow_zero, Nat.mul_one] at this
  rw [← this]
  show double.write (.number (decide ((n : Int) < 0)) (n : Int).natAbs 0) = _
  have e : decide ((n : Int) < 0) = false := by simp
  rw [e, Int.natAbs_natCast]
  rfl
def Fl (n : Nat) : Value := .float .f64 (fbit n)
def Cx (l c : Nat) : Value := .complex .f64 (fbit l) (fbit c)
theorem fbit_zero : fbit 0 = 0 := by decide +kernel
theorem fbit_one : fbit 1 = 4607182418800017408 := by decide +kernel
theorem one_read : double.read (fbit 1) = .number false (2 ^ 52) (-52) := by rw [fbit_rung (by decide) (by decide), read_rung (by decide) (by decide)]; decide +kernel
theorem zero_read : double.read (fbit 0) = .number false 0 (-1074) := by rw [fbit_zero]; decide +kernel
theorem fbit_add {n : Nat} (h : n + 1 < 2 ^ 53) : floatBits .add .f64 (fbit n) (fbit 1) = some (fbit (n + 1)) := by
  show ((double.read (fbit n)).sum (double.read (fbit 1))).map double.write = _
  by_cases h0 : n = 0
  · subst h0
    rw [zero_read, one_read]
    decide +kernel
  · have hl := log_le h0 (by omega)
    rw [fbit_rung h0 (by omega), read_rung h0 (by omega), one_read]
    have e : (n * 2 ^ (52 - n.log2)) <<< n.log2 = n * 2 ^ 52 := by rw [sh_mul, Nat.mul_assoc, ← Nat.pow_add]; congr 2; omega
    have hb : min ((n.log2 : Int) - 52) (-52) = -52 := by omega
    unfold Datum.sum
    simp only [hb]
    have a1 : ((n.log2 : Int) - 52 - -52).toNat = n.log2 := by omega
    rw [a1]
    have s1 : signed false (n * 2 ^ (52 - n.log2)) n.log2 = ((n * 2 ^ 52 : Nat) : Int) := by unfold signed; rw [e]; rfl
    have s2 : signed false (2 ^ 52) (-52 - -52 : Int).toNat = ((2 ^ 52 : Nat) : Int) := by decide
    rw [s1, s2, ← Int.natCast_add]
    have e3 : n * 2 ^ 52 + 2 ^ 52 = (n + 1) * 2 ^ 52 := by omega
    rw [e3]
    have hp : ((n + 1) * 2 ^ 52 : Nat) ≠ 0 := by omega
    rw [if_neg (by omega)]
    show some (double.write (.number (decide ((((n + 1) * 2 ^ 52 : Nat) : Int) < 0)) _ _)) = _
    have d : decide ((((n + 1) * 2 ^ 52 : Nat) : Int) < 0) = false := decide_eq_false (by omega)
    rw [d, Int.natAbs_natCast]
    have := near (n := n + 1) (by omega) h 52
    rw [fbit_rung (by omega) h, ← this]
    rfl
theorem fbit_add0 {n : Nat} (h : n < 2 ^ 53) : floatBits .add .f64 (fbit n) (fbit 0) = some (fbit n) := by
  show ((double.read (fbit n)).sum (double.read (fbit 0))).map double.write = _
  by_cases h0 : n = 0
  · subst h0
    rw [zero_read]
    decide +kernel
  · have hl := log_le h0 (by omega)
    rw [fbit_rung h0 (by omega), read_rung h0 (by omega), zero_read]
    have e : (n * 2 ^ (52 - n.log2)) <<< (n.log2 + 1022) = n * 2 ^ 1074 := by rw [sh_mul, Nat.mul_assoc, ← Nat.pow_add, show 52 - n.log2 + (n.log2 + 1022) = 1074 by omega]
    have hb : min ((n.log2 : Int) - 52) (-1074) = -1074 := by omega
    unfold Datum.sum
    simp only [hb]
    have a1 : ((n.log2 : Int) - 52 - -1074).toNat = n.log2 + 1022 := by omega
    rw [a1]
    have s1 : signed false (n * 2 ^ (52 - n.log2)) (n.log2 + 1022) = ((n * 2 ^ 1074 : Nat) : Int) := by unfold signed; rw [e]; rfl
    have s2 : signed false 0 (-1074 - -1074 : Int).toNat = ((0 : Nat) : Int) := by decide
    rw [s1, s2, ← Int.natCast_add, Nat.add_zero]
    have hp := pow_ne h0 1074
    have hn := near (n := n) h0 h 1074
    generalize n * 2 ^ 1074 = M at hp hn ⊢
    have hpi : (M : Int) ≠ 0 := by omega
    rw [if_neg hpi]
    show some (double.write (.number (decide ((M : Int) < 0)) _ _)) = _
    have d : decide ((M : Int) < 0) = false := decide_eq_false (by omega)
    rw [d, Int.natAbs_natCast, ← hn]
    rfl
theorem fbit_int {n : Nat} (h : n < 2 ^ 53) : floatToIntVal .f64 (fbit n) .i64 = some (n : Int) := by
  have hd : (FloatKind.f64.decode (fbit n)).toInt .zero = some (n : Int) := by
    show (double.read (fbit n)).toInt .zero = _
    by_cases h0 : n = 0
    · subst h0
      rw [zero_read]
      decide +kernel
    · have hl := log_le h0 h
      rw [fbit_rung h0 h, read_rung h0 h]
      unfold Datum.toInt Datum.integral
      have a1 : ((n.log2 : Int) - 52).toNat = 0 := by omega
      have a2 : (-((n.log2 : Int) - 52)).toNat = 52 - n.log2 := by omega
      simp only [a1, a2, Nat.shiftLeft_zero]
      rw [cut_exact _ _ _ h0]
      unfold signed
      rw [if_neg (by decide), Nat.shiftLeft_zero]
  unfold floatToIntVal
  rw [hd]
  have m1 : IntKind.i64.min = -9223372036854775808 := by decide
  have m2 : IntKind.i64.max = 9223372036854775807 := by decide
  simp only [m1, m2]
  rw [if_pos (by omega)]
theorem fbit_eq0 {n : Nat} (h : n < 2 ^ 53) : (FloatKind.format .f64).order (fbit n) (fbit 0) = some .eq ↔ n = 0 := by
  show (double.read (fbit n)).order (double.read (fbit 0)) = some .eq ↔ n = 0
  by_cases h0 : n = 0
  · subst h0
    rw [zero_read]
    decide +kernel
  · rw [fbit_rung h0 h, read_rung h0 h, zero_read]
    unfold Datum.order
    simp only [h0, iff_false]
    intro hc
    have hc := Option.some.inj hc
    replace hc := Std.LawfulEqCmp.eq_of_compare hc
    unfold signed at hc
    rw [if_neg (by decide), if_neg (by decide), Nat.zero_shiftLeft, sh_mul] at hc
    have hm := mant h0 h
    have : n * 2 ^ (52 - n.log2) * 2 ^ ((n.log2 : Int) - 52 - min ((n.log2 : Int) - 52) (-1074)).toNat ≠ 0 := Nat.mul_ne_zero (by omega) (Nat.pos_iff_ne_zero.1 (Nat.two_pow_pos _))
    omega
end
section
variable {P : Program} {n : Nat} {E : Env} {C : World → Prop} {dst : Option Tmp} {t t' ty : TypeId} {pos : String} {aft : Array Edge} {g : Option (Nat × Bool)} {x y : Operand}
theorem OQ.real {a b : Nat} (hx : ev E x = some (Cx a b)) : OQ P n E C ⟨dst, .call ⟨.builtin .real, #[x], #[t]⟩, ty, pos, aft, g⟩ (Fl a) :=
  OQ.run fun ac ha w _ => by
    have h1 := ha.eval hx
    simp [execOp, h1, resolve, invoke, builtin, Cx, Fl, Sem.run_bind, run_real]
theorem OQ.imag {a b : Nat} (hx : ev E x = some (Cx a b)) : OQ P n E C ⟨dst, .call ⟨.builtin .imag, #[x], #[t]⟩, ty, pos, aft, g⟩ (Fl b) :=
  OQ.run fun ac ha w _ => by
    have h1 := ha.eval hx
    simp [execOp, h1, resolve, invoke, builtin, Cx, Fl, Sem.run_bind, run_imag]
theorem OQ.cplx {a b : Nat} (hx : ev E x = some (Fl a)) (hy : ev E y = some (Fl b)) : OQ P n E C ⟨dst, .call ⟨.builtin .complex, #[x, y], #[t, t']⟩, ty, pos, aft, g⟩ (Cx a b) :=
  OQ.run fun ac ha w _ => by
    have h1 := ha.eval hx
    have h2 := ha.eval hy
    simp [execOp, h1, h2, resolve, invoke, builtin, Cx, Fl, Sem.run_bind, run_complex]
theorem OQ.flAdd1 {a : Nat} (hx : ev E x = some (Fl a)) (hy : ev E y = some (Fl 1)) (h : a + 1 < 2 ^ 53) : OQ P n E C ⟨dst, .binOp .add t x y t', ty, pos, aft, g⟩ (Fl (a + 1)) :=
  OQ.run fun ac ha w _ => by
    have h1 := ha.eval hx
    have h2 := ha.eval hy
    have h3 := run_float_arith (P := P) w .add t .f64 _ _ _ (fbit_add h)
    simp only [Fl] at h1 h2
    simp [execOp, h1, h2, eqGuard, Sem.run_bind, h3, Fl]
theorem OQ.cxAdd1 {a b : Nat} (hx : ev E x = some (Cx a b)) (hy : ev E y = some (Cx 0 1)) (h : a < 2 ^ 53) (h' : b + 1 < 2 ^ 53) : OQ P n E C ⟨dst, .binOp .add t x y t', ty, pos, aft, g⟩ (Cx a (b + 1)) :=
  OQ.run fun ac ha w _ => by
    have h1 := ha.eval hx
    have h2 := ha.eval hy
    have h3 := run_complex_sum (P := P) w .add (.inl rfl) t .f64 (fbit a) (fbit b) (fbit 0) (fbit 1) (fbit a) (fbit (b + 1)) (by simp [cSumBits, fbit_add h', fbit_add0 h])
    simp only [Cx] at h1 h2
    simp [execOp, h1, h2, eqGuard, Sem.run_bind, h3, Cx]
theorem OQ.flInt {a : Nat} (hs : (P.underlying t).isSome = true) (hd : P.underlying t' = some (.int .i64)) (hx : ev E x = some (Fl a)) (h : a < 2 ^ 53) : OQ P n E C ⟨dst, .convert t t' x, ty, pos, aft, g⟩ (N a) :=
  OQ.run fun ac ha w _ => by
    have h1 := ha.eval hx
    have h3 := run_convert_float_int (P := P) w t t' .f64 .i64 _ _ hs hd (fbit_int h)
    simp only [Fl] at h1
    simp [execOp, h1, Sem.run_bind, h3, N]
theorem OQ.flEq0 {a : Nat} {c : Bool} (hx : ev E x = some (Fl a)) (hy : ev E y = some (Fl 0)) (h : a < 2 ^ 53) (hc : decide (a = 0) = c) : OQ P n E C ⟨dst, .binOp .eql t x y t', ty, pos, aft, g⟩ (.bool c) :=
  OQ.run fun ac ha w _ => by
    have h1 := ha.eval hx
    have h2 := ha.eval hy
    simp only [Fl] at h1 h2
    have h3 : ((FloatKind.format .f64).order (fbit a) (fbit 0) == some .eq) = c := by
      rw [← hc]
      by_cases h0 : a = 0
      · rw [(fbit_eq0 h).2 h0, h0]; rfl
      · have := mt (fbit_eq0 h).1 h0
        simp [h0, this]
    simp only [execOp, h1, h2, binOp_float_cmp_eql, h3]
    simp [eqGuard, Sem.run_bind]
end
end Sl
end Go.Proofs.Ytnopllkpfdgkkaa
