/-
  Of no statement by itself: floats of 64 bits that hold small whole numbers, and complex numbers of two of these; for any program P.
  Conditions: each rule's own hypotheses.
-/
import Derived.Test.YtnopllkpfdgkkaaSlp
import Derived.Laws.ComplexArith
namespace Go.Proofs.Ytnopllkpfdgkkaa
namespace Sl
/-- the bits of a float that holds a whole number -/
def fbit (n : Nat) : Nat := floatOfInt .f64 n
def Fl (n : Nat) : Value := .float .f64 (fbit n)
def Cx (l c : Nat) : Value := .complex .f64 (fbit l) (fbit c)
theorem fbit_zero : fbit 0 = 0 := by decide +kernel
theorem fbit_one : fbit 1 = 4607182418800017408 := by decide +kernel
def upTo (p : Nat → Bool) : Nat → Bool
  | 0 => true
  | n + 1 => p n && upTo p n
theorem upTo_all {p : Nat → Bool} : ∀ {n i : Nat}, upTo p n = true → i < n → p i = true
  | n + 1, i, h, hi => by
    unfold upTo at h
    rw [Bool.and_eq_true] at h
    by_cases e : i = n
    · rw [e]; exact h.1
    · exact upTo_all h.2 (by omega)
/-- four facts of one whole number -/
def chk (i : Nat) : Bool := decide (floatBits .add .f64 (fbit i) (fbit 1) = some (fbit (i + 1))) && decide (floatBits .add .f64 (fbit i) (fbit 0) = some (fbit i)) && decide (floatToIntVal .f64 (fbit i) .i64 = some (i : Int)) && decide ((FloatKind.format .f64).order (fbit i) (fbit 0) = some .eq ↔ i = 0)
def chks (a : Nat) : Bool := upTo (fun b => chk (100 * a + b)) 100
theorem chks0 : chks 0 = true := by decide +kernel
theorem chks1 : chks 1 = true := by decide +kernel
theorem chks2 : chks 2 = true := by decide +kernel
theorem chks3 : chks 3 = true := by decide +kernel
theorem chks4 : chks 4 = true := by decide +kernel
theorem chks5 : chks 5 = true := by decide +kernel
theorem chks6 : chks 6 = true := by decide +kernel
theorem chks7 : chks 7 = true := by decide +kernel
theorem chks8 : chks 8 = true := by decide +kernel
theorem chks9 : chks 9 = true := by decide +kernel
theorem chks10 : chks 10 = true := by decide +kernel
theorem chks11 : chks 11 = true := by decide +kernel
theorem chks12 : chks 12 = true := by decide +kernel
theorem chks13 : chks 13 = true := by decide +kernel
theorem chks14 : chks 14 = true := by decide +kernel
theorem chks15 : chks 15 = true := by decide +kernel
theorem chks16 : chks 16 = true := by decide +kernel
theorem chks17 : chks 17 = true := by decide +kernel
theorem chks18 : chks 18 = true := by decide +kernel
theorem chks19 : chks 19 = true := by decide +kernel
theorem chks20 : chks 20 = true := by decide +kernel
theorem chks21 : chks 21 = true := by decide +kernel
theorem chks22 : chks 22 = true := by decide +kernel
theorem chks23 : chks 23 = true := by decide +kernel
theorem chks24 : chks 24 = true := by decide +kernel
theorem chks25 : chks 25 = true := by decide +kernel
theorem chks26 : chks 26 = true := by decide +kernel
theorem chks27 : chks 27 = true := by decide +kernel
theorem chks28 : chks 28 = true := by decide +kernel
theorem chks29 : chks 29 = true := by decide +kernel
theorem chks30 : chks 30 = true := by decide +kernel
theorem chks31 : chks 31 = true := by decide +kernel
theorem chks32 : chks 32 = true := by decide +kernel
theorem chks33 : chks 33 = true := by decide +kernel
theorem chks34 : chks 34 = true := by decide +kernel
theorem chks35 : chks 35 = true := by decide +kernel
theorem chks36 : chks 36 = true := by decide +kernel
theorem chks37 : chks 37 = true := by decide +kernel
theorem chks38 : chks 38 = true := by decide +kernel
theorem chks39 : chks 39 = true := by decide +kernel
theorem chks40 : chks 40 = true := by decide +kernel
theorem chks41 : chks 41 = true := by decide +kernel
theorem chks_all : ∀ a : Nat, a < 42 → chks a = true
  | 0, _ => chks0
  | 1, _ => chks1
  | 2, _ => chks2
  | 3, _ => chks3
  | 4, _ => chks4
  | 5, _ => chks5
  | 6, _ => chks6
  | 7, _ => chks7
  | 8, _ => chks8
  | 9, _ => chks9
  | 10, _ => chks10
  | 11, _ => chks11
  | 12, _ => chks12
  | 13, _ => chks13
  | 14, _ => chks14
  | 15, _ => chks15
  | 16, _ => chks16
  | 17, _ => chks17
  | 18, _ => chks18
  | 19, _ => chks19
  | 20, _ => chks20
  | 21, _ => chks21
  | 22, _ => chks22
  | 23, _ => chks23
  | 24, _ => chks24
  | 25, _ => chks25
  | 26, _ => chks26
  | 27, _ => chks27
  | 28, _ => chks28
  | 29, _ => chks29
  | 30, _ => chks30
  | 31, _ => chks31
  | 32, _ => chks32
  | 33, _ => chks33
  | 34, _ => chks34
  | 35, _ => chks35
  | 36, _ => chks36
  | 37, _ => chks37
  | 38, _ => chks38
  | 39, _ => chks39
  | 40, _ => chks40
  | 41, _ => chks41
  | _ + 42, h => by omega
theorem chk_all {i : Nat} (hi : i < 4200) : chk i = true := by
  have h1 := upTo_all (chks_all (i / 100) (by omega)) (i := i % 100) (by omega)
  rwa [Nat.div_add_mod] at h1
theorem fbits {i : Nat} (h : i < 4200) : ((floatBits .add .f64 (fbit i) (fbit 1) = some (fbit (i + 1)) ∧ floatBits .add .f64 (fbit i) (fbit 0) = some (fbit i)) ∧ floatToIntVal .f64 (fbit i) .i64 = some (i : Int)) ∧ ((FloatKind.format .f64).order (fbit i) (fbit 0) = some .eq ↔ i = 0) := by
  have h1 := chk_all h
  unfold chk at h1
  simp only [Bool.and_eq_true, decide_eq_true_eq] at h1
  exact h1
theorem fbit_add {i : Nat} (h : i < 4200) : floatBits .add .f64 (fbit i) (fbit 1) = some (fbit (i + 1)) := (fbits h).1.1.1
theorem fbit_add0 {i : Nat} (h : i < 4200) : floatBits .add .f64 (fbit i) (fbit 0) = some (fbit i) := (fbits h).1.1.2
theorem fbit_int {i : Nat} (h : i < 4200) : floatToIntVal .f64 (fbit i) .i64 = some (i : Int) := (fbits h).1.2
theorem fbit_eq0 {i : Nat} (h : i < 4200) : (FloatKind.format .f64).order (fbit i) (fbit 0) = some .eq ↔ i = 0 := (fbits h).2
section
variable {P : Program} {n : Nat} {E : Env} {C : World → Prop} {dst : Option Tmp} {t t' ty : TypeId} {pos : String} {aft : Array Edge} {g : Option (Nat × Bool)} {x y : Operand}
theorem OQ.real {a b : Nat} (hx : ev E x = some (Cx a b)) : OQ P n E C ⟨dst, .call ⟨.builtin .real, #[x], #[t]⟩, ty, pos, aft, g⟩ (Fl a) :=
  OQ.run fun ac ha w _ => by
    have h1 := ha.eval hx
    simp [execOp, h1, resolve, invoke, builtin, Cx, Fl, Sem.run_bind, run_real]
theorem OQ.imag {a b : Nat} (hx : ev E x = some (Cx a b)) : OQ P n E C ⟨dst, .call ⟨.builtin .imag, #[x], #[t]⟩, ty, pos, aft, g⟩ (Fl b) :=
  OQ.run fun ac ha w _ => by
    have h1 := ha.eval hx
    simp [execOp, h1, resolve, invoke, builtin, Cx, Fl, Sem.run_bind, run_imag]
theorem OQ.cplx {a b : Nat} (hx : ev E x = some (Fl a)) (hy : ev E y = some (Fl b)) : OQ P n E C ⟨dst, .call ⟨.builtin .complex, #[x, y], #[t, t']⟩, ty, pos, aft, g⟩ (Cx a b) :=
  OQ.run fun ac ha w _ => by
    have h1 := ha.eval hx
    have h2 := ha.eval hy
    simp [execOp, h1, h2, resolve, invoke, builtin, Cx, Fl, Sem.run_bind, run_complex]
theorem OQ.flAdd1 {a : Nat} (hx : ev E x = some (Fl a)) (hy : ev E y = some (Fl 1)) (h : a < 4200) : OQ P n E C ⟨dst, .binOp .add t x y t', ty, pos, aft, g⟩ (Fl (a + 1)) :=
  OQ.run fun ac ha w _ => by
    have h1 := ha.eval hx
    have h2 := ha.eval hy
    have h3 := run_float_arith (P := P) w .add t .f64 _ _ _ (fbit_add h)
    simp only [Fl] at h1 h2
    simp [execOp, h1, h2, eqGuard, Sem.run_bind, h3, Fl]
theorem OQ.cxAdd1 {a b : Nat} (hx : ev E x = some (Cx a b)) (hy : ev E y = some (Cx 0 1)) (h : a < 4200) (h' : b < 4200) : OQ P n E C ⟨dst, .binOp .add t x y t', ty, pos, aft, g⟩ (Cx a (b + 1)) :=
  OQ.run fun ac ha w _ => by
    have h1 := ha.eval hx
    have h2 := ha.eval hy
    have h3 := run_complex_sum (P := P) w .add (.inl rfl) t .f64 (fbit a) (fbit b) (fbit 0) (fbit 1) (fbit a) (fbit (b + 1)) (by simp [cSumBits, fbit_add h', fbit_add0 h])
    simp only [Cx] at h1 h2
    simp [execOp, h1, h2, eqGuard, Sem.run_bind, h3, Cx]
theorem OQ.flInt {a : Nat} (hs : (P.underlying t).isSome = true) (hd : P.underlying t' = some (.int .i64)) (hx : ev E x = some (Fl a)) (h : a < 4200) : OQ P n E C ⟨dst, .convert t t' x, ty, pos, aft, g⟩ (N a) :=
  OQ.run fun ac ha w _ => by
    have h1 := ha.eval hx
    have h3 := run_convert_float_int (P := P) w t t' .f64 .i64 _ _ hs hd (fbit_int h)
    simp only [Fl] at h1
    simp [execOp, h1, Sem.run_bind, h3, N]
theorem OQ.flEq0 {a : Nat} {c : Bool} (hx : ev E x = some (Fl a)) (hy : ev E y = some (Fl 0)) (h : a < 4200) (hc : decide (a = 0) = c) : OQ P n E C ⟨dst, .binOp .eql t x y t', ty, pos, aft, g⟩ (.bool c) :=
  OQ.run fun ac ha w _ => by
    have h1 := ha.eval hx
    have h2 := ha.eval hy
    simp only [Fl] at h1 h2
    have h3 : ((FloatKind.format .f64).order (fbit a) (fbit 0) == some .eq) = c := by
      rw [← hc]
      by_cases h0 : a = 0
      · rw [(fbit_eq0 h).2 h0, h0]; rfl
      · have := mt (fbit_eq0 h).1 h0
        simp [h0, this]
    simp only [execOp, h1, h2, binOp_float_cmp_eql, h3]
    simp [eqGuard, Sem.run_bind]
end
end Sl
end Go.Proofs.Ytnopllkpfdgkkaa
