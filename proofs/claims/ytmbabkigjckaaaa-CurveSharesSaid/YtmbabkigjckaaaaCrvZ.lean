/-
  Of no statement by itself: five limbs of 51 bits modulo 2^255 - 19: the ladder over these limbs, rows that change places; no program stands here.
  Conditions: none but each lemma's own.
-/
import Derived.Test.YtmbabkigjckaaaaCrvY
namespace Go.Proofs.Ytmbabkigjckaaaa
namespace Crv
/-! ### the ladder over limbs -/
structure L5 where
  x2 : N5
  z2 : N5
  x3 : N5
  z3 : N5
@[reducible] def L5.l (s : L5) : List W64 := s.x2.l ++ s.z2.l ++ s.x3.l ++ s.z3.l
def L5.f (s : L5) : L4 := ⟨fv5 s.x2, fv5 s.z2, fv5 s.x3, fv5 s.z3⟩
structure L5.ok (s : L5) : Prop where
  x2 : Good5 s.x2
  z2 : Good5 s.z2
  x3 : Good5 s.x3
  z3 : Good5 s.z3
def oneN : N5 := ⟨1, 0, 0, 0, 0⟩
def zeroN : N5 := ⟨0, 0, 0, 0, 0⟩
def cN : N5 := ⟨121665, 0, 0, 0, 0⟩
theorem oneN_good : Good5 oneN := ⟨by decide, by decide, by decide, by decide, by decide⟩
theorem zeroN_good : Good5 zeroN := ⟨by decide, by decide, by decide, by decide, by decide⟩
theorem cN_good : Good5 cN := ⟨by decide, by decide, by decide, by decide, by decide⟩
theorem oneN_fv : fv5 oneN = 1 := by decide +kernel
theorem zeroN_fv : fv5 zeroN = 0 := by decide +kernel
theorem cN_fv : fv5 cN = 121665 := by decide +kernel
structure StpT where
  a : N5
  b : N5
  c : N5
  d : N5
  aa : N5
  bb : N5
  da : N5
  cb : N5
  e : N5
  m : N5
  s : N5
def stpT (s : L5) : StpT :=
  let a := sumB s.x2 s.z2
  let b := difB s.x2 s.z2
  let c := sumB s.x3 s.z3
  let d := difB s.x3 s.z3
  let aa := prdB a a
  let bb := prdB b b
  let da := prdB d a
  let cb := prdB c b
  let e := difB aa bb
  ⟨a, b, c, d, aa, bb, da, cb, e, sumB da cb, difB da cb⟩
def stpR (x1 : N5) (t : StpT) : L5 := ⟨prdB t.aa t.bb, prdB t.e (sumB t.aa (prdB cN t.e)), prdB t.m t.m, prdB x1 (prdB t.s t.s)⟩
def stpB (x1 : N5) (s : L5) : L5 := stpR x1 (stpT s)
def swB (b : Bool) (s : L5) : L5 := if b then ⟨s.x3, s.z3, s.x2, s.z2⟩ else s
theorem swB_ok {s : L5} (h : s.ok) (b : Bool) : (swB b s).ok := by
  cases b
  · exact h
  · exact ⟨h.x3, h.z3, h.x2, h.z2⟩
theorem swB_f (s : L5) (b : Bool) : (swB b s).f = swap b s.f := by cases b <;> rfl
theorem stpB_ok (x1 : N5) (s : L5) : (stpB x1 s).ok := ⟨prdB_good _ _, prdB_good _ _, prdB_good _ _, prdB_good _ _⟩
theorem stpB_f {x1 : N5} {s : L5} (h1 : Good5 x1) (h : s.ok) : (stpB x1 s).f = core (fv5 x1) s.f := by
  have ga := sumB_good s.x2 s.z2
  have gb := difB_good s.x2 s.z2
  have gc := sumB_good s.x3 s.z3
  have gd := difB_good s.x3 s.z3
  unfold L5.f stpB stpR stpT core
  simp only
  rw [prdB_fv (prdB_good _ _) (prdB_good _ _), prdB_fv (difB_good _ _) (sumB_good _ _), sumB_fv (prdB_good _ _) (prdB_good _ _), prdB_fv cN_good (difB_good _ _), difB_fv (prdB_good _ _) (prdB_good _ _),
    prdB_fv (sumB_good (prdB _ _) _) (sumB_good _ _), sumB_fv (prdB_good (difB _ _) _) (prdB_good _ _), prdB_fv h1 (prdB_good _ _), prdB_fv (difB_good (prdB _ _) _) (difB_good _ _), difB_fv (prdB_good (difB _ _) _) (prdB_good _ _),
    prdB_fv gd ga, prdB_fv gc gb, prdB_fv ga ga, prdB_fv gb gb, sumB_fv h.x2 h.z2, difB_fv h.x2 h.z2, sumB_fv h.x3 h.z3, difB_fv h.x3 h.z3, cN_fv]
def ladB (x1 : N5) (k : Nat) : Nat → L5
  | 0 => ⟨oneN, zeroN, x1, oneN⟩
  | n + 1 => swB (k.testBit (254 - n)) (stpB x1 (swB (k.testBit (254 - n)) (ladB x1 k n)))
theorem ladB_ok {x1 : N5} (h : Good5 x1) (k : Nat) : ∀ n, (ladB x1 k n).ok
  | 0 => ⟨oneN_good, zeroN_good, h, oneN_good⟩
  | _ + 1 => swB_ok (stpB_ok _ _) _
theorem ladB_f {x1 : N5} (h : Good5 x1) (k : Nat) : ∀ n, n ≤ 255 → lad (fv5 x1) k (255 - n) (ladB x1 k n).f = lad (fv5 x1) k 255 (ladB x1 k 0).f
  | 0, _ => rfl
  | n + 1, hn => by
    rw [← ladB_f h k n (by omega)]
    have e : 255 - n = (255 - (n + 1)) + 1 := by omega
    have e2 : 254 - n = 255 - (n + 1) := by omega
    rw [e]
    show lad (fv5 x1) k (255 - (n + 1)) (swB (k.testBit (254 - n)) (stpB x1 (swB (k.testBit (254 - n)) (ladB x1 k n)))).f = lad (fv5 x1) k (255 - (n + 1)) (swap (k.testBit (255 - (n + 1))) (core (fv5 x1) (swap (k.testBit (255 - (n + 1))) (ladB x1 k n).f)))
    rw [swB_f, stpB_f h (swB_ok (ladB_ok h k n) _), swB_f, e2]
/-- what the code's Mult lays -/
def mltB (k u : List By) : List By := kyB (prdB (ladB (numB u) (le (clampB k)) 255).x2 (invB (ladB (numB u) (le (clampB k)) 255).z2))
theorem mltB_is (k u : List By) (hu : u.length = 32) : mltB k u = multB k u := by
  have h := numB_good u
  have g := ladB_ok h (le (clampB k)) 255
  have e : (ladB (numB u) (le (clampB k)) 255).f = lad (fv5 (numB u)) (le (clampB k)) 255 (ladB (numB u) (le (clampB k)) 0).f := ladB_f h _ 255 (by omega)
  have e0 : (ladB (numB u) (le (clampB k)) 0).f = ⟨1, 0, fv5 (numB u), 1⟩ := by
    show (⟨fv5 oneN, fv5 zeroN, fv5 (numB u), fv5 oneN⟩ : L4) = _
    rw [oneN_fv, zeroN_fv]
  rw [e0] at e
  unfold mltB
  rw [kyB_is (prdB_good _ _), prdB_fv g.x2 (invB_good g.z2), invB_fv g.z2]
  unfold multB mulF
  rw [← numB_fv hu, ← e]
  rfl
/-! ### two rows that change places -/
def mixl (c : Bool) (x y : List W64) (i : Nat) : List W64 := if c then y.take i ++ x.drop i else x
theorem mixl_len (c : Bool) {x y : List W64} (h : x.length = y.length) (i : Nat) : (mixl c x y i).length = x.length := by
  cases c
  · rfl
  · show (y.take i ++ x.drop i).length = _
    rw [List.length_append, List.length_take, List.length_drop]; omega
theorem mixl_get (c : Bool) {x y : List W64} (h : x.length = y.length) {i : Nat} (hi : i < x.length) : (mixl c x y i)[i]? = some (x.getD i 0) := by
  have e : x[i]? = some (x.getD i 0) := by rw [List.getD_eq_getElem?_getD, List.getElem?_eq_getElem hi]; rfl
  cases c
  · exact e
  · show (y.take i ++ x.drop i)[i]? = _
    rw [List.getElem?_append_right (by rw [List.length_take]; omega), List.length_take, List.getElem?_drop, ← e]
    congr 1; omega
theorem mixl_set (c : Bool) {x y : List W64} (h : x.length = y.length) {i : Nat} (hi : i < x.length) {v : W64} (hv : v = if c then y.getD i 0 else x.getD i 0) : (mixl c x y i).set i v = mixl c x y (i + 1) := by
  subst hv
  cases c
  · show x.set i (x.getD i 0) = x
    rw [List.getD_eq_getElem?_getD, List.getElem?_eq_getElem hi]
    simp
  · show (y.take i ++ x.drop i).set i (y.getD i 0) = y.take (i + 1) ++ x.drop (i + 1)
    have e : y[i]? = some (y.getD i 0) := by rw [List.getD_eq_getElem?_getD, List.getElem?_eq_getElem (by omega)]; rfl
    rw [List.set_append_right _ _ (by rw [List.length_take]; omega), List.length_take, Nat.min_eq_left (by omega), Nat.sub_self, List.drop_eq_getElem_cons hi, List.set_cons_zero, List.take_add_one, e]
    simp
theorem mixl_all (c : Bool) {x y : List W64} (h : x.length = y.length) : mixl c x y x.length = if c then y else x := by
  cases c
  · rfl
  · show y.take x.length ++ x.drop x.length = y
    rw [List.take_of_length_le (by omega), List.drop_of_length_le (by omega), List.append_nil]
def bt (c : Bool) : By := if c then 1#8 else 0#8
def mk64 (c : Bool) : W64 := if c then BitVec.allOnes 64 else 0
theorem mk64_is (c : Bool) : -((bt c).setWidth 64 : W64) = mk64 c := by cases c <;> decide
theorem bt_is (x : By) (k : Nat) (h : k < 8) : (x >>> k) &&& 1#8 = bt (x.toNat.testBit k) := by
  have h8 : ∀ k : Fin 8, ∀ x : By, (x >>> k.val) &&& 1#8 = bt (x.toNat.testBit k.val) := by decide +kernel
  exact h8 ⟨k, h⟩ x
theorem swap_l (c : Bool) (a b : W64) : a ^^^ (mk64 c &&& (a ^^^ b)) = if c then b else a := by
  cases c
  · show a ^^^ (0 &&& (a ^^^ b)) = a
    simp
  · show a ^^^ (BitVec.allOnes 64 &&& (a ^^^ b)) = b
    rw [BitVec.allOnes_and, ← BitVec.xor_assoc, BitVec.xor_self, BitVec.zero_xor]
theorem swap_r (c : Bool) (a b : W64) : b ^^^ (mk64 c &&& (a ^^^ b)) = if c then a else b := by
  rw [BitVec.xor_comm a b]
  exact swap_l c b a
end Crv
end Go.Proofs.Ytmbabkigjckaaaa
