/-
  Of no statement by itself: five limbs of 51 bits modulo 2^255 - 19: powers, the inverse; no program stands here.
  Conditions: none but each lemma's own.
-/
import Derived.Test.YtmbabkigjckaaaaCrvU
namespace Go.Proofs.Ytmbabkigjckaaaa
namespace Crv
/-! ### powers -/
def sqB (n : N5) : Nat → N5
  | 0 => n
  | k + 1 => prdB (sqB n k) (sqB n k)
theorem sqB_good {n : N5} (h : Good5 n) : ∀ k, Good5 (sqB n k)
  | 0 => h
  | _ + 1 => prdB_good _ _
structure Pow (x : F) (n : N5) (e : Nat) : Prop where
  good : Good5 n
  fv : fv5 n = pw x e
theorem Pow.mul {x : F} {a b : N5} {d e : Nat} (ha : Pow x a d) (hb : Pow x b e) : Pow x (prdB a b) (d + e) :=
  ⟨prdB_good _ _, by rw [prdB_fv ha.good hb.good, ha.fv, hb.fv, pw_add]⟩
theorem Pow.sq {x : F} {a : N5} {d : Nat} (ha : Pow x a d) : ∀ k, Pow x (sqB a k) (d * 2 ^ k)
  | 0 => by rw [Nat.pow_zero, Nat.mul_one]; exact ha
  | k + 1 => by
    have := (ha.sq k).mul (ha.sq k)
    rw [show d * 2 ^ (k + 1) = d * 2 ^ k + d * 2 ^ k by rw [Nat.pow_succ, ← Nat.mul_assoc]; omega]
    exact this
theorem Pow.to {x : F} {a : N5} {d e : Nat} (h : Pow x a d) (he : Nat.beq d e = true) : Pow x a e := Nat.eq_of_beq_eq_true he ▸ h
structure InvT where
  two : N5
  nine : N5
  eleven : N5
  o5 : N5
  o10 : N5
  o20 : N5
  o40 : N5
  o50 : N5
  o100 : N5
  o200 : N5
  o250 : N5
  all : N5
def invT (n : N5) : InvT :=
  let two := sqB n 1
  let nine := prdB (sqB two 2) n
  let eleven := prdB nine two
  let o5 := prdB (sqB eleven 1) nine
  let o10 := prdB (sqB o5 5) o5
  let o20 := prdB (sqB o10 10) o10
  let o40 := prdB (sqB o20 20) o20
  let o50 := prdB (sqB o40 10) o10
  let o100 := prdB (sqB o50 50) o50
  let o200 := prdB (sqB o100 100) o100
  let o250 := prdB (sqB o200 50) o50
  ⟨two, nine, eleven, o5, o10, o20, o40, o50, o100, o200, o250, prdB (sqB o250 5) eleven⟩
def invB (n : N5) : N5 := (invT n).all
theorem invB_pow {n : N5} (h : Good5 n) : Pow (fv5 n) (invB n) (P - 2) := by
  have h1 : Pow (fv5 n) n 1 := ⟨h, by show fv5 n = 1 * fv5 n; grobner⟩
  have two := h1.sq 1
  have nine := (two.sq 2).mul h1
  have eleven := nine.mul two
  have o5 := (eleven.sq 1).mul nine
  have o10 := (o5.sq 5).mul o5
  have o20 := (o10.sq 10).mul o10
  have o40 := (o20.sq 20).mul o20
  have o50 := (o40.sq 10).mul o10
  have o100 := (o50.sq 50).mul o50
  have o200 := (o100.sq 100).mul o100
  have o250 := (o200.sq 50).mul o50
  have all := (o250.sq 5).mul eleven
  have r := all.to (e := P - 2) (by decide +kernel)
  exact r
theorem invB_fv {n : N5} (h : Good5 n) : fv5 (invB n) = inv (fv5 n) := (invB_pow h).fv
theorem invB_good {n : N5} (h : Good5 n) : Good5 (invB n) := (invB_pow h).good
end Crv
end Go.Proofs.Ytmbabkigjckaaaa
