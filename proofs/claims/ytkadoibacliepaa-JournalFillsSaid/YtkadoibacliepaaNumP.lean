/-
  Of no statement by itself: numbers as bytes, that of the greatest weight first, by definition; what is written is read.
  Conditions: each theorem's own.
-/
import Derived.Test.YtkadoibacliepaaJrnP
namespace Go.Proofs.Ytkadoibacliepaa
namespace Jrn
open Dsk
def num64 (l : Bk) : BitVec 64 := l.foldl (fun (n : BitVec 64) (c : BitVec 8) => (n <<< 8) ||| c.setWidth 64) 0
def be64 (n : BitVec 64) (size : Nat) : Bk := (List.range size).map fun i => (n >>> (8 * (size - 1 - i))).setWidth 8
theorem be64_len (n : BitVec 64) (s : Nat) : (be64 n s).length = s := by simp [be64]
theorem w32_step (n : BitVec 64) (c : BitVec 8) : ((n <<< 8) ||| c.setWidth 64).setWidth 32 = (n.setWidth 32 <<< 8) ||| c.setWidth 32 := by
  ext i hi
  by_cases h : i < 8 <;> simp [BitVec.getLsbD_shiftLeft, h]
theorem num64_fold : ∀ (l : Bk) (n : BitVec 64), (l.foldl (fun (n : BitVec 64) (c : BitVec 8) => (n <<< 8) ||| c.setWidth 64) n).setWidth 32 = l.foldl (fun (n : BitVec 32) (c : BitVec 8) => (n <<< 8) ||| c.setWidth 32) (n.setWidth 32)
  | [], _ => rfl
  | c :: l, n => by
    simp only [List.foldl_cons]
    rw [num64_fold l, w32_step]
theorem num64_32 (l : Bk) : (num64 l).setWidth 32 = num32 l := num64_fold l 0
theorem num64_16 (l : Bk) : (num64 l).setWidth 16 = (num32 l).setWidth 16 := by
  rw [← num64_32]
  ext i hi
  simp
theorem or_shift64 {n : BitVec 64} {c : BitVec 8} (h : n.toNat < 72057594037927936) : ((n <<< 8) ||| c.setWidth 64).toNat = 256 * n.toNat + c.toNat := by
  rw [BitVec.toNat_or, BitVec.toNat_shiftLeft, BitVec.toNat_setWidth]
  have hc := c.isLt
  rw [Nat.mod_eq_of_lt (by omega : c.toNat < 2 ^ 64), Nat.shiftLeft_eq, Nat.mod_eq_of_lt (by omega)]
  have := Nat.two_pow_add_eq_or_of_lt (i := 8) (b := c.toNat) hc n.toNat
  rw [Nat.mul_comm n.toNat (2 ^ 8), ← this]
theorem num64_foldN : ∀ (l : Bk) (n : BitVec 64) (k : Nat), n.toNat < 256 ^ k → k + l.length ≤ 8 → (l.foldl (fun (n : BitVec 64) (c : BitVec 8) => (n <<< 8) ||| c.setWidth 64) n).toNat = l.foldl (fun (n : Nat) (c : BitVec 8) => 256 * n + c.toNat) n.toNat ∧ l.foldl (fun (n : Nat) (c : BitVec 8) => 256 * n + c.toNat) n.toNat < 256 ^ (k + l.length)
  | [], n, k, h, _ => ⟨rfl, h⟩
  | c :: l, n, k, h, hl => by
    simp only [List.length_cons] at hl
    have hk : 256 ^ k ≤ 256 ^ 7 := Nat.pow_le_pow_right (by decide) (by omega)
    have hs := or_shift64 (n := n) (c := c) (by omega)
    have hc := c.isLt
    have hlt : ((n <<< 8) ||| c.setWidth 64).toNat < 256 ^ (k + 1) := by rw [hs, Nat.pow_succ]; omega
    have ih := num64_foldN l _ (k + 1) hlt (by omega)
    simp only [List.foldl_cons]
    rw [hs] at ih
    refine ⟨ih.1, ?_⟩
    have := ih.2
    simp only [List.length_cons]
    rwa [show k + (l.length + 1) = k + 1 + l.length by omega]
theorem num64_toNat {l : Bk} (h : l.length ≤ 8) : (num64 l).toNat = numB l := (num64_foldN l 0 0 (by decide) (by omega)).1
theorem numB_lt8 {l : Bk} (h : l.length ≤ 8) : numB l < 256 ^ l.length := by
  have := (num64_foldN l 0 0 (by decide) (by omega)).2
  rwa [Nat.zero_add] at this
theorem w8_shift (n : BitVec 32) (k : Nat) : ((n.setWidth 64) >>> k).setWidth 8 = (n >>> k).setWidth 8 := by
  ext i hi
  simp
  intro h
  have := BitVec.lt_of_getLsbD h
  omega
theorem be64_32 (n : BitVec 32) (s : Nat) : be64 (n.setWidth 64) s = be n s := by
  unfold be64 be
  refine List.map_congr_left fun i _ => ?_
  exact w8_shift n _
theorem be64_nat {k : Nat} (h : k < 4294967296) (s : Nat) : be64 (BitVec.ofNat 64 k) s = be (BitVec.ofNat 32 k) s := by
  rw [← be64_32]
  congr 1
  apply BitVec.eq_of_toNat_eq
  simp only [BitVec.toNat_setWidth, BitVec.toNat_ofNat]
  omega
/-- a number below 2^16 in two bytes, below 2^32 in four, below 2^64 in eight -/
theorem numB_be2 {k : Nat} (h : k < 65536) : numB (be (BitVec.ofNat 32 k) 2) = k := by rw [be2, BitVec.toNat_ofNat]; omega
theorem numB_be4 {k : Nat} (h : k < 4294967296) : numB (be (BitVec.ofNat 32 k) 4) = k := by rw [be4, BitVec.toNat_ofNat]; omega
theorem numB_be8 (n : BitVec 64) : numB (be64 n 8) = n.toNat := by
  have h := n.isLt
  have e : be64 n 8 = [(n >>> 56).setWidth 8, (n >>> 48).setWidth 8, (n >>> 40).setWidth 8, (n >>> 32).setWidth 8, (n >>> 24).setWidth 8, (n >>> 16).setWidth 8, (n >>> 8).setWidth 8, (n >>> 0).setWidth 8] := rfl
  rw [e]
  simp only [numB, List.foldl_cons, List.foldl_nil, BitVec.toNat_setWidth, BitVec.toNat_ushiftRight, Nat.shiftRight_eq_div_pow]
  omega
theorem num64_be8 (n : BitVec 64) : num64 (be64 n 8) = n := BitVec.eq_of_toNat_eq (by rw [num64_toNat (by rw [be64_len]; decide), numB_be8])
end Jrn
end Go.Proofs.Ytkadoibacliepaa
