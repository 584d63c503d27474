/-
  Of no statement by itself: that nought is nought any number of times, and that 9 is not, once; no program stands here.
  Conditions: none.
-/
import Derived.Test.YtmbabkigjckaaaaCrvM
namespace Go.Proofs.Ytmbabkigjckaaaa
namespace Crv
def keyN (x : By) : List By := x :: List.replicate 31 0
theorem keyN_len (x : By) : (keyN x).length = 32 := rfl
theorem pt_zero : pt (keyN 0) = 0 := by decide +kernel
theorem keyF_zero : keyF 0 = keyN 0 := by decide +kernel
theorem multB_zero (k : List By) : multB k (keyN 0) = keyN 0 := by
  unfold multB
  rw [pt_zero, mul_nought, keyF_zero]
theorem pt_nine : pt (keyN 9) = 9 := by decide +kernel
theorem clamp_one : le (clampB (keyN 1)) = 28948022309329048855892746252171976963317496166410141009864396001978282409984 := by decide +kernel
theorem ne9 : (lad 9 28948022309329048855892746252171976963317496166410141009864396001978282409984 255 ⟨1, 0, 9, 1⟩).z2 ≠ 0 ∧ (lad 9 28948022309329048855892746252171976963317496166410141009864396001978282409984 255 ⟨1, 0, 9, 1⟩).x2 ≠ 0 := by decide +kernel
theorem inv_ne {x : F} (h : x ≠ 0) : inv x ≠ 0 := fun e => by
  have i := mul_inv h
  rw [e] at i
  have one : (1 : F) ≠ 0 := by decide
  exact one (by clear h e one; grobner)
theorem multB_nine : multB (keyN 1) (keyN 9) ≠ keyN 0 := fun h => by
  have e := congrArg pt h
  unfold multB at e
  rw [pt_keyF, pt_zero, pt_nine, clamp_one] at e
  unfold mulF at e
  have n := ne9
  exact mul_ne n.2 (inv_ne n.1) e
end Crv
end Go.Proofs.Ytmbabkigjckaaaa
