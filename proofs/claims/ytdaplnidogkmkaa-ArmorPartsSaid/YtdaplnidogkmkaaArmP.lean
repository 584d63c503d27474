/-
  Of no statement by itself: signs of groups of three, bytes of groups of four signs, lines by groups of 76: pure, in the shape in which code goes through groups.
  Conditions: none but each lemma's own.
-/
import Derived.Test.YtdaplnidogkmkaaArmS
namespace Go.Proofs.Ytdaplnidogkmkaa
namespace Arm
/-- what F gives of each group of k -/
def fl (k : Nat) (F : List By → List By) (l : List By) : List By := (List.range ((l.length + k - 1) / k)).flatMap fun j => F ((l.drop (k * j)).take k)
theorem fl_nil {k : Nat} (hk : 0 < k) (F : List By → List By) : fl k F [] = [] := by
  unfold fl
  rw [List.length_nil, Nat.div_eq_of_lt (by omega)]; rfl
theorem fl_step {k : Nat} (hk : 0 < k) (F : List By → List By) {l : List By} (h : l ≠ []) : fl k F l = F (l.take k) ++ fl k F (l.drop k) := by
  have hp := List.length_pos_iff.2 h
  have e : (l.length + k - 1) / k = ((l.drop k).length + k - 1) / k + 1 := by
    rw [List.length_drop]
    by_cases hle : l.length ≤ k
    · rw [Nat.sub_eq_zero_of_le hle, Nat.zero_add, Nat.div_eq_of_lt (show k - 1 < k by omega)]
      exact Nat.div_eq_of_lt_le (by omega) (by omega)
    · rw [show l.length + k - 1 = (l.length - k + k - 1) + k by omega, Nat.add_div_right _ hk]
  unfold fl
  rw [e, List.range_succ_eq_map, List.flatMap_cons, List.flatMap_map, Nat.mul_zero, List.drop_zero]
  congr 2
  funext j
  rw [List.drop_drop, show k * j.succ = k + k * j by rw [Nat.mul_succ]; omega]
/-! ### signs -/
def pad3 (g : List By) : List By := [g.getD 0 0, g.getD 1 0, g.getD 2 0]
def val3 (g : List By) : Nat := (g.getD 0 0).toNat * 65536 + (g.getD 1 0).toNat * 256 + (g.getD 2 0).toNat
def sgn (g : List By) (i : Nat) : By := if g.length < i then 61 else sg (val3 g / 2 ^ (6 * (3 - i)) % 64)
def sig4 (g : List By) : List By := [sgn g 0, sgn g 1, sgn g 2, sgn g 3]
theorem sig4_is {g : List By} (h0 : g ≠ []) (h3 : g.length ≤ 3) : sig4 g = encB g := by
  match g, h0, h3 with
  | [a], _, _ =>
    have ha := a.isLt
    simp only [sig4, sgn, val3, List.length_cons, List.length_nil, List.getD_cons_zero, List.getD_cons_succ, List.getD_nil, encB]
    simp only [show ¬ (0 + 1 < 0) by omega, show ¬ (0 + 1 < 1) by omega, show (0 + 1 < 2) by omega, show (0 + 1 < 3) by omega, if_true, if_false]
    rw [show (a.toNat * 65536 + (0 : By).toNat * 256 + (0 : By).toNat) / 2 ^ (6 * (3 - 0)) % 64 = a.toNat / 4 by simp; omega,
      show (a.toNat * 65536 + (0 : By).toNat * 256 + (0 : By).toNat) / 2 ^ (6 * (3 - 1)) % 64 = a.toNat % 4 * 16 by simp; omega]
  | [a, b], _, _ =>
    have ha := a.isLt
    have hb := b.isLt
    simp only [sig4, sgn, val3, List.length_cons, List.length_nil, List.getD_cons_zero, List.getD_cons_succ, List.getD_nil, encB]
    simp only [show ¬ (0 + 1 + 1 < 0) by omega, show ¬ (0 + 1 + 1 < 1) by omega, show ¬ (0 + 1 + 1 < 2) by omega, show (0 + 1 + 1 < 3) by omega, if_true, if_false]
    rw [show (a.toNat * 65536 + b.toNat * 256 + (0 : By).toNat) / 2 ^ (6 * (3 - 0)) % 64 = a.toNat / 4 by simp; omega,
      show (a.toNat * 65536 + b.toNat * 256 + (0 : By).toNat) / 2 ^ (6 * (3 - 1)) % 64 = a.toNat % 4 * 16 + b.toNat / 16 by simp; omega,
      show (a.toNat * 65536 + b.toNat * 256 + (0 : By).toNat) / 2 ^ (6 * (3 - 2)) % 64 = b.toNat % 16 * 4 by simp; omega]
  | [a, b, c], _, _ =>
    have ha := a.isLt
    have hb := b.isLt
    have hc := c.isLt
    rw [encB3]
    simp only [sig4, sgn, val3, List.length_cons, List.length_nil, List.getD_cons_zero, List.getD_cons_succ, List.getD_nil, encB]
    simp only [show ¬ (0 + 1 + 1 + 1 < 0) by omega, show ¬ (0 + 1 + 1 + 1 < 1) by omega, show ¬ (0 + 1 + 1 + 1 < 2) by omega, show ¬ (0 + 1 + 1 + 1 < 3) by omega, if_false]
    rw [show (a.toNat * 65536 + b.toNat * 256 + c.toNat) / 2 ^ (6 * (3 - 0)) % 64 = a.toNat / 4 by simp; omega,
      show (a.toNat * 65536 + b.toNat * 256 + c.toNat) / 2 ^ (6 * (3 - 1)) % 64 = a.toNat % 4 * 16 + b.toNat / 16 by simp; omega,
      show (a.toNat * 65536 + b.toNat * 256 + c.toNat) / 2 ^ (6 * (3 - 2)) % 64 = b.toNat % 16 * 4 + c.toNat / 64 by simp; omega,
      show (a.toNat * 65536 + b.toNat * 256 + c.toNat) / 2 ^ (6 * (3 - 3)) % 64 = c.toNat % 64 by simp; omega]
theorem fl_enc (l : List By) : fl 3 sig4 l = encB l := by
  refine by3 (p := fun l => fl 3 sig4 l = encB l) (by rw [fl_nil (by decide)]; rfl) (fun a => ?_) (fun a b => ?_) (fun a b c r h => ?_) l
  · rw [fl_step (by decide) _ (by simp), show [a].drop 3 = [] from rfl, fl_nil (by decide), show [a].take 3 = [a] from rfl, sig4_is (by simp) (by simp), List.append_nil]
  · rw [fl_step (by decide) _ (by simp), show [a, b].drop 3 = [] from rfl, fl_nil (by decide), show [a, b].take 3 = [a, b] from rfl, sig4_is (by simp) (by simp), List.append_nil]
  · rw [fl_step (by decide) _ (by simp), show (a :: b :: c :: r).drop 3 = r from rfl, h, show (a :: b :: c :: r).take 3 = [a, b, c] from rfl, sig4_is (by simp) (by simp), encB3, encB3]
    rfl
theorem sgn_bits (g : List By) (i : Nat) : (((((g.getD 0 0).setWidth 32 <<< 16) ||| ((g.getD 1 0).setWidth 32 <<< 8)) ||| (g.getD 2 0).setWidth 32) >>> i &&& 63#32).toNat = val3 g / 2 ^ i % 64 := by
  unfold val3
  generalize g.getD 0 0 = a, g.getD 1 0 = b, g.getD 2 0 = c
  have ha := a.isLt
  have hb := b.isLt
  have hc := c.isLt
  rw [BitVec.toNat_and, BitVec.toNat_ushiftRight, BitVec.toNat_or, BitVec.toNat_or, BitVec.toNat_shiftLeft, BitVec.toNat_shiftLeft, BitVec.toNat_setWidth, BitVec.toNat_setWidth, BitVec.toNat_setWidth]
  rw [Nat.mod_eq_of_lt (show a.toNat < 2 ^ 32 by omega), Nat.mod_eq_of_lt (show b.toNat < 2 ^ 32 by omega), Nat.mod_eq_of_lt (show c.toNat < 2 ^ 32 by omega)]
  rw [Nat.mod_eq_of_lt (show a.toNat <<< 16 < 2 ^ 32 by rw [Nat.shiftLeft_eq]; omega), Nat.mod_eq_of_lt (show b.toNat <<< 8 < 2 ^ 32 by rw [Nat.shiftLeft_eq]; omega)]
  have e1 : a.toNat <<< 16 ||| b.toNat <<< 8 = (a.toNat * 256 + b.toNat) <<< 8 := by
    rw [← Nat.shiftLeft_add_eq_or_of_lt (by rw [Nat.shiftLeft_eq]; omega)]
    simp only [Nat.shiftLeft_eq]; omega
  rw [e1, ← Nat.shiftLeft_add_eq_or_of_lt (by omega)]
  rw [show (63#32).toNat = 2 ^ 6 - 1 from rfl, Nat.and_two_pow_sub_one_eq_mod, Nat.shiftRight_eq_div_pow, Nat.shiftLeft_eq]
  rw [show (a.toNat * 256 + b.toNat) * 2 ^ 8 + c.toNat = a.toNat * 65536 + b.toNat * 256 + c.toNat by omega]
/-! ### bytes -/
/-- a sign's number: nought for what is none -/
def pl (c : By) : Nat := ((List.range 64).find? fun i => sgL.getD i 0 == c).getD 0
theorem pl_sg : ∀ m : Fin 64, pl (sg m.val) = m.val := by decide +kernel
theorem sg_61' : ∀ m : Fin 64, ¬ sg m.val = 61#8 := by decide +kernel
theorem sg_61 {m : Nat} (h : m < 64) : ¬ sg m = 61#8 := sg_61' ⟨m, h⟩
theorem pl_lt (c : By) : pl c < 64 := by
  unfold pl
  cases h : (List.range 64).find? fun i => sgL.getD i 0 == c with
  | none => decide
  | some i => simpa using List.mem_of_find?_eq_some h
/-- the number that the first i signs of a group tell -/
def acc (g : List By) : Nat → Nat
  | 0 => 0
  | i + 1 => acc g i + pl (g.getD i 0) * 2 ^ (6 * (3 - i))
def lead (g : List By) : Nat := (g.takeWhile (· != 61)).length
def dec4 (g : List By) : List By := (List.range (lead g - 1)).map fun i => BitVec.ofNat 8 (acc g (lead g) / 2 ^ (8 * (2 - i)))
theorem acc_ok (g : List By) {i : Nat} (hi : i ≤ 4) : acc g i < 2 ^ 24 ∧ acc g i % 2 ^ (6 * (4 - i)) = 0 := by
  have p0 := pl_lt (g.getD 0 0)
  have p1 := pl_lt (g.getD 1 0)
  have p2 := pl_lt (g.getD 2 0)
  have p3 := pl_lt (g.getD 3 0)
  match i, hi with
  | 0, _ => simp [acc]
  | 1, _ => simp only [acc]; omega
  | 2, _ => simp only [acc]; omega
  | 3, _ => simp only [acc]; omega
  | 4, _ => simp only [acc]; omega
theorem acc_bits (g : List By) {i : Nat} (hi : i < 4) : BitVec.ofNat 32 (acc g i) ||| (BitVec.ofNat 32 (pl (g.getD i 0)) <<< (6 * (3 - i))) = BitVec.ofNat 32 (acc g (i + 1)) := by
  obtain ⟨h1, h2⟩ := acc_ok g (i := i) (by omega)
  have h3 := (acc_ok g (i := i + 1) (by omega)).1
  have hp := pl_lt (g.getD i 0)
  have he : 2 ^ (6 * (4 - i)) = 64 * 2 ^ (6 * (3 - i)) := by rw [show 6 * (4 - i) = 6 + 6 * (3 - i) by omega, Nat.pow_add]
  have hlt : pl (g.getD i 0) * 2 ^ (6 * (3 - i)) < 2 ^ (6 * (4 - i)) := by rw [he]; exact Nat.mul_lt_mul_of_pos_right hp (Nat.two_pow_pos _)
  have hle : 2 ^ (6 * (4 - i)) ≤ 2 ^ 24 := Nat.pow_le_pow_right (by decide) (by omega)
  apply BitVec.eq_of_toNat_eq
  rw [BitVec.toNat_or, BitVec.toNat_shiftLeft, BitVec.toNat_ofNat, BitVec.toNat_ofNat, BitVec.toNat_ofNat, Nat.mod_eq_of_lt (show acc g i < 2 ^ 32 by omega), Nat.mod_eq_of_lt (show pl (g.getD i 0) < 2 ^ 32 by omega), Nat.mod_eq_of_lt (show acc g (i + 1) < 2 ^ 32 by omega)]
  rw [Nat.shiftLeft_eq, Nat.mod_eq_of_lt (show pl (g.getD i 0) * 2 ^ (6 * (3 - i)) < 2 ^ 32 by omega)]
  have hb : acc g i = (acc g i / 2 ^ (6 * (4 - i))) <<< (6 * (4 - i)) := by
    rw [Nat.shiftLeft_eq]
    have := Nat.div_add_mod (acc g i) (2 ^ (6 * (4 - i)))
    rw [h2, Nat.mul_comm] at this
    omega
  rw [hb, ← Nat.shiftLeft_add_eq_or_of_lt hlt, ← hb]
  rfl
theorem byte_bits {n k : Nat} (h : n < 2 ^ 32) : (BitVec.ofNat 32 n >>> k).setWidth 8 = BitVec.ofNat 8 (n / 2 ^ k) := by
  apply BitVec.eq_of_toNat_eq
  rw [BitVec.toNat_setWidth, BitVec.toNat_ushiftRight, BitVec.toNat_ofNat, BitVec.toNat_ofNat, Nat.mod_eq_of_lt h, Nat.shiftRight_eq_div_pow]
theorem range3 : List.range 3 = [0, 1, 2] := rfl
theorem dec4_3 {p q r s : Nat} (hp : p < 64) (hq : q < 64) (hr : r < 64) (hs : s < 64) : dec4 [sg p, sg q, sg r, sg s] = [BitVec.ofNat 8 (p * 4 + q / 16), BitVec.ofNat 8 (q % 16 * 16 + r / 4), BitVec.ofNat 8 (r % 4 * 64 + s)] := by
  have e : lead [sg p, sg q, sg r, sg s] = 4 := by
    simp [lead, List.takeWhile_cons, sg_61 hp, sg_61 hq, sg_61 hr, sg_61 hs]
  unfold dec4
  rw [e]
  simp only [acc, List.getD_cons_zero, List.getD_cons_succ, pl_sg ⟨p, hp⟩, pl_sg ⟨q, hq⟩, pl_sg ⟨r, hr⟩, pl_sg ⟨s, hs⟩, range3, List.map_cons, List.map_nil, Nat.add_one_sub_one]
  congr 1
  · apply BitVec.eq_of_toNat_eq; simp only [BitVec.toNat_ofNat]; omega
  congr 1
  · apply BitVec.eq_of_toNat_eq; simp only [BitVec.toNat_ofNat]; omega
  congr 1
  · apply BitVec.eq_of_toNat_eq; simp only [BitVec.toNat_ofNat]; omega
theorem dec4_2 {p q r : Nat} (hp : p < 64) (hq : q < 64) (hr : r < 64) : dec4 [sg p, sg q, sg r, 61] = [BitVec.ofNat 8 (p * 4 + q / 16), BitVec.ofNat 8 (q % 16 * 16 + r / 4)] := by
  have e : lead [sg p, sg q, sg r, 61] = 3 := by
    simp [lead, List.takeWhile_cons, sg_61 hp, sg_61 hq, sg_61 hr]
  unfold dec4
  rw [e]
  simp only [acc, List.getD_cons_zero, List.getD_cons_succ, pl_sg ⟨p, hp⟩, pl_sg ⟨q, hq⟩, pl_sg ⟨r, hr⟩, show List.range (3 - 1) = [0, 1] from rfl, List.map_cons, List.map_nil]
  congr 1
  · apply BitVec.eq_of_toNat_eq; simp only [BitVec.toNat_ofNat]; omega
  congr 1
  · apply BitVec.eq_of_toNat_eq; simp only [BitVec.toNat_ofNat]; omega
theorem dec4_1 {p q : Nat} (hp : p < 64) (hq : q < 64) : dec4 [sg p, sg q, 61, 61] = [BitVec.ofNat 8 (p * 4 + q / 16)] := by
  have e : lead [sg p, sg q, 61, 61] = 2 := by
    simp [lead, List.takeWhile_cons, sg_61 hp, sg_61 hq]
  unfold dec4
  rw [e]
  simp only [acc, List.getD_cons_zero, List.getD_cons_succ, pl_sg ⟨p, hp⟩, pl_sg ⟨q, hq⟩, show List.range (2 - 1) = [0] from rfl, List.map_cons, List.map_nil]
  congr 1
  · apply BitVec.eq_of_toNat_eq; simp only [BitVec.toNat_ofNat]; omega
theorem fl_dec (l : List By) : fl 4 dec4 (encB l) = l := by
  refine by3 (p := fun l => fl 4 dec4 (encB l) = l) (by rw [encB, fl_nil (by decide)]) (fun a => ?_) (fun a b => ?_) (fun a b c r h => ?_) l
  · have ha := a.isLt
    rw [encB, fl_step (by decide) _ (by simp)]
    simp only [List.take_succ_cons, List.take_nil, List.drop_succ_cons, List.drop_nil, List.take_zero, List.drop_zero]
    rw [dec4_1 (by omega) (by omega), fl_nil (by decide), of8 (show _ = a.toNat by omega)]; rfl
  · have ha := a.isLt
    have hb := b.isLt
    rw [encB, fl_step (by decide) _ (by simp)]
    simp only [List.take_succ_cons, List.take_nil, List.drop_succ_cons, List.drop_nil, List.take_zero, List.drop_zero]
    rw [dec4_2 (by omega) (by omega) (by omega), fl_nil (by decide), of8 (show _ = a.toNat by omega), of8 (show _ = b.toNat by omega)]; rfl
  · have ha := a.isLt
    have hb := b.isLt
    have hc := c.isLt
    rw [encB3, fl_step (by decide) _ (by simp)]
    simp only [List.take_succ_cons, List.take_nil, List.drop_succ_cons, List.drop_nil, List.take_zero, List.drop_zero]
    rw [dec4_3 (by omega) (by omega) (by omega) (by omega), h, of8 (show _ = a.toNat by omega), of8 (show _ = b.toNat by omega), of8 (show _ = c.toNat by omega)]; rfl
theorem dec_yes {s : List By} (h : encB (fl 4 dec4 s) = s) : decB s = some (fl 4 dec4 s) := decB_iff.2 h
theorem dec_no {s : List By} (h : ¬ encB (fl 4 dec4 s) = s) : decB s = none := decB_none fun l hl => h (by rw [← hl, fl_dec])
/-! ### lines -/
def ln76 (g : List By) : List By := g ++ [13, 10]
theorem ln_pre (s : List By) : ∀ r, r ≤ 75 → r < s.length → lnB s r = s.take r
  | 0, _, _ => rfl
  | r + 1, h1, h2 => by
    rw [lnB, ln_pre s r (by omega) (by omega), if_neg (by omega), List.take_add_one, List.getD_eq_getElem?_getD, List.getElem?_eq_getElem (by omega)]; rfl
theorem ln_last (s : List By) (h0 : s ≠ []) (h : s.length ≤ 76) : lnB s s.length = s ++ [13, 10] := by
  obtain ⟨r, hr⟩ : ∃ r, s.length = r + 1 := ⟨s.length - 1, by have := List.length_pos_iff.2 h0; omega⟩
  rw [hr, lnB, ln_pre s r (by omega) (by omega), if_pos (.inr hr.symm)]
  have e : s = s.take r ++ [s.getD r 0] := by
    have e2 : s.take (r + 1) = s := List.take_of_length_le (by omega)
    conv => lhs; rw [← e2]
    rw [List.take_add_one, List.getD_eq_getElem?_getD, List.getElem?_eq_getElem (by omega)]; rfl
  conv => rhs; rw [e]
  simp
theorem ln_76 (s : List By) (h : 76 ≤ s.length) : lnB s 76 = s.take 76 ++ [13, 10] := by
  have e : s.take 76 = s.take 75 ++ [s.getD 75 0] := by
    rw [show (76 : Nat) = 75 + 1 from rfl, List.take_add_one, List.getD_eq_getElem?_getD, List.getElem?_eq_getElem (by omega)]; rfl
  rw [e, show (76 : Nat) = 75 + 1 from rfl, lnB, ln_pre s 75 (by omega) (by omega), if_pos (.inl rfl)]
  simp
theorem ln_add (s : List By) (h : 76 ≤ s.length) : ∀ i, 76 + i ≤ s.length → lnB s (76 + i) = lnB s 76 ++ lnB (s.drop 76) i
  | 0, _ => by simp [lnB]
  | i + 1, hi => by
    rw [show 76 + (i + 1) = (76 + i) + 1 from rfl, lnB, ln_add s h i (by omega), lnB, List.append_assoc]
    congr 3
    · simp [List.getD_eq_getElem?_getD, List.getElem?_drop]
    · rw [List.length_drop, show (76 + i) % 76 = i % 76 by omega]
      by_cases hc : i % 76 = 75 ∨ 76 + i + 1 = s.length
      · rw [if_pos hc, if_pos (by omega)]
      · rw [if_neg hc, if_neg (by omega)]
theorem fl_ln (s : List By) : fl 76 ln76 s = lnB s s.length := by
  generalize hn : s.length = n
  induction n using Nat.strongRecOn generalizing s with
  | _ n ih =>
    by_cases h0 : s = []
    · subst h0
      rw [fl_nil (by decide)]
      subst hn; rfl
    · have hp := List.length_pos_iff.2 h0
      rw [fl_step (by decide) _ h0]
      by_cases h : s.length ≤ 76
      · rw [List.drop_eq_nil_of_le h, fl_nil (by decide), List.take_of_length_le h, ← hn, ln_last s h0 h, List.append_nil]; rfl
      · rw [ih (n - 76) (by omega) (s.drop 76) (by rw [List.length_drop]; omega), ← hn, show s.length = 76 + (s.length - 76) by omega, ln_add s (by omega) _ (by omega), ln_76 s (by omega), show 76 + (s.length - 76) - 76 = s.length - 76 by omega]; rfl
theorem fl_lines (l : List By) : fl 76 ln76 (encB l) = linesB l := fl_ln _
end Arm
end Go.Proofs.Ytdaplnidogkmkaa
