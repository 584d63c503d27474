/-
  Of no statement by itself: the texts LetK, LtD, ArmP, ArmE, ArmD, ArmI, ArmJ, ArmG, QuoB, Slgo, QuoC, TokD, TkE, TkF, TkD, TkG, MibF, MimK, LtE, LtF, LtG, LtH, MibG, MibT, MibH, TkH, TokL, TkI, MibU, MibV, Slja, MimE, MibW, MimO in one.
  Conditions: each theorem's own.
-/
import Derived.Test.YtdabhneehconeaaGreatDoorCd
set_option linter.unusedSimpArgs false
set_option linter.unusedVariables false
/-
  Of no statement by itself: what letter's functions owe (LetterOk); over it: what despatchlaw11's speaks gives.
  Conditions: LetterOk, and each theorem's own.
-/
namespace Go.Proofs.YtdabhneehconeaaGreatDoor
set_option maxRecDepth 10000
open Sl Fld
/-- a mail as an answer -/
structure Lt (A : List Pr) (B : List Bt) where
  f : Sl2
  s : Sl8
  hf : f.l = A
  hs : s.l = B
  nf : f.ad = none → f.l = []
  ns : s.ad = none → s.l = []
def Lt.v {A : List Pr} {B : List Bt} (z : Lt A B) : Value := .agg #[z.f.v, z.s.v]
def Lt.ents {A : List Pr} {B : List Bt} (z : Lt A B) : List Ent := z.f.ents ++ z.s.ents
theorem Lt.wr {A : List Pr} {B : List Bt} (z : Lt A B) : ∀ e ∈ z.ents, e.wr = true := fun e he => by
  rcases List.mem_append.1 he with h | h
  · exact z.f.ents_wr e h
  · exact z.s.ents_wr e h
structure LetterOk : Prop where
  get : ∀ (f : Sl2) (s : Sl8) (nm : List Bt) (w : World), f.ok w → s.ok w → small2 f → f.l.length ≤ 301 → s.l.length ≤ 3000 → nm.length ≤ 200 → Calls Tryz.prog 98 [.agg #[f.v, s.v], Z nm].toArray w fun e w' => e = .returned (.tuple #[Z ((allB nm f.l).headD []), .bool (!(allB nm f.l).isEmpty)]) ∧ Ext w w'
  write : ∀ (f : Sl2) (s : Sl8) (w : World), f.ok w → s.ok w → small2 f → f.l.length ≤ 300 → s.l.length ≤ 3000 → (∀ p ∈ f.l, p.2.length ≤ 9000) → Calls Tryz.prog 15 [.agg #[f.v, s.v]].toArray w fun e w' => ∃ y : { y : Sl8 // y.l = writeO f.l s.l }, e = .returned (.tuple #[y.1.v, N (writeK f.l s.l)]) ∧ Ext w w' ∧ y.1.ok w'
section
variable {n : Nat} {E : Env} {C : World → Prop} {dst : Option Tmp} {ty : TypeId} {pos : String} {aft : Array Edge} {g : Option (Nat × Bool)} {x y : Operand}
end
end Go.Proofs.YtdabhneehconeaaGreatDoor

/-
  Of no statement by itself: what the landed letter's Get, All and Drop give.
  Conditions: each theorem's own.
-/
namespace Go.Proofs.YtdabhneehconeaaGreatDoor
set_option maxRecDepth 10000
open Sl Fld
theorem less_mid {A B : List Ent} (e : Ent) : Less (A ++ B) (A ++ e :: B) := less_of_sub (.append (.refl _) (.cons _ (.refl _)))
structure AllT where
  i : Nat
  o : List (List Bt)
  q : Acc
end Go.Proofs.YtdabhneehconeaaGreatDoor

/-
  Of no statement by itself: signs of groups of three, bytes of groups of four signs, lines by groups of 76: pure, in the shape in which code goes through groups.
  Conditions: none but each lemma's own.
-/
namespace Go.Proofs.YtdabhneehconeaaGreatDoor
namespace Arm
/-- what F gives of each group of k -/
def fl (k : Nat) (F : List By → List By) (l : List By) : List By := (List.range ((l.length + k - 1) / k)).flatMap fun j => F ((l.drop (k * j)).take k)
theorem fl_nil {k : Nat} (hk : 0 < k) (F : List By → List By) : fl k F [] = [] := by
  unfold fl
  rw [List.length_nil, Nat.div_eq_of_lt (by omega)]; rfl
theorem fl_step {k : Nat} (hk : 0 < k) (F : List By → List By) {l : List By} (h : l ≠ []) : fl k F l = F (l.take k) ++ fl k F (l.drop k) := by
  have hp := List.length_pos_iff.2 h
  have e : (l.length + k - 1) / k = ((l.drop k).length + k - 1) / k + 1 := by
    rw [List.length_drop]
    by_cases hle : l.length ≤ k
    · rw [Nat.sub_eq_zero_of_le hle, Nat.zero_add, Nat.div_eq_of_lt (show k - 1 < k by omega)]
      exact Nat.div_eq_of_lt_le (by omega) (by omega)
    · rw [show l.length + k - 1 = (l.length - k + k - 1) + k by omega, Nat.add_div_right _ hk]
  unfold fl
  rw [e, List.range_succ_eq_map, List.flatMap_cons, List.flatMap_map, Nat.mul_zero, List.drop_zero]
  congr 2
  funext j
  rw [List.drop_drop, show k * j.succ = k + k * j by rw [Nat.mul_succ]; omega]
/-! ### signs -/
def pad3 (g : List By) : List By := [g.getD 0 0, g.getD 1 0, g.getD 2 0]
def val3 (g : List By) : Nat := (g.getD 0 0).toNat * 65536 + (g.getD 1 0).toNat * 256 + (g.getD 2 0).toNat
def sgn (g : List By) (i : Nat) : By := if g.length < i then 61 else sg (val3 g / 2 ^ (6 * (3 - i)) % 64)
def sig4 (g : List By) : List By := [sgn g 0, sgn g 1, sgn g 2, sgn g 3]
theorem sig4_is {g : List By} (h0 : g ≠ []) (h3 : g.length ≤ 3) : sig4 g = encB g := by
  match g, h0, h3 with
  | [a], _, _ =>
    have ha := a.isLt
    simp only [sig4, sgn, val3, List.length_cons, List.length_nil, List.getD_cons_zero, List.getD_cons_succ, List.getD_nil, encB]
    simp only [show ¬ (0 + 1 < 0) by omega, show ¬ (0 + 1 < 1) by omega, show (0 + 1 < 2) by omega, show (0 + 1 < 3) by omega, if_true, if_false]
    rw [show (a.toNat * 65536 + (0 : By).toNat * 256 + (0 : By).toNat) / 2 ^ (6 * (3 - 0)) % 64 = a.toNat / 4 by simp; omega,
      show (a.toNat * 65536 + (0 : By).toNat * 256 + (0 : By).toNat) / 2 ^ (6 * (3 - 1)) % 64 = a.toNat % 4 * 16 by simp; omega]
  | [a, b], _, _ =>
    have ha := a.isLt
    have hb := b.isLt
    simp only [sig4, sgn, val3, List.length_cons, List.length_nil, List.getD_cons_zero, List.getD_cons_succ, List.getD_nil, encB]
    simp only [show ¬ (0 + 1 + 1 < 0) by omega, show ¬ (0 + 1 + 1 < 1) by omega, show ¬ (0 + 1 + 1 < 2) by omega, show (0 + 1 + 1 < 3) by omega, if_true, if_false]
    rw [show (a.toNat * 65536 + b.toNat * 256 + (0 : By).toNat) / 2 ^ (6 * (3 - 0)) % 64 = a.toNat / 4 by simp; omega,
      show (a.toNat * 65536 + b.toNat * 256 + (0 : By).toNat) / 2 ^ (6 * (3 - 1)) % 64 = a.toNat % 4 * 16 + b.toNat / 16 by simp; omega,
      show (a.toNat * 65536 + b.toNat * 256 + (0 : By).toNat) / 2 ^ (6 * (3 - 2)) % 64 = b.toNat % 16 * 4 by simp; omega]
  | [a, b, c], _, _ =>
    have ha := a.isLt
    have hb := b.isLt
    have hc := c.isLt
    rw [encB3]
    simp only [sig4, sgn, val3, List.length_cons, List.length_nil, List.getD_cons_zero, List.getD_cons_succ, List.getD_nil, encB]
    simp only [show ¬ (0 + 1 + 1 + 1 < 0) by omega, show ¬ (0 + 1 + 1 + 1 < 1) by omega, show ¬ (0 + 1 + 1 + 1 < 2) by omega, show ¬ (0 + 1 + 1 + 1 < 3) by omega, if_false]
    rw [show (a.toNat * 65536 + b.toNat * 256 + c.toNat) / 2 ^ (6 * (3 - 0)) % 64 = a.toNat / 4 by simp; omega,
      show (a.toNat * 65536 + b.toNat * 256 + c.toNat) / 2 ^ (6 * (3 - 1)) % 64 = a.toNat % 4 * 16 + b.toNat / 16 by simp; omega,
      show (a.toNat * 65536 + b.toNat * 256 + c.toNat) / 2 ^ (6 * (3 - 2)) % 64 = b.toNat % 16 * 4 + c.toNat / 64 by simp; omega,
      show (a.toNat * 65536 + b.toNat * 256 + c.toNat) / 2 ^ (6 * (3 - 3)) % 64 = c.toNat % 64 by simp; omega]
theorem fl_enc (l : List By) : fl 3 sig4 l = encB l := by
  refine by3 (p := fun l => fl 3 sig4 l = encB l) (by rw [fl_nil (by decide)]; rfl) (fun a => ?_) (fun a b => ?_) (fun a b c r h => ?_) l
  · rw [fl_step (by decide) _ (by simp), show [a].drop 3 = [] from rfl, fl_nil (by decide), show [a].take 3 = [a] from rfl, sig4_is (by simp) (by simp), List.append_nil]
  · rw [fl_step (by decide) _ (by simp), show [a, b].drop 3 = [] from rfl, fl_nil (by decide), show [a, b].take 3 = [a, b] from rfl, sig4_is (by simp) (by simp), List.append_nil]
  · rw [fl_step (by decide) _ (by simp), show (a :: b :: c :: r).drop 3 = r from rfl, h, show (a :: b :: c :: r).take 3 = [a, b, c] from rfl, sig4_is (by simp) (by simp), encB3, encB3]
    rfl
theorem sgn_bits (g : List By) (i : Nat) : (((((g.getD 0 0).setWidth 32 <<< 16) ||| ((g.getD 1 0).setWidth 32 <<< 8)) ||| (g.getD 2 0).setWidth 32) >>> i &&& 63#32).toNat = val3 g / 2 ^ i % 64 := by
  unfold val3
  generalize g.getD 0 0 = a, g.getD 1 0 = b, g.getD 2 0 = c
  have ha := a.isLt
  have hb := b.isLt
  have hc := c.isLt
  rw [BitVec.toNat_and, BitVec.toNat_ushiftRight, BitVec.toNat_or, BitVec.toNat_or, BitVec.toNat_shiftLeft, BitVec.toNat_shiftLeft, BitVec.toNat_setWidth, BitVec.toNat_setWidth, BitVec.toNat_setWidth]
  rw [Nat.mod_eq_of_lt (show a.toNat < 2 ^ 32 by omega), Nat.mod_eq_of_lt (show b.toNat < 2 ^ 32 by omega), Nat.mod_eq_of_lt (show c.toNat < 2 ^ 32 by omega)]
  rw [Nat.mod_eq_of_lt (show a.toNat <<< 16 < 2 ^ 32 by rw [Nat.shiftLeft_eq]; omega), Nat.mod_eq_of_lt (show b.toNat <<< 8 < 2 ^ 32 by rw [Nat.shiftLeft_eq]; omega)]
  have e1 : a.toNat <<< 16 ||| b.toNat <<< 8 = (a.toNat * 256 + b.toNat) <<< 8 := by
    rw [← Nat.shiftLeft_add_eq_or_of_lt (by rw [Nat.shiftLeft_eq]; omega)]
    simp only [Nat.shiftLeft_eq]; omega
  rw [e1, ← Nat.shiftLeft_add_eq_or_of_lt (by omega)]
  rw [show (63#32).toNat = 2 ^ 6 - 1 from rfl, Nat.and_two_pow_sub_one_eq_mod, Nat.shiftRight_eq_div_pow, Nat.shiftLeft_eq]
  rw [show (a.toNat * 256 + b.toNat) * 2 ^ 8 + c.toNat = a.toNat * 65536 + b.toNat * 256 + c.toNat by omega]
/-! ### bytes -/
/-- a sign's number: nought for what is none -/
def pl (c : By) : Nat := ((List.range 64).find? fun i => sgL.getD i 0 == c).getD 0
theorem pl_sg : ∀ m : Fin 64, pl (sg m.val) = m.val := by decide +kernel
theorem sg_61' : ∀ m : Fin 64, ¬ sg m.val = 61#8 := by decide +kernel
theorem sg_61 {m : Nat} (h : m < 64) : ¬ sg m = 61#8 := sg_61' ⟨m, h⟩
theorem pl_lt (c : By) : pl c < 64 := by
  unfold pl
  cases h : (List.range 64).find? fun i => sgL.getD i 0 == c with
  | none => decide
  | some i => simpa using List.mem_of_find?_eq_some h
/-- the number that the first i signs of a group tell -/
def acc (g : List By) : Nat → Nat
  | 0 => 0
  | i + 1 => acc g i + pl (g.getD i 0) * 2 ^ (6 * (3 - i))
def lead (g : List By) : Nat := (g.takeWhile (· != 61)).length
def dec4 (g : List By) : List By := (List.range (lead g - 1)).map fun i => BitVec.ofNat 8 (acc g (lead g) / 2 ^ (8 * (2 - i)))
theorem acc_ok (g : List By) {i : Nat} (hi : i ≤ 4) : acc g i < 2 ^ 24 ∧ acc g i % 2 ^ (6 * (4 - i)) = 0 := by
  have p0 := pl_lt (g.getD 0 0)
  have p1 := pl_lt (g.getD 1 0)
  have p2 := pl_lt (g.getD 2 0)
  have p3 := pl_lt (g.getD 3 0)
  match i, hi with
  | 0, _ => simp [acc]
  | 1, _ => simp only [acc]; omega
  | 2, _ => simp only [acc]; omega
  | 3, _ => simp only [acc]; omega
  | 4, _ => simp only [acc]; omega
theorem acc_bits (g : List By) {i : Nat} (hi : i < 4) : BitVec.ofNat 32 (acc g i) ||| (BitVec.ofNat 32 (pl (g.getD i 0)) <<< (6 * (3 - i))) = BitVec.ofNat 32 (acc g (i + 1)) := by
  obtain ⟨h1, h2⟩ := acc_ok g (i := i) (by omega)
  have h3 := (acc_ok g (i := i + 1) (by omega)).1
  have hp := pl_lt (g.getD i 0)
  have he : 2 ^ (6 * (4 - i)) = 64 * 2 ^ (6 * (3 - i)) := by rw [show 6 * (4 - i) = 6 + 6 * (3 - i) by omega, Nat.pow_add]
  have hlt : pl (g.getD i 0) * 2 ^ (6 * (3 - i)) < 2 ^ (6 * (4 - i)) := by rw [he]; exact Nat.mul_lt_mul_of_pos_right hp (Nat.two_pow_pos _)
  have hle : 2 ^ (6 * (4 - i)) ≤ 2 ^ 24 := Nat.pow_le_pow_right (by decide) (by omega)
  apply BitVec.eq_of_toNat_eq
  rw [BitVec.toNat_or, BitVec.toNat_shiftLeft, BitVec.toNat_ofNat, BitVec.toNat_ofNat, BitVec.toNat_ofNat, Nat.mod_eq_of_lt (show acc g i < 2 ^ 32 by omega), Nat.mod_eq_of_lt (show pl (g.getD i 0) < 2 ^ 32 by omega), Nat.mod_eq_of_lt (show acc g (i + 1) < 2 ^ 32 by omega)]
  rw [Nat.shiftLeft_eq, Nat.mod_eq_of_lt (show pl (g.getD i 0) * 2 ^ (6 * (3 - i)) < 2 ^ 32 by omega)]
  have hb : acc g i = (acc g i / 2 ^ (6 * (4 - i))) <<< (6 * (4 - i)) := by
    rw [Nat.shiftLeft_eq]
    have := Nat.div_add_mod (acc g i) (2 ^ (6 * (4 - i)))
    rw [h2, Nat.mul_comm] at this
    omega
  rw [hb, ← Nat.shiftLeft_add_eq_or_of_lt hlt, ← hb]
  rfl
theorem byte_bits {n k : Nat} (h : n < 2 ^ 32) : (BitVec.ofNat 32 n >>> k).setWidth 8 = BitVec.ofNat 8 (n / 2 ^ k) := by
  apply BitVec.eq_of_toNat_eq
  rw [BitVec.toNat_setWidth, BitVec.toNat_ushiftRight, BitVec.toNat_ofNat, BitVec.toNat_ofNat, Nat.mod_eq_of_lt h, Nat.shiftRight_eq_div_pow]
theorem range3 : List.range 3 = [0, 1, 2] := rfl
theorem dec4_3 {p q r s : Nat} (hp : p < 64) (hq : q < 64) (hr : r < 64) (hs : s < 64) : dec4 [sg p, sg q, sg r, sg s] = [BitVec.ofNat 8 (p * 4 + q / 16), BitVec.ofNat 8 (q % 16 * 16 + r / 4), BitVec.ofNat 8 (r % 4 * 64 + s)] := by
  have e : lead [sg p, sg q, sg r, sg s] = 4 := by
    simp [lead, List.takeWhile_cons, sg_61 hp, sg_61 hq, sg_61 hr, sg_61 hs]
  unfold dec4
  rw [e]
  simp only [acc, List.getD_cons_zero, List.getD_cons_succ, pl_sg ⟨p, hp⟩, pl_sg ⟨q, hq⟩, pl_sg ⟨r, hr⟩, pl_sg ⟨s, hs⟩, range3, List.map_cons, List.map_nil, Nat.add_one_sub_one]
  congr 1
  · apply BitVec.eq_of_toNat_eq; simp only [BitVec.toNat_ofNat]; omega
  congr 1
  · apply BitVec.eq_of_toNat_eq; simp only [BitVec.toNat_ofNat]; omega
  congr 1
  · apply BitVec.eq_of_toNat_eq; simp only [BitVec.toNat_ofNat]; omega
theorem dec4_2 {p q r : Nat} (hp : p < 64) (hq : q < 64) (hr : r < 64) : dec4 [sg p, sg q, sg r, 61] = [BitVec.ofNat 8 (p * 4 + q / 16), BitVec.ofNat 8 (q % 16 * 16 + r / 4)] := by
  have e : lead [sg p, sg q, sg r, 61] = 3 := by
    simp [lead, List.takeWhile_cons, sg_61 hp, sg_61 hq, sg_61 hr]
  unfold dec4
  rw [e]
  simp only [acc, List.getD_cons_zero, List.getD_cons_succ, pl_sg ⟨p, hp⟩, pl_sg ⟨q, hq⟩, pl_sg ⟨r, hr⟩, show List.range (3 - 1) = [0, 1] from rfl, List.map_cons, List.map_nil]
  congr 1
  · apply BitVec.eq_of_toNat_eq; simp only [BitVec.toNat_ofNat]; omega
  congr 1
  · apply BitVec.eq_of_toNat_eq; simp only [BitVec.toNat_ofNat]; omega
theorem dec4_1 {p q : Nat} (hp : p < 64) (hq : q < 64) : dec4 [sg p, sg q, 61, 61] = [BitVec.ofNat 8 (p * 4 + q / 16)] := by
  have e : lead [sg p, sg q, 61, 61] = 2 := by
    simp [lead, List.takeWhile_cons, sg_61 hp, sg_61 hq]
  unfold dec4
  rw [e]
  simp only [acc, List.getD_cons_zero, List.getD_cons_succ, pl_sg ⟨p, hp⟩, pl_sg ⟨q, hq⟩, show List.range (2 - 1) = [0] from rfl, List.map_cons, List.map_nil]
  congr 1
  · apply BitVec.eq_of_toNat_eq; simp only [BitVec.toNat_ofNat]; omega
theorem fl_dec (l : List By) : fl 4 dec4 (encB l) = l := by
  refine by3 (p := fun l => fl 4 dec4 (encB l) = l) (by rw [encB, fl_nil (by decide)]) (fun a => ?_) (fun a b => ?_) (fun a b c r h => ?_) l
  · have ha := a.isLt
    rw [encB, fl_step (by decide) _ (by simp)]
    simp only [List.take_succ_cons, List.take_nil, List.drop_succ_cons, List.drop_nil, List.take_zero, List.drop_zero]
    rw [dec4_1 (by omega) (by omega), fl_nil (by decide), of8 (show _ = a.toNat by omega)]; rfl
  · have ha := a.isLt
    have hb := b.isLt
    rw [encB, fl_step (by decide) _ (by simp)]
    simp only [List.take_succ_cons, List.take_nil, List.drop_succ_cons, List.drop_nil, List.take_zero, List.drop_zero]
    rw [dec4_2 (by omega) (by omega) (by omega), fl_nil (by decide), of8 (show _ = a.toNat by omega), of8 (show _ = b.toNat by omega)]; rfl
  · have ha := a.isLt
    have hb := b.isLt
    have hc := c.isLt
    rw [encB3, fl_step (by decide) _ (by simp)]
    simp only [List.take_succ_cons, List.take_nil, List.drop_succ_cons, List.drop_nil, List.take_zero, List.drop_zero]
    rw [dec4_3 (by omega) (by omega) (by omega) (by omega), h, of8 (show _ = a.toNat by omega), of8 (show _ = b.toNat by omega), of8 (show _ = c.toNat by omega)]; rfl
theorem dec_yes {s : List By} (h : encB (fl 4 dec4 s) = s) : decB s = some (fl 4 dec4 s) := decB_iff.2 h
theorem dec_no {s : List By} (h : ¬ encB (fl 4 dec4 s) = s) : decB s = none := decB_none fun l hl => h (by rw [← hl, fl_dec])
/-! ### lines -/
def ln76 (g : List By) : List By := g ++ [13, 10]
theorem ln_pre (s : List By) : ∀ r, r ≤ 75 → r < s.length → lnB s r = s.take r
  | 0, _, _ => rfl
  | r + 1, h1, h2 => by
    rw [lnB, ln_pre s r (by omega) (by omega), if_neg (by omega), List.take_add_one, List.getD_eq_getElem?_getD, List.getElem?_eq_getElem (by omega)]; rfl
theorem ln_last (s : List By) (h0 : s ≠ []) (h : s.length ≤ 76) : lnB s s.length = s ++ [13, 10] := by
  obtain ⟨r, hr⟩ : ∃ r, s.length = r + 1 := ⟨s.length - 1, by have := List.length_pos_iff.2 h0; omega⟩
  rw [hr, lnB, ln_pre s r (by omega) (by omega), if_pos (.inr hr.symm)]
  have e : s = s.take r ++ [s.getD r 0] := by
    have e2 : s.take (r + 1) = s := List.take_of_length_le (by omega)
    conv => lhs; rw [← e2]
    rw [List.take_add_one, List.getD_eq_getElem?_getD, List.getElem?_eq_getElem (by omega)]; rfl
  conv => rhs; rw [e]
  simp
theorem ln_76 (s : List By) (h : 76 ≤ s.length) : lnB s 76 = s.take 76 ++ [13, 10] := by
  have e : s.take 76 = s.take 75 ++ [s.getD 75 0] := by
    rw [show (76 : Nat) = 75 + 1 from rfl, List.take_add_one, List.getD_eq_getElem?_getD, List.getElem?_eq_getElem (by omega)]; rfl
  rw [e, show (76 : Nat) = 75 + 1 from rfl, lnB, ln_pre s 75 (by omega) (by omega), if_pos (.inl rfl)]
  simp
theorem ln_add (s : List By) (h : 76 ≤ s.length) : ∀ i, 76 + i ≤ s.length → lnB s (76 + i) = lnB s 76 ++ lnB (s.drop 76) i
  | 0, _ => by simp [lnB]
  | i + 1, hi => by
    rw [show 76 + (i + 1) = (76 + i) + 1 from rfl, lnB, ln_add s h i (by omega), lnB, List.append_assoc]
    congr 3
    · simp [List.getD_eq_getElem?_getD, List.getElem?_drop]
    · rw [List.length_drop, show (76 + i) % 76 = i % 76 by omega]
      by_cases hc : i % 76 = 75 ∨ 76 + i + 1 = s.length
      · rw [if_pos hc, if_pos (by omega)]
      · rw [if_neg hc, if_neg (by omega)]
theorem fl_ln (s : List By) : fl 76 ln76 s = lnB s s.length := by
  generalize hn : s.length = n
  induction n using Nat.strongRecOn generalizing s with
  | _ n ih =>
    by_cases h0 : s = []
    · subst h0
      rw [fl_nil (by decide)]
      subst hn; rfl
    · have hp := List.length_pos_iff.2 h0
      rw [fl_step (by decide) _ h0]
      by_cases h : s.length ≤ 76
      · rw [List.drop_eq_nil_of_le h, fl_nil (by decide), List.take_of_length_le h, ← hn, ln_last s h0 h, List.append_nil]; rfl
      · rw [ih (n - 76) (by omega) (s.drop 76) (by rw [List.length_drop]; omega), ← hn, show s.length = 76 + (s.length - 76) by omega, ln_add s (by omega) _ (by omega), ln_76 s (by omega), show 76 + (s.length - 76) - 76 = s.length - 76 by omega]; rfl
theorem fl_lines (l : List By) : fl 76 ln76 (encB l) = linesB l := fl_ln _
end Arm
end Go.Proofs.YtdabhneehconeaaGreatDoor

/-
  Of no statement by itself: what the reference's Encode (layer 6) gives.
  Conditions: each theorem's own.
-/
namespace Go.Proofs.YtdabhneehconeaaGreatDoor
set_option maxRecDepth 10000
open Sl Arm
theorem take_one {α : Type} (l : List α) (d : α) {j : Nat} (h : j < l.length) : l.take (j + 1) = l.take j ++ [l.getD j d] := by
  rw [List.take_add_one, List.getD_eq_getElem?_getD, List.getElem?_eq_getElem h]; rfl
end Go.Proofs.YtdabhneehconeaaGreatDoor

/-
  Of no statement by itself: what the reference's Decode, Lines and Read (layer 6) give.
  Conditions: each theorem's own.
-/
namespace Go.Proofs.YtdabhneehconeaaGreatDoor
set_option maxRecDepth 10000
open Sl Arm
section
variable {P : Program} {n : Nat} {E : Env} {C : World → Prop} {dst : Option Tmp} {ty t t' : TypeId} {pos : String} {aft : Array Edge} {g : Option (Nat × Bool)} {x y : Operand}
end
def ecode (o : Option (List Arm.By)) : Nat := match o with | some _ => 0 | none => 3
theorem own_ents {e : TypeId} {b cap : Nat} {Y : List Bt} : Less (Sl8.ents ⟨some ⟨b, 0, none⟩, cap, Y⟩) [⟨b, Sl.Own e 1 Y.length cap (Y.map U8), true⟩] :=
  .keep _ _ _ _ _ _ (fun o h => ⟨Sl.Own.cells o h, by obtain ⟨_, _, _, _, h4⟩ := h; exact h4, rfl⟩) (.nil _)
theorem bare_len (l : List Arm.By) : (bare l).length ≤ l.length := List.length_filter_le ..
end Go.Proofs.YtdabhneehconeaaGreatDoor

/-
  Of no statement by itself: armor's addSigns, encoded and Encode.
  Conditions: each theorem's own.
-/
namespace Go.Proofs.YtdabhneehconeaaGreatDoor
set_option maxRecDepth 10000
open Sl Arm
theorem goes_addSigns : Goes Tryz.prog 143 := ⟨_, Tryz.func143, rfl, by kernel_rfl⟩
theorem goes_encoded : Goes Tryz.prog 88 := ⟨_, Tryz.func88, rfl, by kernel_rfl⟩
theorem goes_aenc : Goes Tryz.prog 48 := ⟨_, Tryz.func48, rfl, by kernel_rfl⟩
theorem pad3_is {g : List Arm.By} (h : g.length ≤ 3) : ([0, 0, 0] : List Arm.By).take 0 ++ g.take (min g.length 3) ++ ([0, 0, 0] : List Arm.By).drop (0 + min g.length 3) = pad3 g := by
  match g, h with
  | [], _ => rfl
  | [a], _ => rfl
  | [a, b], _ => rfl
  | [a, b, c], _ => rfl
theorem sig4_take (g : List Arm.By) {i : Nat} (h : i < 4) : (sig4 g).take (i + 1) = (sig4 g).take i ++ [sgn g i] := by
  match i, h with
  | 0, _ => rfl
  | 1, _ => rfl
  | 2, _ => rfl
  | 3, _ => rfl
theorem part_block {s : Sl8} {w : World} (hs : s.ok w) {k j : Nat} (h : (s.part k j).l ≠ []) {a : Addr} (ha : (s.part k j).ad = some a) : a.block < w.heap.size := (part_ok hs k j).lt h a ha
theorem all8B (l : List Bt) : ∀ v ∈ l.map U8, v.oneCell' = true := by
  intro v hv
  obtain ⟨x, _, rfl⟩ := List.mem_map.1 hv
  rfl
theorem sg_at {v : BitVec 32} {m : Nat} (h : v.toNat = m) (hm : m < 64) : v.toNat < sgL.length ∧ sgL.getD v.toNat 0 = sg m := by
  subst h
  exact ⟨hm, rfl⟩
set_option maxHeartbeats 8000000 in
theorem addSigns_any (b k cap : Nat) (xs : List Bt) (g : Sl8) (w : World) (hg : g.ok w) (h3 : g.l.length ≤ 3) (hne : g.l ≠ [] → ∀ a, g.ad = some a → a.block ≠ b) {o : Obj} (ho : w.heap[b]? = some o) (hA : Sl.Own 5 1 k cap (xs.map U8) o) (hk : k ≤ 1000000000) :
    Calls Tryz.prog 143 [.slice (some ⟨b, 0, none⟩) k cap, g.v].toArray w fun e w' => ∃ q : Nat × Nat, e = .returned (.slice (some ⟨q.1, 0, none⟩) (k + 4) q.2) ∧ Holds w [b] [⟨q.1, Sl.Own 5 1 (k + 4) q.2 ((xs ++ sig4 g.l).map U8), true⟩] w' := by
  refine enter (n := 46) Tryz.func143 rfl rfl rfl (Holds.one ho hA) ?_
  have hrd : ∀ {M : List Ent} w', Holds w [b] M w' → Reads w' g.ad (g.l.map U8) := fun w' hw' => hw'.reads hg.reads (fun h a ha => by simpa using hne (by simpa using h) a ha)
  repeat (first | refine JL.q (by (apply OQ.assign; exact rfl)) rfl ?_ | refine JC.seq ?_ | refine JC.region ?_ | refine JL.nil ?_ | refine JE.next ?_)
  refine JL.alloc (r := ([0, 0, 0] : List Arm.By).map U8) (by kernel_rfl) rfl fun c _ => ?_
  repeat (first | refine JL.q (by first | (apply OQ.slA; exact Tryz.underlying209; exact u8s; exact rfl) | (apply OQ.move; exact rfl)) rfl ?_ | refine JC.seq ?_ | refine JC.region ?_ | refine JL.nil ?_ | refine JE.next ?_)
  refine JL.copy (r' := (pad3 g.l).map U8) (cs := g.l.map U8) (M' := [⟨c, Row 209 ((pad3 g.l).map U8), true⟩, ⟨b, Sl.Own 5 1 k cap (xs.map U8), true⟩]) Tryz.underlying22 u8s rfl rfl .here (by simp) (fun w' hw' => hrd w' hw') (all8B _) (by simp; omega) (by rw [← List.map_take, ← List.map_drop, ← List.map_take, ← List.map_append, ← List.map_append, pad3_is h3]) rfl ?_
  repeat (first | refine JL.q (by first | (apply OQ.load; exact u8c; exact rfl; exact .here; exact (Row.cell (v := U8 (g.l.getD 0 0)) rfl)) | (apply OQ.load; exact u8c; exact rfl; exact .here; exact (Row.cell (v := U8 (g.l.getD 1 0)) rfl)) | (apply OQ.load; exact u8c; exact rfl; exact .here; exact (Row.cell (v := U8 (g.l.getD 2 0)) rfl)) | (apply OQ.move; exact rfl) | (apply OQ.assign; exact rfl) | (apply OQ.or32; exact rfl; exact rfl) | (apply OQ.shl32; exact rfl; exact rfl) | (apply OQ.conv8_32; exact rfl; exact rfl; exact rfl) | (apply OQ.idxA0; exact rfl; exact rfl; exact rfl; exact rfl; exact (by (try simp only []); omega))) rfl ?_ | refine JC.seq ?_ | refine JC.region ?_ | refine JC.block ?_ | refine JL.nil ?_ | refine JE.next ?_)
  have hn := sgn_bits g.l
  generalize (((g.l.getD 0 0).setWidth 32 <<< 16) ||| ((g.l.getD 1 0).setWidth 32 <<< 8)) ||| (g.l.getD 2 0).setWidth 32 = nn at hn ⊢
  have hsg : ∀ i, i < 4 → ¬ g.l.length < i → (nn >>> (6 * (3 - i)) &&& 63#32).toNat < sgL.length ∧ sgL.getD (nn >>> (6 * (3 - i)) &&& 63#32).toNat 0 = sgn g.l i := fun i _ hlen => by
    have := sg_at (hn (6 * (3 - i))) (Nat.mod_lt _ (by decide))
    refine ⟨this.1, this.2.trans ?_⟩
    rw [sgn, if_neg hlen]
  have hfl : ∀ i, g.l.length < i → sgn g.l i = 61 := fun i h => by rw [sgn, if_pos h]
  clear hn
  skip
  refine JC.loop (fun q : Nat × Nat × Nat => [(0, .slice (some ⟨q.2.1, 0, none⟩) (k + q.1) q.2.2), (1, g.v), (6, U32 nn), (24, N q.1)])
    (fun q => [⟨q.2.1, Sl.Own 5 1 (k + q.1) q.2.2 ((xs ++ (sig4 g.l).take q.1).map U8), true⟩])
    (fun q => 4 - q.1) (fun q => q.1 ≤ 4) (0, b, cap) (by show 0 ≤ 4; omega) (by repeat (first | exact SubE.nil | refine SubE.cons _ _ _ rfl ?_)) (.drop _ _ _ (.keep _ _ _ _ _ _ (fun o h => by simpa using h) (.nil _))) ?_
  rintro ⟨i, b', cap'⟩ hi
  simp only at hi
  dsimp only
  repeat (first | refine JL.q (by (apply OQ.lssN; exact rfl; exact rfl)) rfl ?_ | refine JC.seq ?_ | refine JC.region ?_ | refine JL.nil ?_ | refine JE.next ?_)
  refine JC.cond rfl (fun h => ?_) (fun h => ?_)
  · have hi' : i < 4 := of_decide_eq_true h
    clear h hi
    have eS := sig4_take g.l hi'
    have hs := hsg i hi'
    generalize (sig4 g.l).take i = T at eS ⊢
    repeat (first | refine JL.q (by first | (apply OQ.move; exact rfl) | (apply OQ.assign; exact rfl) | (apply OQ.len; exact rfl; exact rfl) | (apply OQ.gtrN; exact rfl; exact rfl)) rfl ?_ | refine JC.seq ?_ | refine JC.region ?_ | refine JC.block ?_ | refine JC.skip ?_ | refine JL.nil ?_ | refine JE.next ?_)
    refine JC.cond rfl (fun h => ?_) (fun h => ?_)
    · have hlt : g.l.length < i := of_decide_eq_true h
      clear h
      rw [hfl i hlt] at eS
      repeat (first | refine JL.q (by (apply OQ.move; exact rfl)) rfl ?_ | refine JC.seq ?_ | refine JC.region ?_)
      refine JL.push1 (xs := (xs ++ T).map U8) (v := U8 61) (fun b'' cap'' => [⟨b'', Sl.Own 5 1 (k + i + 1) cap'' ((xs ++ T).map U8 ++ [U8 61]), true⟩]) Tryz.underlying22 u8e rfl rfl rfl rfl (fun _ => rfl) (by intro _ _; repeat (first | exact Repl.here | apply Repl.there)) (by omega) (by omega) rfl rfl fun bl b'' cap'' => ?_
      repeat (first | refine JL.q (by first | (apply OQ.move; exact rfl) | (apply OQ.assign; exact rfl) | (apply OQ.addN; exact rfl; exact rfl; exact (by (try simp only []); omega))) rfl ?_ | refine JC.region ?_ | refine JC.exit ?_ | refine JL.nil ?_ | refine JE.next ?_ | refine JE.then_exit ?_ | refine JE.blk_hit ?_)
      refine JE.again (i := (i, b', cap')) (i + 1, b'', cap'') (by show i + 1 ≤ 4; omega) (by show 4 - (i + 1) < 4 - i; omega) (by repeat (first | exact SubE.nil | refine SubE.cons _ _ _ rfl ?_)) (.keep _ _ _ _ _ _ (fun o h => ?_) (.nil _))
      dsimp only
      rw [eS, ← List.append_assoc, List.map_append]
      exact h
    · have hlt : ¬ g.l.length < i := of_decide_eq_false h
      clear h
      obtain ⟨hs1, hs2⟩ := hs hlt
      rw [← hs2] at eS
      repeat (first | refine JL.q (by first | (apply OQ.and32 (b := 63#32); exact rfl; exact rfl) | (apply OQ.idxZ (l := sgL); exact Tryz.underlying9; exact rfl; exact rfl; exact hs1) | (apply OQ.move; exact rfl) | (apply OQ.shr32; exact rfl; exact rfl) | (apply OQ.subN; exact rfl; exact rfl; exact (by (try simp only []); omega); exact (by (try simp only []); omega)) | (apply OQ.mulN; exact rfl; exact rfl; exact (by (try simp only []); omega))) rfl ?_ | refine JC.region ?_ | refine JC.skip ?_ | refine JE.next ?_)
      refine JL.push1 (xs := (xs ++ T).map U8) (fun b'' cap'' => [⟨b'', Sl.Own 5 1 (k + i + 1) cap'' ((xs ++ T).map U8 ++ [U8 (sgL.getD (nn >>> (6 * (3 - i)) &&& 63#32).toNat 0)]), true⟩]) Tryz.underlying22 u8e rfl rfl rfl rfl (fun _ => rfl) (by intro _ _; repeat (first | exact Repl.here | apply Repl.there)) (by omega) (by omega) rfl rfl fun bl b'' cap'' => ?_
      repeat (first | refine JL.q (by first | (apply OQ.move; exact rfl) | (apply OQ.assign; exact rfl) | (apply OQ.addN; exact rfl; exact rfl; exact (by (try simp only []); omega))) rfl ?_ | refine JC.region ?_ | refine JL.nil ?_ | refine JE.next ?_ | refine JE.blk_normal ?_)
      refine JE.again (i := (i, b', cap')) (i + 1, b'', cap'') (by show i + 1 ≤ 4; omega) (by show 4 - (i + 1) < 4 - i; omega) (by repeat (first | exact SubE.nil | refine SubE.cons _ _ _ rfl ?_)) (.keep _ _ _ _ _ _ (fun o h => ?_) (.nil _))
      dsimp only
      rw [eS, ← List.append_assoc, List.map_append]
      exact h
  · have hi' : ¬ i < 4 := of_decide_eq_false h
    obtain rfl : i = 4 := by omega
    clear h hi hi'
    repeat (first | refine JL.q (by first | (apply OQ.move; exact rfl) | (apply OQ.assign; exact rfl)) rfl ?_ | refine JC.seq ?_ | refine JC.region ?_ | refine JC.exit ?_ | refine JL.nil ?_ | refine JE.next ?_ | refine JE.then_exit ?_ | refine JE.blk_hit ?_)
    refine JC.ret (JE.ret1 rfl (RV.tmp rfl) ?_)
    exact fun w' hw => ⟨(b', cap'), rfl, hw⟩
theorem armU : szT Tryz.prog 22 = some 1 := by kernel_rfl
theorem armC : scal Tryz.prog 22 = true := by kernel_rfl
theorem row_cells {e : TypeId} {l : List Value} : ∀ o, Row e l o → o.isCells = true := by rintro o rfl; rfl
theorem own_cells {e : TypeId} {k cap : Nat} {l : List Value} : ∀ o, Sl.Own e 1 k cap l o → o.isCells = true := by rintro o ⟨_, rfl, _⟩; rfl
theorem snoc4 (s : Sl8) (k : Nat) (pre : List Nat) (j : Nat) : (pre ++ [j]).flatMap (fun j => sig4 (s.part k j).l) = pre.flatMap (fun j => sig4 (s.part k j).l) ++ sig4 (s.part k j).l := by simp
set_option maxHeartbeats 8000000 in
theorem encoded_any (s : Sl8) (w : World) (hs : s.ok w) (hl : s.l.length ≤ 100000) : Calls Tryz.prog 88 [s.v].toArray w
    fun e w' => ∃ x : Sl8, e = .returned x.v ∧ Ans x (encB s.l) ∧ Holds w [] x.ents w' := by
  have hp3 : parts s 3 ≤ 100000 := by unfold parts; omega
  refine enterM (n := 18) Tryz.func88 rfl rfl rfl (Holds.start w []) ?_
  repeat (first | refine JL.q (by first | (apply OQ.move; exact rfl) | (apply OQ.assign; exact rfl) | (apply OQ.len; exact rfl; exact rfl) | (apply OQ.addN; exact rfl; exact rfl; exact (by (try simp only []); omega)) | (apply OQ.mulN; exact rfl; exact rfl; exact (by (try simp only []); omega)) | (apply OQ.quoN; exact rfl; exact rfl; exact (by (try simp only []); omega); exact (by (try simp only []); omega))) rfl ?_ | refine JC.seq ?_ | refine JC.region ?_ | refine JL.nil ?_ | refine JE.next ?_)
  refine JL.make0 (c := (s.l.length / 3 + 1) * 4) Tryz.underlying22 u8e rfl rfl (by omega) rfl fun b _ => ?_
  refine JL.alloc (r := [.slice none 0 0]) (by kernel_rfl) rfl fun tb _ => ?_
  refine JL.store_eq (r' := [.slice (some ⟨b, 0, none⟩) 0 ((s.l.length / 3 + 1) * 4)]) (M' := [⟨tb, Row 22 [.slice (some ⟨b, 0, none⟩) 0 ((s.l.length / 3 + 1) * 4)], true⟩, ⟨b, Sl.Own 5 1 0 ((s.l.length / 3 + 1) * 4) [], true⟩]) armU rfl rfl rfl rfl .here (by decide) rfl ?_
  repeat (first | refine JL.q (by (apply OQ.move; exact rfl)) rfl ?_ | refine JC.seq ?_ | refine JC.region ?_ | refine JL.nil ?_ | refine JE.next ?_)
  refine JL.callg (ι := Nat × Nat) (fun q => .func (.func 197) #[] #[Pt q.1 0, Pt q.2 0]) (fun q => [⟨q.2, Row 3 [N 3], true⟩, ⟨q.1, Row 22 [s.v], true⟩]) goes_groups rfl rfl (by rintro q e he; simp at he; rcases he with rfl | rfl <;> rfl) (fun w' _ => groups_any s 3 w') ?_
  rintro ⟨b1, b2⟩
  dsimp only
  repeat (first | refine JC.block ?_ | refine JL.nil ?_ | refine JE.next ?_)
  refine JC.range (ι := Nat × Nat × List Nat) (fun j => (s.part 3 j).v) [b1, b2] (fun xs => xs = List.range (parts s 3)) (fun _ => True) (parts s 3)
    (fun q => [⟨b2, Row 3 [N 3], false⟩, ⟨b1, Row 22 [s.v], false⟩, ⟨tb, Row 22 [.slice (some ⟨q.1, 0, none⟩) (4 * q.2.2.length) q.2.1], true⟩, ⟨q.1, Sl.Own 5 1 (4 * q.2.2.length) q.2.1 ((q.2.2.flatMap fun j => sig4 (s.part 3 j).l).map U8), true⟩])
    (fun pre q => q.2.2 = pre) rfl (enters_of Tryz.func197 (by kernel_rfl) rfl) ?hseq ?hcell ?hL (b, (s.l.length / 3 + 1) * 4, []) rfl ?hM rfl rfl ?hbody ?hdone
  case hseq =>
    intro W hW
    obtain ⟨o1, h1, h1'⟩ := hW.get (b := b1) (A := Row 22 [s.v]) (wr := true) (by repeat (first | exact Has.here | apply Has.there))
    obtain ⟨o2, h2, h2'⟩ := hW.get (b := b2) (A := Row 3 [N 3]) (wr := true) (by repeat (first | exact Has.here | apply Has.there))
    exact groups_stops s 3 b1 b2 (by decide) hs.len (by omega) W h1 (Row.cell rfl _ h1') h2 (Row.cell rfl _ h2')
  case hcell =>
    rintro q e he o hA
    simp only [List.mem_cons, List.not_mem_nil, or_false] at he
    rcases he with rfl | rfl | rfl | rfl
    · exact row_cells o hA
    · exact row_cells o hA
    · exact row_cells o hA
    · exact own_cells o hA
  case hL =>
    intro q k hk
    simp only [List.mem_cons, List.not_mem_nil, or_false] at hk
    rcases hk with rfl | rfl
    · exact .inr ⟨_, (by repeat (first | exact Has.here | apply Has.there))⟩
    · exact .inr ⟨_, (by repeat (first | exact Has.here | apply Has.there))⟩
  case hM =>
    intro w' hw'
    exact hw'.weak2 (.keep _ _ _ _ _ _ _ (fun _ h => h) (by simp) (.keep _ _ _ _ _ _ _ (fun _ h => h) (by simp) (.keep _ _ _ _ _ _ _ (fun _ h => h) (by simp) (.keep _ _ _ _ _ _ _ (fun _ h => h) (by simp) (.nil _)))))
  case hbody =>
    rintro l pre j ⟨b', cap', pre'⟩ w1 rfl hlt hx hge
    dsimp only at hlt hge ⊢
    repeat (first | refine JL.q (by first | (apply OQ.load; exact armC; exact rfl; exact (by repeat (first | exact Has.here | apply Has.there)); exact (Row.cell rfl)) | (apply OQ.move; exact rfl)) rfl ?_ | refine JR.block ?_ | refine JR.region rfl (by first | with_reducible exact lo_roundQ | with_reducible exact lo_then lo_roundQ | with_reducible exact lo_blk lo_roundQ | with_reducible exact lo_then (lo_blk lo_roundQ) | with_reducible exact lo_roundX | with_reducible exact lo_then lo_roundX | with_reducible exact lo_blk lo_roundX | with_reducible exact lo_then (lo_blk lo_roundX) | with_reducible exact lo_then (lo_then (lo_blk lo_roundX))) ?_)
    refine JL.call (ι := Nat × Nat) (fun q => .slice (some ⟨q.1, 0, none⟩) (4 * pre'.length + 4) q.2) (fun q => [⟨b2, Row 3 [N 3], false⟩, ⟨b1, Row 22 [s.v], false⟩, ⟨tb, Row 22 [.slice (some ⟨b', 0, none⟩) (4 * pre'.length) cap'], true⟩, ⟨q.1, Sl.Own 5 1 (4 * pre'.length + 4) q.2 ((pre'.flatMap (fun j => sig4 (s.part 3 j).l) ++ sig4 (s.part 3 j).l).map U8), true⟩]) goes_addSigns rfl rfl ?_ ?_
    · intro w' hw'
      obtain ⟨o, ho, hA⟩ := hw'.get (b := b') (wr := true) (A := Sl.Own 5 1 (4 * pre'.length) cap' ((pre'.flatMap fun j => sig4 (s.part 3 j).l).map U8)) (by repeat (first | exact Has.here | apply Has.there))
      have hok := hs.ext (hw'.rebound hx hge)
      refine (addSigns_any b' _ cap' _ (s.part 3 j) w' (part_ok hok 3 j) (by show (List.take _ _).length ≤ 3; rw [List.length_take]; omega) ?_ ho hA (by omega)).mono ?_
      · intro hne a ha
        have := hge b' (by simp [wrs])
        have := part_block hs hne ha
        omega
      · rintro e w2 ⟨q, rfl, h2⟩
        exact ⟨q, rfl, hw'.relay (by repeat (first | exact Repl.here | apply Repl.there)) h2⟩
    rintro ⟨b'', cap''⟩
    dsimp only
    refine JL.store_eq (r' := [.slice (some ⟨b'', 0, none⟩) (4 * pre'.length + 4) cap'']) (M' := [⟨b2, Row 3 [N 3], false⟩, ⟨b1, Row 22 [s.v], false⟩, ⟨tb, Row 22 [.slice (some ⟨b'', 0, none⟩) (4 * pre'.length + 4) cap''], true⟩, ⟨b'', Sl.Own 5 1 (4 * pre'.length + 4) cap'' ((pre'.flatMap (fun j => sig4 (s.part 3 j).l) ++ sig4 (s.part 3 j).l).map U8), true⟩]) armU rfl rfl rfl rfl (by repeat (first | exact Upd.here | apply Upd.there)) (by simp) rfl ?_
    repeat (first | refine JL.nil ?_ | with_reducible refine JE.blk_normal ?_)
    refine JE.round (b'', cap'', pre' ++ [j]) rfl ?_
    dsimp only
    rw [snoc4, List.length_append, List.length_singleton, Nat.mul_add]
    exact Less.refl _
  case hdone =>
    rintro D xs ⟨b', cap', pre⟩ rfl rfl
    dsimp only
    have e : (List.range (parts s 3)).flatMap (fun j => sig4 (s.part 3 j).l) = encB s.l := fl_enc s.l
    rw [e, List.length_range]
    have e2 : 4 * parts s 3 = (encB s.l).length := by rw [encB_len]; unfold parts; omega
    rw [e2]
    repeat (first | refine KL.q (by first | (apply OQ.load; exact armC; exact rfl; exact (by repeat (first | exact Has.here | apply Has.there)); exact (Row.cell rfl)) | (apply OQ.assign; exact rfl)) rfl ?_ | refine KC.seq ?_ | refine KC.region ?_ | refine KL.nil ?_ | refine KE.next ?_ | refine KE.blk_normal ?_)
    refine KC.ret ?_
    refine KE.ret1 rfl rfl fun w' hw => ?_
    exact ⟨⟨some ⟨b', 0, none⟩, cap', encB s.l⟩, rfl, ⟨rfl, by simp⟩, hw.weak (.drop _ _ _ (.drop _ _ _ (.drop _ _ _ own_ents)))⟩
theorem aenc_any (s : Sl8) (w : World) (hs : s.ok w) (hl : s.l.length ≤ 60000) : Calls Tryz.prog 48 [s.v].toArray w fun e w' => e = .returned (Z (encB s.l)) ∧ Ext w w' := by
  refine enter (n := 6) Tryz.func48 rfl rfl rfl (Holds.start w []) ?_
  repeat (first | refine JL.q (by first | (apply OQ.move; exact rfl) | (apply OQ.assign; exact rfl)) rfl ?_ | refine JC.seq ?_ | refine JC.region ?_ | refine JL.nil ?_ | refine JE.next ?_)
  refine JL.callg (ι := { x : Sl8 // Ans x (encB s.l) }) (fun x => x.1.v) (fun x => x.1.ents) goes_encoded rfl rfl (fun x => x.1.ents_wr) (fun w' hw' => (encoded_any s w' (hs.holds hw' rfl) (by omega)).mono fun e w2 ⟨x, h1, h2, h3⟩ => ⟨⟨x, h2⟩, h1, h3⟩) ?_
  rintro ⟨x, hx⟩
  dsimp only
  repeat (first | refine JL.q (by first | (apply OQ.b2s; exact Tryz.underlying22; exact Tryz.underlying5; exact Tryz.underlying9; exact rfl; exact (fun w' hw' => hx.ok hw')) | (apply OQ.assign; exact rfl)) rfl ?_ | refine JL.nil ?_ | refine JE.next ?_)
  refine JC.ret (JE.ret1 rfl (RV.tmp rfl) ?_)
  exact fun w' hw => ⟨by rw [hx.val], hw.chg⟩
end Go.Proofs.YtdabhneehconeaaGreatDoor

/-
  Of no statement by itself: armor's addBytes (and strings.IndexByte, by its bodies and the model's own entry).
  Conditions: each theorem's own.
-/
namespace Go.Proofs.YtdabhneehconeaaGreatDoor
set_option maxRecDepth 10000
open Sl Arm
/-! ### strings.IndexByte -/
def ix (c : Bt) : Int := firstIdx (strB sgL) (c.toNat : Int).toNat.toUInt8
theorem ix_is (c : Bt) : max 0 (ix c) = (pl c : Int) := by
  have h : ∀ c : Fin 256, max 0 (ix (BitVec.ofNat 8 c.val)) = (pl (BitVec.ofNat 8 c.val) : Int) := by decide +kernel
  have := h ⟨c.toNat, c.isLt⟩
  simpa using this
structure IsIdx (P : Program) (f : FuncId) : Prop where
  go : ∃ fn, P.funcs[f]? = some fn ∧ (fn.name == "runtime.NumGoroutine") = false ∧ fn.body.isNone = true ∧ Extern.findNext fn = none ∧ Extern.find fn = some Extern.BytealgIndexByte.indexByte
theorem OQ.idxb {P : Program} {n : Nat} {E : Env} {C : World → Prop} {dst : Option Tmp} {ty : TypeId} {pos : String} {aft : Array Edge} {g : Option (Nat × Bool)} {f : FuncId} {ats : Array TypeId} {x y : Operand} {c : Bt} (hf : IsIdx P f) (hx : ev E x = some (Z sgL)) (hy : ev E y = some (U8 c)) :
    OQ P n E C ⟨dst, .call ⟨.value (.func f), #[x, y], ats⟩, ty, pos, aft, g⟩ (.int .i64 (ix c)) := by
  refine ⟨fun ac hk w hw => ?_⟩
  obtain ⟨fn, h1, h2, h3, h4, h5⟩ := hf.go
  have r := run_callFunc_extern h1 h2 h3 h4 h5 #[Z sgL, U8 c] w
  rw [run_indexByte_string] at r
  unfold Oper.quietAt
  have r' : (execOp ac.eval ⟨dst, .call ⟨.value (.func f), #[x, y], ats⟩, ty, pos, aft, g⟩).run P w = .ok (.value (.int .i64 (ix c))) w := by
    simp only [Result.andThen] at r
    have k1 := hk.eval hx
    have k2 := hk.eval hy
    have e : (.ok (.value (.int .i64 (ix c))) w : Result Next) = (callFunc f #[Z sgL, U8 c]).run P w := r.symm
    rw [e]
    simp [execOp, resolve, Sem.run_bind, Act.eval, Deferred.ofValue, invoke, k1, k2]
    simp [Act.eval] at k1 k2
    simp [k1, k2]
  rw [r']
  exact ⟨rfl, rfl⟩
theorem is_idx : IsIdx Tryz.prog 184 := ⟨_, Tryz.func184, rfl, rfl, by kernel_rfl, by kernel_rfl⟩
theorem goes_idx1 : Goes Tryz.prog 127 := ⟨_, Tryz.func127, rfl, by kernel_rfl⟩
theorem goes_idx2 : Goes Tryz.prog 82 := ⟨_, Tryz.func82, rfl, by kernel_rfl⟩
theorem idx1_any (c : Bt) (w : World) : Calls Tryz.prog 127 [Z sgL, U8 c].toArray w fun e w' => e = .returned (.int .i64 (ix c)) ∧ Ext w w' := by
  refine enter (n := 8) Tryz.func127 rfl rfl rfl (Holds.start w []) ?_
  repeat (first | refine JL.q (by first | (apply OQ.idxb; exact is_idx; exact rfl; exact rfl) | (apply OQ.move; exact rfl) | (apply OQ.assign; exact rfl)) rfl ?_ | refine JC.seq ?_ | refine JC.region ?_ | refine JL.nil ?_ | refine JE.next ?_)
  exact JC.ret (JE.ret1 rfl (RV.tmp rfl) fun w' hw => ⟨rfl, hw.chg⟩)
theorem idx2_any (c : Bt) (w : World) : Calls Tryz.prog 82 [Z sgL, U8 c].toArray w fun e w' => e = .returned (.int .i64 (ix c)) ∧ Ext w w' := by
  refine enter (n := 8) Tryz.func82 rfl rfl rfl (Holds.start w []) ?_
  repeat (first | refine JL.q (by first | (apply OQ.callx; exact goes_idx1; exact rfl; exact (fun w' _ => idx1_any c w')) | (apply OQ.move; exact rfl) | (apply OQ.assign; exact rfl)) rfl ?_ | refine JC.seq ?_ | refine JC.region ?_ | refine JL.nil ?_ | refine JE.next ?_)
  exact JC.ret (JE.ret1 rfl (RV.tmp rfl) fun w' hw => ⟨rfl, hw.chg⟩)
/-! ### addBytes -/
theorem OQ.maxP {P : Program} {n : Nat} {E : Env} {C : World → Prop} {dst : Option Tmp} {ty t t' : TypeId} {pos : String} {aft : Array Edge} {g : Option (Nat × Bool)} {x y : Operand} {c : Int} {m : Nat} (hx : ev E x = some (.int .i64 0)) (hy : ev E y = some (.int .i64 c)) (h : max 0 c = (m : Int)) : OQ P n E C ⟨dst, .call ⟨.builtin .max, #[x, y], #[t, t']⟩, ty, pos, aft, g⟩ (N m) :=
  OQ.to (OQ.maxI hx hy) (by rw [h])
theorem lead_nil : lead [] = 0 := rfl
theorem lead_cons (c : Arm.By) (g : List Arm.By) : lead (c :: g) = if c = 61 then 0 else lead g + 1 := by
  unfold lead
  rw [List.takeWhile_cons]
  by_cases hc : c = 61
  · rw [if_pos hc, hc]; rfl
  · rw [if_neg hc, if_pos (bne_iff_ne.2 hc)]; rfl
theorem lead_le : ∀ g : List Arm.By, lead g ≤ g.length
  | [] => Nat.zero_le _
  | c :: g => by
    rw [lead_cons, List.length_cons]
    have := lead_le g
    split <;> omega
theorem lead_ne : ∀ (g : List Arm.By) {i : Nat}, i < lead g → g.getD i 0 ≠ 61
  | [], i, h => by rw [lead_nil] at h; omega
  | c :: g, i, h => by
    rw [lead_cons] at h
    by_cases hc : c = 61
    · rw [if_pos hc] at h; omega
    · rw [if_neg hc] at h
      cases i with
      | zero => simpa using hc
      | succ i =>
        rw [List.getD_cons_succ]
        exact lead_ne g (by omega)
theorem lead_eq : ∀ (g : List Arm.By), lead g < g.length → g.getD (lead g) 0 = 61
  | [], h => by simp at h
  | c :: g, h => by
    rw [lead_cons] at h ⊢
    by_cases hc : c = 61
    · rw [if_pos hc]; simpa using hc
    · rw [if_neg hc] at h ⊢
      rw [List.getD_cons_succ]
      exact lead_eq g (by rw [List.length_cons] at h; omega)
theorem goes_addBytes : Goes Tryz.prog 202 := ⟨_, Tryz.func202, rfl, by kernel_rfl⟩
theorem dec4_len (g : List Arm.By) : (dec4 g).length = lead g - 1 := by simp [dec4]
theorem dec4_take (g : List Arm.By) (h4 : g.length ≤ 4) {i : Nat} (h : i < lead g - 1) : (dec4 g).take (i + 1) = (dec4 g).take i ++ [(BitVec.ofNat 32 (acc g (lead g)) >>> (8 * (2 - i))).setWidth 8] := by
  have hl := lead_le g
  rw [take_one _ 0 (by rw [dec4_len]; exact h), byte_bits (by have := (Arm.acc_ok g (i := lead g) (by omega)).1; omega)]
  congr 2
  simp [dec4, List.getD_eq_getElem?_getD, h]
set_option maxHeartbeats 8000000 in
theorem addBytes_any (b k cap : Nat) (xs : List Bt) (g : Sl8) (w : World) (hg : g.ok w) (h4 : g.l.length ≤ 4) (hne : g.l ≠ [] → ∀ a, g.ad = some a → a.block ≠ b) {o : Obj} (ho : w.heap[b]? = some o) (hA : Sl.Own 5 1 k cap (xs.map U8) o) (hk : k ≤ 1000000000) :
    Calls Tryz.prog 202 [.slice (some ⟨b, 0, none⟩) k cap, g.v].toArray w fun e w' => ∃ q : Nat × Nat, e = .returned (.slice (some ⟨q.1, 0, none⟩) (k + (dec4 g.l).length) q.2) ∧ Holds w [b] [⟨q.1, Sl.Own 5 1 (k + (dec4 g.l).length) q.2 ((xs ++ dec4 g.l).map U8), true⟩] w' := by
  refine enter (n := 49) Tryz.func202 rfl rfl rfl (Holds.one ho hA) ?_
  have hl := lead_le g.l
  repeat (first | refine JL.q (by first | (apply OQ.move; exact rfl) | (apply OQ.assign; exact rfl) | (apply OQ.len; exact rfl; exact rfl)) rfl ?_ | refine JC.seq ?_ | refine JC.region ?_ | refine JC.block ?_ | refine JL.nil ?_ | refine JE.next ?_)
  refine JC.joinB (ι := Unit) (fun _ => [(0, .slice (some ⟨b, 0, none⟩) k cap), (5, U32 (BitVec.ofNat 32 (acc g.l (lead g.l)))), (6, I ((lead g.l : Int) - 1))]) (fun _ => [⟨b, Sl.Own 5 1 k cap (xs.map U8), true⟩]) (fun _ => True) ?_ ?_
  · refine JC.loop (fun i : Nat => [(0, .slice (some ⟨b, 0, none⟩) k cap), (11, g.v), (12, N g.l.length), (13, N i), (5, U32 (BitVec.ofNat 32 (acc g.l i))), (6, I ((i : Int) - 1))])
      (fun _ => [⟨b, Sl.Own 5 1 k cap (xs.map U8), true⟩]) (fun i => lead g.l + 1 - i) (fun i => i ≤ lead g.l) 0 (Nat.zero_le _) (by repeat (first | exact SubE.nil | refine SubE.cons _ _ _ rfl ?_)) (Less.refl _) ?_
    intro i hi
    repeat (first | refine JL.q (by (apply OQ.lssN; exact rfl; exact rfl)) rfl ?_ | refine JC.seq ?_ | refine JC.region ?_ | refine JL.nil ?_ | refine JE.next ?_)
    refine JC.cond rfl (fun h => ?_) (fun h => ?_)
    · have hi' : i < g.l.length := of_decide_eq_true h
      clear h
      obtain ⟨ba, ja, hae, hca⟩ := hg.reads.at (by simp; omega)
      have hc := hca i _ (map_at U8 0 hi')
      have hbn : ba ≠ b := hne (List.length_pos_iff.1 (by omega)) ⟨ba, ja, none⟩ hae
      have hav : g.v = .slice (some ⟨ba, ja, none⟩) g.l.length g.cap := by rw [← hae]; rfl
      have h61 : i < lead g.l ↔ ¬ g.l.getD i 0 = 61 := ⟨fun h => lead_ne g.l h, fun h => Nat.lt_of_le_of_ne hi fun e => h (by rw [e]; exact lead_eq g.l (by omega))⟩
      have hacc := acc_bits g.l (i := i) (by omega)
      have hix := ix_is (g.l.getD i 0)
      generalize g.l.getD i 0 = c at hc h61 hacc hix
      rw [hav]
      repeat (first | refine JL.q (by first | (apply OQ.idxS1; exact Tryz.underlying22; exact u8s; exact rfl; exact rfl; exact hi') | (apply OQ.load_old; exact u8c; exact rfl; exact (block_lt_of_cell hc); exact (by simpa using hbn); exact hc) | (apply OQ.eq8 (b := 61#8); exact rfl; exact rfl) | (apply OQ.move; exact rfl) | (apply OQ.assign; exact rfl)) rfl ?_ | refine JC.seq ?_ | refine JC.region ?_ | refine JC.block ?_ | refine JC.skip ?_ | refine JL.nil ?_ | refine JE.next ?_)
      refine JC.cond rfl (fun h => ?_) (fun h => ?_)
      · have hc61 : c = 61 := of_decide_eq_true h
        have hil : i = lead g.l := by
          have := mt h61.1 (by simpa using hc61)
          omega
        subst hil
        repeat (first | refine JC.exit ?_ | refine JE.then_exit ?_ | refine JE.blk_hit ?_ | refine JE.blk_miss rfl ?_)
        exact JE.mid () trivial (by repeat (first | exact SubE.nil | refine SubE.cons _ _ _ rfl ?_)) (Less.refl _)
      · have hc61 : ¬ c = 61 := of_decide_eq_false h
        have hil := h61.2 hc61
        repeat (first | refine JL.q (by first | (apply OQ.callx (vs := [Z sgL, U8 c]); exact goes_idx2; exact rfl; exact (fun w' _ => idx2_any c w')) | (apply OQ.convN_32; exact rfl; exact rfl; exact rfl) | (apply OQ.maxP; exact rfl; exact rfl; exact hix) | (apply OQ.shl32 (k := 6 * (3 - i)); exact rfl; exact rfl) | (apply OQ.addI (b := 1); exact rfl; exact rfl; exact (by omega); exact (by omega)) | (apply OQ.move; exact rfl) | (apply OQ.assign; exact rfl) | (apply OQ.or32; exact rfl; exact rfl) | (apply OQ.subN; exact rfl; exact rfl; exact (by (try simp only []); omega); exact (by (try simp only []); omega)) | (apply OQ.mulN; exact rfl; exact rfl; exact (by (try simp only []); omega))) rfl ?_ | refine JC.seq ?_ | refine JC.region ?_ | refine JC.skip ?_ | refine JL.nil ?_ | refine JE.next ?_ | refine JE.blk_normal ?_)
        rw [hacc]
        refine JE.again (i := i) (i + 1) hil (by show lead g.l + 1 - (i + 1) < lead g.l + 1 - i; omega) ?_ (Less.refl _)
        rw [show (((i + 1 : Nat) : Int) - 1) = (i : Int) - 1 + 1 by omega]
        exact (by repeat (first | exact SubE.nil | refine SubE.cons _ _ _ rfl ?_))
    · have hi' : ¬ i < g.l.length := of_decide_eq_false h
      have hil : i = lead g.l := by omega
      subst hil
      repeat (first | refine JC.exit ?_ | refine JE.then_exit ?_ | refine JE.blk_hit ?_)
      exact JE.mid () trivial (by repeat (first | exact SubE.nil | refine SubE.cons _ _ _ rfl ?_)) (Less.refl _)
  intro _ _
  have hT : lead g.l ≤ 4 := by omega
  have htk := fun {i : Nat} (h : i < lead g.l - 1) => dec4_take g.l h4 h
  have hdl := dec4_len g.l
  generalize lead g.l = t at hT htk hdl ⊢
  generalize BitVec.ofNat 32 (acc g.l t) = nn at htk ⊢
  repeat (first | refine JL.q (by (apply OQ.move; exact rfl)) rfl ?_ | refine JC.seq ?_ | refine JC.region ?_ | refine JC.block ?_ | refine JL.nil ?_ | refine JE.next ?_)
  refine JC.loop (fun q : Nat × Nat × Nat => [(0, .slice (some ⟨q.2.1, 0, none⟩) (k + q.1) q.2.2), (5, U32 nn), (34, I ((t : Int) - 1)), (35, N q.1)])
    (fun q => [⟨q.2.1, Sl.Own 5 1 (k + q.1) q.2.2 ((xs ++ (dec4 g.l).take q.1).map U8), true⟩])
    (fun q => 4 - q.1) (fun q => q.1 ≤ t - 1) (0, b, cap) (Nat.zero_le _) (by repeat (first | exact SubE.nil | refine SubE.cons _ _ _ rfl ?_)) (.keep _ _ _ _ _ _ (fun o h => by simpa using h) (.nil _)) ?_
  rintro ⟨i, b', cap'⟩ hi
  simp only at hi
  dsimp only
  repeat (first | refine JL.q (by (apply OQ.lssI (b := (t : Int) - 1); exact rfl; exact rfl)) rfl ?_ | refine JC.seq ?_ | refine JC.region ?_ | refine JL.nil ?_ | refine JE.next ?_)
  refine JC.cond rfl (fun h => ?_) (fun h => ?_)
  · have hi0 : (i : Int) < (t : Int) - 1 := of_decide_eq_true h
    have hi' : i < t - 1 := by omega
    clear h hi hi0
    have eS := htk hi'
    generalize (dec4 g.l).take i = T at eS ⊢
    repeat (first | refine JL.q (by first | (apply OQ.shr32 (k := 8 * (2 - i)); exact rfl; exact rfl) | (apply OQ.move; exact rfl) | (apply OQ.assign; exact rfl) | (apply OQ.subN; exact rfl; exact rfl; exact (by (try simp only []); omega); exact (by (try simp only []); omega)) | (apply OQ.mulN; exact rfl; exact rfl; exact (by (try simp only []); omega)) | (apply OQ.conv32_8; exact rfl; exact rfl; exact rfl)) rfl ?_ | refine JC.seq ?_ | refine JC.region ?_ | refine JC.block ?_ | refine JC.skip ?_ | refine JL.nil ?_ | refine JE.next ?_)
    refine JL.push1 (xs := (xs ++ T).map U8) (fun b'' cap'' => [⟨b'', Sl.Own 5 1 (k + i + 1) cap'' ((xs ++ T).map U8 ++ [U8 ((nn >>> (8 * (2 - i))).setWidth 8)]), true⟩]) Tryz.underlying22 u8e rfl rfl rfl rfl (fun _ => rfl) (by intro _ _; repeat (first | exact Repl.here | apply Repl.there)) (by omega) (by omega) rfl rfl fun bl b'' cap'' => ?_
    repeat (first | refine JL.q (by first | (apply OQ.move; exact rfl) | (apply OQ.assign; exact rfl) | (apply OQ.addN; exact rfl; exact rfl; exact (by (try simp only []); omega))) rfl ?_ | refine JC.region ?_ | refine JL.nil ?_ | refine JE.next ?_ | refine JE.blk_normal ?_)
    refine JE.again (i := (i, b', cap')) (i + 1, b'', cap'') hi' (by show 4 - (i + 1) < 4 - i; omega) (by repeat (first | exact SubE.nil | refine SubE.cons _ _ _ rfl ?_)) (.keep _ _ _ _ _ _ (fun o h => ?_) (.nil _))
    dsimp only
    rw [eS, ← List.append_assoc, List.map_append]
    exact h
  · have hi0 : ¬ (i : Int) < (t : Int) - 1 := of_decide_eq_false h
    obtain rfl : i = t - 1 := by omega
    clear h hi hi0
    rw [List.take_of_length_le (by omega), ← hdl]
    repeat (first | refine JL.q (by first | (apply OQ.move; exact rfl) | (apply OQ.assign; exact rfl)) rfl ?_ | refine JC.seq ?_ | refine JC.region ?_ | refine JC.exit ?_ | refine JL.nil ?_ | refine JE.next ?_ | refine JE.then_exit ?_ | refine JE.blk_hit ?_)
    refine JC.ret (JE.ret1 rfl (RV.tmp rfl) ?_)
    exact fun w' hw => ⟨(b', cap'), rfl, hw⟩
end Go.Proofs.YtdabhneehconeaaGreatDoor

/-
  Of no statement by itself: armor's Decode, Lines, blank and Read.
  Conditions: each theorem's own.
-/
namespace Go.Proofs.YtdabhneehconeaaGreatDoor
set_option maxRecDepth 10000
open Sl Arm
theorem goes_alines : Goes Tryz.prog 140 := ⟨_, Tryz.func140, rfl, by kernel_rfl⟩
theorem flat_len (F : List Arm.By → List Arm.By) (s : Sl8) (k m : Nat) (hF : ∀ g, g.length ≤ k → (F g).length ≤ m) : ∀ pre : List Nat, (pre.flatMap fun j => F (s.part k j).l).length ≤ m * pre.length
  | [] => by simp
  | j :: pre => by
    have ih := flat_len F s k m hF pre
    have h := hF (s.part k j).l (by show (List.take _ _).length ≤ k; rw [List.length_take]; omega)
    rw [List.flatMap_cons, List.length_append, List.length_cons, Nat.mul_add]
    omega
theorem snocF (F : List Arm.By → List Arm.By) (s : Sl8) (k : Nat) (pre : List Nat) (j : Nat) : (pre ++ [j]).flatMap (fun j => F (s.part k j).l) = pre.flatMap (fun j => F (s.part k j).l) ++ F (s.part k j).l := by simp
theorem ents_cells {s : Sl8} : ∀ e ∈ s.ents, ∀ o, e.A o → o.isCells = true := by
  intro e he o hA
  unfold Sl8.ents at he
  split at he
  · simp only [List.mem_singleton] at he
    subst he
    obtain ⟨⟨_, _, _, rfl, _⟩, _⟩ := hA
    rfl
  · cases he
theorem Less2.refl : ∀ M, Less2 M M
  | [] => .nil _
  | ⟨_, _, _⟩ :: M => .keep _ _ _ _ _ _ _ (fun _ h => h) (fun h => h) (Less2.refl M)
set_option maxHeartbeats 8000000 in
theorem adec_any (s : List Arm.By) (w : World) (hl : s.length ≤ 60000) : Calls Tryz.prog 152 [Z s].toArray w
    fun e w' => ∃ x : Sl8, e = .returned (.tuple #[x.v, N (ecode (decB s))]) ∧ Ans x ((decB s).getD []) ∧ Holds w [] x.ents w' := by
  refine enterM (n := 23) Tryz.func152 rfl rfl rfl (Holds.start w []) ?_
  repeat (first | refine JL.q (by first | (apply OQ.lenS; exact Tryz.underlying9; exact rfl) | (apply OQ.move; exact rfl) | (apply OQ.assign; exact rfl) | (apply OQ.mulN; exact rfl; exact rfl; exact (by (try simp only []); omega)) | (apply OQ.quoN; exact rfl; exact rfl; exact (by (try simp only []); omega); exact (by (try simp only []); omega))) rfl ?_ | refine JC.seq ?_ | refine JC.region ?_ | refine JL.nil ?_ | refine JE.next ?_)
  refine JL.make0 (c := s.length / 4 * 3) Tryz.underlying22 u8e rfl rfl (by omega) rfl fun b _ => ?_
  refine JL.alloc (r := [.slice none 0 0]) (by kernel_rfl) rfl fun tb _ => ?_
  refine JL.store_eq (r' := [.slice (some ⟨b, 0, none⟩) 0 (s.length / 4 * 3)]) (M' := [⟨tb, Row 22 [.slice (some ⟨b, 0, none⟩) 0 (s.length / 4 * 3)], true⟩, ⟨b, Sl.Own 5 1 0 (s.length / 4 * 3) [], true⟩]) armU rfl rfl rfl rfl .here (by simp) rfl ?_
  repeat (first | refine JL.q (by (apply OQ.move; exact rfl)) rfl ?_ | refine JC.seq ?_ | refine JC.region ?_ | refine JL.nil ?_ | refine JE.next ?_)
  refine JL.s2b (s := strB s) Tryz.underlying9 Tryz.underlying22 Tryz.underlying5 rfl rfl fun bb capB => ?_
  rw [bytesOf_strB]
  refine JL.callg (vs := [Sl8.v ⟨some ⟨bb, 0, none⟩, capB, s⟩, N 4]) (ι := Nat × Nat) (fun q => .func (.func 197) #[] #[Pt q.1 0, Pt q.2 0]) (fun q => [⟨q.2, Row 3 [N 4], true⟩, ⟨q.1, Row 22 [Sl8.v ⟨some ⟨bb, 0, none⟩, capB, s⟩], true⟩]) goes_groups rfl rfl (by rintro q e he; simp at he; rcases he with rfl | rfl <;> rfl) (fun w' _ => groups_any _ 4 w') ?_
  rintro ⟨b1, b2⟩
  dsimp only
  have hok : ∀ {w0 w' : World} {S : List Nat} {M : List Ent}, Holds w0 S M w' → Has M bb (fun o => hasCells o 0 (s.map U8) ∧ s.length ≤ capB ∧ (none : Option Nat) = none) true → Sl8.ok w' ⟨some ⟨bb, 0, none⟩, capB, s⟩ := fun hw' hM => by
    obtain ⟨o, ho, h1, h2, _⟩ := hw'.get hM
    exact ⟨h2, Reads.block ho h1⟩
  have hlen : (⟨some ⟨bb, 0, none⟩, capB, s⟩ : Sl8).l = s := rfl
  have hpb : ∀ j a, ((⟨some ⟨bb, 0, none⟩, capB, s⟩ : Sl8).part 4 j).ad = some a → a.block = bb := fun j a ha => by
    have ha : (if capB = 4 * j then some (⟨bb, 0, none⟩ : Addr) else some ((⟨bb, 0, none⟩ : Addr).add (4 * j * 1))) = some a := ha
    split at ha
    · cases ha; rfl
    · rw [add_off] at ha; cases ha; rfl
  have hparts : parts ⟨some ⟨bb, 0, none⟩, capB, s⟩ 4 = (s.length + 4 - 1) / 4 := rfl
  have hfl := flat_len dec4 ⟨some ⟨bb, 0, none⟩, capB, s⟩ 4 3 (fun g hg => by rw [dec4_len]; have := lead_le g; omega)
  have hall : (List.range (parts ⟨some ⟨bb, 0, none⟩, capB, s⟩ 4)).flatMap (fun j => dec4 ((⟨some ⟨bb, 0, none⟩, capB, s⟩ : Sl8).part 4 j).l) = fl 4 dec4 s := rfl
  have hsn := snocF dec4 ⟨some ⟨bb, 0, none⟩, capB, s⟩ 4
  have h4 : ∀ j, ((⟨some ⟨bb, 0, none⟩, capB, s⟩ : Sl8).part 4 j).l.length ≤ 4 := fun j => by show (List.take _ _).length ≤ 4; rw [List.length_take]; omega
  have hpo := fun (w' : World) (h : Sl8.ok w' ⟨some ⟨bb, 0, none⟩, capB, s⟩) (j : Nat) => part_ok h 4 j
  have hgs := groups_stops ⟨some ⟨bb, 0, none⟩, capB, s⟩ 4 b1 b2 (by decide)
  have hents : (⟨some ⟨bb, 0, none⟩, capB, s⟩ : Sl8).ents = [⟨bb, fun o => hasCells o 0 (s.map U8) ∧ s.length ≤ capB ∧ (none : Option Nat) = none, true⟩] := rfl
  rw [hents]
  generalize hsrc : (⟨some ⟨bb, 0, none⟩, capB, s⟩ : Sl8) = src at hpb hok hfl hall hsn h4 hpo hgs hparts hlen ⊢
  repeat (first | refine JC.block ?_ | refine JL.nil ?_ | refine JE.next ?_)
  refine JC.range (ι := Nat × Nat × List Nat) (fun j => (src.part 4 j).v) [b1, b2] (fun xs => xs = List.range (parts src 4)) (fun _ => True) (parts src 4)
    (fun q => [⟨b2, Row 3 [N 4], false⟩, ⟨b1, Row 22 [src.v], false⟩, ⟨bb, fun o => hasCells o 0 (s.map U8) ∧ s.length ≤ capB ∧ (none : Option Nat) = none, true⟩, ⟨tb, Row 22 [.slice (some ⟨q.1, 0, none⟩) (q.2.2.flatMap fun j => dec4 (src.part 4 j).l).length q.2.1], true⟩, ⟨q.1, Sl.Own 5 1 (q.2.2.flatMap fun j => dec4 (src.part 4 j).l).length q.2.1 ((q.2.2.flatMap fun j => dec4 (src.part 4 j).l).map U8), true⟩])
    (fun pre q => q.2.2 = pre) rfl (enters_of Tryz.func197 (by kernel_rfl) rfl) ?hseq ?hcell ?hL (b, s.length / 4 * 3, []) rfl ?hM rfl rfl ?hbody ?hdone
  case hseq =>
    intro W hW
    obtain ⟨o1, h1, h1'⟩ := hW.get (b := b1) (A := Row 22 [src.v]) (wr := true) (by repeat (first | exact Has.here | apply Has.there))
    obtain ⟨o2, h2, h2'⟩ := hW.get (b := b2) (A := Row 3 [N 4]) (wr := true) (by repeat (first | exact Has.here | apply Has.there))
    exact hgs (hok hW (by repeat (first | exact Has.here | apply Has.there))).len (by rw [hlen]; omega) W h1 (Row.cell rfl _ h1') h2 (Row.cell rfl _ h2')
  case hcell =>
    rintro q e he o hA
    simp only [List.mem_cons, List.not_mem_nil, or_false] at he
    rcases he with rfl | rfl | rfl | rfl | rfl
    · exact row_cells o hA
    · exact row_cells o hA
    · obtain ⟨⟨_, _, _, rfl, _⟩, _⟩ := hA
      rfl
    · exact row_cells o hA
    · exact own_cells o hA
  case hL =>
    intro q k hk
    simp only [List.mem_cons, List.not_mem_nil, or_false] at hk
    rcases hk with rfl | rfl
    · exact .inr ⟨_, (by repeat (first | exact Has.here | apply Has.there))⟩
    · exact .inr ⟨_, (by repeat (first | exact Has.here | apply Has.there))⟩
  case hM =>
    intro w' hw'
    exact hw'.weak2 (.keep _ _ _ _ _ _ _ (fun _ h => h) (by simp) (.keep _ _ _ _ _ _ _ (fun _ h => h) (by simp) (Less2.refl _)))
  case hbody =>
    rintro l pre j ⟨b', cap', pre'⟩ w1 rfl hlt hx hge
    dsimp only at hlt hge ⊢
    have hb := hfl pre'
    have hsn' := hsn pre' j
    generalize pre'.flatMap (fun j => dec4 (src.part 4 j).l) = T at hb hsn' ⊢
    repeat (first | refine JL.q (by first | (apply OQ.load; exact armC; exact rfl; exact (by repeat (first | exact Has.here | apply Has.there)); exact (Row.cell rfl)) | (apply OQ.move; exact rfl)) rfl ?_ | refine JR.block ?_ | refine JR.region rfl (by first | with_reducible exact lo_roundQ | with_reducible exact lo_then lo_roundQ | with_reducible exact lo_blk lo_roundQ | with_reducible exact lo_then (lo_blk lo_roundQ) | with_reducible exact lo_roundX | with_reducible exact lo_then lo_roundX | with_reducible exact lo_blk lo_roundX | with_reducible exact lo_then (lo_blk lo_roundX) | with_reducible exact lo_then (lo_then (lo_blk lo_roundX))) ?_)
    refine JL.call (ι := Nat × Nat) (fun q => .slice (some ⟨q.1, 0, none⟩) (T.length + (dec4 (src.part 4 j).l).length) q.2) (fun q => [⟨b2, Row 3 [N 4], false⟩, ⟨b1, Row 22 [src.v], false⟩, ⟨bb, fun o => hasCells o 0 (s.map U8) ∧ s.length ≤ capB ∧ (none : Option Nat) = none, true⟩, ⟨tb, Row 22 [.slice (some ⟨b', 0, none⟩) T.length cap'], true⟩, ⟨q.1, Sl.Own 5 1 (T.length + (dec4 (src.part 4 j).l).length) q.2 ((T ++ dec4 (src.part 4 j).l).map U8), true⟩]) goes_addBytes rfl rfl ?_ ?_
    · intro w' hw'
      obtain ⟨o, ho, hA⟩ := hw'.get (b := b') (wr := true) (A := Sl.Own 5 1 T.length cap' (T.map U8)) (by repeat (first | exact Has.here | apply Has.there))
      refine (addBytes_any b' _ cap' _ (src.part 4 j) w' (hpo w' (hok hw' (by repeat (first | exact Has.here | apply Has.there))) j) (h4 j) ?_ ho hA (by omega)).mono ?_
      · intro hne a ha
        rw [hpb j a ha]
        have := hw'.nodup
        simp only [List.map_cons, List.map_nil, List.nodup_cons, List.mem_cons, List.not_mem_nil, or_false, not_or] at this
        exact this.2.2.1.2
      · rintro e w2 ⟨q, rfl, h2⟩
        exact ⟨q, rfl, hw'.relay (by repeat (first | exact Repl.here | apply Repl.there)) h2⟩
    rintro ⟨b'', cap''⟩
    dsimp only
    refine JL.store_eq (r' := [.slice (some ⟨b'', 0, none⟩) (T.length + (dec4 (src.part 4 j).l).length) cap'']) (M' := [⟨b2, Row 3 [N 4], false⟩, ⟨b1, Row 22 [src.v], false⟩, ⟨bb, fun o => hasCells o 0 (s.map U8) ∧ s.length ≤ capB ∧ (none : Option Nat) = none, true⟩, ⟨tb, Row 22 [.slice (some ⟨b'', 0, none⟩) (T.length + (dec4 (src.part 4 j).l).length) cap''], true⟩, ⟨b'', Sl.Own 5 1 (T.length + (dec4 (src.part 4 j).l).length) cap'' ((T ++ dec4 (src.part 4 j).l).map U8), true⟩]) armU rfl rfl rfl rfl (by repeat (first | exact Upd.here | apply Upd.there)) (by simp) rfl ?_
    repeat (first | refine JL.nil ?_ | with_reducible refine JE.blk_normal ?_)
    refine JE.round (b'', cap'', pre' ++ [j]) rfl ?_
    dsimp only
    rw [hsn', List.length_append]
    exact Less.refl _
  case hdone =>
    rintro D xs ⟨b', cap', pre⟩ rfl rfl
    dsimp only
    have hb := hfl (List.range (parts src 4))
    rw [List.length_range] at hb
    rw [hall] at hb ⊢
    have hyes := dec_yes (s := s)
    have hno := dec_no (s := s)
    generalize fl 4 dec4 s = Y at hb hyes hno ⊢
    have hY : Y.length ≤ 60000 := by rw [hparts] at hb; omega
    repeat (first | refine KL.q (by first | (apply OQ.load; exact armC; exact rfl; exact (by repeat (first | exact Has.here | apply Has.there)); exact (Row.cell rfl)) | (apply OQ.callx (vs := [Sl8.v ⟨some ⟨b', 0, none⟩, cap', Y⟩]); exact goes_aenc; exact rfl; exact (fun w' hw' => aenc_any ⟨some ⟨b', 0, none⟩, cap', Y⟩ w' (ownb_ok hw' (by repeat (first | exact Has.here | apply Has.there))) hY)) | (apply OQ.neS; exact rfl; exact rfl) | (apply OQ.move; exact rfl)) rfl ?_ | refine KC.seq ?_ | refine KC.region ?_ | refine KL.nil ?_ | refine KE.next ?_ | refine KE.blk_normal ?_)
    refine KC.cond rfl (fun h => ?_) (fun h => ?_)
    · have hne : ¬ encB Y = s := by simpa using h
      rw [hno hne]
      repeat (first | refine KL.q (by (apply OQ.assign; exact rfl)) rfl ?_ | refine KC.seq ?_ | refine KC.region ?_ | refine KL.nil ?_ | refine KE.next ?_)
      refine KC.ret ?_
      repeat (refine KE.then_ret ?_)
      exact KE.ret2 rfl rfl rfl fun w' hw => ⟨nilS, rfl, ⟨rfl, fun _ => rfl⟩, hw.weak (.nil _)⟩
    · have hne : encB Y = s := by simpa using h
      rw [hyes hne]
      repeat (first | refine KL.q (by first | (apply OQ.load; exact armC; exact rfl; exact (by repeat (first | exact Has.here | apply Has.there)); exact (Row.cell rfl)) | (apply OQ.assign; exact rfl)) rfl ?_ | refine KC.seq ?_ | refine KC.region ?_ | refine KC.skip ?_ | refine KL.nil ?_ | refine KE.next ?_)
      refine KC.ret ?_
      skip
      exact KE.ret2 rfl rfl rfl fun w' hw => ⟨⟨some ⟨b', 0, none⟩, cap', Y⟩, rfl, ⟨rfl, by simp⟩, hw.weak (.drop _ _ _ (.drop _ _ _ (.drop _ _ _ (.drop _ _ _ own_ents))))⟩
set_option maxHeartbeats 8000000 in
theorem alines_any (s : Sl8) (w : World) (hs : s.ok w) (hl : s.l.length ≤ 20000) : Calls Tryz.prog 140 [s.v].toArray w
    fun e w' => ∃ x : Sl8, e = .returned x.v ∧ Ans x (linesB s.l) ∧ Holds w [] x.ents w' := by
  have hel : (encB s.l).length ≤ 40000 := by rw [encB_len]; omega
  rw [← fl_lines]
  refine enterM (n := 26) Tryz.func140 rfl rfl rfl (Holds.start w []) ?_
  repeat (first | refine JL.q (by first | (apply OQ.move; exact rfl) | (apply OQ.assign; exact rfl)) rfl ?_ | refine JC.seq ?_ | refine JC.region ?_ | refine JL.nil ?_ | refine JE.next ?_)
  refine JL.callg (ι := { x : Sl8 // Ans x (encB s.l) }) (fun x => x.1.v) (fun x => x.1.ents) goes_encoded rfl rfl (fun x => x.1.ents_wr) (fun w' hw' => (encoded_any s w' (hs.holds hw' rfl) (by omega)).mono fun e w2 ⟨x, h1, h2, h3⟩ => ⟨⟨x, h2⟩, h1, h3⟩) ?_
  rintro ⟨x, hx⟩
  dsimp only
  have hxl : x.l.length ≤ 40000 := by rw [hx.val]; exact hel
  rw [← hx.val]
  repeat (first | refine JL.q (by first | (apply OQ.move; exact rfl) | (apply OQ.assign; exact rfl) | (apply OQ.len; exact rfl; exact rfl) | (apply OQ.addN; exact rfl; exact rfl; exact (by (try simp only []); omega)) | (apply OQ.mulN; exact rfl; exact rfl; exact (by (try simp only []); omega)) | (apply OQ.quoN; exact rfl; exact rfl; exact (by (try simp only []); omega); exact (by (try simp only []); omega))) rfl ?_ | refine JC.seq ?_ | refine JC.region ?_ | refine JL.nil ?_ | refine JE.next ?_)
  refine JL.make0 (c := x.l.length + (x.l.length / 76 + 1) * 2) Tryz.underlying22 u8e rfl rfl (by omega) rfl fun b _ => ?_
  refine JL.alloc (r := [.slice none 0 0]) (by kernel_rfl) rfl fun tb _ => ?_
  refine JL.store_eq (r' := [.slice (some ⟨b, 0, none⟩) 0 (x.l.length + (x.l.length / 76 + 1) * 2)]) (M' := ⟨tb, Row 22 [.slice (some ⟨b, 0, none⟩) 0 (x.l.length + (x.l.length / 76 + 1) * 2)], true⟩ :: ⟨b, Sl.Own 5 1 0 (x.l.length + (x.l.length / 76 + 1) * 2) [], true⟩ :: (x.ents ++ [])) armU rfl rfl rfl rfl .here (by simp) rfl ?_
  repeat (first | refine JL.q (by (apply OQ.move; exact rfl)) rfl ?_ | refine JC.seq ?_ | refine JC.region ?_ | refine JL.nil ?_ | refine JE.next ?_)
  refine JL.callg (vs := [x.v, N 76]) (ι := Nat × Nat) (fun q => .func (.func 197) #[] #[Pt q.1 0, Pt q.2 0]) (fun q => [⟨q.2, Row 3 [N 76], true⟩, ⟨q.1, Row 22 [x.v], true⟩]) goes_groups rfl rfl (by rintro q e he; simp at he; rcases he with rfl | rfl <;> rfl) (fun w' _ => groups_any _ 76 w') ?_
  rintro ⟨b1, b2⟩
  dsimp only
  have hok : ∀ {w0 w' : World} {S : List Nat} (e1 e2 e3 e4 : Ent), Holds w0 S (e1 :: e2 :: e3 :: e4 :: (x.ents ++ [])) w' → x.ok w' := fun e1 e2 e3 e4 hw' => hx.ok (M := []) (hw'.weak (.drop _ _ _ (.drop _ _ _ (.drop _ _ _ (.drop _ _ _ (Less.refl _))))))
  have hfl := flat_len ln76 x 76 78 (fun g hg => by rw [ln76, List.length_append]; exact Nat.add_le_add hg (Nat.le_refl 2))
  have hall : (List.range (parts x 76)).flatMap (fun j => ln76 (x.part 76 j).l) = fl 76 ln76 x.l := rfl
  have hsn := snocF ln76 x 76
  have hparts : parts x 76 ≤ 600 := by unfold parts; omega
  repeat (first | refine JC.block ?_ | refine JL.nil ?_ | refine JE.next ?_)
  refine JC.range (ι := Nat × Nat × List Nat) (fun j => (x.part 76 j).v) [b1, b2] (fun xs => xs = List.range (parts x 76)) (fun _ => True) (parts x 76)
    (fun q => ⟨b2, Row 3 [N 76], false⟩ :: ⟨b1, Row 22 [x.v], false⟩ :: ⟨tb, Row 22 [.slice (some ⟨q.1, 0, none⟩) (q.2.2.flatMap fun j => ln76 (x.part 76 j).l).length q.2.1], true⟩ :: ⟨q.1, Sl.Own 5 1 (q.2.2.flatMap fun j => ln76 (x.part 76 j).l).length q.2.1 ((q.2.2.flatMap fun j => ln76 (x.part 76 j).l).map U8), true⟩ :: (x.ents ++ []))
    (fun pre q => q.2.2 = pre) rfl (enters_of Tryz.func197 (by kernel_rfl) rfl) ?hseq ?hcell ?hL (b, x.l.length + (x.l.length / 76 + 1) * 2, []) rfl ?hM rfl rfl ?hbody ?hdone
  case hseq =>
    intro W hW
    obtain ⟨o1, h1, h1'⟩ := hW.get (b := b1) (A := Row 22 [x.v]) (wr := true) (by repeat (first | exact Has.here | apply Has.there))
    obtain ⟨o2, h2, h2'⟩ := hW.get (b := b2) (A := Row 3 [N 76]) (wr := true) (by repeat (first | exact Has.here | apply Has.there))
    exact groups_stops x 76 b1 b2 (by decide) (hok _ _ _ _ hW).len (by omega) W h1 (Row.cell rfl _ h1') h2 (Row.cell rfl _ h2')
  case hcell =>
    rintro q e he o hA
    simp only [List.mem_cons, List.append_nil] at he
    rcases he with rfl | rfl | rfl | rfl | he
    · exact row_cells o hA
    · exact row_cells o hA
    · exact row_cells o hA
    · exact own_cells o hA
    · exact ents_cells e he o hA
  case hL =>
    intro q k hk
    simp only [List.mem_cons, List.not_mem_nil, or_false] at hk
    rcases hk with rfl | rfl
    · exact .inr ⟨_, (by repeat (first | exact Has.here | apply Has.there))⟩
    · exact .inr ⟨_, (by repeat (first | exact Has.here | apply Has.there))⟩
  case hM =>
    intro w' hw'
    exact hw'.weak2 (.keep _ _ _ _ _ _ _ (fun _ h => h) (by simp) (.keep _ _ _ _ _ _ _ (fun _ h => h) (by simp) (Less2.refl _)))
  case hbody =>
    rintro l pre j ⟨b', cap', pre'⟩ w1 rfl hlt hx1 hge
    dsimp only at hlt hge ⊢
    have hb := hfl pre'
    have hsn' := hsn pre' j
    have hpl : (x.part 76 j).l.length ≤ 76 := by show (List.take _ _).length ≤ 76; rw [List.length_take]; omega
    generalize pre'.flatMap (fun j => ln76 (x.part 76 j).l) = T at hb hsn' ⊢
    repeat (first | refine JL.q (by first | (apply OQ.load; exact armC; exact rfl; exact (by repeat (first | exact Has.here | apply Has.there)); exact (Row.cell rfl)) | (apply OQ.move; exact rfl)) rfl ?_ | refine JR.seq ?_ | refine JR.block ?_ | refine JR.region rfl (by first | with_reducible exact lo_roundQ | with_reducible exact lo_then lo_roundQ | with_reducible exact lo_blk lo_roundQ | with_reducible exact lo_then (lo_blk lo_roundQ) | with_reducible exact lo_roundX | with_reducible exact lo_then lo_roundX | with_reducible exact lo_blk lo_roundX | with_reducible exact lo_then (lo_blk lo_roundX) | with_reducible exact lo_then (lo_then (lo_blk lo_roundX))) ?_)
    refine JL.append (cs := (x.part 76 j).l.map U8) (m := (x.part 76 j).l.length) (ad := (x.part 76 j).ad) (sc := (x.part 76 j).cap) (xs := T.map U8) (fun b'' cap'' => ⟨b2, Row 3 [N 76], false⟩ :: ⟨b1, Row 22 [x.v], false⟩ :: ⟨tb, Row 22 [.slice (some ⟨b', 0, none⟩) T.length cap'], true⟩ :: ⟨b'', Sl.Own 5 1 (T.length + (x.part 76 j).l.length) cap'' (T.map U8 ++ (x.part 76 j).l.map U8), true⟩ :: (x.ents ++ [])) Tryz.underlying22 u8e rfl rfl (by intro _ _; repeat (first | exact Repl.here | apply Repl.there)) (by simp) (fun w' hw' => (part_ok (hok _ _ _ _ hw') 76 j).reads) (all8B _) rfl (by decide) (by omega) (by omega) rfl fun b'' cap'' => ?_
    refine JL.store_eq (r' := [.slice (some ⟨b'', 0, none⟩) (T.length + (x.part 76 j).l.length) cap'']) (M' := ⟨b2, Row 3 [N 76], false⟩ :: ⟨b1, Row 22 [x.v], false⟩ :: ⟨tb, Row 22 [.slice (some ⟨b'', 0, none⟩) (T.length + (x.part 76 j).l.length) cap''], true⟩ :: ⟨b'', Sl.Own 5 1 (T.length + (x.part 76 j).l.length) cap'' (T.map U8 ++ (x.part 76 j).l.map U8), true⟩ :: (x.ents ++ [])) armU rfl rfl rfl rfl (by repeat (first | exact Upd.here | apply Upd.there)) (by simp) rfl ?_
    repeat (first | refine JL.q (by (apply OQ.load; exact armC; exact rfl; exact (by repeat (first | exact Has.here | apply Has.there)); exact (Row.cell rfl))) rfl ?_ | refine JL.nil ?_ | with_reducible refine JE.nextR ?_ | refine JR.region rfl (by first | with_reducible exact lo_roundQ | with_reducible exact lo_then lo_roundQ | with_reducible exact lo_blk lo_roundQ | with_reducible exact lo_then (lo_blk lo_roundQ) | with_reducible exact lo_roundX | with_reducible exact lo_then lo_roundX | with_reducible exact lo_blk lo_roundX | with_reducible exact lo_then (lo_blk lo_roundX) | with_reducible exact lo_then (lo_then (lo_blk lo_roundX))) ?_)
    refine JL.appendS (r := [13, 10]) (xs := T.map U8 ++ (x.part 76 j).l.map U8) (fun b3 cap3 => ⟨b2, Row 3 [N 76], false⟩ :: ⟨b1, Row 22 [x.v], false⟩ :: ⟨tb, Row 22 [.slice (some ⟨b'', 0, none⟩) (T.length + (x.part 76 j).l.length) cap''], true⟩ :: ⟨b3, Sl.Own 5 1 (T.length + (x.part 76 j).l.length + 2) cap3 (T.map U8 ++ (x.part 76 j).l.map U8 ++ ([13, 10] : List Bt).map U8), true⟩ :: (x.ents ++ [])) Tryz.underlying22 Tryz.underlying9 u8e rfl rfl (by intro _ _; repeat (first | exact Repl.here | apply Repl.there)) (by show _ + 2 ≤ _; omega) rfl fun b3 cap3 => ?_
    refine JL.store_eq (r' := [.slice (some ⟨b3, 0, none⟩) (T.length + (x.part 76 j).l.length + 2) cap3]) (M' := ⟨b2, Row 3 [N 76], false⟩ :: ⟨b1, Row 22 [x.v], false⟩ :: ⟨tb, Row 22 [.slice (some ⟨b3, 0, none⟩) (T.length + (x.part 76 j).l.length + 2) cap3], true⟩ :: ⟨b3, Sl.Own 5 1 (T.length + (x.part 76 j).l.length + 2) cap3 (T.map U8 ++ (x.part 76 j).l.map U8 ++ ([13, 10] : List Bt).map U8), true⟩ :: (x.ents ++ [])) armU rfl rfl rfl rfl (by repeat (first | exact Upd.here | apply Upd.there)) (by simp) rfl ?_
    repeat (first | refine JL.nil ?_ | with_reducible refine JE.blk_normal ?_)
    refine JE.round (b3, cap3, pre' ++ [j]) rfl ?_
    dsimp only
    rw [hsn', ln76, List.length_append, List.length_append, List.append_assoc, ← List.map_append, ← List.map_append]
    exact Less.refl _
  case hdone =>
    rintro D xs ⟨b', cap', pre⟩ rfl rfl
    dsimp only
    rw [hall]
    generalize fl 76 ln76 x.l = Y
    repeat (first | refine KL.q (by first | (apply OQ.load; exact armC; exact rfl; exact (by repeat (first | exact Has.here | apply Has.there)); exact (Row.cell rfl)) | (apply OQ.assign; exact rfl)) rfl ?_ | refine KC.seq ?_ | refine KC.region ?_ | refine KL.nil ?_ | refine KE.next ?_ | refine KE.blk_normal ?_)
    refine KC.ret ?_
    exact KE.ret1 rfl rfl fun w' hw => ⟨⟨some ⟨b', 0, none⟩, cap', Y⟩, rfl, ⟨rfl, by simp⟩, hw.weak (.drop _ _ _ (.drop _ _ _ (.drop _ _ _ (.keep _ _ _ _ _ _ (fun o h => ⟨Sl.Own.cells o h, by obtain ⟨_, _, _, _, h4⟩ := h; exact h4, rfl⟩) (.nil _)))))⟩
/-! ### blanks -/
end Go.Proofs.YtdabhneehconeaaGreatDoor

/-
  Of no statement by itself: what the landed quoted's blank, beginsEnd, blanks, ending, ends, worth and escapedByte give.
  Conditions: each theorem's own.
-/
namespace Go.Proofs.YtdabhneehconeaaGreatDoor
set_option maxRecDepth 10000
open Sl Fld Quo
/-! ### blanks -/
/-! ### ends -/
/-! ### digits -/
end Go.Proofs.YtdabhneehconeaaGreatDoor

/-
  Of no statement by itself: a rule for a scope with several labels that are jumped to, over partial knowledge of frame and memory, for any program P.
  Conditions: the rule's own hypotheses.
-/
namespace Go.Proofs.YtdabhneehconeaaGreatDoor
set_option maxRecDepth 10000
namespace Sl
section
variable {P : Program} {n : Nat} {w0 : World} {S : List Nat} {Q : Exit → Act → World → Prop} {E : Env} {M : List Ent}
end
end Sl
end Go.Proofs.YtdabhneehconeaaGreatDoor

/-
  Of no statement by itself: what the landed quoted.Decode gives.
  Conditions: the theorem's own.
-/
namespace Go.Proofs.YtdabhneehconeaaGreatDoor
set_option maxRecDepth 10000
open Sl Fld Quo
namespace Quo
end Quo
structure QdS where
  esc : Bool
  x : Sl8
  k : Nat
  o : List Bt
  b : Nat
  cap : Nat
def QdS.left (z : QdS) : List Bt := if z.esc then z.x.l else z.x.l.drop z.k
end Go.Proofs.YtdabhneehconeaaGreatDoor

/-
  Of no statement by itself: how the landed token reads parameters, from left to right, is what the reference's parts give; pure; no program stands here.
  Conditions: none but each lemma's own.
-/
namespace Go.Proofs.YtdabhneehconeaaGreatDoor
namespace Tok
open Fld
/-! ### what stands between quotes -/
inductive Inn : List Fld.By → List Fld.By → Prop
  | nil : Inn [] []
  | esc (c : Fld.By) {i t : List Fld.By} (h : Inn i t) : Inn (92 :: c :: i) (c :: t)
  | chr {c : Fld.By} (h1 : ¬ c = 34) (h2 : ¬ c = 92) {i t : List Fld.By} (h : Inn i t) : Inn (c :: i) (c :: t)
theorem Inn.sok {i t : List Fld.By} (h : Inn i t) : i.all Fld.sok = t.all Fld.sok := by
  induction h with
  | nil => rfl
  | esc c _ ih => rw [List.all_cons, List.all_cons, List.all_cons, ih, show Fld.sok 92 = true by decide, Bool.true_and]
  | chr _ _ _ ih => rw [List.all_cons, List.all_cons, ih]
/-! ### from left to right -/
/-! ### what a part is -/
/-! ### A1 -/
/-! ### A2 -/
/-! ### A3 -/
/-! ### A4 -/
/-! ### A5, A6 -/
/-! ### all parameters -/
/-! ### kind and parameters -/
end Tok
end Go.Proofs.YtdabhneehconeaaGreatDoor

/-
  Of no statement by itself: what the landed token's isKind, noBig, mayBeQuoted, part, unquoted and readValue give.
  Conditions: each theorem's own.
-/
namespace Go.Proofs.YtdabhneehconeaaGreatDoor
set_option maxRecDepth 10000
open Sl Fld Tok
theorem goes_isKind : Goes Tryz.prog 128 := ⟨_, Tryz.func128, rfl, by kernel_rfl⟩
theorem goes_may : Goes Tryz.prog 131 := ⟨_, Tryz.func131, rfl, by kernel_rfl⟩
theorem goes_may1 : Goes Tryz.prog 187 := ⟨_, Tryz.func187, rfl, by kernel_rfl⟩
set_option maxHeartbeats 8000000 in
theorem isKind_any (s : List Bt) (w : World) (hl : s.length < 9223372036854775807) : Calls Tryz.prog 128 [Z s].toArray w fun e w' => e = .returned (.bool (kindB s)) ∧ Ext w w' := by
  refine enter (n := 21) Tryz.func128 rfl rfl rfl (Holds.start w []) ?_
  have cC := fun w' => cutw_any s 47 w' hl
  have hfl := fi_le 47 s
  have hk : kindB s = (decide (fi 47 s < s.length) && (atomB (s.take (fi 47 s)) && atomB (s.drop (fi 47 s + 1)))) := rfl
  rw [hk]
  unfold cutV at cC
  by_cases hf : fi 47 s < s.length
  · rw [if_pos hf] at cC
    rw [decide_eq_true hf, Bool.true_and]
    have h1 : (s.take (fi 47 s)).length ≤ s.length := by rw [List.length_take]; omega
    have h2 : (s.drop (fi 47 s + 1)).length ≤ s.length := by rw [List.length_drop]; omega
    generalize s.take (fi 47 s) = a at cC h1
    generalize s.drop (fi 47 s + 1) = b at cC h2
    have c1 := fun w' => atomA_any a w' (by omega)
    have c2 := fun w' => atomA_any b w' (by omega)
    cases d1 : atomB a <;> cases d2 : atomB b
    all_goals rw [d1] at c1
    all_goals rw [d2] at c2
    all_goals (repeat (first | refine JL.q (by first | (apply OQ.callx (vs := [Z s, Z [47]]); exact goes_cutw; exact rfl; exact (fun w' _ => cC w')) | (apply OQ.extract; exact rfl; exact rfl) | (apply OQ.pick_t; exact rfl; exact rfl) | (apply OQ.pick_f; exact rfl; exact rfl) | (apply OQ.callx (vs := [Z a]); exact goes_atomA; exact rfl; exact (fun w' _ => c1 w')) | (apply OQ.callx (vs := [Z b]); exact goes_atomA; exact rfl; exact (fun w' _ => c2 w')) | (apply OQ.move; exact rfl) | (apply OQ.assign; exact rfl)) rfl ?_ | refine JC.seq ?_ | refine JC.region ?_ | refine JL.nil ?_ | refine JE.next ?_ | refine JL.gon rfl rfl ?_ | refine JL.gskip rfl rfl rfl rfl ?_))
    all_goals exact JC.ret (JE.ret1 rfl (RV.tmp rfl) fun w' hw => ⟨rfl, hw.chg⟩)
  · rw [if_neg hf] at cC
    rw [decide_eq_false hf, Bool.false_and]
    repeat (first | refine JL.q (by first | (apply OQ.callx (vs := [Z s, Z [47]]); exact goes_cutw; exact rfl; exact (fun w' _ => cC w')) | (apply OQ.extract; exact rfl; exact rfl) | (apply OQ.pick_f; exact rfl; exact rfl) | (apply OQ.move; exact rfl) | (apply OQ.assign; exact rfl)) rfl ?_ | refine JC.seq ?_ | refine JC.region ?_ | refine JL.nil ?_ | refine JE.next ?_ | refine JL.gskip rfl rfl rfl rfl ?_)
    exact JC.ret (JE.ret1 rfl (RV.tmp rfl) fun w' hw => ⟨rfl, hw.chg⟩)
theorem sok_parts (c : Fld.By) : sok c = ((decide ((32 : Int) ≤ (c.toNat : Int)) && decide ((c.toNat : Int) ≤ 126)) || decide (c = 9)) := by
  have h : ∀ c : Fin 256, sok (BitVec.ofNat 8 c.val) = ((decide ((32 : Int) ≤ ((BitVec.ofNat 8 c.val).toNat : Int)) && decide (((BitVec.ofNat 8 c.val).toNat : Int) ≤ 126)) || decide (BitVec.ofNat 8 c.val = 9)) := by decide +kernel
  simpa using h ⟨c.toNat, c.isLt⟩
set_option maxHeartbeats 4000000 in
theorem may1_any (c : Bt) (w : World) : Calls Tryz.prog 187 [U8 c].toArray w fun e w' => e = .returned (.bool (sok c)) ∧ Ext w w' := by
  refine enter (n := 13) Tryz.func187 rfl rfl rfl (Holds.start w []) ?_
  rw [sok_parts]
  cases h1 : decide ((32 : Int) ≤ (c.toNat : Int)) <;> cases h2 : decide ((c.toNat : Int) ≤ 126) <;> cases h3 : decide (c = 9)
  all_goals (repeat (first | refine JL.q (by first | (apply OQ.geqB (b := 32); exact rfl; exact rfl; exact h1) | (apply OQ.leqB (b := 126); exact rfl; exact rfl; exact h2) | (apply OQ.eq8T (b := 9); exact rfl; exact rfl; exact h3) | (apply OQ.pick_t; exact rfl; exact rfl) | (apply OQ.pick_f; exact rfl; exact rfl) | (apply OQ.move; exact rfl) | (apply OQ.assign; exact rfl)) rfl ?_ | refine JC.seq ?_ | refine JC.region ?_ | refine JL.nil ?_ | refine JE.next ?_ | refine JL.gon rfl rfl ?_ | refine JL.gskip rfl rfl rfl rfl ?_))
  all_goals exact JC.ret (JE.ret1 rfl (RV.tmp rfl) fun w' hw => ⟨rfl, hw.chg⟩)
@[reducible] def fnV (f : FuncId) : Value := .func (.func f) #[] #[]
theorem fun_may (w : World) : Fun8 Tryz.prog w (fnV 187) sok := ⟨_, [], rfl, goes_may1, fun c w' _ => may1_any c w'⟩
theorem run_all (p : Fld.By → Bool) (s : List Fld.By) : decide ((runB p s : Int) = (s.length : Int)) = s.all p := by
  rw [Bool.eq_iff_iff, decide_eq_true_eq, ← runB_all]
  omega
set_option maxHeartbeats 4000000 in
theorem may_any (s : List Bt) (w : World) (hl : s.length < 9223372036854775808) : Calls Tryz.prog 131 [Z s].toArray w fun e w' => e = .returned (.bool (s.all sok)) ∧ Ext w w' := by
  refine enter (n := 8) Tryz.func131 rfl rfl rfl (Holds.start w []) ?_
  have hr := run_all sok s
  generalize s.all sok = b at hr
  repeat (first | refine JL.q (by first | (apply OQ.callx (vs := [Z s, fnV 187]); exact goes_run; exact rfl; exact (fun w' _ => run_any s _ sok w' (fun_may w') hl)) | (apply OQ.lenS; exact Tryz.underlying9; exact rfl) | (apply OQ.eqB; exact rfl; exact rfl; exact hr) | (apply OQ.move; exact rfl) | (apply OQ.assign; exact rfl)) rfl ?_ | refine JC.seq ?_ | refine JC.region ?_ | refine JL.nil ?_ | refine JE.next ?_)
  exact JC.ret (JE.ret1 rfl (RV.tmp rfl) fun w' hw => ⟨rfl, hw.chg⟩)
theorem goes_noBig : Goes Tryz.prog 129 := ⟨_, Tryz.func129, rfl, by kernel_rfl⟩
theorem goes_noBig1 : Goes Tryz.prog 185 := ⟨_, Tryz.func185, rfl, by kernel_rfl⟩
def lowB (c : Fld.By) : Bool := decide ((c.toNat : Int) < 65) || decide ((90 : Int) < (c.toNat : Int))
theorem low_small (c : Fld.By) : lowB c = decide (small c = c) := by
  have h : ∀ c : Fin 256, lowB (BitVec.ofNat 8 c.val) = decide (small (BitVec.ofNat 8 c.val) = BitVec.ofNat 8 c.val) := by decide +kernel
  simpa using h ⟨c.toNat, c.isLt⟩
theorem low_all : ∀ s : List Fld.By, s.all lowB = decide (s.map small = s)
  | [] => rfl
  | c :: s => by
    rw [List.all_cons, low_all s, low_small, List.map_cons, Bool.eq_iff_iff, Bool.and_eq_true, decide_eq_true_eq, decide_eq_true_eq, decide_eq_true_eq, List.cons.injEq]
set_option maxHeartbeats 4000000 in
theorem noBig1_any (c : Bt) (w : World) : Calls Tryz.prog 185 [U8 c].toArray w fun e w' => e = .returned (.bool (lowB c)) ∧ Ext w w' := by
  refine enter (n := 9) Tryz.func185 rfl rfl rfl (Holds.start w []) ?_
  unfold lowB
  cases h1 : decide ((c.toNat : Int) < 65) <;> cases h2 : decide ((90 : Int) < (c.toNat : Int))
  all_goals (repeat (first | refine JL.q (by first | (apply OQ.lssB (b := 65); exact rfl; exact rfl; exact h1) | (apply OQ.gtrB (b := 90); exact rfl; exact rfl; exact h2) | (apply OQ.pick_t; exact rfl; exact rfl) | (apply OQ.pick_f; exact rfl; exact rfl) | (apply OQ.move; exact rfl) | (apply OQ.assign; exact rfl)) rfl ?_ | refine JC.seq ?_ | refine JC.region ?_ | refine JL.nil ?_ | refine JE.next ?_ | refine JL.gon rfl rfl ?_ | refine JL.gskip rfl rfl rfl rfl ?_))
  all_goals exact JC.ret (JE.ret1 rfl (RV.tmp rfl) fun w' hw => ⟨rfl, hw.chg⟩)
theorem fun_noBig (w : World) : Fun8 Tryz.prog w (fnV 185) lowB := ⟨_, [], rfl, goes_noBig1, fun c w' _ => noBig1_any c w'⟩
set_option maxHeartbeats 4000000 in
theorem noBig_any (s : List Bt) (w : World) (hl : s.length < 9223372036854775808) : Calls Tryz.prog 129 [Z s].toArray w fun e w' => e = .returned (.bool (decide (s.map small = s))) ∧ Ext w w' := by
  refine enter (n := 8) Tryz.func129 rfl rfl rfl (Holds.start w []) ?_
  have hr := run_all lowB s
  rw [low_all] at hr
  generalize decide (s.map small = s) = b at hr
  repeat (first | refine JL.q (by first | (apply OQ.callx (vs := [Z s, fnV 185]); exact goes_run; exact rfl; exact (fun w' _ => run_any s _ lowB w' (fun_noBig w') hl)) | (apply OQ.lenS; exact Tryz.underlying9; exact rfl) | (apply OQ.eqB; exact rfl; exact rfl; exact hr) | (apply OQ.move; exact rfl) | (apply OQ.assign; exact rfl)) rfl ?_ | refine JC.seq ?_ | refine JC.region ?_ | refine JL.nil ?_ | refine JE.next ?_)
  exact JC.ret (JE.ret1 rfl (RV.tmp rfl) fun w' hw => ⟨rfl, hw.chg⟩)
/-! ### a part -/
end Go.Proofs.YtdabhneehconeaaGreatDoor

/-
  Of no statement by itself: what the landed token's unquoted and readValue give.
  Conditions: each theorem's own.
-/
namespace Go.Proofs.YtdabhneehconeaaGreatDoor
set_option maxRecDepth 10000
open Sl Fld Tok
structure UqS where
  k : Nat
  o : List Bt
  u : List Bt
  b : Nat
  cap : Nat
end Go.Proofs.YtdabhneehconeaaGreatDoor

/-
  Of no statement by itself: what the landed token's Ids gives.
  Conditions: each theorem's own.
-/
namespace Go.Proofs.YtdabhneehconeaaGreatDoor
set_option maxRecDepth 10000
open Sl Fld Tok
structure IdS where
  t : List Bt
  q : Acc
  L : List (List Bt)
end Go.Proofs.YtdabhneehconeaaGreatDoor

/-
  Of no statement by itself: what the landed token's param and Params give.
  Conditions: each theorem's own.
-/
namespace Go.Proofs.YtdabhneehconeaaGreatDoor
set_option maxRecDepth 10000
open Sl Fld Tok
/-! ### Params -/
structure PaS where
  r : List Bt
  q : Acc
  L : List Pr
end Go.Proofs.YtdabhneehconeaaGreatDoor

/-
  Of no statement by itself: what the landed mime's begun and readBody give.
  Conditions: each theorem's own.
-/
namespace Go.Proofs.YtdabhneehconeaaGreatDoor
set_option maxRecDepth 10000
open Sl Fld Mim Tok
theorem ltA12 : aggT Tryz.prog 29 = true := by kernel_rfl
theorem ltS12 : szT Tryz.prog 29 = some 2 := by kernel_rfl
theorem ltZ12 : zc Tryz.prog 29 = some [nil2.v, nilS.v] := by kernel_rfl
theorem bsCF : scal Tryz.prog 22 = true := by kernel_rfl
/-- a leaf's bytes as an answer -/
structure RB (f : List PrB) (b : List Fld.By) where
  c : Int
  x : Sl8
  k : Nat
  nn : x.ad = none → x.l = []
  is : match codB (ceB f) with
    | none => k = 3
    | some c' => match bodyR Quo.Qd c' b with
      | .error e => k = e ∧ e ≠ 0
      | .ok y => k = 0 ∧ c = c' ∧ x.l = y
end Go.Proofs.YtdabhneehconeaaGreatDoor

/-
  Of no statement by itself: what mime's functions owe (MimeOk); over it: what despatchlaw12's speaks and MimeSplits give.
  Conditions: MimeOk, and each theorem's own.
-/
namespace Go.Proofs.YtdabhneehconeaaGreatDoor
set_option maxRecDepth 10000
open Sl Fld Mim
def codeE {α : Type} : Except Nat α → Nat
  | .ok _ => 0
  | .error k => k
def fstE : Except Nat (List Pr × List Bt) → List Pr
  | .ok x => x.1
  | .error _ => []
def sndE : Except Nat (List Pr × List Bt) → List Bt
  | .ok x => x.2
  | .error _ => []
/-- what is looked at of a part that is written -/
def lowP : Nat → Part → Prop
  | 0, _ => True
  | d + 1, p => p.kind.length ≤ 1000 ∧ p.ps.length ≤ 10 ∧ (∀ q ∈ p.ps, q.1.length ≤ 1000 ∧ q.2.length ≤ 1000) ∧ 0 ≤ p.code ∧ p.code ≤ 2 ∧ p.body.length ≤ 4000 ∧ p.parts.length ≤ 5 ∧ ∀ q ∈ p.parts, lowP d q
structure MimeOk (Qd : List Fld.By → Except Nat (List Fld.By)) : Prop where
  bound : ∀ (s : List Bt) (w : World), s.length ≤ 1000 → Calls Tryz.prog 134 [Z s].toArray w fun e w' => e = .returned (.bool (boundB s)) ∧ Ext w w'
  split : ∀ (s : Sl8) (bd : List Bt) (w : World), s.ok w → s.l.length ≤ 100000 → bd.length ≤ 1000 → Calls Tryz.prog 137 [s.v, Z bd].toArray w fun e w' => ∃ q : { q : SlL // q.ls = (spltB s.l bd).1 }, e = .returned (.tuple #[q.1.v, N (spltB s.l bd).2]) ∧ Ext w w' ∧ q.1.ok w'
  read : ∀ (f : Sl2) (s : Sl8) (w : World), EncOk w → f.ok w → s.ok w → small2 f → f.l.length ≤ 60 → s.l.length ≤ 60000 → (∀ p ∈ f.l, sameB p.1 ctN = true ∨ sameB p.1 ceN = true → p.2.length ≤ 10000) → Calls Tryz.prog 31 [.agg #[f.v, s.v]].toArray w fun e w' => ∃ cs : { cs : List Value // cs.length = 5 }, e = .returned (.tuple #[.agg cs.1.toArray, N (codeE (readP Qd 8 f.l s.l))]) ∧ Ext w w' ∧ ∀ p, readP Qd 8 f.l s.l = .ok p → IsPart 10 w' p cs.1
structure MimeW : Prop where
  write : ∀ (Qe : List Fld.By → List Fld.By) (p : Part) (cs : List Value) (w : World), EncOk w → IsPart 10 w p cs → noQ 9 p → lowP 10 p → Calls Tryz.prog 25 [.agg cs.toArray].toArray w fun e w' => ∃ x : { x : Sl2 × Sl8 // x.1.l = fstE (writeP Qe 8 p) ∧ x.2.l = sndE (writeP Qe 8 p) }, e = .returned (.tuple #[.agg #[x.1.1.v, x.1.2.v], N (codeE (writeP Qe 8 p))]) ∧ Ext w w' ∧ (x.1.1.ok w' ∧ x.1.2.ok w')
theorem build_L0 {n : Nat} {E : Env} {C : World → Prop} {dst : Option Tmp} {ty : TypeId} {pos : String} {aft : Array Edge} {g : Option (Nat × Bool)} : OQ Tryz.prog n E C ⟨dst, .build 29 #[], ty, pos, aft, g⟩ (.agg #[nil2.v, nilS.v]) := by
  refine OQ.run fun k hk w _ => ?_
  have h3 := run_build (P := Tryz.prog) w 29 #[] #[nil2.v, nilS.v] (by kernel_rfl)
  simp [execOp, Sem.run_bind, h3]
end Go.Proofs.YtdabhneehconeaaGreatDoor

/-
  Of no statement by itself: what the landed letter's Drop and Set give.
  Conditions: each theorem's own.
-/
namespace Go.Proofs.YtdabhneehconeaaGreatDoor
set_option maxRecDepth 10000
open Sl Fld
theorem accP_ents {e : TypeId} (q : Acc) (l : List Pr) : Less (accLp q l).ents (accP e q l) := by
  cases q with
  | none => exact .nil _
  | some p => exact own2_ents
theorem accLp_n {q : Acc} {l : List Pr} : (accLp q l).ad = none → (accLp q l).l = [] := by
  cases q with
  | none => intro _; rfl
  | some p => nofun
end Go.Proofs.YtdabhneehconeaaGreatDoor

/-
  Of no statement by itself: what the landed letter's Set gives; Drop's and Set's answers as new memory.
  Conditions: each theorem's own.
-/
namespace Go.Proofs.YtdabhneehconeaaGreatDoor
set_option maxRecDepth 10000
open Sl Fld
theorem JC.perm {P : Program} {n : Nat} {w0 : World} {S : List Nat} {Q : Exit → Act → World → Prop} {c : Code} {E : Env} {M M' : List Ent} (h : JC P n w0 S Q c E M') (hp : M.Perm M') : JC P n w0 S Q c E M := ⟨fun a w ha hw => h.go a w ha (hw.perm' hp)⟩
theorem OQ.lenV {P : Program} {n : Nat} {E : Env} {C : World → Prop} {dst : Option Tmp} {t ty e : TypeId} {pos : String} {aft : Array Edge} {g : Option (Nat × Bool)} {x : Operand} {q : Acc} {k : Nat} (hu : P.underlying t = some (.slice e)) (hx : ev E x = some (accV q k)) (hq : q = none → k = 0) : OQ P n E C ⟨dst, .call ⟨.builtin .len, #[x], #[t]⟩, ty, pos, aft, g⟩ (N k) := by
  cases q with
  | none => rw [hq rfl]; exact OQ.len hu hx
  | some r => exact OQ.len hu hx
end Go.Proofs.YtdabhneehconeaaGreatDoor

/-
  Of no statement by itself: what the landed letter's head and Write give; so letter's functions owe nothing (letterOk).
  Conditions: each theorem's own.
-/
namespace Go.Proofs.YtdabhneehconeaaGreatDoor
set_option maxRecDepth 10000
open Sl Fld
namespace Fld
def mkS (m : List By) (p : Pr) : List By := if m.length ≤ 65536 then m ++ foldB p.1 p.2 else m
def mkH (l : List Pr) : List By := l.foldl mkS []
def allG (l : List Pr) : Bool := l.all fun p => goodF p.1 p.2
def hdO (l : List Pr) : List By := if allG l then mkH l ++ [13, 10] else []
def hdK (l : List Pr) : Nat := if allG l then 0 else 3
theorem mk_fold : ∀ (l : List Pr) (m : List By), (m.length + (headB l).length ≤ 65536 → l.foldl mkS m = m ++ headB l) ∧ (65536 < m.length + (headB l).length → 65536 < (l.foldl mkS m).length)
  | [], m => ⟨fun _ => by simp [headB], fun h => by simpa [headB] using h⟩
  | p :: l, m => by
    obtain ⟨i1, i2⟩ := mk_fold l (mkS m p)
    have e : (headB (p :: l)) = foldB p.1 p.2 ++ headB l := by simp [headB]
    rw [e, List.length_append, List.foldl_cons]
    by_cases hm : m.length ≤ 65536
    · have hs : mkS m p = m ++ foldB p.1 p.2 := if_pos hm
      rw [hs, List.length_append] at i1 i2
      rw [hs]
      exact ⟨fun h => by rw [i1 (by omega), List.append_assoc], fun h => i2 (by omega)⟩
    · have hs : mkS m p = m := if_neg hm
      rw [hs] at i1 i2
      rw [hs]
      exact ⟨fun h => by omega, fun h => i2 (by omega)⟩
theorem writeK_is (l : List Pr) (b : List By) : writeK l b = if allG l then (if 200 < l.length ∨ 65536 < (hdO l).length ∨ 2097152 < (hdO l).length + b.length then 4 else 0) else 3 := by
  have ha : (l.all fun p => nameB p.1 && valB p.2) = allG l := rfl
  unfold writeK
  rw [ha]
  cases hg : allG l
  · rfl
  · have ho : hdO l = mkH l ++ [13, 10] := by rw [hdO, hg]; rfl
    rw [if_pos rfl, if_pos rfl, ho, List.length_append]
    obtain ⟨i1, i2⟩ := mk_fold l []
    simp only [List.length_nil, Nat.zero_add, List.nil_append] at i1 i2
    have hk : l.foldl mkS [] = mkH l := rfl
    rw [hk] at i1 i2
    by_cases hh : (headB l).length ≤ 65536
    · rw [i1 hh]
      simp only [List.length_cons, List.length_nil]
    · have := i2 (by omega)
      rw [if_pos (.inr (.inl (by omega))), if_pos (.inr (.inl (by simp only [List.length_cons, List.length_nil]; omega)))]
theorem writeO_is {l : List Pr} {b : List By} (h : writeK l b = 0) : writeO l b = hdO l ++ b := by
  rw [writeO, if_pos h]
  rw [writeK_is] at h
  cases hg : allG l
  · rw [hg] at h; cases h
  · rw [hg, if_pos rfl] at h
    split at h
    · cases h
    · next hn =>
      have ho : hdO l = mkH l ++ [13, 10] := by rw [hdO, hg]; rfl
      rw [ho, List.length_append] at hn
      rw [ho]
      obtain ⟨i1, i2⟩ := mk_fold l []
      simp only [List.length_nil, Nat.zero_add, List.nil_append] at i1 i2
      have hk : l.foldl mkS [] = mkH l := rfl
      rw [hk] at i1 i2
      by_cases hh : (headB l).length ≤ 65536
      · rw [i1 hh]
      · have := i2 (by omega)
        exact absurd (.inr (.inl (by simp only [List.length_cons, List.length_nil]; omega))) hn
theorem mk_len : ∀ (l : List Pr) (m : List By), allG l = true → m.length ≤ 100000 → (l.foldl mkS m).length ≤ 100000
  | [], _, _, h => h
  | p :: l, m, hg, h => by
    have hg2 : (goodF p.1 p.2 && allG l) = true := hg
    rw [Bool.and_eq_true] at hg2
    have hgp : nameB p.1 = true ∧ valB p.2 = true := by simpa [goodF] using hg2.1
    have l1 := nameB_len hgp.1
    have l2 := valB_len hgp.2
    have l3 := foldB_len p.1 p.2
    rw [List.foldl_cons]
    refine mk_len l _ hg2.2 ?_
    unfold mkS
    split
    · rw [List.length_append]; omega
    · exact h
theorem hdO_len (l : List Pr) : (hdO l).length ≤ 100002 := by
  cases hg : allG l
  · rw [hdO, hg]; exact Nat.zero_le _
  · rw [hdO, hg, if_pos rfl, List.length_append]
    have := mk_len l [] hg (Nat.zero_le _)
    have hk : l.foldl mkS [] = mkH l := rfl
    rw [hk] at this
    simp only [List.length_cons, List.length_nil]
    omega
theorem writeO_no {l : List Pr} {b : List By} (h : writeK l b ≠ 0) : writeO l b = [] := by rw [writeO, if_neg h]
end Fld
theorem goes_lhead : Goes Tryz.prog 33 := ⟨_, Tryz.func33, rfl, by kernel_rfl⟩
structure HdT where
  i : Nat
  o : List Bt
  q : Acc
set_option maxHeartbeats 32000000 in
theorem lhead_any (f : Sl2) (w : World) (hf : f.ok w) (hz : small2 f) (hl : f.l.length ≤ 1000000) : Calls Tryz.prog 33 [f.v].toArray w fun e w' => ∃ q : { q : Acc // q = none → hdO f.l = [] }, e = .returned (.tuple #[accV q.1 (hdO f.l).length, N (hdK f.l)]) ∧ Holds w [] (accE 5 q.1 ((hdO f.l).map U8)) w' := by
  refine enter (n := 32) Tryz.func33 rfl rfl rfl (Holds.start w []) ?_
  repeat (first | refine JL.q (by first | (apply OQ.len; exact Tryz.underlying27; exact rfl) | (apply OQ.move; exact rfl) | (apply OQ.assign; exact rfl)) rfl ?_ | refine JC.seq ?_ | refine JC.region ?_ | refine JC.block ?_ | refine JL.nil ?_ | refine JE.next ?_)
  refine JC.loop (fun z : HdT => [(4, accV z.q z.o.length), (9, f.v), (10, N f.l.length), (11, N z.i)]) (fun z => accE 5 z.q (z.o.map U8) ++ []) (fun z => f.l.length - z.i) (fun z => z.i ≤ f.l.length ∧ (z.q = none → z.o = []) ∧ z.o.length ≤ 100000 ∧ allG f.l = allG (f.l.drop z.i) ∧ mkH f.l = (f.l.drop z.i).foldl mkS z.o) ⟨0, [], none⟩ ⟨Nat.zero_le _, fun _ => rfl, Nat.zero_le _, rfl, rfl⟩ (by repeat (first | exact SubE.nil | refine SubE.cons _ _ _ rfl ?_)) (.nil _) ?_
  rintro ⟨i, o, q⟩ ⟨hi, hq, ho, hg, hm⟩
  dsimp only at hi hq ho hg hm ⊢
  repeat (first | refine JL.q (by (apply OQ.lssN; exact rfl; exact rfl)) rfl ?_ | refine JC.seq ?_ | refine JC.region ?_ | refine JL.nil ?_ | refine JE.next ?_)
  refine JC.cond rfl (fun h => ?_) (fun h => ?_)
  · have hi' : i < f.l.length := of_decide_eq_true h
    clear h hi
    obtain ⟨ba, ja, eA, la, ca1, ca2⟩ := hf.at hi'
    have vA : f.v = .slice (some ⟨ba, ja, none⟩) f.l.length f.cap := by rw [← eA]; rfl
    have cA := pair_cells ca1 ca2
    have hDi := hz _ (mem_getD hi')
    rw [drop_pr hi'] at hg hm
    generalize f.l.getD i ([], []) = c at hg hm cA hDi
    obtain ⟨n, v⟩ := c
    rw [List.foldl_cons] at hm
    have hg2 : allG f.l = (goodF n v && allG (f.l.drop (i + 1))) := hg
    clear hg
    rw [vA]
    repeat (first | refine JL.q (by first | (apply OQ.idxS; exact Tryz.underlying27; exact fieldS; exact rfl; exact rfl; exact hi') | (apply OQ.load_agg_old (cs := pc (n, v)); exact fieldA; exact rfl; exact fieldS; exact la; exact (by simp); exact cA)) rfl ?_ | refine JC.seq ?_ | refine JC.region ?_ | refine JC.block ?_ | refine JC.skip ?_ | refine JE.next ?_)
    refine JL.alloc fieldZb rfl fun b8 _ => ?_
    refine JL.store_all (cs := pc (n, v)) fieldS rfl rfl rfl rfl .here rfl ?_
    repeat (first | refine JL.q (by (apply OQ.load_agg (cs := pc (n, v)); exact fieldA; exact fieldS; exact rfl; exact .here; exact rfl; exact Row.all)) rfl ?_ | refine JC.seq ?_ | refine JC.region ?_ | refine JL.nil ?_ | refine JE.next ?_)
    refine JL.callg (vs := [.agg (pc (n, v)).toArray]) (ι := { x : Sl8 // Ans x (foldR n v) }) (fun x => .tuple #[x.1.v, N (codeF n v)]) (fun x => x.1.ents) goes_ffold rfl rfl (fun x => x.1.ents_wr) (fun w' _ => ffold_any n v w' hDi.1 hDi.2) ?_
    rintro ⟨x, hx1, hx2⟩
    dsimp only
    cases h1 : goodF n v
    · rw [h1] at hg2
      have hc : codeF n v = 3 := by rw [codeF, h1]; rfl
      have hO : hdO f.l = [] := by rw [hdO, hg2]; rfl
      have hK : hdK f.l = 3 := by rw [hdK, hg2]; rfl
      have h0 : decide (((3 : Nat) : Int) = 0) = false := rfl
      rw [hc, hO, hK]
      repeat (first | refine JL.q (by first | (apply OQ.extract; exact rfl; exact rfl) | (apply OQ.neB (a := ((3 : Nat) : Int)) (b := 0); exact rfl; exact rfl; exact h0) | (apply OQ.move; exact rfl) | (apply OQ.assign; exact rfl)) rfl ?_ | refine JC.seq ?_ | refine JC.region ?_ | refine JL.nil ?_ | refine JE.next ?_)
      refine JC.cond rfl (fun _ => ?_) (fun h => by cases h)
      repeat (first | refine JL.q (by first | (apply OQ.move; exact rfl) | (apply OQ.assign; exact rfl)) rfl ?_ | refine JC.seq ?_ | refine JC.region ?_ | refine JL.nil ?_ | refine JE.next ?_)
      refine JC.ret ?_
      repeat (first | refine JE.then_ret ?_ | refine JE.blk_ret ?_)
      exact JE.ret2 rfl (RV.tmp rfl) (RV.tmp rfl) fun w' hw => ⟨⟨none, fun _ => rfl⟩, rfl, Sl.Holds.weak hw (.nil _)⟩
    · rw [h1, Bool.true_and] at hg2
      have hc : codeF n v = 0 := by rw [codeF, h1]; rfl
      have hR : foldR n v = foldB n v := by rw [foldR, h1]; rfl
      have h0 : decide (((0 : Nat) : Int) = 0) = true := rfl
      have hgp : nameB n = true ∧ valB v = true := by simpa [goodF] using h1
      have l1 := nameB_len hgp.1
      have l2 := valB_len hgp.2
      have l3 := foldB_len n v
      rw [hR] at hx1
      rw [hc]
      cases h2 : decide ((o.length : Int) ≤ 65536)
      · have h2' := of_decide_eq_false h2
        have hs : mkS o (n, v) = o := if_neg (by omega)
        rw [hs] at hm
        repeat (first | refine JL.q (by first | (apply OQ.extract; exact rfl; exact rfl) | (apply OQ.neB (a := ((0 : Nat) : Int)) (b := 0); exact rfl; exact rfl; exact h0) | (apply OQ.move; exact rfl) | (apply OQ.assign; exact rfl)) rfl ?_ | refine JC.seq ?_ | refine JC.region ?_ | refine JL.nil ?_ | refine JE.next ?_)
        refine JC.cond rfl (fun h => by cases h) (fun _ => ?_)
        repeat (first | refine JL.q (by first | (apply OQ.lenV; exact Tryz.underlying22; exact rfl; exact (fun h => by rw [hq h]; rfl)) | (apply OQ.leqB (b := 65536); exact rfl; exact rfl; exact h2) | (apply OQ.move; exact rfl)) rfl ?_ | refine JC.seq ?_ | refine JC.region ?_ | refine JC.skip ?_ | refine JL.nil ?_ | refine JE.next ?_)
        refine JC.cond rfl (fun h => by cases h) (fun _ => ?_)
        repeat (first | refine JL.q (by first | (apply OQ.move; exact rfl) | (apply OQ.addN; exact rfl; exact rfl; exact (by (try simp only []); omega))) rfl ?_ | refine JC.region ?_ | refine JC.skip ?_ | refine JL.nil ?_ | refine JE.next ?_ | refine JE.blk_normal ?_)
        rw [← vA]
        exact JE.again (i := HdT.mk i o q) (HdT.mk (i + 1) o q) ⟨hi', hq, ho, hg2, hm⟩ (by dsimp only; omega) (by repeat (first | exact SubE.nil | refine SubE.cons _ _ _ rfl ?_)) (less_of_sub ((List.sublist_cons_self _ _).trans (List.sublist_append_right _ _)))
      · have h2' := of_decide_eq_true h2
        have hs : mkS o (n, v) = o ++ foldB n v := if_pos (by omega)
        rw [hs] at hm
        repeat (first | refine JL.q (by first | (apply OQ.extract; exact rfl; exact rfl) | (apply OQ.neB (a := ((0 : Nat) : Int)) (b := 0); exact rfl; exact rfl; exact h0) | (apply OQ.move; exact rfl) | (apply OQ.assign; exact rfl)) rfl ?_ | refine JC.seq ?_ | refine JC.region ?_ | refine JL.nil ?_ | refine JE.next ?_)
        refine JC.cond rfl (fun h => by cases h) (fun _ => ?_)
        repeat (first | refine JL.q (by first | (apply OQ.lenV; exact Tryz.underlying22; exact rfl; exact (fun h => by rw [hq h]; rfl)) | (apply OQ.leqB (b := 65536); exact rfl; exact rfl; exact h2) | (apply OQ.move; exact rfl)) rfl ?_ | refine JC.seq ?_ | refine JC.region ?_ | refine JC.skip ?_ | refine JL.nil ?_ | refine JE.next ?_)
        refine JC.cond rfl (fun _ => ?_) (fun h => by cases h)
        repeat (first | refine JL.q (by (apply OQ.move; exact rfl)) rfl ?_ | refine JC.region ?_)
        refine JL.lessM (M' := x.ents ++ (accE 5 q (o.map U8) ++ [])) ?_ (less_mid _)
        refine JL.perm ?_ (List.perm_append_comm_assoc _ _ _)
        refine JL.appendQ (xs := o.map U8) (cs := x.l.map U8) (m := x.l.length) (ad := x.ad) (sc := x.cap) q Tryz.underlying22 u8e (fun h => by rw [hq h]; rfl) (by rw [List.length_map]; rfl) rfl (by rw [List.length_map]) (fun w' hw' => (Sl8.ents_ok (Sl.Holds.weak hw' (less_of_sub (List.sublist_append_right _ _))) hx2).reads) (all8U _) rfl (by rw [List.length_map, hx1]; omega) (by rw [List.length_map, hx1]; omega) rfl fun q' hq' => ?_
        repeat (first | refine JL.q (by first | (apply OQ.move; exact rfl) | (apply OQ.assign; exact rfl) | (apply OQ.addN; exact rfl; exact rfl; exact (by (try simp only []); omega))) rfl ?_ | refine JC.region ?_ | refine JL.nil ?_ | refine JE.next ?_ | refine JE.blk_normal ?_)
        rw [← vA, hx1, ← List.map_append]
        rw [hx1, ← List.map_append] at hq'
        rw [List.length_map]
        exact JE.again (i := HdT.mk i o q) (HdT.mk (i + 1) (o ++ foldB n v) q') ⟨hi', fun h => by simpa using hq' h, by dsimp only; rw [List.length_append]; omega, hg2, hm⟩ (by dsimp only; omega) (by repeat (first | exact SubE.nil | refine SubE.cons _ _ _ rfl ?_)) (less_app2 (.nil _) _)
  · have hi' : ¬ i < f.l.length := of_decide_eq_false h
    clear h
    rw [List.drop_eq_nil_of_le (by omega)] at hg hm
    have hG : allG f.l = true := hg
    have hO : hdO f.l = o ++ [13, 10] := by rw [hdO, hG, if_pos rfl, hm]; rfl
    have hK : hdK f.l = 0 := by rw [hdK, hG]; rfl
    rw [hO, hK]
    repeat (first | refine JL.q (by (apply OQ.move; exact rfl)) rfl ?_ | refine JC.seq ?_ | refine JC.region ?_ | refine JC.exit ?_ | refine JE.next ?_ | refine JE.then_exit ?_ | refine JE.blk_hit ?_)
    refine JL.appendZ (r := [13, 10]) (xs := o.map U8) q Tryz.underlying22 Tryz.underlying9 u8e (fun h => by rw [hq h]; rfl) (by rw [List.length_map]; rfl) rfl (by decide) (by rw [List.length_map]; simp only [List.length_cons, List.length_nil]; omega) rfl fun r => ?_
    rw [← List.map_append, List.length_map]
    repeat (first | refine JL.q (by (apply OQ.assign; exact rfl)) rfl ?_ | refine JL.nil ?_ | refine JE.next ?_)
    refine JC.ret ?_
    skip
    exact JE.ret2 rfl (RV.tmp rfl) (RV.tmp rfl) fun w' hw => ⟨⟨some r, nofun⟩, rfl, Sl.Holds.weak hw (by rw [List.append_nil]; exact Less.refl _)⟩
end Go.Proofs.YtdabhneehconeaaGreatDoor

/-
  Of no statement by itself: what the landed letter's Write gives; so letter's functions owe nothing (letterOk).
  Conditions: each theorem's own.
-/
namespace Go.Proofs.YtdabhneehconeaaGreatDoor
set_option maxRecDepth 10000
open Sl Fld
set_option maxHeartbeats 32000000 in
theorem lwriteN_any (f : Sl2) (s : Sl8) (w : World) (hf : f.ok w) (hs : s.ok w) (hz : small2 f) (hl : f.l.length ≤ 1000000) (hl2 : s.l.length ≤ 4294967296) : Calls Tryz.prog 15 [.agg #[f.v, s.v]].toArray w fun e w' => ∃ y : { y : Sl8 // Ans y (writeO f.l s.l) }, e = .returned (.tuple #[y.1.v, N (writeK f.l s.l)]) ∧ Holds w [] y.1.ents w' := by
  refine enter (n := 37) Tryz.func15 rfl rfl rfl (Holds.start w []) ?_
  refine JC.seq (JC.region (JL.box (r := [f.v, s.v]) rfl rfl rfl fun b1 _ => ?_))
  repeat (first | refine JL.q (by first | (apply OQ.load; exact fsC; exact rfl; exact .here; exact (Row.cell (v := f.v) rfl)) | (apply OQ.assign; exact rfl) | (apply OQ.fld; exact rfl; exact rfl; exact rfl; exact (by decide); exact rfl)) rfl ?_ | refine JC.seq ?_ | refine JC.region ?_ | refine JL.nil ?_ | refine JE.next ?_)
  refine JL.callg (vs := [f.v]) (ι := { q : Acc // q = none → hdO f.l = [] }) (fun q => .tuple #[accV q.1 (hdO f.l).length, N (hdK f.l)]) (fun q => accE 5 q.1 ((hdO f.l).map U8)) goes_lhead rfl rfl (fun q => accE_wr _ _ _) (fun w' hw' => lhead_any f w' (hf.holds hw' rfl) hz hl) ?_
  rintro ⟨q, hq⟩
  dsimp only at hq ⊢
  have hwk := writeK_is f.l s.l
  cases hg : allG f.l
  · have hk : hdK f.l = 3 := by rw [hdK, hg]; rfl
    have hwr : writeK f.l s.l = 3 := by rw [hwk, hg]; rfl
    have hwo := writeO_no (l := f.l) (b := s.l) (by rw [hwr]; decide)
    have h0 : decide (((3 : Nat) : Int) = 0) = false := rfl
    rw [hk, hwr]
    repeat (first | refine JL.q (by first | (apply OQ.extract; exact rfl; exact rfl) | (apply OQ.neB (a := ((3 : Nat) : Int)) (b := 0); exact rfl; exact rfl; exact h0) | (apply OQ.move; exact rfl) | (apply OQ.assign; exact rfl)) rfl ?_ | refine JC.seq ?_ | refine JC.region ?_ | refine JL.nil ?_ | refine JE.next ?_)
    refine JC.cond rfl (fun _ => ?_) (fun h => by cases h)
    repeat (first | refine JL.q (by first | (apply OQ.move; exact rfl) | (apply OQ.assign; exact rfl)) rfl ?_ | refine JC.seq ?_ | refine JC.region ?_ | refine JL.nil ?_ | refine JE.next ?_)
    refine JC.ret ?_
    repeat (refine JE.then_ret ?_)
    exact JE.ret2 rfl (RV.tmp rfl) (RV.tmp rfl) fun w' hw => ⟨⟨nilS, ⟨by rw [hwo]; rfl, fun _ => rfl⟩⟩, rfl, hw.weak (.nil _)⟩
  · have hk : hdK f.l = 0 := by rw [hdK, hg]; rfl
    have h0 : decide (((0 : Nat) : Int) = 0) = true := rfl
    have hO := hdO_len f.l
    rw [hg, if_pos rfl] at hwk
    rw [hk]
    repeat (first | refine JL.q (by first | (apply OQ.extract; exact rfl; exact rfl) | (apply OQ.neB (a := ((0 : Nat) : Int)) (b := 0); exact rfl; exact rfl; exact h0) | (apply OQ.move; exact rfl) | (apply OQ.assign; exact rfl)) rfl ?_ | refine JC.seq ?_ | refine JC.region ?_ | refine JL.nil ?_ | refine JE.next ?_)
    refine JC.cond rfl (fun h => by cases h) (fun _ => ?_)
    refine JC.perm (M' := [⟨b1, Row 29 [f.v, s.v], true⟩] ++ accE 5 q ((hdO f.l).map U8)) ?_ List.perm_append_comm
    cases h1 : decide ((200 : Int) < (f.l.length : Int)) <;> cases h2 : decide ((65536 : Int) < ((hdO f.l).length : Int)) <;> cases h3 : decide ((2097152 : Int) < (((hdO f.l).length + s.l.length : Nat) : Int))
    all_goals (repeat (first | refine JL.q (by first | (apply OQ.load; exact fsC; exact rfl; exact .here; exact (Row.cell (v := f.v) rfl)) | (apply OQ.load; exact bsC; exact rfl; exact .here; exact (Row.cell (v := s.v) rfl)) | (apply OQ.len; exact Tryz.underlying27; exact rfl) | (apply OQ.len; exact Tryz.underlying22; exact rfl) | (apply OQ.lenV; exact Tryz.underlying22; exact rfl; exact (fun h => by rw [hq h]; rfl)) | (apply OQ.gtrB (b := 200); exact rfl; exact rfl; exact h1) | (apply OQ.gtrB (b := 65536); exact rfl; exact rfl; exact h2) | (apply OQ.gtrB (b := 2097152); exact rfl; exact rfl; exact h3) | (apply OQ.pick_t; exact rfl; exact rfl) | (apply OQ.pick_f; exact rfl; exact rfl) | (apply OQ.move; exact rfl) | (apply OQ.addN; exact rfl; exact rfl; exact (by (try simp only []); omega)) | (apply OQ.fld; exact rfl; exact rfl; exact rfl; exact (by decide); exact rfl)) rfl ?_ | refine JC.seq ?_ | refine JC.region ?_ | refine JC.skip ?_ | refine JL.nil ?_ | refine JE.next ?_ | refine JL.gon rfl rfl ?_ | refine JL.gskip rfl rfl rfl rfl ?_))
    all_goals refine JC.cond rfl (fun h => ?_) (fun h => ?_)
    all_goals first | (exfalso; revert h; decide) | skip
    all_goals clear h
    all_goals first
      | (have hwr : writeK f.l s.l = 4 := by
           rw [hwk, if_pos]
           first
             | exact .inl (by have := of_decide_eq_true h1; omega)
             | exact .inr (.inl (by have := of_decide_eq_true h2; omega))
             | exact .inr (.inr (by have := of_decide_eq_true h3; omega))
         have hwo := writeO_no (l := f.l) (b := s.l) (by rw [hwr]; decide)
         rw [hwr]
         (repeat (first | refine JL.q (by (apply OQ.assign; exact rfl)) rfl ?_ | refine JC.seq ?_ | refine JC.region ?_ | refine JL.nil ?_ | refine JE.next ?_))
         refine JC.ret ?_
         (repeat (refine JE.then_ret ?_))
         exact JE.ret2 rfl (RV.tmp rfl) (RV.tmp rfl) fun w' hw => ⟨⟨nilS, ⟨by rw [hwo]; rfl, fun _ => rfl⟩⟩, rfl, hw.weak (.nil _)⟩)
      | skip
    have hwr : writeK f.l s.l = 0 := by
      rw [hwk, if_neg]
      have k1 := of_decide_eq_false h1
      have k2 := of_decide_eq_false h2
      have k3 := of_decide_eq_false h3
      omega
    have hwo := writeO_is (l := f.l) (b := s.l) hwr
    rw [hwr]
    repeat (first | refine JL.q (by first | (apply OQ.load; exact bsC; exact rfl; exact .here; exact (Row.cell (v := s.v) rfl)) | (apply OQ.move; exact rfl) | (apply OQ.fld; exact rfl; exact rfl; exact rfl; exact (by decide); exact rfl)) rfl ?_ | refine JC.seq ?_ | refine JC.region ?_ | refine JC.skip ?_ | refine JE.next ?_)
    refine JL.perm (M' := accE 5 q ((hdO f.l).map U8) ++ [⟨b1, Row 29 [f.v, s.v], true⟩]) ?_ List.perm_append_comm
    refine JL.appendQ (xs := (hdO f.l).map U8) (cs := s.l.map U8) (m := s.l.length) (ad := s.ad) (sc := s.cap) q Tryz.underlying22 u8e (fun h => by rw [hq h]; rfl) (by rw [List.length_map]; rfl) rfl (by rw [List.length_map]) (fun w' hw' => (hs.holds hw' rfl).reads) (all8U _) rfl (by rw [List.length_map]; omega) (by rw [List.length_map]; omega) rfl fun q' hq' => ?_
    rw [← List.map_append] at hq' ⊢
    rw [List.length_map]
    repeat (first | refine JL.q (by (apply OQ.assign; exact rfl)) rfl ?_ | refine JL.nil ?_ | refine JE.next ?_)
    refine JC.ret ?_
    skip
    refine JE.ret2 rfl (RV.tmp rfl) (RV.tmp rfl) fun w' hw => ⟨⟨accS q' (hdO f.l ++ s.l), ⟨?_, accS_none⟩⟩, ?_, (Sl.Holds.weak hw (less_pre _ _)).weak (accS_ents _ _)⟩
    · rw [hwo]; exact accS_l fun h => by simpa using hq' h
    · dsimp only
      rw [accS_v]
      rfl
end Go.Proofs.YtdabhneehconeaaGreatDoor

/-
  Of no statement by itself: what the landed mime's readParts gives, where read gives the parts of what stands one deeper.
  Conditions: each theorem's own.
-/
namespace Go.Proofs.YtdabhneehconeaaGreatDoor
set_option maxRecDepth 10000
open Sl Fld Mim Tok
def codeL {α : Type} : Except Nat α → Nat
  | .ok _ => 0
  | .error k => k
/-- parts as an answer -/
structure PL (d : Nat) (r : Except Nat (List Part)) where
  q : Acc
  subs : List (List Value)
  Ms : List (List Ent)
  hq : q = none → subs = []
  is : ∀ L, r = .ok L → subs.length = L.length ∧ Ms.length = L.length ∧ ∀ i, i < subs.length → PartE d (L.getD i default) (subs.getD i []) (Ms.getD i [])
  wr : ∀ M ∈ Ms, ∀ e ∈ M, e.wr = true
def PL.v {d : Nat} {r : Except Nat (List Part)} (z : PL d r) : Value := accV z.q z.subs.length
def PL.ents {d : Nat} {r : Except Nat (List Part)} (z : PL d r) : List Ent := accC 59 5 z.q z.subs ++ z.Ms.flatten
theorem ptI12 : EI Tryz.prog 59 (.agg pz.toArray) 5 96 := by unfold EI; kernel_rfl
theorem perm_comm3 (A B C : List Ent) : (A ++ (B ++ C)).Perm (B ++ (A ++ C)) := by
  rw [← List.append_assoc, ← List.append_assoc]
  exact List.Perm.append_right _ List.perm_append_comm
structure RpZ where
  i : Nat
  q : Acc
  subs : List (List Value)
  Ms : List (List Ent)
end Go.Proofs.YtdabhneehconeaaGreatDoor

/-
  Of no statement by itself: how long a parameter's value may be.
  Conditions: none but each lemma's own.
-/
namespace Go.Proofs.YtdabhneehconeaaGreatDoor
namespace Mim
open Fld Tok
theorem sem_low : ∀ (n : Nat) (r : List By) (q : Bool) (x : List By), r.length ≤ n → ∀ y ∈ semR r q x, y.length ≤ r.length + x.length := by
  intro n
  induction n with
  | zero =>
    intro r q x hr y hy
    obtain rfl : r = [] := List.eq_nil_of_length_eq_zero (by omega)
    rw [semV_e] at hy
    rw [List.mem_singleton.1 hy]
    omega
  | succ n ih =>
    intro r q x hr y hy
    cases r with
    | nil =>
      rw [semV_e] at hy
      rw [List.mem_singleton.1 hy]
      omega
    | cons c r =>
      simp only [List.length_cons] at hr
      by_cases h : q = true ∧ c = 92
      · obtain ⟨rfl, rfl⟩ := h
        cases r with
        | nil =>
          rw [semV_92e] at hy
          rw [List.mem_singleton.1 hy]
          simp
          omega
        | cons c2 r =>
          rw [semV_92] at hy
          have := ih r true _ (by simp only [List.length_cons] at hr; omega) y hy
          simp only [List.length_append, List.length_cons, List.length_nil] at this ⊢
          omega
      · rw [semV_cons c r q x h] at hy
        split at hy
        · have := ih r _ _ (by omega) y hy
          simp only [List.length_append, List.length_cons, List.length_nil] at this ⊢
          omega
        · split at hy
          · rcases List.mem_cons.1 hy with rfl | hy
            · simp only [List.length_cons]; omega
            · have := ih r _ _ (by omega) y hy
              simp only [List.length_nil, List.length_cons] at this ⊢
              omega
          · have := ih r _ _ (by omega) y hy
            simp only [List.length_append, List.length_cons, List.length_nil] at this ⊢
            omega
theorem unq_low : ∀ (n : Nat) (r o : List By), r.length ≤ n → (unqR r o).1.length ≤ r.length + o.length := by
  intro n
  induction n with
  | zero =>
    intro r o h
    obtain rfl : r = [] := List.eq_nil_of_length_eq_zero (by omega)
    rw [unqR.eq_def]
    simp
  | succ n ih =>
    intro r o h
    cases r with
    | nil => rw [unqR.eq_def]; simp
    | cons c r =>
      simp only [List.length_cons] at h
      rw [unqR.eq_def]
      dsimp only
      split
      · simp only [List.length_cons]; omega
      · split
        · cases r with
          | nil => simp only [List.length_cons]; omega
          | cons c2 r =>
            have := ih r (o ++ [c2]) (by simp only [List.length_cons] at h; omega)
            simp only [List.length_append, List.length_cons, List.length_nil] at this ⊢
            omega
        · have := ih r (o ++ [c]) (by omega)
          simp only [List.length_append, List.length_cons, List.length_nil] at this ⊢
          omega
theorem part_low {s : List By} {p : PrB} (h : partB s = some p) : p.2.length ≤ s.length := by
  have h1 := trim_len (s.drop (fst 61 s + 1))
  rw [List.length_drop] at h1
  unfold partB at h
  split at h
  · cases h
  · split at h
    · cases h
    · split at h
      · cases h
        show (trim _).length ≤ _
        omega
      · split at h
        · cases h
        · split at h
          · cases h
            have := unq_low _ (trim (s.drop (fst 61 s + 1))).tail [] (Nat.le_refl _)
            rw [List.length_tail] at this
            simp only [List.length_nil] at this
            show (unqR _ _).1.length ≤ _
            omega
          · cases h
end Mim
end Go.Proofs.YtdabhneehconeaaGreatDoor

/-
  Of no statement by itself: what the landed mime's read and Read give.
  Conditions: each theorem's own.
-/
namespace Go.Proofs.YtdabhneehconeaaGreatDoor
set_option maxRecDepth 10000
open Sl Fld Mim Tok
theorem ptC12 : scal Tryz.prog 57 = true := by kernel_rfl
end Go.Proofs.YtdabhneehconeaaGreatDoor

/-
  Of no statement by itself: what the landed token's addValue gives.
  Conditions: the theorem's own.
-/
namespace Go.Proofs.YtdabhneehconeaaGreatDoor
set_option maxRecDepth 10000
open Sl Fld Tok
theorem goes_addValue : Goes Tryz.prog 132 := ⟨_, Tryz.func132, rfl, by kernel_rfl⟩
def valW (v : List Fld.By) : List Fld.By := if simpleB v then v else [34] ++ esc v ++ [34]
theorem escW_len (v : List Fld.By) : (esc v).length ≤ 2 * v.length := by
  induction v with
  | nil => decide
  | cons c v ih =>
    have e : esc (c :: v) = (if c = 34 ∨ c = 92 then [92, c] else [c]) ++ esc v := by unfold esc; rw [List.flatMap_cons]
    rw [e, List.length_append, List.length_cons]
    split
    · simp only [List.length_cons, List.length_nil]; omega
    · simp only [List.length_cons, List.length_nil]; omega
theorem valW_len (v : List Fld.By) : (valW v).length ≤ 2 * v.length + 2 := by
  have := escW_len v
  unfold valW
  split
  · omega
  · simp only [List.length_append, List.length_cons, List.length_nil]; omega
theorem esc_take (v : List Fld.By) {i : Nat} (h : i < v.length) : esc (v.take (i + 1)) = esc (v.take i) ++ (if v.getD i 0 = 34 ∨ v.getD i 0 = 92 then [92, v.getD i 0] else [v.getD i 0]) := by
  rw [List.take_add_one, List.getElem?_eq_getElem h, Option.toList_some]
  unfold esc
  rw [List.flatMap_append, List.flatMap_singleton]
  rw [List.getD_eq_getElem?_getD, List.getElem?_eq_getElem h]
  rfl
structure AvS where
  i : Nat
  b : Nat
  cap : Nat
set_option maxHeartbeats 16000000 in
theorem addValue_any (b cap : Nat) (X v : List Bt) (w : World) {o : Obj} (ho : w.heap[b]? = some o) (hA : OwnF 5 X.length cap (X.map U8) o) (hX : X.length ≤ 1000000000) (hv : v.length ≤ 2000000) : Calls Tryz.prog 132 [.slice (some ⟨b, 0, none⟩) X.length cap, Z v].toArray w fun e w' => ∃ q : Nat × Nat, e = .returned (.slice (some ⟨q.1, 0, none⟩) (X ++ valW v).length q.2) ∧ Holds w [b] [⟨q.1, OwnF 5 (X ++ valW v).length q.2 ((X ++ valW v).map U8), true⟩] w' := by
  refine enter (n := 43) Tryz.func132 rfl rfl rfl (Holds.one ho hA) ?_
  have cM : ∀ (d : Nat) (w0 w' : World) (S : List Nat) (M : List Ent), Holds w0 S (⟨d, Row 9 [Z notWord], true⟩ :: M) w' → Calls Tryz.prog 186 [Z v, prF d].toArray w' fun e w'' => e = .returned (.bool (simpleB v)) ∧ Ext w' w'' := fun d w0 w' S M hw' => by
    have := made_any v (prF d) (prB notWord) w' (fun_printed hw' .here) (by omega)
    rw [made_word] at this
    exact this
  repeat (first | refine JL.q (by first | (apply OQ.move; exact rfl) | (apply OQ.assign; exact rfl)) rfl ?_ | refine JC.seq ?_ | refine JC.region ?_ | refine JL.nil ?_ | refine JE.next ?_)
  refine JL.callg (ι := Nat) (vs := [Z notWord]) prF (fun b => [⟨b, Row 9 [Z notWord], true⟩]) goes_printed rfl rfl (fun b e he => by rw [List.mem_singleton.1 he]) (fun w' _ => printed_any notWord w') fun d => ?_
  unfold valW
  cases hs : simpleB v
  case true =>
    rw [if_pos rfl]
    rw [hs] at cM
    repeat (first | refine JL.q (by (apply OQ.callx (vs := [Z v, prF d]); exact goes_made; exact rfl; exact (fun w' hw' => cM d _ w' _ _ hw'))) rfl ?_ | refine JL.nil ?_ | refine JE.next ?_)
    refine JC.cond rfl (fun _ => ?_) (fun h => by cases h)
    repeat (first | refine JL.q (by (apply OQ.move; exact rfl)) rfl ?_ | refine JC.seq ?_ | refine JC.region ?_)
    refine JL.appendX (v := Z v) (m := v.length) (xs := X.map U8) (news := v.map U8) (fun b' cap' => [⟨d, Row 9 [Z notWord], true⟩, ⟨b', OwnF 5 (X.length + v.length) cap' (X.map U8 ++ v.map U8), true⟩]) Tryz.underlying22 u8e rfl rfl (fun _ _ => src_str Tryz.underlying9) (by intro _ _; repeat (first | exact Repl.here | apply Repl.there)) (by omega) rfl fun b' cap' => ?_
    repeat (first | refine JL.q (by (apply OQ.assign; exact rfl)) rfl ?_ | refine JL.nil ?_ | refine JE.next ?_)
    refine JC.ret ?_
    repeat (refine JE.then_ret ?_)
    refine JE.ret1 rfl (RV.tmp rfl) fun w' hw => ⟨(b', cap'), ?_, ?_⟩
    · rw [List.length_append]
    · rw [List.length_append, List.map_append]
      exact hw.weak (.drop _ _ _ (Less.refl _))
  rw [if_neg (by decide)]
  rw [hs] at cM
  repeat (first | refine JL.q (by (apply OQ.callx (vs := [Z v, prF d]); exact goes_made; exact rfl; exact (fun w' hw' => cM d _ w' _ _ hw'))) rfl ?_ | refine JL.nil ?_ | refine JE.next ?_)
  refine JC.cond rfl (fun h => by cases h) (fun _ => ?_)
  repeat (first | refine JL.q (by (apply OQ.move; exact rfl)) rfl ?_ | refine JC.seq ?_ | refine JC.region ?_ | refine JC.skip ?_ | refine JE.next ?_)
  refine JL.pushF (v := U8 34) (xs := X.map U8) (fun b' cap' => [⟨d, Row 9 [Z notWord], true⟩, ⟨b', OwnF 5 (X.length + 1) cap' (X.map U8 ++ [U8 34]), true⟩]) Tryz.underlying22 u8e rfl rfl rfl (fun _ => rfl) (by intro _ _; repeat (first | exact Repl.here | apply Repl.there)) (by omega) rfl rfl fun bl b1 cap1 => ?_
  repeat (first | refine JL.q (by first | (apply OQ.lenS; exact Tryz.underlying9; exact rfl) | (apply OQ.move; exact rfl) | (apply OQ.assign; exact rfl)) rfl ?_ | refine JC.seq ?_ | refine JC.region ?_ | refine JC.block ?_ | refine JL.nil ?_ | refine JE.next ?_)
  have hel : ∀ i, (esc (v.take i)).length ≤ 4000000 := fun i => by
    have := escW_len (v.take i)
    rw [List.length_take] at this
    omega
  refine JC.loop (fun z : AvS => [(0, .slice (some ⟨z.b, 0, none⟩) (X ++ [34] ++ esc (v.take z.i)).length z.cap), (1, Z v), (16, N v.length), (17, N z.i)]) (fun z => [⟨z.b, OwnF 5 (X ++ [34] ++ esc (v.take z.i)).length z.cap ((X ++ [34] ++ esc (v.take z.i)).map U8), true⟩]) (fun z => v.length - z.i) (fun z => z.i ≤ v.length) ⟨0, b1, cap1⟩ (Nat.zero_le _) ?_ ?_ ?_
  · show SubE _ [(0, .slice (some ⟨b1, 0, none⟩) (X ++ [34] ++ esc (v.take 0)).length cap1), (1, Z v), (16, N v.length), (17, N 0)]
    rw [List.take_zero, show esc [] = [] from rfl, List.append_nil, List.length_append, List.length_singleton]
    exact (by repeat (first | exact SubE.nil | refine SubE.cons _ _ _ rfl ?_))
  · show Less [⟨b1, OwnF 5 (X ++ [34] ++ esc (v.take 0)).length cap1 ((X ++ [34] ++ esc (v.take 0)).map U8), true⟩] _
    rw [List.take_zero, show esc [] = [] from rfl, List.append_nil, List.length_append, List.length_singleton, List.map_append]
    exact .drop _ _ _ (Less.refl _)
  rintro ⟨i, b2, cap2⟩ hi
  dsimp only at hi ⊢
  have hll : (X ++ [34] ++ esc (v.take i)).length ≤ X.length + 4000001 := by
    have := hel i
    simp only [List.length_append, List.length_singleton]
    omega
  repeat (first | refine JL.q (by (apply OQ.lssN; exact rfl; exact rfl)) rfl ?_ | refine JC.seq ?_ | refine JC.region ?_ | refine JL.nil ?_ | refine JE.next ?_)
  refine JC.cond rfl (fun h => ?_) (fun h => ?_)
  · have hi' : i < v.length := of_decide_eq_true h
    clear h hi
    have hst := esc_take v hi'
    have i0 := fun {n : Nat} {E : Env} {C : World → Prop} {dst : Option Tmp} {ty : TypeId} {pos : String} {aft : Array Edge} {g : Option (Nat × Bool)} {x y : Operand} => idxAt10 hi' (n := n) (E := E) (C := C) (dst := dst) (ty := ty) (pos := pos) (aft := aft) (g := g) (x := x) (y := y)
    generalize v.getD i 0 = c at hst i0
    cases h34 : decide (c = 34) <;> cases h92 : decide (c = 92)
    · have hst2 : esc (v.take (i + 1)) = esc (v.take i) ++ [c] := by rw [hst, if_neg (fun k => k.elim (of_decide_eq_false h34) (of_decide_eq_false h92))]
      have heq : X ++ [34] ++ esc (v.take (i + 1)) = (X ++ [34] ++ esc (v.take i)) ++ [c] := by rw [hst2]; simp
      repeat (first | refine JL.q (by first | (apply i0; exact rfl; exact rfl) | (apply OQ.eq8T (b := 34); exact rfl; exact rfl; exact h34) | (apply OQ.eq8T (b := 92); exact rfl; exact rfl; exact h92) | (apply OQ.pick_f; exact rfl; exact rfl) | (apply OQ.move; exact rfl) | (apply OQ.assign; exact rfl)) rfl ?_ | refine JC.seq ?_ | refine JC.region ?_ | refine JC.block ?_ | refine JC.skip ?_ | refine JL.nil ?_ | refine JE.next ?_ | refine JL.gon rfl rfl ?_)
      refine JC.cond rfl (fun h => by cases h) (fun _ => ?_)
      generalize X ++ [34] ++ esc (v.take i) = O at hll heq ⊢
      repeat (first | refine JL.q (by first | (apply i0; exact rfl; exact rfl) | (apply OQ.move; exact rfl)) rfl ?_ | refine JC.region ?_ | refine JC.skip ?_ | refine JE.next ?_)
      refine JL.pushF (v := U8 c) (xs := O.map U8) (fun b' cap' => [⟨b', OwnF 5 (O.length + 1) cap' (O.map U8 ++ [U8 c]), true⟩]) Tryz.underlying22 u8e rfl rfl rfl (fun _ => rfl) (by intro _ _; repeat (first | exact Repl.here | apply Repl.there)) (by omega) rfl rfl fun bl b4 cap4 => ?_
      repeat (first | refine JL.q (by first | (apply OQ.move; exact rfl) | (apply OQ.assign; exact rfl) | (apply OQ.addN; exact rfl; exact rfl; exact (by (try simp only []); omega))) rfl ?_ | refine JC.region ?_ | refine JL.nil ?_ | refine JE.next ?_ | refine JE.blk_normal ?_)
      refine JE.again (i := AvS.mk i b2 cap2) (AvS.mk (i + 1) b4 cap4) hi' (by dsimp only; omega) ?_ (.keep _ _ _ _ _ _ (fun o' h => ?_) (.nil _))
      · dsimp only; rw [heq, List.length_append]; exact (by repeat (first | exact SubE.nil | refine SubE.cons _ _ _ rfl ?_))
      · dsimp only; rw [heq, List.length_append, List.map_append]; exact h
    · have hst2 : esc (v.take (i + 1)) = esc (v.take i) ++ [92] ++ [c] := by rw [hst, if_pos (by exact .inr (of_decide_eq_true h92))]; simp
      have heq : X ++ [34] ++ esc (v.take (i + 1)) = (X ++ [34] ++ esc (v.take i)) ++ [92] ++ [c] := by rw [hst2]; simp
      repeat (first | refine JL.q (by first | (apply i0; exact rfl; exact rfl) | (apply OQ.eq8T (b := 34); exact rfl; exact rfl; exact h34) | (apply OQ.eq8T (b := 92); exact rfl; exact rfl; exact h92) | (apply OQ.pick_f; exact rfl; exact rfl) | (apply OQ.move; exact rfl) | (apply OQ.assign; exact rfl)) rfl ?_ | refine JC.seq ?_ | refine JC.region ?_ | refine JC.block ?_ | refine JC.skip ?_ | refine JL.nil ?_ | refine JE.next ?_ | refine JL.gon rfl rfl ?_)
      refine JC.cond rfl (fun _ => ?_) (fun h => by cases h)
      generalize X ++ [34] ++ esc (v.take i) = O at hll heq ⊢
      repeat (first | refine JL.q (by (apply OQ.move; exact rfl)) rfl ?_ | refine JC.region ?_)
      refine JL.pushF (v := U8 92) (xs := O.map U8) (fun b' cap' => [⟨b', OwnF 5 (O.length + 1) cap' (O.map U8 ++ [U8 92]), true⟩]) Tryz.underlying22 u8e rfl rfl rfl (fun _ => rfl) (by intro _ _; repeat (first | exact Repl.here | apply Repl.there)) (by omega) rfl rfl fun bl b3 cap3 => ?_
      repeat (first | refine JL.q (by first | (apply i0; exact rfl; exact rfl) | (apply OQ.move; exact rfl) | (apply OQ.assign; exact rfl)) rfl ?_ | refine JC.region ?_ | refine JL.nil ?_ | refine JE.next ?_)
      refine JL.pushF (v := U8 c) (xs := O.map U8 ++ [U8 92]) (fun b' cap' => [⟨b', OwnF 5 (O.length + 1 + 1) cap' (O.map U8 ++ [U8 92] ++ [U8 c]), true⟩]) Tryz.underlying22 u8e rfl rfl rfl (fun _ => rfl) (by intro _ _; repeat (first | exact Repl.here | apply Repl.there)) (by omega) rfl rfl fun bl b4 cap4 => ?_
      repeat (first | refine JL.q (by first | (apply OQ.move; exact rfl) | (apply OQ.assign; exact rfl) | (apply OQ.addN; exact rfl; exact rfl; exact (by (try simp only []); omega))) rfl ?_ | refine JC.region ?_ | refine JL.nil ?_ | refine JE.next ?_ | refine JE.blk_normal ?_)
      refine JE.again (i := AvS.mk i b2 cap2) (AvS.mk (i + 1) b4 cap4) hi' (by dsimp only; omega) ?_ (.keep _ _ _ _ _ _ (fun o' h => ?_) (.nil _))
      · dsimp only; rw [heq, List.length_append, List.length_append]; exact (by repeat (first | exact SubE.nil | refine SubE.cons _ _ _ rfl ?_))
      · dsimp only; rw [heq, List.length_append, List.length_append, List.map_append, List.map_append]; exact h
    · have hst2 : esc (v.take (i + 1)) = esc (v.take i) ++ [92] ++ [c] := by rw [hst, if_pos (by exact .inl (of_decide_eq_true h34))]; simp
      have heq : X ++ [34] ++ esc (v.take (i + 1)) = (X ++ [34] ++ esc (v.take i)) ++ [92] ++ [c] := by rw [hst2]; simp
      repeat (first | refine JL.q (by first | (apply i0; exact rfl; exact rfl) | (apply OQ.eq8T (b := 34); exact rfl; exact rfl; exact h34) | (apply OQ.pick_t; exact rfl; exact rfl) | (apply OQ.move; exact rfl) | (apply OQ.assign; exact rfl)) rfl ?_ | refine JC.seq ?_ | refine JC.region ?_ | refine JC.block ?_ | refine JC.skip ?_ | refine JL.nil ?_ | refine JE.next ?_ | refine JL.gskip rfl rfl rfl rfl ?_)
      refine JC.cond rfl (fun _ => ?_) (fun h => by cases h)
      generalize X ++ [34] ++ esc (v.take i) = O at hll heq ⊢
      repeat (first | refine JL.q (by (apply OQ.move; exact rfl)) rfl ?_ | refine JC.region ?_)
      refine JL.pushF (v := U8 92) (xs := O.map U8) (fun b' cap' => [⟨b', OwnF 5 (O.length + 1) cap' (O.map U8 ++ [U8 92]), true⟩]) Tryz.underlying22 u8e rfl rfl rfl (fun _ => rfl) (by intro _ _; repeat (first | exact Repl.here | apply Repl.there)) (by omega) rfl rfl fun bl b3 cap3 => ?_
      repeat (first | refine JL.q (by first | (apply i0; exact rfl; exact rfl) | (apply OQ.move; exact rfl) | (apply OQ.assign; exact rfl)) rfl ?_ | refine JC.region ?_ | refine JL.nil ?_ | refine JE.next ?_)
      refine JL.pushF (v := U8 c) (xs := O.map U8 ++ [U8 92]) (fun b' cap' => [⟨b', OwnF 5 (O.length + 1 + 1) cap' (O.map U8 ++ [U8 92] ++ [U8 c]), true⟩]) Tryz.underlying22 u8e rfl rfl rfl (fun _ => rfl) (by intro _ _; repeat (first | exact Repl.here | apply Repl.there)) (by omega) rfl rfl fun bl b4 cap4 => ?_
      repeat (first | refine JL.q (by first | (apply OQ.move; exact rfl) | (apply OQ.assign; exact rfl) | (apply OQ.addN; exact rfl; exact rfl; exact (by (try simp only []); omega))) rfl ?_ | refine JC.region ?_ | refine JL.nil ?_ | refine JE.next ?_ | refine JE.blk_normal ?_)
      refine JE.again (i := AvS.mk i b2 cap2) (AvS.mk (i + 1) b4 cap4) hi' (by dsimp only; omega) ?_ (.keep _ _ _ _ _ _ (fun o' h => ?_) (.nil _))
      · dsimp only; rw [heq, List.length_append, List.length_append]; exact (by repeat (first | exact SubE.nil | refine SubE.cons _ _ _ rfl ?_))
      · dsimp only; rw [heq, List.length_append, List.length_append, List.map_append, List.map_append]; exact h
    · have hst2 : esc (v.take (i + 1)) = esc (v.take i) ++ [92] ++ [c] := by rw [hst, if_pos (by exact .inl (of_decide_eq_true h34))]; simp
      have heq : X ++ [34] ++ esc (v.take (i + 1)) = (X ++ [34] ++ esc (v.take i)) ++ [92] ++ [c] := by rw [hst2]; simp
      repeat (first | refine JL.q (by first | (apply i0; exact rfl; exact rfl) | (apply OQ.eq8T (b := 34); exact rfl; exact rfl; exact h34) | (apply OQ.pick_t; exact rfl; exact rfl) | (apply OQ.move; exact rfl) | (apply OQ.assign; exact rfl)) rfl ?_ | refine JC.seq ?_ | refine JC.region ?_ | refine JC.block ?_ | refine JC.skip ?_ | refine JL.nil ?_ | refine JE.next ?_ | refine JL.gskip rfl rfl rfl rfl ?_)
      refine JC.cond rfl (fun _ => ?_) (fun h => by cases h)
      generalize X ++ [34] ++ esc (v.take i) = O at hll heq ⊢
      repeat (first | refine JL.q (by (apply OQ.move; exact rfl)) rfl ?_ | refine JC.region ?_)
      refine JL.pushF (v := U8 92) (xs := O.map U8) (fun b' cap' => [⟨b', OwnF 5 (O.length + 1) cap' (O.map U8 ++ [U8 92]), true⟩]) Tryz.underlying22 u8e rfl rfl rfl (fun _ => rfl) (by intro _ _; repeat (first | exact Repl.here | apply Repl.there)) (by omega) rfl rfl fun bl b3 cap3 => ?_
      repeat (first | refine JL.q (by first | (apply i0; exact rfl; exact rfl) | (apply OQ.move; exact rfl) | (apply OQ.assign; exact rfl)) rfl ?_ | refine JC.region ?_ | refine JL.nil ?_ | refine JE.next ?_)
      refine JL.pushF (v := U8 c) (xs := O.map U8 ++ [U8 92]) (fun b' cap' => [⟨b', OwnF 5 (O.length + 1 + 1) cap' (O.map U8 ++ [U8 92] ++ [U8 c]), true⟩]) Tryz.underlying22 u8e rfl rfl rfl (fun _ => rfl) (by intro _ _; repeat (first | exact Repl.here | apply Repl.there)) (by omega) rfl rfl fun bl b4 cap4 => ?_
      repeat (first | refine JL.q (by first | (apply OQ.move; exact rfl) | (apply OQ.assign; exact rfl) | (apply OQ.addN; exact rfl; exact rfl; exact (by (try simp only []); omega))) rfl ?_ | refine JC.region ?_ | refine JL.nil ?_ | refine JE.next ?_ | refine JE.blk_normal ?_)
      refine JE.again (i := AvS.mk i b2 cap2) (AvS.mk (i + 1) b4 cap4) hi' (by dsimp only; omega) ?_ (.keep _ _ _ _ _ _ (fun o' h => ?_) (.nil _))
      · dsimp only; rw [heq, List.length_append, List.length_append]; exact (by repeat (first | exact SubE.nil | refine SubE.cons _ _ _ rfl ?_))
      · dsimp only; rw [heq, List.length_append, List.length_append, List.map_append, List.map_append]; exact h
  · have hi' : ¬ i < v.length := of_decide_eq_false h
    obtain rfl : i = v.length := by omega
    rw [List.take_length] at hll ⊢
    generalize esc v = ev at hll ⊢
    repeat (first | refine JL.q (by (apply OQ.move; exact rfl)) rfl ?_ | refine JC.seq ?_ | refine JC.region ?_ | refine JC.exit ?_ | refine JE.next ?_ | refine JE.then_exit ?_ | refine JE.blk_hit ?_)
    refine JL.pushF (v := U8 34) (xs := (X ++ [34] ++ ev).map U8) (fun b' cap' => [⟨b', OwnF 5 ((X ++ [34] ++ ev).length + 1) cap' ((X ++ [34] ++ ev).map U8 ++ [U8 34]), true⟩]) Tryz.underlying22 u8e rfl rfl rfl (fun _ => rfl) (by intro _ _; repeat (first | exact Repl.here | apply Repl.there)) (by omega) rfl rfl fun bl b' cap' => ?_
    repeat (first | refine JL.q (by (apply OQ.assign; exact rfl)) rfl ?_ | refine JL.nil ?_ | refine JE.next ?_)
    refine JC.ret ?_
    refine JE.ret1 rfl (RV.tmp rfl) fun w' hw => ⟨(b', cap'), ?_, ?_⟩
    · dsimp only
      rw [show X ++ ([34] ++ ev ++ [34]) = X ++ [34] ++ ev ++ [34] by simp, List.length_append (bs := [34])]
      rfl
    · dsimp only
      rw [show X ++ ([34] ++ ev ++ [34]) = X ++ [34] ++ ev ++ [34] by simp, List.length_append (bs := [34]), List.map_append (l₂ := [34])]
      exact hw
end Go.Proofs.YtdabhneehconeaaGreatDoor

/-
  Of no statement by itself: what token's functions owe (TokenOk); over it: what despatchlaw10's speaks, TokenBare and TokenAddress give.
  Conditions: TokenOk, and each theorem's own.
-/
namespace Go.Proofs.YtdabhneehconeaaGreatDoor
set_option maxRecDepth 10000
open Sl Fld Tok
structure TokenOk : Prop where
  atom : ∀ (s : List Bt) (w : World), s.length < 1000000 → Calls Tryz.prog 130 [Z s].toArray w fun e w' => e = .returned (.bool (atomB s)) ∧ Ext w w'
  bare : ∀ (s : List Bt) (w : World), s.length < 140000000 → Calls Tryz.prog 121 [Z s].toArray w fun e w' => e = .returned (.tuple #[Z (bareB s).1, N (bareB s).2]) ∧ Ext w w'
  addr : ∀ (s : List Bt) (w : World), s.length < 1000000 → Calls Tryz.prog 79 [Z s].toArray w fun e w' => e = .returned (.tuple #[Z (addrB s).1, N (addrB s).2]) ∧ Ext w w'
  ids : ∀ (s : List Bt) (w : World), s.length < 1000000 → Calls Tryz.prog 99 [Z s].toArray w fun e w' => ∃ y : SlZ, e = .returned (.tuple #[y.v, N (idsB s).2]) ∧ Ext w w' ∧ y.ok w' ∧ y.l = (idsB s).1
  params : ∀ (s : List Bt) (w : World), s.length < 1000000 → Calls Tryz.prog 153 [Z s].toArray w fun e w' => ∃ y : Sl2, e = .returned (.tuple #[Z (paramsB s).1, y.v, N (paramsB s).2.2]) ∧ Ext w w' ∧ y.ok w' ∧ y.l = (paramsB s).2.1
  write : ∀ (k : List Bt) (a : Sl2) (w : World), a.ok w → k.length ≤ 2000000 → a.l.length ≤ 20 → (∀ p ∈ a.l, p.1.length ≤ 2000000 ∧ p.2.length ≤ 2000000) → Calls Tryz.prog 83 [Z k, a.v].toArray w fun e w' => e = .returned (.tuple #[Z (if rightP k a.l then writeB k a.l else []), N (if rightP k a.l then 0 else 3)]) ∧ Ext w w'
theorem OQ.eqbT {P : Program} {n : Nat} {E : Env} {C : World → Prop} {dst : Option Tmp} {t t' ty : TypeId} {pos : String} {aft : Array Edge} {g : Option (Nat × Bool)} {x y : Operand} {a : Bool} (hu : P.underlying t = some .bool) (hx : ev E x = some (.bool a)) (hy : ev E y = some (.bool a)) : OQ P n E C ⟨dst, .binOp .eql t x y t', ty, pos, aft, g⟩ (.bool true) := OQ.to (OQ.eqb hu hx hy) (by simp)
end Go.Proofs.YtdabhneehconeaaGreatDoor

/-
  Of no statement by itself: what the landed token's Write gives; the landed token keeps what token owes (TokenOk).
  Conditions: none but each theorem's own.
-/
namespace Go.Proofs.YtdabhneehconeaaGreatDoor
set_option maxRecDepth 10000
open Sl Fld Tok
/-! ### blocks handed to a call and back -/
namespace Sl
end Sl
theorem goes_writeA : Goes Tryz.prog 83 := ⟨_, Tryz.func83, rfl, by kernel_rfl⟩
theorem rightP_is (k : List Fld.By) (l : List (List Fld.By × List Fld.By)) : rightP k l = (l.all (fun p => atomB p.1 && decide (p.1.map small = p.1) && p.2.all sok) && kindB k && decide (k.map small = k)) := rfl
theorem parW_val (p : List Fld.By × List Fld.By) : parW p = [59, 32] ++ p.1 ++ [61] ++ valW p.2 := rfl
structure WrS where
  i : Nat
  b : Nat
  cap : Nat
set_option maxHeartbeats 32000000 in
theorem writeA_any (k : List Bt) (a : Sl2) (w : World) (ha : a.ok w) (hkl : k.length ≤ 2000000) (hal : a.l.length ≤ 20) (hpl : ∀ p ∈ a.l, p.1.length ≤ 2000000 ∧ p.2.length ≤ 2000000) : Calls Tryz.prog 83 [Z k, a.v].toArray w fun e w' => e = .returned (.tuple #[Z (if rightP k a.l then writeB k a.l else []), N (if rightP k a.l then 0 else 3)]) ∧ Ext w w' := by
  refine enter (n := 57) Tryz.func83 rfl rfl rfl (Holds.start w []) ?_
  have cK := fun w' => isKind_any k w' (by omega)
  have cN := fun w' => noBig_any k w' (by omega)
  rw [rightP_is]
  cases h1 : kindB k
  · rw [h1] at cK
    rw [Bool.and_false, Bool.false_and, if_neg (by decide), if_neg (by decide)]
    repeat (first | refine JL.q (by first | (apply OQ.callx (vs := [Z k]); exact goes_isKind; exact rfl; exact (fun w' _ => cK w')) | (apply OQ.not; exact rfl) | (apply OQ.pick_t; exact rfl; exact rfl) | (apply OQ.move; exact rfl) | (apply OQ.assign; exact rfl)) rfl ?_ | refine JC.seq ?_ | refine JC.region ?_ | refine JL.nil ?_ | refine JE.next ?_ | refine JL.gskip rfl rfl rfl rfl ?_)
    refine JC.cond rfl (fun _ => ?_) (fun h => by cases h)
    repeat (first | refine JL.q (by (apply OQ.assign; exact rfl)) rfl ?_ | refine JC.seq ?_ | refine JC.region ?_ | refine JL.nil ?_ | refine JE.next ?_)
    refine JC.ret ?_
    repeat (refine JE.then_ret ?_)
    exact JE.ret2 rfl (RV.tmp rfl) (RV.tmp rfl) fun w' hw => ⟨rfl, hw.chg⟩
  rw [h1] at cK
  cases h2 : decide (k.map small = k)
  · rw [h2] at cN
    rw [Bool.and_false, if_neg (by decide), if_neg (by decide)]
    repeat (first | refine JL.q (by first | (apply OQ.callx (vs := [Z k]); exact goes_isKind; exact rfl; exact (fun w' _ => cK w')) | (apply OQ.callx (vs := [Z k]); exact goes_noBig; exact rfl; exact (fun w' _ => cN w')) | (apply OQ.not; exact rfl) | (apply OQ.pick_f; exact rfl; exact rfl) | (apply OQ.move; exact rfl) | (apply OQ.assign; exact rfl)) rfl ?_ | refine JC.seq ?_ | refine JC.region ?_ | refine JL.nil ?_ | refine JE.next ?_ | refine JL.gon rfl rfl ?_)
    refine JC.cond rfl (fun _ => ?_) (fun h => by cases h)
    repeat (first | refine JL.q (by (apply OQ.assign; exact rfl)) rfl ?_ | refine JC.seq ?_ | refine JC.region ?_ | refine JL.nil ?_ | refine JE.next ?_)
    refine JC.ret ?_
    repeat (refine JE.then_ret ?_)
    exact JE.ret2 rfl (RV.tmp rfl) (RV.tmp rfl) fun w' hw => ⟨rfl, hw.chg⟩
  rw [h2] at cN
  rw [Bool.and_true, Bool.and_true]
  repeat (first | refine JL.q (by first | (apply OQ.callx (vs := [Z k]); exact goes_isKind; exact rfl; exact (fun w' _ => cK w')) | (apply OQ.callx (vs := [Z k]); exact goes_noBig; exact rfl; exact (fun w' _ => cN w')) | (apply OQ.not; exact rfl) | (apply OQ.pick_f; exact rfl; exact rfl) | (apply OQ.move; exact rfl) | (apply OQ.assign; exact rfl)) rfl ?_ | refine JC.seq ?_ | refine JC.region ?_ | refine JL.nil ?_ | refine JE.next ?_ | refine JL.gon rfl rfl ?_)
  refine JC.cond rfl (fun h => by cases h) (fun _ => ?_)
  repeat (first | refine JL.q (by (apply OQ.move; exact rfl)) rfl ?_ | refine JC.seq ?_ | refine JC.region ?_ | refine JC.skip ?_ | refine JE.next ?_)
  refine JL.s2o (r := k) Tryz.underlying9 rfl Tryz.underlying22 Tryz.underlying5 rfl rfl fun b0 cap0 _ => ?_
  repeat (first | refine JL.q (by first | (apply OQ.len; exact Tryz.underlying56; exact rfl) | (apply OQ.move; exact rfl) | (apply OQ.assign; exact rfl)) rfl ?_ | refine JC.seq ?_ | refine JC.region ?_ | refine JC.block ?_ | refine JL.nil ?_ | refine JE.next ?_)
  let g : Pr → Bool := fun p => atomB p.1 && decide (p.1.map small = p.1) && p.2.all sok
  let O : Nat → List Bt := fun i => k ++ (a.l.take i).flatMap parW
  have hO : ∀ i, i < a.l.length → O (i + 1) = O i ++ parW (a.l.getD i ([], [])) := by
    intro i hi
    show k ++ (a.l.take (i + 1)).flatMap parW = k ++ (a.l.take i).flatMap parW ++ _
    rw [List.take_add_one, List.getElem?_eq_getElem hi, Option.toList_some, List.flatMap_append, List.flatMap_singleton, List.getD_eq_getElem?_getD, List.getElem?_eq_getElem hi, List.append_assoc]
    rfl
  refine JC.loop (fun z : WrS => [(6, .slice (some ⟨z.b, 0, none⟩) (O z.i).length z.cap), (19, a.v), (20, N a.l.length), (21, N z.i)]) (fun z => [⟨z.b, OwnF 5 (O z.i).length z.cap ((O z.i).map U8), true⟩]) (fun z => a.l.length - z.i) (fun z => z.i ≤ a.l.length ∧ (a.l.take z.i).all g = true ∧ (O z.i).length ≤ 2000000 + 6000010 * z.i) ⟨0, b0, cap0⟩ ⟨Nat.zero_le _, rfl, ?_⟩ ?_ ?_ ?_
  · show (k ++ []).length ≤ _
    rw [List.append_nil]
    exact hkl
  · show SubE _ [(6, .slice (some ⟨b0, 0, none⟩) (k ++ []).length cap0), (19, a.v), (20, N a.l.length), (21, N 0)]
    rw [List.append_nil]
    exact (by repeat (first | exact SubE.nil | refine SubE.cons _ _ _ rfl ?_))
  · show Less [⟨b0, OwnF 5 (k ++ []).length cap0 ((k ++ []).map U8), true⟩] _
    rw [List.append_nil]
    exact Less.refl _
  rintro ⟨i, b1, cap1⟩ ⟨hi, hg, hlen⟩
  dsimp only at hi hg hlen ⊢
  repeat (first | refine JL.q (by (apply OQ.lssN; exact rfl; exact rfl)) rfl ?_ | refine JC.seq ?_ | refine JC.region ?_ | refine JL.nil ?_ | refine JE.next ?_)
  refine JC.cond rfl (fun h => ?_) (fun h => ?_)
  · have hi' : i < a.l.length := of_decide_eq_true h
    clear h hi
    obtain ⟨bx, jx, eX, lx, cx1, cx2⟩ := ha.at hi'
    have cx := pair_cells cx1 cx2
    have vx : a.v = .slice (some ⟨bx, jx, none⟩) a.l.length a.cap := by rw [← eX]; rfl
    have hO1 := hO i hi'
    have hall := all_take g a.l ([], []) hi'
    have hbad := all_bad g a.l ([], []) hi'
    rw [hg, Bool.true_and] at hall
    have hmem : a.l.getD i ([], []) ∈ a.l := by
      rw [List.getD_eq_getElem?_getD, List.getElem?_eq_getElem hi']
      exact List.getElem_mem hi'
    obtain ⟨n1, n2⟩ := hpl _ hmem
    rw [parW_val] at hO1
    generalize a.l.getD i ([], []) = p at cx hO1 hall hbad n1 n2
    clear hmem cx1 cx2 eX
    obtain ⟨n, v⟩ := p
    dsimp only at cx hO1 n1 n2
    have cA := fun w' => atomA_any n w' (by omega)
    have cB := fun w' => noBig_any n w' (by omega)
    have cV := fun w' => may_any v w' (by omega)
    have hvl := valW_len v
    have hg1 : g (n, v) = (atomB n && decide (n.map small = n) && v.all sok) := rfl
    rw [hg1] at hall hbad
    generalize O i = P at hlen hO1 ⊢
    generalize hPe : O (i + 1) = P' at hO1
    rw [vx]
    repeat (first | refine JL.q (by first | (apply OQ.idxS; exact Tryz.underlying56; exact parS; exact rfl; exact rfl; exact hi') | (apply OQ.load_agg_old (cs := pc (n, v)); exact parA; exact rfl; exact parS; exact lx; exact (by simp); exact cx)) rfl ?_ | refine JC.seq ?_ | refine JC.region ?_ | refine JC.block ?_ | refine JC.skip ?_ | refine JE.next ?_)
    refine JL.alloc parZ rfl fun b8 _ => ?_
    refine JL.store_all (cs := pc (n, v)) parS rfl rfl rfl rfl .here rfl ?_
    cases d1 : atomB n
    · have hb := hbad (by rw [d1]; rfl)
      rw [if_neg (by rw [hb]; decide), if_neg (by rw [hb]; decide)]
      rw [d1] at cA
      repeat (first | refine JL.q (by first | (apply OQ.load; exact strC1; exact rfl; exact .here; exact (Row.cell (v := Z n) rfl)) | (apply OQ.callx (vs := [Z n]); exact goes_atomA; exact rfl; exact (fun w' _ => cA w')) | (apply OQ.not; exact rfl) | (apply OQ.pick_t; exact rfl; exact rfl) | (apply OQ.move; exact rfl) | (apply OQ.fld; exact rfl; exact rfl; exact rfl; exact (by decide); exact rfl)) rfl ?_ | refine JC.seq ?_ | refine JC.region ?_ | refine JL.nil ?_ | refine JE.next ?_ | refine JL.gskip rfl rfl rfl rfl ?_)
      refine JC.cond rfl (fun _ => ?_) (fun h => by cases h)
      repeat (first | refine JL.q (by (apply OQ.assign; exact rfl)) rfl ?_ | refine JC.seq ?_ | refine JC.region ?_ | refine JL.nil ?_ | refine JE.next ?_)
      refine JC.ret ?_
      repeat (first | refine JE.then_ret ?_ | refine JE.blk_ret ?_)
      exact JE.ret2 rfl (RV.tmp rfl) (RV.tmp rfl) fun w' hw => ⟨rfl, hw.chg⟩
    cases d2 : decide (n.map small = n)
    · have hb := hbad (by rw [d1, d2]; rfl)
      rw [if_neg (by rw [hb]; decide), if_neg (by rw [hb]; decide)]
      rw [d1] at cA
      rw [d2] at cB
      repeat (first | refine JL.q (by first | (apply OQ.load; exact strC1; exact rfl; exact .here; exact (Row.cell (v := Z n) rfl)) | (apply OQ.callx (vs := [Z n]); exact goes_atomA; exact rfl; exact (fun w' _ => cA w')) | (apply OQ.callx (vs := [Z n]); exact goes_noBig; exact rfl; exact (fun w' _ => cB w')) | (apply OQ.not; exact rfl) | (apply OQ.pick_t; exact rfl; exact rfl) | (apply OQ.pick_f; exact rfl; exact rfl) | (apply OQ.move; exact rfl) | (apply OQ.fld; exact rfl; exact rfl; exact rfl; exact (by decide); exact rfl)) rfl ?_ | refine JC.seq ?_ | refine JC.region ?_ | refine JL.nil ?_ | refine JE.next ?_ | refine JL.gon rfl rfl ?_ | refine JL.gskip rfl rfl rfl rfl ?_)
      refine JC.cond rfl (fun _ => ?_) (fun h => by cases h)
      repeat (first | refine JL.q (by (apply OQ.assign; exact rfl)) rfl ?_ | refine JC.seq ?_ | refine JC.region ?_ | refine JL.nil ?_ | refine JE.next ?_)
      refine JC.ret ?_
      repeat (first | refine JE.then_ret ?_ | refine JE.blk_ret ?_)
      exact JE.ret2 rfl (RV.tmp rfl) (RV.tmp rfl) fun w' hw => ⟨rfl, hw.chg⟩
    cases d3 : v.all sok
    · have hb := hbad (by rw [d1, d2, d3]; rfl)
      rw [if_neg (by rw [hb]; decide), if_neg (by rw [hb]; decide)]
      rw [d1] at cA
      rw [d2] at cB
      rw [d3] at cV
      repeat (first | refine JL.q (by first | (apply OQ.load; exact strC1; exact rfl; exact .here; exact (Row.cell (v := Z n) rfl)) | (apply OQ.load; exact strC1; exact rfl; exact .here; exact (Row.cell (v := Z v) rfl)) | (apply OQ.callx (vs := [Z n]); exact goes_atomA; exact rfl; exact (fun w' _ => cA w')) | (apply OQ.callx (vs := [Z n]); exact goes_noBig; exact rfl; exact (fun w' _ => cB w')) | (apply OQ.callx (vs := [Z v]); exact goes_may; exact rfl; exact (fun w' _ => cV w')) | (apply OQ.not; exact rfl) | (apply OQ.pick_f; exact rfl; exact rfl) | (apply OQ.move; exact rfl) | (apply OQ.fld; exact rfl; exact rfl; exact rfl; exact (by decide); exact rfl)) rfl ?_ | refine JC.seq ?_ | refine JC.region ?_ | refine JL.nil ?_ | refine JE.next ?_ | refine JL.gon rfl rfl ?_)
      refine JC.cond rfl (fun _ => ?_) (fun h => by cases h)
      repeat (first | refine JL.q (by (apply OQ.assign; exact rfl)) rfl ?_ | refine JC.seq ?_ | refine JC.region ?_ | refine JL.nil ?_ | refine JE.next ?_)
      refine JC.ret ?_
      repeat (first | refine JE.then_ret ?_ | refine JE.blk_ret ?_)
      exact JE.ret2 rfl (RV.tmp rfl) (RV.tmp rfl) fun w' hw => ⟨rfl, hw.chg⟩
    rw [d1] at cA
    rw [d2] at cB
    rw [d3] at cV
    rw [d1, d2, d3] at hall
    repeat (first | refine JL.q (by first | (apply OQ.load; exact strC1; exact rfl; exact .here; exact (Row.cell (v := Z n) rfl)) | (apply OQ.load; exact strC1; exact rfl; exact .here; exact (Row.cell (v := Z v) rfl)) | (apply OQ.callx (vs := [Z n]); exact goes_atomA; exact rfl; exact (fun w' _ => cA w')) | (apply OQ.callx (vs := [Z n]); exact goes_noBig; exact rfl; exact (fun w' _ => cB w')) | (apply OQ.callx (vs := [Z v]); exact goes_may; exact rfl; exact (fun w' _ => cV w')) | (apply OQ.not; exact rfl) | (apply OQ.pick_f; exact rfl; exact rfl) | (apply OQ.move; exact rfl) | (apply OQ.fld; exact rfl; exact rfl; exact rfl; exact (by decide); exact rfl)) rfl ?_ | refine JC.seq ?_ | refine JC.region ?_ | refine JL.nil ?_ | refine JE.next ?_ | refine JL.gon rfl rfl ?_)
    refine JC.cond rfl (fun h => by cases h) (fun _ => ?_)
    repeat (first | refine JL.q (by (apply OQ.move; exact rfl)) rfl ?_ | refine JC.seq ?_ | refine JC.region ?_ | refine JC.skip ?_ | refine JE.next ?_)
    refine JL.appendX (v := Z [59, 32]) (m := 2) (xs := P.map U8) (news := ([59, 32] : List Bt).map U8) (fun b' cap' => [⟨b8, Row 63 (pc (n, v)), true⟩, ⟨b', OwnF 5 (P.length + 2) cap' (P.map U8 ++ ([59, 32] : List Bt).map U8), true⟩]) Tryz.underlying22 u8e rfl rfl (fun _ _ => src_str Tryz.underlying9) (by intro _ _; repeat (first | exact Repl.here | apply Repl.there)) (by omega) rfl fun b2 cap2 => ?_
    repeat (first | refine JL.q (by first | (apply OQ.load; exact strC1; exact rfl; exact .here; exact (Row.cell (v := Z n) rfl)) | (apply OQ.move; exact rfl) | (apply OQ.assign; exact rfl) | (apply OQ.fld; exact rfl; exact rfl; exact rfl; exact (by decide); exact rfl)) rfl ?_ | refine JC.seq ?_ | refine JC.region ?_ | refine JL.nil ?_ | refine JE.next ?_)
    refine JL.appendX (v := Z n) (m := n.length) (xs := P.map U8 ++ ([59, 32] : List Bt).map U8) (news := n.map U8) (fun b' cap' => [⟨b8, Row 63 (pc (n, v)), true⟩, ⟨b', OwnF 5 (P.length + 2 + n.length) cap' (P.map U8 ++ ([59, 32] : List Bt).map U8 ++ n.map U8), true⟩]) Tryz.underlying22 u8e rfl rfl (fun _ _ => src_str Tryz.underlying9) (by intro _ _; repeat (first | exact Repl.here | apply Repl.there)) (by omega) rfl fun b3 cap3 => ?_
    repeat (first | refine JL.q (by first | (apply OQ.move; exact rfl) | (apply OQ.assign; exact rfl)) rfl ?_ | refine JC.seq ?_ | refine JC.region ?_ | refine JL.nil ?_ | refine JE.next ?_)
    refine JL.pushF (v := U8 61) (xs := P.map U8 ++ ([59, 32] : List Bt).map U8 ++ n.map U8) (fun b' cap' => [⟨b8, Row 63 (pc (n, v)), true⟩, ⟨b', OwnF 5 (P.length + 2 + n.length + 1) cap' (P.map U8 ++ ([59, 32] : List Bt).map U8 ++ n.map U8 ++ [U8 61]), true⟩]) Tryz.underlying22 u8e rfl rfl rfl (fun _ => rfl) (by intro _ _; repeat (first | exact Repl.here | apply Repl.there)) (by omega) rfl rfl fun bl b4 cap4 => ?_
    repeat (first | refine JL.q (by first | (apply OQ.load; exact strC1; exact rfl; exact .here; exact (Row.cell (v := Z v) rfl)) | (apply OQ.move; exact rfl) | (apply OQ.assign; exact rfl) | (apply OQ.fld; exact rfl; exact rfl; exact rfl; exact (by decide); exact rfl)) rfl ?_ | refine JC.region ?_ | refine JL.nil ?_ | refine JE.next ?_)
    obtain ⟨Y, hY⟩ : ∃ Y, Y = P ++ [59, 32] ++ n ++ [61] := ⟨_, rfl⟩
    have hYl : Y.length = P.length + 2 + n.length + 1 := by rw [hY]; simp only [List.length_append, List.length_cons, List.length_nil]
    have hYm : Y.map U8 = P.map U8 ++ ([59, 32] : List Bt).map U8 ++ n.map U8 ++ [U8 61] := by rw [hY]; simp
    have hP' : P' = Y ++ valW v := by rw [hO1, hY]; simp
    rw [← hYl, ← hYm]
    refine JL.call (ι := Nat × Nat) (vs := [.slice (some ⟨b4, 0, none⟩) Y.length cap4, Z v]) (fun q => .slice (some ⟨q.1, 0, none⟩) (Y ++ valW v).length q.2) (fun q => [⟨b8, Row 63 (pc (n, v)), true⟩, ⟨q.1, OwnF 5 (Y ++ valW v).length q.2 ((Y ++ valW v).map U8), true⟩]) goes_addValue rfl rfl ?_ ?_
    · intro w' hw'
      obtain ⟨o, ho, hA⟩ := hw'.get (b := b4) (wr := true) (A := OwnF 5 Y.length cap4 (Y.map U8)) (by repeat (first | exact Has.here | apply Has.there))
      refine (addValue_any b4 cap4 Y v w' ho hA (by omega) n2).mono ?_
      rintro e w2 ⟨q, rfl, h2⟩
      exact ⟨q, rfl, hw'.relay (by repeat (first | exact Repl.here | apply Repl.there)) h2⟩
    rintro ⟨b5, cap5⟩
    dsimp only
    have hYv : (Y ++ valW v).length ≤ 2000000 + 6000010 * (i + 1) := by
      rw [List.length_append]
      omega
    rw [← hP'] at hYv ⊢
    repeat (first | refine JL.q (by first | (apply OQ.move; exact rfl) | (apply OQ.assign; exact rfl) | (apply OQ.addN; exact rfl; exact rfl; exact (by (try simp only []); omega))) rfl ?_ | refine JC.region ?_ | refine JL.nil ?_ | refine JE.next ?_ | refine JE.blk_normal ?_)
    refine JE.again (i := WrS.mk i b1 cap1) (WrS.mk (i + 1) b5 cap5) ⟨hi', hall, ?_⟩ (by dsimp only; omega) ?_ ?_
    · dsimp only
      rw [hPe]
      exact hYv
    · dsimp only
      rw [hPe]
      exact (by repeat (first | exact SubE.nil | refine SubE.cons _ _ _ rfl ?_))
    · dsimp only
      rw [hPe]
      exact .drop _ _ _ (Less.refl _)
  · have hi' : ¬ i < a.l.length := of_decide_eq_false h
    obtain rfl : i = a.l.length := by omega
    rw [List.take_length] at hg
    rw [if_pos hg, if_pos hg]
    have hOO : O a.l.length = writeB k a.l := by show k ++ (a.l.take a.l.length).flatMap parW = _; rw [List.take_length]; rfl
    rw [hOO] at hlen ⊢
    repeat (first | refine JL.q (by first | (apply OQ.b2s (s := ⟨some ⟨b1, 0, none⟩, cap1, writeB k a.l⟩); exact Tryz.underlying22; exact Tryz.underlying5; exact Tryz.underlying9; exact rfl; exact (fun w' hw' => ownF_ok hw' .here)) | (apply OQ.move; exact rfl) | (apply OQ.assign; exact rfl)) rfl ?_ | refine JC.seq ?_ | refine JC.region ?_ | refine JC.exit ?_ | refine JL.nil ?_ | refine JE.next ?_ | refine JE.then_exit ?_ | refine JE.blk_hit ?_)
    refine JC.ret ?_
    exact JE.ret2 rfl (RV.tmp rfl) (RV.tmp rfl) fun w' hw => ⟨rfl, hw.chg⟩
end Go.Proofs.YtdabhneehconeaaGreatDoor

/-
  Of no statement by itself: what the landed mime's writeBody gives; slices.EqualFunc over bytes.Equal.
  Conditions: each theorem's own.
-/
namespace Go.Proofs.YtdabhneehconeaaGreatDoor
set_option maxRecDepth 10000
open Sl Fld Mim Tok
theorem goes_wbody : Goes Tryz.prog 87 := ⟨_, Tryz.func87, rfl, by kernel_rfl⟩
theorem goes_eqf : Goes Tryz.prog 138 := ⟨_, Tryz.func138, rfl, by kernel_rfl⟩
theorem OQ.callV {P : Program} {n : Nat} {E : Env} {w0 : World} {S : List Nat} {M : List Ent} {dst : Option Tmp} {ty : TypeId} {pos : String} {aft : Array Edge} {g : Option (Nat × Bool)} {x : Operand} {f : FuncId} {xs : List Operand} {vs : List Value} {v : Value} {ats : Array TypeId} (hg : Goes P f) (hf : ev E x = some (.func (.func f) #[] #[])) (hx : evs E xs = some vs) (hc : ∀ w, Holds w0 S M w → Calls P f vs.toArray w fun e w' => e = .returned v ∧ Ext w w') :
    OQ P n E (Holds w0 S M) ⟨dst, .call ⟨.value x, xs.toArray, ats⟩, ty, pos, aft, g⟩ v := by
  refine ⟨fun a hk w hw => ?_⟩
  unfold Oper.quietAt
  rw [exec_callv (caps := []) hg hk hf hx w, List.append_nil]
  exact ⟨rfl, (hc w hw).mono fun e w' ⟨k1, k2⟩ => ⟨k1, hw.ext k2⟩⟩
set_option maxHeartbeats 16000000 in
theorem wbody_any (Qe : List Fld.By → List Fld.By) (k : List Bt) (v1 v4 : Value) (c : Int) (x : Sl8) (w : World) (hv1 : v1.cells = #[v1]) (hx : x.ok w) (hl : x.l.length ≤ 4000) (hc : c = 0 ∨ c = 1) : Calls Tryz.prog 87 [.agg #[Z k, v1, .int .i64 c, x.v, v4]].toArray w
    fun e w' => ∃ y : { y : Sl8 // Ans y (bodyW Qe c x.l) }, e = .returned y.1.v ∧ Holds w [] y.1.ents w' := by
  refine enter (n := 18) Tryz.func87 rfl rfl rfl (Holds.start w []) ?_
  refine JC.seq (JC.region (JL.box (r := [Z k, v1, .int .i64 c, x.v, v4]) rfl rfl rfl fun b _ => ?_))
  rcases hc with rfl | rfl
  · have d1 : decide ((0 : Int) = 1) = false := rfl
    have d2 : decide ((0 : Int) = 2) = false := rfl
    repeat (first | refine JL.q (by first | (apply OQ.load; exact inCE; exact rfl; exact .here; exact (Row.cell (v := .int .i64 0) rfl)) | (apply OQ.eqB (a := 0) (b := 1); exact rfl; exact rfl; exact d1) | (apply OQ.assign; exact rfl) | (apply OQ.fld; exact rfl; exact rfl; exact rfl; exact (by decide); exact rfl)) rfl ?_ | refine JC.seq ?_ | refine JC.region ?_ | refine JC.block ?_ | refine JL.nil ?_ | refine JE.next ?_)
    refine JC.cond rfl (fun h => by cases h) (fun _ => ?_)
    repeat (first | refine JL.q (by first | (apply OQ.eqB (a := 0) (b := 2); exact rfl; exact rfl; exact d2) | (apply OQ.assign; exact rfl)) rfl ?_ | refine JC.seq ?_ | refine JC.region ?_ | refine JL.nil ?_ | refine JE.next ?_)
    refine JC.cond rfl (fun h => by cases h) (fun _ => ?_)
    repeat (first | refine JL.q (by first | (apply OQ.load; exact bsCF; exact rfl; exact .here; exact (Row.cell (v := x.v) rfl)) | (apply OQ.fld; exact rfl; exact rfl; exact rfl; exact (by decide); exact rfl)) rfl ?_ | refine JC.seq ?_ | refine JC.region ?_ | refine JC.skip ?_ | refine JE.next ?_ | refine JE.blk_normal ?_)
    refine JL.callg (ι := { q : Acc // q = none → x.l = [] }) (vs := [x.v]) (fun q => accV q.1 x.l.length) (fun q => accE 5 q.1 (x.l.map U8)) goes_clone rfl rfl (fun q => accE_wr _ _ _) (fun w' hw' => (clone_any x w' (hx.holds hw' rfl) (by omega)).mono fun e w2 ⟨q, h1, h2, h3⟩ => ⟨⟨q, h2⟩, h1, h3⟩) ?_
    rintro ⟨q, hq⟩
    dsimp only
    repeat (first | refine JL.q (by (apply OQ.assign; exact rfl)) rfl ?_ | refine JL.nil ?_ | refine JE.next ?_)
    refine JC.ret ?_
    refine JE.ret1 rfl (RV.tmp rfl) fun w' hw => ⟨⟨accS q x.l, ⟨accS_l hq, accS_none⟩⟩, by rw [accS_v], (Sl.Holds.weak hw (less_pre _ _)).weak (accS_ents q x.l)⟩
  · have d1 : decide ((1 : Int) = 1) = true := rfl
    repeat (first | refine JL.q (by first | (apply OQ.load; exact inCE; exact rfl; exact .here; exact (Row.cell (v := .int .i64 1) rfl)) | (apply OQ.eqB (a := 1) (b := 1); exact rfl; exact rfl; exact d1) | (apply OQ.assign; exact rfl) | (apply OQ.fld; exact rfl; exact rfl; exact rfl; exact (by decide); exact rfl)) rfl ?_ | refine JC.seq ?_ | refine JC.region ?_ | refine JC.block ?_ | refine JL.nil ?_ | refine JE.next ?_)
    refine JC.cond rfl (fun _ => ?_) (fun h => by cases h)
    repeat (first | refine JL.q (by first | (apply OQ.load; exact bsCF; exact rfl; exact .here; exact (Row.cell (v := x.v) rfl)) | (apply OQ.fld; exact rfl; exact rfl; exact rfl; exact (by decide); exact rfl)) rfl ?_ | refine JC.seq ?_ | refine JC.region ?_)
    refine JL.callg (ι := { y : Sl8 // Ans y (Arm.linesB x.l) }) (vs := [x.v]) (fun y => y.1.v) (fun y => y.1.ents) goes_alines rfl rfl (fun y => y.1.ents_wr) (fun w' hw' => (alines_any x w' (hx.holds hw' rfl) (by omega)).mono fun e w2 ⟨y, h1, h2, h3⟩ => ⟨⟨y, h2⟩, h1, h3⟩) ?_
    rintro y
    repeat (first | refine JL.q (by (apply OQ.assign; exact rfl)) rfl ?_ | refine JL.nil ?_ | refine JE.next ?_)
    refine JC.ret ?_
    repeat (first | refine JE.then_ret ?_ | refine JE.blk_ret ?_)
    refine JE.ret1 rfl (RV.tmp rfl) fun w' hw => ⟨y, rfl, Sl.Holds.weak hw (less_pre _ _)⟩
theorem ls_len {s : SlL} : s.ls.length = s.rs.length := List.length_map _
theorem ls_get {s : SlL} {i : Nat} (h : i < s.rs.length) : s.ls.getD i [] = (s.rs.getD i nilS).l := by
  show (s.rs.map Sl8.l).getD i [] = _
  rw [List.getD_eq_getElem?_getD, List.getD_eq_getElem?_getD, List.getElem?_map, List.getElem?_eq_getElem h]
  rfl
theorem take_eq_step {α : Type} [Inhabited α] {a b : List α} {i : Nat} (d : α) (ha : i < a.length) (hb : i < b.length) (h : a.take i = b.take i) (e : a.getD i d = b.getD i d) : a.take (i + 1) = b.take (i + 1) := by
  rw [List.getD_eq_getElem?_getD, List.getD_eq_getElem?_getD, List.getElem?_eq_getElem ha, List.getElem?_eq_getElem hb] at e
  rw [List.take_add_one, List.take_add_one, h, List.getElem?_eq_getElem ha, List.getElem?_eq_getElem hb]
  have e : a[i] = b[i] := e
  rw [e]
set_option maxHeartbeats 16000000 in
theorem eqf_any (A B : SlL) (w : World) (hA : A.ok w) (hB : B.ok w) (hl : A.rs.length < 9223372036854775807) (hl2 : B.rs.length < 9223372036854775807) : Calls Tryz.prog 138 [A.v, B.v, .func (.func 139) #[] #[]].toArray w fun e w' => e = .returned (.bool (decide (A.ls = B.ls))) ∧ Ext w w' := by
  refine enter (n := 32) Tryz.func138 rfl rfl rfl (Holds.start w []) ?_
  cases h0 : decide ((A.rs.length : Int) = (B.rs.length : Int))
  · have hF : decide (A.ls = B.ls) = false := decide_eq_false fun e => by
      have := congrArg List.length e
      rw [ls_len, ls_len] at this
      have := of_decide_eq_false h0
      omega
    rw [hF]
    repeat (first | refine JL.q (by first | (apply OQ.neB; exact rfl; exact rfl; exact h0) | (apply OQ.move; exact rfl) | (apply OQ.assign; exact rfl) | (apply OQ.len; exact rfl; exact rfl)) rfl ?_ | refine JC.seq ?_ | refine JC.region ?_ | refine JL.nil ?_ | refine JE.next ?_)
    refine JC.cond rfl (fun _ => ?_) (fun h => by cases h)
    repeat (first | refine JL.q (by (apply OQ.assign; exact rfl)) rfl ?_ | refine JC.seq ?_ | refine JC.region ?_ | refine JL.nil ?_ | refine JE.next ?_)
    refine JC.ret ?_
    repeat (refine JE.then_ret ?_)
    exact JE.ret1 rfl (RV.tmp rfl) fun w' hw => ⟨rfl, hw.chg⟩
  have hlen : A.rs.length = B.rs.length := by have := of_decide_eq_true h0; omega
  repeat (first | refine JL.q (by first | (apply OQ.neB; exact rfl; exact rfl; exact h0) | (apply OQ.move; exact rfl) | (apply OQ.assign; exact rfl) | (apply OQ.len; exact rfl; exact rfl)) rfl ?_ | refine JC.seq ?_ | refine JC.region ?_ | refine JL.nil ?_ | refine JE.next ?_)
  refine JC.cond rfl (fun h => by cases h) (fun _ => ?_)
  repeat (first | refine JL.q (by first | (apply OQ.move; exact rfl) | (apply OQ.len; exact rfl; exact rfl)) rfl ?_ | refine JC.seq ?_ | refine JC.region ?_ | refine JC.block ?_ | refine JC.skip ?_ | refine JL.nil ?_ | refine JE.next ?_)
  refine JC.loop (fun i : Nat => [(1, B.v), (2, .func (.func 139) #[] #[]), (15, A.v), (16, N A.rs.length), (17, N i)]) (fun _ => []) (fun i => A.rs.length - i) (fun i => i ≤ A.rs.length ∧ A.ls.take i = B.ls.take i) 0 ⟨Nat.zero_le _, rfl⟩ (by repeat (first | exact SubE.nil | refine SubE.cons _ _ _ rfl ?_)) (Less.refl _) ?_
  rintro i ⟨hi, heq⟩
  repeat (first | refine JL.q (by (apply OQ.lssN; exact rfl; exact rfl)) rfl ?_ | refine JC.seq ?_ | refine JC.region ?_ | refine JL.nil ?_ | refine JE.next ?_)
  refine JC.cond rfl (fun h => ?_) (fun h => ?_)
  · have hi' : i < A.rs.length := of_decide_eq_true h
    clear h hi
    obtain ⟨ba, ja, eA, la, ca, oka⟩ := hA.at hi'
    obtain ⟨bb, jb, eB, lb, cb, okb⟩ := hB.at (show i < B.rs.length by omega)
    have vA : A.v = .slice (some ⟨ba, ja, none⟩) A.rs.length A.cap := by rw [← eA]; rfl
    have vB : B.v = .slice (some ⟨bb, jb, none⟩) B.rs.length B.cap := by rw [← eB]; rfl
    have hstep := take_eq_step (a := A.ls) (b := B.ls) (i := i) ([] : List Bt) (by rw [ls_len]; omega) (by rw [ls_len]; omega) heq
    rw [ls_get hi', ls_get (show i < B.rs.length by omega)] at hstep
    have hne : (A.rs.getD i nilS).l ≠ (B.rs.getD i nilS).l → A.ls ≠ B.ls := fun h e => h (by rw [← ls_get hi', ← ls_get (show i < B.rs.length by omega), e])
    generalize A.rs.getD i nilS = a at ca oka hstep hne
    generalize B.rs.getD i nilS = b at cb okb hstep hne
    have ce := fun (M : List Ent) (w' : World) (hw' : Holds w [] M w') => equal_any a b w' (oka.holds hw' rfl) (okb.holds hw' rfl)
    rw [vA, vB]
    cases hb : decide (a.l = b.l)
    · rw [hb] at ce
      rw [decide_eq_false (hne (of_decide_eq_false hb))]
      repeat (first | refine JL.q (by first | (apply OQ.idxS1 (i := i); exact Tryz.underlying93; exact bsS12; exact rfl; exact rfl; exact hi') | (apply OQ.idxS1 (i := i); exact Tryz.underlying93; exact bsS12; exact rfl; exact rfl; exact (hlen ▸ hi')) | (apply OQ.load_old; exact bsC8; exact rfl; exact la; exact (by simp); exact ca) | (apply OQ.load_old; exact bsC8; exact rfl; exact lb; exact (by simp); exact cb) | (apply OQ.callV (f := 139) (vs := [a.v, b.v]); exact goes_equal; exact rfl; exact rfl; exact (ce _)) | (apply OQ.not; exact rfl) | (apply OQ.move; exact rfl) | (apply OQ.assign; exact rfl)) rfl ?_ | refine JC.seq ?_ | refine JC.region ?_ | refine JC.block ?_ | refine JC.skip ?_ | refine JL.nil ?_ | refine JE.next ?_)
      refine JC.cond rfl (fun _ => ?_) (fun h => by cases h)
      repeat (first | refine JL.q (by (apply OQ.assign; exact rfl)) rfl ?_ | refine JC.seq ?_ | refine JC.region ?_ | refine JL.nil ?_ | refine JE.next ?_)
      refine JC.ret ?_
      repeat (first | refine JE.then_ret ?_ | refine JE.blk_ret ?_)
      exact JE.ret1 rfl (RV.tmp rfl) fun w' hw => ⟨rfl, hw.chg⟩
    · rw [hb] at ce
      repeat (first | refine JL.q (by first | (apply OQ.idxS1 (i := i); exact Tryz.underlying93; exact bsS12; exact rfl; exact rfl; exact hi') | (apply OQ.idxS1 (i := i); exact Tryz.underlying93; exact bsS12; exact rfl; exact rfl; exact (hlen ▸ hi')) | (apply OQ.load_old; exact bsC8; exact rfl; exact la; exact (by simp); exact ca) | (apply OQ.load_old; exact bsC8; exact rfl; exact lb; exact (by simp); exact cb) | (apply OQ.callV (f := 139) (vs := [a.v, b.v]); exact goes_equal; exact rfl; exact rfl; exact (ce _)) | (apply OQ.not; exact rfl) | (apply OQ.move; exact rfl) | (apply OQ.assign; exact rfl)) rfl ?_ | refine JC.seq ?_ | refine JC.region ?_ | refine JC.block ?_ | refine JC.skip ?_ | refine JL.nil ?_ | refine JE.next ?_)
      refine JC.cond rfl (fun h => by cases h) (fun _ => ?_)
      repeat (first | refine JL.q (by first | (apply OQ.move; exact rfl) | (apply OQ.addN; exact rfl; exact rfl; exact (by (try simp only []); omega))) rfl ?_ | refine JC.region ?_ | refine JC.skip ?_ | refine JL.nil ?_ | refine JE.next ?_ | refine JE.blk_normal ?_)
      rw [← vA, ← vB]
      exact JE.again (i := i) (i + 1) ⟨hi', hstep (of_decide_eq_true hb)⟩ (by omega) (by repeat (first | exact SubE.nil | refine SubE.cons _ _ _ rfl ?_)) (Less.refl _)
  · have hi' : ¬ i < A.rs.length := of_decide_eq_false h
    obtain rfl : i = A.rs.length := by omega
    have hT : A.ls = B.ls := by
      have h1 : A.ls.take A.rs.length = A.ls := by rw [← ls_len, List.take_length]
      have h2 : B.ls.take A.rs.length = B.ls := by rw [hlen, ← ls_len, List.take_length]
      rw [← h1, heq, h2]
    rw [decide_eq_true hT]
    repeat (first | refine JL.q (by (apply OQ.assign; exact rfl)) rfl ?_ | refine JC.seq ?_ | refine JC.region ?_ | refine JC.exit ?_ | refine JL.nil ?_ | refine JE.next ?_ | refine JE.then_exit ?_ | refine JE.blk_hit ?_)
    exact JC.ret (JE.ret1 rfl (RV.tmp rfl) fun w' hw => ⟨rfl, hw.chg⟩)
end Go.Proofs.YtdabhneehconeaaGreatDoor

/-
  Of no statement by itself: what Write's reference tells of errors and sizes; slices of slices as they grow.
  Conditions: each theorem's own.
-/
namespace Go.Proofs.YtdabhneehconeaaGreatDoor
set_option maxRecDepth 10000
open Sl Fld Mim Tok
namespace Mim
/-- the parts, each by the function one deeper -/
def subW (Qe : List By → List By) : Nat → Option (Part → Except Nat (List PrB × List By))
  | 0 => none
  | k + 1 => some (writeP Qe k)
theorem writeP_node (Qe : List By → List By) (k : Nat) (p : Part) : writeP Qe k p = nodeA Qe (subW Qe k) p.kind p.ps p.code p.body p.parts := by cases k <;> rfl
/-- the body that is made of a part's parts -/
def partsW (sub : Option (Part → Except Nat (List PrB × List By))) (p : Part) : Except Nat (List By) :=
  if p.parts = [] ∨ boundB (parB p.ps bdN) = false ∨ p.code ≠ 0 ∨ p.body ≠ [] then .error 3
  else match sub with
    | none => .error 5
    | some g => match mapE g p.parts with
      | .error e => .error e
      | .ok xs =>
        if spltB (jn (parB p.ps bdN) (xs.map fun x => writeO x.1 x.2) []) (parB p.ps bdN) = (xs.map (fun x => writeO x.1 x.2), 0) then .ok (jn (parB p.ps bdN) (xs.map fun x => writeO x.1 x.2) [])
        else .error 3
theorem writeP_multi (Qe : List By → List By) (k : Nat) {p : Part} (h1 : rightP p.kind p.ps = true) (h2 : multiB p.kind = true) : writeP Qe k p = match partsW (subW Qe k) p with
    | .error e => .error e
    | .ok b => finW [(ctW, writeB p.kind p.ps)] b := by
  rw [writeP_node]
  unfold nodeA partsW
  rw [if_neg (by rw [h1]; decide), if_pos h2]
  by_cases h : p.parts = [] ∨ boundB (parB p.ps bdN) = false ∨ p.code ≠ 0 ∨ p.body ≠ []
  · rw [if_pos h, if_pos h]
  · rw [if_neg h, if_neg h]
    cases subW Qe k with
    | none => rfl
    | some g =>
      dsimp only
      cases mapE g p.parts with
      | error e => rfl
      | ok xs =>
        dsimp only
        split <;> rfl
theorem writeP_wrong (Qe : List By → List By) (k : Nat) {p : Part} (h1 : rightP p.kind p.ps = false) : writeP Qe k p = .error 3 := by
  rw [writeP_node]
  unfold nodeA
  rw [if_pos h1]
theorem writeP_leaf (Qe : List By → List By) (k : Nat) {p : Part} (h1 : rightP p.kind p.ps = true) (h2 : multiB p.kind = false) : writeP Qe k p = if p.code < 0 ∨ 2 < p.code ∨ p.parts ≠ [] then .error 3 else finW [(ctW, writeB p.kind p.ps), (ceW, ceV p.code)] (bodyW Qe p.code p.body) := by
  rw [writeP_node]
  unfold nodeA
  rw [if_neg (by rw [h1]; decide), if_neg (by rw [h2]; decide)]
theorem finW_K {f g : List PrB} {b c : List By} (h : finW f b = .ok (g, c)) : writeK g c = 0 := (fin_ok h).2.2
theorem finW_ne {f : List PrB} {b : List By} {e : Nat} (h : finW f b = .error e) : e ≠ 0 := by
  unfold finW at h
  split at h
  · cases h
  · cases h; assumption
theorem partsW_ne {sub : Option (Part → Except Nat (List PrB × List By))} (hs : ∀ g, sub = some g → ∀ q e, g q = .error e → e ≠ 0) {p : Part} {e : Nat} (h : partsW sub p = .error e) : e ≠ 0 := by
  unfold partsW at h
  split at h
  · cases h; decide
  · split at h
    · cases h; decide
    · rename_i g
      split at h
      · rename_i e' he
        cases h
        exact mapE_ne (hs g rfl) _ _ he
      · split at h
        · cases h
        · cases h; decide
theorem writeP_K (Qe : List By → List By) (k : Nat) {p : Part} {f : List PrB} {b : List By} (h : writeP Qe k p = .ok (f, b)) : writeK f b = 0 := by
  cases h1 : rightP p.kind p.ps
  · rw [writeP_wrong Qe k h1] at h; cases h
  · cases h2 : multiB p.kind
    · rw [writeP_leaf Qe k h1 h2] at h
      split at h
      · cases h
      · exact finW_K h
    · rw [writeP_multi Qe k h1 h2] at h
      split at h
      · cases h
      · exact finW_K h
theorem writeP_ne (Qe : List By → List By) : ∀ (k : Nat) {p : Part} {e : Nat}, writeP Qe k p = .error e → e ≠ 0 := by
  intro k
  induction k with
  | zero =>
    intro p e h
    cases h1 : rightP p.kind p.ps
    · rw [writeP_wrong Qe 0 h1] at h; cases h; decide
    · cases h2 : multiB p.kind
      · rw [writeP_leaf Qe 0 h1 h2] at h
        split at h
        · cases h; decide
        · exact finW_ne h
      · rw [writeP_multi Qe 0 h1 h2] at h
        split at h
        · rename_i he
          cases h
          exact partsW_ne (fun g hg => by cases hg) he
        · exact finW_ne h
  | succ k ih =>
    intro p e h
    cases h1 : rightP p.kind p.ps
    · rw [writeP_wrong Qe (k + 1) h1] at h; cases h; decide
    · cases h2 : multiB p.kind
      · rw [writeP_leaf Qe (k + 1) h1 h2] at h
        split at h
        · cases h; decide
        · exact finW_ne h
      · rw [writeP_multi Qe (k + 1) h1 h2] at h
        split at h
        · rename_i he
          cases h
          exact partsW_ne (fun g hg q e hq => by cases hg; exact ih hq) he
        · exact finW_ne h
theorem written_len {f : List PrB} {b : List By} (h : writeK f b = 0) : (writeO f b).length ≤ 2097152 := by
  have h1 := written_read h
  unfold readL at h1
  split at h1
  · cases h1
  · omega
/-- what stands in the body as far as so many parts -/
def upTo (bd : List By) (l : List (List By)) : List By := l.flatMap fun p => 45 :: 45 :: bd ++ ([13, 10] ++ (p ++ [13, 10]))
theorem upTo_len {bd : List By} {l : List (List By)} {m : Nat} (h : ∀ p ∈ l, p.length ≤ m) : (upTo bd l).length ≤ l.length * (bd.length + m + 6) := by
  induction l with
  | nil => exact Nat.zero_le _
  | cons p l ih =>
    have h1 := ih fun q hq => h q (by simp [hq])
    have h2 := h p (by simp)
    have e : upTo bd (p :: l) = (45 :: 45 :: bd ++ ([13, 10] ++ (p ++ [13, 10]))) ++ upTo bd l := rfl
    rw [e, List.length_append, List.length_cons, Nat.succ_mul]
    have : (45 :: 45 :: bd ++ ([13, 10] ++ (p ++ [13, 10]))).length = bd.length + p.length + 6 := by
      simp only [List.length_append, List.length_cons, List.length_nil]
      omega
    omega
theorem upTo_snoc (bd : List By) (l : List (List By)) (p : List By) : upTo bd (l ++ [p]) = ((upTo bd l ++ (45 :: 45 :: bd ++ [13, 10])) ++ p) ++ [13, 10] := by
  unfold upTo
  rw [List.flatMap_append]
  simp
end Mim
namespace Sl
theorem accC_one (e : TypeId) (q : Acc) (xs : List Value) : accC e 1 q (xs.map fun v => [v]) = accE e q xs := by
  cases q with
  | none => rfl
  | some p =>
    have : (xs.map fun v => [v]).flatten = xs := by
      induction xs with
      | nil => rfl
      | cons x xs ih => rw [List.map_cons, List.flatten_cons, ih]; rfl
    show [(⟨p.1, Sl.Own e 1 (xs.map fun v => [v]).length p.2 (xs.map fun v => [v]).flatten, true⟩ : Ent)] = [⟨p.1, Sl.Own e 1 xs.length p.2 xs, true⟩]
    rw [this, List.length_map]
section
variable {P : Program} {n : Nat} {w0 : World} {S : List Nat} {ops : Array Oper} {Q : Exit → Act → World → Prop} {l : List Oper} {E : Env} {M M' M0 : List Ent} {d : Nat} {t e ty : TypeId} {pos : String} {aft : Array Edge} {x y : Operand}
/-- one value more -/
theorem JL.appendV {z : Value} {by' bl : Nat} {v : Value} {L : List Value} (q : Acc) (hu : P.underlying t = some (.slice e)) (hi : EI P e z 1 by') (hq : q = none → L = []) (hx : ev E x = some (accV q L.length)) (hy : ev E y = some (.slice (some ⟨bl, 0, none⟩) 1 1))
    (h1 : v.oneCell' = true) (hzz : z.cells.size = 1) (hsm : (L.length + 1) * by' ≤ 140737488355328) (hsm2 : L.length + 1 < 9223372036854775808) (hd : Nat.blt d n = true)
    (kk : ∀ b' cap', JL P n w0 S ops Q l ((d, accV (some (b', cap')) (L ++ [v]).length) :: E) (accE e (some (b', cap')) (L ++ [v]) ++ M0)) :
    JL P n w0 S ops Q (⟨some d, .call ⟨.builtin .append, #[x, y], #[t, t]⟩, ty, pos, aft, none⟩ :: l) E (⟨bl, Row e [v], true⟩ :: (accE e q L ++ M0)) := by
  rw [← accC_one e q L]
  refine JL.appendC (c := [v]) (L := L.map fun v => [v]) q hu hi (fun h => by rw [hq h]; rfl) (by rw [List.length_map]; exact hx) hy rfl (fun u hu => by rw [List.mem_singleton.1 hu]; exact h1) hzz (by decide) (by rw [List.length_map]; exact hsm) (by rw [List.length_map]; exact hsm2) hd fun b' cap' => ?_
  have := kk b' cap'
  rw [← accC_one] at this
  rw [show ((L.map fun v => [v]) ++ [[v]] : List (List Value)) = (L ++ [v]).map fun v => [v] by rw [List.map_append]; rfl, List.length_map]
  exact this
end
/-- a slice of slices that has grown -/
def acL (q : Acc) (rs : List Sl8) : SlL := match q with
  | none => ⟨none, 0, []⟩
  | some p => ⟨some ⟨p.1, 0, none⟩, p.2, rs⟩
theorem acL_v {q : Acc} {rs : List Sl8} : (acL q rs).v = accV q (rs.map Sl8.v).length := by
  cases q with
  | none => rfl
  | some p => show Value.slice _ _ _ = accV _ _; rw [List.length_map]; rfl
theorem acL_rs {q : Acc} {rs : List Sl8} (h : q = none → rs = []) : (acL q rs).rs = rs := by
  cases q with
  | none => rw [h rfl]; rfl
  | some p => rfl
theorem acL_ok {e : TypeId} {q : Acc} {rs : List Sl8} {w0 w : World} {S : List Nat} {M : List Ent} (hw : Holds w0 S (accE e q (rs.map Sl8.v) ++ (flatE rs ++ M)) w) (h0 : ∀ x ∈ rs, x.ad = none → x.l = []) : (acL q rs).ok w := by
  cases q with
  | none => exact ⟨Nat.le_refl _, Reads.nil _ _, nofun⟩
  | some p =>
    have h1 : Holds w0 S ([⟨p.1, Sl.Own e 1 rs.length p.2 (rs.map Sl8.v), true⟩] ++ flatE rs) w := by
      refine Sl.Holds.weak hw ?_
      show Less _ (⟨p.1, Sl.Own e 1 (rs.map Sl8.v).length p.2 (rs.map Sl8.v), true⟩ :: (flatE rs ++ M))
      rw [List.length_map]
      exact .keep _ _ _ _ _ _ (fun _ h => h) (less_pre _ _)
    exact ownL_ok (A := [_]) h1 .here h0
end Sl
end Go.Proofs.YtdabhneehconeaaGreatDoor

/-
  Of no statement by itself: literals of slices of two elements with many cells; over X's partial knowledge, for any program P.
  Conditions: each rule's own hypotheses.
-/
namespace Go.Proofs.YtdabhneehconeaaGreatDoor
namespace Sl
section
variable {P : Program} {n : Nat} {w0 : World} {S : List Nat} {ops : Array Oper} {Q : Exit → Act → World → Prop} {l : List Oper} {E : Env} {M : List Ent}
variable {d : Nat} {t e ty : TypeId} {pos : String} {aft : Array Edge} {v z : Value} {x y : Operand} {sz by' : Nat} {cs ds : List Value}
theorem buildA2_run {w : World} (hu : P.underlying t = some (.slice e)) (hi : EI P e z sz by') (_hz : z.cells.size = sz) (h0 : 0 < sz) (hsm : sz ≤ 8388608) (hl : cs.length = sz) (hl2 : ds.length = sz) :
    (Instr.buildSlice t 2 #[(0, .agg cs.toArray), (1, .agg ds.toArray)]).run P w = .ok (.slice (some ⟨w.heap.size, 0, none⟩) 2 2) { w with heap := w.heap.push (.cells (cs ++ ds).toArray e (0, 0)) } := by
  have h3 : (underlying t).run P w = .ok (.slice e) w := run_underlying hu w
  obtain ⟨i, h4, h5, _⟩ := hi.get
  obtain ⟨r, h6, h7, h8⟩ := Great.fill_dense h0 [.agg cs.toArray, .agg ds.toArray] 0 ((Array.range (2 * sz)).map (z.cells[· % z.cells.size]!)) (by intro v hv; simp only [List.mem_cons, List.not_mem_nil, or_false] at hv; rcases hv with rfl | rfl <;> simp [Value.cells, hl, hl2]) (by simp)
  have hr : r = (cs ++ ds).toArray := by
    apply Array.ext_getElem?
    intro k
    rw [h8 k]
    by_cases hk : k < 2 * sz
    · rw [if_pos (by simp; omega)]
      by_cases h1 : k < sz
      · rw [List.getElem?_toArray, List.getElem?_append_left (by omega)]
        simp [Nat.div_eq_of_lt h1, Nat.mod_eq_of_lt h1, Value.cells]
      · have e1 : k / sz = 1 := by
          rw [Nat.div_eq_iff h0]; omega
        have e2 : k % sz = k - sz := by
          rw [Nat.mod_eq_sub_mod (by omega), Nat.mod_eq_of_lt (by omega)]
        rw [List.getElem?_toArray, List.getElem?_append_right (by omega), hl]
        simp [e1, e2, Value.cells]
    · rw [if_neg (by simp; omega), Array.getElem?_eq_none (by simp; omega), Array.getElem?_eq_none (by simp; omega)]
  subst hr
  have h11 : (zeroValue e).run P w = .ok z w := by simp [zeroValue, typeInfo, h4, h5]
  have h12 : ¬ (16777216 < 2 * sz) := by omega
  have h13 : ¬ (2 * sz = 0) := by omega
  have h14 : ¬ (sz = 0) := by omega
  simp only [List.zipIdx_cons, List.zipIdx_nil, List.map_cons, List.map_nil] at h6
  simp [Instr.buildSlice, Sem.run_bind, h3, sizeOf_run hi.sz, h11, h12, h13, h14, h6, newRow, newObj, Sem.run]
theorem JL.litA2 (hu : P.underlying t = some (.slice e)) (hi : EI P e z sz by') (hz : z.cells.size = sz) (h0 : 0 < sz) (hsm : sz ≤ 8388608) (hx : ev E x = some (.agg cs.toArray)) (hy : ev E y = some (.agg ds.toArray)) (hl : cs.length = sz) (hl2 : ds.length = sz) (hd : Nat.blt d n = true)
    (k : ∀ b, w0.heap.size ≤ b → JL P n w0 S ops Q l ((d, .slice (some ⟨b, 0, none⟩) 2 2) :: E) (⟨b, Row e (cs ++ ds), true⟩ :: M)) : JL P n w0 S ops Q (⟨some d, .buildSlice t 2 #[(0, x), (1, y)], ty, pos, aft, none⟩ :: l) E M :=
  ⟨fun a w ha hw => wpList_plain rfl fun K hK => by
    unfold Oper.wp
    have hm : (#[(0, x), (1, y)] : Array (Nat × Operand)).map (fun (i, x) => (i, a.eval x)) = #[(0, .agg cs.toArray), (1, .agg ds.toArray)] := by simp [ha.eval hx, ha.eval hy]
    simp only [execOp, hm, Sem.run_bind, buildA2_run hu hi hz h0 hsm hl hl2, Result.andThen_ok]
    exact hK _ _ ((k w.heap.size hw.chg.size).go _ _ (ha.put d _ hd) (hw.push _ rfl rfl rfl rfl rfl))⟩
end
end Sl
end Go.Proofs.YtdabhneehconeaaGreatDoor

/-
  Of no statement by itself: what MimeDeep gives, over MimeOk.
  Conditions: MimeOk, and each theorem's own.
-/
namespace Go.Proofs.YtdabhneehconeaaGreatDoor
set_option maxRecDepth 10000
open Sl Fld Mim
theorem paramI : EI Tryz.prog 63 (.agg (pc ([], [])).toArray) 2 32 := by unfold EI; kernel_rfl
section
variable {n : Nat} {E : Env} {C : World → Prop} {dst : Option Tmp} {ty : TypeId} {pos : String} {aft : Array Edge} {g : Option (Nat × Bool)} {x y z : Operand}
end
theorem isPart_one : ∀ {d : Nat} {w : World} {p : Part} {cs : List Value}, IsPart d w p cs → cs.all Value.oneCell' = true
  | _ + 1, _, _, _, ⟨_, _, _, _, _, h, _⟩ => by rw [h]; rfl
structure DeT where
  i : Nat
  cs : List Value
  M : List Ent
end Go.Proofs.YtdabhneehconeaaGreatDoor

/-
  Of no statement by itself: what the landed mime's writeParts gives, where write gives the letters of what stands one deeper.
  Conditions: each theorem's own.
-/
namespace Go.Proofs.YtdabhneehconeaaGreatDoor
set_option maxRecDepth 10000
open Sl Fld Mim Tok
theorem goes_wparts : Goes Tryz.prog 85 := ⟨_, Tryz.func85, rfl, by kernel_rfl⟩
theorem goes_mwriteU : Goes Tryz.prog 47 := ⟨_, Tryz.func47, rfl, by kernel_rfl⟩
theorem inC12w : scal Tryz.prog 3 = true := by kernel_rfl
/-- a letter and its bytes as an answer -/
structure WA (r : Except Nat (List Pr × List Bt)) where
  f : Sl2
  s : Sl8
  m : Sl8
  hf : f.l = fstE r
  hs : s.l = sndE r
  hm : ∀ x, r = .ok x → m.l = writeO x.1 x.2
  nf : f.ad = none → f.l = []
  ns : s.ad = none → s.l = []
  nm : m.ad = none → m.l = []
def WA.ents {r : Except Nat (List Pr × List Bt)} (x : WA r) : List Ent := x.f.ents ++ (x.s.ents ++ x.m.ents)
theorem WA.wr {r : Except Nat (List Pr × List Bt)} (x : WA r) : ∀ e ∈ x.ents, e.wr = true := fun e he => by
  rcases List.mem_append.1 he with h | h
  · exact x.f.ents_wr e h
  rcases List.mem_append.1 h with h | h
  · exact x.s.ents_wr e h
  · exact x.m.ents_wr e h
def WA.err {e : Nat} : WA (.error e) := ⟨nil2, nilS, nilS, rfl, rfl, nofun, fun _ => rfl, fun _ => rfl, fun _ => rfl⟩
/-- what write gives of what stands in so many others -/
def WritesAs (Qe : List Fld.By → List Fld.By) (k others : Nat) : Prop := ∀ (p : Part) (cs : List Value) (w : World), EncOk w → IsPart (k + 2) w p cs → noQ (k + 1) p → lowP (k + 2) p →
  Calls Tryz.prog 47 [.agg cs.toArray, N others].toArray w fun e w' => ∃ x : WA (writeP Qe k p), e = .returned (.tuple #[.agg #[x.f.v, x.s.v], x.m.v, N (codeE (writeP Qe k p))]) ∧ Holds w [] x.ents w'
def okB : Except Nat (List Fld.By) → List Fld.By
  | .ok b => b
  | .error _ => []
structure WpZ where
  i : Nat
  qb : Acc
  qm : Acc
  rs : List Sl8
theorem wperm1 (m A B X : List Ent) : (m ++ (A ++ (B ++ X))).Perm (B ++ (m ++ (A ++ X))) :=
  (List.Perm.append_left m (perm_comm3 A B X)).trans (perm_comm3 m B _)
theorem wperm2 (B m A X : List Ent) : (B ++ (m ++ (A ++ X))).Perm (A ++ (B ++ (m ++ X))) :=
  (List.Perm.append_left B (perm_comm3 m A X)).trans (perm_comm3 B A _)
theorem flatE_snoc (rs : List Sl8) (m : Sl8) : flatE (rs ++ [m]) = flatE rs ++ m.ents := by
  unfold flatE
  rw [List.flatMap_append]
  simp
theorem wperm3 (A B : List Ent) (m : Sl8) (rs : List Sl8) : (A ++ (B ++ (m.ents ++ (flatE rs ++ [])))).Perm (A ++ (B ++ (flatE (rs ++ [m]) ++ []))) := by
  rw [flatE_snoc, List.append_nil, List.append_nil]
  exact List.Perm.append_left A (List.Perm.append_left B List.perm_append_comm)
set_option maxHeartbeats 64000000 in
theorem wparts_any (Qe : List Fld.By → List Fld.By) (k others : Nat) (hko : k + others = 8) (ih : ∀ k', k = k' + 1 → WritesAs Qe k' (others + 1)) (p : Part) (cs : List Value) (w : World) (hE : EncOk w) (hp : IsPart (k + 2) w p cs) (hq : noQ (k + 1) p) (hlo : lowP (k + 2) p) : Calls Tryz.prog 85 [.agg cs.toArray, N others].toArray w
    fun e w' => ∃ y : { y : Sl8 // Ans y (okB (partsW (subW Qe k) p)) }, e = .returned (.tuple #[y.1.v, N (codeL (partsW (subW Qe k) p))]) ∧ Holds w [] y.1.ents w' := by
  obtain ⟨ps, body, ad, cap, subs, rfl, ⟨okp, lp⟩, ⟨okb, lb⟩, hcap, hr, hsl, hsub⟩ := hp
  obtain ⟨l1, l2, l3, l4, l5, l6, l7, l8⟩ := hlo
  have hq2 := hq.2
  clear hq
  refine enter (n := 93) Tryz.func85 rfl rfl rfl (Holds.start w []) ?_
  refine JC.seq (JC.region (JL.box (r := [Z p.kind, ps.v, .int .i64 p.code, body.v, .slice ad p.parts.length cap]) rfl rfl rfl fun b2 _ => ?_))
  have cf := fun (M : List Ent) (w' : World) (hw' : Holds w [] M w') => bof_any p.kind ps (.int .i64 p.code) body.v (.slice ad p.parts.length cap) w' (okp.holds hw' rfl) (by rw [lp]; omega)
  rw [lp] at cf
  have hbl : (parB p.ps bdN).length ≤ 1000 := by
    unfold parB
    cases hf : p.ps.find? fun q => decide (q.1 = bdN) with
    | none => exact Nat.zero_le _
    | some q => exact (l3 q (List.mem_of_find?_eq_some hf)).2
  generalize hbd : parB p.ps bdN = bd at cf hbl
  have cb := fun w' => mbnd_any bd w' (by omega)
  have hP : partsW (subW Qe k) p = if p.parts = [] ∨ boundB bd = false ∨ p.code ≠ 0 ∨ p.body ≠ [] then .error 3
      else match subW Qe k with
        | none => .error 5
        | some g => match mapE g p.parts with
          | .error e => .error e
          | .ok xs =>
            if spltB (jn bd (xs.map fun x => writeO x.1 x.2) []) bd = (xs.map (fun x => writeO x.1 x.2), 0) then .ok (jn bd (xs.map fun x => writeO x.1 x.2) [])
            else .error 3 := by
    unfold partsW
    rw [hbd]
    all_goals rfl
  have hpl : p.parts = [] ↔ p.parts.length = 0 := List.length_eq_zero_iff.symm
  have hbo : p.body = [] ↔ body.l.length = 0 := by rw [lb]; exact List.length_eq_zero_iff.symm
  cases g1 : decide ((p.parts.length : Int) = 0)
  rotate_left
  · have hk : partsW (subW Qe k) p = .error 3 := by rw [hP, if_pos (.inl (hpl.2 (by have := of_decide_eq_true g1; omega)))]
    rw [hk]
    repeat (first | refine JL.q (by first | (apply OQ.load_agg (cs := [Z p.kind, ps.v, .int .i64 p.code, body.v, .slice ad p.parts.length cap]); exact ptA9; exact ptS; exact rfl; exact .here; exact rfl; exact Row.all) | (apply OQ.callx (vs := [.agg #[Z p.kind, ps.v, .int .i64 p.code, body.v, .slice ad p.parts.length cap]]); exact goes_bof; exact rfl; exact (cf _)) | (apply OQ.load; exact ptC12; exact rfl; exact .here; exact (Row.cell (v := .slice ad p.parts.length cap) rfl)) | (apply OQ.len; exact Tryz.underlying57; exact rfl) | (apply OQ.eqB (b := 0); exact rfl; exact rfl; exact g1) | (apply OQ.pick_t; exact rfl; exact rfl) | (apply OQ.move; exact rfl) | (apply OQ.assign; exact rfl) | (apply OQ.fld; exact rfl; exact rfl; exact rfl; exact (by decide); exact rfl)) rfl ?_ | refine JC.seq ?_ | refine JC.region ?_ | refine JL.nil ?_ | refine JE.next ?_ | refine JL.gskip rfl rfl rfl rfl ?_)
    refine JC.cond rfl (fun _ => ?_) (fun h => by cases h)
    repeat (first | refine JL.q (by (apply OQ.assign; exact rfl)) rfl ?_ | refine JC.seq ?_ | refine JC.region ?_ | refine JL.nil ?_ | refine JE.next ?_)
    refine JC.ret ?_
    repeat (refine JE.then_ret ?_)
    exact JE.ret2 rfl (RV.tmp rfl) (RV.tmp rfl) fun w' hw => ⟨⟨nilS, ⟨rfl, fun _ => rfl⟩⟩, rfl, hw.weak (.nil _)⟩
  cases hB : boundB bd
  · have hk : partsW (subW Qe k) p = .error 3 := by rw [hP, if_pos (.inr (.inl hB))]
    rw [hB] at cb
    rw [hk]
    repeat (first | refine JL.q (by first | (apply OQ.load_agg (cs := [Z p.kind, ps.v, .int .i64 p.code, body.v, .slice ad p.parts.length cap]); exact ptA9; exact ptS; exact rfl; exact .here; exact rfl; exact Row.all) | (apply OQ.callx (vs := [.agg #[Z p.kind, ps.v, .int .i64 p.code, body.v, .slice ad p.parts.length cap]]); exact goes_bof; exact rfl; exact (cf _)) | (apply OQ.load; exact ptC12; exact rfl; exact .here; exact (Row.cell (v := .slice ad p.parts.length cap) rfl)) | (apply OQ.len; exact Tryz.underlying57; exact rfl) | (apply OQ.eqB (b := 0); exact rfl; exact rfl; exact g1) | (apply OQ.pick_t; exact rfl; exact rfl) | (apply OQ.pick_f; exact rfl; exact rfl) | (apply OQ.callx (vs := [Z bd]); exact goes_mbnd; exact rfl; exact (fun w' _ => cb w')) | (apply OQ.not; exact rfl) | (apply OQ.move; exact rfl) | (apply OQ.assign; exact rfl) | (apply OQ.fld; exact rfl; exact rfl; exact rfl; exact (by decide); exact rfl)) rfl ?_ | refine JC.seq ?_ | refine JC.region ?_ | refine JL.nil ?_ | refine JE.next ?_ | refine JL.gon rfl rfl ?_ | refine JL.gskip rfl rfl rfl rfl ?_)
    refine JC.cond rfl (fun _ => ?_) (fun h => by cases h)
    repeat (first | refine JL.q (by (apply OQ.assign; exact rfl)) rfl ?_ | refine JC.seq ?_ | refine JC.region ?_ | refine JL.nil ?_ | refine JE.next ?_)
    refine JC.ret ?_
    repeat (refine JE.then_ret ?_)
    exact JE.ret2 rfl (RV.tmp rfl) (RV.tmp rfl) fun w' hw => ⟨⟨nilS, ⟨rfl, fun _ => rfl⟩⟩, rfl, hw.weak (.nil _)⟩
  rw [hB] at cb
  cases g2 : decide (p.code = 0)
  · have hk : partsW (subW Qe k) p = .error 3 := by rw [hP, if_pos (.inr (.inr (.inl (of_decide_eq_false g2))))]
    rw [hk]
    repeat (first | refine JL.q (by first | (apply OQ.load_agg (cs := [Z p.kind, ps.v, .int .i64 p.code, body.v, .slice ad p.parts.length cap]); exact ptA9; exact ptS; exact rfl; exact .here; exact rfl; exact Row.all) | (apply OQ.callx (vs := [.agg #[Z p.kind, ps.v, .int .i64 p.code, body.v, .slice ad p.parts.length cap]]); exact goes_bof; exact rfl; exact (cf _)) | (apply OQ.load; exact ptC12; exact rfl; exact .here; exact (Row.cell (v := .slice ad p.parts.length cap) rfl)) | (apply OQ.len; exact Tryz.underlying57; exact rfl) | (apply OQ.eqB (b := 0); exact rfl; exact rfl; exact g1) | (apply OQ.pick_t; exact rfl; exact rfl) | (apply OQ.pick_f; exact rfl; exact rfl) | (apply OQ.callx (vs := [Z bd]); exact goes_mbnd; exact rfl; exact (fun w' _ => cb w')) | (apply OQ.not; exact rfl) | (apply OQ.load; exact inC12w; exact rfl; exact .here; exact (Row.cell (v := .int .i64 p.code) rfl)) | (apply OQ.neB (b := 0); exact rfl; exact rfl; exact g2) | (apply OQ.move; exact rfl) | (apply OQ.assign; exact rfl) | (apply OQ.fld; exact rfl; exact rfl; exact rfl; exact (by decide); exact rfl)) rfl ?_ | refine JC.seq ?_ | refine JC.region ?_ | refine JL.nil ?_ | refine JE.next ?_ | refine JL.gon rfl rfl ?_ | refine JL.gskip rfl rfl rfl rfl ?_)
    refine JC.cond rfl (fun _ => ?_) (fun h => by cases h)
    repeat (first | refine JL.q (by (apply OQ.assign; exact rfl)) rfl ?_ | refine JC.seq ?_ | refine JC.region ?_ | refine JL.nil ?_ | refine JE.next ?_)
    refine JC.ret ?_
    repeat (refine JE.then_ret ?_)
    exact JE.ret2 rfl (RV.tmp rfl) (RV.tmp rfl) fun w' hw => ⟨⟨nilS, ⟨rfl, fun _ => rfl⟩⟩, rfl, hw.weak (.nil _)⟩
  cases g3 : decide ((0 : Int) < (body.l.length : Int))
  rotate_left
  · have hk : partsW (subW Qe k) p = .error 3 := by rw [hP, if_pos (.inr (.inr (.inr (fun h => by have := hbo.1 h; have := of_decide_eq_true g3; omega))))]
    rw [hk]
    repeat (first | refine JL.q (by first | (apply OQ.load_agg (cs := [Z p.kind, ps.v, .int .i64 p.code, body.v, .slice ad p.parts.length cap]); exact ptA9; exact ptS; exact rfl; exact .here; exact rfl; exact Row.all) | (apply OQ.callx (vs := [.agg #[Z p.kind, ps.v, .int .i64 p.code, body.v, .slice ad p.parts.length cap]]); exact goes_bof; exact rfl; exact (cf _)) | (apply OQ.load; exact ptC12; exact rfl; exact .here; exact (Row.cell (v := .slice ad p.parts.length cap) rfl)) | (apply OQ.len; exact Tryz.underlying57; exact rfl) | (apply OQ.eqB (b := 0); exact rfl; exact rfl; exact g1) | (apply OQ.pick_f; exact rfl; exact rfl) | (apply OQ.callx (vs := [Z bd]); exact goes_mbnd; exact rfl; exact (fun w' _ => cb w')) | (apply OQ.not; exact rfl) | (apply OQ.load; exact inC12w; exact rfl; exact .here; exact (Row.cell (v := .int .i64 p.code) rfl)) | (apply OQ.neB (b := 0); exact rfl; exact rfl; exact g2) | (apply OQ.load; exact bsCF; exact rfl; exact .here; exact (Row.cell (v := body.v) rfl)) | (apply OQ.len; exact Tryz.underlying22; exact rfl) | (apply OQ.gtrB (b := 0); exact rfl; exact rfl; exact g3) | (apply OQ.move; exact rfl) | (apply OQ.assign; exact rfl) | (apply OQ.fld; exact rfl; exact rfl; exact rfl; exact (by decide); exact rfl)) rfl ?_ | refine JC.seq ?_ | refine JC.region ?_ | refine JL.nil ?_ | refine JE.next ?_ | refine JL.gon rfl rfl ?_)
    refine JC.cond rfl (fun _ => ?_) (fun h => by cases h)
    repeat (first | refine JL.q (by (apply OQ.assign; exact rfl)) rfl ?_ | refine JC.seq ?_ | refine JC.region ?_ | refine JL.nil ?_ | refine JE.next ?_)
    refine JC.ret ?_
    repeat (refine JE.then_ret ?_)
    exact JE.ret2 rfl (RV.tmp rfl) (RV.tmp rfl) fun w' hw => ⟨⟨nilS, ⟨rfl, fun _ => rfl⟩⟩, rfl, hw.weak (.nil _)⟩
  rw [if_neg (by
    rintro (h | h | h | h)
    · have := hpl.1 h; have := of_decide_eq_false g1; omega
    · rw [hB] at h; cases h
    · exact h (of_decide_eq_true g2)
    · exact h (hbo.2 (by have := of_decide_eq_false g3; omega)))] at hP
  repeat (first | refine JL.q (by first | (apply OQ.load_agg (cs := [Z p.kind, ps.v, .int .i64 p.code, body.v, .slice ad p.parts.length cap]); exact ptA9; exact ptS; exact rfl; exact .here; exact rfl; exact Row.all) | (apply OQ.callx (vs := [.agg #[Z p.kind, ps.v, .int .i64 p.code, body.v, .slice ad p.parts.length cap]]); exact goes_bof; exact rfl; exact (cf _)) | (apply OQ.load; exact ptC12; exact rfl; exact .here; exact (Row.cell (v := .slice ad p.parts.length cap) rfl)) | (apply OQ.len; exact Tryz.underlying57; exact rfl) | (apply OQ.eqB (b := 0); exact rfl; exact rfl; exact g1) | (apply OQ.pick_f; exact rfl; exact rfl) | (apply OQ.callx (vs := [Z bd]); exact goes_mbnd; exact rfl; exact (fun w' _ => cb w')) | (apply OQ.not; exact rfl) | (apply OQ.load; exact inC12w; exact rfl; exact .here; exact (Row.cell (v := .int .i64 p.code) rfl)) | (apply OQ.neB (b := 0); exact rfl; exact rfl; exact g2) | (apply OQ.load; exact bsCF; exact rfl; exact .here; exact (Row.cell (v := body.v) rfl)) | (apply OQ.len; exact Tryz.underlying22; exact rfl) | (apply OQ.gtrB (b := 0); exact rfl; exact rfl; exact g3) | (apply OQ.move; exact rfl) | (apply OQ.assign; exact rfl) | (apply OQ.fld; exact rfl; exact rfl; exact rfl; exact (by decide); exact rfl)) rfl ?_ | refine JC.seq ?_ | refine JC.region ?_ | refine JL.nil ?_ | refine JE.next ?_ | refine JL.gon rfl rfl ?_)
  refine JC.cond rfl (fun h => by cases h) (fun _ => ?_)
  cases k with
  | zero =>
    have hk : partsW (subW Qe 0) p = .error 5 := hP
    rw [hk]
    have h8 : decide ((8 : Int) ≤ (others : Int)) = true := decide_eq_true (by omega)
    repeat (first | refine JL.q (by first | (apply OQ.geqB (a := (others : Int)) (b := 8); exact rfl; exact rfl; exact h8) | (apply OQ.move; exact rfl)) rfl ?_ | refine JC.seq ?_ | refine JC.region ?_ | refine JC.skip ?_ | refine JL.nil ?_ | refine JE.next ?_)
    refine JC.cond rfl (fun _ => ?_) (fun h => by cases h)
    repeat (first | refine JL.q (by (apply OQ.assign; exact rfl)) rfl ?_ | refine JC.seq ?_ | refine JC.region ?_ | refine JL.nil ?_ | refine JE.next ?_)
    refine JC.ret ?_
    repeat (refine JE.then_ret ?_)
    exact JE.ret2 rfl (RV.tmp rfl) (RV.tmp rfl) fun w' hw => ⟨⟨nilS, ⟨rfl, fun _ => rfl⟩⟩, rfl, hw.weak (.nil _)⟩
  | succ k =>
  have ih := ih k rfl
  have h8 : decide ((8 : Int) ≤ (others : Int)) = false := decide_eq_false (by omega)
  have hP : partsW (subW Qe (k + 1)) p = match mapE (writeP Qe k) p.parts with
          | .error e => .error e
          | .ok xs =>
            if spltB (jn bd (xs.map fun x => writeO x.1 x.2) []) bd = (xs.map (fun x => writeO x.1 x.2), 0) then .ok (jn bd (xs.map fun x => writeO x.1 x.2) [])
            else .error 3 := hP
  generalize partsW (subW Qe (k + 1)) p = R at hP
  have hbe := fun w' => mbetw_any bd w' (by omega)
  have hla := fun w' => mlastl_any bd w' (by omega)
  clear cf cb
  repeat (first | refine JL.q (by first | (apply OQ.geqB (a := (others : Int)) (b := 8); exact rfl; exact rfl; exact h8) | (apply OQ.move; exact rfl)) rfl ?_ | refine JC.seq ?_ | refine JC.region ?_ | refine JC.skip ?_ | refine JL.nil ?_ | refine JE.next ?_)
  refine JC.cond rfl (fun h => by cases h) (fun _ => ?_)
  repeat (first | refine JL.q (by first | (apply OQ.load; exact ptC12; exact rfl; exact .here; exact (Row.cell (v := .slice ad p.parts.length cap) rfl)) | (apply OQ.len; exact Tryz.underlying57; exact rfl) | (apply OQ.move; exact rfl) | (apply OQ.assign; exact rfl) | (apply OQ.fld; exact rfl; exact rfl; exact rfl; exact (by decide); exact rfl)) rfl ?_ | refine JC.seq ?_ | refine JC.region ?_ | refine JC.block ?_ | refine JC.skip ?_ | refine JL.nil ?_ | refine JE.next ?_)
  refine JC.loop (fun z : WpZ => [(1, N others), (6, Z bd), (7, accV z.qb ((upTo bd (z.rs.map Sl8.l)).map U8).length), (8, accV z.qm (z.rs.map Sl8.v).length), (41, .slice ad p.parts.length cap), (42, N p.parts.length), (43, N z.i)])
    (fun z => accE 5 z.qb ((upTo bd (z.rs.map Sl8.l)).map U8) ++ (accE 22 z.qm (z.rs.map Sl8.v) ++ (flatE z.rs ++ []))) (fun z => p.parts.length - z.i)
    (fun z => z.i ≤ p.parts.length ∧ (z.qb = none → (upTo bd (z.rs.map Sl8.l)).map U8 = []) ∧ (z.qm = none → z.rs = []) ∧ z.rs.length = z.i ∧ (∀ x ∈ z.rs, (x.ad = none → x.l = []) ∧ x.l.length ≤ 2097152) ∧ ∃ L, mapE (writeP Qe k) (p.parts.take z.i) = .ok L ∧ z.rs.map Sl8.l = L.map fun x => writeO x.1 x.2) ⟨0, none, none, []⟩
    ⟨Nat.zero_le _, fun _ => rfl, fun _ => rfl, rfl, nofun, [], rfl, rfl⟩ (by repeat (first | exact SubE.nil | refine SubE.cons _ _ _ rfl ?_)) (.nil _) ?_
  rintro ⟨i, qb, qm, rs⟩ ⟨hi, hqb, hqm, hrl, hrs, L, hL, hLl⟩
  dsimp only at hi hqb hqm hrl hrs hLl hL ⊢
  have hul : (upTo bd (rs.map Sl8.l)).length ≤ 10600000 := by
    have h1 := upTo_len (bd := bd) (l := rs.map Sl8.l) (m := 2097152) (fun q hq => by
      obtain ⟨x, hx, rfl⟩ := List.mem_map.1 hq
      exact (hrs x hx).2)
    rw [List.length_map] at h1
    have h2 : rs.length * (bd.length + 2097152 + 6) ≤ 5 * (1000 + 2097152 + 6) := Nat.mul_le_mul (by omega) (by omega)
    omega
  repeat (first | refine JL.q (by (apply OQ.lssN; exact rfl; exact rfl)) rfl ?_ | refine JC.seq ?_ | refine JC.region ?_ | refine JL.nil ?_ | refine JE.next ?_)
  refine JC.cond rfl (fun h => ?_) (fun h => ?_)
  · have hi' : i < p.parts.length := of_decide_eq_true h
    clear h
    obtain ⟨ba, j, rfl, lt, hc⟩ := sub_at hr hsub (show i < subs.length by omega)
    have k1 := hsub i (by omega)
    have hqm' := getD_mem hi'
    have hnq := hq2 _ hqm'
    have hlw := l8 _ hqm'
    have htake : p.parts = p.parts.take i ++ p.parts.getD i default :: p.parts.drop (i + 1) := by rw [← drop_at default hi', List.take_append_drop]
    have htk : p.parts.take (i + 1) = p.parts.take i ++ [p.parts.getD i default] := by
      rw [List.take_add_one, List.getElem?_eq_getElem hi', List.getD_eq_getElem?_getD, List.getElem?_eq_getElem hi']
      rfl
    have c5 := k1.len
    have c1 := isPart_one k1
    have cw := fun (M : List Ent) (w' : World) (hw' : Holds w [] M w') => ih (p.parts.getD i default) (subs.getD i []) w' (hE.holds hw') (k1.ext hw'.chg) hnq hlw
    generalize p.parts.getD i default = q at cw htake htk
    generalize subs.getD i [] = c at hc c5 c1 cw
    clear k1 hnq hlw
    repeat (first | refine JL.q (by first | (apply OQ.idxS (i := i); exact Tryz.underlying57; exact ptS; exact rfl; exact rfl; exact hi') | (apply OQ.load_agg_old (cs := c); exact ptA; exact rfl; exact (by rw [c5]; exact ptS); exact lt; exact (by simp); exact hc)) rfl ?_ | refine JC.seq ?_ | refine JC.region ?_ | refine JC.block ?_ | refine JC.skip ?_ | refine JE.next ?_)
    refine JL.alloc (r := pz) ?_ ?_ fun b10 _ => ?_
    exact ptZ9
    rfl
    refine JL.store_all (cs := c) ptS rfl rfl c5 c1 .here rfl ?_
    repeat (first | refine JL.q (by first | (apply OQ.load_agg (cs := c); exact ptA9; exact ptS; exact rfl; exact .here; exact c5; exact Row.all) | (apply OQ.move; exact rfl) | (apply OQ.addN; exact rfl; exact rfl; exact (by (try simp only []); omega))) rfl ?_ | refine JC.seq ?_ | refine JC.region ?_ | refine JL.nil ?_ | refine JE.next ?_)
    refine JL.callg (ι := WA (writeP Qe k q)) (vs := [.agg c.toArray, N (others + 1)]) (fun x => .tuple #[.agg #[x.f.v, x.s.v], x.m.v, N (codeE (writeP Qe k q))]) (fun x => x.ents) goes_mwriteU rfl rfl (fun x => x.wr) (cw _) ?_
    intro x
    refine JL.less (M' := x.m.ents ++ (accE 5 qb ((upTo bd (rs.map Sl8.l)).map U8) ++ (accE 22 qm (rs.map Sl8.v) ++ (flatE rs ++ [])))) (by rw [WA.ents, List.append_assoc, List.append_assoc]; exact less_app _ (less_app _ (less_app2 (.drop _ _ _ (Less.refl _)) _))) ?_
    repeat (refine JL.q (by first | (apply OQ.extract; exact rfl; exact rfl) | (apply OQ.move; exact rfl)) rfl ?_)
    refine JL.alloc ltZ12 rfl fun b11 _ => ?_
    refine JL.store_all (cs := [x.f.v, x.s.v]) ltS12 rfl rfl rfl rfl .here rfl ?_
    have hcp : (∃ e, writeP Qe k q = .error e) ∨ (∃ y, writeP Qe k q = .ok y) := by
      cases writeP Qe k q with
      | error e => exact .inl ⟨e, rfl⟩
      | ok q => exact .inr ⟨q, rfl⟩
    rcases hcp with ⟨e, he⟩ | ⟨⟨fq, bq⟩, he⟩
    · have hk : codeE (writeP Qe k q) = e := by rw [he]; rfl
      have hne0 := writeP_ne Qe k he
      have hM : mapE (writeP Qe k) p.parts = .error e := by
        rw [htake]
        exact mapE_err hL he
      rw [hM] at hP
      obtain rfl : R = .error e := hP
      have hne : decide ((e : Int) = 0) = false := decide_eq_false (by omega)
      rw [hk]
      repeat (first | refine JL.q (by first | (apply OQ.neB (a := (e : Int)) (b := 0); exact rfl; exact rfl; exact hne) | (apply OQ.move; exact rfl) | (apply OQ.assign; exact rfl)) rfl ?_ | refine JC.seq ?_ | refine JC.region ?_ | refine JL.nil ?_ | refine JE.next ?_)
      refine JC.cond rfl (fun _ => ?_) (fun h => by cases h)
      repeat (first | refine JL.q (by first | (apply OQ.move; exact rfl) | (apply OQ.assign; exact rfl)) rfl ?_ | refine JC.seq ?_ | refine JC.region ?_ | refine JL.nil ?_ | refine JE.next ?_)
      refine JC.ret ?_
      repeat (first | refine JE.then_ret ?_ | refine JE.blk_ret ?_)
      exact JE.ret2 rfl (RV.tmp rfl) (RV.tmp rfl) fun w' hw => ⟨⟨nilS, ⟨rfl, fun _ => rfl⟩⟩, rfl, hw.weak (.nil _)⟩
    · have hk : codeE (writeP Qe k q) = 0 := by rw [he]; rfl
      have hml : x.m.l = writeO fq bq := x.hm _ he
      have hm2 : x.m.l.length ≤ 2097152 := by rw [hml]; exact written_len (writeP_K Qe k he)
      have h00 : decide (((0 : Nat) : Int) = 0) = true := rfl
      rw [hk]
      repeat (first | refine JL.q (by first | (apply OQ.neB (a := ((0 : Nat) : Int)) (b := 0); exact rfl; exact rfl; exact h00) | (apply OQ.move; exact rfl) | (apply OQ.assign; exact rfl)) rfl ?_ | refine JC.seq ?_ | refine JC.region ?_ | refine JL.nil ?_ | refine JE.next ?_)
      refine JC.cond rfl (fun h => by cases h) (fun _ => ?_)
      have hfs := x.nm
      have hLl2 : (rs ++ [x.m]).map Sl8.l = (L ++ [(fq, bq)]).map fun x => writeO x.1 x.2 := by rw [List.map_append, List.map_append, hLl]; show _ ++ [x.m.l] = _; rw [hml]; rfl
      clear hml
      generalize x.m = m at hm2 hfs hLl2
      repeat (first | refine JL.q (by (apply OQ.move; exact rfl)) rfl ?_ | refine JC.seq ?_ | refine JC.region ?_ | refine JC.skip ?_ | refine JE.next ?_)
      refine JL.lit1 (v := m.v) Tryz.underlying93 slE12 rfl rfl rfl rfl fun bl _ => ?_
      refine JL.less (M' := ⟨bl, Row 22 [m.v], true⟩ :: (m.ents ++ (accE 5 qb ((upTo bd (rs.map Sl8.l)).map U8) ++ (accE 22 qm (rs.map Sl8.v) ++ (flatE rs ++ []))))) (.keep _ _ _ _ _ _ (fun _ h => h) (.drop _ _ _ (Less.refl _))) ?_
      refine JL.perm (M' := ⟨bl, Row 22 [m.v], true⟩ :: (accE 22 qm (rs.map Sl8.v) ++ (m.ents ++ (accE 5 qb ((upTo bd (rs.map Sl8.l)).map U8) ++ (flatE rs ++ []))))) ?_ (List.Perm.cons _ (wperm1 _ _ _ _))
      have hvl : (rs.map Sl8.v).length = rs.length := List.length_map _
      refine JL.appendV (L := rs.map Sl8.v) (v := m.v) qm Tryz.underlying93 slE12 (fun h => by rw [hqm h]; rfl) rfl rfl rfl rfl (by rw [hvl]; omega) (by rw [hvl]; omega) rfl fun b' cap' => ?_
      refine JL.perm (M' := accE 5 qb ((upTo bd (rs.map Sl8.l)).map U8) ++ (accE 22 (some (b', cap')) (rs.map Sl8.v ++ [m.v]) ++ (m.ents ++ (flatE rs ++ [])))) ?_ (wperm2 _ _ _ _)
      rw [show rs.map Sl8.v ++ [m.v] = (rs ++ [m]).map Sl8.v by rw [List.map_append]; rfl]
      have hxl : (45 :: 45 :: bd ++ [13, 10] : List Bt).length = bd.length + 4 := by simp
      have hul2 : ((upTo bd (rs.map Sl8.l)).map U8).length ≤ 10600000 := by rw [List.length_map]; exact hul
      repeat (first | refine JL.q (by first | (apply OQ.callx (vs := [Z bd]); exact goes_mbetw; exact rfl; exact (fun w' _ => hbe w')) | (apply OQ.addS (l := 45 :: 45 :: bd) (r := [13, 10]); exact rfl; exact rfl; exact (by simp; omega)) | (apply OQ.move; exact rfl) | (apply OQ.assign; exact rfl)) rfl ?_ | refine JC.seq ?_ | refine JC.region ?_ | refine JL.nil ?_ | refine JE.next ?_)
      refine JL.appendZ (r := 45 :: 45 :: bd ++ [13, 10]) (xs := (upTo bd (rs.map Sl8.l)).map U8) qb Tryz.underlying22 Tryz.underlying9 u8e hqb rfl rfl nofun (by rw [hxl]; omega) rfl fun p1 => ?_
      have e1 : ((upTo bd (rs.map Sl8.l)).map U8 ++ (45 :: 45 :: bd ++ [13, 10]).map U8).length ≤ 10700000 := by simp only [List.length_append, List.length_map, List.length_cons, List.length_nil]; omega
      repeat (first | refine JL.q (by first | (apply OQ.move; exact rfl) | (apply OQ.assign; exact rfl)) rfl ?_ | refine JC.seq ?_ | refine JC.region ?_ | refine JL.nil ?_ | refine JE.next ?_)
      refine JL.appendQ (z := .int .u8 0) (by' := 1) (m := m.l.length) (cs := m.l.map U8) (some p1) Tryz.underlying22 u8e nofun rfl rfl (List.length_map _) (fun w' hw' => (Sl8.ents_ok (Sl.Holds.weak hw' (less_app _ (less_app _ (Less.refl _)))) hfs).reads) (fun v hv => by obtain ⟨c, _, rfl⟩ := List.mem_map.1 hv; rfl) rfl (by omega) (by omega) rfl fun q2 hq2 => ?_
      have e2 : (((upTo bd (rs.map Sl8.l)).map U8 ++ (45 :: 45 :: bd ++ [13, 10]).map U8) ++ m.l.map U8).length ≤ 12900000 := by rw [List.length_append]; have : (m.l.map U8).length = m.l.length := List.length_map _; omega
      repeat (first | refine JL.q (by first | (apply OQ.move; exact rfl) | (apply OQ.assign; exact rfl)) rfl ?_ | refine JC.region ?_ | refine JL.nil ?_ | refine JE.next ?_)
      refine JL.appendZ (r := [13, 10]) q2 Tryz.underlying22 Tryz.underlying9 u8e hq2 rfl rfl nofun (by show _ + 2 ≤ _; omega) rfl fun p3 => ?_
      have e3 : (((upTo bd (rs.map Sl8.l)).map U8 ++ (45 :: 45 :: bd ++ [13, 10]).map U8) ++ m.l.map U8) ++ ([13, 10] : List Bt).map U8 = (upTo bd ((rs ++ [m]).map Sl8.l)).map U8 := by
        rw [List.map_append (l₁ := rs), show [m].map Sl8.l = [m.l] from rfl, upTo_snoc]
        simp only [List.map_append, List.append_assoc]
      rw [e3]
      clear e1 e2 e3 hxl hul2 hq2
      repeat (first | refine JL.q (by first | (apply OQ.move; exact rfl) | (apply OQ.assign; exact rfl) | (apply OQ.addN; exact rfl; exact rfl; exact (by (try simp only []); omega))) rfl ?_ | refine JC.region ?_ | refine JL.nil ?_ | refine JE.next ?_ | refine JE.blk_normal ?_)
      refine JE.perm (M' := accE 5 (some p3) ((upTo bd ((rs ++ [m]).map Sl8.l)).map U8) ++ (accE 22 (some (b', cap')) ((rs ++ [m]).map Sl8.v) ++ (flatE (rs ++ [m]) ++ []))) (wperm3 _ _ _ _) ?_
      refine JE.again (i := WpZ.mk i qb qm rs) (WpZ.mk (i + 1) (some p3) (some (b', cap')) (rs ++ [m])) ⟨hi', nofun, nofun, ?_, fun x hx => ?_, L ++ [(fq, bq)], ?_, hLl2⟩ (by show p.parts.length - (i + 1) < p.parts.length - i; omega) (by repeat (first | exact SubE.nil | refine SubE.cons _ _ _ rfl ?_)) (Less.refl _)
      · show (rs ++ [m]).length = i + 1
        rw [List.length_append, hrl]; rfl
      · rcases List.mem_append.1 hx with h | h
        · exact hrs x h
        · rw [List.mem_singleton.1 h]; exact ⟨hfs, hm2⟩
      · show mapE _ (p.parts.take (i + 1)) = _
        rw [htk]
        exact mapE_snoc hL he
  · have hi' : ¬ i < p.parts.length := of_decide_eq_false h
    obtain rfl : i = p.parts.length := by omega
    rw [List.take_length] at hL
    rw [hL] at hP
    dsimp only at hP
    rw [← hLl] at hP
    have hxl : (45 :: 45 :: (bd ++ [45, 45]) ++ [13, 10] : List Bt).length = bd.length + 6 := by simp
    have hul2 : ((upTo bd (rs.map Sl8.l)).map U8).length ≤ 10600000 := by rw [List.length_map]; exact hul
    have hjl : (jn bd (rs.map Sl8.l) []).length ≤ 10700000 := by
      show (upTo bd (rs.map Sl8.l) ++ (45 :: 45 :: (bd ++ [45, 45]) ++ [13, 10])).length ≤ _
      rw [List.length_append, hxl]; omega
    have hjn : (upTo bd (rs.map Sl8.l)).map U8 ++ (45 :: 45 :: (bd ++ [45, 45]) ++ [13, 10] : List Bt).map U8 = (jn bd (rs.map Sl8.l) []).map U8 := (List.map_append).symm
    repeat (first | refine JL.q (by first | (apply OQ.callx (vs := [Z bd]); exact goes_mlastl; exact rfl; exact (fun w' _ => hla w')) | (apply OQ.addS (l := 45 :: 45 :: (bd ++ [45, 45])) (r := [13, 10]); exact rfl; exact rfl; exact (by simp; omega)) | (apply OQ.move; exact rfl)) rfl ?_ | refine JC.seq ?_ | refine JC.region ?_ | refine JC.exit ?_ | refine JE.next ?_ | refine JE.then_exit ?_ | refine JE.blk_hit ?_)
    refine JL.appendZ (r := 45 :: 45 :: (bd ++ [45, 45]) ++ [13, 10]) (xs := (upTo bd (rs.map Sl8.l)).map U8) qb Tryz.underlying22 Tryz.underlying9 u8e hqb rfl rfl nofun (by rw [hxl]; omega) rfl fun p1 => ?_
    rw [hjn]
    clear hjn hxl hul2
    generalize jn bd (rs.map Sl8.l) [] = B at hjl hP
    have cs8 : ∀ w', Holds w [] (accE 5 (some p1) (B.map U8) ++ (accE 22 qm (rs.map Sl8.v) ++ (flatE rs ++ []))) w' → Calls Tryz.prog 137 [accV (some p1) (B.map U8).length, Z bd].toArray w' fun e w2 => ∃ z : SpA (spltB B bd).1, e = .returned (.tuple #[z.v, N (spltB B bd).2]) ∧ Holds w' [] z.ents w2 := fun w' hw' => by
      have ok : (accS (some p1) B).ok w' := (acc_ok hw')
      have h1 := msplit_any (accS (some p1) B) bd w' ok (by show B.length ≤ _; omega) hbl
      rw [accS_v] at h1
      rw [List.length_map]
      exact h1
    have hc0 : (spltB B bd).2 = 0 ∨ (spltB B bd).2 ≠ 0 := by omega
    have hnl : (spltB B bd).1.length ≤ 10700002 := by
      have h0 := linR_sum B []
      have h1 := sum_drop (fun x => markB bd x.1 != 1) (linB B)
      unfold spltB
      rw [if_neg (by rw [hB]; decide)]
      cases ho : splL bd ((linB B).dropWhile fun x => markB bd x.1 != 1) [] with
      | none => exact Nat.zero_le _
      | some out =>
        obtain ⟨h2, _⟩ := splL_sum bd _ _ [] out (Nat.le_refl _) ho
        have : (linB B).length ≤ B.length + 1 := h0.2
        have e0 : ([] : List (List Fld.By)).length = 0 := rfl
        show out.length ≤ _
        omega
    generalize hsp : spltB B bd = S at cs8 hP hc0 hnl
    obtain ⟨ys, kc⟩ := S
    dsimp only at cs8 hc0 hnl
    repeat (first | refine JL.q (by first | (apply OQ.move; exact rfl) | (apply OQ.assign; exact rfl)) rfl ?_ | refine JC.seq ?_ | refine JC.region ?_ | refine JL.nil ?_ | refine JE.next ?_)
    refine JL.callg (ι := SpA ys) (vs := [accV (some p1) (B.map U8).length, Z bd]) (fun z => .tuple #[z.v, N kc]) (fun z => z.ents) goes_msplitL rfl rfl (fun z => z.wr) cs8 ?_
    intro sp
    rcases hc0 with rfl | hk0
    rotate_left
    · have hne : decide ((kc : Int) = 0) = false := decide_eq_false (by omega)
      rw [if_neg (fun h => by cases h; exact hk0 rfl)] at hP
      subst hP
      repeat (first | refine JL.q (by first | (apply OQ.extract; exact rfl; exact rfl) | (apply OQ.neB (a := (kc : Int)) (b := 0); exact rfl; exact rfl; exact hne) | (apply OQ.pick_t; exact rfl; exact rfl) | (apply OQ.move; exact rfl) | (apply OQ.assign; exact rfl)) rfl ?_ | refine JC.seq ?_ | refine JC.region ?_ | refine JL.nil ?_ | refine JE.next ?_ | refine JL.gskip rfl rfl rfl rfl ?_)
      refine JC.cond rfl (fun _ => ?_) (fun h => by cases h)
      repeat (first | refine JL.q (by (apply OQ.assign; exact rfl)) rfl ?_ | refine JC.seq ?_ | refine JC.region ?_ | refine JL.nil ?_ | refine JE.next ?_)
      refine JC.ret ?_
      repeat (refine JE.then_ret ?_)
      exact JE.ret2 rfl (RV.tmp rfl) (RV.tmp rfl) fun w' hw => ⟨⟨nilS, ⟨rfl, fun _ => rfl⟩⟩, rfl, hw.weak (.nil _)⟩
    have h00 : decide (((0 : Nat) : Int) = 0) = true := rfl
    have hls1 : (acL sp.q sp.rs).ls = ys := by unfold SlL.ls; rw [acL_rs sp.hq]; exact sp.hrs
    have hls2 : (acL qm rs).ls = rs.map Sl8.l := by unfold SlL.ls; rw [acL_rs hqm]
    have ce : ∀ w', Holds w [] (sp.ents ++ (accE 5 (some p1) (B.map U8) ++ (accE 22 qm (rs.map Sl8.v) ++ (flatE rs ++ [])))) w' → Calls Tryz.prog 138 [sp.v, accV qm (rs.map Sl8.v).length, .func (.func 139) #[] #[]].toArray w' fun e w2 => e = .returned (.bool (decide (ys = rs.map Sl8.l))) ∧ Ext w' w2 := fun w' hw' => by
      have ok1 : (acL sp.q sp.rs).ok w' := acL_ok (M := accE 5 (some p1) (B.map U8) ++ (accE 22 qm (rs.map Sl8.v) ++ (flatE rs ++ []))) (by rw [← List.append_assoc]; exact hw') sp.h0
      have ok2 : (acL qm rs).ok w' := acL_ok (M := []) (Sl.Holds.weak hw' (less_app _ (less_app _ (Less.refl _)))) (fun x hx => (hrs x hx).1)
      have e : sp.rs.length = ys.length := by rw [← List.length_map (f := Sl8.l), sp.hrs]
      have h1 := eqf_any _ _ w' ok1 ok2 (by rw [acL_rs sp.hq]; omega) (by rw [acL_rs hqm]; omega)
      rw [hls1, hls2, acL_v, acL_v] at h1
      exact h1
    cases hEq : decide (ys = rs.map Sl8.l)
    · rw [hEq] at ce
      rw [if_neg (fun h => of_decide_eq_false hEq (by cases h; rfl))] at hP
      subst hP
      repeat (first | refine JL.q (by first | (apply OQ.extract; exact rfl; exact rfl) | (apply OQ.neB (a := ((0 : Nat) : Int)) (b := 0); exact rfl; exact rfl; exact h00) | (apply OQ.callx (vs := [sp.v, accV qm (rs.map Sl8.v).length, .func (.func 139) #[] #[]]); exact goes_eqf; exact rfl; exact ce) | (apply OQ.not; exact rfl) | (apply OQ.pick_f; exact rfl; exact rfl) | (apply OQ.move; exact rfl) | (apply OQ.assign; exact rfl)) rfl ?_ | refine JC.seq ?_ | refine JC.region ?_ | refine JL.nil ?_ | refine JE.next ?_ | refine JL.gon rfl rfl ?_)
      refine JC.cond rfl (fun _ => ?_) (fun h => by cases h)
      repeat (first | refine JL.q (by (apply OQ.assign; exact rfl)) rfl ?_ | refine JC.seq ?_ | refine JC.region ?_ | refine JL.nil ?_ | refine JE.next ?_)
      refine JC.ret ?_
      repeat (refine JE.then_ret ?_)
      exact JE.ret2 rfl (RV.tmp rfl) (RV.tmp rfl) fun w' hw => ⟨⟨nilS, ⟨rfl, fun _ => rfl⟩⟩, rfl, hw.weak (.nil _)⟩
    · rw [hEq] at ce
      rw [if_pos (by rw [of_decide_eq_true hEq])] at hP
      subst hP
      repeat (first | refine JL.q (by first | (apply OQ.extract; exact rfl; exact rfl) | (apply OQ.neB (a := ((0 : Nat) : Int)) (b := 0); exact rfl; exact rfl; exact h00) | (apply OQ.callx (vs := [sp.v, accV qm (rs.map Sl8.v).length, .func (.func 139) #[] #[]]); exact goes_eqf; exact rfl; exact ce) | (apply OQ.not; exact rfl) | (apply OQ.pick_f; exact rfl; exact rfl) | (apply OQ.move; exact rfl) | (apply OQ.assign; exact rfl)) rfl ?_ | refine JC.seq ?_ | refine JC.region ?_ | refine JL.nil ?_ | refine JE.next ?_ | refine JL.gon rfl rfl ?_)
      refine JC.cond rfl (fun h => by cases h) (fun _ => ?_)
      repeat (first | refine JL.q (by first | (apply OQ.move; exact rfl) | (apply OQ.assign; exact rfl)) rfl ?_ | refine JC.seq ?_ | refine JC.region ?_ | refine JC.skip ?_ | refine JL.nil ?_ | refine JE.next ?_)
      refine JC.ret ?_
      skip
      refine JE.ret2 rfl (RV.tmp rfl) (RV.tmp rfl) fun w' hw => ⟨⟨accS (some p1) B, ⟨rfl, nofun⟩⟩, ?_, ?_⟩
      · show _ = Ending.returned (.tuple #[(accS (some p1) B).v, _])
        rw [accS_v, List.length_map]
        rfl
      · exact (Sl.Holds.weak hw (less_app _ (less_pre _ _))).weak (accS_ents (some p1) B)
end Go.Proofs.YtdabhneehconeaaGreatDoor

/-
  Of no statement by itself: what MimeOpen gives, over MimeOk.
  Conditions: MimeOk, and each theorem's own.
-/
namespace Go.Proofs.YtdabhneehconeaaGreatDoor
set_option maxRecDepth 10000
open Sl Fld Tok Mim
namespace Mim
end Mim
theorem fsC12 : scal Tryz.prog 27 = true := by kernel_rfl
section
variable {P : Program} {n : Nat} {w0 : World} {S : List Nat} {ops : Array Oper} {Q : Exit → Act → World → Prop} {l : List Oper} {E : Env} {M M' M0 : List Ent} {d : Nat} {t e ty : TypeId} {pos : String} {aft : Array Edge} {x y : Operand}
/-- some pairs more -/
theorem JL.appendPP {z : Value} {by' bl k c : Nat} {L2 L : List Pr} (q : Acc) (hu : P.underlying t = some (.slice e)) (hi : EI P e z 2 by') (hq : q = none → L = []) (hk : L2.length = k) (h0 : 0 < k) (hx : ev E x = some (accV q L.length)) (hy : ev E y = some (.slice (some ⟨bl, 0, none⟩) k c))
    (hzz : z.cells.size = 2) (hsm : (L.length + k) * by' ≤ 140737488355328) (hsm2 : L.length + k < 9223372036854775808) (hd : Nat.blt d n = true)
    (kk : ∀ b' cap', JL P n w0 S ops Q l ((d, accV (some (b', cap')) (L ++ L2).length) :: E) (accP e (some (b', cap')) (L ++ L2) ++ M0)) :
    JL P n w0 S ops Q (⟨some d, .call ⟨.builtin .append, #[x, y], #[t, t]⟩, ty, pos, aft, none⟩ :: l) E (⟨bl, Row e (L2.flatMap pc), true⟩ :: (accP e q L ++ M0)) := by
  have hr : ∀ w, Holds w0 S (⟨bl, Row e (L2.flatMap pc), true⟩ :: (accP e q L ++ M0)) w → Reads w (some ⟨bl, 0, none⟩) (L2.flatMap pc) := fun w hw => by
    obtain ⟨o, ho, hA⟩ := hw.get (b := bl) (A := Row e (L2.flatMap pc)) (wr := true) .here
    exact Reads.block ho (Row.all _ hA)
  have eN : (L ++ L2).length = L.length + k := by rw [List.length_append, hk]
  have eF : (L ++ L2).flatMap pc = L.flatMap pc ++ L2.flatMap pc := List.flatMap_append
  have eL : (L2.flatMap pc).length = k * 2 := by rw [pc_len, hk]; omega
  have h1 : ∀ v ∈ L2.flatMap pc, v.oneCell' = true := fun v hv => by obtain ⟨p, _, hp⟩ := List.mem_flatMap.1 hv; exact Sl.pc_one v hp
  cases q with
  | none =>
    obtain rfl := hq rfl
    refine JL.append_nil (cs := L2.flatMap pc) (m := k) hu hi hx hy eL hr h0 hzz (by decide) (by simpa using hsm) (by simpa using hsm2) hd fun b' cap' _ => ?_
    have := kk b' cap'
    rw [show accV (some (b', cap')) ([] ++ L2 : List Pr).length = Value.slice (some ⟨b', 0, none⟩) k cap' by rw [List.nil_append, hk]; rfl] at this
    refine this.lessM ?_
    show Less (⟨b', Sl.Own e 2 ([] ++ L2 : List Pr).length cap' (([] ++ L2 : List Pr).flatMap pc), true⟩ :: M0) _
    rw [List.nil_append, hk]
    exact .keep _ _ _ _ _ _ (fun o h => h) (.drop _ _ _ (Less.refl _))
  | some r =>
    refine JL.append (cs := L2.flatMap pc) (m := k) (b := r.1) (cap := r.2) (k := L.length) (xs := L.flatMap pc) (fun b' cap' => ⟨bl, Row e (L2.flatMap pc), true⟩ :: (accP e (some (b', cap')) (L ++ L2) ++ M0)) hu hi hx hy (fun b' cap' => ?_) eL hr h1 hzz (by decide) hsm hsm2 hd fun b' cap' => ?_
    · show Repl (_ :: ⟨r.1, Sl.Own e 2 L.length r.2 (L.flatMap pc), true⟩ :: M0) _ _ _ _ (_ :: ⟨b', Sl.Own e 2 (L ++ L2).length cap' ((L ++ L2).flatMap pc), true⟩ :: M0)
      rw [eN, eF]
      exact .there .here
    · have := kk b' cap'
      rw [show accV (some (b', cap')) (L ++ L2).length = Value.slice (some ⟨b', 0, none⟩) (L.length + k) cap' by rw [eN]; rfl] at this
      exact this.lessM (.drop _ _ _ (Less.refl _))
end
section
variable {n : Nat} {E : Env} {C : World → Prop} {dst : Option Tmp} {ty : TypeId} {pos : String} {aft : Array Edge} {g : Option (Nat × Bool)} {x y : Operand}
end
structure OpT where
  i : Nat
  o : List Pr
  q : Acc
end Go.Proofs.YtdabhneehconeaaGreatDoor
