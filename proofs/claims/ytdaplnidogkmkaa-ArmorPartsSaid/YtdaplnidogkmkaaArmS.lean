/-
  Of no statement by itself: bytes as signs (base64) by groups of three, and bit by bit; bytes back from signs; lines of signs; blanks struck out; no program stands here.
  Conditions: none but each lemma's own.
-/
namespace Go.Proofs.Ytdaplnidogkmkaa
namespace Arm
abbrev By := BitVec 8
def sgL : List By := [65, 66, 67, 68, 69, 70, 71, 72, 73, 74, 75, 76, 77, 78, 79, 80, 81, 82, 83, 84, 85, 86, 87, 88, 89, 90, 97, 98, 99, 100, 101, 102, 103, 104, 105, 106, 107, 108, 109, 110, 111, 112, 113, 114, 115, 116, 117, 118, 119, 120, 121, 122, 48, 49, 50, 51, 52, 53, 54, 55, 56, 57, 43, 47]
def sg (n : Nat) : By := sgL.getD n 0
/-- bytes as signs, three by three -/
def encB : List By → List By
  | [] => []
  | [a] => [sg (a.toNat / 4), sg (a.toNat % 4 * 16), 61, 61]
  | [a, b] => [sg (a.toNat / 4), sg (a.toNat % 4 * 16 + b.toNat / 16), sg (b.toNat % 16 * 4), 61]
  | a :: b :: c :: r => sg (a.toNat / 4) :: sg (a.toNat % 4 * 16 + b.toNat / 16) :: sg (b.toNat % 16 * 4 + c.toNat / 64) :: sg (c.toNat % 64) :: encB r
theorem encB3 (a b c : By) (r : List By) : encB (a :: b :: c :: r) = sg (a.toNat / 4) :: sg (a.toNat % 4 * 16 + b.toNat / 16) :: sg (b.toNat % 16 * 4 + c.toNat / 64) :: sg (c.toNat % 64) :: encB r := by rw [encB]
/-- a row by threes -/
theorem by3 {p : List By → Prop} (h0 : p []) (h1 : ∀ a, p [a]) (h2 : ∀ a b, p [a, b]) (h3 : ∀ a b c r, p r → p (a :: b :: c :: r)) : ∀ l, p l
  | [] => h0
  | [a] => h1 a
  | [a, b] => h2 a b
  | a :: b :: c :: r => h3 a b c r (by3 h0 h1 h2 h3 r)
theorem encB_len (l : List By) : (encB l).length = (l.length + 2) / 3 * 4 := by
  refine by3 (p := fun l => (encB l).length = (l.length + 2) / 3 * 4) (by simp [encB]) (fun _ => by simp [encB]) (fun _ _ => by simp [encB]) (fun a b c r h => ?_) l
  rw [encB3]
  show (encB r).length + 4 = (r.length + 3 + 2) / 3 * 4
  omega
theorem encB_append (l r : List By) : l.length % 3 = 0 → encB (l ++ r) = encB l ++ encB r := by
  refine by3 (p := fun l => l.length % 3 = 0 → encB (l ++ r) = encB l ++ encB r) (fun _ => rfl) (fun a h => absurd h (by simp)) (fun a b h => absurd h (by simp)) (fun a b c s ih h => ?_) l
  have := ih (by simp only [List.length_cons] at h; omega)
  show encB (a :: b :: c :: (s ++ r)) = _
  rw [encB3, encB3, this]; rfl
/-! ### bits -/
def b8 (x : Nat) : List Nat := [x / 128 % 2, x / 64 % 2, x / 32 % 2, x / 16 % 2, x / 8 % 2, x / 4 % 2, x / 2 % 2, x % 2]
def b6 (x : Nat) : List Nat := [x / 32 % 2, x / 16 % 2, x / 8 % 2, x / 4 % 2, x / 2 % 2, x % 2]
def bts (l : List By) : List Nat := l.flatMap fun b => b8 b.toNat
def val : List Nat → Nat := List.foldl (fun n b => 2 * n + b) 0
/-- groups of six as signs -/
def sx : List Nat → List By
  | a :: b :: c :: d :: e :: f :: r => sg (val [a, b, c, d, e, f]) :: sx r
  | _ => []
/-- groups of eight as bytes -/
def oc : List Nat → List By
  | a :: b :: c :: d :: e :: f :: g :: h :: r => BitVec.ofNat 8 (val [a, b, c, d, e, f, g, h]) :: oc r
  | _ => []
theorem sx6 (a b c d e f : Nat) (r : List Nat) : sx (a :: b :: c :: d :: e :: f :: r) = sg (val [a, b, c, d, e, f]) :: sx r := by rw [sx]
theorem sx0 : sx [] = [] := by rw [sx]; intros; contradiction
theorem oc8 (a b c d e f g h : Nat) (r : List Nat) : oc (a :: b :: c :: d :: e :: f :: g :: h :: r) = BitVec.ofNat 8 (val [a, b, c, d, e, f, g, h]) :: oc r := by rw [oc]
theorem sx_append : ∀ (n : Nat) (l r : List Nat), l.length = 6 * n → sx (l ++ r) = sx l ++ sx r
  | 0, l, r, h => by
    have : l = [] := List.eq_nil_of_length_eq_zero (by omega)
    subst this; rfl
  | n + 1, l, r, h => by
    match l, h with
    | a :: b :: c :: d :: e :: f :: s, h =>
      have := sx_append n s r (by simp only [List.length_cons] at h; omega)
      show sx (a :: b :: c :: d :: e :: f :: (s ++ r)) = _
      rw [sx6, sx6, this]; rfl
theorem oc_append : ∀ (n : Nat) (l r : List Nat), l.length = 8 * n → oc (l ++ r) = oc l ++ oc r
  | 0, l, r, h => by
    have : l = [] := List.eq_nil_of_length_eq_zero (by omega)
    subst this; rfl
  | n + 1, l, r, h => by
    match l, h with
    | a :: b :: c :: d :: e :: f :: g :: i :: s, h =>
      have := oc_append n s r (by simp only [List.length_cons] at h; omega)
      show oc (a :: b :: c :: d :: e :: f :: g :: i :: (s ++ r)) = _
      rw [oc8, oc8, this]; rfl
theorem sx_len : ∀ l, (sx l).length = l.length / 6
  | a :: b :: c :: d :: e :: f :: r => by
    rw [sx6]
    show (sx r).length + 1 = (r.length + 6) / 6
    rw [sx_len r]; omega
  | [] | [_] | [_, _] | [_, _, _] | [_, _, _, _] | [_, _, _, _, _] => by simp [sx]
theorem bts_len (l : List By) : (bts l).length = 8 * l.length := by
  induction l with
  | nil => rfl
  | cons a l ih =>
    show (b8 a.toNat ++ bts l).length = 8 * (l.length + 1)
    rw [List.length_append, ih]
    show 8 + 8 * l.length = _
    omega
theorem bts_cons (a : By) (l : List By) : bts (a :: l) = b8 a.toNat ++ bts l := rfl
/-- noughts, as many as fill a group of six -/
def padN (n : Nat) : Nat := (6 - n % 6) % 6
def pad6 (l : List Nat) : List Nat := l ++ List.replicate (padN l.length) 0
/-- the signs, and what fills four -/
def encR (l : List By) : List By := sx (pad6 (bts l)) ++ List.replicate ((4 - (sx (pad6 (bts l))).length % 4) % 4) 61
theorem encR_is (l : List By) : encR l = encB l := by
  refine by3 (p := fun l => encR l = encB l) (by simp [encR, pad6, bts, padN, sx, encB]) (fun a => ?_) (fun a b => ?_) (fun a b c r h => ?_) l
  · have ha := a.isLt
    have e : pad6 (bts [a]) = [a.toNat / 128 % 2, a.toNat / 64 % 2, a.toNat / 32 % 2, a.toNat / 16 % 2, a.toNat / 8 % 2, a.toNat / 4 % 2, a.toNat / 2 % 2, a.toNat % 2, 0, 0, 0, 0] := by simp [pad6, bts, b8, padN, List.replicate]
    rw [encR, e, sx6, sx6, sx0, encB]
    show [sg (val [a.toNat / 128 % 2, a.toNat / 64 % 2, a.toNat / 32 % 2, a.toNat / 16 % 2, a.toNat / 8 % 2, a.toNat / 4 % 2]), sg (val [a.toNat / 2 % 2, a.toNat % 2, 0, 0, 0, 0]), 61, 61] = _
    rw [show val [a.toNat / 128 % 2, a.toNat / 64 % 2, a.toNat / 32 % 2, a.toNat / 16 % 2, a.toNat / 8 % 2, a.toNat / 4 % 2] = a.toNat / 4 by simp only [val, List.foldl]; omega,
      show val [a.toNat / 2 % 2, a.toNat % 2, 0, 0, 0, 0] = a.toNat % 4 * 16 by simp only [val, List.foldl]; omega]
  · have ha := a.isLt
    have hb := b.isLt
    have e : pad6 (bts [a, b]) = [a.toNat / 128 % 2, a.toNat / 64 % 2, a.toNat / 32 % 2, a.toNat / 16 % 2, a.toNat / 8 % 2, a.toNat / 4 % 2, a.toNat / 2 % 2, a.toNat % 2, b.toNat / 128 % 2, b.toNat / 64 % 2, b.toNat / 32 % 2, b.toNat / 16 % 2, b.toNat / 8 % 2, b.toNat / 4 % 2, b.toNat / 2 % 2, b.toNat % 2, 0, 0] := by simp [pad6, bts, b8, padN, List.replicate]
    rw [encR, e, sx6, sx6, sx6, sx0, encB]
    show [sg (val [a.toNat / 128 % 2, a.toNat / 64 % 2, a.toNat / 32 % 2, a.toNat / 16 % 2, a.toNat / 8 % 2, a.toNat / 4 % 2]), sg (val [a.toNat / 2 % 2, a.toNat % 2, b.toNat / 128 % 2, b.toNat / 64 % 2, b.toNat / 32 % 2, b.toNat / 16 % 2]), sg (val [b.toNat / 8 % 2, b.toNat / 4 % 2, b.toNat / 2 % 2, b.toNat % 2, 0, 0]), 61] = _
    rw [show val [a.toNat / 128 % 2, a.toNat / 64 % 2, a.toNat / 32 % 2, a.toNat / 16 % 2, a.toNat / 8 % 2, a.toNat / 4 % 2] = a.toNat / 4 by simp only [val, List.foldl]; omega,
      show val [a.toNat / 2 % 2, a.toNat % 2, b.toNat / 128 % 2, b.toNat / 64 % 2, b.toNat / 32 % 2, b.toNat / 16 % 2] = a.toNat % 4 * 16 + b.toNat / 16 by simp only [val, List.foldl]; omega,
      show val [b.toNat / 8 % 2, b.toNat / 4 % 2, b.toNat / 2 % 2, b.toNat % 2, 0, 0] = b.toNat % 16 * 4 by simp only [val, List.foldl]; omega]
  · have ha := a.isLt
    have hb := b.isLt
    have hc := c.isLt
    have e0 : bts (a :: b :: c :: r) = (b8 a.toNat ++ b8 b.toNat ++ b8 c.toNat) ++ bts r := by
      rw [bts_cons, bts_cons, bts_cons]
      simp only [List.append_assoc]
    have e1 : pad6 (bts (a :: b :: c :: r)) = (b8 a.toNat ++ b8 b.toNat ++ b8 c.toNat) ++ pad6 (bts r) := by
      unfold pad6
      rw [e0, List.append_assoc]
      congr 3
      rw [List.length_append]
      show padN (24 + _) = padN _
      unfold padN
      omega
    have e2 : sx (pad6 (bts (a :: b :: c :: r))) = sx (b8 a.toNat ++ b8 b.toNat ++ b8 c.toNat) ++ sx (pad6 (bts r)) := by
      rw [e1, sx_append 4 _ _ rfl]
    have e3 : sx (b8 a.toNat ++ b8 b.toNat ++ b8 c.toNat) = [sg (a.toNat / 4), sg (a.toNat % 4 * 16 + b.toNat / 16), sg (b.toNat % 16 * 4 + c.toNat / 64), sg (c.toNat % 64)] := by
      simp only [b8, List.cons_append, List.nil_append]
      rw [sx6, sx6, sx6, sx6, sx0]
      rw [show val [a.toNat / 128 % 2, a.toNat / 64 % 2, a.toNat / 32 % 2, a.toNat / 16 % 2, a.toNat / 8 % 2, a.toNat / 4 % 2] = a.toNat / 4 by simp only [val, List.foldl]; omega,
        show val [a.toNat / 2 % 2, a.toNat % 2, b.toNat / 128 % 2, b.toNat / 64 % 2, b.toNat / 32 % 2, b.toNat / 16 % 2] = a.toNat % 4 * 16 + b.toNat / 16 by simp only [val, List.foldl]; omega,
        show val [b.toNat / 8 % 2, b.toNat / 4 % 2, b.toNat / 2 % 2, b.toNat % 2, c.toNat / 128 % 2, c.toNat / 64 % 2] = b.toNat % 16 * 4 + c.toNat / 64 by simp only [val, List.foldl]; omega,
        show val [c.toNat / 32 % 2, c.toNat / 16 % 2, c.toNat / 8 % 2, c.toNat / 4 % 2, c.toNat / 2 % 2, c.toNat % 2] = c.toNat % 64 by simp only [val, List.foldl]; omega]
    rw [encB3]
    show encR (a :: b :: c :: r) = [sg (a.toNat / 4), sg (a.toNat % 4 * 16 + b.toNat / 16), sg (b.toNat % 16 * 4 + c.toNat / 64), sg (c.toNat % 64)] ++ encB r
    rw [← h, ← e3]
    unfold encR
    rw [e2, List.append_assoc]
    congr 3
    rw [List.length_append, e3]
    simp only [List.length_cons, List.length_nil]
    omega
/-! ### back -/
/-- the bits of a sign: none of what is no sign -/
def dx (c : By) (n : Nat) : List Nat := (List.range n).flatMap fun m => if sg m = c then b6 m else []
def d6 (s : List By) : List Nat := s.flatMap fun c => dx c 64
theorem dx_sg : ∀ m : Fin 64, dx (sg m.val) 64 = b6 m.val := by decide +kernel
theorem dx_eq : dx 61 64 = [] := by decide +kernel
theorem d6_cons (c : By) (s : List By) : d6 (c :: s) = dx c 64 ++ d6 s := rfl
theorem d6_sg {m : Nat} (h : m < 64) (s : List By) : d6 (sg m :: s) = b6 m ++ d6 s := by
  rw [d6_cons, dx_sg ⟨m, h⟩]
theorem d6_61 (s : List By) : d6 (61 :: s) = d6 s := by rw [d6_cons, dx_eq]; rfl
theorem v1 {p x : Nat} (hp : p < 64) (hx : x < 64) : val [p / 32 % 2, p / 16 % 2, p / 8 % 2, p / 4 % 2, p / 2 % 2, p % 2, x / 32 % 2, x / 16 % 2] = p * 4 + x / 16 := by
  simp only [val, List.foldl]; omega
theorem v2 {x y : Nat} (_hx : x < 64) (hy : y < 64) : val [x / 8 % 2, x / 4 % 2, x / 2 % 2, x % 2, y / 32 % 2, y / 16 % 2, y / 8 % 2, y / 4 % 2] = x % 16 * 16 + y / 4 := by
  simp only [val, List.foldl]; omega
theorem v3 {y z : Nat} (_hy : y < 64) (hz : z < 64) : val [y / 2 % 2, y % 2, z / 32 % 2, z / 16 % 2, z / 8 % 2, z / 4 % 2, z / 2 % 2, z % 2] = y % 4 * 64 + z := by
  simp only [val, List.foldl]; omega
theorem of8 {n : Nat} {a : By} (h : n = a.toNat) : BitVec.ofNat 8 n = a := by rw [h, BitVec.ofNat_toNat, BitVec.setWidth_eq]
theorem oc_enc (l : List By) : oc (d6 (encB l)) = l := by
  refine by3 (p := fun l => oc (d6 (encB l)) = l) (by simp [encB, d6, oc]) (fun a => ?_) (fun a b => ?_) (fun a b c r h => ?_) l
  · have ha := a.isLt
    rw [encB, d6_sg (by omega), d6_sg (by omega), d6_61, d6_61]
    generalize hp : a.toNat / 4 = p
    generalize hx : a.toNat % 4 * 16 = x
    show oc [p / 32 % 2, p / 16 % 2, p / 8 % 2, p / 4 % 2, p / 2 % 2, p % 2, x / 32 % 2, x / 16 % 2, x / 8 % 2, x / 4 % 2, x / 2 % 2, x % 2] = _
    rw [oc8, show ∀ x y z w : Nat, oc [x, y, z, w] = [] from fun _ _ _ _ => by simp [oc], v1 (by omega) (by omega), of8 (a := a) (by omega)]
  · have ha := a.isLt
    have hb := b.isLt
    rw [encB, d6_sg (by omega), d6_sg (by omega), d6_sg (by omega), d6_61]
    generalize hp : a.toNat / 4 = p
    generalize hx : a.toNat % 4 * 16 + b.toNat / 16 = x
    generalize hy : b.toNat % 16 * 4 = y
    show oc [p / 32 % 2, p / 16 % 2, p / 8 % 2, p / 4 % 2, p / 2 % 2, p % 2, x / 32 % 2, x / 16 % 2, x / 8 % 2, x / 4 % 2, x / 2 % 2, x % 2, y / 32 % 2, y / 16 % 2, y / 8 % 2, y / 4 % 2, y / 2 % 2, y % 2] = _
    rw [oc8, oc8, show ∀ x y : Nat, oc [x, y] = [] from fun _ _ => by simp [oc], v1 (by omega) (by omega), v2 (by omega) (by omega), of8 (a := a) (by omega), of8 (a := b) (by omega)]
  · have ha := a.isLt
    have hb := b.isLt
    have hc := c.isLt
    rw [encB3, d6_sg (by omega), d6_sg (by omega), d6_sg (by omega), d6_sg (by omega)]
    generalize hp : a.toNat / 4 = p
    generalize hx : a.toNat % 4 * 16 + b.toNat / 16 = x
    generalize hy : b.toNat % 16 * 4 + c.toNat / 64 = y
    generalize hz : c.toNat % 64 = z
    simp only [b6, List.cons_append, List.nil_append]
    rw [oc8, oc8, oc8, v1 (by omega) (by omega), v2 (by omega) (by omega), v3 (by omega) (by omega), of8 (a := a) (by omega), of8 (a := b) (by omega), of8 (a := c) (by omega), h]
/-- the bytes whose signs these are -/
def decB (s : List By) : Option (List By) := if encB (oc (d6 s)) = s then some (oc (d6 s)) else none
theorem decB_enc (l : List By) : decB (encB l) = some l := by
  unfold decB
  rw [oc_enc, if_pos rfl]
theorem decB_some {s l : List By} (h : decB s = some l) : encB l = s := by
  unfold decB at h
  split at h
  · next e => cases h; exact e
  · cases h
theorem decB_iff {s l : List By} : decB s = some l ↔ encB l = s := ⟨decB_some, fun h => h ▸ decB_enc l⟩
theorem decB_none {s : List By} (h : ∀ l, encB l ≠ s) : decB s = none := by
  cases e : decB s with
  | none => rfl
  | some l => exact absurd (decB_some e) (h l)
/-! ### lines -/
def lnB (s : List By) : Nat → List By
  | 0 => []
  | i + 1 => lnB s i ++ s.getD i 0 :: (if i % 76 = 75 ∨ i + 1 = s.length then [13, 10] else [])
def linesB (l : List By) : List By := lnB (encB l) (encB l).length
def blank (c : By) : Bool := c == 32 || c == 9 || c == 13 || c == 10
def bare (l : List By) : List By := l.filter fun c => !blank c
theorem sg_bare : ∀ m : Fin 64, blank (sg m.val) = false := by decide +kernel
theorem encB_bare (l : List By) : ∀ c ∈ encB l, blank c = false := by
  have s : ∀ m, m < 64 → blank (sg m) = false := fun m h => sg_bare ⟨m, h⟩
  refine by3 (p := fun l => ∀ c ∈ encB l, blank c = false) (by simp [encB]) (fun a => ?_) (fun a b => ?_) (fun a b c r h => ?_) l
  · have ha := a.isLt
    simp only [encB, List.mem_cons, List.not_mem_nil, or_false, forall_eq_or_imp, forall_eq]
    exact ⟨s _ (by omega), s _ (by omega), rfl, rfl⟩
  · have ha := a.isLt
    have hb := b.isLt
    simp only [encB, List.mem_cons, List.not_mem_nil, or_false, forall_eq_or_imp, forall_eq]
    exact ⟨s _ (by omega), s _ (by omega), s _ (by omega), rfl⟩
  · have ha := a.isLt
    have hb := b.isLt
    have hc := c.isLt
    simp only [encB, List.mem_cons, forall_eq_or_imp]
    exact ⟨s _ (by omega), s _ (by omega), s _ (by omega), s _ (by omega), h⟩
theorem bare_append (l r : List By) : bare (l ++ r) = bare l ++ bare r := List.filter_append ..
theorem lnB_bare {s : List By} (hs : ∀ c ∈ s, blank c = false) : ∀ i, i ≤ s.length → bare (lnB s i) = s.take i
  | 0, _ => rfl
  | i + 1, hi => by
    have e : s[i]? = some (s.getD i 0) := by rw [List.getD_eq_getElem?_getD, List.getElem?_eq_getElem (by omega)]; rfl
    have hb : blank (s.getD i 0) = false := hs _ (List.mem_of_getElem? e)
    rw [lnB, bare_append, lnB_bare hs i (by omega), List.take_add_one, e]
    congr 1
    show (s.getD i 0 :: (if i % 76 = 75 ∨ i + 1 = s.length then [13, 10] else [])).filter _ = _
    rw [List.filter_cons, hb]
    simp only [Bool.not_false, if_true]
    split <;> rfl
theorem linesB_bare (l : List By) : bare (linesB l) = encB l := by
  unfold linesB
  rw [lnB_bare (encB_bare l) _ (Nat.le_refl _), List.take_length]
/-- a blank put in makes no difference -/
theorem bare_put (l : List By) (k : Nat) {c : By} (h : blank c = true) : bare (l.take k ++ [c] ++ l.drop k) = bare l := by
  rw [bare_append, bare_append]
  have : bare [c] = [] := by
    simp [bare, h]
  rw [this, List.append_nil, ← bare_append, List.take_append_drop]
/-- how far the line has come -/
def far (n : Nat) (c : By) : Nat := if c = 10 then 0 else n + 1
theorem lnB_len (s : List By) : ∀ i, (lnB s i).length ≤ 3 * i
  | 0 => Nat.le_refl _
  | i + 1 => by
    have := lnB_len s i
    rw [lnB, List.length_append]
    split <;> simp only [List.length_cons, List.length_nil] <;> omega
theorem ne10 {c : By} (h : blank c = false) : c ≠ 10 := fun e => by subst e; exact absurd h (by decide)
/-- no line is longer, and each has its end -/
theorem lnB_far {s : List By} (hs : ∀ c ∈ s, blank c = false) : ∀ i, i ≤ s.length → (lnB s i).foldl far 0 = (if i = s.length then 0 else i % 76) ∧ ∀ j, ((lnB s i).take j).foldl far 0 ≤ 77
  | 0, _ => ⟨by split <;> rfl, fun j => by rw [show lnB s 0 = [] from rfl, List.take_nil]; decide⟩
  | i + 1, hi => by
    obtain ⟨h1, h2⟩ := lnB_far hs i (by omega)
    rw [if_neg (by omega)] at h1
    have e : s[i]? = some (s.getD i 0) := by rw [List.getD_eq_getElem?_getD, List.getElem?_eq_getElem (by omega)]; rfl
    have hb := ne10 (hs _ (List.mem_of_getElem? e))
    have f1 : far (i % 76) (s.getD i 0) = i % 76 + 1 := by unfold far; rw [if_neg hb]
    have m76 : i % 76 < 76 := Nat.mod_lt _ (by decide)
    have key : ∀ t : List By, (∀ j, ((t.take j).foldl far (i % 76)) ≤ 77) → ∀ j, ((lnB s i ++ t).take j).foldl far 0 ≤ 77 := fun t ht j => by
      rw [List.take_append, List.foldl_append]
      by_cases hj : j ≤ (lnB s i).length
      · rw [show j - (lnB s i).length = 0 by omega, List.take_zero]
        exact h2 j
      · rw [List.take_of_length_le (by omega), h1]
        exact ht _
    by_cases c : i % 76 = 75 ∨ i + 1 = s.length
    · rw [lnB, if_pos c]
      refine ⟨?_, key _ fun j => ?_⟩
      · rw [List.foldl_append, h1]
        show far (far (far (i % 76) (s.getD i 0)) 13) 10 = _
        rw [show ∀ n, far n 10 = 0 from fun _ => rfl]
        split
        · rfl
        · omega
      · match j with
        | 0 => show i % 76 ≤ 77; omega
        | 1 => show far (i % 76) (s.getD i 0) ≤ 77; omega
        | 2 => show far (far (i % 76) (s.getD i 0)) 13 ≤ 77; rw [f1]; show i % 76 + 1 + 1 ≤ 77; omega
        | j + 3 => 
          have : (s.getD i 0 :: [13, 10] : List By).take (j + 3) = s.getD i 0 :: [13, 10] := List.take_of_length_le (by simp)
          rw [this]
          show far (far (far (i % 76) (s.getD i 0)) 13) 10 ≤ 77
          rw [show ∀ n, far n 10 = 0 from fun _ => rfl]; decide
    · rw [lnB, if_neg c]
      refine ⟨?_, key _ fun j => ?_⟩
      · rw [List.foldl_append, h1]
        show far (i % 76) (s.getD i 0) = _
        rw [f1, if_neg (by omega)]
        omega
      · match j with
        | 0 => show i % 76 ≤ 77; omega
        | j + 1 =>
          have : ([s.getD i 0] : List By).take (j + 1) = [s.getD i 0] := List.take_of_length_le (by simp)
          rw [this]
          show far (i % 76) (s.getD i 0) ≤ 77
          omega
end Arm
end Go.Proofs.Ytdaplnidogkmkaa
