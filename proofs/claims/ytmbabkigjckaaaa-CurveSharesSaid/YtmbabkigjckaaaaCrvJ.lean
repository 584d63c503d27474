/-
  Of no statement by itself: sums, differences and products of limbs modulo 2^255 - 19; no program stands here.
  Conditions: none but each lemma's own.
-/
import Derived.Test.YtmbabkigjckaaaaCrvH
namespace Go.Proofs.Ytmbabkigjckaaaa
namespace Crv
/-! ### whole numbers modulo p -/
def fi (x : Int) : F := ⟨(x % (P : Int)).toNat, by
  have h1 : 0 ≤ x % (P : Int) := Int.emod_nonneg _ (by decide)
  have h2 : x % (P : Int) < (P : Int) := Int.emod_lt_of_pos _ (by decide)
  omega⟩
theorem fi_val (x : Int) : ((fi x).val : Int) = x % (P : Int) := Int.toNat_of_nonneg (Int.emod_nonneg _ (by decide))
theorem F_ext {a b : F} (h : (a.val : Int) = (b.val : Int)) : a = b := Fin.ext (by omega)
theorem fi_add (x y : Int) : fi (x + y) = fi x + fi y := F_ext (by
  rw [fi_val, Fin.val_add, Int.natCast_emod, Int.natCast_add, fi_val, fi_val, ← Int.add_emod])
theorem fi_mul (x y : Int) : fi (x * y) = fi x * fi y := F_ext (by
  rw [fi_val, Fin.val_mul, Int.natCast_emod, Int.natCast_mul, fi_val, fi_val, ← Int.mul_emod])
theorem fi_sub (x y : Int) : fi (x - y) = fi x - fi y := by
  have h := fi_add (x - y) y
  rw [Int.sub_add_cancel] at h
  rw [h]
  generalize fi (x - y) = a
  generalize fi y = b
  clear h
  grobner
theorem fi_P (q : Int) : fi (q * P) = 0 := F_ext (by rw [fi_val, Int.mul_emod_left]; rfl)
theorem fi_off {x y q : Int} (h : x = y + q * P) : fi x = fi y := by
  rw [h, fi_add, fi_P]
  generalize fi y = a
  clear h
  grobner
theorem fi_nat (x : F) : fi (x.val : Int) = x := F_ext (by
  rw [fi_val]
  exact Int.emod_eq_of_lt (by omega) (by have := x.isLt; omega))
/-- limbs as a number modulo p -/
def fv (l : List Int) : F := fi (val l)
theorem car_fv {l : List Int} (hl : l.length = 16) : fv (car l) = fv l := by
  obtain ⟨q, e⟩ := val_car hl
  refine fi_off (q := -(2 * q)) ?_
  rw [e, Int.sub_eq_add_neg, ← Int.neg_mul, ← Int.mul_assoc, Int.mul_comm (-q) 2, Int.mul_neg]
/-! ### sums by index -/
def ps (l : List Int) : Nat → Int
  | 0 => 0
  | k + 1 => ps l k + nth l k * 65536 ^ k
theorem ps_cons (a : Int) (l : List Int) : ∀ k, ps (a :: l) (k + 1) = a + 65536 * ps l k
  | 0 => by
    show 0 + nth (a :: l) 0 * 65536 ^ 0 = a + 65536 * 0
    rw [Int.pow_zero]
    show 0 + a * 1 = a + 65536 * 0
    omega
  | k + 1 => by
    show ps (a :: l) (k + 1) + nth (a :: l) (k + 1) * 65536 ^ (k + 1) = a + 65536 * (ps l k + nth l k * 65536 ^ k)
    rw [ps_cons a l k, Int.pow_succ, Int.mul_comm (65536 ^ k) 65536, Int.mul_add, Int.mul_left_comm]
    show a + 65536 * ps l k + 65536 * (nth l k * 65536 ^ k) = _
    rw [Int.add_assoc]
theorem ps_nil : ∀ k, ps [] k = 0
  | 0 => rfl
  | k + 1 => by show ps [] k + 0 * 65536 ^ k = 0; rw [ps_nil k, Int.zero_mul]; rfl
theorem val_ps : ∀ (l : List Int) (k : Nat), l.length ≤ k → val l = ps l k
  | [], k, _ => (ps_nil k).symm
  | a :: l, 0, h => absurd h (by simp)
  | a :: l, k + 1, h => by rw [ps_cons, ← val_ps l k (by simpa using h)]; rfl
/-! ### sums, differences -/
def zip2 (f : Int → Int → Int) (a b : List Int) : Nat → List Int
  | 0 => a
  | i + 1 => (zip2 f a b i).set i (f (nth (zip2 f a b i) i) (nth b i))
theorem zip2_len (f : Int → Int → Int) (a b : List Int) : ∀ i, (zip2 f a b i).length = a.length
  | 0 => rfl
  | i + 1 => by rw [zip2, List.length_set, zip2_len f a b i]
theorem zip2_nth (f : Int → Int → Int) (a b : List Int) (j : Nat) : ∀ i, i ≤ a.length → nth (zip2 f a b i) j = if j < i then f (nth a j) (nth b j) else nth a j
  | 0, _ => rfl
  | i + 1, h => by
    have ih := zip2_nth f a b j i (by omega)
    rw [zip2, nth_set _ _ _ _ (by rw [zip2_len]; omega)]
    by_cases e : i = j
    · subst e
      rw [if_pos rfl, if_pos (by omega), ih, if_neg (by omega)]
    · rw [if_neg e, ih]
      by_cases e2 : j < i
      · rw [if_pos e2, if_pos (by omega)]
      · rw [if_neg e2, if_neg (by omega)]
theorem zip2_val (s : Int) (a b : List Int) : ∀ i, i ≤ a.length → val (zip2 (fun x y => x + s * y) a b i) = val a + s * ps b i
  | 0, _ => by show val a = val a + s * 0; rw [Int.mul_zero, Int.add_zero]
  | i + 1, h => by
    rw [zip2, val_set _ _ _ (by rw [zip2_len]; omega), zip2_val s a b i (by omega)]
    show val a + s * ps b i + (nth (zip2 (fun x y => x + s * y) a b i) i + s * nth b i - nth (zip2 (fun x y => x + s * y) a b i) i) * 65536 ^ i = val a + s * (ps b i + nth b i * 65536 ^ i)
    generalize nth (zip2 (fun x y => x + s * y) a b i) i = z
    rw [show z + s * nth b i - z = s * nth b i by omega, Int.mul_add, Int.mul_assoc, Int.add_assoc]
def addL (a b : List Int) : List Int := car (zip2 (fun x y => x + y) a b 16)
def subL (a b : List Int) : List Int := car (zip2 (fun x y => x - y) a b 16)
theorem zip_add (a b : List Int) : zip2 (fun x y => x + y) a b = zip2 (fun x y => x + 1 * y) a b := by
  have : (fun x y : Int => x + y) = fun x y => x + 1 * y := by funext x y; omega
  rw [this]
theorem zip_sub (a b : List Int) : zip2 (fun x y => x - y) a b = zip2 (fun x y => x + -1 * y) a b := by
  have : (fun x y : Int => x - y) = fun x y => x + -1 * y := by funext x y; omega
  rw [this]
abbrev Good (l : List Int) : Prop := Small (-128) 65663 l
theorem zip2_btw {f : Int → Int → Int} {a b : List Int} {x0 y0 x1 y1 : Int} (ha : Good a) (hb : Good b)
    (h0 : ∀ x y, -128 ≤ x → x ≤ 65663 → -128 ≤ y → y ≤ 65663 → x0 ≤ f x y ∧ f x y ≤ y0)
    (h1 : ∀ x y, 0 ≤ x → x ≤ 65535 → 0 ≤ y → y ≤ 65535 → x1 ≤ f x y ∧ f x y ≤ y1) : Btw (los x0 x1) (los y0 y1) (zip2 f a b 16) := fun j hj => by
  rw [los_nth _ _ _ hj, los_nth _ _ _ hj, zip2_nth _ _ _ _ _ (by rw [ha.len]; omega), if_pos hj]
  by_cases e : j = 0
  · subst e
    rw [if_pos rfl, if_pos rfl]
    have p := ha.first
    have q := hb.first
    exact h0 _ _ p.1 p.2 q.1 q.2
  · rw [if_neg e, if_neg e]
    have p := ha.rest j (by omega) hj
    have q := hb.rest j (by omega) hj
    exact h1 _ _ p.1 p.2 q.1 q.2
theorem addL_good {a b : List Int} (ha : Good a) (hb : Good b) : Good (addL a b) :=
  (car_small (by rw [zip2_len, ha.len]) (zip2_btw (x0 := -256) (y0 := 131326) (x1 := 0) (y1 := 131070) ha hb (fun x y _ _ _ _ => by omega) (fun x y _ _ _ _ => by omega))).weak (by decide) (by decide)
theorem subL_good {a b : List Int} (ha : Good a) (hb : Good b) : Good (subL a b) :=
  (car_small (by rw [zip2_len, ha.len]) (zip2_btw (x0 := -65791) (y0 := 65791) (x1 := -65535) (y1 := 65535) ha hb (fun x y _ _ _ _ => by omega) (fun x y _ _ _ _ => by omega))).weak (by decide) (by decide)
theorem addL_fv {a b : List Int} (ha : a.length = 16) (hb : b.length = 16) : fv (addL a b) = fv a + fv b := by
  rw [addL, car_fv (by rw [zip2_len, ha]), zip_add]
  unfold fv
  rw [zip2_val _ _ _ _ (by omega), ← val_ps b 16 (by omega), fi_add, Int.one_mul]
theorem subL_fv {a b : List Int} (ha : a.length = 16) (hb : b.length = 16) : fv (subL a b) = fv a - fv b := by
  rw [subL, car_fv (by rw [zip2_len, ha]), zip_sub]
  unfold fv
  rw [zip2_val _ _ _ _ (by omega), ← val_ps b 16 (by omega), show val a + -1 * val b = val a - val b by omega, fi_sub]
/-! ### products -/
def tin (t a b : List Int) (i : Nat) : Nat → List Int
  | 0 => t
  | k + 1 => (tin t a b i k).set (i + k) (nth (tin t a b i k) (i + k) + nth a i * nth b k)
def tout (a b : List Int) : Nat → List Int
  | 0 => List.replicate 31 0
  | i + 1 => tin (tout a b i) a b i 16
theorem tin_len (t a b : List Int) (i : Nat) : ∀ k, (tin t a b i k).length = t.length
  | 0 => rfl
  | k + 1 => by rw [tin, List.length_set, tin_len t a b i k]
theorem tout_len (a b : List Int) : ∀ i, (tout a b i).length = 31
  | 0 => rfl
  | i + 1 => by rw [tout, tin_len, tout_len a b i]
theorem tin_val (t a b : List Int) (i : Nat) (h : i < 16) (ht : t.length = 31) : ∀ k, k ≤ 16 → val (tin t a b i k) = val t + nth a i * 65536 ^ i * ps b k
  | 0, _ => by show val t = val t + nth a i * 65536 ^ i * 0; rw [Int.mul_zero, Int.add_zero]
  | k + 1, hk => by
    rw [tin, val_set _ _ _ (by rw [tin_len]; omega), tin_val t a b i h ht k (by omega)]
    show val t + nth a i * 65536 ^ i * ps b k + (nth (tin t a b i k) (i + k) + nth a i * nth b k - nth (tin t a b i k) (i + k)) * 65536 ^ (i + k) = val t + nth a i * 65536 ^ i * (ps b k + nth b k * 65536 ^ k)
    generalize nth (tin t a b i k) (i + k) = z
    rw [show z + nth a i * nth b k - z = nth a i * nth b k by omega, Int.pow_add, Int.mul_add, Int.add_assoc]
    congr 2
    rw [Int.mul_assoc, Int.mul_assoc]
    congr 1
    rw [Int.mul_left_comm]
theorem tout_val (a b : List Int) : ∀ i, i ≤ 16 → val (tout a b i) = ps a i * ps b 16
  | 0, _ => by show val (List.replicate 31 0) = 0 * ps b 16; rw [Int.zero_mul]; decide
  | i + 1, h => by
    rw [tout, tin_val _ _ _ _ (by omega) (tout_len a b i) 16 (by omega), tout_val a b i (by omega)]
    show ps a i * ps b 16 + nth a i * 65536 ^ i * ps b 16 = (ps a i + nth a i * 65536 ^ i) * ps b 16
    rw [Int.add_mul]
/-- between -m and m -/
def Wide (m : Int) (l : List Int) : Prop := ∀ j, -m ≤ nth l j ∧ nth l j ≤ m
theorem prod_bd {x y : Int} (h1 : -131072 ≤ x) (h2 : x ≤ 131072) (h3 : -131072 ≤ y) (h4 : y ≤ 131072) : -17179869184 ≤ x * y ∧ x * y ≤ 17179869184 := by
  have a : x.natAbs ≤ 131072 := by omega
  have b : y.natAbs ≤ 131072 := by omega
  have c := Nat.mul_le_mul a b
  rw [← Int.natAbs_mul] at c
  omega
theorem tin_wide {t a b : List Int} {i : Nat} {m : Int} (h : i < 16) (ht : t.length = 31) (ha : Wide 131072 a) (hb : Wide 131072 b) (hw : Wide m t) : ∀ k : Nat, k ≤ 16 → Wide (m + 17179869184 * k) (tin t a b i k)
  | 0, _ => fun j => by have := hw j; show -(m + 17179869184 * (0 : Nat)) ≤ nth t j ∧ nth t j ≤ m + 17179869184 * (0 : Nat); omega
  | k + 1, hk => fun j => by
    have ih := tin_wide h ht ha hb hw k (by omega)
    have p := prod_bd (ha i).1 (ha i).2 (hb k).1 (hb k).2
    rw [tin, nth_set _ _ _ _ (by rw [tin_len]; omega)]
    generalize nth a i * nth b k = z at p
    split
    · have := ih (i + k)
      omega
    · have := ih j
      omega
theorem rep0_nth (n j : Nat) : nth (List.replicate n 0) j = 0 := by
  unfold nth
  rw [List.getD_eq_getElem?_getD, List.getElem?_replicate]
  split <;> rfl
theorem tout_wide {a b : List Int} (ha : Wide 131072 a) (hb : Wide 131072 b) : ∀ i : Nat, i ≤ 16 → Wide (274877906944 * i) (tout a b i)
  | 0, _ => fun j => by rw [tout, rep0_nth]; omega
  | i + 1, h => fun j => by
    have ih := tin_wide (i := i) (by omega) (tout_len a b i) ha hb (tout_wide ha hb i (by omega)) 16 (by omega) j
    rw [tout]
    omega
theorem Good.wide {l : List Int} (h : Good l) : Wide 131072 l := fun j => by
  by_cases e : j = 0
  · subst e; have := h.first; omega
  · by_cases e2 : j < 16
    · have := h.rest j (by omega) e2; omega
    · have : nth l j = 0 := by
        unfold nth
        rw [List.getD_eq_getElem?_getD, List.getElem?_eq_none (by rw [h.len]; omega)]; rfl
      omega
/-- the upper limbs, 38 times, on the lower -/
def fold (t : List Int) : Nat → List Int
  | 0 => List.replicate 16 0
  | i + 1 => if i < 15 then ((fold t i).set i (nth t i)).set i (nth ((fold t i).set i (nth t i)) i + 38 * nth t (i + 16)) else (fold t i).set i (nth t i)
theorem fold_len (t : List Int) : ∀ i, (fold t i).length = 16
  | 0 => rfl
  | i + 1 => by rw [fold]; split <;> simp [fold_len t i]
theorem fold_nth (t : List Int) : ∀ i, i ≤ 16 → ∀ j, nth (fold t i) j = if j < i then (if j < 15 then nth t j + 38 * nth t (j + 16) else nth t j) else 0
  | 0, _, j => by rw [fold, rep0_nth]; rfl
  | i + 1, h, j => by
    have ih := fold_nth t i (by omega) j
    have l := fold_len t i
    have x1 : ∀ z, nth ((fold t i).set i z) j = if i = j then z else nth (fold t i) j := fun z => nth_set _ _ _ _ (by omega)
    have x2 : ∀ z y, nth (((fold t i).set i z).set i y) j = if i = j then y else nth ((fold t i).set i z) j := fun z y => nth_set _ _ _ _ (by rw [List.length_set]; omega)
    have x3 : ∀ z, nth ((fold t i).set i z) i = z := fun z => by rw [nth_set _ _ _ _ (by omega), if_pos rfl]
    rw [fold]
    by_cases e : i < 15
    · rw [if_pos e, x2, x1, x3, ih]
      by_cases e2 : i = j
      · subst e2
        rw [if_pos rfl, if_pos (by omega), if_pos e]
      · rw [if_neg e2, if_neg e2]
        by_cases e3 : j < i
        · rw [if_pos e3]; exact (if_pos (by omega)).symm
        · rw [if_neg e3, if_neg (by omega)]
    · rw [if_neg e, x1, ih]
      by_cases e2 : i = j
      · subst e2
        rw [if_pos rfl, if_pos (by omega), if_neg e]
      · rw [if_neg e2]
        by_cases e3 : j < i
        · rw [if_pos e3]; exact (if_pos (by omega)).symm
        · rw [if_neg e3, if_neg (by omega)]
def hi15 (t : List Int) : Nat → Int
  | 0 => 0
  | k + 1 => hi15 t k + nth t (k + 16) * 65536 ^ k
theorem ps_hi (t : List Int) : ∀ k, ps t (16 + k) = ps t 16 + 65536 ^ 16 * hi15 t k
  | 0 => by show ps t 16 = ps t 16 + 65536 ^ 16 * 0; rw [Int.mul_zero, Int.add_zero]
  | k + 1 => by
    show ps t (16 + k) + nth t (16 + k) * 65536 ^ (16 + k) = ps t 16 + 65536 ^ 16 * (hi15 t k + nth t (k + 16) * 65536 ^ k)
    rw [ps_hi t k, Int.mul_add, Int.add_assoc, Nat.add_comm 16 k, Int.pow_add, Int.mul_comm (65536 ^ k), ← Int.mul_assoc, Int.mul_comm (nth t (k + 16)), Int.mul_assoc (65536 ^ 16)]
theorem ps_fold (t : List Int) : ∀ k, k ≤ 15 → ps (fold t 16) k = ps t k + 38 * hi15 t k
  | 0, _ => rfl
  | k + 1, h => by
    show ps (fold t 16) k + nth (fold t 16) k * 65536 ^ k = ps t k + nth t k * 65536 ^ k + 38 * (hi15 t k + nth t (k + 16) * 65536 ^ k)
    rw [ps_fold t k (by omega), fold_nth t 16 (by omega), if_pos (by omega), if_pos (by omega), Int.add_mul, Int.mul_add, Int.mul_assoc]
    omega
theorem fold_val {t : List Int} (ht : t.length = 31) : val t = val (fold t 16) + 2 * hi15 t 15 * P := by
  rw [val_ps t 31 (by omega), val_ps (fold t 16) 16 (by rw [fold_len]; omega)]
  have a := ps_hi t 15
  have b := ps_fold t 15 (by omega)
  have c : ps (fold t 16) 16 = ps (fold t 16) 15 + nth (fold t 16) 15 * 65536 ^ 15 := rfl
  have d : ps t 16 = ps t 15 + nth t 15 * 65536 ^ 15 := rfl
  have e : nth (fold t 16) 15 = nth t 15 := by rw [fold_nth t 16 (by omega), if_pos (by omega), if_neg (by omega)]
  rw [a, c, b, e, d]
  generalize nth t 15 * 65536 ^ 15 = z
  generalize hi15 t 15 = y
  have e4 : (65536 : Int) ^ 16 = 2 * (P : Int) + 38 := by decide
  rw [e4]
  have e5 : ((P : Nat) : Int) = 57896044618658097711785492504343953926634992332820282019728792003956564819949 := rfl
  rw [e5]
  omega
def mulL (a b : List Int) : List Int := car (car (fold (tout a b 16) 16))
theorem fold_wide {a b : List Int} (ha : Good a) (hb : Good b) : Wide 171523813933056 (fold (tout a b 16) 16) := fun j => by
  have w := tout_wide ha.wide hb.wide 16 (by omega)
  have w1 := w j
  have w2 := w (j + 16)
  rw [fold_nth _ 16 (by omega)]
  split
  · split <;> omega
  · omega
theorem car_wide {a b : List Int} (w : Wide 171523813933056 (fold (tout a b 16) 16)) : Wide 100000000000 (car (fold (tout a b 16) 16)) := fun j => by
  have b1 : Btw (los (-171523813933056) (-171523813933056)) (los 171523813933056 171523813933056) (fold (tout a b 16) 16) := fun j hj => by
    rw [los_nth _ _ _ hj, los_nth _ _ _ hj]
    have := w j
    split <;> omega
  have s1 := (car_small (fold_len _ 16) b1).weak (c := -100000000000) (d := 100000000000) (by decide) (by decide)
  by_cases e : j = 0
  · subst e; exact s1.first
  · by_cases e2 : j < 16
    · have := s1.rest j (by omega) e2; omega
    · have : nth (car (fold (tout a b 16) 16)) j = 0 := by
        unfold nth
        rw [List.getD_eq_getElem?_getD, List.getElem?_eq_none (by rw [s1.len]; omega)]; rfl
      omega
theorem mulL_good {a b : List Int} (ha : Good a) (hb : Good b) : Good (mulL a b) := by
  have w := fold_wide ha hb
  have b1 : Btw (los (-171523813933056) (-171523813933056)) (los 171523813933056 171523813933056) (fold (tout a b 16) 16) := fun j hj => by
    rw [los_nth _ _ _ hj, los_nth _ _ _ hj]
    have := w j
    split <;> omega
  have s1 := (car_small (fold_len _ 16) b1).weak (c := -100000000000) (d := 100000000000) (by decide) (by decide)
  exact (car_small s1.len s1.btw).weak (by decide) (by decide)
theorem mulL_fv {a b : List Int} (ha : a.length = 16) (hb : b.length = 16) : fv (mulL a b) = fv a * fv b := by
  have l1 := fold_len (tout a b 16) 16
  have e1 : fv (fold (tout a b 16) 16) = fi (val (tout a b 16)) := (fi_off (fold_val (tout_len a b 16))).symm
  rw [mulL, car_fv (by rw [car, cit_len, l1]), car_fv l1, e1, tout_val a b 16 (by omega), ← val_ps a 16 (by omega), ← val_ps b 16 (by omega), fi_mul]
  rfl
end Crv
end Go.Proofs.Ytmbabkigjckaaaa
