/-
  Of no statement by itself: limbs made small, less than p, and as bytes; no program stands here.
  Conditions: none but each lemma's own.
-/
import Derived.Test.YtmbabkigjckaaaaCrvK
namespace Go.Proofs.Ytmbabkigjckaaaa
namespace Crv
/-- each limb has its sixteen bits -/
structure Norm (l : List Int) : Prop where
  len : l.length = 16
  all : ∀ j, j < 16 → 0 ≤ nth l j ∧ nth l j ≤ 65535
theorem Norm.good {l : List Int} (h : Norm l) : Good l := ⟨h.len, by have := h.all 0 (by omega); omega, fun j _ hj => h.all j hj⟩
theorem set_same (l : List Int) (i : Nat) (h : i < l.length) : l.set i (nth l i) = l := by
  unfold nth
  rw [List.getD_eq_getElem?_getD, List.getElem?_eq_getElem h]
  exact List.set_getElem_self h
theorem Norm.cstep {l : List Int} (h : Norm l) {i : Nat} (hi : i < 16) : Crv.cstep l i = l := by
  have a := h.all i hi
  have q : nth l i / 65536 = 0 := by omega
  have e : l.set i (nth l i - nth l i / 65536 * 65536) = l := by
    rw [q, Int.zero_mul, Int.sub_zero, set_same _ _ (by rw [h.len]; omega)]
  unfold Crv.cstep
  simp only
  rw [e, q, Int.mul_zero, Int.add_zero, Int.add_zero]
  split
  · exact set_same _ _ (by rw [h.len]; omega)
  · exact set_same _ _ (by rw [h.len]; omega)
theorem Norm.cit {l : List Int} (h : Norm l) : ∀ i, i ≤ 16 → Crv.cit l i = l
  | 0, _ => rfl
  | i + 1, hi => by
    show Crv.cstep (Crv.cit l i) i = l
    rw [h.cit i (by omega), h.cstep (by omega)]
theorem Norm.car {l : List Int} (h : Norm l) : Crv.car l = l := h.cit 16 (by omega)
/-! ### bounds of sums -/
theorem ps_bd (l : List Int) : ∀ k, (∀ j, j < k → 0 ≤ nth l j ∧ nth l j ≤ 65535) → 0 ≤ ps l k ∧ ps l k ≤ 65536 ^ k - 1
  | 0, _ => by show (0 : Int) ≤ 0 ∧ (0 : Int) ≤ 65536 ^ 0 - 1; rw [Int.pow_zero]; omega
  | k + 1, h => by
    have ih := ps_bd l k fun j hj => h j (by omega)
    have a := h k (by omega)
    have m : (0 : Int) < 65536 ^ k := Int.pow_pos (by decide)
    show 0 ≤ ps l k + nth l k * 65536 ^ k ∧ ps l k + nth l k * 65536 ^ k ≤ 65536 ^ (k + 1) - 1
    rw [Int.pow_succ]
    generalize (65536 : Int) ^ k = M at *
    have p0 := Int.mul_nonneg a.1 (Int.le_of_lt m)
    have p1 := Int.mul_le_mul_of_nonneg_right a.2 (Int.le_of_lt m)
    omega
/-- the first limb, and the sum of the others -/
theorem ps_first (l : List Int) : ∀ k, ∃ s, ps l (k + 1) = nth l 0 + 65536 * s ∧ ((∀ j, 0 < j → j < k + 1 → 0 ≤ nth l j ∧ nth l j ≤ 65535) → 0 ≤ s ∧ s ≤ 65536 ^ k - 1)
  | 0 => ⟨0, by show 0 + nth l 0 * 65536 ^ 0 = _; rw [Int.pow_zero]; omega, fun _ => by rw [Int.pow_zero]; omega⟩
  | k + 1 => by
    obtain ⟨s, e, b⟩ := ps_first l k
    refine ⟨s + nth l (k + 1) * 65536 ^ k, ?_, fun h => ?_⟩
    · show ps l (k + 1) + nth l (k + 1) * 65536 ^ (k + 1) = _
      rw [e, Int.pow_succ, Int.mul_add, Int.mul_comm (65536 ^ k) 65536, Int.mul_left_comm, Int.add_assoc]
    · have b := b fun j h0 h1 => h j h0 (by omega)
      have a := h (k + 1) (by omega) (by omega)
      have m : (0 : Int) < 65536 ^ k := Int.pow_pos (by decide)
      rw [Int.pow_succ]
      generalize (65536 : Int) ^ k = M at *
      have p0 := Int.mul_nonneg a.1 (Int.le_of_lt m)
      have p1 := Int.mul_le_mul_of_nonneg_right a.2 (Int.le_of_lt m)
      omega
theorem last_limb {M N q r S S' f V S'' f0 : Int} (hM : M = 65536 * N) (e1 : S + (q * 65536 + r) * M = V) (e2 : S = f + 65536 * S') (b0 : 0 ≤ S') (b1 : S' ≤ N - 1) (hr : 0 ≤ r) (hr2 : r ≤ 65535) (hf : 0 ≤ f) (hf2 : f ≤ 65535)
    (hq : q = -1 ∨ q = 0 ∨ q = 1) (v0 : V = f0 + 65536 * S'') (hf0 : -128 ≤ f0) (hf1 : f0 ≤ 65663) (c0 : 0 ≤ S'') (c1 : S'' ≤ M - 1) : 0 ≤ f + 38 * q ∧ f + 38 * q ≤ 65535 := by
  have m0 : 0 ≤ M := by omega
  have p0 := Int.mul_nonneg hr m0
  have p1 := Int.mul_le_mul_of_nonneg_right hr2 m0
  rw [Int.add_mul] at e1
  generalize r * M = R at *
  rcases hq with rfl | rfl | rfl
  · rw [show (-1 * 65536 * M : Int) = -(65536 * M) by omega] at e1
    omega
  · omega
  · rw [show (1 * 65536 * M : Int) = 65536 * M by omega] at e1
    omega
theorem Good.norm {l : List Int} (h : Good l) : Norm (car l) := by
  have c := Cst.all h.len h.btw 15 (by omega)
  have v := val_cit h.len 15 (by omega)
  have len := cit_len l 15
  rw [h.len] at len
  show Norm (cstep (cit l 15) 15)
  obtain ⟨_, done, here, _⟩ := c
  have k1 : cmin (los (-128) 0) 15 = -1 := by decide
  have k2 : cmin (los 65663 65535) 15 = 1 := by decide
  rw [k1, k2, los_nth _ _ _ (by omega), los_nth _ _ _ (by omega), if_neg (by omega), if_neg (by omega)] at here
  obtain ⟨S', e2, b2⟩ := ps_first (cit l 15) 14
  obtain ⟨S'', e3, b3⟩ := ps_first l 15
  have b2 := b2 fun j _ hj => done j hj
  have b3 := b3 fun j h0 hj => h.rest j h0 hj
  have f0 := h.first
  have d0 := done 0 (by omega)
  rw [val_ps _ 16 (by omega), val_ps l 16 (by rw [h.len]; omega), e3] at v
  have v1 : ps (cit l 15) 16 = ps (cit l 15) 15 + nth (cit l 15) 15 * 65536 ^ 15 := rfl
  rw [v1] at v
  have hM : (65536 : Int) ^ 15 = 65536 * 65536 ^ 14 := by rw [Int.pow_succ, Int.mul_comm]
  have top := last_limb (q := nth (cit l 15) 15 / 65536) (r := nth (cit l 15) 15 % 65536) hM (by rw [show nth (cit l 15) 15 / 65536 * 65536 + nth (cit l 15) 15 % 65536 = nth (cit l 15) 15 by omega]; exact v) e2 b2.1 b2.2 (by omega) (by omega) d0.1 d0.2 (by omega) rfl f0.1 f0.2 b3.1 b3.2
  clear v v1 e2 e3 b2 b3 hM
  generalize cit l 15 = m at *
  unfold cstep
  simp only [show ¬ (15 : Nat) < 15 by decide, if_false]
  refine ⟨by simp [len], fun j hj => ?_⟩
  have n0 : nth (m.set 15 (nth m 15 - nth m 15 / 65536 * 65536)) 0 = nth m 0 := by rw [nth_set _ _ _ _ (by omega), if_neg (by omega)]
  rw [nth_set _ 0 j _ (by simp [len]), n0]
  by_cases e : 0 = j
  · rw [if_pos e]; exact top
  · rw [if_neg e, nth_set _ 15 j _ (by omega)]
    split
    · omega
    · exact done j (by omega)
/-! ### p taken off -/
def ptop (i : Nat) : Int := if i = 15 then 32767 else 65535
/-- p's limbs -/
def pl (i : Nat) : Int := if i = 0 then 65517 else ptop i
def sb (a : List Int) : Nat → List Int
  | 0 => (List.replicate 16 0).set 0 (nth a 0 - 65517)
  | k + 1 => ((sb a k).set (k + 1) (nth a (k + 1) - ptop (k + 1) - nth (sb a k) k / 65536 % 2)).set k (nth ((sb a k).set (k + 1) (nth a (k + 1) - ptop (k + 1) - nth (sb a k) k / 65536 % 2)) k % 65536)
theorem sb_len (a : List Int) : ∀ k, (sb a k).length = 16
  | 0 => rfl
  | k + 1 => by rw [sb, List.length_set, List.length_set, sb_len a k]
structure Sst (a : List Int) (k : Nat) (m : List Int) : Prop where
  len : m.length = 16
  done : ∀ j, j < k → 0 ≤ nth m j ∧ nth m j ≤ 65535
  here : -65536 ≤ nth m k ∧ nth m k ≤ 65535
  zero : ∀ j, k < j → nth m j = 0
  sum : val m = ps a (k + 1) - ps ((List.range 16).map pl) (k + 1)
theorem pl_nth (j : Nat) (h : j < 16) : nth ((List.range 16).map pl) j = pl j := by
  unfold nth
  rw [List.getD_eq_getElem?_getD, List.getElem?_map, List.getElem?_range h]; rfl
theorem Sst.all {a : List Int} (h : Norm a) : ∀ k, k ≤ 15 → Sst a k (sb a k)
  | 0, _ => by
    have a0 := h.all 0 (by omega)
    refine ⟨rfl, fun j hj => absurd hj (by omega), ?_, fun j hj => ?_, ?_⟩
    · show -65536 ≤ nth a 0 - 65517 ∧ nth a 0 - 65517 ≤ 65535
      omega
    · rw [sb, nth_set _ _ _ _ (by simp), if_neg (by omega), rep0_nth]
    · rw [sb, val_set _ _ _ (by simp), rep0_nth, show val (List.replicate 16 0) = 0 by decide]
      show 0 + (nth a 0 - 65517 - 0) * 65536 ^ 0 = 0 + nth a 0 * 65536 ^ 0 - (0 + nth ((List.range 16).map pl) 0 * 65536 ^ 0)
      rw [pl_nth 0 (by omega), Int.pow_zero, show pl 0 = 65517 from rfl]
      omega
  | k + 1, hk => by
    have c := Sst.all h k (by omega)
    obtain ⟨len, done, here, zero, sum⟩ := c
    have ak := h.all (k + 1) (by omega)
    have tp : 32767 ≤ ptop (k + 1) ∧ ptop (k + 1) ≤ 65535 := by unfold ptop; split <;> omega
    have z1 := zero (k + 1) (by omega)
    rw [sb]
    have n1 : nth ((sb a k).set (k + 1) (nth a (k + 1) - ptop (k + 1) - nth (sb a k) k / 65536 % 2)) k = nth (sb a k) k := by rw [nth_set _ _ _ _ (by omega), if_neg (by omega)]
    have l1 : ((sb a k).set (k + 1) (nth a (k + 1) - ptop (k + 1) - nth (sb a k) k / 65536 % 2)).length = 16 := by rw [List.length_set]; exact len
    rw [n1]
    refine ⟨by rw [List.length_set]; exact l1, fun j hj => ?_, ?_, fun j hj => ?_, ?_⟩
    · rw [nth_set _ _ _ _ (by omega), nth_set _ _ _ _ (by omega)]
      split
      · omega
      · rw [if_neg (by omega)]; exact done j (by omega)
    · rw [nth_set _ _ _ _ (by omega), if_neg (by omega), nth_set _ _ _ _ (by omega), if_pos rfl]
      omega
    · rw [nth_set _ _ _ _ (by omega), if_neg (by omega), nth_set _ _ _ _ (by omega), if_neg (by omega)]
      exact zero j (by omega)
    · rw [val_set _ _ _ (by omega), val_set _ _ _ (by omega), sum, z1, n1]
      show _ = ps a (k + 1) + nth a (k + 1) * 65536 ^ (k + 1) - (ps ((List.range 16).map pl) (k + 1) + nth ((List.range 16).map pl) (k + 1) * 65536 ^ (k + 1))
      rw [pl_nth (k + 1) (by omega), show pl (k + 1) = ptop (k + 1) by unfold pl; rw [if_neg (by omega)]]
      have b : nth (sb a k) k % 65536 - nth (sb a k) k = (nth (sb a k) k / 65536 % 2) * 65536 := by omega
      rw [b]
      generalize nth (sb a k) k / 65536 % 2 = q
      generalize nth a (k + 1) = x
      generalize ptop (k + 1) = y
      rw [Int.pow_succ, Int.sub_zero, Int.mul_assoc q, Int.mul_comm 65536 (65536 ^ k), Int.sub_mul, Int.sub_mul]
      omega
theorem pl_sum : ps ((List.range 16).map pl) 16 = (P : Int) := by decide +kernel
/-- p once off, if that leaves something -/
def off (a : List Int) : List Int := if 0 ≤ nth (sb a 15) 15 then sb a 15 else a
theorem off_norm {a : List Int} (h : Norm a) : Norm (off a) := by
  have c := Sst.all h 15 (by omega)
  unfold off
  split
  next hp =>
    refine ⟨c.len, fun j hj => ?_⟩
    by_cases e : j = 15
    · subst e; exact ⟨hp, c.here.2⟩
    · exact c.done j (by omega)
  next => exact h
theorem Norm.val {a : List Int} (h : Norm a) : 0 ≤ Crv.val a ∧ Crv.val a ≤ 65536 ^ 16 - 1 := by
  rw [val_ps a 16 (by rw [h.len]; omega)]
  exact ps_bd a 16 fun j hj => h.all j hj
theorem off_val {a : List Int} (h : Norm a) : Crv.val (off a) = if (P : Int) ≤ Crv.val a then Crv.val a - P else Crv.val a := by
  have c := Sst.all h 15 (by omega)
  have s := c.sum
  rw [pl_sum, ← val_ps a 16 (by rw [h.len]; omega)] at s
  have e1 : Crv.val (sb a 15) = ps (sb a 15) 15 + nth (sb a 15) 15 * 65536 ^ 15 := by rw [val_ps _ 16 (by rw [c.len]; omega)]; rfl
  have b := ps_bd (sb a 15) 15 c.done
  have m : (0 : Int) < 65536 ^ 15 := Int.pow_pos (by decide)
  unfold off
  by_cases hp : 0 ≤ nth (sb a 15) 15
  · rw [if_pos hp]
    have q := Int.mul_nonneg hp (Int.le_of_lt m)
    rw [if_pos (by omega), s]
  · rw [if_neg hp]
    have q := Int.mul_le_mul_of_nonneg_right (show nth (sb a 15) 15 ≤ -1 by omega) (Int.le_of_lt m)
    rw [if_neg (by omega)]
theorem off2_val {a : List Int} (h : Norm a) : Crv.val (off (off a)) = ((fv a).val : Int) := by
  have v := h.val
  rw [off_val (off_norm h), off_val h, fv, fi_val]
  have e : (65536 : Int) ^ 16 = 2 * (P : Int) + 38 := by decide
  rw [e] at v
  have p : ((P : Nat) : Int) = 57896044618658097711785492504343953926634992332820282019728792003956564819949 := rfl
  rw [p] at v ⊢
  generalize Crv.val a = x at *
  by_cases h1 : (57896044618658097711785492504343953926634992332820282019728792003956564819949 : Int) ≤ x
  · rw [if_pos h1]
    by_cases h2 : (57896044618658097711785492504343953926634992332820282019728792003956564819949 : Int) ≤ x - 57896044618658097711785492504343953926634992332820282019728792003956564819949
    · rw [if_pos h2]; omega
    · rw [if_neg h2]; omega
  · rw [if_neg h1, if_neg h1]; omega
/-! ### as bytes -/
def keyB : Nat → Nat → List By
  | 0, _ => []
  | k + 1, n => BitVec.ofNat 8 n :: keyB k (n / 256)
theorem keyB_len : ∀ k n, (keyB k n).length = k
  | 0, _ => rfl
  | k + 1, n => by rw [keyB, List.length_cons, keyB_len k]
theorem keyB_le : ∀ b : List By, keyB b.length (le b) = b
  | [] => rfl
  | x :: b => by
    have h := x.isLt
    show BitVec.ofNat 8 (x.toNat + 256 * le b) :: keyB b.length ((x.toNat + 256 * le b) / 256) = x :: b
    have e1 : (x.toNat + 256 * le b) / 256 = le b := by omega
    have e2 : BitVec.ofNat 8 (x.toNat + 256 * le b) = x := by
      apply BitVec.eq_of_toNat_eq
      rw [BitVec.toNat_ofNat]
      omega
    rw [e1, e2, keyB_le b]
theorem le_keyB : ∀ k n, le (keyB k n) = n % 256 ^ k
  | 0, n => by rw [Nat.pow_zero, Nat.mod_one]; rfl
  | k + 1, n => by
    show (BitVec.ofNat 8 n).toNat + 256 * le (keyB k (n / 256)) = n % 256 ^ (k + 1)
    rw [le_keyB k, BitVec.toNat_ofNat]
    show n % 256 + 256 * (n / 256 % 256 ^ k) = n % 256 ^ (k + 1)
    rw [Nat.pow_succ, Nat.mul_comm (256 ^ k), Nat.mod_mul]
/-- limbs as bytes -/
def lb : List Int → List By
  | [] => []
  | x :: l => BitVec.ofInt 8 x :: BitVec.ofInt 8 (x / 256) :: lb l
theorem le_lb : ∀ l : List Int, (∀ x ∈ l, 0 ≤ x ∧ x ≤ 65535) → ((le (lb l) : Nat) : Int) = val l
  | [], _ => rfl
  | x :: l, h => by
    have hx := h x (List.mem_cons_self ..)
    have ih := le_lb l fun y hy => h y (List.mem_cons_of_mem _ hy)
    show (((BitVec.ofInt 8 x).toNat + 256 * ((BitVec.ofInt 8 (x / 256)).toNat + 256 * le (lb l)) : Nat) : Int) = x + 65536 * val l
    rw [← ih]
    have e1 : ((BitVec.ofInt 8 x).toNat : Int) = x % 256 := by rw [BitVec.toNat_ofInt]; omega
    have e2 : ((BitVec.ofInt 8 (x / 256)).toNat : Int) = x / 256 % 256 := by rw [BitVec.toNat_ofInt]; omega
    omega
theorem lb_len : ∀ l : List Int, (lb l).length = 2 * l.length
  | [] => rfl
  | x :: l => by
    show (lb l).length + 1 + 1 = 2 * (l.length + 1)
    rw [lb_len l]; omega
def writeL (a : List Int) : List By := lb (off (off (car a)))
/-- a number modulo p as a key -/
def keyF (x : F) : List By := keyB 32 x.val
theorem writeL_is {a : List Int} (h : Good a) : writeL a = keyF (fv a) := by
  have n := h.norm
  have n2 := off_norm (off_norm n)
  have v := off2_val n
  rw [car_fv h.len] at v
  have m : ∀ x ∈ off (off (car a)), 0 ≤ x ∧ x ≤ 65535 := fun x hx => by
    obtain ⟨j, hj, e⟩ := List.getElem_of_mem hx
    have := n2.all j (by rw [← n2.len]; exact hj)
    unfold nth at this
    rw [List.getD_eq_getElem?_getD, List.getElem?_eq_getElem hj, e] at this
    exact this
  have e := le_lb _ m
  rw [v] at e
  have e2 : le (writeL a) = (fv a).val := by
    unfold writeL
    omega
  have l : (writeL a).length = 32 := by rw [writeL, lb_len, n2.len]
  rw [keyF, ← e2, ← l, keyB_le]
def offN (a : List Int) : Nat → List Int
  | 0 => a
  | n + 1 => off (offN a n)
theorem offN_norm {a : List Int} (h : Norm a) : ∀ n, Norm (offN a n)
  | 0 => h
  | n + 1 => off_norm (offN_norm h n)
def wb (a : List Int) : Nat → List By
  | 0 => List.replicate 32 0
  | i + 1 => ((wb a i).set (2 * i) (BitVec.ofInt 8 (nth a i))).set (2 * i + 1) (BitVec.ofInt 8 (nth a i / 256))
theorem wb_len (a : List Int) : ∀ i, (wb a i).length = 32
  | 0 => rfl
  | i + 1 => by rw [wb, List.length_set, List.length_set, wb_len a i]
theorem lb_get : ∀ (a : List Int) (i : Nat), i < a.length → (lb a)[2 * i]? = some (BitVec.ofInt 8 (nth a i)) ∧ (lb a)[2 * i + 1]? = some (BitVec.ofInt 8 (nth a i / 256))
  | [], i, h => absurd h (by simp)
  | x :: l, 0, _ => ⟨rfl, rfl⟩
  | x :: l, i + 1, h => by
    have ih := lb_get l i (by simpa using h)
    show (BitVec.ofInt 8 x :: BitVec.ofInt 8 (x / 256) :: lb l)[2 * i + 1 + 1]? = some (BitVec.ofInt 8 (nth l i)) ∧ (BitVec.ofInt 8 x :: BitVec.ofInt 8 (x / 256) :: lb l)[2 * i + 1 + 1 + 1]? = some (BitVec.ofInt 8 (nth l i / 256))
    rw [List.getElem?_cons_succ, List.getElem?_cons_succ, List.getElem?_cons_succ, List.getElem?_cons_succ]
    exact ih
theorem wb_get (a : List Int) (ha : a.length = 16) : ∀ i, i ≤ 16 → ∀ j, j < 2 * i → (wb a i)[j]? = (lb a)[j]?
  | 0, _, j, h => absurd h (by omega)
  | i + 1, hi, j, h => by
    have ih := wb_get a ha i (by omega)
    have g := lb_get a i (by omega)
    have l := wb_len a i
    rw [wb, List.getElem?_set, List.getElem?_set, List.length_set]
    by_cases e1 : 2 * i + 1 = j
    · subst e1
      rw [if_pos rfl, if_pos (by omega), g.2]
    · rw [if_neg e1]
      by_cases e2 : 2 * i = j
      · subst e2
        rw [if_pos rfl, if_pos (by omega), g.1]
      · rw [if_neg e2]
        exact ih j (by omega)
theorem wb_all (a : List Int) (ha : a.length = 16) : wb a 16 = lb a := by
  apply List.ext_getElem?
  intro j
  by_cases h : j < 32
  · exact wb_get a ha 16 (by omega) j (by omega)
  · rw [List.getElem?_eq_none (by rw [wb_len]; omega), List.getElem?_eq_none (by rw [lb_len]; omega)]
end Crv
end Go.Proofs.Ytmbabkigjckaaaa
