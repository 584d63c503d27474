/-
  Of no statement by itself: numbers that have no parts, Fermat's little theorem, and that 2^255 - 19 is such a number; no program stands here.
  Conditions: none but each lemma's own.
-/
import Init
namespace Go.Proofs.Ytmbabkigjckaaaa
namespace Crv
def Prim (n : Nat) : Prop := 1 < n ∧ ∀ m, m ∣ n → m = 1 ∨ m = n
/-- binomials -/
def ch : Nat → Nat → Nat
  | _, 0 => 1
  | 0, _ + 1 => 0
  | n + 1, k + 1 => ch n k + ch n (k + 1)
theorem ch_zero (n : Nat) : ch n 0 = 1 := by cases n <;> rfl
theorem ch_over : ∀ n k : Nat, n < k → ch n k = 0
  | 0, 0, h => absurd h (by decide)
  | 0, _ + 1, _ => rfl
  | n + 1, 0, h => absurd h (by omega)
  | n + 1, k + 1, h => by
    show ch n k + ch n (k + 1) = 0
    rw [ch_over n k (by omega), ch_over n (k + 1) (by omega)]
theorem ch_self : ∀ n : Nat, ch n n = 1
  | 0 => rfl
  | n + 1 => by
    show ch n n + ch n (n + 1) = 1
    rw [ch_self n, ch_over n (n + 1) (by omega)]
theorem ch_mul : ∀ n j : Nat, (j + 1) * ch (n + 1) (j + 1) = (n + 1) * ch n j
  | 0, 0 => by decide
  | 0, j + 1 => by
    show (j + 1 + 1) * (ch 0 (j + 1) + ch 0 (j + 1 + 1)) = (0 + 1) * ch 0 (j + 1)
    simp [ch]
  | n + 1, 0 => by
    have h := ch_mul n 0
    show (0 + 1) * (ch (n + 1) 0 + ch (n + 1) (0 + 1)) = (n + 1 + 1) * ch (n + 1) 0
    rw [ch_zero] at *
    omega
  | n + 1, k + 1 => by
    have h1 := ch_mul n k
    have h2 := ch_mul n (k + 1)
    have h3 : ch (n + 1) (k + 1) = ch n k + ch n (k + 1) := rfl
    show (k + 1 + 1) * (ch (n + 1) (k + 1) + ch (n + 1) (k + 1 + 1)) = (n + 1 + 1) * ch (n + 1) (k + 1)
    have e1 : (k + 1 + 1) * (ch (n + 1) (k + 1) + ch (n + 1) (k + 1 + 1)) = (k + 1) * ch (n + 1) (k + 1) + ch (n + 1) (k + 1) + (k + 1 + 1) * ch (n + 1) (k + 1 + 1) := by
      rw [Nat.mul_add, Nat.add_mul (k + 1) 1, Nat.one_mul]
    have e2 : (n + 1 + 1) * ch (n + 1) (k + 1) = (n + 1) * ch n k + (n + 1) * ch n (k + 1) + ch (n + 1) (k + 1) := by
      rw [Nat.add_mul (n + 1) 1, Nat.one_mul, h3, Nat.mul_add]
    rw [e1, e2, h1, h2]; omega
/-- the sum's first k parts -/
def bs (a n : Nat) : Nat → Nat
  | 0 => 0
  | k + 1 => bs a n k + ch n k * a ^ k
theorem bs_step (a n : Nat) : ∀ k, bs a (n + 1) (k + 1) = bs a n (k + 1) + a * bs a n k
  | 0 => by simp [bs, ch_zero]
  | k + 1 => by
    have h := bs_step a n k
    have e1 : bs a (n + 1) (k + 1 + 1) = bs a (n + 1) (k + 1) + (ch n k + ch n (k + 1)) * a ^ (k + 1) := rfl
    have e2 : bs a n (k + 1 + 1) = bs a n (k + 1) + ch n (k + 1) * a ^ (k + 1) := rfl
    have e3 : bs a n (k + 1) = bs a n k + ch n k * a ^ k := rfl
    have e4 : a * bs a n (k + 1) = a * bs a n k + ch n k * a ^ (k + 1) := by
      rw [e3, Nat.mul_add, Nat.pow_succ, Nat.mul_left_comm, Nat.mul_comm a (a ^ k)]
    rw [e1, h, e2, e4, Nat.add_mul]; omega
theorem binom (a : Nat) : ∀ n, (a + 1) ^ n = bs a n (n + 1)
  | 0 => by simp [bs, ch]
  | n + 1 => by
    have h := binom a n
    rw [bs_step, Nat.pow_succ, h, Nat.mul_add, Nat.mul_one, Nat.mul_comm]
    have : bs a n (n + 1 + 1) = bs a n (n + 1) + ch n (n + 1) * a ^ (n + 1) := rfl
    rw [this, ch_over n (n + 1) (by omega)]; omega
theorem Prim.euclid {p a b : Nat} (h : Prim p) (d : p ∣ a * b) : p ∣ a ∨ p ∣ b := by
  cases h.2 (Nat.gcd p a) (Nat.gcd_dvd_left p a) with
  | inl e => exact Or.inr (Nat.Coprime.dvd_of_dvd_mul_left e d)
  | inr e => exact Or.inl (e ▸ Nat.gcd_dvd_right p a)
theorem Prim.ch {p : Nat} (h : Prim p) (j : Nat) (h0 : 0 < j) (h1 : j < p) : p ∣ ch p j := by
  obtain ⟨n, rfl⟩ : ∃ n, p = n + 1 := ⟨p - 1, by have := h.1; omega⟩
  obtain ⟨k, rfl⟩ : ∃ k, j = k + 1 := ⟨j - 1, by omega⟩
  have e := ch_mul n k
  cases h.euclid (a := k + 1) (b := Crv.ch (n + 1) (k + 1)) ⟨_, e⟩ with
  | inl d => exact absurd (Nat.le_of_dvd (by omega) d) (by omega)
  | inr d => exact d
theorem bs_mod {p : Nat} (h : Prim p) (a : Nat) : ∀ k, k < p → bs a p (k + 1) % p = 1 % p
  | 0, _ => by simp [bs, ch_zero]
  | k + 1, hk => by
    have e : bs a p (k + 1 + 1) = bs a p (k + 1) + Crv.ch p (k + 1) * a ^ (k + 1) := rfl
    obtain ⟨c, hc⟩ := h.ch (k + 1) (by omega) hk
    rw [e, hc, Nat.mul_assoc, Nat.add_mul_mod_self_left]
    exact bs_mod h a k (by omega)
theorem frob {p : Nat} (h : Prim p) (a : Nat) : (a + 1) ^ p % p = (a ^ p + 1) % p := by
  obtain ⟨n, rfl⟩ : ∃ n, p = n + 1 := ⟨p - 1, by have := h.1; omega⟩
  rw [binom]
  have e : bs a (n + 1) (n + 1 + 1) = bs a (n + 1) (n + 1) + Crv.ch (n + 1) (n + 1) * a ^ (n + 1) := rfl
  rw [e, ch_self, Nat.one_mul, Nat.add_mod, bs_mod h a n (by omega), ← Nat.add_mod, Nat.add_comm]
theorem fermat0 {p : Nat} (h : Prim p) : ∀ a : Nat, a ^ p % p = a % p
  | 0 => by rw [Nat.zero_pow (by have := h.1; omega)]
  | a + 1 => by rw [frob h, Nat.add_mod, fermat0 h a, ← Nat.add_mod]
theorem fermat {p : Nat} (h : Prim p) (a : Nat) (ha : ¬ p ∣ a) : a ^ (p - 1) % p = 1 := by
  have h1 := h.1
  have e := fermat0 h a
  have e2 : a ^ p = a * a ^ (p - 1) := by
    have : p = (p - 1) + 1 := by omega
    rw [Nat.mul_comm, ← Nat.pow_succ, Nat.succ_eq_add_one, ← this]
  have pos : 0 < a ^ (p - 1) := Nat.pow_pos (Nat.pos_of_ne_zero (fun h => ha (h ▸ Nat.dvd_zero p)))
  have d : p ∣ a * (a ^ (p - 1) - 1) := by
    rw [Nat.mul_sub, Nat.mul_one, ← e2]
    exact (Nat.dvd_of_mod_eq_zero (Nat.sub_mod_eq_zero_of_mod_eq e))
  cases h.euclid d with
  | inl d => exact absurd d ha
  | inr d =>
    obtain ⟨c, hc⟩ := d
    have : a ^ (p - 1) = 1 + p * c := by omega
    rw [this, Nat.add_mul_mod_self_left, Nat.mod_eq_of_lt h1]
theorem pow_gcd {r c : Nat} : ∀ m n : Nat, c ^ m % r = 1 % r → c ^ n % r = 1 % r → c ^ Nat.gcd m n % r = 1 % r := by
  intro m n
  induction m, n using Nat.gcd.induction with
  | H0 n => intro _ h; rw [Nat.gcd_zero_left]; exact h
  | H1 m n hm ih =>
    intro h1 h2
    rw [Nat.gcd_rec]
    refine ih ?_ h1
    have e : c ^ n = (c ^ m) ^ (n / m) * c ^ (n % m) := by
      rw [← Nat.pow_mul, ← Nat.pow_add, Nat.div_add_mod]
    rw [e, Nat.mul_mod, Nat.pow_mod, h1, ← Nat.pow_mod, Nat.one_pow, ← Nat.mul_mod, Nat.one_mul] at h2
    exact h2
theorem part (n : Nat) : 1 < n → ∃ r, Prim r ∧ r ∣ n := by
  induction n using Nat.strongRecOn with
  | _ n ih =>
    intro h
    by_cases hp : Prim n
    · exact ⟨n, hp, Nat.dvd_refl n⟩
    · have : ∃ m, m ∣ n ∧ m ≠ 1 ∧ m ≠ n := by
        refine Classical.byContradiction fun hn => hp ⟨h, fun m hm => ?_⟩
        by_cases h1 : m = 1
        · exact Or.inl h1
        · by_cases h2 : m = n
          · exact Or.inr h2
          · exact absurd ⟨m, hm, h1, h2⟩ hn
      obtain ⟨m, hm, h1, h2⟩ := this
      have hle := Nat.le_of_dvd (by omega) hm
      have h0 : m ≠ 0 := fun e => by rw [e] at hm; have := Nat.eq_zero_of_zero_dvd hm; omega
      obtain ⟨r, hr, hd⟩ := ih m (by omega) (by omega)
      exact ⟨r, hr, Nat.dvd_trans hd hm⟩
theorem small (n : Nat) (h : 1 < n) (no : ∀ r, Prim r → r ∣ n → n < r * r) : Prim n := by
  refine ⟨h, fun m hm => ?_⟩
  by_cases h1 : m = 1
  · exact Or.inl h1
  by_cases h2 : m = n
  · exact Or.inr h2
  exfalso
  obtain ⟨k, hk⟩ := hm
  have m0 : m ≠ 0 := fun e => by rw [e, Nat.zero_mul] at hk; omega
  have k0 : k ≠ 0 := fun e => by rw [e, Nat.mul_zero] at hk; omega
  have k1 : k ≠ 1 := fun e => by rw [e, Nat.mul_one] at hk; exact h2 hk.symm
  have two : ∀ a b, n = a * b → 1 < a → a ≤ b → False := fun a b e ha hab => by
    obtain ⟨r, hr, hd⟩ := part a ha
    have q1 := no r hr (Nat.dvd_trans hd ⟨b, e⟩)
    have q2 := Nat.le_of_dvd (by omega) hd
    have q3 := Nat.mul_le_mul q2 (Nat.le_trans q2 hab)
    omega
  cases Nat.le_total m k with
  | inl hl => exact two m k hk (by omega) hl
  | inr hl => exact two k m (by rw [hk, Nat.mul_comm]) (by omega) hl
theorem pock {N r q k a : Nat} (hr : Prim r) (hd : r ∣ N) (hN : 1 < N) (hq : Prim q) (hk : N - 1 = k * q)
    (h1 : a ^ (k * q) % N = 1) (h2 : Nat.gcd (a ^ k % N + N - 1) N = 1) : q ∣ r - 1 := by
  have r1 := hr.1
  have hp : ∀ x, x % N % r = x % r := fun x => Nat.mod_mod_of_dvd x hd
  have e1 : (a ^ k) ^ q % r = 1 % r := by rw [← Nat.pow_mul, ← hp, h1]
  have na : ¬ r ∣ a ^ k := fun d => by
    obtain ⟨c, hc⟩ := d
    have : q ≠ 0 := by have := hq.1; omega
    obtain ⟨q', rfl⟩ : ∃ q', q = q' + 1 := ⟨q - 1, by omega⟩
    rw [Nat.pow_succ, hc, Nat.mul_comm, Nat.mul_assoc, Nat.mul_mod_right, Nat.mod_eq_of_lt r1] at e1
    exact absurd e1 (by decide)
  have e2 : (a ^ k) ^ (r - 1) % r = 1 % r := by rw [fermat hr _ na, Nat.mod_eq_of_lt r1]
  have e3 := pow_gcd _ _ e1 e2
  cases hq.2 _ (Nat.gcd_dvd_left q (r - 1)) with
  | inr e => rw [← e]; exact Nat.gcd_dvd_right q (r - 1)
  | inl e =>
    exfalso
    rw [e, Nat.pow_one, ← hp] at e3
    have d : r ∣ a ^ k % N + N - 1 := by
      have := Nat.sub_mod_eq_zero_of_mod_eq e3
      have d1 := Nat.dvd_of_mod_eq_zero this
      have : a ^ k % N + N - 1 = (a ^ k % N - 1) + N := by
        have : a ^ k % N ≠ 0 := fun z => by rw [z, Nat.zero_mod, Nat.mod_eq_of_lt r1] at e3; exact absurd e3 (by decide)
        omega
      rw [this]
      exact Nat.dvd_add d1 hd
    have d2 := Nat.dvd_gcd d hd
    rw [h2] at d2
    have := Nat.le_of_dvd (by decide) d2
    omega
/-- one number is enough: it is greater than the root -/
theorem pock1 {N q k a : Nat} (hN : 1 < N) (hq : Prim q) (hk : N - 1 = k * q) (big : N < q * q)
    (h1 : a ^ (k * q) % N = 1) (h2 : Nat.gcd (a ^ k % N + N - 1) N = 1) : Prim N := by
  refine small N hN fun r hr hd => ?_
  have d := pock hr hd hN hq hk h1 h2
  have := hr.1
  have l := Nat.le_of_dvd (by omega) d
  have := Nat.mul_le_mul (Nat.le_trans l (Nat.sub_le r 1)) (Nat.le_trans l (Nat.sub_le r 1))
  omega
/-- two numbers: their product is greater than the root -/
theorem pock2 {N q k q' k' a : Nat} (hN : 1 < N) (hq : Prim q) (hk : N - 1 = k * q) (hq' : Prim q') (hk' : N - 1 = k' * q') (ne : Nat.gcd q q' = 1) (big : N < q * q' * (q * q'))
    (h1 : a ^ (k * q) % N = 1) (h2 : Nat.gcd (a ^ k % N + N - 1) N = 1) (h3 : Nat.gcd (a ^ k' % N + N - 1) N = 1) : Prim N := by
  refine small N hN fun r hr hd => ?_
  have d := Nat.Coprime.mul_dvd_of_dvd_of_dvd ne (pock hr hd hN hq hk h1 h2) (pock hr hd hN hq' hk' (by rw [← hk', hk]; exact h1) h3)
  have := hr.1
  have l := Nat.le_of_dvd (by omega) d
  have := Nat.mul_le_mul (Nat.le_trans l (Nat.sub_le r 1)) (Nat.le_trans l (Nat.sub_le r 1))
  omega
/-- a power, kept small -/
def pm (n : Nat) : Nat → Nat → Nat → Nat → Nat
  | 0, _, _, acc => acc
  | f + 1, b, e, acc => pm n f (b * b % n) (e / 2) (if e % 2 = 1 then acc * b % n else acc)
theorem pm_eq (n : Nat) : ∀ f b e acc : Nat, e < 2 ^ f → pm n f b e acc % n = acc * b ^ e % n
  | 0, b, e, acc, h => by
    have : e = 0 := by omega
    subst this; simp [pm]
  | f + 1, b, e, acc, h => by
    show pm n f (b * b % n) (e / 2) (if e % 2 = 1 then acc * b % n else acc) % n = _
    rw [pm_eq n f _ _ _ (by rw [Nat.pow_succ] at h; omega)]
    have eb : b ^ e = b ^ (e % 2) * (b * b) ^ (e / 2) := by
      rw [← Nat.pow_two, ← Nat.pow_mul, ← Nat.pow_add, Nat.mod_add_div]
    rw [Nat.mul_mod, ← Nat.pow_mod, ← Nat.mul_mod, eb]
    split
    next h1 => rw [h1, Nat.pow_one, Nat.mul_mod, Nat.mod_mod, ← Nat.mul_mod, Nat.mul_assoc]
    next h1 =>
      have : e % 2 = 0 := by omega
      rw [this, Nat.pow_zero, Nat.one_mul]
theorem pm_is {n f b e v : Nat} (h : e < 2 ^ f) (hv : pm n f b e 1 % n = v) : b ^ e % n = v := by
  rw [← hv, pm_eq n f b e 1 h, Nat.one_mul]
/-- no number from 2 up to here goes into n -/
def trial (n : Nat) : Nat → Bool
  | 0 => true
  | k + 1 => (n % (k + 2) != 0) && trial n k
theorem trial_no (n : Nat) : ∀ k, trial n k = true → ∀ d, 2 ≤ d → d < k + 2 → n % d ≠ 0
  | 0, _, d, h, h2 => by omega
  | k + 1, ht, d, h, h2 => by
    simp only [trial, Bool.and_eq_true, bne_iff_ne, ne_eq] at ht
    by_cases e : d = k + 2
    · rw [e]; exact ht.1
    · exact trial_no n k ht.2 d h (by omega)
theorem trial_prim {n : Nat} (k : Nat) (h : 1 < n) (ht : trial n k = true) (big : n < (k + 2) * (k + 2)) : Prim n := by
  refine small n h fun r hr hd => ?_
  by_cases hk : r < k + 2
  · exact absurd (Nat.mod_eq_zero_of_dvd hd) (trial_no n k ht r hr.1 hk)
  · have := Nat.mul_le_mul (Nat.le_of_not_lt hk) (Nat.le_of_not_lt hk)
    omega
theorem pock2' {N q q' : Nat} (f a k k' v v' : Nat) (hq : Prim q) (hq' : Prim q') (hN : 1 < N) (hk : N - 1 = k * q) (hk' : N - 1 = k' * q') (ne : Nat.gcd q q' = 1) (big : N < q * q' * (q * q'))
    (hf : N ≤ 2 ^ f) (e1 : pm N f a k 1 % N = v) (e2 : pm N f a k' 1 % N = v') (e3 : pm N f a (k * q) 1 % N = 1)
    (g1 : Nat.gcd (v + N - 1) N = 1) (g2 : Nat.gcd (v' + N - 1) N = 1) : Prim N := by
  have l1 : k ≤ k * q := Nat.le_mul_of_pos_right k (Nat.lt_trans Nat.zero_lt_one hq.1)
  have l2 : k' ≤ k' * q' := Nat.le_mul_of_pos_right k' (Nat.lt_trans Nat.zero_lt_one hq'.1)
  refine pock2 hN hq hk hq' hk' ne big (a := a) (pm_is (by omega) e3) ?_ ?_
  · rw [pm_is (by omega) e1]; exact g1
  · rw [pm_is (by omega) e2]; exact g2
theorem pock1' {N q : Nat} (f a k v : Nat) (hq : Prim q) (hN : 1 < N) (hk : N - 1 = k * q) (big : N < q * q)
    (hf : N ≤ 2 ^ f) (e1 : pm N f a k 1 % N = v) (e3 : pm N f a (k * q) 1 % N = 1) (g1 : Nat.gcd (v + N - 1) N = 1) : Prim N := by
  have l1 : k ≤ k * q := Nat.le_mul_of_pos_right k (Nat.lt_trans Nat.zero_lt_one hq.1)
  refine pock1 hN hq hk big (a := a) (pm_is (by omega) e3) ?_
  rw [pm_is (by omega) e1]; exact g1
theorem prim_127 : Prim 127 := trial_prim 10 (by decide) (by decide +kernel) (by decide)
theorem prim_353 : Prim 353 := trial_prim 17 (by decide) (by decide +kernel) (by decide)
theorem prim_75707 : Prim 75707 := trial_prim 274 (by decide) (by decide +kernel) (by decide)
theorem prim_a : Prim 8574133 := trial_prim 2927 (by decide) (by decide +kernel) (by decide)
theorem prim_b : Prim 1919519569386763 :=
  pock2' (N := 1919519569386763) 51 2 223873314 15114327318006 1059928654987441 576774792492622 prim_a prim_127 (by decide +kernel) (by decide +kernel) (by decide +kernel) (by decide +kernel) (by decide +kernel) (by decide +kernel) (by decide +kernel) (by decide +kernel) (by decide +kernel) (by decide +kernel) (by decide +kernel)
theorem prim_c : Prim 75445702479781427272750846543864801 :=
  pock2' (N := 75445702479781427272750846543864801) 116 2 39304471641247389600 996548568557483816196003626400 56747016255153332959347766392083459 58781699294900834553279248901967638 prim_b prim_75707 (by decide +kernel) (by decide +kernel) (by decide +kernel) (by decide +kernel) (by decide +kernel) (by decide +kernel) (by decide +kernel) (by decide +kernel) (by decide +kernel) (by decide +kernel) (by decide +kernel)
theorem prim_d : Prim 74058212732561358302231226437062788676166966415465897661863160754340907 :=
  pock2' (N := 74058212732561358302231226437062788676166966415465897661863160754340907) 236 2 981609426360740691344999861639072106 209796636636151156663544550813209033076960244803019540118592523383402 69490809710348678725736597923071784769591275419387514694139338586948360 8562916886866218785688304546164188478888058893729309188831496247839076 prim_c prim_353 (by decide +kernel) (by decide +kernel) (by decide +kernel) (by decide +kernel) (by decide +kernel) (by decide +kernel) (by decide +kernel) (by decide +kernel) (by decide +kernel) (by decide +kernel) (by decide +kernel)
abbrev P : Nat := 57896044618658097711785492504343953926634992332820282019728792003956564819949
theorem prim_P : Prim P :=
  pock1' (N := P) 255 2 781764 427094198651976259540344842774561673889945192655078505504941250475370961481 prim_d (by decide +kernel) (by decide +kernel) (by decide +kernel) (by decide +kernel) (by decide +kernel) (by decide +kernel) (by decide +kernel)
end Crv
end Go.Proofs.Ytmbabkigjckaaaa
