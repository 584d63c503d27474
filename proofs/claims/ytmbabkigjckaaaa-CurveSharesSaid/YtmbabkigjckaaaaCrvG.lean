/-
  Of no statement by itself: the ladder of X25519 gives the point so many times, so that two even numbers may be taken in either order; no program stands here.
  Conditions: none but each lemma's own.
-/
import Derived.Test.YtmbabkigjckaaaaCrvE
namespace Go.Proofs.Ytmbabkigjckaaaa
namespace Crv
theorem add_diff {d : F} {p r : F × F} (ns : NS d) (hp : On d p) (hr : On d r) : add d (add d r p) (neg r) = p := by
  rw [add_comm d r p, assoc ns hp hr (on_neg hr), add_neg ns hr, add_comm, O_add]
theorem nP_dbl {d : F} {p : F × F} (ns : NS d) (h : On d p) (m : Nat) : add d (nP d p m) (nP d p m) = nP d p (2 * m) := by
  rw [← nP_add ns h, Nat.two_mul]
theorem nP_next {d : F} {p : F × F} (ns : NS d) (h : On d p) (m : Nat) : add d (nP d p m) (nP d p (m + 1)) = nP d p (2 * m + 1) := by
  rw [← nP_add ns h]
  congr 1
  omega
/-- the state stands for the point m times, and once more -/
def Inv (σ d : F) (p : F × F) (m : Nat) (s : L4) : Prop := Rep σ (nP d p m).2 s.x2 s.z2 ∧ Rep σ (nP d p (m + 1)).2 s.x3 s.z3
theorem Inv.step {σ d u : F} {p : F × F} (hp : Par σ d) (h : On d p) (hu : u ≠ 0) (hd : u * (σ * (1 - p.2)) = 1 + p.2) {m : Nat} {s : L4} (i : Inv σ d p m s) (b : Bool) :
    Inv σ d p (2 * m + b.toNat) (swap b (core u (swap b s))) := by
  obtain ⟨i1, i2⟩ := i
  have o1 := on_nP hp.ns h m
  have o2 := on_nP hp.ns h (m + 1)
  have df : add d (nP d p (m + 1)) (neg (nP d p m)) = p := add_diff hp.ns h o1
  have dg : (add d (nP d p m) (neg (nP d p (m + 1)))).2 = p.2 := by rw [neg_sym, df]
  cases b with
  | false =>
    have a1 := rep_dbl hp o1 i1 u
    have a2 := rep_add hp o1 o2 i1 i2 hu (by rw [dg]; exact hd)
    rw [nP_dbl hp.ns h] at a1
    rw [nP_next hp.ns h] at a2
    exact ⟨a1, a2⟩
  | true =>
    have a1 := rep_dbl hp o2 (s := ⟨s.x3, s.z3, s.x2, s.z2⟩) i2 u
    have a2 := rep_add hp o2 o1 (s := ⟨s.x3, s.z3, s.x2, s.z2⟩) i2 i1 hu (by rw [df]; exact hd)
    rw [nP_dbl hp.ns h] at a1
    rw [add_comm, nP_next hp.ns h] at a2
    exact ⟨a2, a1⟩
theorem bits_next (k n : Nat) : k % 2 ^ (n + 1) = (k.testBit n).toNat * 2 ^ n + k % 2 ^ n := by
  rw [Nat.pow_succ, Nat.mod_mul, Nat.testBit_eq_decide_div_mod_eq, Nat.add_comm, Nat.mul_comm]
  congr 2
  by_cases h : k / 2 ^ n % 2 = 1
  · rw [h]; rfl
  · have h0 : k / 2 ^ n % 2 = 0 := by omega
    rw [h0]; rfl
theorem Inv.all {σ d u : F} {p : F × F} (hp : Par σ d) (h : On d p) (hu : u ≠ 0) (hd : u * (σ * (1 - p.2)) = 1 + p.2) (k : Nat) :
    ∀ n m s, Inv σ d p m s → Inv σ d p (m * 2 ^ n + k % 2 ^ n) (lad u k n s)
  | 0, m, s, i => by
    have e : m * 2 ^ 0 + k % 2 ^ 0 = m := by rw [Nat.pow_zero, Nat.mod_one, Nat.mul_one]; rfl
    rw [e]; exact i
  | n + 1, m, s, i => by
    have r := Inv.all hp h hu hd k n _ _ (i.step hp h hu hd (k.testBit n))
    have e : m * 2 ^ (n + 1) + k % 2 ^ (n + 1) = (2 * m + (k.testBit n).toNat) * 2 ^ n + k % 2 ^ n := by
      rw [bits_next, Nat.add_mul, Nat.pow_succ, Nat.mul_comm (2 ^ n) 2, ← Nat.mul_assoc, Nat.mul_comm m 2, Nat.add_assoc]
    rw [e]; exact r
/-- the number of a point: 0 of the two that have none -/
def U (σ : F) (p : F × F) : F := (1 + p.2) * inv (σ * (1 - p.2))
theorem rep_out {σ y X Z : F} (r : Rep σ y X Z) : X * inv Z = (1 + y) * inv (σ * (1 - y)) := by
  obtain ⟨l, l0, ex, ez⟩ := r
  by_cases hz : σ * (1 - y) = 0
  · have e : Z = 0 := by rw [ez, hz]; clear ex ez hz l0; grobner
    rw [e, hz, inv_zero]
    clear ex ez hz l0 e
    grobner
  · have i1 := mul_inv hz
    have zn : Z ≠ 0 := by rw [ez]; exact mul_ne l0 hz
    have i2 := mul_inv zn
    refine cancel zn ?_
    have e1 : Z * (X * inv Z) = X := by
      clear ex ez l0 hz i1 zn
      generalize inv Z = a at *
      grobner
    rw [e1, ex, ez]
    clear e1 i2 zn ex ez l0 hz
    generalize inv (σ * (1 - y)) = a at *
    generalize σ * (1 - y) = b at *
    grobner
theorem U_ne {σ : F} {p : F × F} (h : U σ p ≠ 0) : U σ p * (σ * (1 - p.2)) = 1 + p.2 := by
  have n : σ * (1 - p.2) ≠ 0 := fun e => by
    refine h ?_
    unfold U
    rw [e, inv_zero]
    clear h e
    grobner
  have i := mul_inv n
  unfold U
  clear h n
  generalize inv (σ * (1 - p.2)) = a at *
  generalize σ * (1 - p.2) = b at *
  grobner
theorem mul_pt {σ d : F} {p : F × F} (hp : Par σ d) (h : On d p) (hu : U σ p ≠ 0) {k : Nat} (hk : k < 2 ^ 255) : mulF k (U σ p) = U σ (nP d p k) := by
  have hd := U_ne hu
  have h1 := hp.one
  have i0 : Inv σ d p 0 ⟨1, 0, U σ p, 1⟩ := by
    refine ⟨rep_of h1 ?_ fun z _ => ?_, ?_⟩
    · show σ * (1 + 1) * 0 = (1 - 1) * 1
      clear h1 hd
      grobner
    · have : (1 : F) ≠ 0 := by decide
      exact this z
    · show Rep σ (add d O p).2 (U σ p) 1
      rw [O_add]
      refine rep_of h1 ?_ fun _ z => ?_
      · generalize U σ p = u at *
        clear hu
        grobner
      · have : (1 : F) ≠ 0 := by decide
        exact this z
  have i := Inv.all hp h hu hd k 255 0 _ i0
  rw [Nat.zero_mul, Nat.zero_add, Nat.mod_eq_of_lt hk] at i
  exact rep_out i.1
theorem lad_zero (k : Nat) : ∀ n s, s.z2 = 0 → s.z3 = 0 → (lad 0 k n s).z2 = 0
  | 0, _, h, _ => h
  | n + 1, s, h, h' => by
    have g2 : ∀ s : L4, s.z2 = 0 → (core 0 s).z2 = 0 := fun s e => by
      show ((s.x2 + s.z2) * (s.x2 + s.z2) - (s.x2 - s.z2) * (s.x2 - s.z2)) * ((s.x2 + s.z2) * (s.x2 + s.z2) + 121665 * ((s.x2 + s.z2) * (s.x2 + s.z2) - (s.x2 - s.z2) * (s.x2 - s.z2))) = 0
      rw [e]
      generalize s.x2 = x
      clear h h' e
      grobner
    have g3 : ∀ s : L4, (core 0 s).z3 = 0 := fun s => by
      show 0 * (((s.x3 - s.z3) * (s.x2 + s.z2) - (s.x3 + s.z3) * (s.x2 - s.z2)) * ((s.x3 - s.z3) * (s.x2 + s.z2) - (s.x3 + s.z3) * (s.x2 - s.z2))) = 0
      generalize ((s.x3 - s.z3) * (s.x2 + s.z2) - (s.x3 + s.z3) * (s.x2 - s.z2)) * ((s.x3 - s.z3) * (s.x2 + s.z2) - (s.x3 + s.z3) * (s.x2 - s.z2)) = x
      clear h h' g2
      grobner
    show (lad 0 k n (swap (k.testBit n) (core 0 (swap (k.testBit n) s)))).z2 = 0
    cases k.testBit n with
    | false => exact lad_zero k n _ (g2 _ h) (g3 _)
    | true => exact lad_zero k n _ (g3 _) (g2 _ h')
theorem lad_one (k n : Nat) : (lad 0 k (n + 1) ⟨1, 0, 0, 1⟩).z2 = 0 := by
  show (lad 0 k n (swap (k.testBit n) (core 0 (swap (k.testBit n) ⟨1, 0, 0, 1⟩)))).z2 = 0
  cases k.testBit n with
  | false => exact lad_zero k n _ (by decide +kernel) (by decide +kernel)
  | true => exact lad_zero k n _ (by decide +kernel) (by decide +kernel)
theorem mul_nought (k : Nat) : mulF k 0 = 0 := by
  have e : (lad 0 k 255 ⟨1, 0, 0, 1⟩).z2 = 0 := lad_one k 254
  unfold mulF
  rw [e, inv_zero]
  generalize (lad 0 k 255 ⟨1, 0, 0, 1⟩).x2 = x
  clear e
  grobner
theorem nP_O {d : F} : ∀ n, nP d O n = O
  | 0 => rfl
  | n + 1 => by show add d (nP d O n) O = O; rw [nP_O n, O_add]
theorem U_O (σ : F) : U σ O = 0 := by
  show (1 + 1) * inv (σ * (1 - 1)) = 0
  have e : σ * (1 - 1) = 0 := by grobner
  rw [e, inv_zero]; rfl
theorem even_nought {σ d : F} {p : F × F} (hp : Par σ d) (h : On d p) (hu : U σ p = 0) (j : Nat) : U σ (nP d p (2 * j)) = 0 := by
  have h1 := hp.one
  have nd := hp.d_ne
  have s0 : σ ≠ 0 := fun e => by
    rw [e] at h1
    have : (0 : F) * 0 ≠ 1 := by decide
    exact this h1
  have e1 : (1 + p.2) * (1 - p.2) = 0 := by
    by_cases z : 1 - p.2 = 0
    · rw [z]; clear h1 nd s0 hu h z; grobner
    · have i := mul_inv (mul_ne s0 z)
      have e : (1 + p.2) * inv (σ * (1 - p.2)) = 0 := hu
      clear h1 nd s0 hu h z
      generalize inv (σ * (1 - p.2)) = a at *
      generalize 1 + p.2 = b at *
      generalize 1 - p.2 = c at *
      grobner
  have e2 : p.1 = 0 := by
    refine sq_zero ((mul_zero (x := 1 - d) (y := p.1 * p.1) ?_).elim (fun h => absurd h nd) (fun h => h))
    unfold On at h
    clear h1 nd s0 hu
    generalize p.1 = x at *
    generalize p.2 = y at *
    grobner
  have e3 : neg p = p := by
    apply Prod.ext
    · show -p.1 = p.1
      rw [e2]; decide
    · rfl
  have e4 : nP d p 2 = O := by
    show add d (add d O p) p = O
    have := add_neg hp.ns h
    rw [e3] at this
    rw [O_add, this]
  rw [← nP_mul hp.ns h, e4, nP_O, U_O]
theorem mul_even {σ d : F} {p : F × F} (hp : Par σ d) (h : On d p) {k : Nat} (hk : k < 2 ^ 255) (he : k % 2 = 0) : mulF k (U σ p) = U σ (nP d p k) := by
  by_cases hu : U σ p = 0
  · have e : k = 2 * (k / 2) := by omega
    rw [hu, mul_nought, e, even_nought hp h hu]
  · exact mul_pt hp h hu hk
theorem point {σ u s : F} (h1 : σ * σ = 1) (hs : σ * (σ * ca + 2) * (u * (u * u + ca * u + 1)) = s * s) : ∃ d p, Par σ d ∧ On d p ∧ U σ p = u := by
  have nr := no_root
  have hc : σ * ca + 2 ≠ 0 := fun z => nr 0 (by
    generalize ca = A at *
    clear nr hs
    grobner)
  have hv : σ * u + 1 ≠ 0 := fun z => nr s (by
    rw [← hs]
    generalize ca = A at *
    clear nr hs hc
    grobner)
  have hD : u * u + ca * u + 1 ≠ 0 := fun z => nr (2 * u + ca) (by
    generalize ca = A at *
    clear nr hs hc hv
    grobner)
  have ic := mul_inv hc
  have iv := mul_inv hv
  have iD := mul_inv hD
  have num : (σ * ca - 2) * inv (σ * ca + 2) * (σ * ca + 2) = σ * ca - 2 := by
    clear hs hv hD iv iD nr h1
    generalize inv (σ * ca + 2) = a at *
    generalize σ * ca + 2 = b at *
    generalize σ * ca - 2 = c at *
    grobner
  have ns : NS ((σ * ca - 2) * inv (σ * ca + 2)) := fun t e => nr (t * (σ * ca + 2)) (by
    rw [← e] at num
    clear hs hv hD iv iD nr e ic hc
    generalize ca = A at *
    grobner)
  have hx : s * inv (u * u + ca * u + 1) * (u * u + ca * u + 1) = s := by
    clear hs hv ns iv nr ic hc num h1
    generalize inv (u * u + ca * u + 1) = a at *
    generalize u * u + ca * u + 1 = b at *
    grobner
  have hy : (σ * u - 1) * inv (σ * u + 1) * (σ * u + 1) = σ * u - 1 := by
    clear hs hD ns iD nr ic hc num h1 hx
    generalize inv (σ * u + 1) = a at *
    generalize σ * u + 1 = b at *
    generalize σ * u - 1 = c at *
    grobner
  generalize s * inv (u * u + ca * u + 1) = x at *
  generalize (σ * u - 1) * inv (σ * u + 1) = y at *
  generalize (σ * ca - 2) * inv (σ * ca + 2) = d at *
  refine ⟨d, (x, y), ⟨h1, num, ns⟩, ?_, ?_⟩
  · show x * x + y * y = 1 + d * x * x * y * y
    have e1 : x * x * (u * u + ca * u + 1) = (σ * ca + 2) * (σ * u) := by
      refine cancel hD ?_
      clear nr hc hv hD ic iv iD num ns hy
      have e : (u * u + ca * u + 1) * (x * x * (u * u + ca * u + 1)) = s * s := by
        rw [← hx]
        clear hx hs h1
        generalize u * u + ca * u + 1 = D at *
        grobner
      rw [e, ← hs]
      clear e hx hs
      generalize u * u + ca * u + 1 = D at *
      generalize ca = A at *
      grobner
    refine cancel hD (cancel (mul_ne hv hv) ?_)
    have l : (σ * u + 1) * (σ * u + 1) * ((u * u + ca * u + 1) * (x * x + y * y)) = (σ * ca + 2) * (σ * u) * ((σ * u + 1) * (σ * u + 1)) + (u * u + ca * u + 1) * ((σ * u - 1) * (σ * u - 1)) := by
      rw [← e1, ← hy]
      clear e1 hy hx hs nr hc hv hD ic iv iD num ns h1
      generalize σ * u + 1 = E at *
      generalize u * u + ca * u + 1 = D at *
      grobner
    have r : (σ * u + 1) * (σ * u + 1) * ((u * u + ca * u + 1) * (1 + d * x * x * y * y)) = (u * u + ca * u + 1) * ((σ * u + 1) * (σ * u + 1)) + d * (σ * ca + 2) * (σ * u) * ((σ * u - 1) * (σ * u - 1)) := by
      have e2 : d * (σ * ca + 2) * (σ * u) = d * (x * x * (u * u + ca * u + 1)) := by
        rw [e1]
        clear l e1 hy hx hs nr hc hv hD ic iv iD num ns h1
        generalize σ * ca + 2 = C at *
        generalize σ * u = v at *
        grobner
      rw [e2, ← hy]
      clear l e1 e2 hy hx hs nr hc hv hD ic iv iD num ns h1
      generalize σ * u + 1 = E at *
      generalize u * u + ca * u + 1 = D at *
      grobner
    rw [l, r, num]
    clear l r e1 hy hx hs nr hc hv hD ic iv iD num ns
    generalize ca = A at *
    grobner
  · show (1 + y) * inv (σ * (1 - y)) = u
    have e1 : (σ * u + 1) * (1 + y) = 2 * (σ * u) := by
      clear hx hs nr hc hv hD ic iv iD num ns h1
      grobner
    have e2 : (σ * u + 1) * (1 - y) = 2 := by
      clear hx hs nr hc hv hD ic iv iD num ns h1 e1
      grobner
    have e3 : u * (σ * (1 - y)) = 1 + y := by
      refine cancel hv ?_
      rw [e1]
      clear hx hs nr hc hv hD ic iv iD num ns h1 e1 hy
      grobner
    have n : σ * (1 - y) ≠ 0 := fun z => by
      have e4 : (2 : F) = 0 := by
        clear hx hs nr hc hv hD ic iv iD num ns e1 hy e3
        grobner
      exact two_ne e4
    have i := mul_inv n
    rw [← e3]
    clear hx hs nr hc hv hD ic iv iD num ns e1 hy e3 e2 n h1
    generalize inv (σ * (1 - y)) = a at *
    generalize σ * (1 - y) = b at *
    grobner
theorem some_point {u : F} (hu : u ≠ 0) : ∃ σ d p, Par σ d ∧ On d p ∧ U σ p = u := by
  have hD : u * u + ca * u + 1 ≠ 0 := fun z => no_root (2 * u + ca) (by
    generalize ca = A at *
    clear hu
    grobner)
  cases one_has (mul_ne hu hD) with
  | inl h =>
    obtain ⟨s, hs⟩ := h
    refine ⟨1, point (s := s) (by decide) ?_⟩
    rw [← hs]
    clear hs hD hu
    generalize u * (u * u + ca * u + 1) = w at *
    generalize ca = A at *
    grobner
  | inr h =>
    obtain ⟨s, hs⟩ := h
    refine ⟨-1, point (s := s) (by decide) ?_⟩
    rw [← hs]
    clear hs hD hu
    generalize u * (u * u + ca * u + 1) = w at *
    generalize ca = A at *
    grobner
/-- two even numbers, in either order -/
theorem mul_comm2 (u : F) {a b : Nat} (ha : a < 2 ^ 255) (hb : b < 2 ^ 255) (ea : a % 2 = 0) (eb : b % 2 = 0) : mulF a (mulF b u) = mulF b (mulF a u) := by
  by_cases hu : u = 0
  · rw [hu, mul_nought, mul_nought, mul_nought]
  · obtain ⟨σ, d, p, hp, h, e⟩ := some_point hu
    rw [← e, mul_even hp h hb eb, mul_even hp h ha ea, mul_even hp (on_nP hp.ns h b) ha ea, mul_even hp (on_nP hp.ns h a) hb eb, nP_comm hp.ns h]
end Crv
end Go.Proofs.Ytmbabkigjckaaaa
