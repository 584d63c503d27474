/-
  Of no statement by itself: the points of x^2 + y^2 = 1 + d x^2 y^2, where d has no root, are a commuting group; no program stands here.
  Conditions: none but each lemma's own.
-/
import Derived.Test.YtmbabkigjckaaaaCrvC
namespace Go.Proofs.Ytmbabkigjckaaaa
namespace Crv
def NS (d : F) : Prop := ∀ t, t * t ≠ d
def On (d : F) (p : F × F) : Prop := p.1 * p.1 + p.2 * p.2 = 1 + d * p.1 * p.1 * p.2 * p.2
def kk (d : F) (p q : F × F) : F := d * p.1 * q.1 * p.2 * q.2
theorem den {d : F} {p q : F × F} (ns : NS d) (hp : On d p) (hq : On d q) {ε : F} (hε : ε * ε = 1) : kk d p q ≠ ε := by
  obtain ⟨x1, y1⟩ := p
  obtain ⟨x2, y2⟩ := q
  unfold kk On at *
  simp only at *
  intro h
  have e1 : (x1 + ε * y1) * (x1 + ε * y1) = d * (x1 * y1) * (x1 * y1) * ((x2 + y2) * (x2 + y2)) := by grobner
  have e2 : (x1 - ε * y1) * (x1 - ε * y1) = d * (x1 * y1) * (x1 * y1) * ((x2 - y2) * (x2 - y2)) := by grobner
  have one : (1 : F) ≠ 0 := by decide
  have n0 : x1 * y1 ≠ 0 := fun z => one (by grobner)
  have step : ∀ a b : F, a * a = d * (x1 * y1) * (x1 * y1) * (b * b) → b = 0 := fun a b e => by
    refine Classical.byContradiction fun hb => ?_
    have i := mul_inv (mul_ne n0 hb)
    exact ns (a * inv (x1 * y1 * b)) (by grobner)
  have z1 := step _ _ e1
  have z2 := step _ _ e2
  have z3 : (2 : F) * x2 = 0 := by grobner
  have z4 : x2 = 0 := (mul_zero z3).elim (fun h => absurd h two_ne) id
  exact one (by grobner)
theorem den_p {d : F} {p q : F × F} (ns : NS d) (hp : On d p) (hq : On d q) : 1 + kk d p q ≠ 0 := fun h =>
  den ns hp hq (ε := -1) (by decide) (by grobner)
theorem den_m {d : F} {p q : F × F} (ns : NS d) (hp : On d p) (hq : On d q) : 1 - kk d p q ≠ 0 := fun h =>
  den ns hp hq (ε := 1) (by decide) (by grobner)
def add (d : F) (p q : F × F) : F × F := ((p.1 * q.2 + q.1 * p.2) * inv (1 + kk d p q), (p.2 * q.2 - p.1 * q.1) * inv (1 - kk d p q))
theorem add_x {d : F} {p q : F × F} (ns : NS d) (hp : On d p) (hq : On d q) : (add d p q).1 * (1 + kk d p q) = p.1 * q.2 + q.1 * p.2 := by
  have := mul_inv (den_p ns hp hq)
  show (p.1 * q.2 + q.1 * p.2) * inv (1 + kk d p q) * (1 + kk d p q) = _
  generalize inv (1 + kk d p q) = i at *
  generalize kk d p q = k at *
  grobner
theorem add_y {d : F} {p q : F × F} (ns : NS d) (hp : On d p) (hq : On d q) : (add d p q).2 * (1 - kk d p q) = p.2 * q.2 - p.1 * q.1 := by
  have := mul_inv (den_m ns hp hq)
  show (p.2 * q.2 - p.1 * q.1) * inv (1 - kk d p q) * (1 - kk d p q) = _
  generalize inv (1 - kk d p q) = i at *
  generalize kk d p q = k at *
  grobner
theorem of_two {a b c0 c1 z0 z1 : F} (h : a - b = c0 * z0 + c1 * z1) (h0 : z0 = 0) (h1 : z1 = 0) : a = b := by grobner
theorem of_two' {a c0 c1 z0 z1 : F} (h : a = c0 * z0 + c1 * z1) (h0 : z0 = 0) (h1 : z1 = 0) : a = 0 := by grobner
theorem of_three {a b c0 c1 c2 z0 z1 z2 : F} (h : a - b = c0 * z0 + c1 * z1 + c2 * z2) (h0 : z0 = 0) (h1 : z1 = 0) (h2 : z2 = 0) : a = b := by grobner
theorem curve0 {d x y : F} (h : x * x + y * y = 1 + d * x * x * y * y) : -d*x*x*y*y + x*x + y*y - 1 = 0 := by grobner
theorem fin_on {d k a b x y : F} (hx : x * (1 + k) = a) (hy : y * (1 - k) = b)
    (c : a * a * ((1 - k) * (1 - k)) + b * b * ((1 + k) * (1 + k)) - (1 - k) * (1 - k) * ((1 + k) * (1 + k)) - d * (a * a) * (b * b) = 0) :
    (1 + k) * (1 - k) * ((1 + k) * (1 - k)) * (x * x + y * y) = (1 + k) * (1 - k) * ((1 + k) * (1 - k)) * (1 + d * x * x * y * y) := by
  subst hx
  subst hy
  grobner
theorem add_on {d : F} {p q : F × F} (ns : NS d) (hp : On d p) (hq : On d q) : On d (add d p q) := by
  have hx := add_x ns hp hq
  have hy := add_y ns hp hq
  have nn := mul_ne (den_p ns hp hq) (den_m ns hp hq)
  exact cancel (mul_ne nn nn) (fin_on hx hy (of_two' (cert_on d p.1 p.2 q.1 q.2) (curve0 hp) (curve0 hq)))
theorem leg_d {d k a b x y u v : F} (h1 : x * (1 + k) = a) (h2 : y * (1 - k) = b) : (1 - k) * (1 + k) + d * a * u * b * v = (1 - k) * (1 + k) * (1 + d * x * u * y * v) := by
  subst h1
  subst h2
  grobner
theorem leg_lx {d k a b x y u v l : F} (h1 : x * (1 + k) = a) (h2 : y * (1 - k) = b) (hl : l * (1 + d * x * u * y * v) = x * v + u * y) : l * ((1 - k) * (1 + k) + d * a * u * b * v) = a * (1 - k) * v + u * b * (1 + k) := by
  rw [leg_d h1 h2]
  subst h1
  subst h2
  generalize 1 + d * x * u * y * v = z at *
  grobner
theorem leg_ly {d k a b x y u v l : F} (h1 : x * (1 + k) = a) (h2 : y * (1 - k) = b) (hl : l * (1 - d * x * u * y * v) = y * v - x * u) : l * ((1 - k) * (1 + k) - d * a * u * b * v) = b * (1 + k) * v - a * u * (1 - k) := by
  have e : (1 - k) * (1 + k) - d * a * u * b * v = (1 - k) * (1 + k) * (1 - d * x * u * y * v) := by
    subst h1
    subst h2
    grobner
  rw [e]
  subst h1
  subst h2
  generalize 1 - d * x * u * y * v = z at *
  grobner
theorem leg_rx {d k a b x y u v l : F} (h1 : x * (1 + k) = a) (h2 : y * (1 - k) = b) (hl : l * (1 + d * u * x * v * y) = u * y + x * v) : l * ((1 - k) * (1 + k) + d * u * a * v * b) = u * b * (1 + k) + a * v * (1 - k) := by
  have e := leg_lx h1 h2 (l := l) (d := d) (u := u) (v := v) (by clear h1 h2; grobner)
  clear h1 h2 hl
  grobner
theorem leg_ry {d k a b x y u v l : F} (h1 : x * (1 + k) = a) (h2 : y * (1 - k) = b) (hl : l * (1 - d * u * x * v * y) = v * y - u * x) : l * ((1 - k) * (1 + k) - d * u * a * v * b) = v * b * (1 + k) - u * a * (1 - k) := by
  have e := leg_ly h1 h2 (l := l) (d := d) (u := u) (v := v) (by clear h1 h2; grobner)
  clear h1 h2 hl
  grobner
theorem leg_n {d k a b x y u v : F} (h1 : x * (1 + k) = a) (h2 : y * (1 - k) = b) (n1 : 1 + k ≠ 0) (n2 : 1 - k ≠ 0) (n3 : 1 + d * x * u * y * v ≠ 0) : (1 - k) * (1 + k) + d * a * u * b * v ≠ 0 := by
  rw [leg_d h1 h2]
  exact mul_ne (mul_ne n2 n1) n3
theorem leg_m {d k a b x y u v : F} (h1 : x * (1 + k) = a) (h2 : y * (1 - k) = b) (n1 : 1 + k ≠ 0) (n2 : 1 - k ≠ 0) (n3 : 1 - d * x * u * y * v ≠ 0) : (1 - k) * (1 + k) - d * a * u * b * v ≠ 0 := by
  have e : (1 - k) * (1 + k) - d * a * u * b * v = (1 - k) * (1 + k) * (1 - d * x * u * y * v) := by
    subst h1
    subst h2
    clear n1 n2 n3
    grobner
  rw [e]
  exact mul_ne (mul_ne n2 n1) n3
theorem leg_n' {d k a b x y u v : F} (h1 : x * (1 + k) = a) (h2 : y * (1 - k) = b) (n1 : 1 + k ≠ 0) (n2 : 1 - k ≠ 0) (n3 : 1 + d * u * x * v * y ≠ 0) : (1 - k) * (1 + k) + d * u * a * v * b ≠ 0 := by
  have e : ∀ x y : F, d * u * x * v * y = d * x * u * y * v := fun x y => by clear h1 h2 n1 n2 n3; grobner
  rw [e]
  exact leg_n h1 h2 n1 n2 (by rw [← e]; exact n3)
theorem leg_m' {d k a b x y u v : F} (h1 : x * (1 + k) = a) (h2 : y * (1 - k) = b) (n1 : 1 + k ≠ 0) (n2 : 1 - k ≠ 0) (n3 : 1 - d * u * x * v * y ≠ 0) : (1 - k) * (1 + k) - d * u * a * v * b ≠ 0 := by
  have e : ∀ x y : F, d * u * x * v * y = d * x * u * y * v := fun x y => by clear h1 h2 n1 n2 n3; grobner
  rw [e]
  exact leg_m h1 h2 n1 n2 (by rw [← e]; exact n3)
theorem cross {l r a b c e : F} (h1 : l * b = a) (h2 : r * e = c) (h : a * e = c * b) (n1 : b ≠ 0) (n2 : e ≠ 0) : l = r := by
  refine cancel (mul_ne n1 n2) ?_
  subst h1
  subst h2
  grobner
theorem assoc {d : F} {p q r : F × F} (ns : NS d) (hp : On d p) (hq : On d q) (hr : On d r) : add d (add d p q) r = add d p (add d q r) := by
  have h12 := add_on ns hp hq
  have h23 := add_on ns hq hr
  have a1 := add_x ns hp hq
  have a2 := add_y ns hp hq
  have b1 := add_x ns hq hr
  have b2 := add_y ns hq hr
  have l1 := add_x ns h12 hr
  have l2 := add_y ns h12 hr
  have r1 := add_x ns hp h23
  have r2 := add_y ns hp h23
  have np := den_p ns hp hq
  have nm := den_m ns hp hq
  have mp := den_p ns hq hr
  have mm := den_m ns hq hr
  have lp := den_p ns h12 hr
  have lm := den_m ns h12 hr
  have rp := den_p ns hp h23
  have rm := den_m ns hp h23
  have cx := of_three (cert_x d p.1 p.2 q.1 q.2 r.1 r.2) (curve0 hp) (curve0 hq) (curve0 hr)
  have cy := of_three (cert_y d p.1 p.2 q.1 q.2 r.1 r.2) (curve0 hp) (curve0 hq) (curve0 hr)
  generalize add d (add d p q) r = l at *
  generalize add d p (add d q r) = t at *
  generalize add d p q = s at *
  generalize add d q r = w at *
  obtain ⟨x1, y1⟩ := p
  obtain ⟨x2, y2⟩ := q
  obtain ⟨x3, y3⟩ := r
  obtain ⟨x12, y12⟩ := s
  obtain ⟨x23, y23⟩ := w
  obtain ⟨lx, ly⟩ := l
  obtain ⟨tx, ty⟩ := t
  unfold kk On at *
  simp only at *
  clear hp hq hr h12 h23
  generalize d * x1 * x2 * y1 * y2 = k at *
  generalize d * x2 * x3 * y2 * y3 = m at *
  generalize x1 * y2 + x2 * y1 = nx at *
  generalize y1 * y2 - x1 * x2 = ny at *
  generalize x2 * y3 + x3 * y2 = mx at *
  generalize y2 * y3 - x2 * x3 = my at *
  have ex : lx = tx := cross (leg_lx a1 a2 l1) (leg_rx b1 b2 r1) cx (leg_n a1 a2 np nm lp) (leg_n' b1 b2 mp mm rp)
  have ey : ly = ty := cross (leg_ly a1 a2 l2) (leg_ry b1 b2 r2) cy (leg_m a1 a2 np nm lm) (leg_m' b1 b2 mp mm rm)
  rw [ex, ey]
theorem add_comm (d : F) (p q : F × F) : add d p q = add d q p := by
  have e : kk d p q = kk d q p := by unfold kk; grobner
  unfold add
  rw [e]
  apply Prod.ext
  · show (p.1 * q.2 + q.1 * p.2) * _ = (q.1 * p.2 + p.1 * q.2) * _
    congr 1
    grobner
  · show (p.2 * q.2 - p.1 * q.1) * _ = (q.2 * p.2 - q.1 * p.1) * _
    congr 1
    grobner
def O : F × F := (0, 1)
theorem on_O (d : F) : On d O := by
  show (0 : F) * 0 + 1 * 1 = 1 + d * 0 * 0 * 1 * 1
  grobner
theorem inv_one : inv 1 = 1 := by
  have := mul_inv (x := 1) (by decide)
  grobner
theorem O_add (d : F) (p : F × F) : add d O p = p := by
  have e : kk d O p = 0 := by show d * 0 * p.1 * 1 * p.2 = 0; grobner
  unfold add
  rw [e]
  have e1 : (1 + 0 : F) = 1 := by decide
  have e2 : (1 - 0 : F) = 1 := by decide
  rw [e1, e2, inv_one]
  apply Prod.ext
  · show (0 * p.2 + p.1 * 1) * 1 = p.1
    grobner
  · show (1 * p.2 - 0 * p.1) * 1 = p.2
    grobner
def neg (p : F × F) : F × F := (-p.1, p.2)
theorem on_neg {d : F} {p : F × F} (h : On d p) : On d (neg p) := by
  show -p.1 * -p.1 + p.2 * p.2 = 1 + d * -p.1 * -p.1 * p.2 * p.2
  unfold On at h
  grobner
theorem add_neg {d : F} {p : F × F} (ns : NS d) (h : On d p) : add d p (neg p) = O := by
  have x := add_x ns h (on_neg h)
  have y := add_y ns h (on_neg h)
  have n1 := den_p ns h (on_neg h)
  have n2 := den_m ns h (on_neg h)
  generalize add d p (neg p) = r at *
  obtain ⟨rx, ry⟩ := r
  obtain ⟨px, py⟩ := p
  unfold neg kk On at *
  simp only at *
  have ex : rx = 0 := by
    refine cancel n1 ?_
    generalize 1 + d * px * -px * py * py = z at *
    grobner
  have ey : ry = 1 := by
    refine cancel n2 ?_
    have : 1 - d * px * -px * py * py = py * py - px * -px := by clear x y n1 n2 ex; grobner
    rw [← this] at y
    generalize 1 - d * px * -px * py * py = z at *
    clear x n1 n2 this ex h
    grobner
  rw [ex, ey]; rfl
/-- p so many times -/
def nP (d : F) (p : F × F) : Nat → F × F
  | 0 => O
  | n + 1 => add d (nP d p n) p
theorem on_nP {d : F} {p : F × F} (ns : NS d) (h : On d p) : ∀ n, On d (nP d p n)
  | 0 => on_O d
  | n + 1 => add_on ns (on_nP ns h n) h
theorem nP_add {d : F} {p : F × F} (ns : NS d) (h : On d p) (m : Nat) : ∀ n, nP d p (m + n) = add d (nP d p m) (nP d p n)
  | 0 => by
    show nP d p m = add d (nP d p m) O
    rw [add_comm, O_add]
  | n + 1 => by
    show add d (nP d p (m + n)) p = add d (nP d p m) (add d (nP d p n) p)
    rw [nP_add ns h m n, assoc ns (on_nP ns h m) (on_nP ns h n) h]
theorem nP_mul {d : F} {p : F × F} (ns : NS d) (h : On d p) (m : Nat) : ∀ n, nP d (nP d p m) n = nP d p (m * n)
  | 0 => rfl
  | n + 1 => by
    show add d (nP d (nP d p m) n) (nP d p m) = nP d p (m * n + m)
    rw [nP_mul ns h m n, nP_add ns h]
theorem nP_comm {d : F} {p : F × F} (ns : NS d) (h : On d p) (m n : Nat) : nP d (nP d p m) n = nP d (nP d p n) m := by
  rw [nP_mul ns h, nP_mul ns h, Nat.mul_comm]
end Crv
end Go.Proofs.Ytmbabkigjckaaaa
