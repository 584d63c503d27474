/-
  Of no statement by itself: the ladder of X25519 over the numbers modulo 2^255 - 19, and that to multiply by one even number and then by another one is the same in either order; no program stands here.
  Conditions: none but each lemma's own.
-/
import Derived.Test.YtmbabkigjckaaaaCrvD
namespace Go.Proofs.Ytmbabkigjckaaaa
namespace Crv
structure L4 where
  x2 : F
  z2 : F
  x3 : F
  z3 : F
/-- one step, as the document tells it, between the exchanges -/
def core (x1 : F) (s : L4) : L4 :=
  let a := s.x2 + s.z2
  let b := s.x2 - s.z2
  let c := s.x3 + s.z3
  let d := s.x3 - s.z3
  let da := d * a
  let cb := c * b
  let aa := a * a
  let bb := b * b
  let e := aa - bb
  ⟨aa * bb, e * (aa + 121665 * e), (da + cb) * (da + cb), x1 * ((da - cb) * (da - cb))⟩
def swap (b : Bool) (s : L4) : L4 := if b then ⟨s.x3, s.z3, s.x2, s.z2⟩ else s
def lad (x1 : F) (k : Nat) : Nat → L4 → L4
  | 0, s => s
  | n + 1, s => lad x1 k n (swap (k.testBit n) (core x1 (swap (k.testBit n) s)))
def mulF (k : Nat) (u : F) : F := (lad u k 255 ⟨1, 0, u, 1⟩).x2 * inv (lad u k 255 ⟨1, 0, u, 1⟩).z2
/-- the pair stands for the point of this second coordinate -/
def Rep (σ y X Z : F) : Prop := ∃ l, l ≠ 0 ∧ X = l * (1 + y) ∧ Z = l * (σ * (1 - y))
structure Par (σ d : F) : Prop where
  one : σ * σ = 1
  num : d * (σ * ca + 2) = σ * ca - 2
  ns : NS d
theorem rep_of {σ y X Z : F} (h1 : σ * σ = 1) (h : σ * (1 + y) * Z = (1 - y) * X) (n : X = 0 → Z = 0 → False) : Rep σ y X Z := by
  have h2 := mul_inv two_ne
  refine ⟨(X + σ * Z) * inv 2, fun z => ?_, ?_, ?_⟩
  · have z1 : X + σ * Z = 0 := by
      refine (mul_zero z).elim id fun e => ?_
      rw [e] at h2
      have one : (1 : F) ≠ 0 := by decide
      exact absurd (by grobner) one
    have e : (2 : F) * X = 0 := by
      clear z h2 n
      grobner
    have e1 : X = 0 := (mul_zero e).elim (fun h => absurd h two_ne) id
    refine n e1 ?_
    clear z h2 n
    grobner
  · clear n
    generalize inv 2 = i at *
    grobner
  · clear n
    generalize inv 2 = i at *
    grobner
theorem dbl_id {d : F} {p : F × F} (ns : NS d) (hp : On d p) : (1 + (add d p p).2) * ((1 - p.2 * p.2) * (1 - d * p.2 * p.2)) = (1 - (add d p p).2) * (p.2 * p.2 * (1 - d)) := by
  have hy := add_y ns hp hp
  have n := den_m ns hp hp
  generalize add d p p = r at *
  obtain ⟨rx, y2⟩ := r
  obtain ⟨x, y⟩ := p
  unfold kk On at *
  simp only at *
  have e : 1 - d * x * x * y * y = 2 - x * x - y * y := by clear hy n; grobner
  rw [e] at hy n
  refine cancel n ?_
  have e1 : (2 - x * x - y * y) * (1 + y2) = 2 - 2 * (x * x) := by clear n e; grobner
  have e2 : (2 - x * x - y * y) * (1 - y2) = 2 - 2 * (y * y) := by clear n e e1; grobner
  have e3 : (2 - x * x - y * y) * ((1 + y2) * ((1 - y * y) * (1 - d * y * y))) = (2 - 2 * (x * x)) * ((1 - y * y) * (1 - d * y * y)) := by rw [← e1]; clear n e e1 e2 hy hp; grobner
  have e4 : (2 - x * x - y * y) * ((1 - y2) * (y * y * (1 - d))) = (2 - 2 * (y * y)) * (y * y * (1 - d)) := by rw [← e2]; clear n e e1 e2 e3 hy hp; grobner
  rw [e3, e4]
  clear e3 e4 e1 e2 n e hy
  grobner
theorem diff_id {d : F} {p q : F × F} (ns : NS d) (hp : On d p) (hq : On d q) :
    (1 + (add d p q).2) * (1 + (add d p (neg q)).2) * ((p.2 - q.2) * (p.2 - q.2)) = (1 - (add d p q).2) * (1 - (add d p (neg q)).2) * ((p.2 + q.2) * (p.2 + q.2)) := by
  have a := add_y ns hp hq
  have b := add_y ns hp (on_neg hq)
  have n1 := den_m ns hp hq
  have n2 := den_m ns hp (on_neg hq)
  have c := of_two (cert_diff d p.1 p.2 q.1 q.2) (curve0 hp) (curve0 hq)
  generalize add d p q = r at *
  generalize add d p (neg q) = t at *
  obtain ⟨rx, ry⟩ := r
  obtain ⟨tx, ty⟩ := t
  obtain ⟨x1, y1⟩ := p
  obtain ⟨x2, y2⟩ := q
  unfold neg kk On at *
  simp only at *
  clear hp hq
  have e : 1 - d * x1 * -x2 * y1 * y2 = 1 + d * x1 * x2 * y1 * y2 := by clear a b n1 n2 c; grobner
  rw [e] at b n2
  generalize d * x1 * x2 * y1 * y2 = k at *
  have e1 : (1 - k) * (1 + ry) = 1 - k + y1 * y2 - x1 * x2 := by clear b n1 n2 c e; grobner
  have e2 : (1 - k) * (1 - ry) = 1 - k - y1 * y2 + x1 * x2 := by clear b n1 n2 c e e1; grobner
  have e3 : (1 + k) * (1 + ty) = 1 + k + y1 * y2 + x1 * x2 := by clear a n1 n2 c e e1 e2; grobner
  have e4 : (1 + k) * (1 - ty) = 1 + k - y1 * y2 - x1 * x2 := by clear a n1 n2 c e e1 e2 e3; grobner
  rw [← e1, ← e2, ← e3, ← e4] at c
  refine cancel (mul_ne n1 n2) ?_
  clear e1 e2 e3 e4 a b e n1 n2
  generalize 1 + ry = r1 at *
  generalize 1 - ry = r2 at *
  generalize 1 + ty = t1 at *
  generalize 1 - ty = t2 at *
  generalize 1 + k = k1 at *
  generalize 1 - k = k2 at *
  generalize y1 - y2 = f at *
  generalize y1 + y2 = g at *
  grobner
theorem neg_sym (d : F) (p q : F × F) : (add d p (neg q)).2 = (add d q (neg p)).2 := by
  show (p.2 * q.2 - p.1 * -q.1) * inv (1 - d * p.1 * -q.1 * p.2 * q.2) = (q.2 * p.2 - q.1 * -p.1) * inv (1 - d * q.1 * -p.1 * q.2 * p.2)
  have e1 : p.2 * q.2 - p.1 * -q.1 = q.2 * p.2 - q.1 * -p.1 := by grobner
  have e2 : 1 - d * p.1 * -q.1 * p.2 * q.2 = 1 - d * q.1 * -p.1 * q.2 * p.2 := by grobner
  rw [e1, e2]
theorem Par.d_ne {σ d : F} (h : Par σ d) : 1 - d ≠ 0 := fun z => h.ns 1 (by grobner)
theorem rep_dbl {σ d : F} (hp : Par σ d) {p : F × F} (h : On d p) {s : L4} (r : Rep σ p.2 s.x2 s.z2) (x1 : F) : Rep σ (add d p p).2 (core x1 s).x2 (core x1 s).z2 := by
  obtain ⟨l, l0, ex, ez⟩ := r
  have id := dbl_id hp.ns h
  have nd := hp.d_ne
  have h1 := hp.one
  have h2 := hp.num
  show Rep σ (add d p p).2 ((s.x2 + s.z2) * (s.x2 + s.z2) * ((s.x2 - s.z2) * (s.x2 - s.z2))) (((s.x2 + s.z2) * (s.x2 + s.z2) - (s.x2 - s.z2) * (s.x2 - s.z2)) * ((s.x2 + s.z2) * (s.x2 + s.z2) + 121665 * ((s.x2 + s.z2) * (s.x2 + s.z2) - (s.x2 - s.z2) * (s.x2 - s.z2))))
  rw [ex, ez]
  generalize p.2 = y at *
  generalize (add d p p).2 = y2 at *
  clear ex ez h hp
  have fx : (l * (1 + y) + l * (σ * (1 - y))) * (l * (1 + y) + l * (σ * (1 - y))) * ((l * (1 + y) - l * (σ * (1 - y))) * (l * (1 + y) - l * (σ * (1 - y)))) = 16 * (l * l * (l * l)) * (y * y) := by
    have e : (l * (1 + y) + l * (σ * (1 - y))) * (l * (1 + y) - l * (σ * (1 - y))) = l * l * (4 * y) := by clear id h2 nd l0; grobner
    clear id h1 h2 nd l0
    generalize l * (1 + y) + l * (σ * (1 - y)) = a at *
    generalize l * (1 + y) - l * (σ * (1 - y)) = b at *
    grobner
  have ge : (l * (1 + y) + l * (σ * (1 - y))) * (l * (1 + y) + l * (σ * (1 - y))) - (l * (1 + y) - l * (σ * (1 - y))) * (l * (1 + y) - l * (σ * (1 - y))) = 4 * (l * l) * (σ * (1 - y * y)) := by clear id h1 h2 nd l0 fx; grobner
  have ga : (l * (1 + y) + l * (σ * (1 - y))) * (l * (1 + y) + l * (σ * (1 - y))) = l * l * (2 + 2 * (y * y) + 2 * (σ * (1 - y * y))) := by clear id h2 nd l0 fx ge; grobner
  rw [fx, ge, ga]
  have ca4 : (121665 : F) * 4 = ca - 2 := by decide +kernel
  have gz : (1 - d) * (4 * (l * l) * (σ * (1 - y * y)) * (l * l * (2 + 2 * (y * y) + 2 * (σ * (1 - y * y))) + 121665 * (4 * (l * l) * (σ * (1 - y * y))))) = 16 * (l * l * (l * l)) * (σ * ((1 - y * y) * (1 - d * y * y))) := by
    have e1 : l * l * (2 + 2 * (y * y) + 2 * (σ * (1 - y * y))) + 121665 * (4 * (l * l) * (σ * (1 - y * y))) = l * l * (2 + 2 * (y * y) + σ * ca * (1 - y * y)) := by
      clear id h1 h2 nd l0 fx ge ga
      generalize ca = A at *
      grobner
    have e2 : (1 - d) * (2 + 2 * (y * y) + σ * ca * (1 - y * y)) = 4 * (1 - d * y * y) := by
      clear id h1 nd l0 fx ge ga e1 ca4
      generalize ca = A at *
      grobner
    rw [e1]
    clear id h1 h2 nd l0 fx ge ga e1 ca4
    generalize 2 + 2 * (y * y) + σ * ca * (1 - y * y) = w at *
    grobner
  generalize 4 * (l * l) * (σ * (1 - y * y)) * (l * l * (2 + 2 * (y * y) + 2 * (σ * (1 - y * y))) + 121665 * (4 * (l * l) * (σ * (1 - y * y)))) = Z at *
  have n16 : 16 * (l * l * (l * l)) ≠ 0 := mul_ne (by decide) (mul_ne (mul_ne l0 l0) (mul_ne l0 l0))
  clear fx ge ga ca4 h2 l0
  generalize 16 * (l * l * (l * l)) = K at *
  refine rep_of h1 (cancel nd ?_) fun z1 z2 => ?_
  · have e : (1 - d) * (σ * (1 + y2) * Z) = σ * (1 + y2) * ((1 - d) * Z) := by clear id h1 gz nd n16; grobner
    rw [e, gz]
    clear e gz nd n16
    generalize (1 - y * y) * (1 - d * y * y) = w at *
    grobner
  · have y0 : y = 0 := (mul_zero z1).elim (fun h => absurd h n16) sq_zero
    have s0 : σ ≠ 0 := fun e => by
      rw [e] at h1
      have : (0 : F) * 0 ≠ 1 := by decide
      exact this h1
    refine mul_ne n16 s0 ?_
    rw [y0, z2] at gz
    clear id h1 nd n16 z1 z2 y0 s0
    grobner
theorem rep_add {σ d u : F} (hp : Par σ d) {p q : F × F} (h : On d p) (h' : On d q) {s : L4} (r : Rep σ p.2 s.x2 s.z2) (r' : Rep σ q.2 s.x3 s.z3)
    (hu : u ≠ 0) (hd : u * (σ * (1 - (add d p (neg q)).2)) = 1 + (add d p (neg q)).2) : Rep σ (add d p q).2 (core u s).x3 (core u s).z3 := by
  obtain ⟨l, l0, ex, ez⟩ := r
  obtain ⟨m, m0, fx, fz⟩ := r'
  have id := diff_id hp.ns h h'
  have ty := add_y hp.ns h (on_neg h')
  have h1 := hp.one
  show Rep σ (add d p q).2 (((s.x3 - s.z3) * (s.x2 + s.z2) + (s.x3 + s.z3) * (s.x2 - s.z2)) * ((s.x3 - s.z3) * (s.x2 + s.z2) + (s.x3 + s.z3) * (s.x2 - s.z2)))
    (u * (((s.x3 - s.z3) * (s.x2 + s.z2) - (s.x3 + s.z3) * (s.x2 - s.z2)) * ((s.x3 - s.z3) * (s.x2 + s.z2) - (s.x3 + s.z3) * (s.x2 - s.z2))))
  rw [ex, ez, fx, fz]
  generalize (add d p q).2 = ry at *
  generalize add d p (neg q) = t at *
  obtain ⟨tx, t⟩ := t
  obtain ⟨x1, y1⟩ := p
  obtain ⟨x2, y2⟩ := q
  unfold neg kk On at *
  simp only at *
  clear ex ez fx fz hp
  have one : (1 : F) ≠ 0 := by decide
  have ga : (m * (1 + y2) - m * (σ * (1 - y2))) * (l * (1 + y1) + l * (σ * (1 - y1))) + (m * (1 + y2) + m * (σ * (1 - y2))) * (l * (1 + y1) - l * (σ * (1 - y1))) = 4 * (l * m) * (y1 + y2) := by
    clear id ty h h' hu hd l0 m0 one
    grobner
  have gb : (m * (1 + y2) - m * (σ * (1 - y2))) * (l * (1 + y1) + l * (σ * (1 - y1))) - (m * (1 + y2) + m * (σ * (1 - y2))) * (l * (1 + y1) - l * (σ * (1 - y1))) = 4 * (l * m) * (σ * (y2 - y1)) := by
    clear id ty h h' hu hd l0 m0 one ga h1
    grobner
  rw [ga, gb]
  have n4 : 4 * (l * m) ≠ 0 := mul_ne (by decide) (mul_ne l0 m0)
  clear ga gb l0 m0
  generalize 4 * (l * m) = K at *
  have t1 : 1 - t ≠ 0 := fun z => by
    have e : (2 : F) = 0 := by
      rw [z] at hd
      clear id ty h h' hu h1 one n4
      grobner
    exact two_ne e
  refine rep_of h1 (cancel t1 ?_) fun z1 z2 => ?_
  · have e : (1 - t) * (σ * (1 + ry) * (u * (K * (σ * (y2 - y1)) * (K * (σ * (y2 - y1)))))) = K * K * (σ * σ) * ((1 + ry) * (u * (σ * (1 - t))) * ((y1 - y2) * (y1 - y2))) := by
      clear id ty h h' hu hd h1 one n4 t1
      grobner
    rw [e, hd, id, h1]
    clear id ty h h' hu hd h1 one n4 t1 e
    grobner
  · have a1 : y1 + y2 = 0 := (mul_zero (sq_zero z1)).elim (fun h => absurd h n4) (fun h => h)
    have a2 : σ * (y2 - y1) = 0 := (mul_zero ((mul_zero z2).elim (fun h => absurd h hu) sq_zero)).elim (fun h => absurd h n4) (fun h => h)
    have a3 : y2 - y1 = 0 := by clear id ty h h' hu hd one n4 t1 z1 z2 a1; grobner
    have a4 : (2 : F) * y1 = 0 := by clear id ty h h' hu hd one n4 t1 z1 z2 a2 h1; grobner
    have a5 : y1 = 0 := (mul_zero a4).elim (fun h => absurd h two_ne) (fun h => h)
    have a6 : y2 = 0 := by rw [a5] at a1; clear id ty h h' hu hd one n4 t1 z1 z2 a2 h1 a3 a4 a5; grobner
    rw [a5] at h ty
    rw [a6] at h' ty
    have b1 : x1 * x1 = 1 := by clear id ty h' hu hd one n4 t1 z1 z2 a1 a2 h1 a3 a4 a5 a6; grobner
    have b2 : x2 * x2 = 1 := by clear id ty h hu hd one n4 t1 z1 z2 a1 a2 h1 a3 a4 a5 a6 b1; grobner
    have b3 : t = x1 * x2 := by clear id h h' hu hd one n4 t1 z1 z2 a1 a2 h1 a3 a4 a5 a6 b1 b2; grobner
    have b4 : (1 - t) * (1 + t) = 0 := by clear id h h' hu hd one n4 t1 z1 z2 a1 a2 h1 a3 a4 a5 a6 ty; grobner
    have b5 : 1 + t = 0 := (mul_zero b4).elim (fun h => absurd h t1) (fun h => h)
    have s0 : σ ≠ 0 := fun e => by
      rw [e] at h1
      have : (0 : F) * 0 ≠ 1 := by decide
      exact this h1
    rw [b5] at hd
    exact mul_ne hu (mul_ne s0 t1) hd
end Crv
end Go.Proofs.Ytmbabkigjckaaaa
