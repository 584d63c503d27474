/-
  Of no statement by itself: five limbs of 51 bits modulo 2^255 - 19: numbers less than p; no program stands here.
  Conditions: none but each lemma's own.
-/
import Derived.Test.YtmbabkigjckaaaaCrvV
namespace Go.Proofs.Ytmbabkigjckaaaa
namespace Crv
/-! ### less than p -/
def rsB (l : List W64) (c : W64) : Nat → W64
  | 0 => c
  | i + 1 => (l.getD i 0 + rsB l c i) >>> 51
def leB (l : List W64) (c : W64) : Nat → List W64
  | 0 => l
  | i + 1 => (leB l c i).set i ((l.getD i 0 + rsB l c i) &&& 2251799813685247#64)
theorem leB_len (l : List W64) (c : W64) : ∀ i, (leB l c i).length = l.length
  | 0 => rfl
  | i + 1 => by rw [leB, List.length_set, leB_len l c i]
def lstB (n : N5) : N5 :=
  let c := 19#64 * rsB n.l 19#64 5
  ⟨(n.a0 + rsB n.l c 0) &&& 2251799813685247#64, (n.a1 + rsB n.l c 1) &&& 2251799813685247#64, (n.a2 + rsB n.l c 2) &&& 2251799813685247#64, (n.a3 + rsB n.l c 3) &&& 2251799813685247#64, (n.a4 + rsB n.l c 4) &&& 2251799813685247#64⟩
theorem leB_all (n : N5) : leB n.l (19#64 * rsB n.l 19#64 5) 5 = (lstB n).l := rfl
theorem rsB_is (l : List W64) (c : W64) (i : Nat) (h : (l.getD i 0).toNat < 2251799813947392) (hc : (rsB l c i).toNat < 2251799813947392) : (rsB l c (i + 1)).toNat = ((l.getD i 0).toNat + (rsB l c i).toNat) / 2251799813685248 := by
  rw [rsB, toNat_shr51, toNat_add (by omega)]
structure Nrm (n : N5) : Prop where
  a0 : n.a0.toNat < 2251799813685248
  a1 : n.a1.toNat < 2251799813685248
  a2 : n.a2.toNat < 2251799813685248
  a3 : n.a3.toNat < 2251799813685248
  a4 : n.a4.toNat < 2251799813685248
/-- five carries -/
theorem chain5 {n0 n1 n2 n3 n4 r0 r1 r2 r3 r4 r5 : Nat} (e1 : r1 = (n0 + r0) / 2251799813685248) (e2 : r2 = (n1 + r1) / 2251799813685248) (e3 : r3 = (n2 + r2) / 2251799813685248) (e4 : r4 = (n3 + r3) / 2251799813685248) (e5 : r5 = (n4 + r4) / 2251799813685248) :
    ∃ s, s < 57896044618658097711785492504343953926634992332820282019728792003956564819968 ∧
      s = (n0 + r0) % 2251799813685248 + 2251799813685248 * ((n1 + r1) % 2251799813685248 + 2251799813685248 * ((n2 + r2) % 2251799813685248 + 2251799813685248 * ((n3 + r3) % 2251799813685248 + 2251799813685248 * ((n4 + r4) % 2251799813685248)))) ∧
      n0 + 2251799813685248 * (n1 + 2251799813685248 * (n2 + 2251799813685248 * (n3 + 2251799813685248 * n4))) + r0 = s + 57896044618658097711785492504343953926634992332820282019728792003956564819968 * r5 := by
  have d0 := Nat.div_add_mod (n0 + r0) 2251799813685248
  have d1 := Nat.div_add_mod (n1 + r1) 2251799813685248
  have d2 := Nat.div_add_mod (n2 + r2) 2251799813685248
  have d3 := Nat.div_add_mod (n3 + r3) 2251799813685248
  have d4 := Nat.div_add_mod (n4 + r4) 2251799813685248
  have b0 := Nat.mod_lt (n0 + r0) (show 2251799813685248 > 0 by decide)
  have b1 := Nat.mod_lt (n1 + r1) (show 2251799813685248 > 0 by decide)
  have b2 := Nat.mod_lt (n2 + r2) (show 2251799813685248 > 0 by decide)
  have b3 := Nat.mod_lt (n3 + r3) (show 2251799813685248 > 0 by decide)
  have b4 := Nat.mod_lt (n4 + r4) (show 2251799813685248 > 0 by decide)
  rw [← e1] at d0
  rw [← e2] at d1
  rw [← e3] at d2
  rw [← e4] at d3
  rw [← e5] at d4
  clear e1 e2 e3 e4 e5
  refine ⟨_, ?_, rfl, ?_⟩
  · clear d0 d1 d2 d3 d4
    generalize (n0 + r0) % 2251799813685248 = s0 at *
    generalize (n1 + r1) % 2251799813685248 = s1 at *
    generalize (n2 + r2) % 2251799813685248 = s2 at *
    generalize (n3 + r3) % 2251799813685248 = s3 at *
    generalize (n4 + r4) % 2251799813685248 = s4 at *
    omega
  · clear b0 b1 b2 b3 b4
    generalize (n0 + r0) % 2251799813685248 = s0 at *
    generalize (n1 + r1) % 2251799813685248 = s1 at *
    generalize (n2 + r2) % 2251799813685248 = s2 at *
    generalize (n3 + r3) % 2251799813685248 = s3 at *
    generalize (n4 + r4) % 2251799813685248 = s4 at *
    omega
theorem least_nat {v o s S r : Nat} (hv : v < 115792089237316195423570985008687907853269984665640564039457584007913129639898)
    (hs : s < 57896044618658097711785492504343953926634992332820282019728792003956564819968) (h1 : v + 19 = s + 57896044618658097711785492504343953926634992332820282019728792003956564819968 * o)
    (hS : S < 57896044618658097711785492504343953926634992332820282019728792003956564819968) (h2 : v + 19 * o = S + 57896044618658097711785492504343953926634992332820282019728792003956564819968 * r) :
    S + o * 57896044618658097711785492504343953926634992332820282019728792003956564819949 = v ∧ S < 57896044618658097711785492504343953926634992332820282019728792003956564819949 := by
  have : o = 0 ∨ o = 1 := by omega
  rcases this with rfl | rfl
  · omega
  · omega
theorem rsB_lt {l : List W64} {c : W64} (h : ∀ i, (l.getD i 0).toNat < 2251799813947392) (hc : c.toNat < 2251799813947392) : ∀ i, (rsB l c i).toNat < 2251799813947392
  | 0 => hc
  | i + 1 => by
    have h1 := h i
    have h2 := rsB_lt h hc i
    rw [rsB_is l c i h1 h2]
    omega
theorem limbs_lt {n : N5} (h : Good5 n) : ∀ i, (n.l.getD i 0).toNat < 2251799813947392
  | 0 => h.a0
  | 1 => h.a1
  | 2 => h.a2
  | 3 => h.a3
  | 4 => h.a4
  | i + 5 => by
    show (0 : W64).toNat < _
    decide
theorem lstB_is {n : N5} (h : Good5 n) : Nrm (lstB n) ∧ val5 (lstB n) = (fv5 n).val := by
  have ll := limbs_lt h
  have hr : ∀ c : W64, c.toNat < 2251799813947392 → ∀ i, (rsB n.l c (i + 1)).toNat = ((n.l.getD i 0).toNat + (rsB n.l c i).toNat) / 2251799813685248 := fun c hc i => rsB_is n.l c i (ll i) (rsB_lt ll hc i)
  have hm : ∀ (c : W64) (x : W64) (i : Nat), c.toNat < 2251799813947392 → x.toNat < 2251799813947392 → ((x + rsB n.l c i) &&& 2251799813685247#64).toNat = (x.toNat + (rsB n.l c i).toNat) % 2251799813685248 := fun c x i hc hx => by
    have h2 := rsB_lt ll hc i
    rw [toNat_mask, toNat_add (by omega)]
  obtain ⟨p0, p1, p2, p3, p4⟩ := h
  have hb : (19#64 : W64).toNat < 2251799813947392 := by decide
  obtain ⟨s, hs, _, h1⟩ := chain5 (n0 := n.a0.toNat) (n1 := n.a1.toNat) (n2 := n.a2.toNat) (n3 := n.a3.toNat) (n4 := n.a4.toNat) (hr _ hb 0) (hr _ hb 1) (hr _ hb 2) (hr _ hb 3) (hr _ hb 4)
  have t0 : (rsB n.l 19#64 0).toNat = 19 := rfl
  rw [t0] at h1
  have hv : n.a0.toNat + 2251799813685248 * (n.a1.toNat + 2251799813685248 * (n.a2.toNat + 2251799813685248 * (n.a3.toNat + 2251799813685248 * n.a4.toNat))) < 115792089237316195423570985008687907853269984665640564039457584007913129639898 := by
    clear h1 hr hm ll
    omega
  have ho : (rsB n.l 19#64 (4 + 1)).toNat ≤ 1 := by
    clear hr hm ll
    omega
  have c := toNat_mul19 (y := rsB n.l 19#64 (4 + 1)) (by omega)
  have hC : (19#64 * rsB n.l 19#64 (4 + 1)).toNat < 2251799813947392 := by omega
  obtain ⟨S, hS, eS, h2⟩ := chain5 (n0 := n.a0.toNat) (n1 := n.a1.toNat) (n2 := n.a2.toNat) (n3 := n.a3.toNat) (n4 := n.a4.toNat) (hr _ hC 0) (hr _ hC 1) (hr _ hC 2) (hr _ hC 3) (hr _ hC 4)
  have t1 : (rsB n.l (19#64 * rsB n.l 19#64 (4 + 1)) 0).toNat = 19 * (rsB n.l 19#64 (4 + 1)).toNat := c
  have hh2 := h2
  rw [t1] at hh2
  obtain ⟨f1, f2⟩ := least_nat hv hs h1 hS hh2
  have m0 := hm (19#64 * rsB n.l 19#64 (4 + 1)) n.a0 0 hC p0
  have m1 := hm (19#64 * rsB n.l 19#64 (4 + 1)) n.a1 1 hC p1
  have m2 := hm (19#64 * rsB n.l 19#64 (4 + 1)) n.a2 2 hC p2
  have m3 := hm (19#64 * rsB n.l 19#64 (4 + 1)) n.a3 3 hC p3
  have m4 := hm (19#64 * rsB n.l 19#64 (4 + 1)) n.a4 4 hC p4
  refine ⟨⟨?_, ?_, ?_, ?_, ?_⟩, ?_⟩
  · exact m0 ▸ Nat.mod_lt _ (by decide)
  · exact m1 ▸ Nat.mod_lt _ (by decide)
  · exact m2 ▸ Nat.mod_lt _ (by decide)
  · exact m3 ▸ Nat.mod_lt _ (by decide)
  · exact m4 ▸ Nat.mod_lt _ (by decide)
  · have ev : val5 (lstB n) = S := by
      rw [eS]
      unfold val5
      show ((n.a0 + rsB n.l (19#64 * rsB n.l 19#64 (4 + 1)) 0) &&& 2251799813685247#64).toNat + 2251799813685248 * (((n.a1 + rsB n.l (19#64 * rsB n.l 19#64 (4 + 1)) 1) &&& 2251799813685247#64).toNat + 2251799813685248 * (((n.a2 + rsB n.l (19#64 * rsB n.l 19#64 (4 + 1)) 2) &&& 2251799813685247#64).toNat + 2251799813685248 * (((n.a3 + rsB n.l (19#64 * rsB n.l 19#64 (4 + 1)) 3) &&& 2251799813685247#64).toNat + 2251799813685248 * ((n.a4 + rsB n.l (19#64 * rsB n.l 19#64 (4 + 1)) 4) &&& 2251799813685247#64).toNat))) = _
      rw [m0, m1, m2, m3, m4]
    have hf : fv5 n = fn S := by
      unfold fv5 val5
      exact (fn_off (q := (rsB n.l 19#64 (4 + 1)).toNat) f1).symm
    rw [ev, hf, fn_lt f2]
end Crv
end Go.Proofs.Ytmbabkigjckaaaa
