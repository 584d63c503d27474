/-
  Of no statement by itself: what a plain row's proof opens pairs of strings and slices of them with.
  Conditions: each theorem's own.
-/
import Derived.Test.YtchoiikhepjdiaaDoorFieR
import Derived.Test.YtchoiikhepjdiaaDoorPlain
import Derived.Deep.SlicePairs
namespace Go.Proofs.YtchoiikhepjdiaaDoor
set_option maxRecDepth 10000
open Go.ChangeShapes Go.WideShapes Go.ChangeAt Go.RowKit
open Sl Fld
set_option linter.unusedVariables false
theorem pair_fields {P : Program} {t str : TypeId} (hf : pairT P t str = true) : ∃ f0 f1, P.fieldsOf t = #[f0, f1] ∧ f0.type = str ∧ f1.type = str ∧ f0.offset = 0 ∧ f1.offset = 1 := by
  unfold pairT at hf
  split at hf
  · next f0 f1 e =>
    simp only [Bool.and_eq_true, beq_iff_eq, bne_iff_ne, ne_eq] at hf
    exact ⟨f0, f1, Array.toList_inj.1 (by simpa using e), hf.1.1.1.1.1, hf.1.1.1.1.2, hf.1.1.1.2, hf.1.1.2⟩
  · cases hf
theorem z_of (s : ByteArray) : ∃ l : List Bt, Value.string s = Z l ∧ l.length = s.size := ⟨bytesOf s, by show _ = Value.string _; rw [strB_bytesOf], bytesOf_length s⟩
theorem short_of {l : List Bt} {s : ByteArray} (h : l.length = s.size) (hm : s.size ≤ maxLen) : l.length < 9223372036854775808 := by
  unfold maxLen at hm
  omega
theorem pr_of {P : Program} {H : Type} {enc : TypeId × Value → H} {W : World} {base fuel : Nat} {t str : TypeId} {v : Value} {x : DataW H × List MemPlace} (ht : P.underlying t = some (.struct (P.fieldsOf t))) (hf : pairT P t str = true) (hs : P.underlying str = some .string) (cs : P.cellsOf str = 1) (ct : P.cellsOf t = 2)
    (hok : Value.okWide P W .any base t v) (h : DataW.trod enc P W 0 (fun _ => true) true fuel t v.cells.toList = some x) : ∃ n u : List Bt, v = .agg (pc (n, u)).toArray ∧ n.length < 9223372036854775808 ∧ u.length < 9223372036854775808 := by
  obtain ⟨f0, f1, e, rfl, e1, o0, o1⟩ := pair_fields hf
  rw [e] at ht
  simp only [Value.okWide, ht] at hok
  obtain ⟨c, rfl, hsz, _⟩ := hok
  rw [ct] at hsz
  obtain ⟨y0, y1, n, _, _, g0, g1⟩ := trod_struct2 ht h
  rw [o0, cs] at g0
  rw [o1, e1, cs] at g1
  obtain ⟨s0, q0, _, m0⟩ := DataW.trod_string hs g0
  obtain ⟨s1, q1, _, m1⟩ := DataW.trod_string hs g1
  obtain ⟨l0, z0, k0⟩ := z_of s0
  obtain ⟨l1, z1, k1⟩ := z_of s1
  refine ⟨l0, l1, ?_, short_of k0 m0, short_of k1 m1⟩
  obtain ⟨l⟩ := c
  rw [show (Value.agg ⟨l⟩).cells.toList = l from rfl] at q0 q1
  match l, hsz with
  | [a, b], _ =>
    simp at q0 q1
    rw [q0, q1, z0, z1]
    rfl
theorem sl2_of {P : Program} {H : Type} {enc : TypeId × Value → H} {W : World} {fuel : Nat} {t e str : TypeId} {v : Value} {x : DataW H × List MemPlace} (ht : P.underlying t = some (.slice e)) (he : P.underlying e = some (.struct (P.fieldsOf e))) (hf : pairT P e str = true) (hs : P.underlying str = some .string) (cs : P.cellsOf str = 1) (ce : P.cellsOf e = 2)
    (h : DataW.trod enc P W 0 (fun _ => true) true fuel t [v] = some x) : ∃ k : Sl2, v = k.v ∧ k.ok W ∧ small2 k ∧ k.cap ≤ maxLen := by
  obtain ⟨f0, f1, ef, rfl, e1, o0, o1⟩ := pair_fields hf
  rw [ef] at he
  rcases Go.Deep.open_slice_pairs ht he ce o0 o1 cs (by rw [e1]; exact cs) h with ⟨hcs, _⟩ | ⟨a, len, cap, m, n, V0, V1, D0, D1, P0, P1, hcs, _, hl, hm, hmm, _, hx⟩
  · cases hcs
    exact ⟨nil2, rfl, nil2_ok W, (fun p hp => by cases hp), by decide⟩
  · cases hcs
    simp only [if_true] at hmm
    subst hmm
    have each : ∀ i, ∃ p : Pr, i < m → W.cell? (a.add (i * 2)) = some (Z p.1) ∧ W.cell? (a.add (i * 2 + 1)) = some (Z p.2) ∧ p.1.length < 9223372036854775808 ∧ p.2.length < 9223372036854775808 := by
      intro i
      by_cases hi : i < m
      · obtain ⟨c0, c1, t0, t1⟩ := hx i hi
        rw [e1] at t1
        obtain ⟨s0, q0, _, m0⟩ := DataW.trod_string hs t0
        obtain ⟨s1, q1, _, m1⟩ := DataW.trod_string hs t1
        obtain ⟨l0, z0, k0⟩ := z_of s0
        obtain ⟨l1, z1, k1⟩ := z_of s1
        have r0 : V0 i = .string s0 := by simpa using q0
        have r1 : V1 i = .string s1 := by simpa using q1
        exact ⟨(l0, l1), fun _ => ⟨by rw [c0, r0, z0], by rw [c1, r1, z1], short_of k0 m0, short_of k1 m1⟩⟩
      · exact ⟨([], []), fun h => absurd h hi⟩
    let f : Nat → Pr := fun i => Classical.choose (each i)
    have fs : ∀ i, i < m → W.cell? (a.add (i * 2)) = some (Z (f i).1) ∧ W.cell? (a.add (i * 2 + 1)) = some (Z (f i).2) ∧ (f i).1.length < 9223372036854775808 ∧ (f i).2.length < 9223372036854775808 := fun i => Classical.choose_spec (each i)
    have hlen : ((List.range len).map f).length = len := by simp
    refine ⟨⟨some a, m, (List.range len).map f⟩, by simp [Sl2.v], ⟨by rw [hlen]; exact hl, ?_⟩, ?_, hm⟩
    · intro j v hv
      have hj : j < 2 * len := by
        have h0 := (List.getElem?_eq_some_iff.1 hv).1
        rw [show Sl2.cells ⟨some a, m, (List.range len).map f⟩ = ((List.range len).map f).flatMap pc from rfl, pc_len, hlen] at h0
        exact h0
      obtain ⟨b, o, sp⟩ := a
      have hi : j / 2 < len := by omega
      obtain ⟨c0, c1, _, _⟩ := fs (j / 2) (by omega)
      obtain ⟨p0, p1⟩ := pc_at ((List.range len).map f) (i := j / 2) (by rw [hlen]; exact hi)
      rw [show ((List.range len).map f).getD (j / 2) ([], []) = f (j / 2) by simp [List.getD, hi]] at p0 p1
      cases sp with
      | some s =>
        have c := (fs 0 (by omega)).1
        simp only [World.cell?, Addr.add, Nat.zero_mul, if_true] at c
        split at c <;> simp at c
      | none =>
        refine ⟨b, o, rfl, ?_⟩
        have ea : ∀ k, (⟨b, o, none⟩ : Addr).add k = ⟨b, o + k, none⟩ := fun k => by
          unfold Addr.add
          split
          · subst k; rfl
          · rfl
        rw [ea] at c0 c1
        have h2 : j = 2 * (j / 2) ∨ j = 2 * (j / 2) + 1 := by omega
        rcases h2 with h2 | h2
        · rw [show (Sl2.cells ⟨some ⟨b, o, none⟩, m, (List.range len).map f⟩)[j]? = (((List.range len).map f).flatMap pc)[2 * (j / 2)]? by rw [← h2]; rfl, p0] at hv
          cases hv
          rw [show o + j = o + j / 2 * 2 by omega]
          exact c0
        · rw [show (Sl2.cells ⟨some ⟨b, o, none⟩, m, (List.range len).map f⟩)[j]? = (((List.range len).map f).flatMap pc)[2 * (j / 2) + 1]? by rw [← h2]; rfl, p1] at hv
          cases hv
          rw [show o + j = o + (j / 2 * 2 + 1) by omega]
          exact c1
    · intro p hp
      obtain ⟨i, hi, rfl⟩ := List.mem_map.1 hp
      have := List.mem_range.1 hi
      exact (fs i (by omega)).2.2
end Go.Proofs.YtchoiikhepjdiaaDoor
