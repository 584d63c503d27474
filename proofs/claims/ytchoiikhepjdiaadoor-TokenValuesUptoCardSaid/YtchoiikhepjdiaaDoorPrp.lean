/-
  Of no statement by itself: what a plain row's proof opens slices of pairs of strings and slices of strings with, and what a bound on the whole gives.
  Conditions: each theorem's own.
-/
import Derived.Test.YtchoiikhepjdiaaDoorBf
import Derived.Deep.SlicePairs
import Derived.SliceStrings
import Derived.SizedLaws
namespace Go.Proofs.YtchoiikhepjdiaaDoor
set_option maxRecDepth 10000
open Go.ChangeShapes Go.WideShapes Go.ChangeAt Go.RowKit
open Sl
set_option linter.unusedVariables false
theorem pair_fields {P : Program} {t str : TypeId} (hf : pairT P t str = true) : ∃ f0 f1, P.fieldsOf t = #[f0, f1] ∧ f0.type = str ∧ f1.type = str ∧ f0.offset = 0 ∧ f1.offset = 1 := by
  unfold pairT at hf
  split at hf
  · next f0 f1 e =>
    simp only [Bool.and_eq_true, beq_iff_eq, bne_iff_ne, ne_eq] at hf
    exact ⟨f0, f1, Array.toList_inj.1 (by simpa using e), hf.1.1.1.1.1, hf.1.1.1.1.2, hf.1.1.1.2, hf.1.1.2⟩
  · cases hf
theorem z_of (s : ByteArray) : ∃ l : List Bt, Value.string s = Z l ∧ l.length = s.size := ⟨bytesOf s, by show _ = Value.string _; rw [strB_bytesOf], bytesOf_length s⟩
theorem tiny_of {l : List Bt} {s : ByteArray} (h : l.length = s.size) (hm : s.size ≤ maxLen) : l.length < 9223372036854775808 := by
  unfold maxLen at hm
  omega
theorem bulk_mem {H : Type} {d : DataW H} {l : List (DataW H)} (h : d ∈ l) : Rows.uptoBulk d ≤ Rows.uptoBulkAll l := by
  induction l with
  | nil => cases h
  | cons x r ih =>
    simp only [Rows.uptoBulkAll]
    cases List.mem_cons.1 h with
    | inl e => subst e; omega
    | inr e => have := ih e; omega
theorem weights_all {H : Type} {P : Program} {e : TypeId} {d : DataW H} {l : List (DataW H)} (h : d ∈ l) {n : Nat} (hn : n ∈ d.weights P e) : n ∈ DataW.weightsAll P e l := by
  induction l with
  | nil => cases h
  | cons x r ih =>
    simp only [DataW.weightsAll, List.mem_append]
    cases List.mem_cons.1 h with
    | inl e => subst e; exact .inl hn
    | inr e => exact .inr (ih e)
theorem weight_pair {H : Type} {P : Program} {t e : TypeId} {f0 f1 : Field} {x : DataW H × List MemPlace} {len i : Nat} {D0 D1 : Nat → DataW H} {Q : List (DataW H)} {R : List MemPlace} {l0 l1 : List Bt} {s0 s1 : List UInt8} (ht : P.underlying t = some (.slice e)) (he : P.underlying e = some (.struct #[f0, f1])) (hx : x = (.slice ((List.range len).map fun i => .agg [D0 i, D1 i]) Q, R)) (hi : i < len)
    (h0 : D0 i = .lit (.string s0) ∧ l0.length = s0.length) (h1 : D1 i = .lit (.string s1) ∧ l1.length = s1.length) : l0.length ∈ x.1.weights P t ∧ l1.length ∈ x.1.weights P t := by
  subst hx
  have hm : DataW.agg [D0 i, D1 i] ∈ (List.range len).map fun i => DataW.agg [D0 i, D1 i] := List.mem_map.2 ⟨i, List.mem_range.2 hi, rfl⟩
  have hw : (DataW.agg [D0 i, D1 i]).weights P e = [s0.length, s1.length] := by
    rw [h0.1, h1.1]
    simp [DataW.weights, he, DataW.weightsEach]
  have hin : ∀ n, n ∈ [s0.length, s1.length] → n ∈ (DataW.slice ((List.range len).map fun i => DataW.agg [D0 i, D1 i]) Q).weights P t := by
    intro n hn
    simp only [DataW.weights, ht, List.mem_cons, List.mem_append]
    exact .inr (.inl (weights_all hm (by rw [hw]; exact hn)))
  exact ⟨hin _ (by rw [h0.2]; simp), hin _ (by rw [h1.2]; simp)⟩
theorem bulk_pair {H : Type} {x : DataW H × List MemPlace} {len i : Nat} {D0 D1 : Nat → DataW H} {Q : List (DataW H)} {R : List MemPlace} {l0 l1 : List Bt} {s0 s1 : List UInt8} (hx : x = (.slice ((List.range len).map fun i => .agg [D0 i, D1 i]) Q, R)) (hi : i < len)
    (h0 : D0 i = .lit (.string s0) ∧ l0.length = s0.length) (h1 : D1 i = .lit (.string s1) ∧ l1.length = s1.length) : l0.length ≤ Rows.uptoBulk x.1 ∧ l1.length ≤ Rows.uptoBulk x.1 := by
  subst hx
  have hm := bulk_mem (H := H) (d := .agg [D0 i, D1 i]) (l := (List.range len).map fun i => .agg [D0 i, D1 i]) (List.mem_map.2 ⟨i, List.mem_range.2 hi, rfl⟩)
  rw [h0.1, h1.1] at hm
  simp only [Rows.uptoBulk, Rows.uptoBulkAll] at hm ⊢
  omega
theorem sl2_full {P : Program} {H : Type} {enc : TypeId × Value → H} {W : World} {fuel : Nat} {t e str : TypeId} {v : Value} {x : DataW H × List MemPlace} (ht : P.underlying t = some (.slice e)) (he : P.underlying e = some (.struct (P.fieldsOf e))) (hf : pairT P e str = true) (hs : P.underlying str = some .string) (cs : P.cellsOf str = 1) (ce : P.cellsOf e = 2)
    (h : DataW.trod enc P W 0 (fun _ => true) true fuel t [v] = some x) : ∃ k : Sl2, v = k.v ∧ k.ok W ∧ k.cap ≤ maxLen ∧ (∀ p ∈ k.l, p.1.length < 9223372036854775808 ∧ p.2.length < 9223372036854775808) ∧ (∀ p ∈ k.l, p.1.length ≤ Rows.uptoBulk x.1 ∧ p.2.length ≤ Rows.uptoBulk x.1) ∧ (∀ p ∈ k.l, p.1.length ∈ x.1.weights P t ∧ p.2.length ∈ x.1.weights P t) := by
  obtain ⟨f0, f1, ef, rfl, e1, o0, o1⟩ := pair_fields hf
  rw [ef] at he
  rcases Go.Deep.open_slice_pairs ht he ce o0 o1 cs (by rw [e1]; exact cs) h with ⟨hcs, _⟩ | ⟨a, len, cap, m, n, V0, V1, D0, D1, P0, P1, hcs, _, hl, hm, hmm, hxx, hx⟩
  · cases hcs
    exact ⟨nil2, rfl, nil2_ok W, by decide, (fun p hp => by cases hp), (fun p hp => by cases hp), (fun p hp => by cases hp)⟩
  · cases hcs
    simp only [if_true] at hmm
    subst hmm
    have each : ∀ i, ∃ p : Pr, i < m → W.cell? (a.add (i * 2)) = some (Z p.1) ∧ W.cell? (a.add (i * 2 + 1)) = some (Z p.2) ∧ (p.1.length < 9223372036854775808 ∧ p.2.length < 9223372036854775808) ∧ (i < len → (p.1.length ≤ Rows.uptoBulk x.1 ∧ p.2.length ≤ Rows.uptoBulk x.1) ∧ (p.1.length ∈ x.1.weights P t ∧ p.2.length ∈ x.1.weights P t)) := by
      intro i
      by_cases hi : i < m
      · obtain ⟨c0, c1, t0, t1⟩ := hx i hi
        rw [e1] at t1
        obtain ⟨s0, q0, w0, m0⟩ := DataW.trod_string hs t0
        obtain ⟨s1, q1, w1, m1⟩ := DataW.trod_string hs t1
        obtain ⟨l0, z0, k0⟩ := z_of s0
        obtain ⟨l1, z1, k1⟩ := z_of s1
        have r0 : V0 i = .string s0 := by simpa using q0
        have r1 : V1 i = .string s1 := by simpa using q1
        exact ⟨(l0, l1), fun _ => ⟨by rw [c0, r0, z0], by rw [c1, r1, z1], ⟨tiny_of k0 m0, tiny_of k1 m1⟩, fun hil => ⟨bulk_pair hxx hil ⟨(Prod.mk.inj w0).1, by rw [k0, Array.length_toList]; rfl⟩ ⟨(Prod.mk.inj w1).1, by rw [k1, Array.length_toList]; rfl⟩, weight_pair ht he hxx hil ⟨(Prod.mk.inj w0).1, by rw [k0, Array.length_toList]; rfl⟩ ⟨(Prod.mk.inj w1).1, by rw [k1, Array.length_toList]; rfl⟩⟩⟩⟩
      · exact ⟨([], []), fun h => absurd h hi⟩
    let f : Nat → Pr := fun i => Classical.choose (each i)
    have fs : ∀ i, i < m → W.cell? (a.add (i * 2)) = some (Z (f i).1) ∧ W.cell? (a.add (i * 2 + 1)) = some (Z (f i).2) ∧ ((f i).1.length < 9223372036854775808 ∧ (f i).2.length < 9223372036854775808) ∧ (i < len → ((f i).1.length ≤ Rows.uptoBulk x.1 ∧ (f i).2.length ≤ Rows.uptoBulk x.1) ∧ ((f i).1.length ∈ x.1.weights P t ∧ (f i).2.length ∈ x.1.weights P t)) := fun i => Classical.choose_spec (each i)
    have hlen : ((List.range len).map f).length = len := by simp
    refine ⟨⟨some a, m, (List.range len).map f⟩, by simp [Sl2.v], ⟨by rw [hlen]; exact hl, ?_⟩, hm, ?_, ?_, ?_⟩
    · intro j v hv
      have hj : j < 2 * len := by
        have h0 := (List.getElem?_eq_some_iff.1 hv).1
        rw [show Sl2.cells ⟨some a, m, (List.range len).map f⟩ = ((List.range len).map f).flatMap pc from rfl, pc_len, hlen] at h0
        exact h0
      obtain ⟨b, o, sp⟩ := a
      have hi : j / 2 < len := by omega
      obtain ⟨c0, c1, _⟩ := fs (j / 2) (by omega)
      obtain ⟨p0, p1⟩ := pc_at ((List.range len).map f) (i := j / 2) (by rw [hlen]; exact hi)
      rw [show ((List.range len).map f).getD (j / 2) ([], []) = f (j / 2) by simp [List.getD, hi]] at p0 p1
      cases sp with
      | some s =>
        have c := (fs 0 (by omega)).1
        simp only [World.cell?, Addr.add, Nat.zero_mul, if_true] at c
        split at c <;> simp at c
      | none =>
        refine ⟨b, o, rfl, ?_⟩
        have ea : ∀ k, (⟨b, o, none⟩ : Addr).add k = ⟨b, o + k, none⟩ := fun k => by
          unfold Addr.add
          split
          · subst k; rfl
          · rfl
        rw [ea] at c0 c1
        have h2 : j = 2 * (j / 2) ∨ j = 2 * (j / 2) + 1 := by omega
        rcases h2 with h2 | h2
        · rw [show (Sl2.cells ⟨some ⟨b, o, none⟩, m, (List.range len).map f⟩)[j]? = (((List.range len).map f).flatMap pc)[2 * (j / 2)]? by rw [← h2]; rfl, p0] at hv
          cases hv
          rw [show o + j = o + j / 2 * 2 by omega]
          exact c0
        · rw [show (Sl2.cells ⟨some ⟨b, o, none⟩, m, (List.range len).map f⟩)[j]? = (((List.range len).map f).flatMap pc)[2 * (j / 2) + 1]? by rw [← h2]; rfl, p1] at hv
          cases hv
          rw [show o + j = o + (j / 2 * 2 + 1) by omega]
          exact c1
    · intro p hp
      obtain ⟨i, hi, rfl⟩ := List.mem_map.1 hp
      have := List.mem_range.1 hi
      exact (fs i (by omega)).2.2.1
    · intro p hp
      obtain ⟨i, hi, rfl⟩ := List.mem_map.1 hp
      have := List.mem_range.1 hi
      exact ((fs i (by omega)).2.2.2 this).1
    · intro p hp
      obtain ⟨i, hi, rfl⟩ := List.mem_map.1 hp
      have := List.mem_range.1 hi
      exact ((fs i (by omega)).2.2.2 this).2
theorem sized_lt {H : Type} {P : Program} {ts : List TypeId} {ds : List (DataW H)} (h : (DataW.weightsEach P ts ds).all (· ≤ reachBytes) = true) {j n : Nat} {t : TypeId} {d : DataW H} (ht : ts[j]? = some t) (hd : ds[j]? = some d) (hn : n ∈ d.weights P t) : n < 140737488351233 := by
  have h1 := List.all_eq_true.1 h _ (DataW.weights_mem_each ht hd n hn)
  have h2 : reachBytes = 140737488351232 := by decide
  have h3 : n ≤ reachBytes := by simpa using h1
  omega
theorem slz_of {H : Type} {enc : TypeId × Value → H} {W : World} {fuel : Nat} {v : Value} {x : DataW H × List MemPlace} (hu : Tryd.prog.underlying 48 = some (.slice 9)) (hs : Tryd.prog.underlying 9 = some .string) (cs : Tryd.prog.cellsOf 9 = 1)
    (h : DataW.trod enc Tryd.prog W 0 (fun _ => true) true fuel 48 [v] = some x) : ∃ ad cap, ∃ l : List (List Bt), v = .slice ad l.length cap ∧ l.length ≤ cap ∧ Reads W ad (l.map Z) := by
  rcases Go.ChangeShapes.open_strings hu hs cs h with ⟨hcs, _⟩ | ⟨a, len, cap, ss, hcs, _, hl, hm, hlen, _, hcell, hsz⟩
  · cases hcs
    exact ⟨none, 0, [], rfl, Nat.le_refl _, Reads.nil _ _⟩
  · cases hcs
    simp only [if_true] at hlen
    have hll : ((ss.take len).map bytesOf).length = len := by rw [List.length_map, List.length_take]; omega
    refine ⟨some a, cap, (ss.take len).map bytesOf, by rw [hll], by rw [hll]; exact hl, ?_⟩
    intro i v hv
    have hi : i < len := by
      have := (List.getElem?_eq_some_iff.1 hv).1
      rwa [List.length_map, hll] at this
    have hc := hcell i (by omega)
    obtain ⟨b, o, sp⟩ := a
    cases sp with
    | some s =>
      have hc := hcell 0 (by omega)
      simp only [World.cell?, Addr.add, if_true] at hc
      split at hc <;> simp at hc
    | none =>
      refine ⟨b, o, rfl, ?_⟩
      have e3 : v = .string (ss.getD i ByteArray.empty) := by
        rw [List.map_map, List.getElem?_map, List.getElem?_take, if_pos hi, List.getElem?_eq_getElem (by omega)] at hv
        simp only [Option.map_some, Function.comp, Option.some.injEq] at hv
        rw [← hv, List.getD_eq_getElem?_getD, List.getElem?_eq_getElem (by omega)]
        show Value.string (strB (bytesOf _)) = _
        rw [strB_bytesOf]
        rfl
      rw [e3]
      have e4 : (⟨b, o, none⟩ : Addr).add i = ⟨b, o + i, none⟩ := by
        unfold Addr.add
        split
        · subst i; rfl
        · rfl
      rw [e4] at hc
      exact hc
end Go.Proofs.YtchoiikhepjdiaaDoor
