/-
  Of no statement by itself: what a row's proof opens a slice of elements of many cells with, whatever they are.
  Conditions: each theorem's own.
-/
import Derived.Test.YtjkncnbpaejamaaGreatDoorYe
import Derived.Test.YtjkncnbpaejamaaGreatDoorPlain
import Derived.Deep.Slices
import Derived.Deep.SlicePairs
namespace Go.Proofs.YtjkncnbpaejamaaGreatDoor
set_option maxRecDepth 10000
open Go.ChangeShapes Go.WideShapes Go.ChangeAt Go.RowKit
open Sl
set_option linter.unusedVariables false
theorem elems_of {α : Type} {H : Type} {enc : TypeId × Value → H} {W : World} {base fuel k : Nat} {t e : TypeId} {v : Value} {x : DataW H × List MemPlace} (cs : α → List Value) (P : α → Prop) (c0 : α) (hk0 : 0 < k)
    (hu : Tryz.prog.underlying t = some (.slice e)) (hc1 : Tryz.prog.cellsOf e = k) (hlen : ∀ c, P c → (cs c).length = k)
    (hel : ∀ (l : List Value) (fuel : Nat) (x : DataW H × List MemPlace), l.length = k → DataW.trod enc Tryz.prog W 0 (fun _ => true) true fuel e l = some x → ∃ c, l = cs c ∧ P c)
    (hok : Value.okWide Tryz.prog W .any base t v) (h : DataW.trod enc Tryz.prog W 0 (fun _ => true) true fuel t v.cells.toList = some x) :
    ∃ (ad : Option Addr) (cap : Nat) (l : List α), v = .slice ad l.length cap ∧ l.length ≤ cap ∧ Reads W ad (l.map cs).flatten ∧ ∀ c ∈ l, P c := by
  obtain ⟨a, l, c, rfl⟩ := okWide_slice hu hok
  rcases Go.Deep.open_slice hu h with ⟨hcs, _⟩ | ⟨a', len, cap, m, n, D, Pl, hcs, _, hl, hm, hmm, hxx, hel'⟩
  · cases hcs
    exact ⟨none, 0, [], rfl, Nat.le_refl _, Reads.nil _ _, nofun⟩
  · cases hcs
    simp only [if_true] at hmm
    subst hmm
    simp only [hc1] at hel'
    have hk : ∀ i, ∃ c : α, i < l → (∀ j u, (cs c)[j]? = some u → W.cell? ((a'.add (i * k)).add j) = some u) ∧ P c := by
      intro i
      by_cases hi : i < l
      · obtain ⟨cs', h1, h2⟩ := hel' i (by omega)
        obtain ⟨_, hlen', hcell⟩ := World.cells?_some h1
        obtain ⟨c, rfl, hp⟩ := hel _ _ _ hlen' h2
        refine ⟨c, fun _ => ⟨fun j u hu => ?_, hp⟩⟩
        have hj : j < (cs c).length := (List.getElem?_eq_some_iff.1 hu).1
        rw [hcell j (by omega)]
        exact hu
      · exact ⟨c0, fun h => absurd h hi⟩
    let f : Nat → α := fun i => Classical.choose (hk i)
    have hf : ∀ i, i < l → (∀ j u, (cs (f i))[j]? = some u → W.cell? ((a'.add (i * k)).add j) = some u) ∧ P (f i) := fun i => Classical.choose_spec (hk i)
    refine ⟨some a', m, (List.range l).map f, by simp, by simpa using hl, ?_, ?_⟩
    · intro i u hu
      have hcss : ∀ q ∈ ((List.range l).map f).map cs, q.length = k := by
        intro q hq
        obtain ⟨d, hd, rfl⟩ := List.mem_map.1 hq
        obtain ⟨j, hj, rfl⟩ := List.mem_map.1 hd
        exact hlen _ (hf j (List.mem_range.1 hj)).2
      have hlen2 := chunk_len hcss
      have hi : i < (((List.range l).map f).map cs).flatten.length := (List.getElem?_eq_some_iff.1 hu).1
      rw [hlen2] at hi
      simp only [List.length_map, List.length_range] at hi
      have hq : i / k < l := Nat.div_lt_of_lt_mul (by rw [Nat.mul_comm]; exact hi)
      have hr : i % k < k := Nat.mod_lt _ hk0
      have hat := chunk_at (i := i / k) hcss (by simpa using hq)
      have e2 : (((List.range l).map f).map cs).getD (i / k) [] = cs (f (i / k)) := by simp [hq]
      rw [e2] at hat
      have hdm : i / k * k + i % k = i := by rw [Nat.mul_comm]; exact Nat.div_add_mod i k
      have hu2 : (cs (f (i / k)))[i % k]? = some u := by
        rw [← hat, List.getElem?_take, if_pos hr, List.getElem?_drop, hdm]
        exact hu
      have hc := (hf (i / k) hq).1 (i % k) u hu2
      obtain ⟨b, o, sp⟩ := a'
      cases sp with
      | some s =>
        exfalso
        have h0 := hf 0 (Nat.lt_of_le_of_lt (Nat.zero_le _) hq)
        have hl0 := hlen _ h0.2
        obtain ⟨u0, hu0⟩ : ∃ u0, (cs (f 0))[0]? = some u0 := ⟨_, List.getElem?_eq_getElem (by omega)⟩
        have h00 := h0.1 0 u0 hu0
        simp only [World.cell?, Addr.add, Nat.zero_mul, if_true] at h00
        split at h00 <;> simp at h00
      | none =>
        refine ⟨b, o, rfl, ?_⟩
        rw [add_off, add_off, Nat.add_assoc, hdm] at hc
        exact hc
    · intro d hd
      obtain ⟨j, hj, rfl⟩ := List.mem_map.1 hd
      exact (hf j (List.mem_range.1 hj)).2
/-- a field of a struct that is opened -/
theorem fieldsW {H : Type} {enc : TypeId × Value → H} {W : World} {fuel nf : Nat} {t : TypeId} {cs : List Value} {x : DataW H × List MemPlace} (ht : Tryz.prog.underlying t = some (.struct (Tryz.prog.fieldsOf t))) (hsz : (Tryz.prog.fieldsOf t).size = nf)
    (h : DataW.trod enc Tryz.prog W 0 (fun _ => true) true fuel t cs = some x) : ∃ n, ∀ {i ty off}, fldIs Tryz.prog t i ty off = true → i < nf → ∃ y, DataW.trod enc Tryz.prog W 0 (fun _ => true) true n ty ((cs.drop off).take (Tryz.prog.cellsOf ty)) = some y := by
  obtain ⟨xs, n, _, _, _, hlen, hf⟩ := DataW.trod_struct ht h
  rw [hsz] at hlen
  refine ⟨n, fun {i ty off} h1 h2 => ?_⟩
  obtain ⟨f, e1, rfl, rfl⟩ := fldIs_get h1
  exact ⟨xs[i], by rw [hf i f e1, List.getElem?_eq_getElem (by omega)]⟩
theorem one_of {cs : List Value} {off : Nat} (h : off < cs.length) : ∃ v, (cs.drop off).take 1 = [v] ∧ cs[off]? = some v :=
  ⟨cs[off], by rw [List.drop_eq_getElem_cons h, List.take_succ_cons, List.take_zero], List.getElem?_eq_getElem h⟩
end Go.Proofs.YtjkncnbpaejamaaGreatDoor
