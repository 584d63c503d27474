/-
  Of no statement by itself: what a row's proof opens a slice of calls to a disk with.
  Conditions: each theorem's own.
-/
import Derived.Test.YtopdkpeahhnihaaDskS
import Derived.Test.YtopdkpeahhnihaaPlain
import Derived.Deep.Slices
import Derived.Deep.SlicePairs
namespace Go.Proofs.Ytopdkpeahhnihaa
set_option maxRecDepth 10000
open Go.ChangeShapes Go.WideShapes Go.ChangeAt Go.RowKit
open Sl Dsk
set_option linter.unusedVariables false
theorem arr8c_of {H : Type} {enc : TypeId × Value → H} {W : World} {fuel m : Nat} {t : TypeId} (hu : Try.prog.underlying t = some (.array m 5)) {cs : List Value} (hl : cs.length = m) {x : DataW H × List MemPlace} (h : DataW.trod enc Try.prog W 0 (fun _ => true) true fuel t cs = some x) :
    ∃ r : List (BitVec 8), cs = r.map U8 ∧ r.length = m := by
  obtain ⟨xs, m', _, ex, _, _, hel⟩ := DataW.trod_array hu h
  have c5 : Try.prog.cellsOf 5 = 1 := by kernel_rfl
  have hk : ∀ i, ∃ k : BitVec 8, i < m → cs[i]? = some (U8 k) := by
    intro i
    by_cases hi : i < m
    · have h1 := hel i hi
      rw [c5, Nat.mul_one, List.getElem?_eq_getElem (by omega)] at h1
      obtain ⟨z, e1, e2, hw⟩ := DataW.trod_int (show Try.prog.underlying 5 = some (.int .u8) by kernel_rfl) h1
      refine ⟨BitVec.ofInt 8 z, fun _ => ?_⟩
      have h0 : ((cs.drop i).take 1)[0]? = some (.int .u8 z) := by rw [e1]; rfl
      rw [u8_of hw]
      simpa using h0
    · exact ⟨0, fun h => absurd h hi⟩
  let f : Nat → BitVec 8 := fun i => Classical.choose (hk i)
  have hf : ∀ i, i < m → cs[i]? = some (U8 (f i)) := fun i => Classical.choose_spec (hk i)
  refine ⟨(List.range m).map f, ?_, by simp⟩
  apply List.ext_getElem?
  intro i
  by_cases hi : i < m
  · rw [hf i hi]
    simp [hi]
  · rw [List.getElem?_eq_none (by omega), List.getElem?_eq_none (by simp; omega)]
theorem call_of {H : Type} {enc : TypeId × Value → H} {W : World} {fuel : Nat} {cs : List Value} (hl : cs.length = 67) {x : DataW H × List MemPlace} (h : DataW.trod enc Try.prog W 0 (fun _ => true) true fuel 35 cs = some x) :
    ∃ c : CallS, cs = c.cs ∧ c.ok W := by
  have ht : Try.prog.underlying 35 = some (.struct (Try.prog.fieldsOf 35)) := by kernel_rfl
  have c0 : Try.prog.cellsOf 3 = 1 := by kernel_rfl
  have c1 : Try.prog.cellsOf 33 = 1 := by kernel_rfl
  have c2 : Try.prog.cellsOf 32 = 64 := by kernel_rfl
  have hi : Try.prog.underlying 3 = some (.int .i64) := by kernel_rfl
  obtain ⟨xs, n, _, _, _, hlen, hf⟩ := DataW.trod_struct ht h
  have hsz : (Try.prog.fieldsOf 35).size = 4 := by kernel_rfl
  rw [hsz] at hlen
  have g : ∀ {i ty off}, fldIs Try.prog 35 i ty off = true → i < 4 → ∃ y, DataW.trod enc Try.prog W 0 (fun _ => true) true n ty ((cs.drop off).take (Try.prog.cellsOf ty)) = some y := fun {i ty off} h1 h2 => by
    obtain ⟨f, e1, rfl, rfl⟩ := fldIs_get h1
    exact ⟨xs[i], by rw [hf i f e1, List.getElem?_eq_getElem (by omega)]⟩
  obtain ⟨y0, g0⟩ := g (i := 0) (ty := 3) (off := 0) (by kernel_rfl) (by decide)
  obtain ⟨y1, g1⟩ := g (i := 1) (ty := 3) (off := 1) (by kernel_rfl) (by decide)
  obtain ⟨y2, g2⟩ := g (i := 2) (ty := 32) (off := 2) (by kernel_rfl) (by decide)
  obtain ⟨y3, g3⟩ := g (i := 3) (ty := 33) (off := 66) (by kernel_rfl) (by decide)
  rw [c0] at g0 g1
  rw [c2] at g2
  rw [c1] at g3
  obtain ⟨z0, q0, _, _⟩ := DataW.trod_int hi g0
  obtain ⟨z1, q1, _, _⟩ := DataW.trod_int hi g1
  obtain ⟨r, q2, hr⟩ := arr8c_of (show Try.prog.underlying 32 = some (.array 64 5) by kernel_rfl) (by rw [List.length_take, List.length_drop]; omega) g2
  obtain ⟨v, hv⟩ : ∃ v, (cs.drop 66).take 1 = [v] := by
    have : ((cs.drop 66).take 1).length = 1 := by rw [List.length_take, List.length_drop]; omega
    match (cs.drop 66).take 1, this with
    | [v], _ => exact ⟨v, rfl⟩
  rw [hv] at g3
  obtain ⟨k, rfl, hk, _⟩ := sl8_of g3
  refine ⟨⟨z0, z1, r, k⟩, ?_, ⟨hr, hk⟩⟩
  have e : cs = (cs.drop 0).take 1 ++ ((cs.drop 1).take 1 ++ ((cs.drop 2).take 64 ++ (cs.drop 66).take 1)) := by
    have a1 : (cs.drop 66).take 1 = cs.drop 66 := List.take_of_length_le (by rw [List.length_drop]; omega)
    have a2 : (cs.drop 2).take 64 ++ cs.drop 66 = cs.drop 2 := by
      have := List.take_append_drop 64 (cs.drop 2)
      rwa [List.drop_drop] at this
    have a3 : (cs.drop 1).take 1 ++ cs.drop 2 = cs.drop 1 := by
      have := List.take_append_drop 1 (cs.drop 1)
      rwa [List.drop_drop] at this
    have a4 : (cs.drop 0).take 1 ++ cs.drop 1 = cs := by
      rw [List.drop_zero]
      exact List.take_append_drop 1 cs
    rw [a1, a2, a3, a4]
  rw [e, q0, q1, q2, hv]
  rfl
theorem calls_of {H : Type} {enc : TypeId × Value → H} {W : World} {base fuel : Nat} {v : Value} {x : DataW H × List MemPlace} (hok : Value.okWide Try.prog W .any base 22 v) (h : DataW.trod enc Try.prog W 0 (fun _ => true) true fuel 22 v.cells.toList = some x) :
    ∃ k : SlC, v = k.v ∧ k.ok W := by
  obtain ⟨a, l, c, rfl⟩ := okWide_slice (show Try.prog.underlying 22 = some (.slice 35) by kernel_rfl) hok
  have hc1 : Try.prog.cellsOf 35 = 67 := by kernel_rfl
  rcases Go.Deep.open_slice (show Try.prog.underlying 22 = some (.slice 35) by kernel_rfl) h with ⟨hcs, _⟩ | ⟨a', len, cap, m, n, D, Pl, hcs, _, hl, hm, hmm, hxx, hel⟩
  · cases hcs
    exact ⟨⟨none, 0, []⟩, rfl, ⟨Nat.le_refl _, Reads.nil _ _, nofun⟩⟩
  · cases hcs
    simp only [if_true] at hmm
    subst hmm
    simp only [hc1] at hel
    have hk : ∀ i, ∃ k : CallS, i < l → (∀ j u, k.cs[j]? = some u → W.cell? ((a'.add (i * 67)).add j) = some u) ∧ k.ok W := by
      intro i
      by_cases hi : i < l
      · obtain ⟨cs', h1, h2⟩ := hel i (by omega)
        obtain ⟨_, hlen, hcell⟩ := World.cells?_some h1
        obtain ⟨k, rfl, hk⟩ := call_of hlen h2
        refine ⟨k, fun _ => ⟨fun j u hu => ?_, hk⟩⟩
        have hj : j < k.cs.length := (List.getElem?_eq_some_iff.1 hu).1
        rw [hcell j (by omega)]
        exact hu
      · exact ⟨noCall, fun h => absurd h hi⟩
    let f : Nat → CallS := fun i => Classical.choose (hk i)
    have hf : ∀ i, i < l → (∀ j u, (f i).cs[j]? = some u → W.cell? ((a'.add (i * 67)).add j) = some u) ∧ (f i).ok W := fun i => Classical.choose_spec (hk i)
    refine ⟨⟨some a', m, (List.range l).map f⟩, by simp [SlC.v], ⟨by simpa using hl, ?_, ?_⟩⟩
    · intro i u hu
      have hcss : ∀ q ∈ ((List.range l).map f).map CallS.cs, q.length = 67 := by
        intro q hq
        obtain ⟨d, hd, rfl⟩ := List.mem_map.1 hq
        obtain ⟨j, hj, rfl⟩ := List.mem_map.1 hd
        exact ((hf j (List.mem_range.1 hj)).2).len
      have hlen := chunk_len hcss
      have hi : i < (((List.range l).map f).map CallS.cs).flatten.length := (List.getElem?_eq_some_iff.1 hu).1
      rw [hlen] at hi
      simp only [List.length_map, List.length_range] at hi
      have hq : i / 67 < l := Nat.div_lt_of_lt_mul (by omega)
      have hr : i % 67 < 67 := Nat.mod_lt _ (by decide)
      have hat := chunk_at (i := i / 67) hcss (by simpa using hq)
      have e2 : (((List.range l).map f).map CallS.cs).getD (i / 67) [] = (f (i / 67)).cs := by simp [hq]
      rw [e2] at hat
      have hu2 : (f (i / 67)).cs[i % 67]? = some u := by
        rw [← hat, List.getElem?_take, if_pos hr, List.getElem?_drop, show i / 67 * 67 + i % 67 = i by have := Nat.div_add_mod i 67; omega]
        exact hu
      have hc := (hf (i / 67) hq).1 (i % 67) u hu2
      obtain ⟨b, o, sp⟩ := a'
      cases sp with
      | some s =>
        exfalso
        have h00 := (hf 0 (by omega)).1 0 (.int .i64 (f 0).what) rfl
        simp only [World.cell?, Addr.add, Nat.zero_mul, if_true] at h00
        split at h00 <;> simp at h00
      | none =>
        refine ⟨b, o, rfl, ?_⟩
        rw [add_off, add_off, show o + i / 67 * 67 + i % 67 = o + i by have := Nat.div_add_mod i 67; omega] at hc
        exact hc
    · intro d hd
      obtain ⟨j, hj, rfl⟩ := List.mem_map.1 hd
      exact (hf j (List.mem_range.1 hj)).2
end Go.Proofs.Ytopdkpeahhnihaa
