/-
  THE FRAME's PART THAT SPEAKS OF THE LISTED VARIABLES of rounds and quarters: the tables out of what is laid; the witness worlds; words, nonces and rows of words out of their readings.
-/
import Derived.Test.YtakgpocehoeakaaDoorFra
import Derived.Test.YtakgpocehoeakaaDoorSd
namespace Go.Proofs.YtakgpocehoeakaaDoor
open Go.ChangeShapes Go.WideShapes Go.ChangeAt Go.RowKit
open Sl Sha Str
set_option linter.unusedVariables false

theorem laidVars_mem {P : Program} {w : World} {n : String} {d : DataW Unit} : ∀ {L : List (String × DataW Unit)} {ps : List MemPlace}, DataW.LaidVars P w L ps → (n, d) ∈ L →
    ∃ g t cs fuel p, P.globalNamed n = some g ∧ (P.globals[g]?).map (·.type) = some t ∧ w.var? P n = some cs ∧ DataW.trod (fun _ => ()) P w 0 (fun _ => true) false fuel t cs.toList = some (d, p)
  | [], _, _, h => by cases h
  | (n', d') :: L, ps, ⟨g, t, cs, fuel, p, q, h1, h2, h3, h4, h5, _⟩, h => by
    rcases List.mem_cons.1 h with h | h
    · cases h
      exact ⟨g, t, cs, fuel, p, h1, h2, h3, h4⟩
    · exact laidVars_mem h5 h
theorem eq_of_chunks {α : Type} {a b : List α} (n : Nat) (hl : a.length = n * 4) (hb : b.length = n * 4) (h : ∀ i < n, (a.drop (i * 4)).take 4 = (b.drop (i * 4)).take 4) : a = b := by
  apply List.ext_getElem?
  intro j
  by_cases hj : j < n * 4
  · have h1 := congrArg (·[j % 4]?) (h (j / 4) (by omega))
    simp only [List.getElem?_take, List.getElem?_drop, Nat.mod_lt j (by decide : 0 < 4), if_true] at h1
    rwa [show j / 4 * 4 + j % 4 = j by omega] at h1
  · rw [List.getElem?_eq_none (by omega), List.getElem?_eq_none (by omega)]
def qRow (i : Nat) : DataW Unit := Lib.tabData .i64 ((o4 i).map fun x : Nat => (x : Int))
def qDat : DataW Unit := .agg [qRow 0, qRow 1, qRow 2, qRow 3, qRow 4, qRow 5, qRow 6, qRow 7]
theorem gq_of {W : World} {ps : List MemPlace} {L : List (String × DataW Unit)} (h : DataW.LaidVars Tryd.prog W L ps) (hm : ("despatch/stream.quarters", qDat) ∈ L) : GQ W := by
  obtain ⟨g, t, cs, fuel, p, h1, h2, h3, h4⟩ := laidVars_mem h hm
  have hg : Tryd.prog.globalNamed "despatch/stream.quarters" = some 0 := by kernel_rfl
  obtain rfl := Option.some.inj (hg.symm.trans h1)
  obtain rfl := Option.some.inj ((show (Tryd.prog.globals[0]?).map (·.type) = some 67 by kernel_rfl).symm.trans h2)
  obtain ⟨xs, m, _, ex, hlen, hl, hel⟩ := DataW.trod_array (show Tryd.prog.underlying 67 = some (.array 8 66) by kernel_rfl) h4
  have c4 : Tryd.prog.cellsOf 66 = 4 := by kernel_rfl
  have c32 : Tryd.prog.cellsOf 67 = 32 := by kernel_rfl
  rw [c32] at hlen
  have hxs : xs.map (·.1) = [qRow 0, qRow 1, qRow 2, qRow 3, qRow 4, qRow 5, qRow 6, qRow 7] := by
    have := congrArg Prod.fst ex
    simpa [qDat] using this.symm
  have hcs : cs.toList = ordF.map N := by
    refine eq_of_chunks 8 hlen rfl fun i hi => ?_
    have h5 := hel i hi
    rw [c4] at h5
    have h6 : (xs.map (·.1))[i]? = some (qRow i) := by
      rw [hxs]
      have : i = 0 ∨ i = 1 ∨ i = 2 ∨ i = 3 ∨ i = 4 ∨ i = 5 ∨ i = 6 ∨ i = 7 := by omega
      rcases this with rfl | rfl | rfl | rfl | rfl | rfl | rfl | rfl <;> rfl
    rw [List.getElem?_map] at h6
    obtain ⟨y, hy, hy1⟩ := Option.map_eq_some_iff.1 h6
    rw [hy] at h5
    obtain ⟨y1, y2⟩ := y
    subst hy1
    have h7 := Lib.cells_of_tab (show Tryd.prog.underlying 66 = some (.array 4 3) by kernel_rfl) (show Tryd.prog.underlying 3 = some (.int .i64) by kernel_rfl) (by kernel_rfl) c4 h5
    rw [h7, o4_eq i hi, List.map_map]
    rfl
  unfold World.var? at h3
  rw [hg] at h3
  simp only [Option.bind_some] at h3
  split at h3
  · rename_i cs' e fr hb
    obtain rfl := Option.some.inj h3
    refine ⟨e, fr, ?_⟩
    rw [hb, ← hcs]
  · cases h3
theorem gok_of {W : World} {ps : List MemPlace} {L : List (String × DataW Unit)} (h : DataW.LaidVars Tryd.prog W L ps) (hm : ("despatch/hash.rounds", Lib.tabData .u32 (K.map fun x => (x.toNat : Int))) ∈ L) : GOk W := by
  obtain ⟨g, t, cs, fuel, p, h1, h2, h3, h4⟩ := laidVars_mem h hm
  have hg : Tryd.prog.globalNamed "despatch/hash.rounds" = some 1 := by kernel_rfl
  obtain rfl := Option.some.inj (hg.symm.trans h1)
  obtain rfl := Option.some.inj ((show (Tryd.prog.globals[1]?).map (·.type) = some 75 by kernel_rfl).symm.trans h2)
  have hcs := Lib.cells_of_tab (show Tryd.prog.underlying 75 = some (.array 64 43) by kernel_rfl) (show Tryd.prog.underlying 43 = some (.int .u32) by kernel_rfl) (by kernel_rfl) (by kernel_rfl) h4
  unfold World.var? at h3
  rw [hg] at h3
  simp only [Option.bind_some] at h3
  split at h3
  · rename_i cs' e fr hb
    obtain rfl := Option.some.inj h3
    refine ⟨e, fr, ?_⟩
    rw [hb]
    have : cs' = (cs'.toList).toArray := by simp
    rw [this, hcs, List.map_map]
    rfl
  · cases h3
theorem laid2_plain : ((Rows.sealBytesRow.laid).all fun x => x.2.handleName?.isNone) = true := by kernel_rfl
theorem laid2_is : Rows.sealBytesRow.laid = [("despatch/hash.rounds", Lib.tabData .u32 (K.map fun x => (x.toNat : Int))), ("despatch/stream.quarters", qDat)] := by kernel_rfl
theorem both_of_laid2 {W : World} (h : laidMetH Tryd.prog Rows.sealBytesRow.laid W) : GOk W ∧ GQ W := by
  rw [MakeChecks.laidMetH_plain _ _ _ laid2_plain, laid2_is] at h
  obtain ⟨ps, h, _⟩ := h
  exact ⟨gok_of h (by simp), gq_of h (by simp)⟩
theorem wit2_met (os : Os) (args : Array Value) : laidMetH Tryd.prog Rows.sealBytesRow.laid ((World.laidAll Tryd.prog os Rows.sealBytesRow.laid).forCall (fun _ _ => 0) ⟨#[], args, []⟩).memory := by
  rw [MakeChecks.laidMetH_plain _ _ _ laid2_plain]
  exact laidMet_laidAll _ (by kernel_rfl) (by kernel_rfl)
theorem wit2_shape (os : Os) : (World.laidAll Tryd.prog os Rows.sealBytesRow.laid).Shaped Tryd.prog := World.shaped_of_ZipB (by kernel_rfl) (by kernel_rfl)

theorem nonce_of {H : Type} {enc : TypeId × Value → H} {W : World} {base fuel : Nat} {v : Value} {x : DataW H × List MemPlace} (hok : Value.okWide Tryd.prog W .any base 25 v) (h : DataW.trod enc Tryd.prog W 0 (fun _ => true) true fuel 25 v.cells.toList = some x) :
    ∃ r : List (BitVec 8), v = .agg (r.map U8).toArray ∧ r.length = 12 := arr8_of (by kernel_rfl) (by kernel_rfl) hok h
end Go.Proofs.YtakgpocehoeakaaDoor
