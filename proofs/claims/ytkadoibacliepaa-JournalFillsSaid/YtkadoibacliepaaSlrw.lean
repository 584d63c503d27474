/-
  Of no statement by itself: a range over a function of two values whose rounds write what the iterator reads: the invariant tells what it reads; and whose assignments may make memory; for any program P.
  Conditions: each rule's own hypotheses.
-/
import Derived.Test.YtkadoibacliepaaSlfr
namespace Go.Proofs.Ytkadoibacliepaa
set_option maxRecDepth 10000
open Go.RowKit
namespace Sl
theorem Holds.unbaseS {w0 w w' : World} {S : List Nat} {M M' : List Ent} (h : Holds w0 S M w) (h' : Holds w (wrs M) M' w') : Holds w0 S M' w' := by
  have hs : ∀ k ∈ wrs M, k ∈ S ∨ w0.heap.size ≤ k := fun k hk => by
    obtain ⟨e, he, hw, rfl⟩ := mem_wrs.1 hk
    exact (h.all e he).2 hw
  refine ⟨⟨h'.chg.os.trans h.chg.os, h'.chg.tape.trans h.chg.tape, h'.chg.output.trans h.chg.output, Nat.le_trans h.chg.size h'.chg.size, fun k hk hS => ?_⟩, h'.nodup, fun e he => ⟨(h'.all e he).1, fun hw => ?_⟩⟩
  · refine (h'.chg.block k (Nat.lt_of_lt_of_le hk h.chg.size) fun hm => ?_).trans (h.chg.block k hk hS)
    rcases hs k hm with h | h
    · exact hS h
    · omega
  · rcases (h'.all e he).2 hw with hk | hk
    · exact hs _ hk
    · exact .inr (Nat.le_trans h.chg.size hk)
theorem Holds.stillS {w0 W W' : World} {S : List Nat} {M : List Ent} {row : Option Nat} (h : Holds w0 S M W) (hc : ∀ e ∈ M, ∀ o, e.A o → o.isCells = true) (hg : W.grownBy W' row) (hr : ∀ k, row = some k → w0.heap.size ≤ k ∧ ∃ o : Obj, W.heap[k]? = some o ∧ o.isCells = false) : Holds w0 S M W' := by
  refine ⟨⟨hg.os.trans h.chg.os, hg.tape.trans h.chg.tape, hg.output.trans h.chg.output, Nat.le_trans h.chg.size hg.size, fun k hk hS => ?_⟩, h.nodup, fun e he => ⟨?_, (h.all e he).2⟩⟩
  · exact (hg.block k (Nat.lt_of_lt_of_le hk h.chg.size) (fun e => by have := (hr k e.symm).1; omega)).trans (h.chg.block k hk hS)
  · obtain ⟨o, ho, hA⟩ := (h.all e he).1
    refine ⟨o, (hg.block e.b (h.lt he) fun e' => ?_).trans ho, hA⟩
    obtain ⟨_, o2, ho2, hn⟩ := hr _ e'.symm
    rw [ho] at ho2
    cases ho2
    rw [hc e he o hA] at hn
    cases hn
theorem Holds.markS {w0 W : World} {S : List Nat} {M : List Ent} {D : Nat} (h : Holds w0 S M W) (hc : ∀ e ∈ M, ∀ o, e.A o → o.isCells = true) (hD : w0.heap.size ≤ D) (hk : W.heap[D]? = some (.deferred (some []))) : Holds w0 S (⟨D, Dead, true⟩ :: M) W := by
  refine ⟨h.chg, ?_, fun e he => ?_⟩
  · simp only [List.map_cons, List.nodup_cons, h.nodup, and_true]
    intro hm
    obtain ⟨e, he, hb⟩ := List.mem_map.1 hm
    obtain ⟨o, ho, hA⟩ := (h.all e he).1
    rw [hb, hk] at ho
    cases ho
    have := hc e he _ hA
    cases this
  · rcases List.mem_cons.1 he with rfl | he
    · exact ⟨⟨_, hk, rfl⟩, fun _ => .inr hD⟩
    · exact h.all e he
/-- the iterator, over what Rc tells that it reads in round k -/
def SeqB (P : Program) (gf : Nat) (lb : Array Value) (enc : Nat → Value × Value) (Rc : Nat → World → Prop) (N : Nat) : Prop :=
  ∀ (l : Nat) (J : Nat → World → Prop) (X : World → Prop) (W : World), (∀ k W1, J k W1 → Rc k W1) → (∀ k W1 W2, J k W1 → Ext W1 W2 → J k W2) →
    (∀ k W1, k < N → J k W1 → YieldAt Fence.wide 1 P l #[(enc k).1, (enc k).2] W1 fun e W' => (e = .returned (.bool true) ∧ J (k + 1) W') ∨ (e = .returned (.bool false) ∧ X W')) →
    J 0 W → CallsIn Fence.wide 2 P gf (#[.func (.yield l) #[] #[]] ++ lb) W fun e W' => (∃ v, e = .returned v) ∧ (J N W' ∨ X W')
def asgQ {ι : Type} (n : Nat) (I : ι → Prop) (Ei : ι → Env) (Mi : ι → List Ent) (w1 : World) (S1 : List Nat) : Exit → Act → World → Prop
  | .normal, a, W' => ∃ i, I i ∧ Knows n (Ei i) a ∧ Holds w1 S1 (Mi i) W'
  | _, _, _ => False
theorem lo_asgQ {ι : Type} {n : Nat} {I : ι → Prop} {Ei : ι → Env} {Mi : ι → List Ent} {w1 : World} {S1 : List Nat} : ¬ LetsOut (asgQ n I Ei Mi w1 S1) := fun ⟨_, _, h⟩ => h
theorem JE.asg {ι : Type} {n : Nat} {I : ι → Prop} {Ei : ι → Env} {Mi : ι → List Ent} {w1 : World} {S1 : List Nat} {E : Env} {M : List Ent} (i : ι) (hi : I i) (hE : SubE E (Ei i)) (hM : Less (Mi i) M) : JE n w1 S1 (asgQ n I Ei Mi w1 S1) .normal E M := ⟨fun _ _ ha hw => ⟨i, hi, ha.sub hE, hw.weak hM⟩⟩
theorem JC.rangeW {P : Program} {n : Nat} {w0 : World} {S : List Nat} {Q : Exit → Act → World → Prop} {E : Env} {M : List Ent} {ι κ τ : Type} {g : Operand} {p1 p2 : Nat} {asg body : Code} {gf : Nat} {lb : Array Value} (enc : Nat → Value × Value) (Rc : Nat → World → Prop) (N : Nat)
    (Mi : ι → List Ent) (Inv : Nat → ι → Prop) (Mt : τ → List Ent) (Et : Nat → τ → Env) (Mid : Nat → τ → Prop) (Mx : κ → List Ent) (Fin : κ → Prop) (hg : ev E g = some (.func (.func gf) #[] lb)) (eg : ∀ args w, (callFunc gf args).run P w = .ok (.enter gf args) w)
    (hseq : SeqB P gf lb enc Rc N) (hRc : ∀ k i W, Inv k i → Holds w0 S (Mi i) W → Rc k W)
    (hcell : ∀ i, ∀ e ∈ Mi i, ∀ o, e.A o → o.isCells = true) (hcelt : ∀ i, ∀ e ∈ Mt i, ∀ o, e.A o → o.isCells = true) (hcelx : ∀ i, ∀ e ∈ Mx i, ∀ o, e.A o → o.isCells = true)
    (i0 : ι) (h0 : Inv 0 i0) (hM : ∀ w, Holds w0 S M w → Holds w0 S (Mi i0) w) (hp1 : Nat.blt p1 n = true) (hp2 : Nat.blt p2 n = true)
    (hasg : ∀ l k i w1, Inv k i → k < N → Holds w0 S (Mi i) w1 → JR P n w1 (wrs (Mi i)) l 1 (asgQ n (Mid k) (Et k) Mt w1 (wrs (Mi i))) asg ((p2, (enc k).2) :: (p1, (enc k).1) :: E) (Mi i))
    (hbody : ∀ l k t w1, Mid k t → k < N → Holds w0 S (Mt t) w1 → JR P n w1 (wrs (Mt t)) l 1 (roundX Mi Inv Mx Fin k w1 (wrs (Mt t))) body (Et k t) (Mt t))
    (hdone : ∀ D i, Inv N i → KE D n w0 S Q .normal E (⟨D, Dead, true⟩ :: Mi i))
    (hstop : ∀ D x, Fin x → KE D n w0 S Q .ret E (⟨D, Dead, true⟩ :: Mx x)) :
    JC P n w0 S Q (.rangeFunc g #[p1, p2] asg body) E M := by
  refine ⟨fun a w ha hw => (wpIn_wide (n := 3)).1 (wpIn_rangeFunc fun fn hfn => ?_)⟩
  let R : LoopState → Option Code → Loop := fun st pe => { state := st, pending := pe, fn := fn, tmps := a.tmps, params := #[p1, p2], assign := asg, body := body, defers := w.heap.size }
  have hsw0 : w0.heap.size ≤ w.heap.size := hw.chg.size
  have gw : Holds w0 S (Mi i0) w := hM w hw
  have a1 : Holds w0 S (Mi i0) (w.alloc (.deferred (some []))) := gw.stillS (hcell i0) (World.grownBy_alloc w _ none) nofun
  have a2 : Holds w0 S (Mi i0) ((w.alloc (.deferred (some []))).alloc (.loop (R .ready none))) := a1.stillS (hcell i0) (World.grownBy_alloc _ _ none) nofun
  have hLp : ((w.alloc (.deferred (some []))).alloc (.loop (R .ready none))).heap[w.heap.size + 1]? = some (.loop (R .ready none)) := by
    have := World.alloc_heap_new (w.alloc (.deferred (some []))) (.loop (R .ready none))
    rwa [World.size_alloc] at this
  have hDp : ((w.alloc (.deferred (some []))).alloc (.loop (R .ready none))).heap[w.heap.size]? = some (.deferred (some [])) :=
    (RowKit.Below.heap_alloc _ _ _ (by simp)).trans (World.alloc_heap_new w _)
  obtain ⟨W1, hW1⟩ : ∃ W1, (w.alloc (.deferred (some []))).alloc (.loop (R .ready none)) = W1 := ⟨_, rfl⟩
  rw [hW1] at a2 hLp hDp
  have notin : ∀ {X : List Ent} {W : World} {b : Nat} {o : Obj}, (∀ e ∈ X, ∀ o, e.A o → o.isCells = true) → Holds w0 S X W → W.heap[b]? = some o → o.isCells = false → b ∉ wrs X := fun {X W b o} hX hH hb ho hm => by
    obtain ⟨e, he, _, rfl⟩ := mem_wrs.1 hm
    obtain ⟨o', ho', hA⟩ := (hH.all e he).1
    rw [hb] at ho'
    cases ho'
    rw [hX e he _ hA] at ho
    cases ho
  refine ⟨w.heap.size + 1, [Sl.mk w.heap.size], W1, { target := .fn (.func gf) lb, args := #[.func (.yield (w.heap.size + 1)) #[] #[]] }, W1, gf, #[.func (.yield (w.heap.size + 1)) #[] #[]] ++ lb, W1, ?_, ?_, fun _ _ => trivial, ?_, (fun h => by cases h), ?_⟩
  · rw [← hW1]
    exact run_enterLoop_outer _ _ _ _ _
  · simp only [resolve, ha.eval hg]
    simp [go_sem]
  · simp [invoke, go_sem, eg]
  refine (hseq (w.heap.size + 1) (fun k W => (∃ i, Inv k i ∧ Holds w0 S (Mi i) W) ∧ W.heap[w.heap.size + 1]? = some (.loop (R .ready none)) ∧ W.heap[w.heap.size]? = some (.deferred (some [])))
    (fun W => (∃ x, Fin x ∧ Holds w0 S (Mx x) W) ∧ W.heap[w.heap.size + 1]? = some (.loop (R .done (some .ret))) ∧ W.heap[w.heap.size]? = some (.deferred (some []))) W1 ?_ ?_ ?_ ⟨⟨i0, h0, a2⟩, hLp, hDp⟩).mono ?_
  · rintro k W ⟨⟨i, hi, hH⟩, _⟩
    exact hRc k i W hi hH
  · rintro k Wa Wb ⟨⟨i, hi, hH⟩, hl, hd⟩ hx
    exact ⟨⟨i, hi, hH.ext hx⟩, (hx.block _ (Array.getElem?_eq_some_iff.1 hl).1 (by simp)).trans hl, (hx.block _ (Array.getElem?_eq_some_iff.1 hd).1 (by simp)).trans hd⟩
  · -- one round
    rintro k W hk ⟨⟨i, hi, hH⟩, hl, hd⟩
    refine ⟨fn, _, asg, body, run_yield (P := P) (args := #[(enc k).1, (enc k).2]) hl rfl, roundIn_of_wpIn hfn ?_⟩
    show Code.wpIn (Rd (w.heap.size + 1)) 1 P _ _ ({ tmps := (#[p1, p2].zip #[(enc k).1, (enc k).2]).foldl (fun t (x : Nat × Value) => t.setIfInBounds x.1 x.2) a.tmps, defers := [] } : Act) W
    rw [put_zip a p1 p2 _ _ ha.defers]
    have k2 := (ha.put p1 (enc k).1 hp1).put p2 (enc k).2 hp2
    have nl0 := notin (hcell i) hH hl rfl
    have nd0 := notin (hcell i) hH hd rfl
    refine wpIn_mono ((hasg (w.heap.size + 1) k i W hi hk hH).go _ W k2 hH.rebase) ?_
    rintro e a1 Wa hq
    cases e with
    | exit id => exact hq.elim
    | goto t => exact hq.elim
    | panic ch => exact hq.elim
    | outgrown => exact hq.elim
    | ret => exact hq.elim
    | normal =>
    obtain ⟨t, ht, k3, hHa⟩ := hq
    have hH' : Holds w0 S (Mt t) Wa := hH.unbaseS hHa
    have hl' : Wa.heap[w.heap.size + 1]? = some (.loop (R .ready none)) := (hHa.chg.block _ (Array.getElem?_eq_some_iff.1 hl).1 nl0).trans hl
    have hd' : Wa.heap[w.heap.size]? = some (.deferred (some [])) := (hHa.chg.block _ (Array.getElem?_eq_some_iff.1 hd).1 nd0).trans hd
    refine ⟨_, run_beginRound hl' rfl, ?_⟩
    have hlt : w.heap.size + 1 < Wa.heap.size := (Array.getElem?_eq_some_iff.1 hl').1
    obtain ⟨W2, hW2⟩ : ∃ W2, Wa.putObj (w.heap.size + 1) (.loop { R .ready none with state := .busy }) = W2 := ⟨_, rfl⟩
    have hH2 : Holds w0 S (Mt t) W2 := hW2 ▸ hH'.stillS (hcelt t) (grownBy_putObj' Wa _ _) (fun r e => by cases e; exact ⟨by omega, _, hl', rfl⟩)
    have hl2 : W2.heap[w.heap.size + 1]? = some (.loop (R .busy none)) := hW2 ▸ World.putObj_heap_same hlt
    have hd2' : W2.heap[w.heap.size]? = some (.deferred (some [])) := by rw [← hW2]; exact (World.putObj_heap_other (by omega)).trans hd'
    rw [hW2]
    refine wpIn_mono ((hbody (w.heap.size + 1) k t W2 ht hk hH2).go _ W2 k3 hH2.rebase) ?_
    have nl := notin (hcelt t) hH2 hl2 rfl
    have nd := notin (hcelt t) hH2 hd2' rfl
    have hs2 : w.heap.size + 1 < W2.heap.size := (Array.getElem?_eq_some_iff.1 hl2).1
    -- what is kept from the round's beginning on
    have kept : ∀ {Mj : List Ent} {W3 : World}, Holds W2 (wrs (Mt t)) Mj W3 → W3.heap[w.heap.size + 1]? = some (.loop (R .busy none)) ∧ W3.heap[w.heap.size]? = some (.deferred (some [])) := fun {Mj W3} h3 =>
      ⟨(h3.chg.block _ hs2 nl).trans hl2, (h3.chg.block _ (by omega) nd).trans hd2'⟩
    rintro e a3 W3 hq
    cases e with
    | normal =>
      obtain ⟨j, hj, h3⟩ := hq
      obtain ⟨hl3, hd3⟩ := kept h3
      have hu := hH2.unbaseS h3
      exact ⟨_, _, run_endRound (P := P) none hl3, .inl ⟨rfl, ⟨⟨j, hj, hu.stillS (hcell j) (grownBy_putObj' W3 _ _) (fun r e => by cases e; exact ⟨by omega, _, hl3, rfl⟩)⟩, World.putObj_heap_same (Array.getElem?_eq_some_iff.1 hl3).1, (World.putObj_heap_other (by omega)).trans hd3⟩⟩⟩
    | ret =>
      obtain ⟨x, hx, h3⟩ := hq
      obtain ⟨hl3, hd3⟩ := kept h3
      have hu := hH2.unbaseS h3
      exact ⟨_, _, run_endRound (P := P) (some .ret) hl3, .inr ⟨rfl, ⟨x, hx, hu.stillS (hcelx x) (grownBy_putObj' W3 _ _) (fun r e => by cases e; exact ⟨by omega, _, hl3, rfl⟩)⟩, World.putObj_heap_same (Array.getElem?_eq_some_iff.1 hl3).1, (World.putObj_heap_other (by omega)).trans hd3⟩⟩
    | exit id => exact hq.elim
    | goto t => exact hq.elim
    | panic ch => exact hq.elim
    | outgrown => exact hq.elim
  · -- behind the iterator
    have know : KnowsM w.heap.size n E { a with defers := [Sl.mk w.heap.size] ++ a.defers } := ⟨by show _ ++ a.defers = _; rw [ha.defers]; rfl, ⟨ha.size, rfl, ha.all⟩⟩
    rintro e W2 ⟨⟨v, rfl⟩, (⟨⟨i, hi, hH⟩, hl, hd⟩ | ⟨⟨x, hx, hH⟩, hl, hd⟩)⟩
    · have h4 := hH.stillS (hcell i) (grownBy_putObj' W2 (w.heap.size + 1) (.loop { R .ready none with state := .exhausted })) (fun r e => by cases e; exact ⟨by omega, _, hl, rfl⟩)
      exact ⟨none, _, run_endLoop hl (by simp [R]), (hdone w.heap.size i hi).go _ _ know (h4.markS (hcell i) hsw0 ((World.putObj_heap_other (by omega)).trans hd))⟩
    · have h4 := hH.stillS (hcelx x) (grownBy_putObj' W2 (w.heap.size + 1) (.loop { R .done (some .ret) with state := .exhausted })) (fun r e => by cases e; exact ⟨by omega, _, hl, rfl⟩)
      exact ⟨some .ret, _, run_endLoop hl (by simp [R]), wpIn_ret ((hstop w.heap.size x hx).go _ _ know (h4.markS (hcelx x) hsw0 ((World.putObj_heap_other (by omega)).trans hd)))⟩
end Sl
end Go.Proofs.Ytkadoibacliepaa
