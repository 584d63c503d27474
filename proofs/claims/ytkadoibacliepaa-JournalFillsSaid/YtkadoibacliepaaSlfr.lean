/-
  Of no statement by itself: ranges over functions whose rounds come in an order that is told ahead (round k gets the k-th two values), and may leave the function; a round's body with regions whose order is open; for any program P.
  Conditions: each rule's own hypotheses.
-/
import Derived.Test.YtkadoibacliepaaSlfi
import Derived.Test.YtkadoibacliepaaSlgr
import Derived.OrdersIn
namespace Go.Proofs.Ytkadoibacliepaa
namespace Sl
/-! ### more steps of a round -/
section
variable {P : Program} {m l : Nat}
theorem wpOpIn_of_wpOp {ops : Array Oper} {Q : Exit → Act → World → Prop} {i : Nat} {K K' : Act → World → Prop} {a : Act} {w : World} (hd : ops.toList.all noDef = true) (hQ : ¬ LetsOut Q) (hK : ∀ a w, K a w → K' a w) (h : wpOp P ops Q i K a w) : wpOpIn (Rd l) m P ops Q i K' a w := by
  unfold wpOp at h
  unfold wpOpIn
  cases ho : ops[i]? with
  | none => rw [ho] at h; exact hK _ _ h
  | some o =>
    rw [ho] at h
    have hno : noDef o = true := List.all_eq_true.1 hd o (by
      have := Array.mem_of_getElem? ho
      exact Array.mem_toList_iff.2 this)
    dsimp only at h ⊢
    by_cases hw : Region.wanted o (yielded ops a.tmps) = true
    · rw [if_pos hw] at h ⊢
      rcases h with h | h
      · exact wpIn_of_wp hno hQ hK h
      · exact absurd h.2 hQ
    · rw [if_neg hw] at h ⊢
      exact ⟨fun _ _ => trivial, hK _ _ h⟩
theorem wpAnyIn_of_wpAny {md : Region.Mode} {ops : Array Oper} {Q : Exit → Act → World → Prop} (hd : ops.toList.all noDef = true) (hQ : ¬ LetsOut Q) : ∀ (fuel : Nat) (listed : Array Bool) (a : Act) (w : World), wpAny P md ops Q fuel listed a w → wpAnyIn (Rd l) m P md ops Q fuel listed a w
  | 0, _, _, _, h => h
  | fuel + 1, listed, a, w, h => ⟨h.1, fun i hi => wpOpIn_of_wpOp hd hQ (fun a w => wpAnyIn_of_wpAny hd hQ fuel _ a w) (h.2 i hi)⟩
end
section
variable {P : Program} {n : Nat} {w0 : World} {S : List Nat} {Q Q' : Exit → Act → World → Prop} {E : Env} {M : List Ent} {m r : Nat}
theorem JR.growR {Y : Type} {l : List Oper} [Inhabited Y] (g : GrowR Y) (outs : List (Nat × Nat)) (ends : List Nat) {id : Nat} (hd : l.all noDef = true) (hQ : ¬ LetsOut Q) (hm : P.follows .mixedOrders = true) (hE : SubE E g.E0) (hE1 : ∀ i, i < l.length → SubE E (g.E1 i)) (hM : Less (((List.range g.N).filter fun j => decide (l.length ≤ j)).flatMap fun j => g.M j default) M)
    (hok : g.okFrom l 0 l = true) (ho : (outs.all fun p => decide (p.1 < l.length) && dstOf l p.1 == some p.2) = true)
    (he : (noDup ends && ends.all fun j => decide (j < g.N) && (List.range l.length).all fun k => !(g.eat k).contains j) = true)
    (hj : g.Jobs P n w0 S l 0 l)
    (k : ∀ x : Nat → Y, (∀ j k, j < l.length → g.src j = some k → g.R j (x j) (x k)) → JE n w0 S Q .normal (outs.map (fun p => (p.2, g.v p.1 (x p.1))) ++ g.E0) (ends.flatMap fun j => g.M j (x j))) : JR P n w0 S r m Q (.region id l.toArray true) E M :=
  ⟨fun a w ha hw => wpIn_region_any hm (wpAnyIn_of_wpAny (by simpa using hd) hQ _ _ _ _ (growR_any g outs ends hE hE1 hM hok ho he hj k ha hw))⟩
theorem JR.cond {c : Operand} {x y : Code} {t : Bool} (hc : ev E c = some (.bool t)) (ht : t = true → JR P n w0 S r m Q x E M) (hf : t = false → JR P n w0 S r m Q y E M) : JR P n w0 S r m Q (.cond c x y) E M :=
  ⟨fun a w ha hw => wpIn_cond_split (ha.eval hc) (fun h => (ht h).go a w ha hw) (fun h => (hf h).go a w ha hw)⟩
theorem JR.skip (h : JE n w0 S Q .normal E M) : JR P n w0 S r m Q .skip E M := ⟨fun a w ha hw => wpIn_skip (h.go a w ha hw)⟩
theorem JR.ret (h : JE n w0 S Q .ret E M) : JR P n w0 S r m Q .ret E M := ⟨fun a w ha hw => wpIn_ret (h.go a w ha hw)⟩
theorem JR.less {c : Code} {M' : List Ent} (hM : Less M' M) (h : JR P n w0 S r m Q c E M') : JR P n w0 S r m Q c E M := ⟨fun a w ha hw => h.go a w ha (hw.weak hM)⟩
theorem JR.perm {c : Code} {M' : List Ent} (hp : M.Perm M') (h : JR P n w0 S r m Q c E M') : JR P n w0 S r m Q c E M := ⟨fun a w ha hw => h.go a w ha (hw.perm hp)⟩
end
/-- a call out of an iterator's own text -/
theorem FL.callx {P : Program} {n m : Nat} {W : World} {ops : Array Oper} {Q : Exit → Act → World → Prop} {os : List Oper} {E : Env} {d : Nat} {ty : TypeId} {pos : String} {aft : Array Edge} {v : Value} {f : FuncId} {xs : List Operand} {ats : Array TypeId} {vs : List Value} (hg : Goes P f) (hx : evs E xs = some vs) (hd : Nat.blt d n = true)
    (hc : Calls P f vs.toArray W fun e w' => e = .returned v ∧ Ext W w') (k : ∀ W', Ext W W' → FL P n m W' ops Q os ((d, v) :: E)) : FL P n m W ops Q (⟨some d, .call ⟨.value (.func f), xs.toArray, ats⟩, ty, pos, aft, none⟩ :: os) E :=
  ⟨fun a ha => wpListIn_plain rfl fun K hK => by
    refine ⟨fun _ _ => trivial, ?_⟩
    have e : Oper.semAt Fence.wide.round a.eval ⟨some d, .call ⟨.value (.func f), xs.toArray, ats⟩, ty, pos, aft, none⟩ = execOp a.eval ⟨some d, .call ⟨.value (.func f), xs.toArray, ats⟩, ty, pos, aft, none⟩ := rfl
    rw [e, exec_call hg ha hx W]
    refine ⟨fun h => (by cases h), (callsIn_wide (n := m - 1)).2 (hc.mono ?_)⟩
    rintro e w2 ⟨rfl, h2⟩
    exact hK _ _ ((k w2 h2).go _ (ha.put d v hd))⟩
/-- a call of yield with two values -/
theorem FL.yield2 {P : Program} {n : Nat} {W : World} {ops : Array Oper} {Q : Exit → Act → World → Prop} {os : List Oper} {E : Env} {d : Nat} {ty : TypeId} {pos : String} {aft : Array Edge} {v v' : Value} {l : Nat} {x y y' : Operand} {t t' : TypeId} {R : Ending → World → Prop} (hx : ev E x = some (.func (.yield l) #[] #[])) (hy : ev E y = some v) (hy' : ev E y' = some v') (hd : Nat.blt d n = true) (h : YieldAt Fence.wide 1 P l #[v, v'] W R)
    (hR : ∀ e W', R e W' → ∃ b, e = .returned (.bool b) ∧ FL P n 2 W' ops Q os ((d, .bool b) :: E)) : FL P n 2 W ops Q (⟨some d, .call ⟨.value x, #[y, y'], #[t, t']⟩, ty, pos, aft, none⟩ :: os) E :=
  ⟨fun a ha => wpListIn_plain rfl fun K hK => by
    obtain ⟨fn, tmps, assign, body, hrun, hro⟩ := h
    refine ⟨fun _ _ => trivial, ?_⟩
    have e : (Oper.semAt Fence.wide.round a.eval ⟨some d, .call ⟨.value x, #[y, y'], #[t, t']⟩, ty, pos, aft, none⟩).run P W = .ok (.round l fn tmps assign body) W := by
      have e0 : Oper.semAt Fence.wide.round a.eval ⟨some d, .call ⟨.value x, #[y, y'], #[t, t']⟩, ty, pos, aft, none⟩ = execOp a.eval ⟨some d, .call ⟨.value x, #[y, y'], #[t, t']⟩, ty, pos, aft, none⟩ := rfl
      rw [e0]
      simp only [execOp, resolve, Sem.run_bind, ha.eval hx, List.map_toArray, List.map_cons, List.map_nil, ha.eval hy, ha.eval hy', Deferred.ofValue, Sem.run_pure, Result.andThen_ok, invoke]
      simpa using hrun
    rw [e]
    refine ⟨fun h => (by cases h), hro.mono fun e W' hr => ?_⟩
    obtain ⟨b, rfl, hl⟩ := hR e W' hr
    exact hK _ _ (hl.go _ (ha.put d _ hd))⟩
/-- two ways that meet again, in an iterator's own text -/
theorem FC.mid {P : Program} {n : Nat} {W : World} {Q : Exit → Act → World → Prop} {E : Env} {x y : Code} (Em : Env) (h : FC P n W (Exit.then (fun a w => Knows n Em a ∧ w = W) Q) x E) (k : FC P n W Q y Em) : FC P n W Q (.seq x y) E :=
  ⟨fun a ha => wp_seq (wp_mono (h.go a ha) fun e a' w' he => by
    cases e with
    | normal => obtain ⟨h1, rfl⟩ := he; exact k.go a' h1
    | exit _ => exact he
    | goto _ => exact he
    | ret => exact he
    | panic _ => exact he
    | outgrown => exact he)⟩
theorem FE.mid {n : Nat} {W : World} {Q : Exit → Act → World → Prop} {E Em : Env} (hE : SubE E Em) : FE n W (Exit.then (fun a w => Knows n Em a ∧ w = W) Q) .normal E := ⟨fun _ ha => ⟨ha.sub hE, rfl⟩⟩
/-! ### behind the loop -/
section
variable {P : Program} {D n : Nat} {w0 : World} {S : List Nat} {ops : Array Oper} {Q Q' : Exit → Act → World → Prop} {os : List Oper} {E : Env} {M : List Ent} {d : Nat} {op : Op} {ty : TypeId} {pos : String} {aft : Array Edge} {v : Value}
theorem KL.store_eq {M' : List Ent} {r r' : List Value} {e t : TypeId} {x y : Operand} {b j : Nat} (hz : szT P t = some 1) (hx : ev E x = some (.pointer (some ⟨b, j, none⟩))) (hy : ev E y = some v) (hv : v.oneCell' = true) (hcl : v.cells = #[v]) (hu : Upd M b (Row e r) (Row e r') M') (hj : j < r.length) (he : r.set j v = r')
    (k : KL P D n w0 S ops Q os E M') : KL P D n w0 S ops Q (⟨none, .store t x y, ty, pos, aft, none⟩ :: os) E M :=
  ⟨fun a w ha hw => wpList_plain rfl fun K hK => by
    obtain ⟨o, ho, hAo⟩ := hw.get hu.has
    cases hAo
    have hA' : Row e r' (.cells (r.toArray.setIfInBounds j v) e (0, 0)) := by simp [Row, he]
    have hs : (storeCells ⟨b, j, none⟩ [v] 0).run P w = .ok () (w.setCell ⟨b, j, none⟩ v) := by
      simp only [storeCells, Sem.run_bind, add_off, Nat.add_zero]
      rw [store_run hv ho (by simpa using hj)]; rfl
    have h1 : (execOp a.eval ⟨none, .store t x y, ty, pos, aft, none⟩).run P w = .ok .skip (w.setCell ⟨b, j, none⟩ v) := by
      simp [execOp, ha.eval hx, ha.eval hy, Instr.storeAt, Instr.sureAddr, Sem.run_bind, storeVar, sizeOf_run hz, hcl, hs]
    unfold Oper.wp
    rw [h1]
    exact hK _ _ (k.go _ _ ⟨ha.defers, ha.base⟩ (hw.write hu hA' (setCell_heap ho) setCell_size (fun _ h => setCell_other h) rfl rfl rfl))⟩
theorem KE.blk_ret {id : Nat} (h : KE D n w0 S Q .ret E M) : KE D n w0 S (Exit.inBlock id Q) .ret E M := ⟨h.go⟩
theorem KE.ret2x {m : Nat} {fn : Func} {R : Ending → World → Prop} {r1 r2 : ResultVar} {v1 v2 : Value} (hr : fn.results = #[r1, r2]) (h1 : RV P n w0 S E M r1 v1) (h2 : RV P n w0 S E M r2 v2) (hR : ∀ w, Holds w0 S M w → R (.returned (.tuple #[v1, v2])) w) : KE D n w0 S (bodyPostM Fence.wide m P fn R) .ret E (⟨D, Dead, true⟩ :: M) := by
  refine ⟨fun a w ha hw => leaves_mark (v := .tuple #[v1, v2]) ha hw (fun w' hw' => ?_) hR⟩
  have e1 := h1 _ w' ha.base hw'
  have e2 := h2 _ w' ha.base hw'
  dsimp only at e1 e2
  rw [results_eq, hr]
  simp [e1, e2, Sem.run_bind]
end
/-- out of such a function ahead of its loop -/
theorem JE.ret2M {P : Program} {n m : Nat} {w0 : World} {S : List Nat} {E : Env} {M : List Ent} {fn : Func} {R : Ending → World → Prop} {r1 r2 : ResultVar} {v1 v2 : Value} (hr : fn.results = #[r1, r2]) (h1 : RV P n w0 S E M r1 v1) (h2 : RV P n w0 S E M r2 v2) (hR : ∀ w, Holds w0 S M w → R (.returned (.tuple #[v1, v2])) w) : JE n w0 S (bodyPostM Fence.wide m P fn R) .ret E M := by
  refine ⟨fun a w ha hw => ?_⟩
  show LeavesInM Fence.wide m P fn a.tmps R a.defers .returning w
  rw [ha.defers]
  refine ⟨.tuple #[v1, v2], ?_, hR w hw⟩
  have e1 := h1 a w ha hw
  have e2 := h2 a w ha hw
  rw [results_eq, hr]
  simp [Sem.run_bind, e1, e2]
/-! ### the statement -/
theorem Holds.still {w0 W W' : World} {M : List Ent} {row : Option Nat} (h : Holds w0 [] M W) (hc : ∀ e ∈ M, ∀ o, e.A o → o.isCells = true) (hg : W.grownBy W' row) (hr : ∀ k, row = some k → w0.heap.size ≤ k ∧ ∃ o : Obj, W.heap[k]? = some o ∧ o.isCells = false) : Holds w0 [] M W' := by
  refine ⟨⟨hg.os.trans h.chg.os, hg.tape.trans h.chg.tape, hg.output.trans h.chg.output, Nat.le_trans h.chg.size hg.size, fun k hk _ => ?_⟩, h.nodup, fun e he => ⟨?_, (h.all e he).2⟩⟩
  · refine (hg.block k (Nat.lt_of_lt_of_le hk h.chg.size) fun e => ?_).trans (h.chg.block k hk (by simp))
    have := (hr k e.symm).1
    omega
  · obtain ⟨o, ho, hA⟩ := (h.all e he).1
    refine ⟨o, (hg.block e.b (h.lt he) fun e' => ?_).trans ho, hA⟩
    obtain ⟨_, o2, ho2, hc2⟩ := hr _ e'.symm
    rw [ho] at ho2
    cases ho2
    rw [hc e he o hA] at hc2
    cases hc2
/-- an iterator that hands out N times two values, in this order, and stops where it is told to -/
def SeqN (P : Program) (gf : Nat) (lb : Array Value) (enc : Nat → Value × Value) (L : List Nat) (N : Nat) (W0 : World) : Prop :=
  ∀ (l : Nat) (J : Nat → World → Prop) (X : World → Prop) (W : World), RowKit.Below W0.heap.size W0 W → (∀ k W1 W2, J k W1 → Ext W1 W2 → J k W2) →
    (∀ k W1, k < N → J k W1 → YieldAt Fence.wide 1 P l #[(enc k).1, (enc k).2] W1 fun e W' => (e = .returned (.bool true) ∧ J (k + 1) W' ∧ KeepL L W1 W') ∨ (e = .returned (.bool false) ∧ X W')) →
    J 0 W → CallsIn Fence.wide 2 P gf (#[.func (.yield l) #[] #[]] ++ lb) W fun e W' => (∃ v, e = .returned v) ∧ (J N W' ∨ X W')
/-- how a round's body is left: at its end, or out of the function -/
def roundX {ι κ : Type} (Mi : ι → List Ent) (Inv : Nat → ι → Prop) (Mx : κ → List Ent) (Fin : κ → Prop) (k : Nat) (w1 : World) (S1 : List Nat) : Exit → Act → World → Prop
  | .normal, _, W' => ∃ j, Inv (k + 1) j ∧ Holds w1 S1 (Mi j) W'
  | .ret, _, W' => ∃ x, Fin x ∧ Holds w1 S1 (Mx x) W'
  | _, _, _ => False
theorem lo_roundX {ι κ : Type} {Mi : ι → List Ent} {Inv : Nat → ι → Prop} {Mx : κ → List Ent} {Fin : κ → Prop} {k : Nat} {w1 : World} {S1 : List Nat} : ¬ LetsOut (roundX Mi Inv Mx Fin k w1 S1) := fun ⟨_, _, h⟩ => h
section
variable {ι κ : Type} {Mi : ι → List Ent} {Inv : Nat → ι → Prop} {Mx : κ → List Ent} {Fin : κ → Prop} {k n : Nat} {w1 : World} {S1 : List Nat} {E : Env} {M : List Ent}
theorem JE.roundN (j : ι) (hj : Inv (k + 1) j) (hM : Less (Mi j) M) : JE n w1 S1 (roundX Mi Inv Mx Fin k w1 S1) .normal E M := ⟨fun _ _ _ hw => ⟨j, hj, hw.weak hM⟩⟩
theorem JE.roundX (x : κ) (hx : Fin x) (hM : Less (Mx x) M) : JE n w1 S1 (roundX Mi Inv Mx Fin k w1 S1) .ret E M := ⟨fun _ _ _ hw => ⟨x, hx, hw.weak hM⟩⟩
end
theorem put_zip (a : Act) (p1 p2 : Nat) (v1 v2 : Value) (hd : a.defers = []) : ({ tmps := (#[p1, p2].zip #[v1, v2]).foldl (fun t (x : Nat × Value) => t.setIfInBounds x.1 x.2) a.tmps, defers := [] } : Act) = (a.put (some p1) v1).put (some p2) v2 := by
  obtain ⟨tm, df⟩ := a
  simp only at hd
  subst hd
  simp [Act.put]
theorem Holds.mark {w0 W : World} {M : List Ent} {D : Nat} (h : Holds w0 [] M W) (hc : ∀ e ∈ M, ∀ o, e.A o → o.isCells = true) (hD : w0.heap.size ≤ D) (hk : W.heap[D]? = some (.deferred (some []))) : Holds w0 [] (⟨D, Dead, true⟩ :: M) W := by
  refine ⟨h.chg, ?_, fun e he => ?_⟩
  · simp only [List.map_cons, List.nodup_cons, h.nodup, and_true]
    intro hm
    obtain ⟨e, he, hb⟩ := List.mem_map.1 hm
    obtain ⟨o, ho, hA⟩ := (h.all e he).1
    rw [hb, hk] at ho
    cases ho
    have := hc e he _ hA
    cases this
  · rcases List.mem_cons.1 he with rfl | he
    · exact ⟨⟨_, hk, rfl⟩, fun _ => .inr hD⟩
    · exact h.all e he
theorem region_assign {P : Program} {n l m : Nat} {Q : Exit → Act → World → Prop} {E : Env} {a : Act} {W : World} {id p d : Nat} {ty : TypeId} {pos : String} {v : Value} (hx : lk E p = some v) (ha : Knows n E a) (hK : Q .normal (a.put (some d) v) W) :
    (Code.region id #[⟨some d, .assign (.tmp p), ty, pos, #[], none⟩] false).wpIn (Rd l) m P Q a W := by
  refine wpIn_region_lit (wpListIn_plain rfl fun K' hK' => ⟨fun _ _ => trivial, ?_⟩)
  have he : a.eval (.tmp p) = v := ha.eval (x := .tmp p) hx
  have hs : Oper.semAt (Rd l).round a.eval ⟨some d, .assign (.tmp p), ty, pos, #[], none⟩ = .pure (.value v) := by
    refine (Oper.semAt_some l _ _ ?_).trans ?_
    · intro c h; cases h
    show Sem.pure (Next.value (_ : Value)) = _
    exact congrArg (fun v => Sem.pure (Next.value v)) he
  show Oper.uponIn _ _ _ _ _ _ _ ((Oper.semAt (Rd l).round _ _).run P W)
  rw [hs]
  exact hK' _ _ (wpListIn_nil hK)
theorem JC.rangeN {P : Program} {n : Nat} {w0 : World} {Q : Exit → Act → World → Prop} {E : Env} {M : List Ent} {ι κ : Type} {g : Operand} {p1 p2 d1 d2 i1 i2 : Nat} {t1 t2 : TypeId} {s1 s2 : String} {body : Code} {gf : Nat} {lb : Array Value} (enc : Nat → Value × Value) (L : List Nat) (N : Nat)
    (Mi : ι → List Ent) (Inv : Nat → ι → Prop) (Mx : κ → List Ent) (Fin : κ → Prop) (hg : ev E g = some (.func (.func gf) #[] lb)) (eg : ∀ args w, (callFunc gf args).run P w = .ok (.enter gf args) w)
    (hseq : ∀ W, Holds w0 [] M W → SeqN P gf lb enc L N W)
    (hcell : ∀ i, ∀ e ∈ Mi i, ∀ o, e.A o → o.isCells = true) (hcelx : ∀ i, ∀ e ∈ Mx i, ∀ o, e.A o → o.isCells = true) (hL : ∀ i, ∀ k ∈ L, k < w0.heap.size ∨ ∃ A, Has (Mi i) k A false)
    (i0 : ι) (h0 : Inv 0 i0) (hM : ∀ w, Holds w0 [] M w → Holds w0 [] (Mi i0) w) (hp1 : Nat.blt p1 n = true) (hp2 : Nat.blt p2 n = true) (hd1 : Nat.blt d1 n = true) (hd2 : Nat.blt d2 n = true)
    (he1 : ∀ v1 v2, lk ((p2, v2) :: (p1, v1) :: E) p1 = some v1) (he2 : ∀ v1 v2, lk ((d1, v1) :: (p2, v2) :: (p1, v1) :: E) p2 = some v2)
    (hbody : ∀ l k i w1, Inv k i → k < N → Ext w0 w1 → (∀ b ∈ wrs (Mi i), w0.heap.size ≤ b) → JR P n w1 (wrs (Mi i)) l 1 (roundX Mi Inv Mx Fin k w1 (wrs (Mi i))) body ((d2, (enc k).2) :: (d1, (enc k).1) :: (p2, (enc k).2) :: (p1, (enc k).1) :: E) (Mi i))
    (hdone : ∀ D i, Inv N i → KE D n w0 [] Q .normal E (⟨D, Dead, true⟩ :: Mi i))
    (hstop : ∀ D x, Fin x → KE D n w0 [] Q .ret E (⟨D, Dead, true⟩ :: Mx x)) :
    JC P n w0 [] Q (.rangeFunc g #[p1, p2] (.seq (.region i1 #[⟨some d1, .assign (.tmp p1), t1, s1, #[], none⟩] false) (.region i2 #[⟨some d2, .assign (.tmp p2), t2, s2, #[], none⟩] false)) body) E M := by
  refine ⟨fun a w ha hw => (wpIn_wide (n := 3)).1 (wpIn_rangeFunc fun fn hfn => ?_)⟩
  have hLw : ∀ k ∈ L, k < w.heap.size := fun k hk => by
    rcases hL i0 k hk with h | ⟨A, h⟩
    · exact Nat.lt_of_lt_of_le h hw.chg.size
    · exact (hM w hw).lt h.mem
  -- the loop's record, ready, busy or done
  obtain ⟨asg, hasg⟩ : ∃ c : Code, c = .seq (.region i1 #[⟨some d1, .assign (.tmp p1), t1, s1, #[], none⟩] false) (.region i2 #[⟨some d2, .assign (.tmp p2), t2, s2, #[], none⟩] false) := ⟨_, rfl⟩
  rw [← hasg]
  let R : LoopState → Option Code → Loop := fun st pe => { state := st, pending := pe, fn := fn, tmps := a.tmps, params := #[p1, p2], assign := asg, body := body, defers := w.heap.size }
  have hsw0 : w0.heap.size ≤ w.heap.size := hw.chg.size
  have gw := hM w hw
  have a1 : Holds w0 [] (Mi i0) (w.alloc (.deferred (some []))) := gw.still (hcell i0) (World.grownBy_alloc w _ none) nofun
  have a2 : Holds w0 [] (Mi i0) ((w.alloc (.deferred (some []))).alloc (.loop (R .ready none))) := a1.still (hcell i0) (World.grownBy_alloc _ _ none) nofun
  have hLp : ((w.alloc (.deferred (some []))).alloc (.loop (R .ready none))).heap[w.heap.size + 1]? = some (.loop (R .ready none)) := by
    have := World.alloc_heap_new (w.alloc (.deferred (some []))) (.loop (R .ready none))
    rwa [World.size_alloc] at this
  have hDp : ((w.alloc (.deferred (some []))).alloc (.loop (R .ready none))).heap[w.heap.size]? = some (.deferred (some [])) :=
    (RowKit.Below.heap_alloc _ _ _ (by simp)).trans (World.alloc_heap_new w _)
  have hB : RowKit.Below w.heap.size w ((w.alloc (.deferred (some []))).alloc (.loop (R .ready none))) := ((RowKit.Below.refl _ w).alloc (Nat.le_refl _) _).alloc (by simp) _
  obtain ⟨W1, hW1⟩ : ∃ W1, (w.alloc (.deferred (some []))).alloc (.loop (R .ready none)) = W1 := ⟨_, rfl⟩
  rw [hW1] at a2 hLp hDp hB
  have notin : ∀ {i : ι} {W : World} {b : Nat} {o : Obj}, Holds w0 [] (Mi i) W → W.heap[b]? = some o → o.isCells = false → b ∉ wrs (Mi i) := fun {i W b o} hH hb ho hm => by
    obtain ⟨e, he, _, rfl⟩ := mem_wrs.1 hm
    obtain ⟨o', ho', hA⟩ := (hH.all e he).1
    rw [hb] at ho'
    cases ho'
    rw [hcell i e he _ hA] at ho
    cases ho
  refine ⟨w.heap.size + 1, [Sl.mk w.heap.size], W1, { target := .fn (.func gf) lb, args := #[.func (.yield (w.heap.size + 1)) #[] #[]] }, W1, gf, #[.func (.yield (w.heap.size + 1)) #[] #[]] ++ lb, W1, ?_, ?_, fun _ _ => trivial, ?_, (fun h => by cases h), ?_⟩
  · rw [← hW1]
    exact run_enterLoop_outer _ _ _ _ _
  · simp only [resolve, ha.eval hg]
    simp [go_sem]
  · simp [invoke, go_sem, eg]
  refine (hseq w hw (w.heap.size + 1) (fun k W => (∃ i, Inv k i ∧ Holds w0 [] (Mi i) W) ∧ W.heap[w.heap.size + 1]? = some (.loop (R .ready none)) ∧ W.heap[w.heap.size]? = some (.deferred (some [])))
    (fun W => (∃ x, Fin x ∧ Holds w0 [] (Mx x) W) ∧ W.heap[w.heap.size + 1]? = some (.loop (R .done (some .ret))) ∧ W.heap[w.heap.size]? = some (.deferred (some []))) W1 hB ?_ ?_ ⟨⟨i0, h0, a2⟩, hLp, hDp⟩).mono ?_
  · rintro k Wa Wb ⟨⟨i, hi, hH⟩, hl, hd⟩ hx
    exact ⟨⟨i, hi, hH.ext hx⟩, (hx.block _ (Array.getElem?_eq_some_iff.1 hl).1 (by simp)).trans hl, (hx.block _ (Array.getElem?_eq_some_iff.1 hd).1 (by simp)).trans hd⟩
  · -- one round
    rintro k W hk ⟨⟨i, hi, hH⟩, hl, hd⟩
    refine ⟨fn, _, asg, body, run_yield (P := P) (args := #[(enc k).1, (enc k).2]) hl rfl, roundIn_of_wpIn hfn ?_⟩
    rw [hasg]
    show Code.wpIn (Rd (w.heap.size + 1)) 1 P _ _ ({ tmps := (#[p1, p2].zip #[(enc k).1, (enc k).2]).foldl (fun t (x : Nat × Value) => t.setIfInBounds x.1 x.2) a.tmps, defers := [] } : Act) W
    rw [put_zip a p1 p2 _ _ ha.defers]
    have k2 := (ha.put p1 (enc k).1 hp1).put p2 (enc k).2 hp2
    have k3 := k2.put d1 (enc k).1 hd1
    have k4 := k3.put d2 (enc k).2 hd2
    refine wpIn_seq (region_assign (he1 _ _) k2 (region_assign (he2 _ _) k3 ⟨_, run_beginRound hl rfl, ?_⟩))
    have hlt : w.heap.size + 1 < W.heap.size := (Array.getElem?_eq_some_iff.1 hl).1
    obtain ⟨W2, hW2⟩ : ∃ W2, W.putObj (w.heap.size + 1) (.loop { R .ready none with state := .busy }) = W2 := ⟨_, rfl⟩
    have hH2 : Holds w0 [] (Mi i) W2 := hW2 ▸ hH.still (hcell i) (grownBy_putObj' W _ _) (fun r e => by cases e; exact ⟨by omega, _, hl, rfl⟩)
    have hl2 : W2.heap[w.heap.size + 1]? = some (.loop (R .busy none)) := hW2 ▸ World.putObj_heap_same hlt
    have hd2' : W2.heap[w.heap.size]? = some (.deferred (some [])) := by rw [← hW2]; exact (World.putObj_heap_other (by omega)).trans hd
    have kp2 : ∀ b, b < w.heap.size → W2.heap[b]? = W.heap[b]? := fun b hb => by rw [← hW2]; exact World.putObj_heap_other (by omega)
    have g2 : W2.os = W.os ∧ W2.tape = W.tape ∧ W2.output = W.output ∧ W2.heap.size = W.heap.size := by rw [← hW2]; exact ⟨rfl, rfl, rfl, World.putObj_size⟩
    rw [hW2]
    refine wpIn_mono ((hbody (w.heap.size + 1) k i W2 hi hk hH2.chg hH2.wrs_ge).go _ W2 k4 hH2.rebase) ?_
    have nl := notin hH2 hl2 rfl
    have nd := notin hH2 hd2' rfl
    have hs2 : w.heap.size + 1 < W2.heap.size := by rw [g2.2.2.2]; exact hlt
    -- what is kept from the round's beginning on
    have kept : ∀ {Mj : List Ent} {W3 : World}, Holds W2 (wrs (Mi i)) Mj W3 → W3.heap[w.heap.size + 1]? = some (.loop (R .busy none)) ∧ W3.heap[w.heap.size]? = some (.deferred (some [])) := fun {Mj W3} h3 =>
      ⟨(h3.chg.block _ hs2 nl).trans hl2, (h3.chg.block _ (by omega) nd).trans hd2'⟩
    rintro e a3 W3 hq
    cases e with
    | normal =>
      obtain ⟨j, hj, h3⟩ := hq
      obtain ⟨hl3, hd3⟩ := kept h3
      have hu := hH2.unbase h3
      refine ⟨_, _, run_endRound (P := P) none hl3, .inl ⟨rfl, ⟨⟨j, hj, hu.still (hcell j) (grownBy_putObj' W3 _ _) (fun r e => by cases e; exact ⟨by omega, _, hl3, rfl⟩)⟩, World.putObj_heap_same (Array.getElem?_eq_some_iff.1 hl3).1, (World.putObj_heap_other (by omega)).trans hd3⟩, ⟨h3.chg.os.trans g2.1, h3.chg.tape.trans g2.2.1, h3.chg.output.trans g2.2.2.1, ?_, fun b hb => ?_⟩⟩⟩
      · rw [World.putObj_size, ← g2.2.2.2]; exact h3.chg.size
      · have hbw := hLw b hb
        refine (World.putObj_heap_other (by omega)).trans ((h3.chg.block b (by omega) fun hm => ?_).trans (kp2 b hbw))
        rcases hL i b hb with hlt' | ⟨A, hA⟩
        · have := hH2.wrs_ge b hm; omega
        · obtain ⟨e, he, hwr, hbe⟩ := mem_wrs.1 hm
          have := nodup_inj hH2.nodup he hA.mem hbe
          subst this
          cases hwr
    | ret =>
      obtain ⟨x, hx, h3⟩ := hq
      obtain ⟨hl3, hd3⟩ := kept h3
      have hu := hH2.unbase h3
      exact ⟨_, _, run_endRound (P := P) (some .ret) hl3, .inr ⟨rfl, ⟨x, hx, hu.still (hcelx x) (grownBy_putObj' W3 _ _) (fun r e => by cases e; exact ⟨by omega, _, hl3, rfl⟩)⟩, World.putObj_heap_same (Array.getElem?_eq_some_iff.1 hl3).1, (World.putObj_heap_other (by omega)).trans hd3⟩⟩
    | exit id => exact hq.elim
    | goto t => exact hq.elim
    | panic ch => exact hq.elim
    | outgrown => exact hq.elim
  · -- behind the iterator
    have know : KnowsM w.heap.size n E { a with defers := [Sl.mk w.heap.size] ++ a.defers } := ⟨by show _ ++ a.defers = _; rw [ha.defers]; rfl, ⟨ha.size, rfl, ha.all⟩⟩
    rintro e W2 ⟨⟨v, rfl⟩, (⟨⟨i, hi, hH⟩, hl, hd⟩ | ⟨⟨x, hx, hH⟩, hl, hd⟩)⟩
    · have h4 := hH.still (hcell i) (grownBy_putObj' W2 (w.heap.size + 1) (.loop { R .ready none with state := .exhausted })) (fun r e => by cases e; exact ⟨by omega, _, hl, rfl⟩)
      exact ⟨none, _, run_endLoop hl (by simp [R]), (hdone w.heap.size i hi).go _ _ know (h4.mark (hcell i) hsw0 ((World.putObj_heap_other (by omega)).trans hd))⟩
    · have h4 := hH.still (hcelx x) (grownBy_putObj' W2 (w.heap.size + 1) (.loop { R .done (some .ret) with state := .exhausted })) (fun r e => by cases e; exact ⟨by omega, _, hl, rfl⟩)
      exact ⟨some .ret, _, run_endLoop hl (by simp [R]), wpIn_ret ((hstop w.heap.size x hx).go _ _ know (h4.mark (hcelx x) hsw0 ((World.putObj_heap_other (by omega)).trans hd)))⟩
end Sl
end Go.Proofs.Ytkadoibacliepaa
