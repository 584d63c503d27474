/-
  Of no statement by itself: rules by which an iterator's own text is walked (a function that calls yield): the world is fixed between two rounds; for any program P.
  Conditions: each rule's own hypotheses.
-/
import Derived.Test.YtkadoibacliepaaSlf
namespace Go.Proofs.Ytkadoibacliepaa
namespace Sl
section
variable {P : Program} {n : Nat} {W : World} {ops : Array Oper} {Q Q' : Exit → Act → World → Prop} {os : List Oper} {E E' : Env} {d : Nat} {op : Op} {ty : TypeId} {pos : String} {aft : Array Edge} {v : Value} {m : Nat}
structure FL (P : Program) (n m : Nat) (W : World) (ops : Array Oper) (Q : Exit → Act → World → Prop) (os : List Oper) (E : Env) : Prop where
  go : ∀ a, Knows n E a → wpListIn Fence.wide m P ops Q os a W
structure FE (n : Nat) (W : World) (Q : Exit → Act → World → Prop) (e : Exit) (E : Env) : Prop where
  go : ∀ a, Knows n E a → Q e a W
structure FC (P : Program) (n : Nat) (W : World) (Q : Exit → Act → World → Prop) (c : Code) (E : Env) : Prop where
  go : ∀ a, Knows n E a → c.wp P Q a W
theorem FC.seq {x y : Code} (h : FC P n W (Exit.then (y.wp P Q) Q) x E) : FC P n W Q (.seq x y) E := ⟨fun a ha => wp_seq (h.go a ha)⟩
theorem FC.skip (h : FE n W Q .normal E) : FC P n W Q .skip E := ⟨fun a ha => wp_skip (h.go a ha)⟩
theorem FC.ret (h : FE n W Q .ret E) : FC P n W Q .ret E := ⟨fun a ha => wp_ret (h.go a ha)⟩
theorem FC.exit {id : Nat} (h : FE n W Q (.exit id) E) : FC P n W Q (.exit id) E := ⟨fun a ha => wp_exit (h.go a ha)⟩
theorem FC.block {id : Nat} {c : Code} (h : FC P n W (Exit.inBlock id Q) c E) : FC P n W Q (.block id c) E := ⟨fun a ha => wp_block (h.go a ha)⟩
theorem FC.cond {c : Operand} {x y : Code} {t : Bool} (hc : ev E c = some (.bool t)) (ht : t = true → FC P n W Q x E) (hf : t = false → FC P n W Q y E) : FC P n W Q (.cond c x y) E :=
  ⟨fun a ha => wp_cond_split (ha.eval hc) (fun h => (ht h).go a ha) (fun h => (hf h).go a ha)⟩
theorem FC.region {id : Nat} {os : List Oper} (h : FL P n 2 W os.toArray Q os E) : FC P n W Q (.region id os.toArray false) E := ⟨fun a ha => (wpIn_wide (n := 2)).1 (wpIn_region_lit (h.go a ha))⟩
theorem FE.next {y : Code} (h : FC P n W Q' y E) : FE n W (Exit.then (y.wp P Q') Q) .normal E := ⟨h.go⟩
theorem FE.then_exit {K : Act → World → Prop} {id : Nat} (h : FE n W Q (.exit id) E) : FE n W (Exit.then K Q) (.exit id) E := ⟨h.go⟩
theorem FE.then_ret {K : Act → World → Prop} (h : FE n W Q .ret E) : FE n W (Exit.then K Q) .ret E := ⟨h.go⟩
theorem FE.blk_normal {id : Nat} (h : FE n W Q .normal E) : FE n W (Exit.inBlock id Q) .normal E := ⟨h.go⟩
theorem FE.blk_ret {id : Nat} (h : FE n W Q .ret E) : FE n W (Exit.inBlock id Q) .ret E := ⟨h.go⟩
theorem FE.blk_hit {id : Nat} (h : FE n W Q .normal E) : FE n W (Exit.inBlock id Q) (.exit id) E := ⟨fun a ha => by
  show (if id = id then Q .normal a W else _)
  rw [if_pos rfl]; exact h.go a ha⟩
theorem FE.blk_miss {id id' : Nat} (hne : (id == id') = false) (h : FE n W Q (.exit id) E) : FE n W (Exit.inBlock id' Q) (.exit id) E := ⟨fun a ha => by
  show (if id = id' then _ else Q (.exit id) a W)
  rw [if_neg (by simpa using hne)]; exact h.go a ha⟩
theorem FL.nil (h : FE n W Q .normal E) : FL P n m W ops Q [] E := ⟨h.go⟩
theorem FL.q (h : OQ P n E (fun w => w = W) ⟨some d, op, ty, pos, aft, none⟩ v) (hdf : noDef ⟨some d, op, ty, pos, aft, none⟩ = true) (hd : Nat.blt d n = true) (k : FL P n m W ops Q os ((d, v) :: E)) : FL P n m W ops Q (⟨some d, op, ty, pos, aft, none⟩ :: os) E :=
  ⟨fun a ha => wpListIn_plain rfl fun K hK => by
    have hk := hK _ _ (k.go _ (ha.put d v hd))
    have hq := h.go a ha W rfl
    refine ⟨fun _ _ => trivial, ?_⟩
    have e : Oper.semAt Fence.wide.round a.eval ⟨some d, op, ty, pos, aft, none⟩ = execOp a.eval ⟨some d, op, ty, pos, aft, none⟩ := rfl
    rw [e]
    unfold Oper.quietAt at hq
    cases hr : (execOp a.eval ⟨some d, op, ty, pos, aft, none⟩).run P W with
    | ok nx w' =>
      rw [hr] at hq
      cases nx with
      | value u =>
        obtain ⟨rfl, rfl⟩ := hq
        exact hk
      | skip =>
        obtain ⟨rfl, rfl⟩ := hq
        exact hk
      | enter f args =>
        obtain ⟨rfl, hc⟩ := hq
        refine ⟨fun h => (by cases h), (callsIn_wide (n := m - 1)).2 (hc.mono ?_)⟩
        rintro e w2 ⟨rfl, rfl⟩
        exact hk
      | _ => exact hq.elim
    | halt x w' =>
      rw [hr] at hq
      exact hq.elim⟩
/-- a call of yield -/
theorem FL.yield {l : Nat} {x y : Operand} {t : TypeId} {R : Ending → World → Prop} (hx : ev E x = some (.func (.yield l) #[] #[])) (hy : ev E y = some v) (hd : Nat.blt d n = true) (h : YieldAt Fence.wide 1 P l #[v] W R)
    (hR : ∀ e W', R e W' → ∃ b, e = .returned (.bool b) ∧ FL P n 2 W' ops Q os ((d, .bool b) :: E)) : FL P n 2 W ops Q (⟨some d, .call ⟨.value x, #[y], #[t]⟩, ty, pos, aft, none⟩ :: os) E :=
  ⟨fun a ha => wpListIn_plain rfl fun K hK => by
    obtain ⟨fn, tmps, assign, body, hrun, hro⟩ := h
    refine ⟨fun _ _ => trivial, ?_⟩
    have e : (Oper.semAt Fence.wide.round a.eval ⟨some d, .call ⟨.value x, #[y], #[t]⟩, ty, pos, aft, none⟩).run P W = .ok (.round l fn tmps assign body) W := by
      have e0 : Oper.semAt Fence.wide.round a.eval ⟨some d, .call ⟨.value x, #[y], #[t]⟩, ty, pos, aft, none⟩ = execOp a.eval ⟨some d, .call ⟨.value x, #[y], #[t]⟩, ty, pos, aft, none⟩ := rfl
      rw [e0]
      simp only [execOp, resolve, Sem.run_bind, ha.eval hx, List.map_toArray, List.map_cons, List.map_nil, ha.eval hy, Deferred.ofValue, Sem.run_pure, Result.andThen_ok, invoke]
      simpa using hrun
    rw [e]
    refine ⟨fun h => (by cases h), hro.mono fun e W' hr => ?_⟩
    obtain ⟨b, rfl, hl⟩ := hR e W' hr
    exact hK _ _ (hl.go _ (ha.put d _ hd))⟩
/-- a loop whose rounds leave other worlds -/
theorem FC.loop {ι : Type} (Ei : ι → Env) (Ci : ι → World → Prop) (μ : ι → Nat) {c : Code} (i : ι) (hi : Ci i W) (hE : SubE E (Ei i))
    (h : ∀ i w, Ci i w → FC P n w (Exit.then (fun a' w' => ∃ j, Ci j w' ∧ μ j < μ i ∧ Knows n (Ei j) a') Q) c (Ei i)) : FC P n W Q (.loop c) E := by
  refine ⟨fun a ha => ?_⟩
  have ha' := ha.sub hE
  clear ha hE
  have key : ∀ m i, μ i = m → ∀ a w, Ci i w → Knows n (Ei i) a → ∀ (b : Frame) (k : List Item) (cs : List Frame),
      ∃ e a' w', Q e a' w' ∧ Arrives P (lone (b.at a (.code c :: .inLoop c :: k)) cs w) b k cs e a' w' := by
    intro m
    induction m using Nat.strongRecOn with
    | _ m ih =>
      intro i hm a w hw ha b k cs
      obtain ⟨e, a₁, w₁, hq, harr⟩ := (h i w hw).go a ha b (.inLoop c :: k) cs
      cases e with
      | normal =>
        obtain ⟨j, hw₁, hlt, ha₁⟩ := hq
        obtain ⟨e₂, a₂, w₂, hq₂, harr₂⟩ := ih (μ j) (hm ▸ hlt) j rfl a₁ w₁ hw₁ ha₁ b k cs
        exact ⟨e₂, a₂, w₂, hq₂, .of_steps (Steps.trans harr (.one step_inLoop)) harr₂⟩
      | exit id => exact ⟨_, a₁, w₁, hq, .pass (x := .inLoop c) rfl (fun _ _ => .inl (by simp)) harr⟩
      | goto l => exact ⟨_, a₁, w₁, hq, .pass (x := .inLoop c) rfl (fun _ _ => .inl (by simp)) harr⟩
      | ret => exact ⟨_, a₁, w₁, hq, .pass (x := .inLoop c) rfl (fun _ _ => .inl (by simp)) harr⟩
      | panic ch => exact ⟨_, a₁, w₁, hq, .pass (x := .inLoop c) rfl (fun _ _ => .inl (by simp)) harr⟩
      | outgrown => exact ⟨_, a₁, w₁, hq, .pass (x := .inLoop c) rfl (fun _ _ => .inl (by simp)) harr⟩
  intro b k cs
  obtain ⟨e, a', w', hq, harr⟩ := key _ i rfl a W hi ha' b k cs
  exact ⟨e, a', w', hq, .of_steps (.one step_loop) harr⟩
theorem FE.again {ι : Type} {Ei : ι → Env} {Ci : ι → World → Prop} {μ : ι → Nat} {i : ι} (j : ι) (hj : Ci j W) (hμ : μ j < μ i) (hE : SubE E (Ei j)) :
    FE n W (Exit.then (fun a' w' => ∃ j, Ci j w' ∧ μ j < μ i ∧ Knows n (Ei j) a') Q) .normal E := ⟨fun _ ha => ⟨j, hj, hμ, ha.sub hE⟩⟩
theorem FE.ret0 {fn : Func} {R : Ending → World → Prop} (hr : fn.results = #[]) (hR : R (.returned (.tuple #[])) W) : FE n W (bodyPost P fn R) .ret E := ⟨fun a ha => ⟨ha.defers, .tuple #[], by simp [results, hr], hR⟩⟩
theorem FE.end0 {fn : Func} {R : Ending → World → Prop} (hr : fn.results = #[]) (hR : R (.returned (.tuple #[])) W) : FE n W (bodyPost P fn R) .normal E := ⟨fun a ha => ⟨ha.defers, .tuple #[], by simp [results, hr], hR⟩⟩
theorem enterF {f : FuncId} {fn : Func} {c : Code} {vs : List Value} {R : Ending → World → Prop} (hf : P.funcs[f]? = some fn) (hb : fn.body = some c) (hn : fn.ntmps = n) (hl : Nat.ble vs.length n = true)
    (h : FC P n W (bodyPost P fn R) c (enum 0 vs)) : Calls P f vs.toArray W R := by
  refine calls_of_wp hf hb (h.go _ ?_)
  rw [hn]
  exact Knows.enter vs (by simpa using hl)
end
end Sl
end Go.Proofs.Ytkadoibacliepaa
