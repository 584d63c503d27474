/-
  Of no statement by itself: loops whose rounds leave worlds that are the new beginning; over X's partial knowledge, for any program P.
  Conditions: each rule's own hypotheses.
-/
import Derived.Test.YtchoiikhepjdiaaDoorBf
namespace Go.Proofs.YtchoiikhepjdiaaDoor
open Sl
theorem JC.reb {P : Program} {n : Nat} {w0 : World} {S S' : List Nat} {Q : Exit → Act → World → Prop} {c : Code} {E : Env} {M M' : List Ent} (hM : ∀ w1, Holds w0 S M w1 → Holds w1 S' M' w1) (h : ∀ w1, Holds w0 S M w1 → JC P n w1 S' Q c E M') : JC P n w0 S Q c E M :=
  ⟨fun a w ha hw => (h w hw).go a w ha (hM w hw)⟩
theorem JC.loopb {P : Program} {n : Nat} {w0 : World} {S : List Nat} {Q : Exit → Act → World → Prop} {E : Env} {M : List Ent} {ι : Type} (W : ι → World) (Ei : ι → Env) (Mi : ι → List Ent) (μ : ι → Nat) (I : ι → Prop) {c : Code} (i : ι) (hi : I i) (hE : SubE E (Ei i)) (hM : ∀ w, Holds w0 S M w → Holds (W i) [] (Mi i) w)
    (h : ∀ i, I i → JC P n (W i) [] (Exit.then (fun a' w' => ∃ j, I j ∧ μ j < μ i ∧ Knows n (Ei j) a' ∧ Holds (W j) [] (Mi j) w') Q) c (Ei i) (Mi i)) : JC P n w0 S Q (.loop c) E M := by
  refine ⟨fun a w ha hw => ?_⟩
  have ha' := ha.sub hE
  have hw' := hM w hw
  clear ha hw hE hM
  have key : ∀ m i, μ i = m → I i → ∀ a w, Knows n (Ei i) a → Holds (W i) [] (Mi i) w → ∀ (b : Frame) (k : List Item) (cs : List Frame),
      ∃ e a' w', Q e a' w' ∧ Arrives P (lone (b.at a (.code c :: .inLoop c :: k)) cs w) b k cs e a' w' := by
    intro m
    induction m using Nat.strongRecOn with
    | _ m ih =>
      intro i hm hI a w ha hw b k cs
      obtain ⟨e, a₁, w₁, hq, harr⟩ := (h i hI).go a w ha hw b (.inLoop c :: k) cs
      cases e with
      | normal =>
        obtain ⟨j, hj, hlt, ha₁, hw₁⟩ := hq
        obtain ⟨e₂, a₂, w₂, hq₂, harr₂⟩ := ih (μ j) (hm ▸ hlt) j rfl hj a₁ w₁ ha₁ hw₁ b k cs
        exact ⟨e₂, a₂, w₂, hq₂, .of_steps (Steps.trans harr (.one step_inLoop)) harr₂⟩
      | exit id => exact ⟨_, a₁, w₁, hq, .pass (x := .inLoop c) rfl (fun _ _ => .inl (by simp)) harr⟩
      | goto l => exact ⟨_, a₁, w₁, hq, .pass (x := .inLoop c) rfl (fun _ _ => .inl (by simp)) harr⟩
      | ret => exact ⟨_, a₁, w₁, hq, .pass (x := .inLoop c) rfl (fun _ _ => .inl (by simp)) harr⟩
      | panic ch => exact ⟨_, a₁, w₁, hq, .pass (x := .inLoop c) rfl (fun _ _ => .inl (by simp)) harr⟩
      | outgrown => exact ⟨_, a₁, w₁, hq, .pass (x := .inLoop c) rfl (fun _ _ => .inl (by simp)) harr⟩
  intro b k cs
  obtain ⟨e, a', w', hq, harr⟩ := key _ i rfl hi a w ha' hw' b k cs
  exact ⟨e, a', w', hq, .of_steps (.one step_loop) harr⟩
theorem JE.againb {n : Nat} {w0 : World} {S : List Nat} {Q : Exit → Act → World → Prop} {E : Env} {M : List Ent} {ι : Type} {W : ι → World} {Ei : ι → Env} {Mi : ι → List Ent} {μ : ι → Nat} {I : ι → Prop} {i : ι} (j : World → ι) (h : ∀ w', Holds w0 S M w' → I (j w') ∧ μ (j w') < μ i ∧ Holds (W (j w')) [] (Mi (j w')) w') (hE : ∀ w', SubE E (Ei (j w'))) :
    JE n w0 S (Exit.then (fun a' w' => ∃ j, I j ∧ μ j < μ i ∧ Knows n (Ei j) a' ∧ Holds (W j) [] (Mi j) w') Q) .normal E M :=
  ⟨fun _ w' ha hw => ⟨j w', (h w' hw).1, (h w' hw).2.1, ha.sub (hE w'), (h w' hw).2.2⟩⟩
end Go.Proofs.YtchoiikhepjdiaaDoor
