/-
  Of no statement by itself: a slice that begins as nil and is appended to; over X's partial knowledge, for any program P.
  Conditions: each rule's own hypotheses.
-/
import Derived.Test.YtkadoibacliepaaSlr
import Derived.Test.YtkadoibacliepaaSls
import Derived.Test.YtkadoibacliepaaSlp
namespace Go.Proofs.Ytkadoibacliepaa
open Sl
/-- nil, or a slice of the function's own -/
abbrev Acc := Option (Nat × Nat)
def accV (q : Acc) (k : Nat) : Value := match q with
  | none => .slice none 0 0
  | some p => .slice (some ⟨p.1, 0, none⟩) k p.2
def accE (e : TypeId) (q : Acc) (xs : List Value) : List Ent := match q with
  | none => []
  | some p => [⟨p.1, Sl.Own e 1 xs.length p.2 xs, true⟩]
def accS (q : Acc) (l : List Bt) : Sl8 := match q with
  | none => nilS
  | some p => ⟨some ⟨p.1, 0, none⟩, p.2, l⟩
theorem accS_v (q : Acc) (l : List Bt) : (accS q l).v = accV q l.length := by cases q <;> rfl
theorem accS_l {q : Acc} {l : List Bt} (h : q = none → l = []) : (accS q l).l = l := by
  cases q with
  | none => exact (h rfl).symm
  | some p => rfl
theorem accS_none {q : Acc} {l : List Bt} : (accS q l).ad = none → (accS q l).l = [] := by
  cases q with
  | none => intro _; rfl
  | some p => intro h; cases h
theorem accS_ents {e : TypeId} (q : Acc) (l : List Bt) : Less (accS q l).ents (accE e q (l.map U8)) := by
  cases q with
  | none => exact .nil _
  | some p =>
    show Less (Sl8.ents ⟨some ⟨p.1, 0, none⟩, p.2, l⟩) [⟨p.1, Sl.Own e 1 (l.map U8).length p.2 (l.map U8), true⟩]
    rw [List.length_map]
    exact own_less rfl
theorem acc_ok {w0 w : World} {S : List Nat} {M : List Ent} {e : TypeId} {q : Acc} {l : List Bt} (hw : Holds w0 S (accE e q (l.map U8) ++ M) w) : (accS q l).ok w := by
  cases q with
  | none => exact nilS_ok w
  | some p =>
    have hw : Holds w0 S (⟨p.1, Sl.Own e 1 (l.map U8).length p.2 (l.map U8), true⟩ :: M) w := hw
    rw [List.length_map] at hw
    exact ownb_ok hw .here
theorem accE_wr (e : TypeId) (q : Acc) (xs : List Value) : ∀ x ∈ accE e q xs, x.wr = true := by
  intro x hx
  cases q with
  | none => cases hx
  | some p => rw [List.mem_singleton.1 hx]
section
variable {P : Program} {n : Nat} {w0 : World} {S : List Nat} {ops : Array Oper} {Q : Exit → Act → World → Prop} {l : List Oper} {E : Env} {M : List Ent} {d : Nat} {t tx e ty : TypeId} {pos : String} {aft : Array Edge} {x y : Operand}
theorem JL.appendN0 {i : TypeInfo} {ad : Option Addr} {sc : Nat} (hu : P.underlying t = some (.slice e)) (hi : P.info? e = some i) (hx : ev E x = some (.slice none 0 0)) (hy : ev E y = some (.slice ad 0 sc)) (hd : Nat.blt d n = true)
    (kk : JL P n w0 S ops Q l ((d, .slice none 0 0) :: E) M) : JL P n w0 S ops Q (⟨some d, .call ⟨.builtin .append, #[x, y], #[t, t]⟩, ty, pos, aft, none⟩ :: l) E M :=
  ⟨fun a w ha hw => wpList_plain rfl fun K hK => by
    unfold Oper.wp
    simp only [execOp, resolve, invoke, builtin, Sem.run_bind, Sem.run_pure, Result.andThen_ok, List.map_toArray, List.map_cons, List.map_nil, ha.eval hx, ha.eval hy]
    rw [append_none (_t' := t) hu hi (Nat.le_refl 0)]
    exact hK _ _ (kk.go _ _ (ha.put d _ hd) hw)⟩
/-- append onto nil, or onto a slice of the function's own -/
theorem JL.appendQ {z : Value} {by' m sc : Nat} {ad : Option Addr} {xs cs : List Value} (q : Acc) (hu : P.underlying t = some (.slice e)) (hi : EI P e z 1 by') (hq : q = none → xs = []) (hx : ev E x = some (accV q xs.length)) (hy : ev E y = some (.slice ad m sc))
    (hl : cs.length = m) (hr : ∀ w, Holds w0 S (accE e q xs ++ M) w → Reads w ad cs) (h1 : ∀ v ∈ cs, v.oneCell' = true)
    (hzz : z.cells.size = 1) (hsm : (xs.length + m) * by' ≤ 140737488355328) (hsm2 : xs.length + m < 9223372036854775808) (hd : Nat.blt d n = true)
    (kk : ∀ q' : Acc, (q' = none → xs ++ cs = []) → JL P n w0 S ops Q l ((d, accV q' (xs ++ cs).length) :: E) (accE e q' (xs ++ cs) ++ M)) : JL P n w0 S ops Q (⟨some d, .call ⟨.builtin .append, #[x, y], #[t, t]⟩, ty, pos, aft, none⟩ :: l) E (accE e q xs ++ M) := by
  subst hl
  cases q with
  | none =>
    obtain rfl := hq rfl
    cases cs with
    | nil =>
      obtain ⟨i, hi1, _⟩ := hi.get
      exact JL.appendN0 hu hi1 hx hy hd (kk none fun _ => rfl)
    | cons c cs =>
      refine JL.append_nil (cs := c :: cs) hu hi hx hy (by rw [Nat.mul_one]) hr (by simp) hzz (by decide) (by simpa using hsm) (by simpa using hsm2) hd fun b' cap' _ => ?_
      exact kk (some (b', cap')) (fun h => by cases h)
  | some p =>
    have e1 : (xs ++ cs).length = xs.length + cs.length := List.length_append
    refine JL.append (cs := cs) (b := p.1) (cap := p.2) (xs := xs) (fun b' cap' => accE e (some (b', cap')) (xs ++ cs) ++ M) hu hi hx hy (fun b' cap' => ?_) (by rw [Nat.mul_one]) hr h1 hzz (by decide) hsm hsm2 hd fun b' cap' => ?_
    · show Repl (⟨p.1, Sl.Own e 1 xs.length p.2 xs, true⟩ :: M) _ _ _ _ (⟨b', Sl.Own e 1 (xs ++ cs).length cap' (xs ++ cs), true⟩ :: M)
      rw [e1]
      exact .here
    · have := kk (some (b', cap')) (fun h => by cases h)
      show JL P n w0 S ops Q l ((d, .slice (some ⟨b', 0, none⟩) (xs.length + cs.length) cap') :: E) _
      rw [← e1]
      exact this
/-- append of a string's bytes onto nil, or onto a slice of the function's own -/
theorem JL.appendZ {r : List Bt} {xs : List Value} (q : Acc) (hu : P.underlying t = some (.slice e)) (hk : P.underlying tx = some .string) (hi : EI P e (.int .u8 0) 1 1) (hq : q = none → xs = []) (hx : ev E x = some (accV q xs.length)) (hy : ev E y = some (Z r)) (h0 : r ≠ [])
    (hsm : (xs.length + r.length) ≤ 140737488355328) (hd : Nat.blt d n = true)
    (kk : ∀ p : Nat × Nat, JL P n w0 S ops Q l ((d, accV (some p) (xs ++ r.map U8).length) :: E) (accE e (some p) (xs ++ r.map U8) ++ M)) : JL P n w0 S ops Q (⟨some d, .call ⟨.builtin .append, #[x, y], #[t, tx]⟩, ty, pos, aft, none⟩ :: l) E (accE e q xs ++ M) := by
  cases q with
  | none =>
    obtain rfl := hq rfl
    refine ⟨fun a w ha hw => wpList_plain rfl fun K hK => ?_⟩
    obtain ⟨i, hi1, hi2, hi3, hi4⟩ := hi.get
    have hpos : 0 < r.length := List.length_pos_iff.2 h0
    have hsrc : Src P i.size tx (Z r) r.length (r.map U8) w := by
      have := Src.ofString (P := P) w hk (strB r)
      rw [byteCells_strB, strB_size] at this
      rw [hi3]; exact this
    simp only [List.length_nil, Nat.zero_add] at hsm
    have hx' : a.eval x = .slice none 0 0 := ha.eval hx
    unfold Oper.wp
    simp only [execOp, resolve, invoke, builtin, Sem.run_bind, Sem.run_pure, Result.andThen_ok, List.map_toArray, List.map_cons, List.map_nil, hx', ha.eval hy]
    have hfit := growslice_fits (need := r.length) (old := 0) (bytes := 1) (by omega) (by omega)
    have hfo : (Builtin.firstCells i.size 0 (.slice none 0 0)).run P w.drew = .ok ([] : List Value).toArray w.drew := by simp [Builtin.firstCells]
    have hrun := run_append_grow_src (P := P) w t tx ty e i (.int .u8 0) hu hi1 hi2 none 0 0 [] hfo (Z r) r.length (r.map U8) hsrc (by omega) (by omega) (by rw [hi4, Nat.zero_add]; exact hfit)
    rw [hrun]
    simp only [Nat.zero_add]
    have hge := grownCap_ge w r.length 0 e
    generalize grownCap w r.length 0 e = nc at hge
    refine hK _ _ ?_
    have k := kk (w.heap.size, nc)
    have e1 : ([] ++ r.map U8 : List Value).length = r.length := by simp
    refine JL.go (E := (d, accV (some (w.heap.size, nc)) r.length) :: E) ?_ _ _ (ha.put d _ hd) (Holds.push hw (.cells (([] ++ r.map U8 : List Value).toArray ++ Builtin.zeroCells (Value.int .u8 0).cells (nc - r.length)) e) (A := Sl.Own e 1 r.length nc (r.map U8)) ?_ ?_ rfl rfl rfl)
    · rw [e1] at k
      have k2 : accE e (some (w.heap.size, nc)) ([] ++ r.map U8) ++ M = ⟨w.heap.size, Sl.Own e 1 r.length nc (r.map U8), true⟩ :: M := by
        show ⟨w.heap.size, Sl.Own e 1 ([] ++ r.map U8 : List Value).length nc ([] ++ r.map U8), true⟩ :: M = _
        rw [e1, List.nil_append]
      rw [k2] at k
      exact k
    · have h8 : (Builtin.zeroCells (Value.int .u8 0).cells (nc - r.length)).size = nc - r.length := by
        rw [show (Value.int .u8 0).cells = #[Value.int .u8 0] from rfl]; simp [Builtin.zeroCells]
      refine ⟨(Builtin.zeroCells (Value.int .u8 0).cells (nc - r.length)).toList, by simp, ?_, by simp, hge⟩
      simp only [List.length_append, Array.length_toList, h8, List.length_map]
      omega
    · rfl
  | some p =>
    have e1 : (xs ++ r.map U8).length = xs.length + r.length := by simp
    refine JL.appendS (b := p.1) (cap := p.2) (k := xs.length) (xs := xs) (fun b' cap' => accE e (some (b', cap')) (xs ++ r.map U8) ++ M) hu hk hi hx hy (fun b' cap' => ?_) hsm hd fun b' cap' => ?_
    · show Repl (⟨p.1, Sl.Own e 1 xs.length p.2 xs, true⟩ :: M) _ _ _ _ (⟨b', Sl.Own e 1 (xs ++ r.map U8).length cap' (xs ++ r.map U8), true⟩ :: M)
      rw [e1]
      exact .here
    · have := kk (b', cap')
      rw [e1] at this
      exact this
end
/-- ways that meet again behind two pieces of code -/
theorem JC.mid2 {P : Program} {n : Nat} {w0 : World} {S : List Nat} {Q : Exit → Act → World → Prop} {E : Env} {M : List Ent} {ι : Type} (Ei : ι → Env) (Mi : ι → List Ent) (I : ι → Prop) {p q r : Code}
    (h : JC P n w0 S (Exit.then (q.wp P (Exit.then (fun a' w' => ∃ i, I i ∧ Knows n (Ei i) a' ∧ Holds w0 S (Mi i) w') Q)) (Exit.then (fun a' w' => ∃ i, I i ∧ Knows n (Ei i) a' ∧ Holds w0 S (Mi i) w') Q)) p E M)
    (k : ∀ i, I i → JC P n w0 S Q r (Ei i) (Mi i)) : JC P n w0 S Q (.seq p (.seq q r)) E M :=
  ⟨fun a w ha hw => wp_seq (wp_mono (h.go a w ha hw) fun e a' w' he => by
    cases e with
    | normal => exact wp_seq (wp_mono he fun e a' w' he => by
        cases e with
        | normal => obtain ⟨i, hi, h1, h2⟩ := he; exact (k i hi).go a' w' h1 h2
        | exit _ => exact he
        | goto _ => exact he
        | ret => exact he
        | panic _ => exact he
        | outgrown => exact he)
    | exit _ => exact he
    | goto _ => exact he
    | ret => exact he
    | panic _ => exact he
    | outgrown => exact he)⟩
end Go.Proofs.Ytkadoibacliepaa
