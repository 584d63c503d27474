/-
  Of no statement by itself: append of one pair of texts, or of one text, that a literal holds, onto nil or onto a slice of the function's own.
  Conditions: each rule's own hypotheses.
-/
import Derived.Test.YtkadoibacliepaaSlac
import Derived.Test.YtkadoibacliepaaPrz
namespace Go.Proofs.Ytkadoibacliepaa
set_option maxRecDepth 10000
namespace Sl
theorem hasR {N M : List Ent} {b : Nat} {A : Obj → Prop} {wr : Bool} (h : Has M b A wr) : Has (N ++ M) b A wr := by
  induction N with
  | nil => exact h
  | cons e N ih => exact .there ih
theorem less_of_sub {N M : List Ent} (h : N.Sublist M) : Less N M := by
  induction h with
  | slnil => exact .nil _
  | cons a _ ih => exact .drop _ _ _ ih
  | cons_cons a _ ih => exact .keep _ _ _ _ _ _ (fun _ h => h) ih
section
variable {P : Program} {n : Nat} {w0 : World} {S : List Nat} {ops : Array Oper} {Q : Exit → Act → World → Prop} {l : List Oper} {E : Env} {M M' M0 : List Ent} {d : Nat} {t e ty : TypeId} {pos : String} {aft : Array Edge} {x y : Operand}
theorem Holds.perm' {w0 w : World} {S : List Nat} {M M' : List Ent} (hp : M.Perm M') (h : Holds w0 S M w) : Holds w0 S M' w :=
  h.sub ((hp.map Ent.b).nodup_iff.1 h.nodup) fun e he => hp.mem_iff.2 he
theorem JL.lessM (h : JL P n w0 S ops Q l E M') (hM : Less M' M) : JL P n w0 S ops Q l E M := ⟨fun a w ha hw => h.go a w ha (hw.weak hM)⟩
theorem JL.perm (h : JL P n w0 S ops Q l E M') (hp : M.Perm M') : JL P n w0 S ops Q l E M := ⟨fun a w ha hw => h.go a w ha (hw.perm' hp)⟩
theorem JC.lessM {c : Code} (h : JC P n w0 S Q c E M') (hM : Less M' M) : JC P n w0 S Q c E M := ⟨fun a w ha hw => h.go a w ha (hw.weak hM)⟩
def accP (e : TypeId) (q : Acc) (l : List Pr) : List Ent := match q with
  | none => []
  | some p => [⟨p.1, Sl.Own e 2 l.length p.2 (l.flatMap pc), true⟩]
def accLp (q : Acc) (l : List Pr) : Sl2 := match q with
  | none => nil2
  | some p => ⟨some ⟨p.1, 0, none⟩, p.2, l⟩
theorem accLp_v (q : Acc) (l : List Pr) : (accLp q l).v = accV q l.length := by cases q <;> rfl
theorem accLp_l {q : Acc} {l : List Pr} (h : q = none → l = []) : (accLp q l).l = l := by
  cases q with
  | none => rw [h rfl]; rfl
  | some p => rfl
theorem accLp_ok {w0 w : World} {S : List Nat} {M : List Ent} {e : TypeId} {q : Acc} {l : List Pr} (hw : Holds w0 S (accP e q l ++ M) w) : (accLp q l).ok w := by
  cases q with
  | none => exact nil2_ok w
  | some p => exact sl2_own hw .here
theorem pc_one {p : Pr} : ∀ v ∈ pc p, v.oneCell' = true := by
  intro v hv
  simp only [pc, List.mem_cons, List.not_mem_nil, or_false] at hv
  rcases hv with rfl | rfl <;> rfl
/-- one pair more -/
theorem JL.appendP {z : Value} {by' bl : Nat} {p : Pr} {L : List Pr} {ba : Ent} (q : Acc) (hu : P.underlying t = some (.slice e)) (hi : EI P e z 2 by') (hq : q = none → L = []) (hx : ev E x = some (accV q L.length)) (hy : ev E y = some (.slice (some ⟨bl, 0, none⟩) 1 1))
    (hzz : z.cells.size = 2) (hsm : (L.length + 1) * by' ≤ 140737488355328) (hsm2 : L.length + 1 < 9223372036854775808) (hd : Nat.blt d n = true)
    (kk : ∀ b' cap', JL P n w0 S ops Q l ((d, accV (some (b', cap')) (L ++ [p]).length) :: E) (accP e (some (b', cap')) (L ++ [p]) ++ M0)) :
    JL P n w0 S ops Q (⟨some d, .call ⟨.builtin .append, #[x, y], #[t, t]⟩, ty, pos, aft, none⟩ :: l) E (⟨bl, Row e (pc p), true⟩ :: ba :: (accP e q L ++ M0)) := by
  have hr : ∀ w, Holds w0 S (⟨bl, Row e (pc p), true⟩ :: ba :: (accP e q L ++ M0)) w → Reads w (some ⟨bl, 0, none⟩) (pc p) := fun w hw => by
    obtain ⟨o, ho, hA⟩ := hw.get (b := bl) (A := Row e (pc p)) (wr := true) .here
    exact Reads.block ho (Row.all _ hA)
  have eN : (L ++ [p]).length = L.length + 1 := List.length_append
  have eF : (L ++ [p]).flatMap pc = L.flatMap pc ++ pc p := by rw [List.flatMap_append]; simp
  cases q with
  | none =>
    obtain rfl := hq rfl
    refine JL.append_nil (cs := pc p) (m := 1) hu hi hx hy rfl hr (by decide) hzz (by decide) (by simpa using hsm) (by decide) hd fun b' cap' _ => ?_
    refine (kk b' cap').lessM ?_
    exact .keep _ _ _ _ _ _ (fun o h => h) (.drop _ _ _ (.drop _ _ _ (Less.refl _)))
  | some r =>
    refine JL.append (cs := pc p) (m := 1) (b := r.1) (cap := r.2) (k := L.length) (xs := L.flatMap pc) (fun b' cap' => ⟨bl, Row e (pc p), true⟩ :: ba :: (accP e (some (b', cap')) (L ++ [p]) ++ M0)) hu hi hx hy (fun b' cap' => ?_) rfl hr pc_one hzz (by decide) hsm hsm2 hd fun b' cap' => ?_
    · show Repl (_ :: ba :: ⟨r.1, Sl.Own e 2 L.length r.2 (L.flatMap pc), true⟩ :: M0) _ _ _ _ (_ :: ba :: ⟨b', Sl.Own e 2 (L ++ [p]).length cap' ((L ++ [p]).flatMap pc), true⟩ :: M0)
      rw [eN, eF]
      exact .there (.there .here)
    · have := kk b' cap'
      rw [show accV (some (b', cap')) (L ++ [p]).length = Value.slice (some ⟨b', 0, none⟩) (L.length + 1) cap' by rw [eN]; rfl] at this
      exact this.lessM (.drop _ _ _ (.drop _ _ _ (Less.refl _)))
/-- one text more -/
theorem JL.appendT {z : Value} {by' bl : Nat} {p : List Bt} {L : List (List Bt)} (q : Acc) (hu : P.underlying t = some (.slice e)) (hi : EI P e z 1 by') (hq : q = none → L = []) (hx : ev E x = some (accV q L.length)) (hy : ev E y = some (.slice (some ⟨bl, 0, none⟩) 1 1))
    (hzz : z.cells.size = 1) (hsm : (L.length + 1) * by' ≤ 140737488355328) (hsm2 : L.length + 1 < 9223372036854775808) (hd : Nat.blt d n = true)
    (kk : ∀ b' cap', JL P n w0 S ops Q l ((d, accV (some (b', cap')) (L ++ [p]).length) :: E) (accE e (some (b', cap')) ((L ++ [p]).map Z) ++ M0)) :
    JL P n w0 S ops Q (⟨some d, .call ⟨.builtin .append, #[x, y], #[t, t]⟩, ty, pos, aft, none⟩ :: l) E (⟨bl, Row e [Z p], true⟩ :: (accE e q (L.map Z) ++ M0)) := by
  have hr : ∀ w, Holds w0 S (⟨bl, Row e [Z p], true⟩ :: (accE e q (L.map Z) ++ M0)) w → Reads w (some ⟨bl, 0, none⟩) [Z p] := fun w hw => by
    obtain ⟨o, ho, hA⟩ := hw.get (b := bl) (A := Row e [Z p]) (wr := true) .here
    exact Reads.block ho (Row.all _ hA)
  have h1 : ∀ v ∈ [Z p], v.oneCell' = true := fun v hv => by rw [List.mem_singleton.1 hv]; rfl
  have eN : (L ++ [p]).length = L.length + 1 := List.length_append
  have eM : (L ++ [p]).map Z = L.map Z ++ [Z p] := by rw [List.map_append]; rfl
  have eL : ((L ++ [p]).map Z).length = L.length + 1 := by rw [List.length_map, eN]
  cases q with
  | none =>
    obtain rfl := hq rfl
    refine JL.append_nil (cs := [Z p]) (m := 1) hu hi hx hy rfl hr (by decide) hzz (by decide) (by simpa using hsm) (by decide) hd fun b' cap' _ => ?_
    exact (kk b' cap').lessM (.keep _ _ _ _ _ _ (fun o h => h) (.drop _ _ _ (Less.refl _)))
  | some r =>
    refine JL.append (cs := [Z p]) (m := 1) (b := r.1) (cap := r.2) (k := L.length) (xs := L.map Z) (fun b' cap' => ⟨bl, Row e [Z p], true⟩ :: (accE e (some (b', cap')) ((L ++ [p]).map Z) ++ M0)) hu hi hx hy (fun b' cap' => ?_) rfl hr h1 hzz (by decide) hsm hsm2 hd fun b' cap' => ?_
    · show Repl (_ :: ⟨r.1, Sl.Own e 1 (L.map Z).length r.2 (L.map Z), true⟩ :: M0) _ _ _ _ (_ :: ⟨b', Sl.Own e 1 ((L ++ [p]).map Z).length cap' ((L ++ [p]).map Z), true⟩ :: M0)
      rw [eL, eM, List.length_map]
      exact .there .here
    · have := kk b' cap'
      rw [show accV (some (b', cap')) (L ++ [p]).length = Value.slice (some ⟨b', 0, none⟩) (L.length + 1) cap' by rw [eN]; rfl] at this
      exact this.lessM (.drop _ _ _ (Less.refl _))
end
end Sl
end Go.Proofs.Ytkadoibacliepaa
