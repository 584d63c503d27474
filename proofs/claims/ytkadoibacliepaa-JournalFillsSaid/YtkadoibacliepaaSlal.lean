/-
  Of no statement by itself: slices of slices of bytes that begin as nil and are appended to; for any program P.
  Conditions: each rule's own hypotheses.
-/
import Derived.Test.YtkadoibacliepaaSlr
import Derived.Test.YtkadoibacliepaaSlac
namespace Go.Proofs.Ytkadoibacliepaa
open Sl
theorem JL.upon {P : Program} {n : Nat} {w0 : World} {S : List Nat} {ops : Array Oper} {Q : Exit → Act → World → Prop} {l : List Oper} {E : Env} {M M' : List Ent} (hp : M.Perm M') (h : JL P n w0 S ops Q l E M') : JL P n w0 S ops Q l E M :=
  ⟨fun a w ha hw => h.go a w ha ⟨hw.chg, (hp.map Ent.b).nodup_iff.1 hw.nodup, fun e he => hw.all e (hp.mem_iff.2 he)⟩⟩
theorem JL.less {P : Program} {n : Nat} {w0 : World} {S : List Nat} {ops : Array Oper} {Q : Exit → Act → World → Prop} {l : List Oper} {E : Env} {M M' : List Ent} (hM : Less M' M) (h : JL P n w0 S ops Q l E M') : JL P n w0 S ops Q l E M :=
  ⟨fun a w ha hw => h.go a w ha (hw.weak hM)⟩
def accL (q : Acc) (rs : List Sl8) : SlL := match q with
  | none => ⟨none, 0, []⟩
  | some p => ⟨some ⟨p.1, 0, none⟩, p.2, rs⟩
theorem accL_v (q : Acc) (rs : List Sl8) : (accL q rs).v = accV q (rs.map Sl8.v).length := by
  cases q with
  | none => rfl
  | some p => show Value.slice _ rs.length _ = Value.slice _ (rs.map Sl8.v).length _; rw [List.length_map]; rfl
theorem accL_rs {q : Acc} {rs : List Sl8} (h : q = none → rs = []) : (accL q rs).rs = rs := by
  cases q with
  | none => exact (h rfl).symm
  | some p => rfl
theorem accL_ok {w0 w : World} {S : List Nat} {e : TypeId} {q : Acc} {rs : List Sl8} (hw : Holds w0 S (accE e q (rs.map Sl8.v) ++ flatE rs) w) (h0 : ∀ x ∈ rs, x.ad = none → x.l = []) : (accL q rs).ok w := by
  cases q with
  | none => exact ⟨Nat.le_refl _, Reads.nil _ _, fun y hy => by cases hy⟩
  | some p =>
    refine ownL_ok (e := e) (A := accE e (some p) (rs.map Sl8.v)) (wr := true) hw ?_ h0
    show Has (⟨p.1, Sl.Own e 1 (rs.map Sl8.v).length p.2 (rs.map Sl8.v), true⟩ :: flatE rs) _ _ _
    rw [List.length_map]
    exact .here
theorem flat_snoc {e : TypeId} (rs : List Sl8) (q : Acc) (l : List Bt) : Less (flatE (rs ++ [accS q l])) (flatE rs ++ accE e q (l.map U8)) := by
  unfold flatE
  rw [List.flatMap_append]
  refine less_app2 ?_ _
  show Less ((accS q l).ents ++ []) _
  rw [List.append_nil]
  exact accS_ents q l
theorem accV_cells (q : Acc) (k : Nat) : (accV q k).cells = #[accV q k] := by cases q <;> rfl
theorem accV_one (q : Acc) (k : Nat) : (accV q k).oneCell' = true := by cases q <;> rfl
theorem accV_v (q : Acc) (k : Nat) : ∃ ad sc m, accV q k = .slice ad m sc := by cases q <;> exact ⟨_, _, _, rfl⟩
end Go.Proofs.Ytkadoibacliepaa
