/-
  Of no statement by itself: the texts LetM, LetN, Plain, FraW, FieP, LetP in one.
  Conditions: each theorem's own.
-/
import Derived.Test.YtikhlddemdlmgaaDoorBd
import Derived.Test.YtikhlddemdlmgaaDoorProg
import Derived.Test.YtikhlddemdlmgaaDoorRows
import Derived.ProofKit
import Derived.OpenShut
import Derived.Below
import Derived.Stop.Joined
import Derived.ChangeMaps5
import Derived.Test.YtikhlddemdlmgaaDoorTie
import Derived.SevenTiedAt
import Derived.LaidMore
import Derived.Lay
import Derived.Deep.SlicePairs
/-
  Of no statement by itself: what LetterSets gives, over LetterOk.
  Conditions: LetterOk, and each theorem's own.
-/
namespace Go.Proofs.YtikhlddemdlmgaaDoor
set_option maxRecDepth 10000
open Sl Fld
theorem sub_mid {α : Type} (A X B : List α) : X.Sublist (A ++ (X ++ B)) := (List.sublist_append_left X B).trans (List.sublist_append_right A _)
theorem Holds.sub2 {w0 w : World} {S : List Nat} {M A B : List Ent} {x : Sl2} (h : Holds w0 S M w) (e : M = A ++ (x.ents ++ B)) (hn : x.ad = none → x.l = []) : x.ok w := by
  subst e
  have h2 : Holds w0 S (x.ents ++ []) w := by rw [List.append_nil]; exact Sl.Holds.weak h (less_of_sub (sub_mid A _ B))
  exact Sl2.ents_ok h2 hn
theorem Holds.sub8 {w0 w : World} {S : List Nat} {M A B : List Ent} {x : Sl8} (h : Holds w0 S M w) (e : M = A ++ (x.ents ++ B)) (hn : x.ad = none → x.l = []) : x.ok w := by
  subst e
  have h2 : Holds w0 S (x.ents ++ []) w := by rw [List.append_nil]; exact Sl.Holds.weak h (less_of_sub (sub_mid A _ B))
  exact Sl8.ents_ok h2 hn
theorem goes_lset : Goes Tryd.prog 10 := ⟨_, Tryd.func10, rfl, by kernel_rfl⟩
theorem goes_ldrop : Goes Tryd.prog 11 := ⟨_, Tryd.func11, rfl, by kernel_rfl⟩
theorem goes_lall : Goes Tryd.prog 7 := ⟨_, Tryd.func7, rfl, by kernel_rfl⟩
theorem goes_lget : Goes Tryd.prog 9 := ⟨_, Tryd.func9, rfl, by kernel_rfl⟩
theorem Holds.cold3 {w0 w : World} {S : List Nat} {X Y : List Ent} {a b c : Nat} {A B C : Obj → Prop} {x y z : Bool} (h : Holds w0 S ((⟨a, A, x⟩ :: (X ++ [])) ++ ((⟨b, B, y⟩ :: (Y ++ [])) ++ ([⟨c, C, z⟩] ++ []))) w) : Holds w [] [⟨a, A, false⟩, ⟨b, B, false⟩, ⟨c, C, false⟩] w := by
  have hs : List.Sublist [(⟨a, A, x⟩ : Ent), ⟨b, B, y⟩, ⟨c, C, z⟩] ((⟨a, A, x⟩ :: (X ++ [])) ++ ((⟨b, B, y⟩ :: (Y ++ [])) ++ ([⟨c, C, z⟩] ++ []))) := by
    rw [List.append_nil, List.append_nil, List.append_nil]
    exact .cons_cons _ ((List.Sublist.cons_cons _ (List.sublist_append_right _ _)).trans (List.sublist_append_right _ _))
  exact Holds.cold (Sl.Holds.weak h (less_of_sub hs))
theorem Holds.wane {w0 w : World} {S : List Nat} {M : List Ent} (h : Holds w0 S M w) : Holds w0 S (Proofs.YtikhlddemdlmgaaDoor.cold M) w := by
  refine ⟨h.chg, ?_, fun e he => ?_⟩
  · rw [Proofs.YtikhlddemdlmgaaDoor.cold, List.map_map]
    exact h.nodup
  · obtain ⟨q, hq, rfl⟩ := List.mem_map.1 he
    exact ⟨(h.all q hq).1, nofun⟩
theorem Holds.tail2 {w0 w : World} {S : List Nat} {X Y : List Ent} {b c : Nat} {B C : Obj → Prop} {y z : Bool} (h : Holds w0 S (X ++ (Y ++ ([⟨b, B, y⟩] ++ ([⟨c, C, z⟩] ++ [])))) w) : Holds w [] [⟨b, B, false⟩, ⟨c, C, false⟩] w :=
  Holds.cold (Sl.Holds.weak h (less_of_sub ((List.sublist_append_right Y _).trans (List.sublist_append_right X _))))
theorem Holds.okz {w0 w : World} {S : List Nat} {M : List Ent} {A B : List (List Bt)} {p : Gz A} {q : Gz B} (h : Holds w0 S (p.z.ents ++ (q.z.ents ++ M)) w) : p.z.ok w ∧ q.z.ok w :=
  ⟨SlZ.ents_ok h p.n, SlZ.ents_ok (Sl.Holds.weak h (less_of_sub (List.sublist_append_right p.z.ents _))) q.n⟩
theorem JL.reb {P : Program} {n : Nat} {w0 : World} {S S' : List Nat} {ops : Array Oper} {l : List Oper} {Q : Exit → Act → World → Prop} {E : Env} {M M' : List Ent} (hM : ∀ w1, Holds w0 S M w1 → Holds w1 S' M' w1) (h : ∀ w1, Holds w0 S M w1 → JL P n w1 S' ops Q l E M') : JL P n w0 S ops Q l E M :=
  ⟨fun a w ha hw => (h w hw).go a w ha (hM w hw)⟩
theorem Holds.oks {w0 w : World} {S : List Nat} {a b c : Nat} {A B C : Obj → Prop} {x y z : Bool} {A1 A2 : List Pr} {B1 B2 : List Bt} {z1 : Lt A1 B1} {z2 : Lt A2 B2} (h : Holds w0 S ((⟨a, A, x⟩ :: (z1.ents ++ [])) ++ ((⟨b, B, y⟩ :: (z2.ents ++ [])) ++ ([⟨c, C, z⟩] ++ []))) w) : (z1.f.ok w ∧ z1.s.ok w) ∧ (z2.f.ok w ∧ z2.s.ok w) :=
  ⟨⟨Holds.sub2 (A := [⟨a, A, x⟩]) (B := z1.s.ents ++ (⟨b, B, y⟩ :: (z2.ents ++ [⟨c, C, z⟩]))) h (by simp [Lt.ents]) z1.nf,
    Holds.sub8 (A := ⟨a, A, x⟩ :: z1.f.ents) (B := ⟨b, B, y⟩ :: (z2.ents ++ [⟨c, C, z⟩])) h (by simp [Lt.ents]) z1.ns⟩,
   ⟨Holds.sub2 (A := ⟨a, A, x⟩ :: (z1.ents ++ [⟨b, B, y⟩])) (B := z2.s.ents ++ [⟨c, C, z⟩]) h (by simp [Lt.ents]) z2.nf,
    Holds.sub8 (A := ⟨a, A, x⟩ :: (z1.ents ++ (⟨b, B, y⟩ :: z2.f.ents))) (B := [⟨c, C, z⟩]) h (by simp [Lt.ents]) z2.ns⟩⟩
section
variable {P : Program} {n : Nat} {E : Env} {C : World → Prop} {dst : Option Tmp} {t t' ty : TypeId} {pos : String} {aft : Array Edge} {g : Option (Nat × Bool)} {x y : Operand} {l r : List Bt} {c : Bool}
theorem OQ.neSL (hx : ev E x = some (Z l)) (hy : ev E y = some (Z r)) (h : decide (l = r) = c) : OQ P n E C ⟨dst, .binOp .neq t x y t', ty, pos, aft, g⟩ (.bool (!c)) := h ▸ OQ.neS hx hy
end
theorem letterI : EI Tryd.prog 25 (.agg #[nil2.v, nilS.v]) 2 48 := by unfold EI; kernel_rfl
theorem all_any (hL : LetterOk) {f : Sl2} {s : Sl8} {A : List (List Bt)} {w : World} (nm : List Bt) (hf : f.ok w) (hs : s.ok w) (hz : small2 f) (hl : f.l.length ≤ 301) (hb : s.l.length ≤ 3000) (hn : nm.length ≤ 200) (hA : allB nm f.l = A) {S : List Nat} (hS : S = []) : ∀ M w', Holds w S M w' → Calls Tryd.prog 7 [.agg #[f.v, s.v], Z nm].toArray w' fun e w'' => ∃ z : Gz A, e = .returned z.z.v ∧ Holds w' [] z.z.ents w'' := fun M w' hw' => by
  subst hA
  exact hL.all f s nm w' (hf.holds hw' hS) (hs.holds hw' hS) hz hl hb hn
theorem gz_ok {A : List (List Bt)} {z : Gz A} {w w' : World} (h : Holds w [] z.z.ents w') : z.z.ok w' := SlZ.ents_ok (M := []) (by rw [List.append_nil]; exact h) z.n
theorem get_any (hL : LetterOk) {f : Sl2} {s : Sl8} {A : List (List Bt)} {w : World} (nm : List Bt) (hf : f.ok w) (hs : s.ok w) (hz : small2 f) (hl : f.l.length ≤ 301) (hb : s.l.length ≤ 3000) (hn : nm.length ≤ 200) (hA : allB nm f.l = A) {S : List Nat} (hS : S = []) : ∀ M w', Holds w S M w' → Calls Tryd.prog 9 [.agg #[f.v, s.v], Z nm].toArray w' fun e w'' => e = .returned (.tuple #[Z (A.headD []), .bool (!A.isEmpty)]) ∧ Ext w' w'' := fun M w' hw' => by
  subst hA
  exact hL.get f s nm w' (hf.holds hw' hS) (hs.holds hw' hS) hz hl hb hn
set_option maxHeartbeats 16000000 in
theorem law_letterSets (hL : LetterOk) (f : Sl2) (s : Sl8) (nm vl ot : List Bt) (w : World) (hf : f.ok w) (hs : s.ok w) (hz : small2 f) : Calls Tryd.prog 4 [.agg #[f.v, s.v], Z nm, Z vl, Z ot].toArray w fun e w' => e = .returned (.bool true) ∧ Ext w w' := by
  refine enter (n := 129) Tryd.func4 rfl rfl rfl (Holds.start w []) ?_
  have cs := fun w' => speaks11_any hL w'
  have cg : ∀ M w', Holds w [] M w' → Calls Tryd.prog 6 [.agg #[f.v, s.v]].toArray w' fun e w'' => e = .returned (.bool (greatB f.l s.l)) ∧ Ext w' w'' := fun M w' hw' => great_any f s w' (hf.holds hw' rfl) hz
  repeat (first | refine JL.q (by first | (apply OQ.move; exact rfl) | (apply OQ.assign; exact rfl) | (apply OQ.len; exact rfl; exact rfl) | (apply OQ.addN; exact rfl; exact rfl; exact (by (try simp only []); omega)) | (apply OQ.subN; exact rfl; exact rfl; exact (by (try simp only []); omega); exact (by (try simp only []); omega)) | (apply OQ.lssN; exact rfl; exact rfl) | (apply OQ.fld; exact rfl; exact rfl; exact rfl; exact (by decide); exact rfl)) rfl ?_ | refine JC.seq ?_ | refine JC.region ?_ | refine JC.block ?_ | refine JC.skip ?_ | refine JC.exit ?_ | refine JL.nil ?_ | refine JE.next ?_ | refine JE.blk_normal ?_ | refine JE.then_exit ?_ | refine JE.blk_hit ?_ | refine JE.blk_miss rfl ?_ | refine JE.then_ret ?_ | refine JE.blk_ret ?_ | refine JC.label ?_ | refine JL.gon rfl rfl ?_ | refine JL.gskip rfl rfl rfl rfl ?_ | refine JL.gskipU rfl rfl rfl rfl ?_)
  refine JL.box (r := [f.v, s.v]) rfl rfl rfl fun b4 _ => ?_
  repeat (first | refine JL.q (by first | (apply OQ.callx (vs := []); exact goes_speaks11; exact rfl; exact (fun w' _ => cs w')) | (apply OQ.not; exact rfl) | (apply OQ.move; exact rfl) | (apply OQ.assign; exact rfl) | (apply OQ.len; exact rfl; exact rfl) | (apply OQ.addN; exact rfl; exact rfl; exact (by (try simp only []); omega)) | (apply OQ.subN; exact rfl; exact rfl; exact (by (try simp only []); omega); exact (by (try simp only []); omega)) | (apply OQ.lssN; exact rfl; exact rfl) | (apply OQ.fld; exact rfl; exact rfl; exact rfl; exact (by decide); exact rfl)) rfl ?_ | refine JC.seq ?_ | refine JC.region ?_ | refine JC.block ?_ | refine JC.skip ?_ | refine JC.exit ?_ | refine JL.nil ?_ | refine JE.next ?_ | refine JE.blk_normal ?_ | refine JE.then_exit ?_ | refine JE.blk_hit ?_ | refine JE.blk_miss rfl ?_ | refine JE.then_ret ?_ | refine JE.blk_ret ?_ | refine JC.label ?_ | refine JL.gon rfl rfl ?_ | refine JL.gskip rfl rfl rfl rfl ?_ | refine JL.gskipU rfl rfl rfl rfl ?_)
  refine JC.cond rfl (fun h => by cases h) (fun _ => ?_)
  cases g0 : greatB f.l s.l <;> cases g1 : decide ((200 : Int) < (nm.length : Int)) <;> cases g2 : decide ((200 : Int) < (vl.length : Int)) <;> cases g3 : decide ((200 : Int) < (ot.length : Int))
  all_goals rw [g0] at cg
  all_goals (repeat (first | refine JL.q (by first | (apply OQ.load_agg (cs := [f.v, s.v]); exact letA; exact letS; exact rfl; exact .here; exact rfl; exact Row.all) | (apply OQ.callx (vs := [.agg #[f.v, s.v]]); exact goes_great; exact rfl; exact (cg _)) | (apply OQ.lenS; exact Tryd.underlying9; exact rfl) | (apply OQ.gtrB (b := 200); exact rfl; exact rfl; exact g1) | (apply OQ.gtrB (b := 200); exact rfl; exact rfl; exact g2) | (apply OQ.gtrB (b := 200); exact rfl; exact rfl; exact g3) | (apply OQ.pick_t; exact rfl; exact rfl) | (apply OQ.pick_f; exact rfl; exact rfl) | (apply OQ.move; exact rfl) | (apply OQ.assign; exact rfl) | (apply OQ.len; exact rfl; exact rfl) | (apply OQ.addN; exact rfl; exact rfl; exact (by (try simp only []); omega)) | (apply OQ.subN; exact rfl; exact rfl; exact (by (try simp only []); omega); exact (by (try simp only []); omega)) | (apply OQ.lssN; exact rfl; exact rfl) | (apply OQ.fld; exact rfl; exact rfl; exact rfl; exact (by decide); exact rfl)) rfl ?_ | refine JC.seq ?_ | refine JC.region ?_ | refine JC.block ?_ | refine JC.skip ?_ | refine JC.exit ?_ | refine JL.nil ?_ | refine JE.next ?_ | refine JE.blk_normal ?_ | refine JE.then_exit ?_ | refine JE.blk_hit ?_ | refine JE.blk_miss rfl ?_ | refine JE.then_ret ?_ | refine JE.blk_ret ?_ | refine JC.label ?_ | refine JL.gon rfl rfl ?_ | refine JL.gskip rfl rfl rfl rfl ?_ | refine JL.gskipU rfl rfl rfl rfl ?_))
  all_goals refine JC.cond rfl (fun h => ?_) (fun h => ?_)
  all_goals first | (exfalso; revert h; decide) | skip
  all_goals clear h
  all_goals first
    | ((repeat (first | refine JL.q (by first | (apply OQ.move; exact rfl) | (apply OQ.assign; exact rfl) | (apply OQ.len; exact rfl; exact rfl) | (apply OQ.addN; exact rfl; exact rfl; exact (by (try simp only []); omega)) | (apply OQ.subN; exact rfl; exact rfl; exact (by (try simp only []); omega); exact (by (try simp only []); omega)) | (apply OQ.lssN; exact rfl; exact rfl) | (apply OQ.fld; exact rfl; exact rfl; exact rfl; exact (by decide); exact rfl)) rfl ?_ | refine JC.seq ?_ | refine JC.region ?_ | refine JC.block ?_ | refine JC.skip ?_ | refine JC.exit ?_ | refine JL.nil ?_ | refine JE.next ?_ | refine JE.blk_normal ?_ | refine JE.then_exit ?_ | refine JE.blk_hit ?_ | refine JE.blk_miss rfl ?_ | refine JE.then_ret ?_ | refine JE.blk_ret ?_ | refine JC.label ?_ | refine JL.gon rfl rfl ?_ | refine JL.gskip rfl rfl rfl rfl ?_ | refine JL.gskipU rfl rfl rfl rfl ?_))
       refine JC.ret ?_
       (repeat (first | refine JL.q (by first | (apply OQ.move; exact rfl) | (apply OQ.assign; exact rfl) | (apply OQ.len; exact rfl; exact rfl) | (apply OQ.addN; exact rfl; exact rfl; exact (by (try simp only []); omega)) | (apply OQ.subN; exact rfl; exact rfl; exact (by (try simp only []); omega); exact (by (try simp only []); omega)) | (apply OQ.lssN; exact rfl; exact rfl) | (apply OQ.fld; exact rfl; exact rfl; exact rfl; exact (by decide); exact rfl)) rfl ?_ | refine JC.seq ?_ | refine JC.region ?_ | refine JC.block ?_ | refine JC.skip ?_ | refine JC.exit ?_ | refine JL.nil ?_ | refine JE.next ?_ | refine JE.blk_normal ?_ | refine JE.then_exit ?_ | refine JE.blk_hit ?_ | refine JE.blk_miss rfl ?_ | refine JE.then_ret ?_ | refine JE.blk_ret ?_ | refine JC.label ?_ | refine JL.gon rfl rfl ?_ | refine JL.gskip rfl rfl rfl rfl ?_ | refine JL.gskipU rfl rfl rfl rfl ?_))
       exact JE.ret1 rfl (RV.tmp rfl) fun w' hw => ⟨rfl, hw.chg⟩)
    | skip
  obtain ⟨l1, l2, l3⟩ := great_no g0
  have n1 : nm.length ≤ 200 := by have := of_decide_eq_false g1; omega
  have n2 : vl.length ≤ 200 := by have := of_decide_eq_false g2; omega
  have n3 : ot.length ≤ 200 := by have := of_decide_eq_false g3; omega
  clear g0 g1 g2 g3 cg cs
  refine JC.reb (S' := []) (M' := [⟨b4, Row 25 [f.v, s.v], false⟩]) (fun w1 hw1 => Holds.cold hw1) fun w1 hw1 => ?_
  have hE1 : Ext w w1 := hw1.chg
  replace hf := hf.ext hE1
  replace hs := hs.ext hE1
  clear hw1
  have c3 : ∀ M w', Holds w1 [] M w' → Calls Tryd.prog 10 [.agg #[f.v, s.v], Z nm, Z vl].toArray w' fun e w'' => ∃ z : Lt (setB nm vl f.l) s.l, e = .returned z.v ∧ Holds w' [] z.ents w'' := fun M w' hw' => hL.set f s nm vl w' (hf.holds hw' rfl) (hs.holds hw' rfl) hz (by omega) l2 n1 n2
  have c6 : ∀ M w', Holds w1 [] M w' → Calls Tryd.prog 11 [.agg #[f.v, s.v], Z nm].toArray w' fun e w'' => ∃ z : Lt (dropB nm f.l) s.l, e = .returned z.v ∧ Holds w' [] z.ents w'' := fun M w' hw' => hL.drop f s nm w' (hf.holds hw' rfl) (hs.holds hw' rfl) hz (by omega) l2 n1
  repeat (first | refine JL.q (by first | (apply OQ.move; exact rfl) | (apply OQ.assign; exact rfl) | (apply OQ.len; exact rfl; exact rfl) | (apply OQ.addN; exact rfl; exact rfl; exact (by (try simp only []); omega)) | (apply OQ.subN; exact rfl; exact rfl; exact (by (try simp only []); omega); exact (by (try simp only []); omega)) | (apply OQ.lssN; exact rfl; exact rfl) | (apply OQ.fld; exact rfl; exact rfl; exact rfl; exact (by decide); exact rfl)) rfl ?_ | refine JC.seq ?_ | refine JC.region ?_ | refine JC.block ?_ | refine JC.skip ?_ | refine JC.exit ?_ | refine JL.nil ?_ | refine JE.next ?_ | refine JE.blk_normal ?_ | refine JE.then_exit ?_ | refine JE.blk_hit ?_ | refine JE.blk_miss rfl ?_ | refine JE.then_ret ?_ | refine JE.blk_ret ?_ | refine JC.label ?_ | refine JL.gon rfl rfl ?_ | refine JL.gskip rfl rfl rfl rfl ?_ | refine JL.gskipU rfl rfl rfl rfl ?_)
  let vs : Nat → Lt (setB nm vl f.l) s.l × Lt (dropB nm f.l) s.l × Nat → Value := fun j x => match j with
    | 0 => .agg #[f.v, s.v]
    | 1 => Z nm
    | 2 => Z vl
    | 3 => x.1.v
    | 4 => .agg #[f.v, s.v]
    | 5 => Z nm
    | 6 => x.2.1.v
    | _ => Pt x.2.2 0
  let Ms : Nat → Lt (setB nm vl f.l) s.l × Lt (dropB nm f.l) s.l × Nat → List Ent := fun j x => match j with
    | 3 => x.1.ents
    | 6 => x.2.1.ents
    | 7 => [⟨x.2.2, Row 25 [nil2.v, nilS.v], true⟩]
    | 8 => [⟨x.2.2, Row 25 [nil2.v, nilS.v], true⟩]
    | 9 => ⟨x.2.2, Row 25 [x.1.f.v, x.1.s.v], true⟩ :: (x.1.ents ++ [])
    | 10 => ⟨x.2.2, Row 25 [x.2.1.f.v, x.2.1.s.v], true⟩ :: (x.2.1.ents ++ [])
    | 11 => [⟨b4, Row 25 [f.v, s.v], false⟩]
    | _ => []
  refine JC.growR (g := ⟨[(1, Z nm), (2, Z vl), (3, Z ot), (4, Pt b4 0)], 12, vs, Ms, (fun j => match j with | 3 => [(0, 40), (1, 41), (2, 42)] | 6 => [(4, 44), (5, 45)] | 9 => [(7, 9), (3, 43)] | 10 => [(8, 10), (6, 46)] | _ => []), (fun j => match j with | 0 => [11] | 4 => [11] | 9 => [7, 3] | 10 => [8, 6] | _ => []), (fun j => match j with | 9 => [7, 3] | 10 => [8, 6] | _ => []), (fun j => match j with | 9 => some 7 | 10 => some 8 | _ => none), fun _ => [], fun _ a b => a.2.2 = b.2.2⟩) [(7, 9), (8, 10)] [9, 10, 11] mixT (by repeat (first | exact SubE.nil | refine SubE.cons _ _ _ rfl ?_)) (fun _ _ => .nil) (Less.refl _) (by kernel_rfl) (by kernel_rfl) (by kernel_rfl) ?_ ?_
  · refine ⟨?_, ?_, ?_, ?_, ?_, ?_, ?_, ?_, ?_, ?_, ?_, trivial⟩
    · (intro x EF MF Q kk; exact JL.q (OQ.load_agg (cs := [f.v, s.v]) letA letS rfl .here rfl Row.all) rfl (JL.nil (kk default nofun)))
    · (intro x EF MF Q kk; exact JL.q (OQ.move rfl) rfl (JL.nil (kk default nofun)))
    · (intro x EF MF Q kk; exact JL.q (OQ.move rfl) rfl (JL.nil (kk default nofun)))
    · (intro x EF MF Q kk; exact JL.call (ι := Lt (setB nm vl f.l) s.l) (vs := [.agg #[f.v, s.v], Z nm, Z vl]) (fun z => z.v) (fun z => z.ents ++ MF) goes_lset rfl rfl (fun w' hw' => (c3 _ w' hw').mono fun e w2 ⟨z, h1, h2⟩ => ⟨z, h1, Sl.Holds.both hw' h2 z.wr⟩) fun z => JL.nil (kk (z, default, 0) nofun))
    · (intro x EF MF Q kk; exact JL.q (OQ.load_agg (cs := [f.v, s.v]) letA letS rfl .here rfl Row.all) rfl (JL.nil (kk default nofun)))
    · (intro x EF MF Q kk; exact JL.q (OQ.move rfl) rfl (JL.nil (kk default nofun)))
    · (intro x EF MF Q kk; exact JL.call (ι := Lt (dropB nm f.l) s.l) (vs := [.agg #[f.v, s.v], Z nm]) (fun z => z.v) (fun z => z.ents ++ MF) goes_ldrop rfl rfl (fun w' hw' => (c6 _ w' hw').mono fun e w2 ⟨z, h1, h2⟩ => ⟨z, h1, Sl.Holds.both hw' h2 z.wr⟩) fun z => JL.nil (kk (default, z, 0) nofun))
    · (intro x EF MF Q kk; exact JL.alloc letZ rfl fun b _ => JL.nil (kk (default, default, b) nofun))
    · (intro x EF MF Q kk; exact JL.alloc letZ rfl fun b _ => JL.nil (kk (default, default, b) nofun))
    · (intro x EF MF Q kk; exact JL.store_all (cs := [(x 3).1.f.v, (x 3).1.s.v]) letS rfl rfl rfl rfl .here rfl (JL.nil (kk ((x 3).1, default, (x 7).2.2) (fun k h => by cases h; rfl))))
    · (intro x EF MF Q kk; exact JL.store_all (cs := [(x 6).2.1.f.v, (x 6).2.1.s.v]) letS rfl rfl rfl rfl .here rfl (JL.nil (kk (default, (x 6).2.1, (x 8).2.2) (fun k h => by cases h; rfl))))
  · intro x hx
    have h9 : (x 9).2.2 = (x 7).2.2 := hx 9 7 (by decide) rfl
    have h10 : (x 10).2.2 = (x 8).2.2 := hx 10 8 (by decide) rfl
    show JE _ _ _ _ _ [(9, Pt (x 7).2.2 0), (10, Pt (x 8).2.2 0), (1, Z nm), (2, Z vl), (3, Z ot), (4, Pt b4 0)] ((⟨(x 9).2.2, Row 25 [(x 9).1.f.v, (x 9).1.s.v], true⟩ :: ((x 9).1.ents ++ [])) ++ ((⟨(x 10).2.2, Row 25 [(x 10).2.1.f.v, (x 10).2.1.s.v], true⟩ :: ((x 10).2.1.ents ++ [])) ++ ([⟨b4, Row 25 [f.v, s.v], false⟩] ++ [])))
    rw [← h9, ← h10]
    generalize x 9 = q9
    generalize x 10 = q10
    clear h9 h10 hx x vs Ms c3 c6
    obtain ⟨z1, _, b9⟩ := q9
    obtain ⟨_, z2, b10⟩ := q10
    dsimp only
    repeat (first | refine JL.q (by first | (apply OQ.move; exact rfl) | (apply OQ.assign; exact rfl) | (apply OQ.len; exact rfl; exact rfl) | (apply OQ.addN; exact rfl; exact rfl; exact (by (try simp only []); omega)) | (apply OQ.subN; exact rfl; exact rfl; exact (by (try simp only []); omega); exact (by (try simp only []); omega)) | (apply OQ.lssN; exact rfl; exact rfl) | (apply OQ.fld; exact rfl; exact rfl; exact rfl; exact (by decide); exact rfl)) rfl ?_ | refine JC.seq ?_ | refine JC.region ?_ | refine JC.block ?_ | refine JC.skip ?_ | refine JC.exit ?_ | refine JL.nil ?_ | refine JE.next ?_ | refine JE.blk_normal ?_ | refine JE.then_exit ?_ | refine JE.blk_hit ?_ | refine JE.blk_miss rfl ?_ | refine JE.then_ret ?_ | refine JE.blk_ret ?_ | refine JC.label ?_ | refine JL.gon rfl rfl ?_ | refine JL.gskip rfl rfl rfl rfl ?_ | refine JL.gskipU rfl rfl rfl rfl ?_)
    have m3 : ∀ w', Holds w1 [] ((⟨b9, Row 25 [z1.f.v, z1.s.v], true⟩ :: (z1.ents ++ [])) ++ ((⟨b10, Row 25 [z2.f.v, z2.s.v], true⟩ :: (z2.ents ++ [])) ++ ([⟨b4, Row 25 [f.v, s.v], false⟩] ++ []))) w' → Holds w' [] [⟨b9, Row 25 [z1.f.v, z1.s.v], false⟩, ⟨b10, Row 25 [z2.f.v, z2.s.v], false⟩, ⟨b4, Row 25 [f.v, s.v], false⟩] w' := fun w' h => Holds.cold3 h
    refine JL.reb (S' := []) (M' := [⟨b9, Row 25 [z1.f.v, z1.s.v], false⟩, ⟨b10, Row 25 [z2.f.v, z2.s.v], false⟩, ⟨b4, Row 25 [f.v, s.v], false⟩]) m3 fun w2 hw2 => ?_
    obtain ⟨⟨o1, o2⟩, o3, o4⟩ := Holds.oks hw2
    have hE2 : Ext w w2 := hE1.trans hw2.chg
    replace hf := hf.ext hw2.chg
    replace hs := hs.ext hw2.chg
    clear hw2 m3 hE1
    have k1 : z1.f.l.length ≤ 301 := by rw [z1.hf]; have := setR_len nm vl f.l false; unfold setB; omega
    have k2 : z2.f.l.length ≤ 301 := by rw [z2.hf]; have := drop_len nm f.l; omega
    have k3 : z1.s.l.length ≤ 3000 := by rw [z1.hs]; exact l2
    have k4 : z2.s.l.length ≤ 3000 := by rw [z2.hs]; exact l2
    have y1 : small2 z1.f := fun p hp => by
      rw [z1.hf] at hp
      rcases mem_setR nm vl hp with h | h
      · rw [h]; exact ⟨by dsimp only; omega, by dsimp only; omega⟩
      · exact hz p h
    have y2 : small2 z2.f := fun p hp => by
      rw [z2.hf] at hp
      exact hz p (mem_drop hp)
    have a1 : allB nm z1.f.l = [vl] := by rw [z1.hf, all_set]
    have a2 : allB nm z2.f.l = [] := by rw [z2.hf, all_drop]
    repeat (first | refine JL.q (by first | (apply OQ.load_agg (cs := [z1.f.v, z1.s.v]); exact letA; exact letS; exact rfl; exact .here; exact rfl; exact Row.all) | (apply OQ.move; exact rfl) | (apply OQ.assign; exact rfl) | (apply OQ.len; exact rfl; exact rfl) | (apply OQ.addN; exact rfl; exact rfl; exact (by (try simp only []); omega)) | (apply OQ.subN; exact rfl; exact rfl; exact (by (try simp only []); omega); exact (by (try simp only []); omega)) | (apply OQ.lssN; exact rfl; exact rfl) | (apply OQ.fld; exact rfl; exact rfl; exact rfl; exact (by decide); exact rfl)) rfl ?_ | refine JC.seq ?_ | refine JC.region ?_ | refine JC.block ?_ | refine JC.skip ?_ | refine JC.exit ?_ | refine JL.nil ?_ | refine JE.next ?_ | refine JE.blk_normal ?_ | refine JE.then_exit ?_ | refine JE.blk_hit ?_ | refine JE.blk_miss rfl ?_ | refine JE.then_ret ?_ | refine JE.blk_ret ?_ | refine JC.label ?_ | refine JL.gon rfl rfl ?_ | refine JL.gskip rfl rfl rfl rfl ?_ | refine JL.gskipU rfl rfl rfl rfl ?_)
    refine JL.callw (vs := [.agg #[z1.f.v, z1.s.v], Z nm]) (S' := []) (ι := Gz [vl]) (fun z => z.z.v) (fun z w2 => z.z.ok w2) [⟨b9, Row 25 [z1.f.v, z1.s.v], false⟩, ⟨b10, Row 25 [z2.f.v, z2.s.v], false⟩, ⟨b4, Row 25 [f.v, s.v], false⟩] goes_lall rfl rfl (fun w' hw' => (all_any hL nm o1 o2 y1 k1 k3 n1 a1 rfl _ w' hw').mono fun e w2 ⟨z, h1, h2⟩ => ⟨z, h1, h2.chg, gz_ok h2⟩) (Less.refl _) (by simp) ?_
    rintro ⟨⟨adx, capx, lx⟩, hx, _⟩ w3 hw3 okx
    dsimp only at hx okx ⊢
    subst hx
    have hE3 : Ext w w3 := hE2.trans hw3.chg
    replace hf := hf.ext hw3.chg
    replace hs := hs.ext hw3.chg
    replace o1 := o1.ext hw3.chg
    replace o2 := o2.ext hw3.chg
    replace o3 := o3.ext hw3.chg
    replace o4 := o4.ext hw3.chg
    clear hw3 hE2
    have d1 : ∀ M w', Holds w3 [] M w' → Calls Tryd.prog 9 [.agg #[z1.f.v, z1.s.v], Z nm].toArray w' fun e w'' => e = .returned (.tuple #[Z vl, .bool true]) ∧ Ext w' w'' := get_any hL nm o1 o2 y1 k1 k3 n1 a1 rfl
    have d2 : ∀ M w', Holds w3 [] M w' → Calls Tryd.prog 9 [.agg #[z2.f.v, z2.s.v], Z nm].toArray w' fun e w'' => e = .returned (.tuple #[Z [], .bool false]) ∧ Ext w' w'' := get_any hL nm o3 o4 y2 k2 k4 n1 a2 rfl
    repeat (first | refine JL.q (by first | (apply OQ.load_agg (cs := [z1.f.v, z1.s.v]); exact letA; exact letS; exact rfl; exact .here; exact rfl; exact Row.all) | (apply OQ.callx (vs := [.agg #[z1.f.v, z1.s.v], Z nm]); exact goes_lget; exact rfl; exact (d1 _)) | (apply OQ.extract; exact rfl; exact rfl) | (apply OQ.move; exact rfl) | (apply OQ.assign; exact rfl) | (apply OQ.len; exact rfl; exact rfl) | (apply OQ.addN; exact rfl; exact rfl; exact (by (try simp only []); omega)) | (apply OQ.subN; exact rfl; exact rfl; exact (by (try simp only []); omega); exact (by (try simp only []); omega)) | (apply OQ.lssN; exact rfl; exact rfl) | (apply OQ.fld; exact rfl; exact rfl; exact rfl; exact (by decide); exact rfl)) rfl ?_ | refine JC.seq ?_ | refine JC.region ?_ | refine JC.block ?_ | refine JC.skip ?_ | refine JC.exit ?_ | refine JL.nil ?_ | refine JE.next ?_ | refine JE.blk_normal ?_ | refine JE.then_exit ?_ | refine JE.blk_hit ?_ | refine JE.blk_miss rfl ?_ | refine JE.then_ret ?_ | refine JE.blk_ret ?_ | refine JC.label ?_ | refine JL.gon rfl rfl ?_ | refine JL.gskip rfl rfl rfl rfl ?_ | refine JL.gskipU rfl rfl rfl rfl ?_)
    repeat (first | refine JL.q (by first | (apply OQ.load_agg (cs := [z2.f.v, z2.s.v]); exact letA; exact letS; exact rfl; exact (.there .here); exact rfl; exact Row.all) | (apply OQ.callx (vs := [.agg #[z2.f.v, z2.s.v], Z nm]); exact goes_lget; exact rfl; exact (d2 _)) | (apply OQ.extract; exact rfl; exact rfl) | (apply OQ.move; exact rfl) | (apply OQ.assign; exact rfl) | (apply OQ.len; exact rfl; exact rfl) | (apply OQ.addN; exact rfl; exact rfl; exact (by (try simp only []); omega)) | (apply OQ.subN; exact rfl; exact rfl; exact (by (try simp only []); omega); exact (by (try simp only []); omega)) | (apply OQ.lssN; exact rfl; exact rfl) | (apply OQ.fld; exact rfl; exact rfl; exact rfl; exact (by decide); exact rfl)) rfl ?_ | refine JC.seq ?_ | refine JC.region ?_ | refine JC.block ?_ | refine JC.skip ?_ | refine JC.exit ?_ | refine JL.nil ?_ | refine JE.next ?_ | refine JE.blk_normal ?_ | refine JE.then_exit ?_ | refine JE.blk_hit ?_ | refine JE.blk_miss rfl ?_ | refine JE.then_ret ?_ | refine JE.blk_ret ?_ | refine JC.label ?_ | refine JL.gon rfl rfl ?_ | refine JL.gskip rfl rfl rfl rfl ?_ | refine JL.gskipU rfl rfl rfl rfl ?_)
    obtain ⟨bx, jx, eX, lx, cx⟩ := okx.at (Nat.zero_lt_one : 0 < [vl].length)
    replace eX : adx = _ := eX
    subst eX
    have cx0 : w3.cell? ⟨bx, jx + 0, none⟩ = some (Z vl) := cx 0 (Nat.zero_lt_one : 0 < [vl].length)
    have hvv : decide (vl = vl) = true := decide_eq_true rfl
    repeat (first | refine JL.q (by first | (apply OQ.len; exact Tryd.underlying28; exact rfl) | (apply OQ.neB (b := 1) (c := true); exact rfl; exact rfl; exact rfl) | (apply OQ.idxS1 (i := 0); exact Tryd.underlying28; exact strS; exact rfl; exact rfl; exact (Nat.zero_lt_one : 0 < [vl].length)) | (apply OQ.load_old; exact strC; exact rfl; exact lx; exact (by simp); exact cx0) | (apply OQ.neSL; exact rfl; exact rfl; exact hvv) | (apply OQ.not; exact rfl) | (apply OQ.pick_f; exact rfl; exact rfl) | (apply OQ.load_agg (cs := [z2.f.v, z2.s.v]); exact letA; exact letS; exact rfl; exact (.there .here); exact rfl; exact Row.all) | (apply OQ.move; exact rfl) | (apply OQ.assign; exact rfl) | (apply OQ.len; exact rfl; exact rfl) | (apply OQ.addN; exact rfl; exact rfl; exact (by (try simp only []); omega)) | (apply OQ.subN; exact rfl; exact rfl; exact (by (try simp only []); omega); exact (by (try simp only []); omega)) | (apply OQ.lssN; exact rfl; exact rfl) | (apply OQ.fld; exact rfl; exact rfl; exact rfl; exact (by decide); exact rfl)) rfl ?_ | refine JC.seq ?_ | refine JC.region ?_ | refine JC.block ?_ | refine JC.skip ?_ | refine JC.exit ?_ | refine JL.nil ?_ | refine JE.next ?_ | refine JE.blk_normal ?_ | refine JE.then_exit ?_ | refine JE.blk_hit ?_ | refine JE.blk_miss rfl ?_ | refine JE.then_ret ?_ | refine JE.blk_ret ?_ | refine JC.label ?_ | refine JL.gon rfl rfl ?_ | refine JL.gskip rfl rfl rfl rfl ?_ | refine JL.gskipU rfl rfl rfl rfl ?_)
    refine JL.callw (vs := [.agg #[z2.f.v, z2.s.v], Z nm]) (S' := []) (ι := Gz []) (fun z => z.z.v) (fun z w2 => z.z.ok w2) [⟨b9, Row 25 [z1.f.v, z1.s.v], false⟩, ⟨b10, Row 25 [z2.f.v, z2.s.v], false⟩, ⟨b4, Row 25 [f.v, s.v], false⟩] goes_lall rfl rfl (fun w' hw' => (all_any hL nm o3 o4 y2 k2 k4 n1 a2 rfl _ w' hw').mono fun e w2 ⟨z, h1, h2⟩ => ⟨z, h1, h2.chg, gz_ok h2⟩) (Less.refl _) (by simp) ?_
    rintro ⟨⟨ady, capy, ly⟩, hy, _⟩ w4 hw4 oky
    dsimp only at hy oky ⊢
    subst hy
    have hE4 : Ext w w4 := hE3.trans hw4.chg
    replace hf := hf.ext hw4.chg
    replace hs := hs.ext hw4.chg
    replace o1 := o1.ext hw4.chg
    replace o2 := o2.ext hw4.chg
    replace o3 := o3.ext hw4.chg
    replace o4 := o4.ext hw4.chg
    clear hw4 hE3 oky d1 d2 cx0 cx okx
    repeat (first | refine JL.q (by first | (apply OQ.len; exact Tryd.underlying28; exact rfl) | (apply OQ.neB (b := 0) (c := true); exact rfl; exact rfl; exact rfl) | (apply OQ.pick_f; exact rfl; exact rfl) | (apply OQ.move; exact rfl) | (apply OQ.assign; exact rfl) | (apply OQ.len; exact rfl; exact rfl) | (apply OQ.addN; exact rfl; exact rfl; exact (by (try simp only []); omega)) | (apply OQ.subN; exact rfl; exact rfl; exact (by (try simp only []); omega); exact (by (try simp only []); omega)) | (apply OQ.lssN; exact rfl; exact rfl) | (apply OQ.fld; exact rfl; exact rfl; exact rfl; exact (by decide); exact rfl)) rfl ?_ | refine JC.seq ?_ | refine JC.region ?_ | refine JC.block ?_ | refine JC.skip ?_ | refine JC.exit ?_ | refine JL.nil ?_ | refine JE.next ?_ | refine JE.blk_normal ?_ | refine JE.then_exit ?_ | refine JE.blk_hit ?_ | refine JE.blk_miss rfl ?_ | refine JE.then_ret ?_ | refine JE.blk_ret ?_ | refine JC.label ?_ | refine JL.gon rfl rfl ?_ | refine JL.gskip rfl rfl rfl rfl ?_ | refine JL.gskipU rfl rfl rfl rfl ?_)
    refine JC.cond rfl (fun h => by cases h) (fun _ => ?_)
    cases hno : sameB nm ot
    case true =>
      repeat (first | refine JL.q (by first | (apply OQ.callb (vs := [Z nm, Z ot]); exact goes_rsame9; exact rfl; exact (fun w' => rsame9_any nm ot w' (by omega) (by omega)); exact hno) | (apply OQ.move; exact rfl) | (apply OQ.assign; exact rfl) | (apply OQ.len; exact rfl; exact rfl) | (apply OQ.addN; exact rfl; exact rfl; exact (by (try simp only []); omega)) | (apply OQ.subN; exact rfl; exact rfl; exact (by (try simp only []); omega); exact (by (try simp only []); omega)) | (apply OQ.lssN; exact rfl; exact rfl) | (apply OQ.fld; exact rfl; exact rfl; exact rfl; exact (by decide); exact rfl)) rfl ?_ | refine JC.seq ?_ | refine JC.region ?_ | refine JC.block ?_ | refine JC.skip ?_ | refine JC.exit ?_ | refine JL.nil ?_ | refine JE.next ?_ | refine JE.blk_normal ?_ | refine JE.then_exit ?_ | refine JE.blk_hit ?_ | refine JE.blk_miss rfl ?_ | refine JE.then_ret ?_ | refine JE.blk_ret ?_ | refine JC.label ?_ | refine JL.gon rfl rfl ?_ | refine JL.gskip rfl rfl rfl rfl ?_ | refine JL.gskipU rfl rfl rfl rfl ?_)
      refine JC.cond rfl (fun _ => ?_) (fun h => by cases h)
      repeat (first | refine JL.q (by first | (apply OQ.move; exact rfl) | (apply OQ.assign; exact rfl) | (apply OQ.len; exact rfl; exact rfl) | (apply OQ.addN; exact rfl; exact rfl; exact (by (try simp only []); omega)) | (apply OQ.subN; exact rfl; exact rfl; exact (by (try simp only []); omega); exact (by (try simp only []); omega)) | (apply OQ.lssN; exact rfl; exact rfl) | (apply OQ.fld; exact rfl; exact rfl; exact rfl; exact (by decide); exact rfl)) rfl ?_ | refine JC.seq ?_ | refine JC.region ?_ | refine JC.block ?_ | refine JC.skip ?_ | refine JC.exit ?_ | refine JL.nil ?_ | refine JE.next ?_ | refine JE.blk_normal ?_ | refine JE.then_exit ?_ | refine JE.blk_hit ?_ | refine JE.blk_miss rfl ?_ | refine JE.then_ret ?_ | refine JE.blk_ret ?_ | refine JC.label ?_ | refine JL.gon rfl rfl ?_ | refine JL.gskip rfl rfl rfl rfl ?_ | refine JL.gskipU rfl rfl rfl rfl ?_)
      refine JC.ret ?_
      repeat (first | refine JL.q (by first | (apply OQ.move; exact rfl) | (apply OQ.assign; exact rfl) | (apply OQ.len; exact rfl; exact rfl) | (apply OQ.addN; exact rfl; exact rfl; exact (by (try simp only []); omega)) | (apply OQ.subN; exact rfl; exact rfl; exact (by (try simp only []); omega); exact (by (try simp only []); omega)) | (apply OQ.lssN; exact rfl; exact rfl) | (apply OQ.fld; exact rfl; exact rfl; exact rfl; exact (by decide); exact rfl)) rfl ?_ | refine JC.seq ?_ | refine JC.region ?_ | refine JC.block ?_ | refine JC.skip ?_ | refine JC.exit ?_ | refine JL.nil ?_ | refine JE.next ?_ | refine JE.blk_normal ?_ | refine JE.then_exit ?_ | refine JE.blk_hit ?_ | refine JE.blk_miss rfl ?_ | refine JE.then_ret ?_ | refine JE.blk_ret ?_ | refine JC.label ?_ | refine JL.gon rfl rfl ?_ | refine JL.gskip rfl rfl rfl rfl ?_ | refine JL.gskipU rfl rfl rfl rfl ?_)
      exact JE.ret1 rfl (RV.tmp rfl) fun w' hw => ⟨rfl, hE4.trans hw.chg⟩
    repeat (first | refine JL.q (by first | (apply OQ.callb (vs := [Z nm, Z ot]); exact goes_rsame9; exact rfl; exact (fun w' => rsame9_any nm ot w' (by omega) (by omega)); exact hno) | (apply OQ.move; exact rfl) | (apply OQ.assign; exact rfl) | (apply OQ.len; exact rfl; exact rfl) | (apply OQ.addN; exact rfl; exact rfl; exact (by (try simp only []); omega)) | (apply OQ.subN; exact rfl; exact rfl; exact (by (try simp only []); omega); exact (by (try simp only []); omega)) | (apply OQ.lssN; exact rfl; exact rfl) | (apply OQ.fld; exact rfl; exact rfl; exact rfl; exact (by decide); exact rfl)) rfl ?_ | refine JC.seq ?_ | refine JC.region ?_ | refine JC.block ?_ | refine JC.skip ?_ | refine JC.exit ?_ | refine JL.nil ?_ | refine JE.next ?_ | refine JE.blk_normal ?_ | refine JE.then_exit ?_ | refine JE.blk_hit ?_ | refine JE.blk_miss rfl ?_ | refine JE.then_ret ?_ | refine JE.blk_ret ?_ | refine JC.label ?_ | refine JL.gon rfl rfl ?_ | refine JL.gskip rfl rfl rfl rfl ?_ | refine JL.gskipU rfl rfl rfl rfl ?_)
    refine JC.cond rfl (fun h => by cases h) (fun _ => ?_)
    have e1 : allB ot z1.f.l = allB ot f.l := by rw [z1.hf]; exact other_set nm vl ot hno f.l
    have e2 : allB ot z2.f.l = allB ot f.l := by rw [z2.hf]; exact other_drop nm ot hno f.l
    clear a1 a2 hvv
    repeat (first | refine JL.q (by first | (apply OQ.load_agg (cs := [z1.f.v, z1.s.v]); exact letA; exact letS; exact rfl; exact .here; exact rfl; exact Row.all) | (apply OQ.load_agg (cs := [z2.f.v, z2.s.v]); exact letA; exact letS; exact rfl; exact (.there .here); exact rfl; exact Row.all) | (apply OQ.move; exact rfl) | (apply OQ.assign; exact rfl) | (apply OQ.len; exact rfl; exact rfl) | (apply OQ.addN; exact rfl; exact rfl; exact (by (try simp only []); omega)) | (apply OQ.subN; exact rfl; exact rfl; exact (by (try simp only []); omega); exact (by (try simp only []); omega)) | (apply OQ.lssN; exact rfl; exact rfl) | (apply OQ.fld; exact rfl; exact rfl; exact rfl; exact (by decide); exact rfl)) rfl ?_ | refine JC.seq ?_ | refine JC.region ?_ | refine JC.block ?_ | refine JC.skip ?_ | refine JC.exit ?_ | refine JL.nil ?_ | refine JE.next ?_ | refine JE.blk_normal ?_ | refine JE.then_exit ?_ | refine JE.blk_hit ?_ | refine JE.blk_miss rfl ?_ | refine JE.then_ret ?_ | refine JE.blk_ret ?_ | refine JC.label ?_ | refine JL.gon rfl rfl ?_ | refine JL.gskip rfl rfl rfl rfl ?_ | refine JL.gskipU rfl rfl rfl rfl ?_)
    refine JL.litA2 (cs := [z1.f.v, z1.s.v]) (ds := [z2.f.v, z2.s.v]) Tryd.underlying40 letterI rfl (by decide) (by decide) rfl rfl rfl rfl rfl fun bL _ => ?_
    repeat (first | refine JL.q (by first | (apply OQ.len; exact Tryd.underlying40; exact rfl) | (apply OQ.move; exact rfl) | (apply OQ.assign; exact rfl) | (apply OQ.len; exact rfl; exact rfl) | (apply OQ.addN; exact rfl; exact rfl; exact (by (try simp only []); omega)) | (apply OQ.subN; exact rfl; exact rfl; exact (by (try simp only []); omega); exact (by (try simp only []); omega)) | (apply OQ.lssN; exact rfl; exact rfl) | (apply OQ.fld; exact rfl; exact rfl; exact rfl; exact (by decide); exact rfl)) rfl ?_ | refine JC.seq ?_ | refine JC.region ?_ | refine JC.block ?_ | refine JC.skip ?_ | refine JC.exit ?_ | refine JL.nil ?_ | refine JE.next ?_ | refine JE.blk_normal ?_ | refine JE.then_exit ?_ | refine JE.blk_hit ?_ | refine JE.blk_miss rfl ?_ | refine JE.then_ret ?_ | refine JE.blk_ret ?_ | refine JC.label ?_ | refine JL.gon rfl rfl ?_ | refine JL.gskip rfl rfl rfl rfl ?_ | refine JL.gskipU rfl rfl rfl rfl ?_)
    refine JC.loopb (ι := Nat × World) (fun q => q.2) (fun q => [(1, Z nm), (3, Z ot), (4, Pt b4 0), (96, .slice (some ⟨bL, 0, none⟩) 2 2), (97, N 2), (98, N q.1)]) (fun _ => [⟨bL, Row 25 ([z1.f.v, z1.s.v] ++ [z2.f.v, z2.s.v]), false⟩, ⟨b4, Row 25 [f.v, s.v], false⟩]) (fun q => 2 - q.1) (fun q => q.1 ≤ 2 ∧ Ext w4 q.2) (0, w4) ⟨Nat.zero_le 2, Chg.refl _ _⟩ (by repeat (first | exact SubE.nil | refine SubE.cons _ _ _ rfl ?_)) ?_ ?_
    · exact fun w' hw' => Sl.Holds.weak (Holds.wane hw') (.keep _ _ _ _ _ _ (fun _ h => h) (.drop _ _ _ (.drop _ _ _ (Less.refl _))))
    rintro ⟨i, w5⟩ ⟨hi, hx5⟩
    dsimp only at hi hx5 ⊢
    replace hf := hf.ext hx5
    replace hs := hs.ext hx5
    replace o1 := o1.ext hx5
    replace o2 := o2.ext hx5
    replace o3 := o3.ext hx5
    replace o4 := o4.ext hx5
    have hE5 : Ext w w5 := hE4.trans hx5
    repeat (first | refine JL.q (by first | (apply OQ.move; exact rfl) | (apply OQ.assign; exact rfl) | (apply OQ.len; exact rfl; exact rfl) | (apply OQ.addN; exact rfl; exact rfl; exact (by (try simp only []); omega)) | (apply OQ.subN; exact rfl; exact rfl; exact (by (try simp only []); omega); exact (by (try simp only []); omega)) | (apply OQ.lssN; exact rfl; exact rfl) | (apply OQ.fld; exact rfl; exact rfl; exact rfl; exact (by decide); exact rfl)) rfl ?_ | refine JC.seq ?_ | refine JC.region ?_ | refine JC.block ?_ | refine JC.skip ?_ | refine JC.exit ?_ | refine JL.nil ?_ | refine JE.next ?_ | refine JE.blk_normal ?_ | refine JE.then_exit ?_ | refine JE.blk_hit ?_ | refine JE.blk_miss rfl ?_ | refine JE.then_ret ?_ | refine JE.blk_ret ?_ | refine JC.label ?_ | refine JL.gon rfl rfl ?_ | refine JL.gskip rfl rfl rfl rfl ?_ | refine JL.gskipU rfl rfl rfl rfl ?_)
    refine JC.cond rfl (fun h => ?_) (fun h => ?_)
    · have hi' : i < 2 := of_decide_eq_true h
      clear h
      obtain ⟨f', s', p1, p2, p3, p4, p5, p6, p7⟩ : ∃ (f' : Sl2) (s' : Sl8), f'.ok w5 ∧ s'.ok w5 ∧ small2 f' ∧ f'.l.length ≤ 301 ∧ s'.l.length ≤ 3000 ∧ allB ot f'.l = allB ot f.l ∧ ∀ o, Row 25 ([z1.f.v, z1.s.v] ++ [z2.f.v, z2.s.v]) o → hasCells o (0 + i * 2) [f'.v, s'.v] := by
        match i, hi' with
        | 0, _ => exact ⟨z1.f, z1.s, o1, o2, y1, k1, k3, e1, Row.cells rfl⟩
        | 1, _ => exact ⟨z2.f, z2.s, o3, o4, y2, k2, k4, e2, Row.cells rfl⟩
      clear o1 o2 o3 o4 y1 y2 k1 k2 k3 k4 e1 e2
      have q1 := all_any hL ot hf hs hz (by omega) l2 n3 rfl rfl
      have q2 := all_any hL ot p1 p2 p3 p4 p5 n3 p6 rfl
      have hAl := all_len ot f.l
      generalize allB ot f.l = A at q1 q2 hAl
      repeat (first | refine JL.q (by first | (apply OQ.idxS; exact Tryd.underlying40; exact letS; exact rfl; exact rfl; exact hi') | (apply OQ.load_agg (cs := [f'.v, s'.v]); exact letA; exact letS; exact rfl; exact .here; exact rfl; exact p7) | (apply OQ.move; exact rfl) | (apply OQ.assign; exact rfl) | (apply OQ.len; exact rfl; exact rfl) | (apply OQ.addN; exact rfl; exact rfl; exact (by (try simp only []); omega)) | (apply OQ.subN; exact rfl; exact rfl; exact (by (try simp only []); omega); exact (by (try simp only []); omega)) | (apply OQ.lssN; exact rfl; exact rfl) | (apply OQ.fld; exact rfl; exact rfl; exact rfl; exact (by decide); exact rfl)) rfl ?_ | refine JC.seq ?_ | refine JC.region ?_ | refine JC.block ?_ | refine JC.skip ?_ | refine JC.exit ?_ | refine JL.nil ?_ | refine JE.next ?_ | refine JE.blk_normal ?_ | refine JE.then_exit ?_ | refine JE.blk_hit ?_ | refine JE.blk_miss rfl ?_ | refine JE.then_ret ?_ | refine JE.blk_ret ?_ | refine JC.label ?_ | refine JL.gon rfl rfl ?_ | refine JL.gskip rfl rfl rfl rfl ?_ | refine JL.gskipU rfl rfl rfl rfl ?_)
      refine JL.alloc letZ rfl fun b17 _ => ?_
      repeat (first | refine JL.q (by first | (apply OQ.move; exact rfl) | (apply OQ.assign; exact rfl) | (apply OQ.len; exact rfl; exact rfl) | (apply OQ.addN; exact rfl; exact rfl; exact (by (try simp only []); omega)) | (apply OQ.subN; exact rfl; exact rfl; exact (by (try simp only []); omega); exact (by (try simp only []); omega)) | (apply OQ.lssN; exact rfl; exact rfl) | (apply OQ.fld; exact rfl; exact rfl; exact rfl; exact (by decide); exact rfl)) rfl ?_ | refine JC.seq ?_ | refine JC.region ?_ | refine JC.block ?_ | refine JC.skip ?_ | refine JC.exit ?_ | refine JL.nil ?_ | refine JE.next ?_ | refine JE.blk_normal ?_ | refine JE.then_exit ?_ | refine JE.blk_hit ?_ | refine JE.blk_miss rfl ?_ | refine JE.then_ret ?_ | refine JE.blk_ret ?_ | refine JC.label ?_ | refine JL.gon rfl rfl ?_ | refine JL.gskip rfl rfl rfl rfl ?_ | refine JL.gskipU rfl rfl rfl rfl ?_)
      refine JL.store_all (cs := [f'.v, s'.v]) letS rfl rfl rfl rfl .here rfl ?_
      repeat (first | refine JL.q (by first | (apply OQ.move; exact rfl) | (apply OQ.assign; exact rfl) | (apply OQ.len; exact rfl; exact rfl) | (apply OQ.addN; exact rfl; exact rfl; exact (by (try simp only []); omega)) | (apply OQ.subN; exact rfl; exact rfl; exact (by (try simp only []); omega); exact (by (try simp only []); omega)) | (apply OQ.lssN; exact rfl; exact rfl) | (apply OQ.fld; exact rfl; exact rfl; exact rfl; exact (by decide); exact rfl)) rfl ?_ | refine JC.seq ?_ | refine JC.region ?_ | refine JC.block ?_ | refine JC.skip ?_ | refine JC.exit ?_ | refine JL.nil ?_ | refine JE.next ?_ | refine JE.blk_normal ?_ | refine JE.then_exit ?_ | refine JE.blk_hit ?_ | refine JE.blk_miss rfl ?_ | refine JE.then_ret ?_ | refine JE.blk_ret ?_ | refine JC.label ?_ | refine JL.gon rfl rfl ?_ | refine JL.gskip rfl rfl rfl rfl ?_ | refine JL.gskipU rfl rfl rfl rfl ?_)
      let vs : Nat → Gz A → Value := fun j x => match j with
        | 0 => .agg #[f.v, s.v]
        | 1 => Z ot
        | 2 => x.z.v
        | 3 => .agg #[f'.v, s'.v]
        | 4 => Z ot
        | _ => x.z.v
      let Ms : Nat → Gz A → List Ent := fun j x => match j with
        | 2 => x.z.ents
        | 5 => x.z.ents
        | 8 => [⟨b17, Row 25 [f'.v, s'.v], true⟩]
        | 9 => [⟨bL, Row 25 ([z1.f.v, z1.s.v] ++ [z2.f.v, z2.s.v]), false⟩]
        | 10 => [⟨b4, Row 25 [f.v, s.v], false⟩]
        | _ => []
      refine JC.grow (g := ⟨[(1, Z nm), (3, Z ot), (4, Pt b4 0), (17, Pt b17 0), (96, .slice (some ⟨bL, 0, none⟩) 2 2), (97, N 2), (98, N i)], 11, vs, Ms, (fun j => match j with | 2 => [(0, 102), (1, 103)] | 5 => [(3, 105), (4, 106)] | 6 => [(2, 104)] | 7 => [(5, 107)] | _ => []), (fun j => match j with | 0 => [10] | 3 => [8] | _ => []), (fun _ => []), (fun j => match j with | 6 => some 2 | 7 => some 5 | _ => none)⟩) [(6, 18), (7, 19)] [2, 5, 9, 10] mixT (by repeat (first | exact SubE.nil | refine SubE.cons _ _ _ rfl ?_)) (Less.refl _) (by kernel_rfl) (by kernel_rfl) (by kernel_rfl) ?_ ?_
      · refine ⟨?_, ?_, ?_, ?_, ?_, ?_, ?_, ?_, trivial⟩
        · (intro x EF MF Q kk; exact JL.q (OQ.load_agg (cs := [f.v, s.v]) letA letS rfl .here rfl Row.all) rfl (JL.nil (kk default nofun)))
        · (intro x EF MF Q kk; exact JL.q (OQ.move rfl) rfl (JL.nil (kk default nofun)))
        · (intro x EF MF Q kk; exact JL.call (ι := Gz A) (vs := [.agg #[f.v, s.v], Z ot]) (fun z => z.z.v) (fun z => z.z.ents ++ MF) goes_lall rfl rfl (fun w' hw' => (q1 _ w' hw').mono fun e w2 ⟨z, h1, h2⟩ => ⟨z, h1, Sl.Holds.both hw' h2 z.z.ents_wr⟩) fun z => JL.nil (kk z nofun))
        · (intro x EF MF Q kk; exact JL.q (OQ.load_agg (cs := [f'.v, s'.v]) letA letS rfl .here rfl Row.all) rfl (JL.nil (kk default nofun)))
        · (intro x EF MF Q kk; exact JL.q (OQ.move rfl) rfl (JL.nil (kk default nofun)))
        · (intro x EF MF Q kk; exact JL.call (ι := Gz A) (vs := [.agg #[f'.v, s'.v], Z ot]) (fun z => z.z.v) (fun z => z.z.ents ++ MF) goes_lall rfl rfl (fun w' hw' => (q2 _ w' hw').mono fun e w2 ⟨z, h1, h2⟩ => ⟨z, h1, Sl.Holds.both hw' h2 z.z.ents_wr⟩) fun z => JL.nil (kk z nofun))
        · (intro x EF MF Q kk; exact JL.q (OQ.assign rfl) rfl (JL.nil (kk (x 2) (fun k h => by cases h; rfl))))
        · (intro x EF MF Q kk; exact JL.q (OQ.assign rfl) rfl (JL.nil (kk (x 5) (fun k h => by cases h; rfl))))
      · intro x hx
        have h6 : x 6 = x 2 := hx 6 2 (by decide) rfl
        have h7 : x 7 = x 5 := hx 7 5 (by decide) rfl
        show JE _ _ _ _ _ [(18, (x 6).z.v), (19, (x 7).z.v), (1, Z nm), (3, Z ot), (4, Pt b4 0), (17, Pt b17 0), (96, .slice (some ⟨bL, 0, none⟩) 2 2), (97, N 2), (98, N i)] ((x 2).z.ents ++ ((x 5).z.ents ++ ([⟨bL, Row 25 ([z1.f.v, z1.s.v] ++ [z2.f.v, z2.s.v]), false⟩] ++ ([⟨b4, Row 25 [f.v, s.v], false⟩] ++ []))))
        rw [h6, h7]
        generalize x 2 = p
        generalize x 5 = q
        clear h6 h7 hx x vs Ms q1 q2
        repeat (first | refine JL.q (by first | (apply OQ.move; exact rfl) | (apply OQ.assign; exact rfl) | (apply OQ.len; exact rfl; exact rfl) | (apply OQ.addN; exact rfl; exact rfl; exact (by (try simp only []); omega)) | (apply OQ.subN; exact rfl; exact rfl; exact (by (try simp only []); omega); exact (by (try simp only []); omega)) | (apply OQ.lssN; exact rfl; exact rfl) | (apply OQ.fld; exact rfl; exact rfl; exact rfl; exact (by decide); exact rfl)) rfl ?_ | refine JC.seq ?_ | refine JC.region ?_ | refine JC.block ?_ | refine JC.skip ?_ | refine JC.exit ?_ | refine JL.nil ?_ | refine JE.next ?_ | refine JE.blk_normal ?_ | refine JE.then_exit ?_ | refine JE.blk_hit ?_ | refine JE.blk_miss rfl ?_ | refine JE.then_ret ?_ | refine JE.blk_ret ?_ | refine JC.label ?_ | refine JL.gon rfl rfl ?_ | refine JL.gskip rfl rfl rfl rfl ?_ | refine JL.gskipU rfl rfl rfl rfl ?_)
        refine JL.reb (S' := []) (M' := [⟨bL, Row 25 ([z1.f.v, z1.s.v] ++ [z2.f.v, z2.s.v]), false⟩, ⟨b4, Row 25 [f.v, s.v], false⟩]) (fun w6 hw6 => Holds.tail2 hw6) fun w6 hw6 => ?_
        obtain ⟨okx, oky⟩ := Holds.okz hw6
        have hE6 : Ext w w6 := hE5.trans hw6.chg
        have hx6 : Ext w4 w6 := hx5.trans hw6.chg
        clear hw6 hf hs p1 p2 p7
        obtain ⟨⟨adx, capx, lx⟩, hx, _⟩ := p
        obtain ⟨⟨ady, capy, ly⟩, hy, _⟩ := q
        dsimp only at hx hy okx oky ⊢
        subst hx
        subst hy
        have hll : decide ((ly.length : Int) = (ly.length : Int)) = true := decide_eq_true rfl
        repeat (first | refine JL.q (by first | (apply OQ.len; exact Tryd.underlying28; exact rfl) | (apply OQ.neB; exact rfl; exact rfl; exact hll) | (apply OQ.move; exact rfl) | (apply OQ.assign; exact rfl) | (apply OQ.len; exact rfl; exact rfl) | (apply OQ.addN; exact rfl; exact rfl; exact (by (try simp only []); omega)) | (apply OQ.subN; exact rfl; exact rfl; exact (by (try simp only []); omega); exact (by (try simp only []); omega)) | (apply OQ.lssN; exact rfl; exact rfl) | (apply OQ.fld; exact rfl; exact rfl; exact rfl; exact (by decide); exact rfl)) rfl ?_ | refine JC.seq ?_ | refine JC.region ?_ | refine JC.block ?_ | refine JC.skip ?_ | refine JC.exit ?_ | refine JL.nil ?_ | refine JE.next ?_ | refine JE.blk_normal ?_ | refine JE.then_exit ?_ | refine JE.blk_hit ?_ | refine JE.blk_miss rfl ?_ | refine JE.then_ret ?_ | refine JE.blk_ret ?_ | refine JC.label ?_ | refine JL.gon rfl rfl ?_ | refine JL.gskip rfl rfl rfl rfl ?_ | refine JL.gskipU rfl rfl rfl rfl ?_)
        refine JC.cond rfl (fun h => by cases h) (fun _ => ?_)
        repeat (first | refine JL.q (by first | (apply OQ.len; exact Tryd.underlying28; exact rfl) | (apply OQ.move; exact rfl) | (apply OQ.assign; exact rfl) | (apply OQ.len; exact rfl; exact rfl) | (apply OQ.addN; exact rfl; exact rfl; exact (by (try simp only []); omega)) | (apply OQ.subN; exact rfl; exact rfl; exact (by (try simp only []); omega); exact (by (try simp only []); omega)) | (apply OQ.lssN; exact rfl; exact rfl) | (apply OQ.fld; exact rfl; exact rfl; exact rfl; exact (by decide); exact rfl)) rfl ?_ | refine JC.seq ?_ | refine JC.region ?_ | refine JC.block ?_ | refine JC.skip ?_ | refine JC.exit ?_ | refine JL.nil ?_ | refine JE.next ?_ | refine JE.blk_normal ?_ | refine JE.then_exit ?_ | refine JE.blk_hit ?_ | refine JE.blk_miss rfl ?_ | refine JE.then_ret ?_ | refine JE.blk_ret ?_ | refine JC.label ?_ | refine JL.gon rfl rfl ?_ | refine JL.gskip rfl rfl rfl rfl ?_ | refine JL.gskipU rfl rfl rfl rfl ?_)
        refine JC.loop (fun j : Nat => [(1, Z nm), (3, Z ot), (4, Pt b4 0), (18, SlZ.v ⟨adx, capx, ly⟩), (19, SlZ.v ⟨ady, capy, ly⟩), (96, .slice (some ⟨bL, 0, none⟩) 2 2), (97, N 2), (98, N i), (114, N ly.length), (115, N j)]) (fun _ => [⟨bL, Row 25 ([z1.f.v, z1.s.v] ++ [z2.f.v, z2.s.v]), false⟩, ⟨b4, Row 25 [f.v, s.v], false⟩]) (fun j => ly.length - j) (fun j => j ≤ ly.length) 0 (Nat.zero_le _) (by repeat (first | exact SubE.nil | refine SubE.cons _ _ _ rfl ?_)) (Less.refl _) ?_
        intro j hj
        repeat (first | refine JL.q (by first | (apply OQ.move; exact rfl) | (apply OQ.assign; exact rfl) | (apply OQ.len; exact rfl; exact rfl) | (apply OQ.addN; exact rfl; exact rfl; exact (by (try simp only []); omega)) | (apply OQ.subN; exact rfl; exact rfl; exact (by (try simp only []); omega); exact (by (try simp only []); omega)) | (apply OQ.lssN; exact rfl; exact rfl) | (apply OQ.fld; exact rfl; exact rfl; exact rfl; exact (by decide); exact rfl)) rfl ?_ | refine JC.seq ?_ | refine JC.region ?_ | refine JC.block ?_ | refine JC.skip ?_ | refine JC.exit ?_ | refine JL.nil ?_ | refine JE.next ?_ | refine JE.blk_normal ?_ | refine JE.then_exit ?_ | refine JE.blk_hit ?_ | refine JE.blk_miss rfl ?_ | refine JE.then_ret ?_ | refine JE.blk_ret ?_ | refine JC.label ?_ | refine JL.gon rfl rfl ?_ | refine JL.gskip rfl rfl rfl rfl ?_ | refine JL.gskipU rfl rfl rfl rfl ?_)
        refine JC.cond rfl (fun h => ?_) (fun h => ?_)
        · have hj' : j < ly.length := of_decide_eq_true h
          clear h
          obtain ⟨bx, jx, eX, lx, cx⟩ := okx.at (show 0 < (SlZ.l ⟨adx, capx, ly⟩).length by show 0 < ly.length; omega)
          obtain ⟨by', jy, eY, ly', cy⟩ := oky.at (show 0 < (SlZ.l ⟨ady, capy, ly⟩).length by show 0 < ly.length; omega)
          have cxi := cx j hj'
          have cyi := cy j hj'
          replace eX : adx = _ := eX
          replace eY : ady = _ := eY
          subst eX eY
          replace cxi : w6.cell? ⟨bx, jx + j, none⟩ = some (Z (ly.getD j [])) := cxi
          have hgg : decide (ly.getD j [] = ly.getD j []) = true := decide_eq_true rfl
          replace cyi : w6.cell? ⟨by', jy + j, none⟩ = some (Z (ly.getD j [])) := cyi
          repeat (first | refine JL.q (by first | (apply OQ.move; exact rfl) | (apply OQ.assign; exact rfl) | (apply OQ.len; exact rfl; exact rfl) | (apply OQ.addN; exact rfl; exact rfl; exact (by (try simp only []); omega)) | (apply OQ.subN; exact rfl; exact rfl; exact (by (try simp only []); omega); exact (by (try simp only []); omega)) | (apply OQ.lssN; exact rfl; exact rfl) | (apply OQ.fld; exact rfl; exact rfl; exact rfl; exact (by decide); exact rfl)) rfl ?_ | refine JC.seq ?_ | refine JC.region ?_ | refine JC.block ?_ | refine JC.skip ?_ | refine JC.exit ?_ | refine JL.nil ?_ | refine JE.next ?_ | refine JE.blk_normal ?_ | refine JE.then_exit ?_ | refine JE.blk_hit ?_ | refine JE.blk_miss rfl ?_ | refine JE.then_ret ?_ | refine JE.blk_ret ?_ | refine JC.label ?_ | refine JL.gon rfl rfl ?_ | refine JL.gskip rfl rfl rfl rfl ?_ | refine JL.gskipU rfl rfl rfl rfl ?_)
          refine JC.quiet mixT (by kernel_rfl) ?_
          repeat (first | refine JL.q (by first | (apply OQ.idxS1; exact Tryd.underlying28; exact strS; exact rfl; exact rfl; exact hj') | (apply OQ.load_old; exact strC; exact rfl; exact lx; exact (by simp); exact cxi) | (apply OQ.load_old; exact strC; exact rfl; exact ly'; exact (by simp); exact cyi) | (apply OQ.neSL; exact rfl; exact rfl; exact hgg) | (apply OQ.move; exact rfl) | (apply OQ.assign; exact rfl) | (apply OQ.len; exact rfl; exact rfl) | (apply OQ.addN; exact rfl; exact rfl; exact (by (try simp only []); omega)) | (apply OQ.subN; exact rfl; exact rfl; exact (by (try simp only []); omega); exact (by (try simp only []); omega)) | (apply OQ.lssN; exact rfl; exact rfl) | (apply OQ.fld; exact rfl; exact rfl; exact rfl; exact (by decide); exact rfl)) rfl ?_ | refine JQ.q (by first | (apply OQ.idxS1; exact Tryd.underlying28; exact strS; exact rfl; exact rfl; exact hj') | (apply OQ.load_old; exact strC; exact rfl; exact lx; exact (by simp); exact cxi) | (apply OQ.load_old; exact strC; exact rfl; exact ly'; exact (by simp); exact cyi) | (apply OQ.neSL; exact rfl; exact rfl; exact hgg) | (apply OQ.move; exact rfl) | (apply OQ.assign; exact rfl) | (apply OQ.len; exact rfl; exact rfl) | (apply OQ.addN; exact rfl; exact rfl; exact (by (try simp only []); omega)) | (apply OQ.subN; exact rfl; exact rfl; exact (by (try simp only []); omega); exact (by (try simp only []); omega)) | (apply OQ.lssN; exact rfl; exact rfl) | (apply OQ.fld; exact rfl; exact rfl; exact rfl; exact (by decide); exact rfl)) rfl ?_ | refine JC.seq ?_ | refine JC.region ?_ | refine JC.block ?_ | refine JC.skip ?_ | refine JC.exit ?_ | refine JL.nil ?_ | refine JQ.nil ?_ | refine JQ.nil_tail ?_ | refine JE.next ?_ | refine JE.blk_normal ?_ | refine JE.then_exit ?_ | refine JE.blk_hit ?_ | refine JE.blk_miss rfl ?_ | refine JE.then_ret ?_ | refine JE.blk_ret ?_ | refine JC.label ?_ | refine JL.gon rfl rfl ?_ | refine JQ.gon rfl rfl ?_ | refine JL.gskip rfl rfl rfl rfl ?_ | refine JQ.gskip rfl rfl rfl rfl ?_ | refine JL.gskipU rfl rfl rfl rfl ?_ | refine JQ.gskipU rfl rfl rfl rfl ?_)
          refine JC.cond rfl (fun h => by cases h) (fun _ => ?_)
          repeat (first | refine JL.q (by first | (apply OQ.move; exact rfl) | (apply OQ.assign; exact rfl) | (apply OQ.len; exact rfl; exact rfl) | (apply OQ.addN; exact rfl; exact rfl; exact (by (try simp only []); omega)) | (apply OQ.subN; exact rfl; exact rfl; exact (by (try simp only []); omega); exact (by (try simp only []); omega)) | (apply OQ.lssN; exact rfl; exact rfl) | (apply OQ.fld; exact rfl; exact rfl; exact rfl; exact (by decide); exact rfl)) rfl ?_ | refine JQ.q (by first | (apply OQ.move; exact rfl) | (apply OQ.assign; exact rfl) | (apply OQ.len; exact rfl; exact rfl) | (apply OQ.addN; exact rfl; exact rfl; exact (by (try simp only []); omega)) | (apply OQ.subN; exact rfl; exact rfl; exact (by (try simp only []); omega); exact (by (try simp only []); omega)) | (apply OQ.lssN; exact rfl; exact rfl) | (apply OQ.fld; exact rfl; exact rfl; exact rfl; exact (by decide); exact rfl)) rfl ?_ | refine JC.seq ?_ | refine JC.region ?_ | refine JC.block ?_ | refine JC.skip ?_ | refine JC.exit ?_ | refine JL.nil ?_ | refine JQ.nil ?_ | refine JQ.nil_tail ?_ | refine JE.next ?_ | refine JE.blk_normal ?_ | refine JE.then_exit ?_ | refine JE.blk_hit ?_ | refine JE.blk_miss rfl ?_ | refine JE.then_ret ?_ | refine JE.blk_ret ?_ | refine JC.label ?_ | refine JL.gon rfl rfl ?_ | refine JQ.gon rfl rfl ?_ | refine JL.gskip rfl rfl rfl rfl ?_ | refine JQ.gskip rfl rfl rfl rfl ?_ | refine JL.gskipU rfl rfl rfl rfl ?_ | refine JQ.gskipU rfl rfl rfl rfl ?_)
          exact JE.again (i := j) (j + 1) hj' (by omega) (by repeat (first | exact SubE.nil | refine SubE.cons _ _ _ rfl ?_)) (Less.refl _)
        · repeat (first | refine JL.q (by first | (apply OQ.move; exact rfl) | (apply OQ.assign; exact rfl) | (apply OQ.len; exact rfl; exact rfl) | (apply OQ.addN; exact rfl; exact rfl; exact (by (try simp only []); omega)) | (apply OQ.subN; exact rfl; exact rfl; exact (by (try simp only []); omega); exact (by (try simp only []); omega)) | (apply OQ.lssN; exact rfl; exact rfl) | (apply OQ.fld; exact rfl; exact rfl; exact rfl; exact (by decide); exact rfl)) rfl ?_ | refine JQ.q (by first | (apply OQ.move; exact rfl) | (apply OQ.assign; exact rfl) | (apply OQ.len; exact rfl; exact rfl) | (apply OQ.addN; exact rfl; exact rfl; exact (by (try simp only []); omega)) | (apply OQ.subN; exact rfl; exact rfl; exact (by (try simp only []); omega); exact (by (try simp only []); omega)) | (apply OQ.lssN; exact rfl; exact rfl) | (apply OQ.fld; exact rfl; exact rfl; exact rfl; exact (by decide); exact rfl)) rfl ?_ | refine JC.seq ?_ | refine JC.region ?_ | refine JC.block ?_ | refine JC.skip ?_ | refine JC.exit ?_ | refine JL.nil ?_ | refine JQ.nil ?_ | refine JQ.nil_tail ?_ | refine JE.next ?_ | refine JE.blk_normal ?_ | refine JE.then_exit ?_ | refine JE.blk_hit ?_ | refine JE.blk_miss rfl ?_ | refine JE.then_ret ?_ | refine JE.blk_ret ?_ | refine JC.label ?_ | refine JL.gon rfl rfl ?_ | refine JQ.gon rfl rfl ?_ | refine JL.gskip rfl rfl rfl rfl ?_ | refine JQ.gskip rfl rfl rfl rfl ?_ | refine JL.gskipU rfl rfl rfl rfl ?_ | refine JQ.gskipU rfl rfl rfl rfl ?_)
          exact JE.againb (i := (i, w5)) (fun w' => (i + 1, w')) (fun w' hw' => ⟨⟨hi', hx6.trans hw'.chg⟩, by dsimp only; omega, Holds.cold hw'⟩) fun w' => (by repeat (first | exact SubE.nil | refine SubE.cons _ _ _ rfl ?_))
    · repeat (first | refine JL.q (by first | (apply OQ.move; exact rfl) | (apply OQ.assign; exact rfl) | (apply OQ.len; exact rfl; exact rfl) | (apply OQ.addN; exact rfl; exact rfl; exact (by (try simp only []); omega)) | (apply OQ.subN; exact rfl; exact rfl; exact (by (try simp only []); omega); exact (by (try simp only []); omega)) | (apply OQ.lssN; exact rfl; exact rfl) | (apply OQ.fld; exact rfl; exact rfl; exact rfl; exact (by decide); exact rfl)) rfl ?_ | refine JQ.q (by first | (apply OQ.move; exact rfl) | (apply OQ.assign; exact rfl) | (apply OQ.len; exact rfl; exact rfl) | (apply OQ.addN; exact rfl; exact rfl; exact (by (try simp only []); omega)) | (apply OQ.subN; exact rfl; exact rfl; exact (by (try simp only []); omega); exact (by (try simp only []); omega)) | (apply OQ.lssN; exact rfl; exact rfl) | (apply OQ.fld; exact rfl; exact rfl; exact rfl; exact (by decide); exact rfl)) rfl ?_ | refine JC.seq ?_ | refine JC.region ?_ | refine JC.block ?_ | refine JC.skip ?_ | refine JC.exit ?_ | refine JL.nil ?_ | refine JQ.nil ?_ | refine JQ.nil_tail ?_ | refine JE.next ?_ | refine JE.blk_normal ?_ | refine JE.then_exit ?_ | refine JE.blk_hit ?_ | refine JE.blk_miss rfl ?_ | refine JE.then_ret ?_ | refine JE.blk_ret ?_ | refine JC.label ?_ | refine JL.gon rfl rfl ?_ | refine JQ.gon rfl rfl ?_ | refine JL.gskip rfl rfl rfl rfl ?_ | refine JQ.gskip rfl rfl rfl rfl ?_ | refine JL.gskipU rfl rfl rfl rfl ?_ | refine JQ.gskipU rfl rfl rfl rfl ?_)
      refine JC.ret ?_
      repeat (first | refine JL.q (by first | (apply OQ.move; exact rfl) | (apply OQ.assign; exact rfl) | (apply OQ.len; exact rfl; exact rfl) | (apply OQ.addN; exact rfl; exact rfl; exact (by (try simp only []); omega)) | (apply OQ.subN; exact rfl; exact rfl; exact (by (try simp only []); omega); exact (by (try simp only []); omega)) | (apply OQ.lssN; exact rfl; exact rfl) | (apply OQ.fld; exact rfl; exact rfl; exact rfl; exact (by decide); exact rfl)) rfl ?_ | refine JQ.q (by first | (apply OQ.move; exact rfl) | (apply OQ.assign; exact rfl) | (apply OQ.len; exact rfl; exact rfl) | (apply OQ.addN; exact rfl; exact rfl; exact (by (try simp only []); omega)) | (apply OQ.subN; exact rfl; exact rfl; exact (by (try simp only []); omega); exact (by (try simp only []); omega)) | (apply OQ.lssN; exact rfl; exact rfl) | (apply OQ.fld; exact rfl; exact rfl; exact rfl; exact (by decide); exact rfl)) rfl ?_ | refine JC.seq ?_ | refine JC.region ?_ | refine JC.block ?_ | refine JC.skip ?_ | refine JC.exit ?_ | refine JL.nil ?_ | refine JQ.nil ?_ | refine JQ.nil_tail ?_ | refine JE.next ?_ | refine JE.blk_normal ?_ | refine JE.then_exit ?_ | refine JE.blk_hit ?_ | refine JE.blk_miss rfl ?_ | refine JE.then_ret ?_ | refine JE.blk_ret ?_ | refine JC.label ?_ | refine JL.gon rfl rfl ?_ | refine JQ.gon rfl rfl ?_ | refine JL.gskip rfl rfl rfl rfl ?_ | refine JQ.gskip rfl rfl rfl rfl ?_ | refine JL.gskipU rfl rfl rfl rfl ?_ | refine JQ.gskipU rfl rfl rfl rfl ?_)
      exact JE.ret1 rfl (RV.tmp rfl) fun w' hw => ⟨rfl, hE5.trans hw.chg⟩
end Go.Proofs.YtikhlddemdlmgaaDoor

/-
  Of no statement by itself: what LetterFields gives, over LetterOk.
  Conditions: LetterOk, and each theorem's own.
-/
namespace Go.Proofs.YtikhlddemdlmgaaDoor
set_option maxRecDepth 10000
open Sl Fld
theorem boolL : Tryd.prog.underlying 4 = some .bool := by kernel_rfl
theorem OQ.nebL {P : Program} {n : Nat} {E : Env} {C : World → Prop} {dst : Option Tmp} {t t' ty : TypeId} {pos : String} {aft : Array Edge} {g : Option (Nat × Bool)} {x y : Operand} {a : Bool} (hu : P.underlying t = some .bool) (hx : ev E x = some (.bool a)) (hy : ev E y = some (.bool a)) : OQ P n E C ⟨dst, .binOp .neq t x y t', ty, pos, aft, g⟩ (.bool false) :=
  OQ.run fun ac ha w _ => by
    have h1 := ha.eval hx
    have h2 := ha.eval hy
    have h3 := run_equalIn_bool (P := P) w 9999 t a a hu
    cases a <;> simp [execOp, h1, h2, eqGuard, binOp, Op.equal, Op.maxDepth, h3]
theorem samef_t {a b : Sl2} {w : World} (ha : a.ok w) (hb : b.ok w) (hl : a.l.length < 9223372036854775808) (h : a.l = b.l) : Calls Tryd.prog 12 [a.v, b.v].toArray w fun e w' => e = .returned (.bool true) ∧ Ext w w' := by
  have := rsamef_any a b w ha hb hl (by rw [← h]; exact hl)
  rwa [decide_eq_true h] at this
theorem Holds.cold4 {w0 w : World} {S : List Nat} {X Y : List Ent} {a b c d : Nat} {A B C D : Obj → Prop} {x y z u : Bool} (h : Holds w0 S ((⟨a, A, x⟩ :: (X ++ [])) ++ ((⟨b, B, y⟩ :: (Y ++ [])) ++ ([⟨c, C, z⟩] ++ ([⟨d, D, u⟩] ++ [])))) w) : Holds w [] [⟨a, A, false⟩, ⟨b, B, false⟩, ⟨c, C, false⟩, ⟨d, D, false⟩] w := by
  have hs : List.Sublist [(⟨a, A, x⟩ : Ent), ⟨b, B, y⟩, ⟨c, C, z⟩, ⟨d, D, u⟩] ((⟨a, A, x⟩ :: (X ++ [])) ++ ((⟨b, B, y⟩ :: (Y ++ [])) ++ ([⟨c, C, z⟩] ++ ([⟨d, D, u⟩] ++ [])))) := by
    rw [List.append_nil, List.append_nil, List.append_nil]
    exact .cons_cons _ ((List.Sublist.cons_cons _ (List.sublist_append_right _ _)).trans (List.sublist_append_right _ _))
  exact Holds.cold (Sl.Holds.weak h (less_of_sub hs))
theorem Holds.oks4 {w0 w : World} {S : List Nat} {a b c : Nat} {A B C : Obj → Prop} {x y z : Bool} {M : List Ent} {A1 A2 : List Pr} {B1 B2 : List Bt} {z1 : Lt A1 B1} {z2 : Lt A2 B2} (h : Holds w0 S ((⟨a, A, x⟩ :: (z1.ents ++ [])) ++ ((⟨b, B, y⟩ :: (z2.ents ++ [])) ++ ([⟨c, C, z⟩] ++ M))) w) : (z1.f.ok w ∧ z1.s.ok w) ∧ (z2.f.ok w ∧ z2.s.ok w) :=
  Holds.oks (Sl.Holds.weak h (less_of_sub (.append (.refl _) (.append (.refl _) (.append (.refl _) (List.nil_sublist _))))))
abbrev CT := (Nat × Nat) × (Nat × Nat) × Nat
set_option maxHeartbeats 32000000 in
theorem law_letterFields (hL : LetterOk) (f : Sl2) (s : Sl8) (nm vl : List Bt) (w : World) (hf : f.ok w) (hs : s.ok w) (hz : small2 f) : Calls Tryd.prog 3 [.agg #[f.v, s.v], Z nm, Z vl].toArray w fun e w' => e = .returned (.bool true) ∧ Ext w w' := by
  refine enter (n := 138) Tryd.func3 rfl rfl rfl (Holds.start w []) ?_
  have cs := fun w' => speaks11_any hL w'
  have cg : ∀ M w', Holds w [] M w' → Calls Tryd.prog 6 [.agg #[f.v, s.v]].toArray w' fun e w'' => e = .returned (.bool (greatB f.l s.l)) ∧ Ext w' w'' := fun M w' hw' => great_any f s w' (hf.holds hw' rfl) hz
  repeat (first | refine JL.q (by first | (apply OQ.move; exact rfl) | (apply OQ.assign; exact rfl) | (apply OQ.len; exact rfl; exact rfl) | (apply OQ.addN; exact rfl; exact rfl; exact (by (try simp only []); omega)) | (apply OQ.subN; exact rfl; exact rfl; exact (by (try simp only []); omega); exact (by (try simp only []); omega)) | (apply OQ.lssN; exact rfl; exact rfl) | (apply OQ.fld; exact rfl; exact rfl; exact rfl; exact (by decide); exact rfl)) rfl ?_ | refine JC.seq ?_ | refine JC.region ?_ | refine JC.block ?_ | refine JC.skip ?_ | refine JC.exit ?_ | refine JL.nil ?_ | refine JE.next ?_ | refine JE.blk_normal ?_ | refine JE.then_exit ?_ | refine JE.blk_hit ?_ | refine JE.blk_miss rfl ?_ | refine JE.then_ret ?_ | refine JE.blk_ret ?_ | refine JC.label ?_ | refine JL.gon rfl rfl ?_ | refine JL.gskip rfl rfl rfl rfl ?_ | refine JL.gskipU rfl rfl rfl rfl ?_)
  refine JL.box (r := [f.v, s.v]) rfl rfl rfl fun b3 _ => ?_
  repeat (first | refine JL.q (by first | (apply OQ.callx (vs := []); exact goes_speaks11; exact rfl; exact (fun w' _ => cs w')) | (apply OQ.not; exact rfl) | (apply OQ.move; exact rfl) | (apply OQ.assign; exact rfl) | (apply OQ.len; exact rfl; exact rfl) | (apply OQ.addN; exact rfl; exact rfl; exact (by (try simp only []); omega)) | (apply OQ.subN; exact rfl; exact rfl; exact (by (try simp only []); omega); exact (by (try simp only []); omega)) | (apply OQ.lssN; exact rfl; exact rfl) | (apply OQ.fld; exact rfl; exact rfl; exact rfl; exact (by decide); exact rfl)) rfl ?_ | refine JC.seq ?_ | refine JC.region ?_ | refine JC.block ?_ | refine JC.skip ?_ | refine JC.exit ?_ | refine JL.nil ?_ | refine JE.next ?_ | refine JE.blk_normal ?_ | refine JE.then_exit ?_ | refine JE.blk_hit ?_ | refine JE.blk_miss rfl ?_ | refine JE.then_ret ?_ | refine JE.blk_ret ?_ | refine JC.label ?_ | refine JL.gon rfl rfl ?_ | refine JL.gskip rfl rfl rfl rfl ?_ | refine JL.gskipU rfl rfl rfl rfl ?_)
  refine JC.cond rfl (fun h => by cases h) (fun _ => ?_)
  cases g0 : greatB f.l s.l <;> cases g1 : decide ((200 : Int) < (nm.length : Int)) <;> cases g2 : decide ((200 : Int) < (vl.length : Int))
  all_goals rw [g0] at cg
  all_goals (repeat (first | refine JL.q (by first | (apply OQ.load_agg (cs := [f.v, s.v]); exact letA; exact letS; exact rfl; exact .here; exact rfl; exact Row.all) | (apply OQ.callx (vs := [.agg #[f.v, s.v]]); exact goes_great; exact rfl; exact (cg _)) | (apply OQ.lenS; exact Tryd.underlying9; exact rfl) | (apply OQ.gtrB (b := 200); exact rfl; exact rfl; exact g1) | (apply OQ.gtrB (b := 200); exact rfl; exact rfl; exact g2) | (apply OQ.pick_t; exact rfl; exact rfl) | (apply OQ.pick_f; exact rfl; exact rfl) | (apply OQ.move; exact rfl) | (apply OQ.assign; exact rfl) | (apply OQ.len; exact rfl; exact rfl) | (apply OQ.addN; exact rfl; exact rfl; exact (by (try simp only []); omega)) | (apply OQ.subN; exact rfl; exact rfl; exact (by (try simp only []); omega); exact (by (try simp only []); omega)) | (apply OQ.lssN; exact rfl; exact rfl) | (apply OQ.fld; exact rfl; exact rfl; exact rfl; exact (by decide); exact rfl)) rfl ?_ | refine JC.seq ?_ | refine JC.region ?_ | refine JC.block ?_ | refine JC.skip ?_ | refine JC.exit ?_ | refine JL.nil ?_ | refine JE.next ?_ | refine JE.blk_normal ?_ | refine JE.then_exit ?_ | refine JE.blk_hit ?_ | refine JE.blk_miss rfl ?_ | refine JE.then_ret ?_ | refine JE.blk_ret ?_ | refine JC.label ?_ | refine JL.gon rfl rfl ?_ | refine JL.gskip rfl rfl rfl rfl ?_ | refine JL.gskipU rfl rfl rfl rfl ?_))
  all_goals refine JC.cond rfl (fun h => ?_) (fun h => ?_)
  all_goals first | (exfalso; revert h; decide) | skip
  all_goals clear h
  all_goals first
    | ((repeat (first | refine JL.q (by first | (apply OQ.move; exact rfl) | (apply OQ.assign; exact rfl) | (apply OQ.len; exact rfl; exact rfl) | (apply OQ.addN; exact rfl; exact rfl; exact (by (try simp only []); omega)) | (apply OQ.subN; exact rfl; exact rfl; exact (by (try simp only []); omega); exact (by (try simp only []); omega)) | (apply OQ.lssN; exact rfl; exact rfl) | (apply OQ.fld; exact rfl; exact rfl; exact rfl; exact (by decide); exact rfl)) rfl ?_ | refine JC.seq ?_ | refine JC.region ?_ | refine JC.block ?_ | refine JC.skip ?_ | refine JC.exit ?_ | refine JL.nil ?_ | refine JE.next ?_ | refine JE.blk_normal ?_ | refine JE.then_exit ?_ | refine JE.blk_hit ?_ | refine JE.blk_miss rfl ?_ | refine JE.then_ret ?_ | refine JE.blk_ret ?_ | refine JC.label ?_ | refine JL.gon rfl rfl ?_ | refine JL.gskip rfl rfl rfl rfl ?_ | refine JL.gskipU rfl rfl rfl rfl ?_))
       refine JC.ret ?_
       (repeat (first | refine JL.q (by first | (apply OQ.move; exact rfl) | (apply OQ.assign; exact rfl) | (apply OQ.len; exact rfl; exact rfl) | (apply OQ.addN; exact rfl; exact rfl; exact (by (try simp only []); omega)) | (apply OQ.subN; exact rfl; exact rfl; exact (by (try simp only []); omega); exact (by (try simp only []); omega)) | (apply OQ.lssN; exact rfl; exact rfl) | (apply OQ.fld; exact rfl; exact rfl; exact rfl; exact (by decide); exact rfl)) rfl ?_ | refine JC.seq ?_ | refine JC.region ?_ | refine JC.block ?_ | refine JC.skip ?_ | refine JC.exit ?_ | refine JL.nil ?_ | refine JE.next ?_ | refine JE.blk_normal ?_ | refine JE.then_exit ?_ | refine JE.blk_hit ?_ | refine JE.blk_miss rfl ?_ | refine JE.then_ret ?_ | refine JE.blk_ret ?_ | refine JC.label ?_ | refine JL.gon rfl rfl ?_ | refine JL.gskip rfl rfl rfl rfl ?_ | refine JL.gskipU rfl rfl rfl rfl ?_))
       exact JE.ret1 rfl (RV.tmp rfl) fun w' hw => ⟨rfl, hw.chg⟩)
    | skip
  obtain ⟨l1, l2, l3⟩ := great_no g0
  have n1 : nm.length ≤ 200 := by have := of_decide_eq_false g1; omega
  have n2 : vl.length ≤ 200 := by have := of_decide_eq_false g2; omega
  clear g0 g1 g2 cg cs
  refine JC.reb (S' := []) (M' := [⟨b3, Row 25 [f.v, s.v], false⟩]) (fun w1 hw1 => Holds.cold hw1) fun w1 hw1 => ?_
  have hE1 : Ext w w1 := hw1.chg
  replace hf := hf.ext hE1
  replace hs := hs.ext hE1
  clear hw1
  repeat (first | refine JL.q (by first | (apply OQ.move; exact rfl) | (apply OQ.assign; exact rfl) | (apply OQ.len; exact rfl; exact rfl) | (apply OQ.addN; exact rfl; exact rfl; exact (by (try simp only []); omega)) | (apply OQ.subN; exact rfl; exact rfl; exact (by (try simp only []); omega); exact (by (try simp only []); omega)) | (apply OQ.lssN; exact rfl; exact rfl) | (apply OQ.fld; exact rfl; exact rfl; exact rfl; exact (by decide); exact rfl)) rfl ?_ | refine JC.seq ?_ | refine JC.region ?_ | refine JC.block ?_ | refine JC.skip ?_ | refine JC.exit ?_ | refine JL.nil ?_ | refine JE.next ?_ | refine JE.blk_normal ?_ | refine JE.then_exit ?_ | refine JE.blk_hit ?_ | refine JE.blk_miss rfl ?_ | refine JE.then_ret ?_ | refine JE.blk_ret ?_ | refine JC.label ?_ | refine JL.gon rfl rfl ?_ | refine JL.gskip rfl rfl rfl rfl ?_ | refine JL.gskipU rfl rfl rfl rfl ?_)
  let vs : Nat → CT → Value := fun j x => match j with
    | 0 => .slice (some ⟨x.1.1, 0, none⟩) 0 0
    | 1 => Pt b3 0
    | 2 => f.v
    | 3 => .slice (some ⟨x.1.1, 0, none⟩) (0 + f.l.length) x.1.2
    | 4 => .slice (some ⟨x.2.1.1, 0, none⟩) 0 0
    | 5 => Pt b3 1
    | 6 => s.v
    | 7 => .slice (some ⟨x.2.1.1, 0, none⟩) (0 + s.l.length) x.2.1.2
    | 8 => .agg #[.slice (some ⟨x.1.1, 0, none⟩) (0 + f.l.length) x.1.2, .slice (some ⟨x.2.1.1, 0, none⟩) (0 + s.l.length) x.2.1.2]
    | _ => Pt x.2.2 0
  let Ms : Nat → CT → List Ent := fun j x => match j with
    | 0 => [⟨x.1.1, Own 46 2 0 0 [], true⟩]
    | 3 => [⟨x.1.1, Own 46 2 (0 + f.l.length) x.1.2 ([] ++ f.cells), true⟩]
    | 4 => [⟨x.2.1.1, Own 5 1 0 0 [], true⟩]
    | 7 => [⟨x.2.1.1, Own 5 1 (0 + s.l.length) x.2.1.2 ([] ++ s.l.map U8), true⟩]
    | 8 => [⟨x.1.1, Own 46 2 (0 + f.l.length) x.1.2 ([] ++ f.cells), true⟩, ⟨x.2.1.1, Own 5 1 (0 + s.l.length) x.2.1.2 ([] ++ s.l.map U8), true⟩]
    | 9 => [⟨x.2.2, Row 25 [nil2.v, nilS.v], true⟩]
    | 10 => [⟨x.2.2, Row 25 [.slice (some ⟨x.1.1, 0, none⟩) (0 + f.l.length) x.1.2, .slice (some ⟨x.2.1.1, 0, none⟩) (0 + s.l.length) x.2.1.2], true⟩, ⟨x.1.1, Own 46 2 (0 + f.l.length) x.1.2 ([] ++ f.cells), true⟩, ⟨x.2.1.1, Own 5 1 (0 + s.l.length) x.2.1.2 ([] ++ s.l.map U8), true⟩]
    | 11 => [⟨b3, Row 25 [f.v, s.v], false⟩]
    | _ => []
  refine JC.growR (g := ⟨[(1, Z nm), (2, Z vl), (3, Pt b3 0)], 12, vs, Ms, (fun j => match j with | 2 => [(1, 30)] | 3 => [(0, 29), (2, 31)] | 6 => [(5, 34)] | 7 => [(4, 33), (6, 35)] | 8 => [(3, 32), (7, 36)] | 10 => [(9, 7), (8, 37)] | _ => []), (fun j => match j with | 2 => [11] | 3 => [0] | 6 => [11] | 7 => [4] | 8 => [3, 7] | 10 => [9, 8] | _ => []), (fun j => match j with | 3 => [0] | 7 => [4] | 8 => [3, 7] | 10 => [9, 8] | _ => []), (fun j => match j with | 10 => some 9 | _ => none), fun _ => [], fun _ a b => a.2.2 = b.2.2⟩) [(9, 7)] [10, 11] mixT (by repeat (first | exact SubE.nil | refine SubE.cons _ _ _ rfl ?_)) (fun _ _ => .nil) (Less.refl _) (by kernel_rfl) (by kernel_rfl) (by kernel_rfl) ?_ ?_
  · refine ⟨?_, ?_, ?_, ?_, ?_, ?_, ?_, ?_, ?_, ?_, ?_, trivial⟩
    · (intro x EF MF Q kk; exact JL.litZ Tryd.underlying22 fieldI rfl fun b _ => JL.nil (kk ((b, 0), (0, 0), 0) nofun))
    · (intro x EF MF Q kk; exact JL.q (OQ.fldx (o := 0) rfl rfl rfl (by decide) rfl rfl) rfl (JL.nil (kk default nofun)))
    · (intro x EF MF Q kk; exact JL.q (OQ.load fsC rfl .here (Row.cell (v := f.v) rfl)) rfl (JL.nil (kk default nofun)))
    · (intro x EF MF Q kk; exact JL.append (cs := f.cells) (m := f.l.length) (ad := f.ad) (sc := f.cap) (xs := []) (k := 0) (fun b' cap' => ⟨b', Own 46 2 (0 + f.l.length) cap' ([] ++ f.cells), true⟩ :: MF) Tryd.underlying22 fieldI rfl rfl (fun _ _ => .here) (by rw [Sl2.cells, pc_len]; omega) (fun w' hw' => (hf.holds hw' rfl).reads) (fun v hv => by obtain ⟨p, _, hp⟩ := List.mem_flatMap.1 hv; exact pc_one p v hp) rfl (by decide) (by omega) (by omega) rfl fun b cap => JL.nil (kk ((b, cap), (0, 0), 0) nofun))
    · (intro x EF MF Q kk; exact JL.lit0O Tryd.underlying23 u8e rfl fun b _ => JL.nil (kk ((0, 0), (b, 0), 0) nofun))
    · (intro x EF MF Q kk; exact JL.q (OQ.fldx (o := 1) rfl rfl rfl (by decide) rfl rfl) rfl (JL.nil (kk default nofun)))
    · (intro x EF MF Q kk; exact JL.q (OQ.load bsC rfl .here (Row.cell (v := s.v) rfl)) rfl (JL.nil (kk default nofun)))
    · (intro x EF MF Q kk; exact JL.append (cs := s.l.map U8) (m := s.l.length) (ad := s.ad) (sc := s.cap) (xs := []) (k := 0) (fun b' cap' => ⟨b', Own 5 1 (0 + s.l.length) cap' ([] ++ s.l.map U8), true⟩ :: MF) Tryd.underlying23 u8e rfl rfl (fun _ _ => .here) (by simp) (fun w' hw' => (hs.holds hw' rfl).reads) (fun v hv => by obtain ⟨c, _, rfl⟩ := List.mem_map.1 hv; rfl) rfl (by decide) (by omega) (by omega) rfl fun b cap => JL.nil (kk ((0, 0), (b, cap), 0) nofun))
    · (intro x EF MF Q kk; exact JL.q (OQ.buildL (a := .slice (some ⟨(x 3).1.1, 0, none⟩) (0 + f.l.length) (x 3).1.2) (b := .slice (some ⟨(x 7).2.1.1, 0, none⟩) (0 + s.l.length) (x 7).2.1.2) rfl rfl (by kernel_rfl)) rfl (JL.nil (kk ((x 3).1, (x 7).2.1, 0) nofun)))
    · (intro x EF MF Q kk; exact JL.alloc letZ rfl fun b _ => JL.nil (kk (default, default, b) nofun))
    · (intro x EF MF Q kk; exact JL.store_all (cs := [.slice (some ⟨(x 8).1.1, 0, none⟩) (0 + f.l.length) (x 8).1.2, .slice (some ⟨(x 8).2.1.1, 0, none⟩) (0 + s.l.length) (x 8).2.1.2]) letS rfl rfl rfl rfl .here rfl (JL.nil (kk ((x 8).1, (x 8).2.1, (x 9).2.2) (fun k h => by cases h; rfl))))
  · intro x hx
    have h10 : (x 10).2.2 = (x 9).2.2 := hx 10 9 (by decide) rfl
    show JE _ _ _ _ _ [(7, Pt (x 9).2.2 0), (1, Z nm), (2, Z vl), (3, Pt b3 0)] ([⟨(x 10).2.2, Row 25 [.slice (some ⟨(x 10).1.1, 0, none⟩) (0 + f.l.length) (x 10).1.2, .slice (some ⟨(x 10).2.1.1, 0, none⟩) (0 + s.l.length) (x 10).2.1.2], true⟩, ⟨(x 10).1.1, Own 46 2 (0 + f.l.length) (x 10).1.2 ([] ++ f.cells), true⟩, ⟨(x 10).2.1.1, Own 5 1 (0 + s.l.length) (x 10).2.1.2 ([] ++ s.l.map U8), true⟩] ++ ([⟨b3, Row 25 [f.v, s.v], false⟩] ++ []))
    rw [← h10]
    generalize x 10 = q
    clear h10 hx x vs Ms
    obtain ⟨⟨bf, cf⟩, ⟨bb, cb⟩, b7⟩ := q
    dsimp only
    rw [Nat.zero_add, Nat.zero_add, List.nil_append, List.nil_append]
    repeat (first | refine JL.q (by first | (apply OQ.move; exact rfl) | (apply OQ.assign; exact rfl) | (apply OQ.len; exact rfl; exact rfl) | (apply OQ.addN; exact rfl; exact rfl; exact (by (try simp only []); omega)) | (apply OQ.subN; exact rfl; exact rfl; exact (by (try simp only []); omega); exact (by (try simp only []); omega)) | (apply OQ.lssN; exact rfl; exact rfl) | (apply OQ.fld; exact rfl; exact rfl; exact rfl; exact (by decide); exact rfl)) rfl ?_ | refine JC.seq ?_ | refine JC.region ?_ | refine JC.block ?_ | refine JC.skip ?_ | refine JC.exit ?_ | refine JL.nil ?_ | refine JE.next ?_ | refine JE.blk_normal ?_ | refine JE.then_exit ?_ | refine JE.blk_hit ?_ | refine JE.blk_miss rfl ?_ | refine JE.then_ret ?_ | refine JE.blk_ret ?_ | refine JC.label ?_ | refine JL.gon rfl rfl ?_ | refine JL.gskip rfl rfl rfl rfl ?_ | refine JL.gskipU rfl rfl rfl rfl ?_)
    refine JC.reb (S' := []) (M' := [⟨b7, Row 25 [Sl2.v ⟨some ⟨bf, 0, none⟩, cf, f.l⟩, Sl8.v ⟨some ⟨bb, 0, none⟩, cb, s.l⟩], false⟩, ⟨b3, Row 25 [f.v, s.v], false⟩]) (fun w2 hw2 => Holds.cold (M := [⟨b7, Row 25 [Sl2.v ⟨some ⟨bf, 0, none⟩, cf, f.l⟩, Sl8.v ⟨some ⟨bb, 0, none⟩, cb, s.l⟩], true⟩, ⟨b3, Row 25 [f.v, s.v], false⟩]) (Sl.Holds.weak hw2 (.keep _ _ _ _ _ _ (fun _ h => h) (.drop _ _ _ (.drop _ _ _ (Less.refl _)))))) fun w2 hw2 => ?_
    have oF : Sl2.ok w2 ⟨some ⟨bf, 0, none⟩, cf, f.l⟩ := sl2_own hw2 (.there .here)
    have oS : Sl8.ok w2 ⟨some ⟨bb, 0, none⟩, cb, s.l⟩ := ownb_ok hw2 (.there (.there .here))
    have hE2 : Ext w w2 := hE1.trans hw2.chg
    replace hf := hf.ext hw2.chg
    replace hs := hs.ext hw2.chg
    clear hw2 hE1
    have hFl : (Sl2.l ⟨some ⟨bf, 0, none⟩, cf, f.l⟩) = f.l := rfl
    have hSl : (Sl8.l ⟨some ⟨bb, 0, none⟩, cb, s.l⟩) = s.l := rfl
    generalize (⟨some ⟨bf, 0, none⟩, cf, f.l⟩ : Sl2) = F at oF hFl ⊢
    generalize (⟨some ⟨bb, 0, none⟩, cb, s.l⟩ : Sl8) = S at oS hSl ⊢
    have hFz : small2 F := fun p hp => hz p (by rw [← hFl]; exact hp)
    have F1 : F.l.length ≤ 301 := by rw [hFl]; omega
    have S1 : S.l.length ≤ 3000 := by rw [hSl]; exact l2
    have q1 := all_any hL nm oF oS hFz F1 S1 n1 (by rw [hFl] : allB nm F.l = allB nm f.l) rfl
    have q2 : ∀ M w', Holds w2 [] M w' → Calls Tryd.prog 8 [.agg #[f.v, s.v], Z nm].toArray w' fun e w'' => ∃ z : Gz (allB nm f.l), e = .returned z.z.v ∧ Holds w' [] z.z.ents w'' := fun M w' hw' => rall_any f s nm w' (hf.holds hw' rfl) hz (by omega) (by omega)
    have hAl := all_len nm f.l
    have d1 := fun {w3 : World} (oF : F.ok w3) (oS : S.ok w3) => get_any hL nm oF oS hFz F1 S1 n1 (by rw [hFl] : allB nm F.l = allB nm f.l) rfl
    generalize allB nm f.l = A at q1 q2 hAl d1
    let vs : Nat → Gz A → Value := fun j x => match j with
      | 0 => .agg #[F.v, S.v]
      | 1 => Z nm
      | 2 => x.z.v
      | 3 => .agg #[f.v, s.v]
      | 4 => Z nm
      | _ => x.z.v
    let Ms : Nat → Gz A → List Ent := fun j x => match j with
      | 2 => x.z.ents
      | 5 => x.z.ents
      | 8 => [⟨b7, Row 25 [F.v, S.v], false⟩]
      | 9 => [⟨b3, Row 25 [f.v, s.v], false⟩]
      | _ => []
    refine JC.grow (g := ⟨[(1, Z nm), (2, Z vl), (3, Pt b3 0), (7, Pt b7 0)], 10, vs, Ms, (fun j => match j with | 2 => [(0, 38), (1, 39)] | 5 => [(3, 41), (4, 42)] | 6 => [(2, 40)] | 7 => [(5, 43)] | _ => []), (fun j => match j with | 0 => [8] | 3 => [9] | _ => []), (fun _ => []), (fun j => match j with | 6 => some 2 | 7 => some 5 | _ => none)⟩) [(6, 8), (7, 9)] [2, 5, 8, 9] mixT (by repeat (first | exact SubE.nil | refine SubE.cons _ _ _ rfl ?_)) (Less.refl _) (by kernel_rfl) (by kernel_rfl) (by kernel_rfl) ?_ ?_
    · refine ⟨?_, ?_, ?_, ?_, ?_, ?_, ?_, ?_, trivial⟩
      · (intro x EF MF Q kk; exact JL.q (OQ.load_agg (cs := [F.v, S.v]) letA letS rfl .here rfl Row.all) rfl (JL.nil (kk default nofun)))
      · (intro x EF MF Q kk; exact JL.q (OQ.move rfl) rfl (JL.nil (kk default nofun)))
      · (intro x EF MF Q kk; exact JL.call (ι := Gz A) (vs := [.agg #[F.v, S.v], Z nm]) (fun z => z.z.v) (fun z => z.z.ents ++ MF) goes_lall rfl rfl (fun w' hw' => (q1 _ w' hw').mono fun e w2 ⟨z, h1, h2⟩ => ⟨z, h1, Sl.Holds.both hw' h2 z.z.ents_wr⟩) fun z => JL.nil (kk z nofun))
      · (intro x EF MF Q kk; exact JL.q (OQ.load_agg (cs := [f.v, s.v]) letA letS rfl .here rfl Row.all) rfl (JL.nil (kk default nofun)))
      · (intro x EF MF Q kk; exact JL.q (OQ.move rfl) rfl (JL.nil (kk default nofun)))
      · (intro x EF MF Q kk; exact JL.call (ι := Gz A) (vs := [.agg #[f.v, s.v], Z nm]) (fun z => z.z.v) (fun z => z.z.ents ++ MF) goes_rall rfl rfl (fun w' hw' => (q2 _ w' hw').mono fun e w2 ⟨z, h1, h2⟩ => ⟨z, h1, Sl.Holds.both hw' h2 z.z.ents_wr⟩) fun z => JL.nil (kk z nofun))
      · (intro x EF MF Q kk; exact JL.q (OQ.assign rfl) rfl (JL.nil (kk (x 2) (fun k h => by cases h; rfl))))
      · (intro x EF MF Q kk; exact JL.q (OQ.assign rfl) rfl (JL.nil (kk (x 5) (fun k h => by cases h; rfl))))
    intro x hx
    have h6 : x 6 = x 2 := hx 6 2 (by decide) rfl
    have h7 : x 7 = x 5 := hx 7 5 (by decide) rfl
    show JE _ _ _ _ _ [(8, (x 6).z.v), (9, (x 7).z.v), (1, Z nm), (2, Z vl), (3, Pt b3 0), (7, Pt b7 0)] ((x 2).z.ents ++ ((x 5).z.ents ++ ([⟨b7, Row 25 [F.v, S.v], false⟩] ++ ([⟨b3, Row 25 [f.v, s.v], false⟩] ++ []))))
    rw [h6, h7]
    generalize x 2 = p
    generalize x 5 = q
    clear h6 h7 hx x vs Ms q1 q2
    repeat (first | refine JL.q (by first | (apply OQ.move; exact rfl) | (apply OQ.assign; exact rfl) | (apply OQ.len; exact rfl; exact rfl) | (apply OQ.addN; exact rfl; exact rfl; exact (by (try simp only []); omega)) | (apply OQ.subN; exact rfl; exact rfl; exact (by (try simp only []); omega); exact (by (try simp only []); omega)) | (apply OQ.lssN; exact rfl; exact rfl) | (apply OQ.fld; exact rfl; exact rfl; exact rfl; exact (by decide); exact rfl)) rfl ?_ | refine JC.seq ?_ | refine JC.region ?_ | refine JC.block ?_ | refine JC.skip ?_ | refine JC.exit ?_ | refine JL.nil ?_ | refine JE.next ?_ | refine JE.blk_normal ?_ | refine JE.then_exit ?_ | refine JE.blk_hit ?_ | refine JE.blk_miss rfl ?_ | refine JE.then_ret ?_ | refine JE.blk_ret ?_ | refine JC.label ?_ | refine JL.gon rfl rfl ?_ | refine JL.gskip rfl rfl rfl rfl ?_ | refine JL.gskipU rfl rfl rfl rfl ?_)
    refine JL.reb (S' := []) (M' := [⟨b7, Row 25 [F.v, S.v], false⟩, ⟨b3, Row 25 [f.v, s.v], false⟩]) (fun w3 hw3 => Holds.tail2 hw3) fun w3 hw3 => ?_
    obtain ⟨okx, oky⟩ := Holds.okz hw3
    have hE3 : Ext w w3 := hE2.trans hw3.chg
    replace hf := hf.ext hw3.chg
    replace hs := hs.ext hw3.chg
    replace oF := oF.ext hw3.chg
    replace oS := oS.ext hw3.chg
    clear hw3 hE2
    replace d1 := d1 oF oS
    obtain ⟨⟨adx, capx, lx⟩, hx, _⟩ := p
    obtain ⟨⟨ady, capy, ly⟩, hy, _⟩ := q
    dsimp only at hx hy okx oky ⊢
    subst hx
    subst hy
    have hll : decide ((ly.length : Int) = (ly.length : Int)) = true := decide_eq_true rfl
    have hvv : ∀ v : List Bt, decide (v = v) = true := fun _ => decide_eq_true rfl
    have hb : ∀ b : Bool, (b == b) = true := fun b => by cases b <;> rfl
    have hA0 : ly = [] ∨ ∃ a r, ly = a :: r := by cases ly with
      | nil => exact .inl rfl
      | cons a r => exact .inr ⟨a, r, rfl⟩
    rcases hA0 with rfl | ⟨a, r, rfl⟩
    case' inl =>
      replace d1 : ∀ M w', Holds w3 [] M w' → Calls Tryd.prog 9 [.agg #[F.v, S.v], Z nm].toArray w' fun e w'' => e = .returned (.tuple #[Z [], .bool false]) ∧ Ext w' w'' := d1
      repeat (first | refine JL.q (by first | (apply OQ.load_agg (cs := [F.v, S.v]); exact letA; exact letS; exact rfl; exact .here; exact rfl; exact Row.all) | (apply OQ.callx (vs := [.agg #[F.v, S.v], Z nm]); exact goes_lget; exact rfl; exact (d1 _)) | (apply OQ.extract; exact rfl; exact rfl) | (apply OQ.move; exact rfl) | (apply OQ.assign; exact rfl) | (apply OQ.len; exact rfl; exact rfl) | (apply OQ.addN; exact rfl; exact rfl; exact (by (try simp only []); omega)) | (apply OQ.subN; exact rfl; exact rfl; exact (by (try simp only []); omega); exact (by (try simp only []); omega)) | (apply OQ.lssN; exact rfl; exact rfl) | (apply OQ.fld; exact rfl; exact rfl; exact rfl; exact (by decide); exact rfl)) rfl ?_ | refine JC.seq ?_ | refine JC.region ?_ | refine JC.block ?_ | refine JC.skip ?_ | refine JC.exit ?_ | refine JL.nil ?_ | refine JE.next ?_ | refine JE.blk_normal ?_ | refine JE.then_exit ?_ | refine JE.blk_hit ?_ | refine JE.blk_miss rfl ?_ | refine JE.then_ret ?_ | refine JE.blk_ret ?_ | refine JC.label ?_ | refine JL.gon rfl rfl ?_ | refine JL.gskip rfl rfl rfl rfl ?_ | refine JL.gskipU rfl rfl rfl rfl ?_)
      repeat (first | refine JL.q (by first | (apply OQ.len; exact Tryd.underlying28; exact rfl) | (apply OQ.neB (c := true); exact rfl; exact rfl; exact rfl) | (apply OQ.gtrB (b := 0) (c := false); exact rfl; exact rfl; exact rfl) | (apply OQ.nebL; exact boolL; exact rfl; exact rfl) | (apply OQ.neSL (l := []) (r := []) (c := true); exact rfl; exact rfl; exact rfl) | (apply OQ.not; exact rfl) | (apply OQ.pick_t; exact rfl; exact rfl) | (apply OQ.pick_f; exact rfl; exact rfl) | (apply OQ.move; exact rfl) | (apply OQ.assign; exact rfl) | (apply OQ.len; exact rfl; exact rfl) | (apply OQ.addN; exact rfl; exact rfl; exact (by (try simp only []); omega)) | (apply OQ.subN; exact rfl; exact rfl; exact (by (try simp only []); omega); exact (by (try simp only []); omega)) | (apply OQ.lssN; exact rfl; exact rfl) | (apply OQ.fld; exact rfl; exact rfl; exact rfl; exact (by decide); exact rfl)) rfl ?_ | refine JC.seq ?_ | refine JC.region ?_ | refine JC.block ?_ | refine JC.skip ?_ | refine JC.exit ?_ | refine JL.nil ?_ | refine JE.next ?_ | refine JE.blk_normal ?_ | refine JE.then_exit ?_ | refine JE.blk_hit ?_ | refine JE.blk_miss rfl ?_ | refine JE.then_ret ?_ | refine JE.blk_ret ?_ | refine JC.label ?_ | refine JL.gon rfl rfl ?_ | refine JL.gskip rfl rfl rfl rfl ?_ | refine JL.gskipU rfl rfl rfl rfl ?_)
      refine JC.cond rfl (fun h => by cases h) (fun _ => ?_)
      generalize ([] : List (List Bt)) = ly at okx oky hAl hll ⊢
    case' inr =>
      replace d1 : ∀ M w', Holds w3 [] M w' → Calls Tryd.prog 9 [.agg #[F.v, S.v], Z nm].toArray w' fun e w'' => e = .returned (.tuple #[Z a, .bool true]) ∧ Ext w' w'' := d1
      have h0 : 0 < (a :: r).length := by simp
      have hgt : decide ((0 : Int) < ((a :: r).length : Int)) = true := decide_eq_true (by omega)
      obtain ⟨by', jy, eY, ly', cy⟩ := oky.at h0
      have vY : (SlZ.v ⟨ady, capy, a :: r⟩) = .slice (some ⟨by', jy, none⟩) (a :: r).length capy := by rw [SlZ.v, show ady = some ⟨by', jy, none⟩ from eY]
      have cy0 : w3.cell? ⟨by', jy + 0, none⟩ = some (Z a) := cy 0 h0
      rw [vY]
      repeat (first | refine JL.q (by first | (apply OQ.load_agg (cs := [F.v, S.v]); exact letA; exact letS; exact rfl; exact .here; exact rfl; exact Row.all) | (apply OQ.callx (vs := [.agg #[F.v, S.v], Z nm]); exact goes_lget; exact rfl; exact (d1 _)) | (apply OQ.extract; exact rfl; exact rfl) | (apply OQ.move; exact rfl) | (apply OQ.assign; exact rfl) | (apply OQ.len; exact rfl; exact rfl) | (apply OQ.addN; exact rfl; exact rfl; exact (by (try simp only []); omega)) | (apply OQ.subN; exact rfl; exact rfl; exact (by (try simp only []); omega); exact (by (try simp only []); omega)) | (apply OQ.lssN; exact rfl; exact rfl) | (apply OQ.fld; exact rfl; exact rfl; exact rfl; exact (by decide); exact rfl)) rfl ?_ | refine JC.seq ?_ | refine JC.region ?_ | refine JC.block ?_ | refine JC.skip ?_ | refine JC.exit ?_ | refine JL.nil ?_ | refine JE.next ?_ | refine JE.blk_normal ?_ | refine JE.then_exit ?_ | refine JE.blk_hit ?_ | refine JE.blk_miss rfl ?_ | refine JE.then_ret ?_ | refine JE.blk_ret ?_ | refine JC.label ?_ | refine JL.gon rfl rfl ?_ | refine JL.gskip rfl rfl rfl rfl ?_ | refine JL.gskipU rfl rfl rfl rfl ?_)
      repeat (first | refine JL.q (by first | (apply OQ.len; exact Tryd.underlying28; exact rfl) | (apply OQ.neB; exact rfl; exact rfl; exact hll) | (apply OQ.gtrB (b := 0); exact rfl; exact rfl; exact hgt) | (apply OQ.nebL; exact boolL; exact rfl; exact rfl) | (apply OQ.idxS1 (i := 0); exact Tryd.underlying28; exact strS; exact rfl; exact rfl; exact h0) | (apply OQ.load_old; exact strC; exact rfl; exact ly'; exact (by simp); exact cy0) | (apply OQ.neSL; exact rfl; exact rfl; exact (hvv a)) | (apply OQ.not; exact rfl) | (apply OQ.pick_t; exact rfl; exact rfl) | (apply OQ.pick_f; exact rfl; exact rfl) | (apply OQ.move; exact rfl) | (apply OQ.assign; exact rfl) | (apply OQ.len; exact rfl; exact rfl) | (apply OQ.addN; exact rfl; exact rfl; exact (by (try simp only []); omega)) | (apply OQ.subN; exact rfl; exact rfl; exact (by (try simp only []); omega); exact (by (try simp only []); omega)) | (apply OQ.lssN; exact rfl; exact rfl) | (apply OQ.fld; exact rfl; exact rfl; exact rfl; exact (by decide); exact rfl)) rfl ?_ | refine JC.seq ?_ | refine JC.region ?_ | refine JC.block ?_ | refine JC.skip ?_ | refine JC.exit ?_ | refine JL.nil ?_ | refine JE.next ?_ | refine JE.blk_normal ?_ | refine JE.then_exit ?_ | refine JE.blk_hit ?_ | refine JE.blk_miss rfl ?_ | refine JE.then_ret ?_ | refine JE.blk_ret ?_ | refine JC.label ?_ | refine JL.gon rfl rfl ?_ | refine JL.gskip rfl rfl rfl rfl ?_ | refine JL.gskipU rfl rfl rfl rfl ?_)
      refine JC.cond rfl (fun h => by cases h) (fun _ => ?_)
      rw [← vY]
      clear vY eY cy cy0 h0 hgt
      generalize (a :: r) = ly at okx oky hAl hll ⊢
    all_goals clear d1
    all_goals (repeat (first | refine JL.q (by first | (apply OQ.len; exact Tryd.underlying28; exact rfl) | (apply OQ.move; exact rfl) | (apply OQ.assign; exact rfl) | (apply OQ.len; exact rfl; exact rfl) | (apply OQ.addN; exact rfl; exact rfl; exact (by (try simp only []); omega)) | (apply OQ.subN; exact rfl; exact rfl; exact (by (try simp only []); omega); exact (by (try simp only []); omega)) | (apply OQ.lssN; exact rfl; exact rfl) | (apply OQ.fld; exact rfl; exact rfl; exact rfl; exact (by decide); exact rfl)) rfl ?_ | refine JC.seq ?_ | refine JC.region ?_ | refine JC.block ?_ | refine JC.skip ?_ | refine JC.exit ?_ | refine JL.nil ?_ | refine JE.next ?_ | refine JE.blk_normal ?_ | refine JE.then_exit ?_ | refine JE.blk_hit ?_ | refine JE.blk_miss rfl ?_ | refine JE.then_ret ?_ | refine JE.blk_ret ?_ | refine JC.label ?_ | refine JL.gon rfl rfl ?_ | refine JL.gskip rfl rfl rfl rfl ?_ | refine JL.gskipU rfl rfl rfl rfl ?_))
    all_goals
      (refine JC.loop (fun j : Nat => [(1, Z nm), (2, Z vl), (3, Pt b3 0), (7, Pt b7 0), (8, SlZ.v ⟨adx, capx, ly⟩), (9, SlZ.v ⟨ady, capy, ly⟩), (81, N ly.length), (82, N j)]) (fun _ => [⟨b7, Row 25 [F.v, S.v], false⟩, ⟨b3, Row 25 [f.v, s.v], false⟩]) (fun j => ly.length - j) (fun j => j ≤ ly.length) 0 (Nat.zero_le _) (by repeat (first | exact SubE.nil | refine SubE.cons _ _ _ rfl ?_)) (Less.refl _) ?_
       intro j hj
       repeat (first | refine JL.q (by first | (apply OQ.move; exact rfl) | (apply OQ.assign; exact rfl) | (apply OQ.len; exact rfl; exact rfl) | (apply OQ.addN; exact rfl; exact rfl; exact (by (try simp only []); omega)) | (apply OQ.subN; exact rfl; exact rfl; exact (by (try simp only []); omega); exact (by (try simp only []); omega)) | (apply OQ.lssN; exact rfl; exact rfl) | (apply OQ.fld; exact rfl; exact rfl; exact rfl; exact (by decide); exact rfl)) rfl ?_ | refine JC.seq ?_ | refine JC.region ?_ | refine JC.block ?_ | refine JC.skip ?_ | refine JC.exit ?_ | refine JL.nil ?_ | refine JE.next ?_ | refine JE.blk_normal ?_ | refine JE.then_exit ?_ | refine JE.blk_hit ?_ | refine JE.blk_miss rfl ?_ | refine JE.then_ret ?_ | refine JE.blk_ret ?_ | refine JC.label ?_ | refine JL.gon rfl rfl ?_ | refine JL.gskip rfl rfl rfl rfl ?_ | refine JL.gskipU rfl rfl rfl rfl ?_)
       refine JC.cond rfl (fun h => ?_) (fun h => ?_)
       · have hj' : j < ly.length := of_decide_eq_true h
         clear h
         obtain ⟨bx, jx, eX, lx, cx⟩ := okx.at (show 0 < (SlZ.l ⟨adx, capx, ly⟩).length by show 0 < ly.length; omega)
         obtain ⟨by', jy, eY, ly', cy⟩ := oky.at (show 0 < (SlZ.l ⟨ady, capy, ly⟩).length by show 0 < ly.length; omega)
         have cxi := cx j hj'
         have cyi := cy j hj'
         replace eX : adx = _ := eX
         replace eY : ady = _ := eY
         subst eX eY
         replace cxi : w3.cell? ⟨bx, jx + j, none⟩ = some (Z (ly.getD j [])) := cxi
         have hgg : decide (ly.getD j [] = ly.getD j []) = true := decide_eq_true rfl
         replace cyi : w3.cell? ⟨by', jy + j, none⟩ = some (Z (ly.getD j [])) := cyi
         repeat (first | refine JL.q (by first | (apply OQ.move; exact rfl) | (apply OQ.assign; exact rfl) | (apply OQ.len; exact rfl; exact rfl) | (apply OQ.addN; exact rfl; exact rfl; exact (by (try simp only []); omega)) | (apply OQ.subN; exact rfl; exact rfl; exact (by (try simp only []); omega); exact (by (try simp only []); omega)) | (apply OQ.lssN; exact rfl; exact rfl) | (apply OQ.fld; exact rfl; exact rfl; exact rfl; exact (by decide); exact rfl)) rfl ?_ | refine JC.seq ?_ | refine JC.region ?_ | refine JC.block ?_ | refine JC.skip ?_ | refine JC.exit ?_ | refine JL.nil ?_ | refine JE.next ?_ | refine JE.blk_normal ?_ | refine JE.then_exit ?_ | refine JE.blk_hit ?_ | refine JE.blk_miss rfl ?_ | refine JE.then_ret ?_ | refine JE.blk_ret ?_ | refine JC.label ?_ | refine JL.gon rfl rfl ?_ | refine JL.gskip rfl rfl rfl rfl ?_ | refine JL.gskipU rfl rfl rfl rfl ?_)
         refine JC.quiet mixT (by kernel_rfl) ?_
         repeat (first | refine JL.q (by first | (apply OQ.idxS1; exact Tryd.underlying28; exact strS; exact rfl; exact rfl; exact hj') | (apply OQ.load_old; exact strC; exact rfl; exact lx; exact (by simp); exact cxi) | (apply OQ.load_old; exact strC; exact rfl; exact ly'; exact (by simp); exact cyi) | (apply OQ.neSL; exact rfl; exact rfl; exact hgg) | (apply OQ.move; exact rfl) | (apply OQ.assign; exact rfl) | (apply OQ.len; exact rfl; exact rfl) | (apply OQ.addN; exact rfl; exact rfl; exact (by (try simp only []); omega)) | (apply OQ.subN; exact rfl; exact rfl; exact (by (try simp only []); omega); exact (by (try simp only []); omega)) | (apply OQ.lssN; exact rfl; exact rfl) | (apply OQ.fld; exact rfl; exact rfl; exact rfl; exact (by decide); exact rfl)) rfl ?_ | refine JQ.q (by first | (apply OQ.idxS1; exact Tryd.underlying28; exact strS; exact rfl; exact rfl; exact hj') | (apply OQ.load_old; exact strC; exact rfl; exact lx; exact (by simp); exact cxi) | (apply OQ.load_old; exact strC; exact rfl; exact ly'; exact (by simp); exact cyi) | (apply OQ.neSL; exact rfl; exact rfl; exact hgg) | (apply OQ.move; exact rfl) | (apply OQ.assign; exact rfl) | (apply OQ.len; exact rfl; exact rfl) | (apply OQ.addN; exact rfl; exact rfl; exact (by (try simp only []); omega)) | (apply OQ.subN; exact rfl; exact rfl; exact (by (try simp only []); omega); exact (by (try simp only []); omega)) | (apply OQ.lssN; exact rfl; exact rfl) | (apply OQ.fld; exact rfl; exact rfl; exact rfl; exact (by decide); exact rfl)) rfl ?_ | refine JC.seq ?_ | refine JC.region ?_ | refine JC.block ?_ | refine JC.skip ?_ | refine JC.exit ?_ | refine JL.nil ?_ | refine JQ.nil ?_ | refine JQ.nil_tail ?_ | refine JE.next ?_ | refine JE.blk_normal ?_ | refine JE.then_exit ?_ | refine JE.blk_hit ?_ | refine JE.blk_miss rfl ?_ | refine JE.then_ret ?_ | refine JE.blk_ret ?_ | refine JC.label ?_ | refine JL.gon rfl rfl ?_ | refine JQ.gon rfl rfl ?_ | refine JL.gskip rfl rfl rfl rfl ?_ | refine JQ.gskip rfl rfl rfl rfl ?_ | refine JL.gskipU rfl rfl rfl rfl ?_ | refine JQ.gskipU rfl rfl rfl rfl ?_)
         refine JC.cond rfl (fun h => by cases h) (fun _ => ?_)
         repeat (first | refine JL.q (by first | (apply OQ.move; exact rfl) | (apply OQ.assign; exact rfl) | (apply OQ.len; exact rfl; exact rfl) | (apply OQ.addN; exact rfl; exact rfl; exact (by (try simp only []); omega)) | (apply OQ.subN; exact rfl; exact rfl; exact (by (try simp only []); omega); exact (by (try simp only []); omega)) | (apply OQ.lssN; exact rfl; exact rfl) | (apply OQ.fld; exact rfl; exact rfl; exact rfl; exact (by decide); exact rfl)) rfl ?_ | refine JQ.q (by first | (apply OQ.move; exact rfl) | (apply OQ.assign; exact rfl) | (apply OQ.len; exact rfl; exact rfl) | (apply OQ.addN; exact rfl; exact rfl; exact (by (try simp only []); omega)) | (apply OQ.subN; exact rfl; exact rfl; exact (by (try simp only []); omega); exact (by (try simp only []); omega)) | (apply OQ.lssN; exact rfl; exact rfl) | (apply OQ.fld; exact rfl; exact rfl; exact rfl; exact (by decide); exact rfl)) rfl ?_ | refine JC.seq ?_ | refine JC.region ?_ | refine JC.block ?_ | refine JC.skip ?_ | refine JC.exit ?_ | refine JL.nil ?_ | refine JQ.nil ?_ | refine JQ.nil_tail ?_ | refine JE.next ?_ | refine JE.blk_normal ?_ | refine JE.then_exit ?_ | refine JE.blk_hit ?_ | refine JE.blk_miss rfl ?_ | refine JE.then_ret ?_ | refine JE.blk_ret ?_ | refine JC.label ?_ | refine JL.gon rfl rfl ?_ | refine JQ.gon rfl rfl ?_ | refine JL.gskip rfl rfl rfl rfl ?_ | refine JQ.gskip rfl rfl rfl rfl ?_ | refine JL.gskipU rfl rfl rfl rfl ?_ | refine JQ.gskipU rfl rfl rfl rfl ?_)
         exact JE.again (i := j) (j + 1) hj' (by omega) (by repeat (first | exact SubE.nil | refine SubE.cons _ _ _ rfl ?_)) (Less.refl _)
       repeat (first | refine JL.q (by first | (apply OQ.move; exact rfl) | (apply OQ.assign; exact rfl) | (apply OQ.len; exact rfl; exact rfl) | (apply OQ.addN; exact rfl; exact rfl; exact (by (try simp only []); omega)) | (apply OQ.subN; exact rfl; exact rfl; exact (by (try simp only []); omega); exact (by (try simp only []); omega)) | (apply OQ.lssN; exact rfl; exact rfl) | (apply OQ.fld; exact rfl; exact rfl; exact rfl; exact (by decide); exact rfl)) rfl ?_ | refine JQ.q (by first | (apply OQ.move; exact rfl) | (apply OQ.assign; exact rfl) | (apply OQ.len; exact rfl; exact rfl) | (apply OQ.addN; exact rfl; exact rfl; exact (by (try simp only []); omega)) | (apply OQ.subN; exact rfl; exact rfl; exact (by (try simp only []); omega); exact (by (try simp only []); omega)) | (apply OQ.lssN; exact rfl; exact rfl) | (apply OQ.fld; exact rfl; exact rfl; exact rfl; exact (by decide); exact rfl)) rfl ?_ | refine JC.seq ?_ | refine JC.region ?_ | refine JC.block ?_ | refine JC.skip ?_ | refine JC.exit ?_ | refine JL.nil ?_ | refine JQ.nil ?_ | refine JQ.nil_tail ?_ | refine JE.next ?_ | refine JE.blk_normal ?_ | refine JE.then_exit ?_ | refine JE.blk_hit ?_ | refine JE.blk_miss rfl ?_ | refine JE.then_ret ?_ | refine JE.blk_ret ?_ | refine JC.label ?_ | refine JL.gon rfl rfl ?_ | refine JQ.gon rfl rfl ?_ | refine JL.gskip rfl rfl rfl rfl ?_ | refine JQ.gskip rfl rfl rfl rfl ?_ | refine JL.gskipU rfl rfl rfl rfl ?_ | refine JQ.gskipU rfl rfl rfl rfl ?_)
       have c3 : ∀ M w', Holds w3 [] M w' → Calls Tryd.prog 10 [.agg #[F.v, S.v], Z nm, Z vl].toArray w' fun e w'' => ∃ z : Lt (setB nm vl f.l) s.l, e = .returned z.v ∧ Holds w' [] z.ents w'' := fun M w' hw' => by
         have := hL.set F S nm vl w' (oF.holds hw' rfl) (oS.holds hw' rfl) hFz F1 S1 n1 n2
         rw [hFl, hSl] at this
         exact this
       have c6 : ∀ M w', Holds w3 [] M w' → Calls Tryd.prog 11 [.agg #[F.v, S.v], Z nm].toArray w' fun e w'' => ∃ z : Lt (dropB nm f.l) s.l, e = .returned z.v ∧ Holds w' [] z.ents w'' := fun M w' hw' => by
         have := hL.drop F S nm w' (oF.holds hw' rfl) (oS.holds hw' rfl) hFz F1 S1 n1
         rw [hFl, hSl] at this
         exact this
       let vs : Nat → Lt (setB nm vl f.l) s.l × Lt (dropB nm f.l) s.l × Nat → Value := fun j x => match j with
         | 0 => .agg #[F.v, S.v]
         | 1 => Z nm
         | 2 => Z vl
         | 3 => x.1.v
         | 4 => .agg #[F.v, S.v]
         | 5 => Z nm
         | 6 => x.2.1.v
         | _ => Pt x.2.2 0
       let Ms : Nat → Lt (setB nm vl f.l) s.l × Lt (dropB nm f.l) s.l × Nat → List Ent := fun j x => match j with
         | 3 => x.1.ents
         | 6 => x.2.1.ents
         | 7 => [⟨x.2.2, Row 25 [nil2.v, nilS.v], true⟩]
         | 8 => [⟨x.2.2, Row 25 [nil2.v, nilS.v], true⟩]
         | 9 => ⟨x.2.2, Row 25 [x.1.f.v, x.1.s.v], true⟩ :: (x.1.ents ++ [])
         | 10 => ⟨x.2.2, Row 25 [x.2.1.f.v, x.2.1.s.v], true⟩ :: (x.2.1.ents ++ [])
         | 12 => [⟨b3, Row 25 [f.v, s.v], false⟩]
         | 11 => [⟨b7, Row 25 [F.v, S.v], false⟩]
         | _ => []
       refine JC.growR (g := ⟨[(1, Z nm), (2, Z vl), (3, Pt b3 0), (7, Pt b7 0)], 13, vs, Ms, (fun j => match j with | 3 => [(0, 95), (1, 96), (2, 97)] | 6 => [(4, 99), (5, 100)] | 9 => [(7, 13), (3, 98)] | 10 => [(8, 14), (6, 101)] | _ => []), (fun j => match j with | 0 => [11] | 4 => [11] | 9 => [7, 3] | 10 => [8, 6] | _ => []), (fun j => match j with | 9 => [7, 3] | 10 => [8, 6] | _ => []), (fun j => match j with | 9 => some 7 | 10 => some 8 | _ => none), fun _ => [], fun _ a b => a.2.2 = b.2.2⟩) [(7, 13), (8, 14)] [9, 10, 11, 12] mixT (by repeat (first | exact SubE.nil | refine SubE.cons _ _ _ rfl ?_)) (fun _ _ => .nil) (Less.refl _) (by kernel_rfl) (by kernel_rfl) (by kernel_rfl) ?_ ?_
       · refine ⟨?_, ?_, ?_, ?_, ?_, ?_, ?_, ?_, ?_, ?_, ?_, trivial⟩
         · (intro x EF MF Q kk; exact JL.q (OQ.load_agg (cs := [F.v, S.v]) letA letS rfl .here rfl Row.all) rfl (JL.nil (kk default nofun)))
         · (intro x EF MF Q kk; exact JL.q (OQ.move rfl) rfl (JL.nil (kk default nofun)))
         · (intro x EF MF Q kk; exact JL.q (OQ.move rfl) rfl (JL.nil (kk default nofun)))
         · (intro x EF MF Q kk; exact JL.call (ι := Lt (setB nm vl f.l) s.l) (vs := [.agg #[F.v, S.v], Z nm, Z vl]) (fun z => z.v) (fun z => z.ents ++ MF) goes_lset rfl rfl (fun w' hw' => (c3 _ w' hw').mono fun e w2 ⟨z, h1, h2⟩ => ⟨z, h1, Sl.Holds.both hw' h2 z.wr⟩) fun z => JL.nil (kk (z, default, 0) nofun))
         · (intro x EF MF Q kk; exact JL.q (OQ.load_agg (cs := [F.v, S.v]) letA letS rfl .here rfl Row.all) rfl (JL.nil (kk default nofun)))
         · (intro x EF MF Q kk; exact JL.q (OQ.move rfl) rfl (JL.nil (kk default nofun)))
         · (intro x EF MF Q kk; exact JL.call (ι := Lt (dropB nm f.l) s.l) (vs := [.agg #[F.v, S.v], Z nm]) (fun z => z.v) (fun z => z.ents ++ MF) goes_ldrop rfl rfl (fun w' hw' => (c6 _ w' hw').mono fun e w2 ⟨z, h1, h2⟩ => ⟨z, h1, Sl.Holds.both hw' h2 z.wr⟩) fun z => JL.nil (kk (default, z, 0) nofun))
         · (intro x EF MF Q kk; exact JL.alloc letZ rfl fun b _ => JL.nil (kk (default, default, b) nofun))
         · (intro x EF MF Q kk; exact JL.alloc letZ rfl fun b _ => JL.nil (kk (default, default, b) nofun))
         · (intro x EF MF Q kk; exact JL.store_all (cs := [(x 3).1.f.v, (x 3).1.s.v]) letS rfl rfl rfl rfl .here rfl (JL.nil (kk ((x 3).1, default, (x 7).2.2) (fun k h => by cases h; rfl))))
         · (intro x EF MF Q kk; exact JL.store_all (cs := [(x 6).2.1.f.v, (x 6).2.1.s.v]) letS rfl rfl rfl rfl .here rfl (JL.nil (kk (default, (x 6).2.1, (x 8).2.2) (fun k h => by cases h; rfl))))
       · intro x hx
         have h9 : (x 9).2.2 = (x 7).2.2 := hx 9 7 (by decide) rfl
         have h10 : (x 10).2.2 = (x 8).2.2 := hx 10 8 (by decide) rfl
         show JE _ _ _ _ _ [(13, Pt (x 7).2.2 0), (14, Pt (x 8).2.2 0), (1, Z nm), (2, Z vl), (3, Pt b3 0), (7, Pt b7 0)] ((⟨(x 9).2.2, Row 25 [(x 9).1.f.v, (x 9).1.s.v], true⟩ :: ((x 9).1.ents ++ [])) ++ ((⟨(x 10).2.2, Row 25 [(x 10).2.1.f.v, (x 10).2.1.s.v], true⟩ :: ((x 10).2.1.ents ++ [])) ++ ([⟨b7, Row 25 [F.v, S.v], false⟩] ++ ([⟨b3, Row 25 [f.v, s.v], false⟩] ++ []))))
         rw [← h9, ← h10]
         generalize x 9 = q9
         generalize x 10 = q10
         clear h9 h10 hx x vs Ms c3 c6
         obtain ⟨z1, _, b13⟩ := q9
         obtain ⟨_, z2, b14⟩ := q10
         dsimp only
         repeat (first | refine JL.q (by first | (apply OQ.move; exact rfl) | (apply OQ.assign; exact rfl) | (apply OQ.len; exact rfl; exact rfl) | (apply OQ.addN; exact rfl; exact rfl; exact (by (try simp only []); omega)) | (apply OQ.subN; exact rfl; exact rfl; exact (by (try simp only []); omega); exact (by (try simp only []); omega)) | (apply OQ.lssN; exact rfl; exact rfl) | (apply OQ.fld; exact rfl; exact rfl; exact rfl; exact (by decide); exact rfl)) rfl ?_ | refine JQ.q (by first | (apply OQ.move; exact rfl) | (apply OQ.assign; exact rfl) | (apply OQ.len; exact rfl; exact rfl) | (apply OQ.addN; exact rfl; exact rfl; exact (by (try simp only []); omega)) | (apply OQ.subN; exact rfl; exact rfl; exact (by (try simp only []); omega); exact (by (try simp only []); omega)) | (apply OQ.lssN; exact rfl; exact rfl) | (apply OQ.fld; exact rfl; exact rfl; exact rfl; exact (by decide); exact rfl)) rfl ?_ | refine JC.seq ?_ | refine JC.region ?_ | refine JC.block ?_ | refine JC.skip ?_ | refine JC.exit ?_ | refine JL.nil ?_ | refine JQ.nil ?_ | refine JQ.nil_tail ?_ | refine JE.next ?_ | refine JE.blk_normal ?_ | refine JE.then_exit ?_ | refine JE.blk_hit ?_ | refine JE.blk_miss rfl ?_ | refine JE.then_ret ?_ | refine JE.blk_ret ?_ | refine JC.label ?_ | refine JL.gon rfl rfl ?_ | refine JQ.gon rfl rfl ?_ | refine JL.gskip rfl rfl rfl rfl ?_ | refine JQ.gskip rfl rfl rfl rfl ?_ | refine JL.gskipU rfl rfl rfl rfl ?_ | refine JQ.gskipU rfl rfl rfl rfl ?_)
         refine JC.reb (S' := []) (M' := [⟨b13, Row 25 [z1.f.v, z1.s.v], false⟩, ⟨b14, Row 25 [z2.f.v, z2.s.v], false⟩, ⟨b7, Row 25 [F.v, S.v], false⟩, ⟨b3, Row 25 [f.v, s.v], false⟩]) (fun w4 hw4 => Holds.cold4 hw4) fun w4 hw4 => ?_
         obtain ⟨⟨o1, o2⟩, o3, o4⟩ := Holds.oks4 hw4
         have hE5 : Ext w w4 := hE3.trans hw4.chg
         replace hf := hf.ext hw4.chg
         replace hs := hs.ext hw4.chg
         replace oF := oF.ext hw4.chg
         replace oS := oS.ext hw4.chg
         clear hw4 hE3
         have k1 : z1.f.l.length ≤ 301 := by rw [z1.hf]; have := setR_len nm vl f.l false; unfold setB; omega
         have k2 : z2.f.l.length ≤ 301 := by rw [z2.hf]; have := drop_len nm f.l; omega
         have k3 : z1.s.l.length ≤ 3000 := by rw [z1.hs]; exact l2
         have k4 : z2.s.l.length ≤ 3000 := by rw [z2.hs]; exact l2
         have r1 : ∀ M w', Holds w4 [] M w' → Calls Tryd.prog 13 [.agg #[f.v, s.v], Z nm, Z vl].toArray w' fun e w'' => ∃ z : G2 (setB nm vl f.l), e = .returned z.z.v ∧ Holds w' [] z.z.ents w'' := fun M w' hw' => rset_any f s nm vl w' (hf.holds hw' rfl) hz (by omega) (by omega)
         have r2 : ∀ M w', Holds w4 [] M w' → Calls Tryd.prog 14 [.agg #[f.v, s.v], Z nm].toArray w' fun e w'' => ∃ z : G2 (dropB nm f.l), e = .returned z.z.v ∧ Holds w' [] z.z.ents w'' := fun M w' hw' => rdrop_any f s nm w' (hf.holds hw' rfl) hz (by omega) (by omega)
         let vs : Nat → G2 (setB nm vl f.l) × G2 (dropB nm f.l) → Value := fun j x => match j with
           | 0 => Pt b13 0
           | 1 => z1.f.v
           | 2 => .agg #[f.v, s.v]
           | 3 => Z nm
           | 4 => Z vl
           | 5 => x.1.z.v
           | 6 => .bool true
           | 7 => .bool true
           | 8 => Pt b14 0
           | 9 => z2.f.v
           | 10 => .agg #[f.v, s.v]
           | 11 => Z nm
           | 12 => x.2.z.v
           | 13 => .bool true
           | 14 => .bool true
           | 15 => .bool true
           | 16 => Pt b13 1
           | 17 => z1.s.v
           | 18 => Pt b3 1
           | 19 => s.v
           | 20 => .bool true
           | 21 => .bool true
           | 22 => .bool true
           | 23 => Pt b14 1
           | 24 => z2.s.v
           | 25 => Pt b3 1
           | 26 => s.v
           | 27 => .bool true
           | 28 => .bool true
           | 29 => .bool true
           | 30 => Pt b7 0
           | 31 => F.v
           | 32 => Pt b3 0
           | 33 => f.v
           | 34 => .bool true
           | 35 => .bool true
           | _ => .bool true
         let Ms : Nat → G2 (setB nm vl f.l) × G2 (dropB nm f.l) → List Ent := fun j x => match j with
           | 5 => x.1.z.ents
           | 12 => x.2.z.ents
           | 37 => [⟨b13, Row 25 [z1.f.v, z1.s.v], false⟩]
           | 38 => [⟨b14, Row 25 [z2.f.v, z2.s.v], false⟩]
           | 39 => [⟨b7, Row 25 [F.v, S.v], false⟩]
           | 40 => [⟨b3, Row 25 [f.v, s.v], false⟩]
           | _ => []
         refine JC.grow (g := ⟨[(1, Z nm), (2, Z vl), (3, Pt b3 0), (7, Pt b7 0), (13, Pt b13 0), (14, Pt b14 0)], 41, vs, Ms, (fun j => match j with | 1 => [(0, 102)] | 5 => [(2, 104), (3, 105), (4, 106)] | 6 => [(1, 103), (5, 107)] | 7 => [(6, 108)] | 8 => [(7, 109)] | 9 => [(8, 110), (7, 109)] | 10 => [(7, 109)] | 11 => [(7, 109)] | 12 => [(10, 112), (11, 113), (7, 109)] | 13 => [(9, 111), (12, 114), (7, 109)] | 14 => [(7, 109), (13, 115)] | 15 => [(14, 116)] | 16 => [(15, 117)] | 17 => [(16, 118), (15, 117)] | 18 => [(15, 117)] | 19 => [(18, 120), (15, 117)] | 20 => [(17, 119), (19, 121), (15, 117)] | 21 => [(15, 117), (20, 122)] | 22 => [(21, 123)] | 23 => [(22, 124)] | 24 => [(23, 125), (22, 124)] | 25 => [(22, 124)] | 26 => [(25, 127), (22, 124)] | 27 => [(24, 126), (26, 128), (22, 124)] | 28 => [(22, 124), (27, 129)] | 29 => [(28, 130)] | 30 => [(29, 131)] | 31 => [(30, 132), (29, 131)] | 32 => [(29, 131)] | 33 => [(32, 134), (29, 131)] | 34 => [(31, 133), (33, 135), (29, 131)] | 35 => [(29, 131), (34, 136)] | 36 => [(35, 137)] | _ => []), (fun j => match j with | 1 => [37] | 2 => [40] | 6 => [5] | 9 => [38] | 10 => [40] | 13 => [12] | 17 => [37] | 19 => [40] | 24 => [38] | 26 => [40] | 31 => [39] | 33 => [40] | _ => []), (fun _ => []), (fun _ => none)⟩) [(36, 6)] [] mixT (by repeat (first | exact SubE.nil | refine SubE.cons _ _ _ rfl ?_)) (Less.refl _) (by kernel_rfl) (by kernel_rfl) (by kernel_rfl) ?_ ?_
         · refine ⟨?_, ?_, ?_, ?_, ?_, ?_, ?_, ?_, ?_, ?_, ?_, ?_, ?_, ?_, ?_, ?_, ?_, ?_, ?_, ?_, ?_, ?_, ?_, ?_, ?_, ?_, ?_, ?_, ?_, ?_, ?_, ?_, ?_, ?_, ?_, ?_, ?_, trivial⟩
           · (intro x EF MF Q kk; exact JL.q (OQ.fldx (o := 0) rfl rfl rfl (by decide) rfl rfl) rfl (JL.nil (kk default nofun)))
           · (intro x EF MF Q kk; exact JL.q (OQ.load fsC rfl .here (Row.cell (v := z1.f.v) rfl)) rfl (JL.nil (kk default nofun)))
           · (intro x EF MF Q kk; exact JL.q (OQ.load_agg (cs := [f.v, s.v]) letA letS rfl .here rfl Row.all) rfl (JL.nil (kk default nofun)))
           · (intro x EF MF Q kk; exact JL.q (OQ.move rfl) rfl (JL.nil (kk default nofun)))
           · (intro x EF MF Q kk; exact JL.q (OQ.move rfl) rfl (JL.nil (kk default nofun)))
           · (intro x EF MF Q kk; exact JL.call (ι := G2 (setB nm vl f.l)) (vs := [.agg #[f.v, s.v], Z nm, Z vl]) (fun z => z.z.v) (fun z => z.z.ents ++ MF) goes_rset rfl rfl (fun w' hw' => (r1 _ w' hw').mono fun e w2 ⟨z, h1, h2⟩ => ⟨z, h1, Sl.Holds.both hw' h2 z.z.ents_wr⟩) fun z => JL.nil (kk (z, default) nofun))
           · (intro x EF MF Q kk; exact JL.q (OQ.callx (vs := [z1.f.v, (x 5).1.z.v]) goes_rsamef rfl (fun w' hw' => samef_t (o1.holds hw' rfl) (Sl2.ents_ok (M := MF) (Sl.Holds.weak (show Holds w4 [] (((x 5).1.z.ents ++ []) ++ MF) w' from hw') (by rw [List.append_nil]; exact Less.refl _)) (x 5).1.n) (by omega) (z1.hf.trans (x 5).1.h.symm))) rfl (JL.nil (kk default nofun)))
           · (intro x EF MF Q kk; exact JL.q (OQ.move rfl) rfl (JL.nil (kk default nofun)))
           · (intro x EF MF Q kk; refine JL.gon rfl rfl ?_; exact JL.q (OQ.fldx (o := 0) rfl rfl rfl (by decide) rfl rfl) rfl (JL.nil (kk default nofun)))
           · (intro x EF MF Q kk; refine JL.gon rfl rfl ?_; exact JL.q (OQ.load fsC rfl .here (Row.cell (v := z2.f.v) rfl)) rfl (JL.nil (kk default nofun)))
           · (intro x EF MF Q kk; refine JL.gon rfl rfl ?_; exact JL.q (OQ.load_agg (cs := [f.v, s.v]) letA letS rfl .here rfl Row.all) rfl (JL.nil (kk default nofun)))
           · (intro x EF MF Q kk; refine JL.gon rfl rfl ?_; exact JL.q (OQ.move rfl) rfl (JL.nil (kk default nofun)))
           · (intro x EF MF Q kk; refine JL.gon rfl rfl ?_; exact JL.call (ι := G2 (dropB nm f.l)) (vs := [.agg #[f.v, s.v], Z nm]) (fun z => z.z.v) (fun z => z.z.ents ++ MF) goes_rdrop rfl rfl (fun w' hw' => (r2 _ w' hw').mono fun e w2 ⟨z, h1, h2⟩ => ⟨z, h1, Sl.Holds.both hw' h2 z.z.ents_wr⟩) fun z => JL.nil (kk (default, z) nofun))
           · (intro x EF MF Q kk; refine JL.gon rfl rfl ?_; exact JL.q (OQ.callx (vs := [z2.f.v, (x 12).2.z.v]) goes_rsamef rfl (fun w' hw' => samef_t (o3.holds hw' rfl) (Sl2.ents_ok (M := MF) (Sl.Holds.weak (show Holds w4 [] (((x 12).2.z.ents ++ []) ++ MF) w' from hw') (by rw [List.append_nil]; exact Less.refl _)) (x 12).2.n) (by omega) (z2.hf.trans (x 12).2.h.symm))) rfl (JL.nil (kk default nofun)))
           · (intro x EF MF Q kk; exact JL.q (OQ.pick_t rfl rfl) rfl (JL.nil (kk default nofun)))
           · (intro x EF MF Q kk; exact JL.q (OQ.move rfl) rfl (JL.nil (kk default nofun)))
           · (intro x EF MF Q kk; refine JL.gon rfl rfl ?_; exact JL.q (OQ.fldx (o := 1) rfl rfl rfl (by decide) rfl rfl) rfl (JL.nil (kk default nofun)))
           · (intro x EF MF Q kk; refine JL.gon rfl rfl ?_; exact JL.q (OQ.load bsC rfl .here (Row.cell (v := z1.s.v) rfl)) rfl (JL.nil (kk default nofun)))
           · (intro x EF MF Q kk; refine JL.gon rfl rfl ?_; exact JL.q (OQ.fldx (o := 1) rfl rfl rfl (by decide) rfl rfl) rfl (JL.nil (kk default nofun)))
           · (intro x EF MF Q kk; refine JL.gon rfl rfl ?_; exact JL.q (OQ.load bsC rfl .here (Row.cell (v := s.v) rfl)) rfl (JL.nil (kk default nofun)))
           · (intro x EF MF Q kk; refine JL.gon rfl rfl ?_; exact JL.q (OQ.callx (vs := [z1.s.v, s.v]) goes_same rfl (fun w' hw' => same_t rfl rfl (o2.holds hw' rfl) (hs.holds hw' rfl) (by omega) z1.hs)) rfl (JL.nil (kk default nofun)))
           · (intro x EF MF Q kk; exact JL.q (OQ.pick_t rfl rfl) rfl (JL.nil (kk default nofun)))
           · (intro x EF MF Q kk; exact JL.q (OQ.move rfl) rfl (JL.nil (kk default nofun)))
           · (intro x EF MF Q kk; refine JL.gon rfl rfl ?_; exact JL.q (OQ.fldx (o := 1) rfl rfl rfl (by decide) rfl rfl) rfl (JL.nil (kk default nofun)))
           · (intro x EF MF Q kk; refine JL.gon rfl rfl ?_; exact JL.q (OQ.load bsC rfl .here (Row.cell (v := z2.s.v) rfl)) rfl (JL.nil (kk default nofun)))
           · (intro x EF MF Q kk; refine JL.gon rfl rfl ?_; exact JL.q (OQ.fldx (o := 1) rfl rfl rfl (by decide) rfl rfl) rfl (JL.nil (kk default nofun)))
           · (intro x EF MF Q kk; refine JL.gon rfl rfl ?_; exact JL.q (OQ.load bsC rfl .here (Row.cell (v := s.v) rfl)) rfl (JL.nil (kk default nofun)))
           · (intro x EF MF Q kk; refine JL.gon rfl rfl ?_; exact JL.q (OQ.callx (vs := [z2.s.v, s.v]) goes_same rfl (fun w' hw' => same_t rfl rfl (o4.holds hw' rfl) (hs.holds hw' rfl) (by omega) z2.hs)) rfl (JL.nil (kk default nofun)))
           · (intro x EF MF Q kk; exact JL.q (OQ.pick_t rfl rfl) rfl (JL.nil (kk default nofun)))
           · (intro x EF MF Q kk; exact JL.q (OQ.move rfl) rfl (JL.nil (kk default nofun)))
           · (intro x EF MF Q kk; refine JL.gon rfl rfl ?_; exact JL.q (OQ.fldx (o := 0) rfl rfl rfl (by decide) rfl rfl) rfl (JL.nil (kk default nofun)))
           · (intro x EF MF Q kk; refine JL.gon rfl rfl ?_; exact JL.q (OQ.load fsC rfl .here (Row.cell (v := F.v) rfl)) rfl (JL.nil (kk default nofun)))
           · (intro x EF MF Q kk; refine JL.gon rfl rfl ?_; exact JL.q (OQ.fldx (o := 0) rfl rfl rfl (by decide) rfl rfl) rfl (JL.nil (kk default nofun)))
           · (intro x EF MF Q kk; refine JL.gon rfl rfl ?_; exact JL.q (OQ.load fsC rfl .here (Row.cell (v := f.v) rfl)) rfl (JL.nil (kk default nofun)))
           · (intro x EF MF Q kk; refine JL.gon rfl rfl ?_; exact JL.q (OQ.callx (vs := [F.v, f.v]) goes_rsamef rfl (fun w' hw' => samef_t (oF.holds hw' rfl) (hf.holds hw' rfl) (by omega) hFl)) rfl (JL.nil (kk default nofun)))
           · (intro x EF MF Q kk; exact JL.q (OQ.pick_t rfl rfl) rfl (JL.nil (kk default nofun)))
           · (intro x EF MF Q kk; exact JL.q (OQ.assign rfl) rfl (JL.nil (kk default nofun)))
         · intro x hx
           show JE _ _ _ _ _ [(6, .bool true), (1, Z nm), (2, Z vl), (3, Pt b3 0), (7, Pt b7 0), (13, Pt b13 0), (14, Pt b14 0)] []
           clear hx x vs Ms
           repeat (first | refine JL.q (by first | (apply OQ.move; exact rfl) | (apply OQ.assign; exact rfl) | (apply OQ.len; exact rfl; exact rfl) | (apply OQ.addN; exact rfl; exact rfl; exact (by (try simp only []); omega)) | (apply OQ.subN; exact rfl; exact rfl; exact (by (try simp only []); omega); exact (by (try simp only []); omega)) | (apply OQ.lssN; exact rfl; exact rfl) | (apply OQ.fld; exact rfl; exact rfl; exact rfl; exact (by decide); exact rfl)) rfl ?_ | refine JQ.q (by first | (apply OQ.move; exact rfl) | (apply OQ.assign; exact rfl) | (apply OQ.len; exact rfl; exact rfl) | (apply OQ.addN; exact rfl; exact rfl; exact (by (try simp only []); omega)) | (apply OQ.subN; exact rfl; exact rfl; exact (by (try simp only []); omega); exact (by (try simp only []); omega)) | (apply OQ.lssN; exact rfl; exact rfl) | (apply OQ.fld; exact rfl; exact rfl; exact rfl; exact (by decide); exact rfl)) rfl ?_ | refine JC.seq ?_ | refine JC.region ?_ | refine JC.block ?_ | refine JC.skip ?_ | refine JC.exit ?_ | refine JL.nil ?_ | refine JQ.nil ?_ | refine JQ.nil_tail ?_ | refine JE.next ?_ | refine JE.blk_normal ?_ | refine JE.then_exit ?_ | refine JE.blk_hit ?_ | refine JE.blk_miss rfl ?_ | refine JE.then_ret ?_ | refine JE.blk_ret ?_ | refine JC.label ?_ | refine JL.gon rfl rfl ?_ | refine JQ.gon rfl rfl ?_ | refine JL.gskip rfl rfl rfl rfl ?_ | refine JQ.gskip rfl rfl rfl rfl ?_ | refine JL.gskipU rfl rfl rfl rfl ?_ | refine JQ.gskipU rfl rfl rfl rfl ?_)
           refine JC.ret ?_
           exact JE.ret1 rfl (RV.tmp rfl) fun w' hw => ⟨rfl, hE5.trans hw.chg⟩)
end Go.Proofs.YtikhlddemdlmgaaDoor

/-
  Of no statement by itself: what a plain row's proof opens its arguments with (keys, bytes, slices of bytes and of int).
  Conditions: each theorem's own.
-/
namespace Go.Proofs.YtikhlddemdlmgaaDoor
set_option maxRecDepth 10000
open Go.ChangeShapes Go.WideShapes Go.ChangeAt Go.RowKit
open Sl
set_option linter.unusedVariables false
theorem ownQ : ownKnob Tryd.prog.godebug = none := by kernel_rfl
theorem laidOutQ : laidOutB Tryd.prog = true := by kernel_rfl
theorem u8_of {z : Int} (h : (Lit.int .u8 z).wf = true) : U8 (BitVec.ofInt 8 z) = .int .u8 z := by
  have h0 : 0 ≤ z ∧ z ≤ 255 := by
    have h1 : (decide (0 ≤ z) && decide (z ≤ 255)) = true := h
    simpa using h1
  have h2 : ((BitVec.ofInt 8 z).toNat : Int) = z := by
    rw [BitVec.toNat_ofInt]
    omega
  unfold U8
  rw [h2]
theorem u8_nat {z : Int} (h : (Lit.int .u8 z).wf = true) : ∃ a : BitVec 8, z = (a.toNat : Int) := by
  have h1 := u8_of h
  unfold U8 at h1
  exact ⟨_, (Value.int.inj h1).2.symm⟩
def bits8 (zs : List Int) : List (BitVec 8) := zs.map (BitVec.ofInt 8)
theorem sl8_of {H : Type} {enc : TypeId × Value → H} {W : World} {fuel : Nat} {v : Value} {x : DataW H × List MemPlace} (h : DataW.trod enc Tryd.prog W 0 (fun _ => true) true fuel 23 [v] = some x) : ∃ k : Sl8, v = k.v ∧ k.ok W ∧ k.cap ≤ maxLen := by
  rcases open_ints (show Tryd.prog.underlying 23 = some (.slice 5) by kernel_rfl) (show Tryd.prog.underlying 5 = some (.int .u8) by kernel_rfl) (by kernel_rfl) h with ⟨hcs, _⟩ | ⟨x, l, c, zs, hcs, _, hl, hm, hz, _, hcell, hwz⟩
  · cases hcs
    exact ⟨⟨none, 0, []⟩, rfl, ⟨by simp, Reads.nil _ _⟩, by decide⟩
  · cases hcs
    simp only [if_true] at hz
    have hlen : (bits8 (zs.take l)).length = l := by simp [bits8]; omega
    refine ⟨⟨some x, c, bits8 (zs.take l)⟩, by simp [Sl8.v, hlen], ⟨by rw [hlen]; exact hl, ?_⟩, hm⟩
    intro i v hv
    have hi : i < l := by
      have := (List.getElem?_eq_some_iff.1 hv).1
      simpa [hlen] using this
    have hc := hcell i (by omega)
    obtain ⟨b, o, sp⟩ := x
    cases sp with
    | some s =>
      have hc := hcell 0 (by omega)
      simp only [World.cell?, Addr.add, if_true] at hc
      split at hc <;> simp at hc
    | none =>
      refine ⟨b, o, rfl, ?_⟩
      have e1 : zs.getD i 0 = zs[i]'(by omega) := by simp [List.getD, show i < zs.length by omega]
      have e2 := u8_of (hwz (zs[i]'(by omega)) (List.getElem_mem _))
      have e3 : v = .int .u8 (zs.getD i 0) := by
        simp only [bits8, List.map_map, List.getElem?_map, List.getElem?_take] at hv
        rw [if_pos hi, List.getElem?_eq_getElem (by omega)] at hv
        simp only [Option.map_some, Function.comp, Option.some.injEq] at hv
        rw [← hv, e2, e1]
      rw [e3]
      have e4 : (⟨b, o, none⟩ : Addr).add i = ⟨b, o + i, none⟩ := by
        unfold Addr.add
        split
        · subst i; rfl
        · rfl
      rw [e4] at hc
      exact hc
end Go.Proofs.YtikhlddemdlmgaaDoor

/-
  Of no statement by itself: the witness world of a card that lists tables of Go's library (letter's rows).
  Conditions: none.
-/
namespace Go.Proofs.YtikhlddemdlmgaaDoor
open Go.ChangeShapes Go.WideShapes Go.ChangeAt Go.RowKit
open Sl
set_option linter.unusedVariables false
theorem laid_plain : ((Rows.letterFieldsRow.laid).all fun x => x.2.handleName?.isNone) = true := by kernel_rfl
/-- The witness world meets the condition. -/
theorem wit_met (os : Os) (args : Array Value) : laidMetH Tryd.prog Rows.letterFieldsRow.laid ((World.laidAll Tryd.prog os Rows.letterFieldsRow.laid).forCall (fun _ _ => 0) ⟨#[], args, []⟩).memory := by
  rw [MakeChecks.laidMetH_plain _ _ _ laid_plain]
  exact laidMet_laidAll _ (by kernel_rfl) (by kernel_rfl)
theorem wit_shape (os : Os) : (World.laidAll Tryd.prog os Rows.letterFieldsRow.laid).Shaped Tryd.prog := World.shaped_of_ZipB (by kernel_rfl) (by kernel_rfl)
end Go.Proofs.YtikhlddemdlmgaaDoor

/-
  Of no statement by itself: what a plain row's proof opens pairs of strings and slices of them with.
  Conditions: each theorem's own.
-/
namespace Go.Proofs.YtikhlddemdlmgaaDoor
set_option maxRecDepth 10000
open Go.ChangeShapes Go.WideShapes Go.ChangeAt Go.RowKit
open Sl Fld
set_option linter.unusedVariables false
theorem pair_fields {P : Program} {t str : TypeId} (hf : pairT P t str = true) : ∃ f0 f1, P.fieldsOf t = #[f0, f1] ∧ f0.type = str ∧ f1.type = str ∧ f0.offset = 0 ∧ f1.offset = 1 := by
  unfold pairT at hf
  split at hf
  · next f0 f1 e =>
    simp only [Bool.and_eq_true, beq_iff_eq, bne_iff_ne, ne_eq] at hf
    exact ⟨f0, f1, Array.toList_inj.1 (by simpa using e), hf.1.1.1.1.1, hf.1.1.1.1.2, hf.1.1.1.2, hf.1.1.2⟩
  · cases hf
theorem z_of (s : ByteArray) : ∃ l : List Bt, Value.string s = Z l ∧ l.length = s.size := ⟨bytesOf s, by show _ = Value.string _; rw [strB_bytesOf], bytesOf_length s⟩
theorem short_of {l : List Bt} {s : ByteArray} (h : l.length = s.size) (hm : s.size ≤ maxLen) : l.length < 9223372036854775808 := by
  unfold maxLen at hm
  omega
theorem pr_of {P : Program} {H : Type} {enc : TypeId × Value → H} {W : World} {base fuel : Nat} {t str : TypeId} {v : Value} {x : DataW H × List MemPlace} (ht : P.underlying t = some (.struct (P.fieldsOf t))) (hf : pairT P t str = true) (hs : P.underlying str = some .string) (cs : P.cellsOf str = 1) (ct : P.cellsOf t = 2)
    (hok : Value.okWide P W .any base t v) (h : DataW.trod enc P W 0 (fun _ => true) true fuel t v.cells.toList = some x) : ∃ n u : List Bt, v = .agg (pc (n, u)).toArray ∧ n.length < 9223372036854775808 ∧ u.length < 9223372036854775808 := by
  obtain ⟨f0, f1, e, rfl, e1, o0, o1⟩ := pair_fields hf
  rw [e] at ht
  simp only [Value.okWide, ht] at hok
  obtain ⟨c, rfl, hsz, _⟩ := hok
  rw [ct] at hsz
  obtain ⟨y0, y1, n, _, _, g0, g1⟩ := trod_struct2 ht h
  rw [o0, cs] at g0
  rw [o1, e1, cs] at g1
  obtain ⟨s0, q0, _, m0⟩ := DataW.trod_string hs g0
  obtain ⟨s1, q1, _, m1⟩ := DataW.trod_string hs g1
  obtain ⟨l0, z0, k0⟩ := z_of s0
  obtain ⟨l1, z1, k1⟩ := z_of s1
  refine ⟨l0, l1, ?_, short_of k0 m0, short_of k1 m1⟩
  obtain ⟨l⟩ := c
  rw [show (Value.agg ⟨l⟩).cells.toList = l from rfl] at q0 q1
  match l, hsz with
  | [a, b], _ =>
    simp at q0 q1
    rw [q0, q1, z0, z1]
    rfl
theorem sl2_of {P : Program} {H : Type} {enc : TypeId × Value → H} {W : World} {fuel : Nat} {t e str : TypeId} {v : Value} {x : DataW H × List MemPlace} (ht : P.underlying t = some (.slice e)) (he : P.underlying e = some (.struct (P.fieldsOf e))) (hf : pairT P e str = true) (hs : P.underlying str = some .string) (cs : P.cellsOf str = 1) (ce : P.cellsOf e = 2)
    (h : DataW.trod enc P W 0 (fun _ => true) true fuel t [v] = some x) : ∃ k : Sl2, v = k.v ∧ k.ok W ∧ small2 k ∧ k.cap ≤ maxLen := by
  obtain ⟨f0, f1, ef, rfl, e1, o0, o1⟩ := pair_fields hf
  rw [ef] at he
  rcases Go.Deep.open_slice_pairs ht he ce o0 o1 cs (by rw [e1]; exact cs) h with ⟨hcs, _⟩ | ⟨a, len, cap, m, n, V0, V1, D0, D1, P0, P1, hcs, _, hl, hm, hmm, _, hx⟩
  · cases hcs
    exact ⟨nil2, rfl, nil2_ok W, (fun p hp => by cases hp), by decide⟩
  · cases hcs
    simp only [if_true] at hmm
    subst hmm
    have each : ∀ i, ∃ p : Pr, i < m → W.cell? (a.add (i * 2)) = some (Z p.1) ∧ W.cell? (a.add (i * 2 + 1)) = some (Z p.2) ∧ p.1.length < 9223372036854775808 ∧ p.2.length < 9223372036854775808 := by
      intro i
      by_cases hi : i < m
      · obtain ⟨c0, c1, t0, t1⟩ := hx i hi
        rw [e1] at t1
        obtain ⟨s0, q0, _, m0⟩ := DataW.trod_string hs t0
        obtain ⟨s1, q1, _, m1⟩ := DataW.trod_string hs t1
        obtain ⟨l0, z0, k0⟩ := z_of s0
        obtain ⟨l1, z1, k1⟩ := z_of s1
        have r0 : V0 i = .string s0 := by simpa using q0
        have r1 : V1 i = .string s1 := by simpa using q1
        exact ⟨(l0, l1), fun _ => ⟨by rw [c0, r0, z0], by rw [c1, r1, z1], short_of k0 m0, short_of k1 m1⟩⟩
      · exact ⟨([], []), fun h => absurd h hi⟩
    let f : Nat → Pr := fun i => Classical.choose (each i)
    have fs : ∀ i, i < m → W.cell? (a.add (i * 2)) = some (Z (f i).1) ∧ W.cell? (a.add (i * 2 + 1)) = some (Z (f i).2) ∧ (f i).1.length < 9223372036854775808 ∧ (f i).2.length < 9223372036854775808 := fun i => Classical.choose_spec (each i)
    have hlen : ((List.range len).map f).length = len := by simp
    refine ⟨⟨some a, m, (List.range len).map f⟩, by simp [Sl2.v], ⟨by rw [hlen]; exact hl, ?_⟩, ?_, hm⟩
    · intro j v hv
      have hj : j < 2 * len := by
        have h0 := (List.getElem?_eq_some_iff.1 hv).1
        rw [show Sl2.cells ⟨some a, m, (List.range len).map f⟩ = ((List.range len).map f).flatMap pc from rfl, pc_len, hlen] at h0
        exact h0
      obtain ⟨b, o, sp⟩ := a
      have hi : j / 2 < len := by omega
      obtain ⟨c0, c1, _, _⟩ := fs (j / 2) (by omega)
      obtain ⟨p0, p1⟩ := pc_at ((List.range len).map f) (i := j / 2) (by rw [hlen]; exact hi)
      rw [show ((List.range len).map f).getD (j / 2) ([], []) = f (j / 2) by simp [List.getD, hi]] at p0 p1
      cases sp with
      | some s =>
        have c := (fs 0 (by omega)).1
        simp only [World.cell?, Addr.add, Nat.zero_mul, if_true] at c
        split at c <;> simp at c
      | none =>
        refine ⟨b, o, rfl, ?_⟩
        have ea : ∀ k, (⟨b, o, none⟩ : Addr).add k = ⟨b, o + k, none⟩ := fun k => by
          unfold Addr.add
          split
          · subst k; rfl
          · rfl
        rw [ea] at c0 c1
        have h2 : j = 2 * (j / 2) ∨ j = 2 * (j / 2) + 1 := by omega
        rcases h2 with h2 | h2
        · rw [show (Sl2.cells ⟨some ⟨b, o, none⟩, m, (List.range len).map f⟩)[j]? = (((List.range len).map f).flatMap pc)[2 * (j / 2)]? by rw [← h2]; rfl, p0] at hv
          cases hv
          rw [show o + j = o + j / 2 * 2 by omega]
          exact c0
        · rw [show (Sl2.cells ⟨some ⟨b, o, none⟩, m, (List.range len).map f⟩)[j]? = (((List.range len).map f).flatMap pc)[2 * (j / 2) + 1]? by rw [← h2]; rfl, p1] at hv
          cases hv
          rw [show o + j = o + (j / 2 * 2 + 1) by omega]
          exact c1
    · intro p hp
      obtain ⟨i, hi, rfl⟩ := List.mem_map.1 hp
      have := List.mem_range.1 hi
      exact (fs i (by omega)).2.2
end Go.Proofs.YtikhlddemdlmgaaDoor

/-
  Of no statement by itself: what a row's proof opens a mail (a structure of a slice of pairs of strings and a slice of bytes) with.
  Conditions: each theorem's own.
-/
namespace Go.Proofs.YtikhlddemdlmgaaDoor
set_option maxRecDepth 10000
open Go.ChangeShapes Go.WideShapes Go.ChangeAt Go.RowKit
open Sl Fld
set_option linter.unusedVariables false
def duoT (P : Program) (t a b : TypeId) : Bool := match (P.fieldsOf t).toList with
  | [f0, f1] => f0.type == a && f1.type == b && f0.offset == 0 && f1.offset == 1
  | _ => false
theorem duo_fields {P : Program} {t a b : TypeId} (hf : duoT P t a b = true) : ∃ f0 f1, P.fieldsOf t = #[f0, f1] ∧ f0.type = a ∧ f1.type = b ∧ f0.offset = 0 ∧ f1.offset = 1 := by
  unfold duoT at hf
  split at hf
  · next f0 f1 e =>
    simp only [Bool.and_eq_true, beq_iff_eq] at hf
    exact ⟨f0, f1, Array.toList_inj.1 (by simpa using e), hf.1.1.1, hf.1.1.2, hf.1.2, hf.2⟩
  · cases hf
theorem letter_of {H : Type} {enc : TypeId × Value → H} {W : World} {base fuel : Nat} {v : Value} {x : DataW H × List MemPlace} (hok : Value.okWide Tryd.prog W .any base 25 v) (h : DataW.trod enc Tryd.prog W 0 (fun _ => true) true fuel 25 v.cells.toList = some x) :
    ∃ (f : Sl2) (s : Sl8), v = .agg #[f.v, s.v] ∧ f.ok W ∧ s.ok W ∧ small2 f := by
  obtain ⟨f0, f1, e, e0, e1, o0, o1⟩ := duo_fields (P := Tryd.prog) (t := 25) (a := 22) (b := 23) (by kernel_rfl)
  have ht : Tryd.prog.underlying 25 = some (.struct (Tryd.prog.fieldsOf 25)) := by kernel_rfl
  rw [e] at ht
  have ct : Tryd.prog.cellsOf 25 = 2 := by kernel_rfl
  have c0 : Tryd.prog.cellsOf 22 = 1 := by kernel_rfl
  have c1 : Tryd.prog.cellsOf 23 = 1 := by kernel_rfl
  simp only [Value.okWide, ht] at hok
  obtain ⟨c, rfl, hsz, _⟩ := hok
  rw [ct] at hsz
  obtain ⟨y0, y1, n, _, _, g0, g1⟩ := trod_struct2 ht h
  rw [o0, e0, c0] at g0
  rw [o1, e1, c1] at g1
  obtain ⟨l⟩ := c
  rw [show (Value.agg ⟨l⟩).cells.toList = l from rfl] at g0 g1
  match l, hsz with
  | [a, b], _ =>
    obtain ⟨k, rfl, k1, k2, _⟩ := sl2_of (str := 9) (show Tryd.prog.underlying 22 = some (.slice 46) by kernel_rfl) (by kernel_rfl) (by kernel_rfl) (by kernel_rfl) (by kernel_rfl) (by kernel_rfl) g0
    obtain ⟨s, rfl, s1, _⟩ := sl8_of g1
    exact ⟨k, s, rfl, k1, s1, k2⟩
end Go.Proofs.YtikhlddemdlmgaaDoor
