/-
  Of no statement by itself: the texts MimJ, MimD, Slja, MimE, MimO, Plain, FraX, MimR, FieP, LetP in one.
  Conditions: each theorem's own.
-/
import Derived.Test.YtbbmhkdfdgnkpaaGreatDoorDe
import Derived.Test.YtbbmhkdfdgnkpaaGreatDoorProg
import Derived.Test.YtbbmhkdfdgnkpaaGreatDoorRows
import Derived.ProofKit
import Derived.OpenShut
import Derived.Below
import Derived.Stop.Joined
import Derived.ChangeMaps5
import Derived.Test.YtbbmhkdfdgnkpaaGreatDoorTie
import Derived.SevenTiedAt
import Derived.LaidMore
import Derived.Lay
import Derived.Deep.Slices
import Derived.Deep.SlicePairs
set_option linter.unusedSimpArgs false
set_option linter.unusedVariables false
/-
  Of no statement by itself: what MimeJoins gives, over MimeOk.
  Conditions: MimeOk, and each theorem's own (no row of more than 2,000,000 bytes).
-/
namespace Go.Proofs.YtbbmhkdfdgnkpaaGreatDoor
set_option maxRecDepth 10000
open Sl Fld Mim
theorem JC.base {P : Program} {n : Nat} {w0 u : World} {S S' : List Nat} {Q : Exit → Act → World → Prop} {c : Code} {E : Env} {M M' : List Ent} (hM : ∀ w1, Holds u S M w1 → Holds w0 S' M' w1) (h : JC P n w0 S' Q c E M') : JC P n u S Q c E M := ⟨fun a w1 ha hw => h.go a w1 ha (hM w1 hw)⟩
theorem Holds.back {w0 u w1 : World} {e : Ent} {M : List Ent} (hx : Ext w0 u) (h : Holds u [] (⟨e.b, e.A, false⟩ :: M) w1) (hb : w0.heap.size ≤ e.b) : Holds w0 [] [e] w1 :=
  ⟨hx.trans h.chg, by simp, fun x hx' => by
    rw [List.mem_singleton.1 hx']
    exact ⟨(h.all _ (.head _)).1, fun _ => .inr hb⟩⟩
theorem JC.factB {P : Program} {n : Nat} {w0 : World} {S : List Nat} {Q : Exit → Act → World → Prop} {c : Code} {E : Env} {M : List Ent} {F : Prop} (hF : ∀ w, Holds w0 S M w → F) (k : F → JC P n w0 S Q c E M) : JC P n w0 S Q c E M :=
  ⟨fun a w ha hw => (k (hF w hw)).go a w ha hw⟩
theorem linR_nil : ∀ b x : List Fld.By, linR b x = [] → b = [] ∧ x = []
  | [], x, h => by
    unfold linR at h
    by_cases e : x = []
    · exact ⟨rfl, e⟩
    · rw [if_neg e] at h; cases h
  | c :: b, x, h => by
    unfold linR at h
    split at h
    · cases h
    · have := (linR_nil b (x ++ [c]) h).2
      simp at this
theorem linB_nil {b : List Fld.By} (h : linB b = []) : b = [] := (linR_nil b [] h).1
theorem take_two {l : List Bt} (h : 1 < l.length) : l.take 2 = [l.getD 0 0, l.getD 1 0] := by
  cases l with
  | nil => cases h
  | cons a l => cases l with
    | nil => simp at h
    | cons b l => rfl
def pieceB (bd p : List Fld.By) : List Fld.By := 45 :: 45 :: bd ++ ([13, 10] ++ (p ++ [13, 10]))
theorem jn_is (bd : List Fld.By) (ps : List (List Fld.By)) (beh : List Fld.By) : jn bd ps beh = ps.flatMap (pieceB bd) ++ (([45, 45] ++ bd ++ [45, 45, 13, 10]) ++ beh) := by
  unfold jn
  have e : (45 :: 45 :: (bd ++ [45, 45]) ++ ([13, 10] ++ beh)) = ([45, 45] ++ bd ++ [45, 45, 13, 10]) ++ beh := by simp
  rw [e]
  rfl
theorem drop_ls (P : SlL) {i : Nat} (hi : i < P.rs.length) : P.ls.drop i = (P.rs.getD i nilS).l :: P.ls.drop (i + 1) := by
  show (P.rs.map Sl8.l).drop i = _ :: (P.rs.map Sl8.l).drop (i + 1)
  rw [← List.map_drop, drop_at nilS hi, List.map_cons, List.map_drop]
def fine (x : Sl8) : Prop := (∀ q ∈ linB x.l, nd q.1) ∧ x.l.length ≤ 500
structure JnT where
  i : Nat
  w : World
set_option maxHeartbeats 64000000 in
theorem law_mimeJoins {Qd : List Fld.By → Except Nat (List Fld.By)} (hM : MimeOk Qd) (P : SlL) (A B : Sl8) (bd : List Bt) (w : World) (okP : P.ok w) (okA : A.ok w) (okB : B.ok w) (hbl : bd.length < 9223372036854775808) (hPl : ∀ x ∈ P.rs, x.l.length ≤ 2000000) (hE : EncOk w) : Calls Tryz.prog 5 [P.v, A.v, B.v, Z bd].toArray w fun e w' => e = .returned (.bool true) ∧ Ext w w' := by
  refine enter (n := 166) Tryz.func5 rfl rfl rfl (Holds.start w []) ?_
  have cs := fun (M : List Ent) (w' : World) (hw' : Holds w [] M w') => speaks12_any hM w' (hE.holds hw')
  repeat (first | refine JL.q (by first | (apply OQ.callx (vs := []); exact goes_speaks12; exact rfl; exact (cs _)) | (apply OQ.not; exact rfl) | (apply OQ.assign; exact rfl)) rfl ?_ | refine JC.seq ?_ | refine JC.region ?_ | refine JL.nil ?_ | refine JE.next ?_)
  refine JC.cond rfl (fun h => by cases h) (fun _ => ?_)
  have cb := fun w' => rbound_any bd w' hbl
  cases g0 : decide ((P.rs.length : Int) = 0) <;> cases g1 : decide ((20 : Int) < (P.rs.length : Int)) <;> cases g2 : decide ((500 : Int) < (A.l.length : Int)) <;> cases g3 : decide ((500 : Int) < (B.l.length : Int)) <;> cases g4 : boundB bd
  all_goals (repeat (first | refine JL.q (by first | (apply OQ.len; exact Tryz.underlying24; exact rfl) | (apply OQ.len; exact Tryz.underlying22; exact rfl) | (apply OQ.eqB (b := 0); exact rfl; exact rfl; exact g0) | (apply OQ.gtrB (b := 20); exact rfl; exact rfl; exact g1) | (apply OQ.gtrB (a := (A.l.length : Int)) (b := 500); exact rfl; exact rfl; exact g2) | (apply OQ.gtrB (a := (B.l.length : Int)) (b := 500); exact rfl; exact rfl; exact g3) | (apply OQ.callb (vs := [Z bd]); exact goes_rbound; exact rfl; exact cb; exact g4) | (apply OQ.not; exact rfl) | (apply OQ.pick_t; exact rfl; exact rfl) | (apply OQ.pick_f; exact rfl; exact rfl) | (apply OQ.move; exact rfl)) rfl ?_ | refine JC.seq ?_ | refine JC.region ?_ | refine JC.skip ?_ | refine JL.nil ?_ | refine JE.next ?_ | refine JL.gon rfl rfl ?_ | refine JL.gskip rfl rfl rfl rfl ?_))
  all_goals refine JC.cond rfl (fun h => ?_) (fun h => ?_)
  all_goals first | (exfalso; revert h; decide) | skip
  all_goals clear h
  all_goals first
    | ((repeat (first | refine JL.q (by (apply OQ.assign; exact rfl)) rfl ?_ | refine JC.seq ?_ | refine JC.region ?_ | refine JC.skip ?_ | refine JL.nil ?_ | refine JE.next ?_))
       refine JC.ret ?_
       (repeat (refine JE.then_ret ?_))
       exact JE.ret1 rfl (RV.tmp rfl) fun w' hw => ⟨rfl, hw.chg⟩)
    | skip
  have n0 : P.rs ≠ [] := fun e => of_decide_eq_false g0 (by rw [e]; rfl)
  have n1 : P.rs.length ≤ 20 := by have := of_decide_eq_false g1; omega
  have n2 : A.l.length ≤ 500 := by have := of_decide_eq_false g2; omega
  have n3 : B.l.length ≤ 500 := by have := of_decide_eq_false g3; omega
  have n4 : bd.length ≤ 70 := by
    unfold boundB at g4
    simp only [Bool.and_eq_true, decide_eq_true_eq] at g4
    exact g4.2.2
  clear g0 g1 g2 g3 cs cb
  repeat (first | refine JC.seq ?_ | refine JC.region ?_ | refine JC.skip ?_ | refine JE.next ?_)
  refine JL.lit0O Tryz.underlying22 u8e rfl fun b0 _ => ?_
  repeat (refine JL.q (by (apply OQ.move; exact rfl)) rfl ?_)
  refine JL.append (cs := A.l.map U8) (m := A.l.length) (ad := A.ad) (sc := A.cap) (xs := []) (k := 0) (fun b' cap' => [⟨b', Sl.Own 5 1 (0 + A.l.length) cap' ([] ++ A.l.map U8), true⟩]) Tryz.underlying22 u8e rfl rfl (by intro _ _; repeat (first | exact Repl.here | apply Repl.there)) (by simp) (fun w' hw' => (okA.holds hw' rfl).reads) (all8U _) rfl (by decide) (by omega) (by omega) rfl fun b9 c9 => ?_
  rw [Nat.zero_add, List.nil_append]
  repeat (first | refine JL.q (by first | (apply OQ.move; exact rfl) | (apply OQ.assign; exact rfl)) rfl ?_ | refine JC.seq ?_ | refine JC.region ?_ | refine JL.nil ?_ | refine JE.next ?_)
  refine JL.lit1 (v := A.v) Tryz.underlying24 sleM rfl rfl rfl rfl fun bl _ => ?_
  refine JL.lessM (M' := [⟨bl, Sl.Own 22 1 1 1 [A.v], true⟩, ⟨b9, Sl.Own 5 1 A.l.length c9 (A.l.map U8), true⟩]) ?_ (.keep _ _ _ _ _ _ (row_ownG rfl) (Less.refl _))
  repeat (refine JL.q (by (apply OQ.move; exact rfl)) rfl ?_)
  refine JL.append (cs := P.rs.map Sl8.v) (m := P.rs.length) (ad := P.ad) (sc := P.cap) (xs := [A.v]) (k := 1) (fun b' cap' => [⟨b', Sl.Own 22 1 (1 + P.rs.length) cap' ([A.v] ++ P.rs.map Sl8.v), true⟩, ⟨b9, Sl.Own 5 1 A.l.length c9 (A.l.map U8), true⟩]) Tryz.underlying24 sleM rfl rfl (by intro _ _; repeat (first | exact Repl.here | apply Repl.there)) (by simp) (fun w' hw' => (okP.holds hw' rfl).reads) (fun v hv => by obtain ⟨x, _, rfl⟩ := List.mem_map.1 hv; rfl) rfl (by decide) (by omega) (by omega) rfl fun bX cX => ?_
  repeat (first | refine JL.q (by first | (apply OQ.len; exact Tryz.underlying24; exact rfl) | (apply OQ.move; exact rfl)) rfl ?_ | refine JC.block ?_ | refine JL.nil ?_ | refine JE.next ?_)
  have hlX : 1 + P.rs.length = (A :: P.rs).length := by rw [List.length_cons]; omega
  rw [hlX]
  have hrow : ∀ x ∈ A :: P.rs, x.ok w ∧ x.l.length ≤ 2000000 := fun x hx => by
    rcases List.mem_cons.1 hx with rfl | hx
    · exact ⟨okA, by omega⟩
    · exact ⟨okP.all x hx, hPl x hx⟩
  refine JC.factB (F := w.heap.size ≤ b9) (fun w' hw' => ((hw'.all _ (.tail _ (.head _))).2 rfl).elim nofun id) fun hb9 => ?_
  refine JC.loopb (ι := JnT) (fun q => q.w) (fun q => [(0, P.v), (2, B.v), (3, Z bd), (9, .slice (some ⟨b9, 0, none⟩) A.l.length c9), (52, .slice (some ⟨bX, 0, none⟩) (A :: P.rs).length cX), (53, N (A :: P.rs).length), (54, N q.i)]) (fun _ => [⟨b9, Sl.Own 5 1 A.l.length c9 (A.l.map U8), false⟩, ⟨bX, Sl.Own 22 1 (A :: P.rs).length cX ((A :: P.rs).map Sl8.v), false⟩]) (fun q => (A :: P.rs).length - q.i) (fun q => q.i ≤ (A :: P.rs).length ∧ Ext w q.w ∧ ∀ k, k < q.i → fine ((A :: P.rs).getD k nilS)) ⟨0, w⟩ ⟨Nat.zero_le _, Chg.refl _ _, nofun⟩ (by repeat (first | exact SubE.nil | refine SubE.cons _ _ _ rfl ?_)) (fun w' hw' => ?_) ?_
  · refine ⟨hw'.chg, ?_, ?_⟩
    · have := hw'.nodup
      simp only [List.map_cons, List.map_nil, List.nodup_cons, List.mem_singleton, List.not_mem_nil, not_false_eq_true, List.nodup_nil, and_true] at this ⊢
      exact fun e => this e.symm
    · intro e he
      simp only [List.mem_cons, List.not_mem_nil, or_false] at he
      rcases he with rfl | rfl
      · exact ⟨(hw'.all _ (.tail _ (.head _))).1, nofun⟩
      · exact ⟨(hw'.all _ (.head _)).1, nofun⟩
  rintro ⟨i, u⟩ ⟨hi, eU, hfi⟩
  dsimp only at hi eU hfi ⊢
  repeat (first | refine JL.q (by (apply OQ.lssN; exact rfl; exact rfl)) rfl ?_ | refine JC.seq ?_ | refine JC.region ?_ | refine JL.nil ?_ | refine JE.next ?_)
  refine JC.cond rfl (fun h => ?_) (fun h => ?_)
  · have hi' : i < (A :: P.rs).length := of_decide_eq_true h
    clear h hi
    have hcell : ((A :: P.rs).map Sl8.v)[i]? = some ((A :: P.rs).getD i nilS).v := map_at Sl8.v nilS hi'
    obtain ⟨okx, hxl⟩ := hrow _ (by rw [List.getD_eq_getElem?_getD, List.getElem?_eq_getElem hi']; exact List.getElem_mem hi' : (A :: P.rs).getD i nilS ∈ A :: P.rs)
    have hfx : fine ((A :: P.rs).getD i nilS) → ∀ k, k < i + 1 → fine ((A :: P.rs).getD k nilS) := fun h k hk => by
      by_cases e : k = i
      · subst e; exact h
      · exact hfi k (by omega)
    generalize (A :: P.rs).getD i nilS = x at hcell okx hxl hfx
    repeat (first | refine JL.q (by first | (apply OQ.idxS0; exact Tryz.underlying24; exact sleS; exact rfl; exact rfl; exact hi') | (apply OQ.load; exact bsC12; exact rfl; exact (.there .here); exact (Sl.Own.cell hcell)) | (apply OQ.move; exact rfl) | (apply OQ.assign; exact rfl)) rfl ?_ | refine JC.seq ?_ | refine JC.region ?_ | refine JC.block ?_ | refine JC.skip ?_ | refine JL.nil ?_ | refine JE.next ?_)
    refine JL.callw (vs := [x.v]) (S' := []) (ι := { q : SlL × SlL // q.1.ls = (linB x.l).map (·.1) ∧ q.2.ls = (linB x.l).map (·.2) }) (fun q => .tuple #[q.1.1.v, q.1.2.v]) (fun q w2 => q.1.1.ok w2 ∧ q.1.2.ok w2) [⟨b9, Sl.Own 5 1 A.l.length c9 (A.l.map U8), false⟩, ⟨bX, Sl.Own 22 1 (A :: P.rs).length cX ((A :: P.rs).map Sl8.v), false⟩] goes_rlines rfl rfl (fun w' hw' => rlines_any x w' (okx.ext (eU.trans hw'.chg)) (by omega)) (Less.refl _) (by intro e he hr; simp only [List.mem_cons, List.not_mem_nil, or_false] at he; rcases he with rfl | rfl <;> cases hr) ?_
    rintro ⟨⟨L, T⟩, hL, hT⟩ u2 hu2 ⟨okL, -⟩
    dsimp only at hL okL ⊢
    have eU2 : Ext w u2 := eU.trans hu2.chg
    clear hT hu2 eU
    have okx2 := okx.ext eU2
    clear okx
    have nL : L.rs.length = (linB x.l).length := by rw [← List.length_map (f := Sl8.l)]; show L.ls.length = _; rw [hL, List.length_map]
    have hnL : L.rs.length ≤ 2000001 := by
      have := (linR_sum x.l []).2
      have e : linB x.l = linR x.l [] := rfl
      rw [nL, e]; omega
    have hnil : x.l.length = 0 → L.rs.length = 0 := fun h => by
      have e : x.l = [] := List.eq_nil_of_length_eq_zero h
      rw [nL, e]; rfl
    have hLn : L.rs.length = 0 → x.l.length ≤ 500 := fun h => by
      have e := linB_nil (List.eq_nil_of_length_eq_zero (nL.symm.trans h))
      rw [e]; exact Nat.zero_le _
    repeat (first | refine JL.q (by first | (apply OQ.extract; exact rfl; exact rfl) | (apply OQ.len; exact Tryz.underlying24; exact rfl) | (apply OQ.move; exact rfl) | (apply OQ.assign; exact rfl)) rfl ?_ | refine JC.seq ?_ | refine JC.region ?_ | refine JC.block ?_ | refine JL.nil ?_ | refine JE.next ?_)
    refine JC.loop (fun k : Nat => [(0, P.v), (2, B.v), (3, Z bd), (9, .slice (some ⟨b9, 0, none⟩) A.l.length c9), (52, .slice (some ⟨bX, 0, none⟩) (A :: P.rs).length cX), (53, N (A :: P.rs).length), (54, N i), (10, N i), (11, x.v), (64, L.v), (65, N L.rs.length), (66, N k)]) (fun _ => [⟨b9, Sl.Own 5 1 A.l.length c9 (A.l.map U8), false⟩, ⟨bX, Sl.Own 22 1 (A :: P.rs).length cX ((A :: P.rs).map Sl8.v), false⟩]) (fun k => L.rs.length - k) (fun k => k ≤ L.rs.length ∧ (0 < k → x.l.length ≤ 500) ∧ ∀ j, j < k → nd ((linB x.l).getD j ([], [])).1) 0 ⟨Nat.zero_le _, nofun, nofun⟩ (by repeat (first | exact SubE.nil | refine SubE.cons _ _ _ rfl ?_)) (Less.refl _) ?_
    rintro k ⟨hk, hk5, hkn⟩
    repeat (first | refine JL.q (by (apply OQ.lssN; exact rfl; exact rfl)) rfl ?_ | refine JC.seq ?_ | refine JC.region ?_ | refine JL.nil ?_ | refine JE.next ?_)
    refine JC.cond rfl (fun h => ?_) (fun h => ?_)
    · have hk' : k < L.rs.length := of_decide_eq_true h
      clear h hk
      obtain ⟨hr, hxe⟩ := ls_at (d := ([], [])) hL (show k < (linB x.l).length by omega)
      obtain ⟨bL, jL, eL, lL, cL, hy⟩ := okL.at hk'
      have vL : L.v = .slice (some ⟨bL, jL, none⟩) L.rs.length L.cap := by rw [← eL]; rfl
      have hstep : nd (L.rs.getD k nilS).l → ∀ j, j < k + 1 → nd ((linB x.l).getD j ([], [])).1 := fun h j hj => by
        by_cases e : j = k
        · subst e; rw [← hxe]; exact h
        · exact hkn j (by omega)
      clear hxe
      generalize L.rs.getD k nilS = y at cL hy hstep
      rw [vL]
      cases g0 : decide ((500 : Int) < (x.l.length : Int))
      · have g0' := of_decide_eq_false g0
        cases g1 : decide ((1 : Int) < (y.l.length : Int))
        · have g1' := of_decide_eq_false g1
          have hnd : nd y.l := fun e => by
            have := congrArg List.length e
            rw [List.length_take] at this
            simp only [List.length_cons, List.length_nil] at this
            omega
          repeat (first | refine JL.q (by first | (apply OQ.idxS1; exact Tryz.underlying24; exact sleS; exact rfl; exact rfl; exact hk') | (apply OQ.load_old; exact bsC12; exact rfl; exact lL; exact (by simp); exact cL) | (apply OQ.len; exact Tryz.underlying22; exact rfl) | (apply OQ.gtrB (a := (x.l.length : Int)) (b := 500); exact rfl; exact rfl; exact g0) | (apply OQ.gtrB (a := (y.l.length : Int)) (b := 1); exact rfl; exact rfl; exact g1) | (apply OQ.pick_f; exact rfl; exact rfl) | (apply OQ.move; exact rfl) | (apply OQ.assign; exact rfl)) rfl ?_ | refine JC.seq ?_ | refine JC.region ?_ | refine JC.block ?_ | refine JC.skip ?_ | refine JL.nil ?_ | refine JE.next ?_ | refine JL.gon rfl rfl ?_ | refine JL.gskip rfl rfl rfl rfl ?_)
          refine JC.cond rfl (fun h => by cases h) (fun _ => ?_)
          repeat (first | refine JL.q (by first | (apply OQ.move; exact rfl) | (apply OQ.addN; exact rfl; exact rfl; exact (by (try simp only []); omega))) rfl ?_ | refine JC.region ?_ | refine JC.skip ?_ | refine JL.nil ?_ | refine JE.next ?_ | refine JE.blk_normal ?_)
          rw [← vL]
          exact JE.again (i := k) (k + 1) ⟨hk', fun _ => by omega, hstep hnd⟩ (by omega) (by repeat (first | exact SubE.nil | refine SubE.cons _ _ _ rfl ?_)) (Less.refl _)
        · have g1' := of_decide_eq_true g1
          have hy0 : 0 < y.l.length := by omega
          have hy1 : 1 < y.l.length := by omega
          obtain ⟨by', jy, hae, hca⟩ := hy.reads.at (by simp; omega)
          have k0 := hca 0 _ (map_at U8 0 hy0)
          have k1 := hca 1 _ (map_at U8 0 hy1)
          have hyv : y.v = .slice (some ⟨by', jy, none⟩) y.l.length y.cap := by rw [← hae]; rfl
          have htk : y.l.take 2 = [y.l.getD 0 0, y.l.getD 1 0] := take_two hy1
          rw [hyv] at cL
          cases h0 : decide (y.l.getD 0 0 = 45)
          · have hnd : nd y.l := fun e => by
              rw [htk] at e
              exact of_decide_eq_false h0 (List.cons.inj e).1
            generalize y.l.getD 0 0 = z0 at k0 h0
            generalize y.l.getD 1 0 = z1 at k1
            have h1 : decide (z1 = z1) = true := decide_eq_true rfl
            repeat (first | refine JL.q (by first | (apply OQ.idxS1; exact Tryz.underlying24; exact sleS; exact rfl; exact rfl; exact hk') | (apply OQ.load_old; exact bsC12; exact rfl; exact lL; exact (by simp); exact cL) | (apply OQ.len; exact Tryz.underlying22; exact rfl) | (apply OQ.gtrB (a := (x.l.length : Int)) (b := 500); exact rfl; exact rfl; exact g0) | (apply OQ.gtrB (a := (y.l.length : Int)) (b := 1); exact rfl; exact rfl; exact g1) | (apply OQ.idxS1; exact Tryz.underlying22; exact u8s; exact rfl; exact rfl; exact hy0) | (apply OQ.load_old; exact u8c; exact rfl; exact (block_lt_of_cell k0); exact (by simp); exact k0) | (apply OQ.eq8M (a := z0) (b := 45); exact rfl; exact rfl; exact h0) | (apply OQ.pick_t; exact rfl; exact rfl) | (apply OQ.pick_f; exact rfl; exact rfl) | (apply OQ.move; exact rfl) | (apply OQ.assign; exact rfl)) rfl ?_ | refine JC.seq ?_ | refine JC.region ?_ | refine JC.block ?_ | refine JC.skip ?_ | refine JL.nil ?_ | refine JE.next ?_ | refine JL.gon rfl rfl ?_ | refine JL.gskip rfl rfl rfl rfl ?_)
            refine JC.cond rfl (fun h => by cases h) (fun _ => ?_)
            repeat (first | refine JL.q (by first | (apply OQ.move; exact rfl) | (apply OQ.addN; exact rfl; exact rfl; exact (by (try simp only []); omega))) rfl ?_ | refine JC.region ?_ | refine JC.skip ?_ | refine JL.nil ?_ | refine JE.next ?_ | refine JE.blk_normal ?_)
            rw [← vL]
            exact JE.again (i := k) (k + 1) ⟨hk', fun _ => by omega, hstep hnd⟩ (by omega) (by repeat (first | exact SubE.nil | refine SubE.cons _ _ _ rfl ?_)) (Less.refl _)
          · cases h1 : decide (y.l.getD 1 0 = 45)
            · have hnd : nd y.l := fun e => by
                rw [htk] at e
                exact of_decide_eq_false h1 (List.cons.inj (List.cons.inj e).2).1
              generalize y.l.getD 0 0 = z0 at k0 h0
              generalize y.l.getD 1 0 = z1 at k1 h1
              repeat (first | refine JL.q (by first | (apply OQ.idxS1; exact Tryz.underlying24; exact sleS; exact rfl; exact rfl; exact hk') | (apply OQ.load_old; exact bsC12; exact rfl; exact lL; exact (by simp); exact cL) | (apply OQ.len; exact Tryz.underlying22; exact rfl) | (apply OQ.gtrB (a := (x.l.length : Int)) (b := 500); exact rfl; exact rfl; exact g0) | (apply OQ.gtrB (a := (y.l.length : Int)) (b := 1); exact rfl; exact rfl; exact g1) | (apply OQ.idxS1; exact Tryz.underlying22; exact u8s; exact rfl; exact rfl; exact hy0) | (apply OQ.idxS1; exact Tryz.underlying22; exact u8s; exact rfl; exact rfl; exact hy1) | (apply OQ.load_old; exact u8c; exact rfl; exact (block_lt_of_cell k0); exact (by simp); exact k0) | (apply OQ.load_old; exact u8c; exact rfl; exact (block_lt_of_cell k1); exact (by simp); exact k1) | (apply OQ.eq8M (a := z0) (b := 45); exact rfl; exact rfl; exact h0) | (apply OQ.eq8M (a := z1) (b := 45); exact rfl; exact rfl; exact h1) | (apply OQ.pick_t; exact rfl; exact rfl) | (apply OQ.pick_f; exact rfl; exact rfl) | (apply OQ.move; exact rfl) | (apply OQ.assign; exact rfl)) rfl ?_ | refine JC.seq ?_ | refine JC.region ?_ | refine JC.block ?_ | refine JC.skip ?_ | refine JL.nil ?_ | refine JE.next ?_ | refine JL.gon rfl rfl ?_)
              refine JC.cond rfl (fun h => by cases h) (fun _ => ?_)
              repeat (first | refine JL.q (by first | (apply OQ.move; exact rfl) | (apply OQ.addN; exact rfl; exact rfl; exact (by (try simp only []); omega))) rfl ?_ | refine JC.region ?_ | refine JC.skip ?_ | refine JL.nil ?_ | refine JE.next ?_ | refine JE.blk_normal ?_)
              rw [← vL]
              exact JE.again (i := k) (k + 1) ⟨hk', fun _ => by omega, hstep hnd⟩ (by omega) (by repeat (first | exact SubE.nil | refine SubE.cons _ _ _ rfl ?_)) (Less.refl _)
            · generalize y.l.getD 0 0 = z0 at k0 h0
              generalize y.l.getD 1 0 = z1 at k1 h1
              repeat (first | refine JL.q (by first | (apply OQ.idxS1; exact Tryz.underlying24; exact sleS; exact rfl; exact rfl; exact hk') | (apply OQ.load_old; exact bsC12; exact rfl; exact lL; exact (by simp); exact cL) | (apply OQ.len; exact Tryz.underlying22; exact rfl) | (apply OQ.gtrB (a := (x.l.length : Int)) (b := 500); exact rfl; exact rfl; exact g0) | (apply OQ.gtrB (a := (y.l.length : Int)) (b := 1); exact rfl; exact rfl; exact g1) | (apply OQ.idxS1; exact Tryz.underlying22; exact u8s; exact rfl; exact rfl; exact hy0) | (apply OQ.idxS1; exact Tryz.underlying22; exact u8s; exact rfl; exact rfl; exact hy1) | (apply OQ.load_old; exact u8c; exact rfl; exact (block_lt_of_cell k0); exact (by simp); exact k0) | (apply OQ.load_old; exact u8c; exact rfl; exact (block_lt_of_cell k1); exact (by simp); exact k1) | (apply OQ.eq8M (a := z0) (b := 45); exact rfl; exact rfl; exact h0) | (apply OQ.eq8M (a := z1) (b := 45); exact rfl; exact rfl; exact h1) | (apply OQ.pick_t; exact rfl; exact rfl) | (apply OQ.pick_f; exact rfl; exact rfl) | (apply OQ.move; exact rfl) | (apply OQ.assign; exact rfl)) rfl ?_ | refine JC.seq ?_ | refine JC.region ?_ | refine JC.block ?_ | refine JC.skip ?_ | refine JL.nil ?_ | refine JE.next ?_ | refine JL.gon rfl rfl ?_)
              refine JC.cond rfl (fun _ => ?_) (fun h => by cases h)
              repeat (first | refine JL.q (by (apply OQ.assign; exact rfl)) rfl ?_ | refine JC.seq ?_ | refine JC.region ?_ | refine JL.nil ?_ | refine JE.next ?_)
              refine JC.ret ?_
              repeat (first | refine JE.then_ret ?_ | refine JE.blk_ret ?_)
              exact JE.ret1 rfl (RV.tmp rfl) fun w' hw => ⟨rfl, eU2.trans hw.chg⟩
      · repeat (first | refine JL.q (by first | (apply OQ.idxS1; exact Tryz.underlying24; exact sleS; exact rfl; exact rfl; exact hk') | (apply OQ.load_old; exact bsC12; exact rfl; exact lL; exact (by simp); exact cL) | (apply OQ.len; exact Tryz.underlying22; exact rfl) | (apply OQ.gtrB (a := (x.l.length : Int)) (b := 500); exact rfl; exact rfl; exact g0) | (apply OQ.pick_t; exact rfl; exact rfl) | (apply OQ.move; exact rfl) | (apply OQ.assign; exact rfl)) rfl ?_ | refine JC.seq ?_ | refine JC.region ?_ | refine JC.block ?_ | refine JC.skip ?_ | refine JL.nil ?_ | refine JE.next ?_ | refine JL.gskip rfl rfl rfl rfl ?_ | refine JL.gskipU rfl rfl rfl rfl ?_)
        refine JC.cond rfl (fun _ => ?_) (fun h => by cases h)
        repeat (first | refine JL.q (by (apply OQ.assign; exact rfl)) rfl ?_ | refine JC.seq ?_ | refine JC.region ?_ | refine JL.nil ?_ | refine JE.next ?_)
        refine JC.ret ?_
        repeat (first | refine JE.then_ret ?_ | refine JE.blk_ret ?_)
        exact JE.ret1 rfl (RV.tmp rfl) fun w' hw => ⟨rfl, eU2.trans hw.chg⟩
    · have hk' : ¬ k < L.rs.length := of_decide_eq_false h
      clear h
      have hfx2 : fine x := by
        refine ⟨fun q hq => ?_, ?_⟩
        · obtain ⟨j, hj, rfl⟩ := List.getElem_of_mem hq
          have := hkn j (by omega)
          rwa [List.getD_eq_getElem?_getD, List.getElem?_eq_getElem hj] at this
        · by_cases e : 0 < k
          · exact hk5 e
          · exact hLn (by omega)
      cases g0 : decide ((0 : Int) < (i : Int))
      · repeat (first | refine JL.q (by first | (apply OQ.gtrB (a := (i : Int)) (b := 0); exact rfl; exact rfl; exact g0) | (apply OQ.pick_f; exact rfl; exact rfl) | (apply OQ.move; exact rfl)) rfl ?_ | refine JC.seq ?_ | refine JC.region ?_ | refine JC.exit ?_ | refine JL.nil ?_ | refine JE.next ?_ | refine JE.then_exit ?_ | refine JE.blk_hit ?_ | refine JL.gskip rfl rfl rfl rfl ?_)
        refine JC.cond rfl (fun h => by cases h) (fun _ => ?_)
        repeat (first | refine JL.q (by first | (apply OQ.move; exact rfl) | (apply OQ.addN; exact rfl; exact rfl; exact (by (try simp only []); omega))) rfl ?_ | refine JC.region ?_ | refine JC.skip ?_ | refine JL.nil ?_ | refine JE.next ?_ | refine JE.blk_normal ?_)
        exact JE.againb (i := JnT.mk i u) (fun w' => ⟨i + 1, w'⟩) (fun w' hw' => ⟨⟨hi', eU2.trans hw'.chg, hfx hfx2⟩, by dsimp only; omega, Holds.cold hw'⟩) (fun _ => (by repeat (first | exact SubE.nil | refine SubE.cons _ _ _ rfl ?_)))
      · cases g1 : decide ((0 : Int) < (x.l.length : Int))
        · repeat (first | refine JL.q (by first | (apply OQ.len; exact Tryz.underlying22; exact rfl) | (apply OQ.gtrB (a := (i : Int)) (b := 0); exact rfl; exact rfl; exact g0) | (apply OQ.gtrB (a := (x.l.length : Int)) (b := 0); exact rfl; exact rfl; exact g1) | (apply OQ.pick_t; exact rfl; exact rfl) | (apply OQ.pick_f; exact rfl; exact rfl) | (apply OQ.move; exact rfl)) rfl ?_ | refine JC.seq ?_ | refine JC.region ?_ | refine JC.exit ?_ | refine JL.nil ?_ | refine JE.next ?_ | refine JE.then_exit ?_ | refine JE.blk_hit ?_ | refine JL.gon rfl rfl ?_ | refine JL.gskip rfl rfl rfl rfl ?_)
          refine JC.cond rfl (fun h => by cases h) (fun _ => ?_)
          repeat (first | refine JL.q (by first | (apply OQ.move; exact rfl) | (apply OQ.addN; exact rfl; exact rfl; exact (by (try simp only []); omega))) rfl ?_ | refine JC.region ?_ | refine JC.skip ?_ | refine JL.nil ?_ | refine JE.next ?_ | refine JE.blk_normal ?_)
          exact JE.againb (i := JnT.mk i u) (fun w' => ⟨i + 1, w'⟩) (fun w' hw' => ⟨⟨hi', eU2.trans hw'.chg, hfx hfx2⟩, by dsimp only; omega, Holds.cold hw'⟩) (fun _ => (by repeat (first | exact SubE.nil | refine SubE.cons _ _ _ rfl ?_)))
        · have g1' := of_decide_eq_true g1
          have hl1 : x.l.length - 1 < x.l.length := by omega
          obtain ⟨by', jy, hae, hca⟩ := okx2.reads.at (by simp; omega)
          have k1 := hca (x.l.length - 1) _ (map_at U8 0 hl1)
          have hyv : x.v = .slice (some ⟨by', jy, none⟩) x.l.length x.cap := by rw [← hae]; rfl
          generalize x.l.getD (x.l.length - 1) 0 = z1 at k1
          rw [hyv]
          cases h1 : decide (z1 = 13)
          · repeat (first | refine JL.q (by first | (apply OQ.len; exact Tryz.underlying22; exact rfl) | (apply OQ.gtrB (a := (i : Int)) (b := 0); exact rfl; exact rfl; exact g0) | (apply OQ.gtrB (a := (x.l.length : Int)) (b := 0); exact rfl; exact rfl; exact g1) | (apply OQ.idxS1; exact Tryz.underlying22; exact u8s; exact rfl; exact rfl; exact hl1) | (apply OQ.load_old; exact u8c; exact rfl; exact (block_lt_of_cell k1); exact (by simp); exact k1) | (apply OQ.eq8M (a := z1) (b := 13); exact rfl; exact rfl; exact h1) | (apply OQ.pick_t; exact rfl; exact rfl) | (apply OQ.move; exact rfl) | (apply OQ.subN; exact rfl; exact rfl; exact (by (try simp only []); omega); exact (by (try simp only []); omega))) rfl ?_ | refine JC.seq ?_ | refine JC.region ?_ | refine JC.exit ?_ | refine JL.nil ?_ | refine JE.next ?_ | refine JE.then_exit ?_ | refine JE.blk_hit ?_ | refine JL.gon rfl rfl ?_)
            refine JC.cond rfl (fun h => by cases h) (fun _ => ?_)
            repeat (first | refine JL.q (by first | (apply OQ.move; exact rfl) | (apply OQ.addN; exact rfl; exact rfl; exact (by (try simp only []); omega))) rfl ?_ | refine JC.region ?_ | refine JC.skip ?_ | refine JL.nil ?_ | refine JE.next ?_ | refine JE.blk_normal ?_)
            exact JE.againb (i := JnT.mk i u) (fun w' => ⟨i + 1, w'⟩) (fun w' hw' => ⟨⟨hi', eU2.trans hw'.chg, hfx hfx2⟩, by dsimp only; omega, Holds.cold hw'⟩) (fun _ => (by repeat (first | exact SubE.nil | refine SubE.cons _ _ _ rfl ?_)))
          · repeat (first | refine JL.q (by first | (apply OQ.len; exact Tryz.underlying22; exact rfl) | (apply OQ.gtrB (a := (i : Int)) (b := 0); exact rfl; exact rfl; exact g0) | (apply OQ.gtrB (a := (x.l.length : Int)) (b := 0); exact rfl; exact rfl; exact g1) | (apply OQ.idxS1; exact Tryz.underlying22; exact u8s; exact rfl; exact rfl; exact hl1) | (apply OQ.load_old; exact u8c; exact rfl; exact (block_lt_of_cell k1); exact (by simp); exact k1) | (apply OQ.eq8M (a := z1) (b := 13); exact rfl; exact rfl; exact h1) | (apply OQ.pick_t; exact rfl; exact rfl) | (apply OQ.move; exact rfl) | (apply OQ.subN; exact rfl; exact rfl; exact (by (try simp only []); omega); exact (by (try simp only []); omega))) rfl ?_ | refine JC.seq ?_ | refine JC.region ?_ | refine JC.exit ?_ | refine JL.nil ?_ | refine JE.next ?_ | refine JE.then_exit ?_ | refine JE.blk_hit ?_ | refine JL.gon rfl rfl ?_)
            refine JC.cond rfl (fun _ => ?_) (fun h => by cases h)
            repeat (first | refine JL.q (by (apply OQ.assign; exact rfl)) rfl ?_ | refine JC.seq ?_ | refine JC.region ?_ | refine JL.nil ?_ | refine JE.next ?_)
            refine JC.ret ?_
            repeat (first | refine JE.then_ret ?_ | refine JE.blk_ret ?_)
            exact JE.ret1 rfl (RV.tmp rfl) fun w' hw => ⟨rfl, eU2.trans hw.chg⟩
  · have hi' : ¬ i < (A :: P.rs).length := of_decide_eq_false h
    clear h
    have hall : ∀ x ∈ A :: P.rs, fine x := fun x hx => by
      obtain ⟨k, hk, rfl⟩ := List.getElem_of_mem hx
      have := hfi k (by omega)
      rwa [List.getD_eq_getElem?_getD, List.getElem?_eq_getElem hk] at this
    clear hfi
    refine JC.base (w0 := w) (M' := [⟨b9, Sl.Own 5 1 A.l.length c9 (A.l.map U8), true⟩]) (fun w1 hw1 => Holds.back (e := ⟨b9, Sl.Own 5 1 A.l.length c9 (A.l.map U8), true⟩) eU hw1 hb9) ?_
    clear eU u
    have hPf : ∀ x ∈ P.rs, x.ok w ∧ x.l.length ≤ 500 := fun x hx => ⟨okP.all x hx, (hall x (List.mem_cons_of_mem _ hx)).2⟩
    have hback : spltB (A.l ++ 10 :: jn bd P.ls B.l) bd = (P.ls, 0) := jn_back g4 (hall A List.mem_cons_self).1 (fun e => n0 (List.map_eq_nil_iff.1 e)) (fun p hp q hq => by
      obtain ⟨x, hx, rfl⟩ := List.mem_map.1 hp
      exact mark_nd ((hall x (List.mem_cons_of_mem _ hx)).1 q hq))
    clear hall hrow hPl g4 hi hi'
    repeat (first | refine JL.q (by (apply OQ.move; exact rfl)) rfl ?_ | refine JC.seq ?_ | refine JC.region ?_ | refine JC.exit ?_ | refine JE.next ?_ | refine JE.then_exit ?_ | refine JE.blk_hit ?_)
    refine JL.push1 (v := U8 10) (xs := A.l.map U8) (fun b' cap' => [⟨b', Sl.Own 5 1 (A.l.length + 1) cap' (A.l.map U8 ++ [U8 10]), true⟩]) Tryz.underlying22 u8e rfl rfl rfl rfl (fun _ => rfl) (by intro _ _; repeat (first | exact Repl.here | apply Repl.there)) (by omega) (by omega) rfl rfl fun bl b1 c1 => ?_
    repeat (first | refine JL.q (by first | (apply OQ.len; exact Tryz.underlying24; exact rfl) | (apply OQ.move; exact rfl) | (apply OQ.assign; exact rfl)) rfl ?_ | refine JC.seq ?_ | refine JC.region ?_ | refine JC.block ?_ | refine JL.nil ?_ | refine JE.next ?_)
    have eN0 : (A.l ++ [10]).length = A.l.length + 1 := List.length_append
    refine JC.loop (fun z : PtT => [(0, P.v), (2, B.v), (3, Z bd), (9, .slice (some ⟨z.b, 0, none⟩) z.o.length z.c), (111, P.v), (112, N P.rs.length), (113, N z.i)]) (fun z => [⟨z.b, Sl.Own 5 1 z.o.length z.c (z.o.map U8), true⟩]) (fun z => P.rs.length - z.i) (fun z => z.i ≤ P.rs.length ∧ z.o.length ≤ 501 + z.i * 1000 ∧ z.o ++ (P.ls.drop z.i).flatMap (pieceB bd) = A.l ++ 10 :: P.ls.flatMap (pieceB bd)) ⟨0, A.l ++ [10], b1, c1⟩ ⟨Nat.zero_le _, by dsimp only; omega, by simp⟩ ?_ ?_ ?_
    · dsimp only
      rw [eN0]
      exact (by repeat (first | exact SubE.nil | refine SubE.cons _ _ _ rfl ?_))
    · dsimp only
      rw [eN0, List.map_append]
      exact Less.refl _
    rintro ⟨i, o, b, c⟩ ⟨hi, hol, ho⟩
    dsimp only at hi hol ho ⊢
    repeat (first | refine JL.q (by (apply OQ.lssN; exact rfl; exact rfl)) rfl ?_ | refine JC.seq ?_ | refine JC.region ?_ | refine JL.nil ?_ | refine JE.next ?_)
    refine JC.cond rfl (fun h => ?_) (fun h => ?_)
    · have hi' : i < P.rs.length := of_decide_eq_true h
      clear h hi
      obtain ⟨bP, jP, eP, lP, cP, okp⟩ := okP.at hi'
      have vP : P.v = .slice (some ⟨bP, jP, none⟩) P.rs.length P.cap := by rw [← eP]; rfl
      have hpl := (hPf _ (by rw [List.getD_eq_getElem?_getD, List.getElem?_eq_getElem hi']; exact List.getElem_mem hi' : P.rs.getD i nilS ∈ P.rs)).2
      have hd := drop_ls P hi'
      rw [hd, List.flatMap_cons] at ho
      generalize P.rs.getD i nilS = p at *
      rw [vP]
      repeat (first | refine JL.q (by first | (apply OQ.idxS1; exact Tryz.underlying24; exact sleS; exact rfl; exact rfl; exact hi') | (apply OQ.load_old; exact bsC12; exact rfl; exact lP; exact (by simp); exact cP) | (apply OQ.addS (l := [45, 45]) (r := bd); exact rfl; exact rfl; exact (by simp only [List.length_cons, List.length_nil]; omega)) | (apply OQ.addS (l := [45, 45] ++ bd) (r := [13, 10]); exact rfl; exact rfl; exact (by simp only [List.length_append, List.length_cons, List.length_nil]; omega)) | (apply OQ.move; exact rfl) | (apply OQ.assign; exact rfl)) rfl ?_ | refine JC.seq ?_ | refine JC.region ?_ | refine JC.block ?_ | refine JC.skip ?_ | refine JL.nil ?_ | refine JE.next ?_)
      refine JL.appendS (r := [45, 45] ++ bd ++ [13, 10]) (xs := o.map U8) (fun b' cap' => [⟨b', Sl.Own 5 1 (o.length + ([45, 45] ++ bd ++ [13, 10]).length) cap' (o.map U8 ++ ([45, 45] ++ bd ++ [13, 10]).map U8), true⟩]) Tryz.underlying22 Tryz.underlying9 u8e rfl rfl (by intro _ _; repeat (first | exact Repl.here | apply Repl.there)) (by simp only [List.length_append, List.length_cons, List.length_nil]; omega) rfl fun b2 c2 => ?_
      rw [← List.map_append, ← List.length_append]
      repeat (refine JL.q (by (apply OQ.move; exact rfl)) rfl ?_)
      refine JL.append (cs := p.l.map U8) (m := p.l.length) (ad := p.ad) (sc := p.cap) (xs := (o ++ ([45, 45] ++ bd ++ [13, 10])).map U8) (fun b' cap' => [⟨b', Sl.Own 5 1 ((o ++ ([45, 45] ++ bd ++ [13, 10])).length + p.l.length) cap' ((o ++ ([45, 45] ++ bd ++ [13, 10])).map U8 ++ p.l.map U8), true⟩]) Tryz.underlying22 u8e rfl rfl (by intro _ _; repeat (first | exact Repl.here | apply Repl.there)) (by simp) (fun w' hw' => (okp.holds hw' rfl).reads) (all8U _) rfl (by decide) (by simp only [List.length_append, List.length_cons, List.length_nil]; omega) (by simp only [List.length_append, List.length_cons, List.length_nil]; omega) rfl fun b3 c3 => ?_
      rw [← List.map_append, ← List.length_append]
      repeat (first | refine JL.q (by first | (apply OQ.move; exact rfl) | (apply OQ.assign; exact rfl)) rfl ?_ | refine JC.region ?_ | refine JL.nil ?_ | refine JE.next ?_)
      refine JL.push2 (v1 := U8 13) (v2 := U8 10) (xs := (o ++ ([45, 45] ++ bd ++ [13, 10]) ++ p.l).map U8) (fun b' cap' => [⟨b', Sl.Own 5 1 ((o ++ ([45, 45] ++ bd ++ [13, 10]) ++ p.l).length + 2) cap' ((o ++ ([45, 45] ++ bd ++ [13, 10]) ++ p.l).map U8 ++ [U8 13, U8 10]), true⟩]) Tryz.underlying22 u8e rfl rfl rfl rfl rfl rfl rfl (fun _ => rfl) (by intro _ _; repeat (first | exact Repl.here | apply Repl.there)) (by simp only [List.length_append, List.length_cons, List.length_nil]; omega) (by simp only [List.length_append, List.length_cons, List.length_nil]; omega) rfl rfl fun bl b4 c4 => ?_
      repeat (first | refine JL.q (by first | (apply OQ.move; exact rfl) | (apply OQ.assign; exact rfl) | (apply OQ.addN; exact rfl; exact rfl; exact (by (try simp only []); omega))) rfl ?_ | refine JC.region ?_ | refine JL.nil ?_ | refine JE.next ?_ | refine JE.blk_normal ?_)
      rw [← vP]
      have e1 : (o ++ pieceB bd p.l) = o ++ ([45, 45] ++ bd ++ [13, 10]) ++ p.l ++ [13, 10] := by simp [pieceB]
      have e2 : (o ++ pieceB bd p.l).length = (o ++ ([45, 45] ++ bd ++ [13, 10]) ++ p.l).length + 2 := by rw [e1, List.length_append]; rfl
      refine JE.again (i := PtT.mk i o b c) (PtT.mk (i + 1) (o ++ pieceB bd p.l) b4 c4) ⟨hi', ?_, by dsimp only; rw [List.append_assoc]; exact ho⟩ (by dsimp only; omega) ?_ ?_
      · dsimp only
        rw [e2]
        simp only [List.length_append, List.length_cons, List.length_nil]
        omega
      · dsimp only
        rw [e2]
        exact (by repeat (first | exact SubE.nil | refine SubE.cons _ _ _ rfl ?_))
      · dsimp only
        rw [e2, e1, List.map_append]
        exact Less.refl _
    · have hi' : ¬ i < P.rs.length := of_decide_eq_false h
      clear h
      have hd : P.ls.drop i = [] := List.drop_eq_nil_of_le (by show (P.rs.map Sl8.l).length ≤ i; rw [List.length_map]; omega)
      rw [hd, List.flatMap_nil, List.append_nil] at ho
      repeat (first | refine JL.q (by first | (apply OQ.addS (l := [45, 45]) (r := bd); exact rfl; exact rfl; exact (by simp only [List.length_cons, List.length_nil]; omega)) | (apply OQ.addS (l := [45, 45] ++ bd) (r := [45, 45, 13, 10]); exact rfl; exact rfl; exact (by simp only [List.length_append, List.length_cons, List.length_nil]; omega)) | (apply OQ.move; exact rfl)) rfl ?_ | refine JC.seq ?_ | refine JC.region ?_ | refine JC.exit ?_ | refine JE.next ?_ | refine JE.then_exit ?_ | refine JE.blk_hit ?_)
      refine JL.appendS (r := [45, 45] ++ bd ++ [45, 45, 13, 10]) (xs := o.map U8) (fun b' cap' => [⟨b', Sl.Own 5 1 (o.length + ([45, 45] ++ bd ++ [45, 45, 13, 10]).length) cap' (o.map U8 ++ ([45, 45] ++ bd ++ [45, 45, 13, 10]).map U8), true⟩]) Tryz.underlying22 Tryz.underlying9 u8e rfl rfl (by intro _ _; repeat (first | exact Repl.here | apply Repl.there)) (by simp only [List.length_append, List.length_cons, List.length_nil]; omega) rfl fun b2 c2 => ?_
      rw [← List.map_append, ← List.length_append]
      repeat (refine JL.q (by (apply OQ.move; exact rfl)) rfl ?_)
      refine JL.append (cs := B.l.map U8) (m := B.l.length) (ad := B.ad) (sc := B.cap) (xs := (o ++ ([45, 45] ++ bd ++ [45, 45, 13, 10])).map U8) (fun b' cap' => [⟨b', Sl.Own 5 1 ((o ++ ([45, 45] ++ bd ++ [45, 45, 13, 10])).length + B.l.length) cap' ((o ++ ([45, 45] ++ bd ++ [45, 45, 13, 10])).map U8 ++ B.l.map U8), true⟩]) Tryz.underlying22 u8e rfl rfl (by intro _ _; repeat (first | exact Repl.here | apply Repl.there)) (by simp) (fun w' hw' => (okB.holds hw' rfl).reads) (all8U _) rfl (by decide) (by simp only [List.length_append, List.length_cons, List.length_nil]; omega) (by simp only [List.length_append, List.length_cons, List.length_nil]; omega) rfl fun b3 c3 => ?_
      rw [← List.map_append, ← List.length_append]
      have eO : o ++ ([45, 45] ++ bd ++ [45, 45, 13, 10]) ++ B.l = A.l ++ 10 :: jn bd P.ls B.l := by
        rw [ho, jn_is]
        simp only [List.append_assoc, List.cons_append]
      have lO : (o ++ ([45, 45] ++ bd ++ [45, 45, 13, 10]) ++ B.l).length ≤ 100000 := by simp only [List.length_append, List.length_cons, List.length_nil]; omega
      rw [eO]
      rw [eO] at lO
      generalize A.l ++ 10 :: jn bd P.ls B.l = O at hback lO
      repeat (first | refine JL.q (by first | (apply OQ.move; exact rfl) | (apply OQ.assign; exact rfl)) rfl ?_ | refine JC.seq ?_ | refine JC.region ?_ | refine JL.nil ?_ | refine JE.next ?_)
      refine JL.callw (vs := [Sl8.v ⟨some ⟨b3, 0, none⟩, c3, O⟩, Z bd]) (S' := []) (ι := { q : SlL // q.ls = (spltB O bd).1 }) (fun q => .tuple #[q.1.v, N (spltB O bd).2]) (fun q w2 => q.1.ok w2) [] goes_msplit rfl rfl (fun w' hw' => hM.split ⟨some ⟨b3, 0, none⟩, c3, O⟩ bd w' (ownb_ok hw' .here) lO (by omega)) (.nil _) nofun ?_
      rintro ⟨q, hq⟩ w1 hw1 okq
      dsimp only at hq okq ⊢
      have hx1 : Ext w w1 := hw1.chg
      replace okP : P.ok w1 := okP.holds hw1 rfl
      clear hw1
      rw [hback] at hq ⊢
      dsimp only at hq ⊢
      have nq : q.rs.length = P.rs.length := by rw [← List.length_map (f := Sl8.l)]; show q.ls.length = _; rw [hq]; show (P.rs.map Sl8.l).length = _; rw [List.length_map]
      have h0 : decide (((0 : Nat) : Int) = ((0 : Nat) : Int)) = true := rfl
      have h1 : decide ((q.rs.length : Int) = (P.rs.length : Int)) = true := decide_eq_true (by omega)
      repeat (first | refine JL.q (by first | (apply OQ.extract; exact rfl; exact rfl) | (apply OQ.neB (a := ((0 : Nat) : Int)) (b := ((0 : Nat) : Int)); exact rfl; exact rfl; exact h0) | (apply OQ.len; exact Tryz.underlying24; exact rfl) | (apply OQ.neB (a := (q.rs.length : Int)) (b := (P.rs.length : Int)); exact rfl; exact rfl; exact h1) | (apply OQ.pick_f; exact rfl; exact rfl) | (apply OQ.move; exact rfl) | (apply OQ.assign; exact rfl)) rfl ?_ | refine JC.seq ?_ | refine JC.region ?_ | refine JL.nil ?_ | refine JE.next ?_ | refine JL.gon rfl rfl ?_)
      refine JC.cond rfl (fun h => by cases h) (fun _ => ?_)
      repeat (first | refine JL.q (by first | (apply OQ.len; exact Tryz.underlying24; exact rfl) | (apply OQ.move; exact rfl)) rfl ?_ | refine JC.seq ?_ | refine JC.region ?_ | refine JC.block ?_ | refine JC.skip ?_ | refine JL.nil ?_ | refine JE.next ?_)
      refine JC.loop (fun i : Nat => [(0, P.v), (18, q.v), (151, N q.rs.length), (152, N i)]) (fun _ => []) (fun i => q.rs.length - i) (fun i => i ≤ q.rs.length) 0 (Nat.zero_le _) (by repeat (first | exact SubE.nil | refine SubE.cons _ _ _ rfl ?_)) (.nil _) ?_
      intro i hi
      repeat (first | refine JL.q (by (apply OQ.lssN; exact rfl; exact rfl)) rfl ?_ | refine JC.seq ?_ | refine JC.region ?_ | refine JL.nil ?_ | refine JE.next ?_)
      refine JC.cond rfl (fun h => ?_) (fun h => ?_)
      · have hiq : i < q.rs.length := of_decide_eq_true h
        clear h hi
        have hir : i < P.rs.length := by omega
        obtain ⟨_, e1⟩ := ls_at (s := q) (xs := P.rs) (f := Sl8.l) (d := nilS) hq hir
        obtain ⟨bq, jq, eq, lq, cq, xq⟩ := okq.at hiq
        obtain ⟨br, jr, er, lr, cr', xr⟩ := okP.at hir
        have vq : q.v = .slice (some ⟨bq, jq, none⟩) q.rs.length q.cap := by rw [← eq]; rfl
        have vr : P.v = .slice (some ⟨br, jr, none⟩) P.rs.length P.cap := by rw [← er]; rfl
        have hpl := (hPf _ (by rw [List.getD_eq_getElem?_getD, List.getElem?_eq_getElem hir]; exact List.getElem_mem hir : P.rs.getD i nilS ∈ P.rs)).2
        have hsm : ∀ w', Holds w1 [] [] w' → Calls Tryz.prog 12 [(q.rs.getD i nilS).v, (P.rs.getD i nilS).v].toArray w' fun e w'' => e = .returned (.bool true) ∧ Ext w' w'' := fun w' hw' => same_t rfl rfl (xq.holds hw' rfl) (xr.holds hw' rfl) (by rw [e1]; exact Nat.lt_of_le_of_lt hpl (by decide)) e1
        rw [vq, vr]
        repeat (first | refine JL.q (by first | (apply OQ.move; exact rfl) | (apply OQ.assign; exact rfl)) rfl ?_ | refine JC.seq ?_ | refine JC.region ?_ | refine JC.block ?_ | refine JC.skip ?_ | refine JL.nil ?_ | refine JE.next ?_)
        refine JC.quiet mixT (by kernel_rfl) ?_
        repeat (first | refine JQ.q (by first | (apply OQ.idxS1; exact Tryz.underlying24; exact sleS; exact rfl; exact rfl; exact hiq) | (apply OQ.idxS1; exact Tryz.underlying24; exact sleS; exact rfl; exact rfl; exact hir) | (apply OQ.load_old; exact bsC12; exact rfl; exact lq; exact (by simp); exact cq) | (apply OQ.load_old; exact bsC12; exact rfl; exact lr; exact (by simp); exact cr') | (apply OQ.callx (vs := [(q.rs.getD i nilS).v, (P.rs.getD i nilS).v]); exact goes_same; exact rfl; exact hsm) | (apply OQ.not; exact rfl) | (apply OQ.move; exact rfl)) rfl ?_ | refine JQ.nil ?_ | refine JE.next ?_)
        refine JC.cond rfl (fun h => by cases h) (fun _ => ?_)
        repeat (first | refine JL.q (by first | (apply OQ.move; exact rfl) | (apply OQ.addN; exact rfl; exact rfl; exact (by (try simp only []); omega))) rfl ?_ | refine JC.region ?_ | refine JC.skip ?_ | refine JL.nil ?_ | refine JE.next ?_ | refine JE.blk_normal ?_)
        rw [← vq, ← vr]
        exact JE.again (i := i) (i + 1) hiq (by omega) (by repeat (first | exact SubE.nil | refine SubE.cons _ _ _ rfl ?_)) (.nil _)
      · repeat (first | refine JL.q (by (apply OQ.assign; exact rfl)) rfl ?_ | refine JC.seq ?_ | refine JC.region ?_ | refine JC.exit ?_ | refine JL.nil ?_ | refine JE.next ?_ | refine JE.then_exit ?_ | refine JE.blk_hit ?_)
        refine JC.ret ?_
        skip
        exact JE.ret1 rfl (RV.tmp rfl) fun w' hw => ⟨rfl, hx1.trans hw.chg⟩
end Go.Proofs.YtbbmhkdfdgnkpaaGreatDoor

/-
  Of no statement by itself: a part of bytes in n multiparts: its mail, as long as n is at most 8; one more is an error; pure; no program stands here.
  Conditions: none but each lemma's own.
-/
namespace Go.Proofs.YtbbmhkdfdgnkpaaGreatDoor
namespace Mim
open Fld Tok
def bdI (i : Nat) : List By := [98, BitVec.ofNat 8 (48 + i)]
def mmN : List By := [109, 117, 108, 116, 105, 112, 97, 114, 116, 47, 109, 105, 120, 101, 100]
def abN : List By := [97, 47, 98]
def nestF : Nat → List PrB
  | 0 => [(ctW, writeB abN []), (ceW, b64)]
  | n + 1 => [(ctW, writeB mmN [(bdN, bdI n)])]
/-- its lines are none of the boundaries from n on -/
def far (n : Nat) (m : List By) : Prop := ∀ q ∈ linB m, ∀ i, n ≤ i → i < 10 → markB (bdI i) q.1 = 0
/-! ### heads -/
def headN (n : Nat) : List By := headB (nestF n) ++ [13, 10]
def farB (n : Nat) (m : List By) : Bool := (linB m).all fun q => (List.range 10).all fun i => decide (i < n) || decide (markB (bdI i) q.1 = 0)
theorem far_of {n : Nat} {m : List By} (h : farB n m = true) : far n m := fun q hq i hi hi' => by
  have h1 := List.all_eq_true.1 h q hq
  have h2 := List.all_eq_true.1 h1 i (List.mem_range.2 hi')
  simp only [Bool.or_eq_true, decide_eq_true_eq] at h2
  omega
def headGood (n : Nat) : Bool := farB 0 (headN n) && (decide ((headN n).getLast? = some 10) && (decide ((headN n).length ≤ 100) && (decide ((nestF n).length ≤ 2) && (nestF n).all fun p => nameB p.1 && valB p.2)))
theorem head_good : ∀ n : Fin 10, headGood n.val = true := by decide +kernel
theorem head_is {n : Nat} (h : n < 10) : far 0 (headN n) ∧ (headN n).getLast? = some 10 ∧ (headN n).length ≤ 100 ∧ (nestF n).length ≤ 2 ∧ (nestF n).all (fun p => nameB p.1 && valB p.2) = true := by
  have := head_good ⟨n, h⟩
  unfold headGood at this
  simp only [Bool.and_eq_true, decide_eq_true_eq] at this
  exact ⟨far_of this.1, this.2.1, this.2.2.1, this.2.2.2.1, this.2.2.2.2⟩
/-! ### multiparts -/
end Mim
end Go.Proofs.YtbbmhkdfdgnkpaaGreatDoor

/-
  Of no statement by itself: literals of slices of two elements with many cells; over X's partial knowledge, for any program P.
  Conditions: each rule's own hypotheses.
-/
namespace Go.Proofs.YtbbmhkdfdgnkpaaGreatDoor
namespace Sl
section
variable {P : Program} {n : Nat} {w0 : World} {S : List Nat} {ops : Array Oper} {Q : Exit → Act → World → Prop} {l : List Oper} {E : Env} {M : List Ent}
variable {d : Nat} {t e ty : TypeId} {pos : String} {aft : Array Edge} {v z : Value} {x y : Operand} {sz by' : Nat} {cs ds : List Value}
theorem buildA2_run {w : World} (hu : P.underlying t = some (.slice e)) (hi : EI P e z sz by') (_hz : z.cells.size = sz) (h0 : 0 < sz) (hsm : sz ≤ 8388608) (hl : cs.length = sz) (hl2 : ds.length = sz) :
    (Instr.buildSlice t 2 #[(0, .agg cs.toArray), (1, .agg ds.toArray)]).run P w = .ok (.slice (some ⟨w.heap.size, 0, none⟩) 2 2) { w with heap := w.heap.push (.cells (cs ++ ds).toArray e (0, 0)) } := by
  have h3 : (underlying t).run P w = .ok (.slice e) w := run_underlying hu w
  obtain ⟨i, h4, h5, _⟩ := hi.get
  obtain ⟨r, h6, h7, h8⟩ := Great.fill_dense h0 [.agg cs.toArray, .agg ds.toArray] 0 ((Array.range (2 * sz)).map (z.cells[· % z.cells.size]!)) (by intro v hv; simp only [List.mem_cons, List.not_mem_nil, or_false] at hv; rcases hv with rfl | rfl <;> simp [Value.cells, hl, hl2]) (by simp)
  have hr : r = (cs ++ ds).toArray := by
    apply Array.ext_getElem?
    intro k
    rw [h8 k]
    by_cases hk : k < 2 * sz
    · rw [if_pos (by simp; omega)]
      by_cases h1 : k < sz
      · rw [List.getElem?_toArray, List.getElem?_append_left (by omega)]
        simp [Nat.div_eq_of_lt h1, Nat.mod_eq_of_lt h1, Value.cells]
      · have e1 : k / sz = 1 := by
          rw [Nat.div_eq_iff h0]; omega
        have e2 : k % sz = k - sz := by
          rw [Nat.mod_eq_sub_mod (by omega), Nat.mod_eq_of_lt (by omega)]
        rw [List.getElem?_toArray, List.getElem?_append_right (by omega), hl]
        simp [e1, e2, Value.cells]
    · rw [if_neg (by simp; omega), Array.getElem?_eq_none (by simp; omega), Array.getElem?_eq_none (by simp; omega)]
  subst hr
  have h11 : (zeroValue e).run P w = .ok z w := by simp [zeroValue, typeInfo, h4, h5]
  have h12 : ¬ (16777216 < 2 * sz) := by omega
  have h13 : ¬ (2 * sz = 0) := by omega
  have h14 : ¬ (sz = 0) := by omega
  simp only [List.zipIdx_cons, List.zipIdx_nil, List.map_cons, List.map_nil] at h6
  simp [Instr.buildSlice, Sem.run_bind, h3, sizeOf_run hi.sz, h11, h12, h13, h14, h6, newRow, newObj, Sem.run]
theorem JL.litA2 (hu : P.underlying t = some (.slice e)) (hi : EI P e z sz by') (hz : z.cells.size = sz) (h0 : 0 < sz) (hsm : sz ≤ 8388608) (hx : ev E x = some (.agg cs.toArray)) (hy : ev E y = some (.agg ds.toArray)) (hl : cs.length = sz) (hl2 : ds.length = sz) (hd : Nat.blt d n = true)
    (k : ∀ b, w0.heap.size ≤ b → JL P n w0 S ops Q l ((d, .slice (some ⟨b, 0, none⟩) 2 2) :: E) (⟨b, Row e (cs ++ ds), true⟩ :: M)) : JL P n w0 S ops Q (⟨some d, .buildSlice t 2 #[(0, x), (1, y)], ty, pos, aft, none⟩ :: l) E M :=
  ⟨fun a w ha hw => wpList_plain rfl fun K hK => by
    unfold Oper.wp
    have hm : (#[(0, x), (1, y)] : Array (Nat × Operand)).map (fun (i, x) => (i, a.eval x)) = #[(0, .agg cs.toArray), (1, .agg ds.toArray)] := by simp [ha.eval hx, ha.eval hy]
    simp only [execOp, hm, Sem.run_bind, buildA2_run hu hi hz h0 hsm hl hl2, Result.andThen_ok]
    exact hK _ _ ((k w.heap.size hw.chg.size).go _ _ (ha.put d _ hd) (hw.push _ rfl rfl rfl rfl rfl))⟩
end
end Sl
end Go.Proofs.YtbbmhkdfdgnkpaaGreatDoor

/-
  Of no statement by itself: what MimeDeep gives, over MimeOk.
  Conditions: MimeOk, and each theorem's own.
-/
namespace Go.Proofs.YtbbmhkdfdgnkpaaGreatDoor
set_option maxRecDepth 10000
open Sl Fld Mim
theorem letA12 : aggT Tryz.prog 41 = true := by kernel_rfl
theorem letS12 : szT Tryz.prog 41 = some 2 := by kernel_rfl
theorem letZ12 : zc Tryz.prog 41 = some [nil2.v, nilS.v] := by kernel_rfl
section
variable {n : Nat} {E : Env} {C : World → Prop} {dst : Option Tmp} {ty : TypeId} {pos : String} {aft : Array Edge} {g : Option (Nat × Bool)} {x y z : Operand}
end
structure DeT where
  i : Nat
  cs : List Value
  M : List Ent
end Go.Proofs.YtbbmhkdfdgnkpaaGreatDoor

/-
  Of no statement by itself: what MimeOpen gives, over MimeOk.
  Conditions: MimeOk, and each theorem's own.
-/
namespace Go.Proofs.YtbbmhkdfdgnkpaaGreatDoor
set_option maxRecDepth 10000
open Sl Fld Tok Mim
namespace Mim
/-- a name that is kept: it is none of the two that are looked at -/
def keepB (n : List By) : Bool := decide (n.length < 8) || (!decide (n.getD 0 0 = 67) && !decide (n.getD 0 0 = 99))
theorem small_c : ∀ c : By, small c = 99 → c = 67 ∨ c = 99 := by
  have h : ∀ c : Fin 256, small (BitVec.ofNat 8 c.val) = 99 → BitVec.ofNat 8 c.val = 67 ∨ BitVec.ofNat 8 c.val = 99 := by decide +kernel
  intro c
  have := h ⟨c.toNat, c.isLt⟩
  simpa using this
theorem keep_no {n m : List By} (hk : keepB n = true) (hm : m.length ≥ 8) (h0 : m.head? = some 99) : sameB n m = false := by
  cases h : sameB n m with
  | false => rfl
  | true =>
    have hl := same_len h
    have he : n.map small = m.map small := of_decide_eq_true h
    cases n with
    | nil => simp at hl; omega
    | cons c n =>
      cases m with
      | nil => cases h0
      | cons d m =>
        cases h0
        have hc : small c = small 99 := (List.cons.inj he).1
        have h99 : small 99 = 99 := by decide
        have := small_c c (hc.trans h99)
        unfold keepB at hk
        have h8 : ¬ (c :: n).length < 8 := by omega
        simp only [h8, decide_false, Bool.false_or, List.getD_cons_zero] at hk
        rcases this with rfl | rfl <;> simp at hk
def keptF (l : List PrB) : List PrB := l.filter fun p => keepB p.1
theorem kept_all {l : List PrB} {m : List By} (hm : m.length ≥ 8) (h0 : m.head? = some 99) : allB m (keptF l) = [] := by
  unfold allB keptF
  rw [List.filter_filter, List.map_eq_nil_iff, List.filter_eq_nil_iff]
  intro p _
  cases h : keepB p.1 with
  | false => simp
  | true => simp [keep_no h hm h0]
theorem all_app (n : List By) (a b : List PrB) : allB n (a ++ b) = allB n a ++ allB n b := by
  unfold allB
  rw [List.filter_append, List.map_append]
def opA : PrB := ([99, 79, 78, 84, 69, 78, 84, 45, 116, 89, 80, 69], [84, 101, 120, 116, 47, 88, 59, 32, 97, 61, 98])
def opB : PrB := ([67, 79, 78, 84, 69, 78, 84, 45, 116, 114, 97, 110, 115, 102, 101, 114, 45, 69, 78, 67, 79, 68, 73, 78, 71], [32, 66, 97, 115, 101, 54, 52])
def opC : List By := [90, 109, 56, 32, 61, 10]
def txN : List By := [116, 101, 120, 116, 47, 120]
theorem open_1 (Qd : List By → Except Nat (List By)) (l : List PrB) (b : List By) : readP Qd 8 (keptF l) b = .ok (.mk tpN [] 0 b []) := by
  have e1 : typB (keptF l) = (tpN, [], 0) := by unfold typB; rw [kept_all (by decide) rfl]
  have e2 : ceB (keptF l) = [] := by unfold ceB; rw [kept_all (by decide) rfl]
  unfold readP nodeR
  rw [e1, e2]
  rfl
theorem open_2 (Qd : List By → Except Nat (List By)) (l : List PrB) : readP Qd 8 (keptF l ++ [opA, opB]) opC = .ok (.mk txN [([97], [98])] 1 [102, 111] []) := by
  have a1 : allB ctN (keptF l ++ [opA, opB]) = [opA.2] := by
    rw [all_app, kept_all (by decide) rfl, List.nil_append]; decide
  have a2 : allB ceN (keptF l ++ [opA, opB]) = [opB.2] := by
    rw [all_app, kept_all (by decide) rfl, List.nil_append]; decide
  have e1 : typB (keptF l ++ [opA, opB]) = (txN, [([97], [98])], 0) := by
    unfold typB
    rw [a1]
    show paramsB opA.2 = _
    decide +kernel
  have e2 : ceB (keptF l ++ [opA, opB]) = b64 := by
    unfold ceB
    rw [a2]
    decide
  have e3 : armR opC = .ok [102, 111] := by
    have e : Arm.decB (Arm.bare opC) = some [102, 111] := by decide +kernel
    unfold armR
    rw [e]
  unfold readP nodeR
  rw [e1, e2]
  have hm : multiB txN = false := by decide
  have hcd : codB b64 = some 1 := by decide
  dsimp only
  rw [if_neg (by simp), hm, if_neg (by decide), hcd]
  dsimp only
  unfold bodyR
  rw [if_pos rfl, e3]
end Mim
theorem fieldS12 : szT Tryz.prog 51 = some 2 := by kernel_rfl
theorem fieldA12 : aggT Tryz.prog 51 = true := by kernel_rfl
theorem fieldI12 : EI Tryz.prog 51 (.agg (pc ([], [])).toArray) 2 32 := by unfold EI; kernel_rfl
theorem fieldZ12 : zc Tryz.prog 51 = some [Z [], Z []] := by kernel_rfl
theorem fsC12 : scal Tryz.prog 39 = true := by kernel_rfl
theorem has_app {M : List Ent} {b : Nat} {A : Obj → Prop} {wr : Bool} : ∀ N : List Ent, Has M b A wr → Has (N ++ M) b A wr
  | [], h => h
  | _ :: N, h => .there (has_app N h)
theorem JC.base12 {P : Program} {n : Nat} {w0 u : World} {S S' : List Nat} {Q : Exit → Act → World → Prop} {c : Code} {E : Env} {M M' : List Ent} (hM : ∀ w1, Holds u S M w1 → Holds w0 S' M' w1) (h : JC P n w0 S' Q c E M') : JC P n u S Q c E M := ⟨fun a w1 ha hw => h.go a w1 ha (hM w1 hw)⟩
theorem JC.fact12 {P : Program} {n : Nat} {w0 : World} {S : List Nat} {Q : Exit → Act → World → Prop} {c : Code} {E : Env} {M : List Ent} {F : Prop} (hF : ∀ w, Holds w0 S M w → F) (k : F → JC P n w0 S Q c E M) : JC P n w0 S Q c E M :=
  ⟨fun a w ha hw => (k (hF w hw)).go a w ha hw⟩
/-- what was made before, and stood all along, is one's own again -/
theorem holds_again {w0 u w1 : World} {X M : List Ent} (hx : Ext w0 u) (h : Holds u [] (X ++ cold M) w1) (hX : ∀ e ∈ X, e.wr = true) (hb : ∀ e ∈ M, w0.heap.size ≤ e.b ∧ e.wr = true) : Holds w0 [] (X ++ M) w1 := by
  refine ⟨hx.trans h.chg, ?_, fun e he => ?_⟩
  · have : (X ++ cold M).map Ent.b = (X ++ M).map Ent.b := by simp [cold, Function.comp_def]
    rw [← this]; exact h.nodup
  · rcases List.mem_append.1 he with he | he
    · refine ⟨(h.all e (List.mem_append_left _ he)).1, fun _ => .inr ?_⟩
      rcases (h.all e (List.mem_append_left _ he)).2 (hX e he) with h | h
      · cases h
      · exact Nat.le_trans hx.size h
    · exact ⟨(h.all ⟨e.b, e.A, false⟩ (List.mem_append_right _ (List.mem_map.2 ⟨e, he, rfl⟩))).1, fun _ => .inr (hb e he).1⟩
section
variable {P : Program} {n : Nat} {w0 : World} {S : List Nat} {ops : Array Oper} {Q : Exit → Act → World → Prop} {l : List Oper} {E : Env} {M M' M0 : List Ent} {d : Nat} {t e ty : TypeId} {pos : String} {aft : Array Edge} {x y : Operand}
/-- some pairs more -/
theorem JL.appendPP {z : Value} {by' bl k c : Nat} {L2 L : List Pr} (q : Acc) (hu : P.underlying t = some (.slice e)) (hi : EI P e z 2 by') (hq : q = none → L = []) (hk : L2.length = k) (h0 : 0 < k) (hx : ev E x = some (accV q L.length)) (hy : ev E y = some (.slice (some ⟨bl, 0, none⟩) k c))
    (hzz : z.cells.size = 2) (hsm : (L.length + k) * by' ≤ 140737488355328) (hsm2 : L.length + k < 9223372036854775808) (hd : Nat.blt d n = true)
    (kk : ∀ b' cap', JL P n w0 S ops Q l ((d, accV (some (b', cap')) (L ++ L2).length) :: E) (accP e (some (b', cap')) (L ++ L2) ++ M0)) :
    JL P n w0 S ops Q (⟨some d, .call ⟨.builtin .append, #[x, y], #[t, t]⟩, ty, pos, aft, none⟩ :: l) E (⟨bl, Row e (L2.flatMap pc), true⟩ :: (accP e q L ++ M0)) := by
  have hr : ∀ w, Holds w0 S (⟨bl, Row e (L2.flatMap pc), true⟩ :: (accP e q L ++ M0)) w → Reads w (some ⟨bl, 0, none⟩) (L2.flatMap pc) := fun w hw => by
    obtain ⟨o, ho, hA⟩ := hw.get (b := bl) (A := Row e (L2.flatMap pc)) (wr := true) .here
    exact Reads.block ho (Row.all _ hA)
  have eN : (L ++ L2).length = L.length + k := by rw [List.length_append, hk]
  have eF : (L ++ L2).flatMap pc = L.flatMap pc ++ L2.flatMap pc := List.flatMap_append
  have eL : (L2.flatMap pc).length = k * 2 := by rw [pc_len, hk]; omega
  have h1 : ∀ v ∈ L2.flatMap pc, v.oneCell' = true := fun v hv => by obtain ⟨p, _, hp⟩ := List.mem_flatMap.1 hv; exact Sl.pc_one v hp
  cases q with
  | none =>
    obtain rfl := hq rfl
    refine JL.append_nil (cs := L2.flatMap pc) (m := k) hu hi hx hy eL hr h0 hzz (by decide) (by simpa using hsm) (by simpa using hsm2) hd fun b' cap' _ => ?_
    have := kk b' cap'
    rw [show accV (some (b', cap')) ([] ++ L2 : List Pr).length = Value.slice (some ⟨b', 0, none⟩) k cap' by rw [List.nil_append, hk]; rfl] at this
    refine this.lessM ?_
    show Less (⟨b', Sl.Own e 2 ([] ++ L2 : List Pr).length cap' (([] ++ L2 : List Pr).flatMap pc), true⟩ :: M0) _
    rw [List.nil_append, hk]
    exact .keep _ _ _ _ _ _ (fun o h => h) (.drop _ _ _ (Less.refl _))
  | some r =>
    refine JL.append (cs := L2.flatMap pc) (m := k) (b := r.1) (cap := r.2) (k := L.length) (xs := L.flatMap pc) (fun b' cap' => ⟨bl, Row e (L2.flatMap pc), true⟩ :: (accP e (some (b', cap')) (L ++ L2) ++ M0)) hu hi hx hy (fun b' cap' => ?_) eL hr h1 hzz (by decide) hsm hsm2 hd fun b' cap' => ?_
    · show Repl (_ :: ⟨r.1, Sl.Own e 2 L.length r.2 (L.flatMap pc), true⟩ :: M0) _ _ _ _ (_ :: ⟨b', Sl.Own e 2 (L ++ L2).length cap' ((L ++ L2).flatMap pc), true⟩ :: M0)
      rw [eN, eF]
      exact .there .here
    · have := kk b' cap'
      rw [show accV (some (b', cap')) (L ++ L2).length = Value.slice (some ⟨b', 0, none⟩) (L.length + k) cap' by rw [eN]; rfl] at this
      exact this.lessM (.drop _ _ _ (Less.refl _))
end
section
variable {n : Nat} {E : Env} {C : World → Prop} {dst : Option Tmp} {ty : TypeId} {pos : String} {aft : Array Edge} {g : Option (Nat × Bool)} {x y : Operand}
theorem build_fld {a b : List Bt} (hx : ev E x = some (Z a)) (hy : ev E y = some (Z b)) : OQ Tryz.prog n E C ⟨dst, .build 51 #[(0, x), (1, y)], ty, pos, aft, g⟩ (.agg (pc (a, b)).toArray) := by
  refine OQ.run fun k hk w _ => ?_
  have h1 := hk.eval hx
  have h2 := hk.eval hy
  have h3 := run_build (P := Tryz.prog) w 51 #[(0, Z a), (1, Z b)] #[Z a, Z b] (by kernel_rfl)
  simp [execOp, h1, h2, Sem.run_bind, h3, pc]
theorem build_l1 {s : Sl8} (hx : ev E x = some s.v) : OQ Tryz.prog n E C ⟨dst, .build 41 #[(1, x)], ty, pos, aft, g⟩ (.agg #[nil2.v, s.v]) := by
  refine OQ.run fun k hk w _ => ?_
  have h1 := hk.eval hx
  have h3 := run_build (P := Tryz.prog) w 41 #[(1, s.v)] #[nil2.v, s.v] (by kernel_rfl)
  simp [execOp, h1, Sem.run_bind, h3]
end
structure OpT where
  i : Nat
  o : List Pr
  q : Acc
set_option maxHeartbeats 64000000 in
theorem law_mimeOpen {Qd : List Fld.By → Except Nat (List Fld.By)} (hM : MimeOk Qd) (f : Sl2) (s0 s : Sl8) (w : World) (hf : f.ok w) (_ : s0.ok w) (hz : small2 f) (hs : s.ok w) (hE : EncOk w) : Calls Tryz.prog 6 [.agg #[f.v, s0.v], s.v].toArray w fun e w' => e = .returned (.bool true) ∧ Ext w w' := by
  refine enter (n := 128) Tryz.func6 rfl rfl rfl (Holds.start w []) ?_
  refine JC.seq (JC.region (JL.box (r := [f.v, s0.v]) rfl rfl rfl fun b2 _ => ?_))
  have cs := fun (M : List Ent) (w' : World) (hw' : Holds w [] M w') => speaks12_any hM w' (hE.holds hw')
  repeat (first | refine JL.q (by first | (apply OQ.callx (vs := []); exact goes_speaks12; exact rfl; exact (cs _)) | (apply OQ.not; exact rfl) | (apply OQ.assign; exact rfl)) rfl ?_ | refine JC.seq ?_ | refine JC.region ?_ | refine JL.nil ?_ | refine JE.next ?_)
  refine JC.cond rfl (fun h => by cases h) (fun _ => ?_)
  cases g0 : decide ((30 : Int) < (f.l.length : Int)) <;> cases g1 : decide ((1000 : Int) < (s.l.length : Int))
  all_goals (repeat (first | refine JL.q (by first | (apply OQ.load; exact fsC12; exact rfl; exact .here; exact (Row.cell (v := f.v) rfl)) | (apply OQ.len; exact Tryz.underlying39; exact rfl) | (apply OQ.len; exact Tryz.underlying22; exact rfl) | (apply OQ.gtrB (b := 30); exact rfl; exact rfl; exact g0) | (apply OQ.gtrB (b := 1000); exact rfl; exact rfl; exact g1) | (apply OQ.pick_t; exact rfl; exact rfl) | (apply OQ.pick_f; exact rfl; exact rfl) | (apply OQ.move; exact rfl) | (apply OQ.fld; exact rfl; exact rfl; exact rfl; exact (by decide); exact rfl)) rfl ?_ | refine JC.seq ?_ | refine JC.region ?_ | refine JC.skip ?_ | refine JL.nil ?_ | refine JE.next ?_ | refine JL.gon rfl rfl ?_ | refine JL.gskip rfl rfl rfl rfl ?_))
  all_goals refine JC.cond rfl (fun h => ?_) (fun h => ?_)
  all_goals first | (exfalso; revert h; decide) | skip
  all_goals clear h
  all_goals first
    | ((repeat (first | refine JL.q (by first | (apply OQ.move; exact rfl) | (apply OQ.assign; exact rfl)) rfl ?_ | refine JC.seq ?_ | refine JC.region ?_ | refine JC.skip ?_ | refine JL.nil ?_ | refine JE.next ?_))
       refine JC.ret ?_
       (repeat (refine JE.then_ret ?_))
       exact JE.ret1 rfl (RV.tmp rfl) fun w' hw => ⟨rfl, hw.chg⟩)
    | skip
  have l1 : f.l.length ≤ 30 := by have := of_decide_eq_false g0; omega
  have l2 : s.l.length ≤ 1000 := by have := of_decide_eq_false g1; omega
  clear g0 g1 cs
  repeat (first | refine JL.q (by first | (apply build_l1 (s := s); exact rfl) | (apply OQ.move; exact rfl)) rfl ?_ | refine JC.seq ?_ | refine JC.region ?_ | refine JC.skip ?_ | refine JE.next ?_)
  refine JL.alloc letZ12 rfl fun b5 _ => ?_
  refine JL.store_all (cs := [nil2.v, s.v]) letS12 rfl rfl rfl rfl .here rfl ?_
  repeat (first | refine JL.q (by first | (apply OQ.load; exact fsC12; exact rfl; exact (.there .here); exact (Row.cell (v := f.v) rfl)) | (apply OQ.len; exact Tryz.underlying39; exact rfl) | (apply OQ.move; exact rfl) | (apply OQ.fld; exact rfl; exact rfl; exact rfl; exact (by decide); exact rfl)) rfl ?_ | refine JC.seq ?_ | refine JC.region ?_ | refine JC.block ?_ | refine JL.nil ?_ | refine JE.next ?_)
  refine JC.loop (fun z : OpT => [(1, s.v), (5, Pt b5 0), (24, f.v), (25, N f.l.length), (26, N z.i)]) (fun z => accP 51 z.q z.o ++ [⟨b5, Row 41 [accV z.q z.o.length, s.v], true⟩]) (fun z => f.l.length - z.i) (fun z => z.i ≤ f.l.length ∧ z.o.length ≤ z.i ∧ (z.q = none → z.o = []) ∧ z.o = keptF (f.l.take z.i)) ⟨0, [], none⟩ ⟨Nat.zero_le _, Nat.le_refl _, fun _ => rfl, rfl⟩ (by repeat (first | exact SubE.nil | refine SubE.cons _ _ _ rfl ?_)) (.keep _ _ _ _ _ _ (fun _ h => h) (.nil _)) ?_
  rintro ⟨i, o, q⟩ ⟨hi, ho, hq, hp⟩
  dsimp only at hi ho hq hp ⊢
  repeat (first | refine JL.q (by (apply OQ.lssN; exact rfl; exact rfl)) rfl ?_ | refine JC.seq ?_ | refine JC.region ?_ | refine JL.nil ?_ | refine JE.next ?_)
  refine JC.cond rfl (fun h => ?_) (fun h => ?_)
  · have hi' : i < f.l.length := of_decide_eq_true h
    clear h hi
    obtain ⟨ba, ja, eA, la, ca1, ca2⟩ := hf.at hi'
    have vA : f.v = .slice (some ⟨ba, ja, none⟩) f.l.length f.cap := by rw [← eA]; rfl
    have cA := pair_cells ca1 ca2
    have htk : f.l.take (i + 1) = f.l.take i ++ [f.l.getD i ([], [])] := by
      rw [List.take_add_one, List.getD_eq_getElem?_getD, List.getElem?_eq_getElem hi']; rfl
    have hstep : keptF (f.l.take (i + 1)) = o ++ (if keepB (f.l.getD i ([], [])).1 then [f.l.getD i ([], [])] else []) := by
      rw [htk, hp]
      unfold keptF
      rw [List.filter_append]
      congr 1
      rw [List.filter_cons, List.filter_nil]
    generalize f.l.getD i ([], []) = c at hstep cA
    rw [vA]
    repeat (first | refine JL.q (by first | (apply OQ.idxS; exact Tryz.underlying39; exact fieldS12; exact rfl; exact rfl; exact hi') | (apply OQ.load_agg_old (cs := pc c); exact fieldA12; exact rfl; exact fieldS12; exact la; exact (by simp); exact cA)) rfl ?_ | refine JC.seq ?_ | refine JC.region ?_ | refine JC.block ?_ | refine JC.skip ?_ | refine JE.next ?_)
    refine JL.alloc fieldZ12 rfl fun b7 _ => ?_
    refine JL.store_all (cs := pc c) fieldS12 rfl rfl rfl rfl .here rfl ?_
    cases g0 : decide ((c.1.length : Int) < 8)
    · have g0' := of_decide_eq_false g0
      have h8 : decide (c.1.length < 8) = false := decide_eq_false (by omega)
      cases g1 : decide (c.1.getD 0 0 = 67)
      · cases g2 : decide (c.1.getD 0 0 = 99)
        · have hk : keepB c.1 = true := by unfold keepB; rw [h8, g1, g2]; rfl
          repeat (first | refine JL.q (by first | (apply OQ.load; exact strC; exact rfl; exact .here; exact (Row.cell (v := Z c.1) rfl)) | (apply OQ.lenS; exact Tryz.underlying9; exact rfl) | (apply OQ.lssB (a := (c.1.length : Int)) (b := 8); exact rfl; exact rfl; exact g0) | (apply OQ.idxZ (l := c.1) (i := 0); exact Tryz.underlying9; exact rfl; exact rfl; exact (by omega)) | (apply OQ.ne8B (a := c.1.getD 0 0) (b := 67); exact rfl; exact rfl; exact g1) | (apply OQ.ne8B (a := c.1.getD 0 0) (b := 99); exact rfl; exact rfl; exact g2) | (apply OQ.pick_t; exact rfl; exact rfl) | (apply OQ.pick_f; exact rfl; exact rfl) | (apply OQ.move; exact rfl) | (apply OQ.fld; exact rfl; exact rfl; exact rfl; exact (by decide); exact rfl)) rfl ?_ | refine JC.seq ?_ | refine JC.region ?_ | refine JL.nil ?_ | refine JE.next ?_ | refine JL.gon rfl rfl ?_)
          refine JC.cond rfl (fun _ => ?_) (fun h => by cases h)
          rw [hk, if_pos rfl] at hstep
          repeat (first | refine JL.q (by first | (apply OQ.load; exact fsC12; exact rfl; exact (.there (has_app _ .here)); exact (Row.cell (v := accV q o.length) rfl)) | (apply OQ.load_agg (cs := pc c); exact fieldA12; exact fieldS12; exact rfl; exact .here; exact rfl; exact Row.all) | (apply OQ.fld; exact rfl; exact rfl; exact rfl; exact (by decide); exact rfl)) rfl ?_ | refine JC.region ?_)
          refine JL.litA (cs := pc c) Tryz.underlying39 fieldI12 rfl (by decide) (by decide) rfl rfl rfl fun bl _ => ?_
          refine JL.appendP (p := c) (L := o) q Tryz.underlying39 fieldI12 hq rfl rfl rfl (by omega) (by omega) rfl fun b' cap' => ?_
          repeat (refine JL.q (by (apply OQ.fld; exact rfl; exact rfl; exact rfl; exact (by decide); exact rfl)) rfl ?_)
          refine JL.store_eq (b := b5) (r := [accV q o.length, s.v]) (r' := [accV (some (b', cap')) (o ++ [c]).length, s.v]) rfl rfl rfl rfl rfl (.there .here) (show 0 < 2 from Nat.zero_lt_succ _) rfl ?_
          repeat (first | refine JL.q (by first | (apply OQ.move; exact rfl) | (apply OQ.addN; exact rfl; exact rfl; exact (by (try simp only []); omega))) rfl ?_ | refine JC.region ?_ | refine JL.nil ?_ | refine JE.next ?_ | refine JE.blk_normal ?_)
          rw [← vA]
          have eN : (o ++ [c]).length = o.length + 1 := List.length_append
          exact JE.again (i := OpT.mk i o q) (OpT.mk (i + 1) (o ++ [c]) (some (b', cap'))) ⟨hi', by dsimp only; rw [eN]; omega, nofun, hstep.symm⟩ (by dsimp only; omega) (by repeat (first | exact SubE.nil | refine SubE.cons _ _ _ rfl ?_)) (Less.refl _)
        · have hk : keepB c.1 = false := by unfold keepB; rw [h8, g1, g2]; rfl
          repeat (first | refine JL.q (by first | (apply OQ.load; exact strC; exact rfl; exact .here; exact (Row.cell (v := Z c.1) rfl)) | (apply OQ.lenS; exact Tryz.underlying9; exact rfl) | (apply OQ.lssB (a := (c.1.length : Int)) (b := 8); exact rfl; exact rfl; exact g0) | (apply OQ.idxZ (l := c.1) (i := 0); exact Tryz.underlying9; exact rfl; exact rfl; exact (by omega)) | (apply OQ.ne8B (a := c.1.getD 0 0) (b := 67); exact rfl; exact rfl; exact g1) | (apply OQ.ne8B (a := c.1.getD 0 0) (b := 99); exact rfl; exact rfl; exact g2) | (apply OQ.pick_t; exact rfl; exact rfl) | (apply OQ.pick_f; exact rfl; exact rfl) | (apply OQ.move; exact rfl) | (apply OQ.fld; exact rfl; exact rfl; exact rfl; exact (by decide); exact rfl)) rfl ?_ | refine JC.seq ?_ | refine JC.region ?_ | refine JL.nil ?_ | refine JE.next ?_ | refine JL.gon rfl rfl ?_)
          refine JC.cond rfl (fun h => by cases h) (fun _ => ?_)
          rw [hk, if_neg (by decide), List.append_nil] at hstep
          repeat (first | refine JL.q (by first | (apply OQ.move; exact rfl) | (apply OQ.addN; exact rfl; exact rfl; exact (by (try simp only []); omega))) rfl ?_ | refine JC.region ?_ | refine JC.skip ?_ | refine JL.nil ?_ | refine JE.next ?_ | refine JE.blk_normal ?_)
          rw [← vA]
          exact JE.again (i := OpT.mk i o q) (OpT.mk (i + 1) o q) ⟨hi', by dsimp only; omega, hq, hstep.symm⟩ (by dsimp only; omega) (by repeat (first | exact SubE.nil | refine SubE.cons _ _ _ rfl ?_)) (.drop _ _ _ (Less.refl _))
      · have hk : keepB c.1 = false := by unfold keepB; rw [h8, g1]; rfl
        repeat (first | refine JL.q (by first | (apply OQ.load; exact strC; exact rfl; exact .here; exact (Row.cell (v := Z c.1) rfl)) | (apply OQ.lenS; exact Tryz.underlying9; exact rfl) | (apply OQ.lssB (a := (c.1.length : Int)) (b := 8); exact rfl; exact rfl; exact g0) | (apply OQ.idxZ (l := c.1) (i := 0); exact Tryz.underlying9; exact rfl; exact rfl; exact (by omega)) | (apply OQ.ne8B (a := c.1.getD 0 0) (b := 67); exact rfl; exact rfl; exact g1) | (apply OQ.pick_f; exact rfl; exact rfl) | (apply OQ.move; exact rfl) | (apply OQ.fld; exact rfl; exact rfl; exact rfl; exact (by decide); exact rfl)) rfl ?_ | refine JC.seq ?_ | refine JC.region ?_ | refine JL.nil ?_ | refine JE.next ?_ | refine JL.gon rfl rfl ?_ | refine JL.gskip rfl rfl rfl rfl ?_)
        refine JC.cond rfl (fun h => by cases h) (fun _ => ?_)
        rw [hk, if_neg (by decide), List.append_nil] at hstep
        repeat (first | refine JL.q (by first | (apply OQ.move; exact rfl) | (apply OQ.addN; exact rfl; exact rfl; exact (by (try simp only []); omega))) rfl ?_ | refine JC.region ?_ | refine JC.skip ?_ | refine JL.nil ?_ | refine JE.next ?_ | refine JE.blk_normal ?_)
        rw [← vA]
        exact JE.again (i := OpT.mk i o q) (OpT.mk (i + 1) o q) ⟨hi', by dsimp only; omega, hq, hstep.symm⟩ (by dsimp only; omega) (by repeat (first | exact SubE.nil | refine SubE.cons _ _ _ rfl ?_)) (.drop _ _ _ (Less.refl _))
    · have g0' := of_decide_eq_true g0
      have h8 : decide (c.1.length < 8) = true := decide_eq_true (by omega)
      have hk : keepB c.1 = true := by unfold keepB; rw [h8]; rfl
      repeat (first | refine JL.q (by first | (apply OQ.load; exact strC; exact rfl; exact .here; exact (Row.cell (v := Z c.1) rfl)) | (apply OQ.lenS; exact Tryz.underlying9; exact rfl) | (apply OQ.lssB (a := (c.1.length : Int)) (b := 8); exact rfl; exact rfl; exact g0) | (apply OQ.pick_t; exact rfl; exact rfl) | (apply OQ.move; exact rfl) | (apply OQ.fld; exact rfl; exact rfl; exact rfl; exact (by decide); exact rfl)) rfl ?_ | refine JC.seq ?_ | refine JC.region ?_ | refine JL.nil ?_ | refine JE.next ?_ | refine JL.gskip rfl rfl rfl rfl ?_ | refine JL.gskipU rfl rfl rfl rfl ?_)
      refine JC.cond rfl (fun _ => ?_) (fun h => by cases h)
      rw [hk, if_pos rfl] at hstep
      repeat (first | refine JL.q (by first | (apply OQ.load; exact fsC12; exact rfl; exact (.there (has_app _ .here)); exact (Row.cell (v := accV q o.length) rfl)) | (apply OQ.load_agg (cs := pc c); exact fieldA12; exact fieldS12; exact rfl; exact .here; exact rfl; exact Row.all) | (apply OQ.fld; exact rfl; exact rfl; exact rfl; exact (by decide); exact rfl)) rfl ?_ | refine JC.region ?_)
      refine JL.litA (cs := pc c) Tryz.underlying39 fieldI12 rfl (by decide) (by decide) rfl rfl rfl fun bl _ => ?_
      refine JL.appendP (p := c) (L := o) q Tryz.underlying39 fieldI12 hq rfl rfl rfl (by omega) (by omega) rfl fun b' cap' => ?_
      repeat (refine JL.q (by (apply OQ.fld; exact rfl; exact rfl; exact rfl; exact (by decide); exact rfl)) rfl ?_)
      refine JL.store_eq (b := b5) (r := [accV q o.length, s.v]) (r' := [accV (some (b', cap')) (o ++ [c]).length, s.v]) rfl rfl rfl rfl rfl (.there .here) (show 0 < 2 from Nat.zero_lt_succ _) rfl ?_
      repeat (first | refine JL.q (by first | (apply OQ.move; exact rfl) | (apply OQ.addN; exact rfl; exact rfl; exact (by (try simp only []); omega))) rfl ?_ | refine JC.region ?_ | refine JL.nil ?_ | refine JE.next ?_ | refine JE.blk_normal ?_)
      rw [← vA]
      have eN : (o ++ [c]).length = o.length + 1 := List.length_append
      exact JE.again (i := OpT.mk i o q) (OpT.mk (i + 1) (o ++ [c]) (some (b', cap'))) ⟨hi', by dsimp only; rw [eN]; omega, nofun, hstep.symm⟩ (by dsimp only; omega) (by repeat (first | exact SubE.nil | refine SubE.cons _ _ _ rfl ?_)) (Less.refl _)
  · have hi' : ¬ i < f.l.length := of_decide_eq_false h
    clear h
    rw [List.take_of_length_le (by omega)] at hp
    have hol : o.length ≤ 30 := by omega
    have hsmo : ∀ p ∈ o, p.1.length < 9223372036854775808 ∧ p.2.length < 9223372036854775808 := fun p hp' => hz p (by rw [hp] at hp'; exact (List.mem_filter.1 hp').1)
    have hnct : ∀ p ∈ o, ¬ (sameB p.1 ctN = true ∨ sameB p.1 ceN = true) := fun p hp' h => by
      have hk : keepB p.1 = true := by rw [hp] at hp'; simpa using (List.mem_filter.1 hp').2
      rcases h with h | h
      · rw [keep_no hk (by decide) rfl] at h; cases h
      · rw [keep_no hk (by decide) rfl] at h; cases h
    have hr1 : readP Qd 8 o s.l = .ok (.mk tpN [] 0 s.l []) := by rw [hp]; exact open_1 Qd f.l s.l
    have hr2 : readP Qd 8 (o ++ [opA, opB]) opC = .ok (.mk txN [([97], [98])] 1 [102, 111] []) := by rw [hp]; exact open_2 Qd f.l
    clear hp ho hi hi' hz hf
    have hwr : ∀ e ∈ accP 51 q o ++ [⟨b5, Row 41 [accV q o.length, s.v], true⟩], e.wr = true := fun e he => by
      rcases List.mem_append.1 he with h | h
      · cases q with
        | none => cases h
        | some r => rw [List.mem_singleton.1 h]
      · rw [List.mem_singleton.1 h]
    refine JC.fact12 (F := ∀ e ∈ accP 51 q o ++ [⟨b5, Row 41 [accV q o.length, s.v], true⟩], w.heap.size ≤ e.b ∧ e.wr = true) (fun w' hw' e he => ⟨((hw'.all e he).2 (hwr e he)).elim nofun id, hwr e he⟩) fun hold => ?_
    refine JC.reb (S' := []) (M' := cold (accP 51 q o ++ [⟨b5, Row 41 [accV q o.length, s.v], true⟩])) (fun w1 hw1 => Holds.cold hw1) fun w1 hw1 => ?_
    have hx1 : Ext w w1 := hw1.chg
    have hs1 : s.ok w1 := hs.holds hw1 rfl
    have hF : (accLp q o).ok w1 := accLp_ok hw1
    have hFl : (accLp q o).l = o := accLp_l hq
    have hFv : (accLp q o).v = accV q o.length := accLp_v q o
    clear hw1
    have hcold : cold (accP 51 q o ++ [⟨b5, Row 41 [accV q o.length, s.v], true⟩]) = cold (accP 51 q o) ++ [⟨b5, Row 41 [accV q o.length, s.v], false⟩] := by simp [cold]
    have hcw : ∀ e ∈ cold (accP 51 q o ++ [⟨b5, Row 41 [accV q o.length, s.v], true⟩]), e.wr = true → e.b ∈ ([] : List Nat) := fun e he hr => by
      obtain ⟨x, _, rfl⟩ := List.mem_map.1 he
      cases hr
    have hhas : Has (cold (accP 51 q o ++ [⟨b5, Row 41 [accV q o.length, s.v], true⟩])) b5 (Row 41 [accV q o.length, s.v]) false := by
      rw [hcold]; exact has_app _ .here
    repeat (first | refine JL.q (by (apply OQ.load_agg (cs := [accV q o.length, s.v]); exact letA12; exact letS12; exact rfl; exact hhas; exact rfl; exact Row.all)) rfl ?_ | refine JC.seq ?_ | refine JC.region ?_ | refine JC.exit ?_ | refine JE.next ?_ | refine JE.then_exit ?_ | refine JE.blk_hit ?_)
    refine JL.callw (vs := [.agg #[accV q o.length, s.v]]) (S' := []) (ι := { cs : List Value // cs.length = 5 }) (fun c => .tuple #[.agg c.1.toArray, N (codeE (readP Qd 8 o s.l))]) (fun c w3 => ∀ p, readP Qd 8 o s.l = .ok p → IsPart 10 w3 p c.1) (cold (accP 51 q o ++ [⟨b5, Row 41 [accV q o.length, s.v], true⟩])) goes_mread rfl rfl (fun w' hw' => by
      have := hM.read (accLp q o) s w' ((hE.ext hx1).holds hw') (hF.holds hw' rfl) (hs1.holds hw' rfl) (by rw [small2, hFl]; exact hsmo) (by rw [hFl]; omega) (by omega) (by rw [hFl]; exact fun p hp h => absurd h (hnct p hp))
      rwa [hFl, hFv] at this) (Less.refl _) hcw ?_
    rintro ⟨c, hc⟩ w2 hw2 hR
    dsimp only at hR ⊢
    replace hx1 := hx1.trans hw2.chg
    replace hs1 : s.ok w2 := hs1.holds hw2 rfl
    clear hw2 hF
    obtain ⟨ps, body, ad, cap, subs, rfl, ⟨okps, lps⟩, ⟨okb, lb⟩, _⟩ := hR _ hr1
    rw [hr1]
    have h0 : decide (((0 : Nat) : Int) = ((0 : Nat) : Int)) = true := rfl
    have hps : decide ((ps.l.length : Int) = ((0 : Nat) : Int)) = true := by rw [lps]; rfl
    have lb' : body.l = s.l := lb
    have hsm : ∀ M w', Holds w2 [] M w' → Calls Tryz.prog 12 [body.v, s.v].toArray w' fun e w'' => e = .returned (.bool true) ∧ Ext w' w'' := fun M w' hw' => same_t rfl rfl (okb.holds hw' rfl) (hs1.holds hw' rfl) (by rw [lb']; omega) lb'
    repeat (refine JL.q (by first | (apply OQ.extract; exact rfl; exact rfl) | (apply OQ.move; exact rfl)) rfl ?_)
    refine JL.alloc ptZ rfl fun b8 _ => ?_
    refine JL.store_all (cs := [Z tpN, ps.v, .int .i64 0, body.v, .slice ad 0 cap]) ptS rfl rfl rfl rfl .here rfl ?_
    repeat (first | refine JL.q (by first | (apply OQ.neB (a := ((0 : Nat) : Int)) (b := ((0 : Nat) : Int)); exact rfl; exact rfl; exact h0) | (apply OQ.load; exact strC; exact rfl; exact .here; exact (Row.cell (v := Z tpN) rfl)) | (apply OQ.neSB (l := tpN) (r := tpN); exact rfl; exact rfl; exact (decide_eq_true rfl)) | (apply OQ.load; exact inC; exact rfl; exact .here; exact (Row.cell (v := .int .i64 0) rfl)) | (apply OQ.load; exact prC; exact rfl; exact .here; exact (Row.cell (v := ps.v) rfl)) | (apply OQ.len; exact Tryz.underlying33; exact rfl) | (apply OQ.neB (a := (ps.l.length : Int)) (b := ((0 : Nat) : Int)); exact rfl; exact rfl; exact hps) | (apply OQ.load; exact ptC; exact rfl; exact .here; exact (Row.cell (v := .slice ad 0 cap) rfl)) | (apply OQ.len; exact Tryz.underlying34; exact rfl) | (apply OQ.load; exact bsCQ; exact rfl; exact .here; exact (Row.cell (v := body.v) rfl)) | (apply OQ.callx (vs := [body.v, s.v]); exact goes_same; exact rfl; exact (hsm _)) | (apply OQ.not; exact rfl) | (apply OQ.pick_f; exact rfl; exact rfl) | (apply OQ.move; exact rfl) | (apply OQ.assign; exact rfl) | (apply OQ.fld; exact rfl; exact rfl; exact rfl; exact (by decide); exact rfl)) rfl ?_ | refine JC.seq ?_ | refine JC.region ?_ | refine JL.nil ?_ | refine JE.next ?_ | refine JL.gon rfl rfl ?_)
    refine JC.cond rfl (fun h => by cases h) (fun _ => ?_)
    refine JC.base12 (w0 := w) (M' := ⟨b8, Row 36 [Z tpN, ps.v, .int .i64 0, body.v, .slice ad 0 cap], true⟩ :: (accP 51 q o ++ [⟨b5, Row 41 [accV q o.length, s.v], true⟩])) (fun w3 hw3 => by
      refine holds_again (X := [⟨b8, Row 36 [Z tpN, ps.v, .int .i64 0, body.v, .slice ad 0 cap], true⟩]) (M := accP 51 q o ++ [⟨b5, Row 41 [accV q o.length, s.v], true⟩]) hx1 ?_ (fun e he => ?_) hold
      · exact hw3
      · rw [List.mem_singleton.1 he]) ?_
    clear hx1 hs1 hsm okps okb hR hcw hhas hcold
    repeat (first | refine JL.q (by first | (apply OQ.load; exact fsC12; exact rfl; exact (.there (has_app _ .here)); exact (Row.cell (v := accV q o.length) rfl)) | (apply build_fld (a := opA.1) (b := opA.2); exact rfl; exact rfl) | (apply build_fld (a := opB.1) (b := opB.2); exact rfl; exact rfl) | (apply OQ.fld; exact rfl; exact rfl; exact rfl; exact (by decide); exact rfl)) rfl ?_ | refine JC.seq ?_ | refine JC.region ?_ | refine JC.skip ?_ | refine JE.next ?_)
    refine JL.litA2 (cs := pc opA) (ds := pc opB) Tryz.underlying39 fieldI12 rfl (by decide) (by decide) rfl rfl rfl rfl rfl fun bl _ => ?_
    refine JL.perm ?_ (.cons _ (List.perm_middle (l₁ := accP 51 q o)).symm)
    refine JL.appendPP (L2 := [opA, opB]) (L := o) (k := 2) q Tryz.underlying39 fieldI12 hq rfl (by decide) rfl rfl rfl (by omega) (by omega) rfl fun bq cq => ?_
    repeat (refine JL.q (by (apply OQ.fld; exact rfl; exact rfl; exact rfl; exact (by decide); exact rfl)) rfl ?_)
    refine JL.store_eq (b := b5) (r := [accV q o.length, s.v]) (r' := [accV (some (bq, cq)) (o ++ [opA, opB]).length, s.v]) rfl rfl rfl rfl rfl (.there (.there .here)) (show 0 < 2 from Nat.zero_lt_succ _) rfl ?_
    repeat (first | refine JC.seq ?_ | refine JC.region ?_ | refine JL.nil ?_ | refine JE.next ?_)
    refine JL.litL (xs := opC.map fun c => .const (U8 c)) (vs := opC.map U8) Tryz.underlying22 u8e rfl rfl rfl rfl (fun v hv => by obtain ⟨c, _, rfl⟩ := List.mem_map.1 hv; rfl) rfl (by decide) (by decide) rfl fun b6 _ => ?_
    refine JL.mark (r := opC.map U8) (te := 5) Tryz.underlying22 Tryz.underlying5 rfl .here rfl ?_
    repeat (refine JL.q (by (apply OQ.fld; exact rfl; exact rfl; exact rfl; exact (by decide); exact rfl)) rfl ?_)
    refine JL.store_eq (b := b5) (j := 1) (r := [accV (some (bq, cq)) (o ++ [opA, opB]).length, s.v]) (r' := [accV (some (bq, cq)) (o ++ [opA, opB]).length, Sl8.v ⟨some ⟨b6, 0, none⟩, 6, opC⟩]) rfl rfl rfl rfl rfl (.there (.there (.there .here))) (show 1 < 2 by decide) rfl ?_
    repeat (first | refine JL.q (by (apply OQ.load_agg (cs := [accV (some (bq, cq)) (o ++ [opA, opB]).length, Sl8.v ⟨some ⟨b6, 0, none⟩, 6, opC⟩]); exact letA12; exact letS12; exact rfl; exact (.there (.there (.there .here))); exact rfl; exact Row.all)) rfl ?_ | refine JC.seq ?_ | refine JC.region ?_ | refine JL.nil ?_ | refine JE.next ?_)
    have hO : (accLp (some (bq, cq)) (o ++ [opA, opB])).l = o ++ [opA, opB] := rfl
    refine JL.callw (vs := [.agg #[accV (some (bq, cq)) (o ++ [opA, opB]).length, Sl8.v ⟨some ⟨b6, 0, none⟩, 6, opC⟩]]) (S' := [b8]) (ι := { cs : List Value // cs.length = 5 }) (fun c => .tuple #[.agg c.1.toArray, N (codeE (readP Qd 8 (o ++ [opA, opB]) opC))]) (fun c w3 => ∀ p, readP Qd 8 (o ++ [opA, opB]) opC = .ok p → IsPart 10 w3 p c.1) [⟨b8, Row 36 [Z tpN, ps.v, .int .i64 0, body.v, .slice ad 0 cap], true⟩] goes_mread rfl rfl (fun w' hw' => hM.read (accLp (some (bq, cq)) (o ++ [opA, opB])) ⟨some ⟨b6, 0, none⟩, 6, opC⟩ w' (hE.holds hw') (sl2_own hw' (.there .here)) ⟨show opC.length ≤ 6 by decide, (by obtain ⟨ob, hob, hA⟩ := hw'.get .here; exact Reads.block hob (Frz.all _ hA))⟩ (fun p hp => ?_) (by rw [hO, List.length_append]; show _ + 2 ≤ 60; omega) (show opC.length ≤ 20000 by decide) (fun p hp h => ?_)) (.drop _ _ _ (.drop _ _ _ (.keep _ _ _ _ _ _ (fun _ h => h) (.nil _)))) (by intro e he hr; rw [List.mem_singleton.1 he]; exact List.mem_singleton.2 rfl) ?_
    · rcases List.mem_append.1 hp with h | h
      · exact hsmo p h
      · simp only [List.mem_cons, List.not_mem_nil, or_false] at h
        rcases h with rfl | rfl <;> exact ⟨by decide, by decide⟩
    · rcases List.mem_append.1 hp with h' | h'
      · exact absurd h (hnct p h')
      · simp only [List.mem_cons, List.not_mem_nil, or_false] at h'
        rcases h' with rfl | rfl <;> decide
    rintro ⟨c, hc⟩ w3 hw3 hR
    dsimp only at hR ⊢
    have hx3 : Ext w w3 := hw3.chg
    have hb8 : w.heap.size ≤ b8 := ((hw3.all ⟨b8, Row 36 [Z tpN, ps.v, .int .i64 0, body.v, .slice ad 0 cap], true⟩ (.tail _ (.tail _ (.head _)))).2 rfl).elim nofun id
    obtain ⟨o8, ho8, hA8⟩ := hw3.get (b := b8) (A := Row 36 [Z tpN, ps.v, .int .i64 0, body.v, .slice ad 0 cap]) (wr := true) (.there (.there .here))
    subst hA8
    clear hw3
    obtain ⟨ps', body', ad', cap', subs', rfl, ⟨okps', lps'⟩, ⟨okb', lb2⟩, _⟩ := hR _ hr2
    rw [hr2]
    have hps' : decide ((ps'.l.length : Int) = ((1 : Nat) : Int)) = true := by rw [lps']; rfl
    have hbl : body'.l = [102, 111] := lb2
    have hne : ∀ a, body'.ad = some a → a.block ∉ [b8] := fun a ha hm => by
      obtain ⟨bb, jb, e1, c1⟩ := okb'.reads 0 (U8 102) (by rw [hbl]; rfl)
      rw [e1] at ha
      cases ha
      obtain rfl : bb = b8 := List.mem_singleton.1 hm
      unfold World.cell? at c1
      rw [ho8] at c1
      have c2 : [Z tpN, ps.v, .int .i64 0, body.v, .slice ad 0 cap][jb + 0]? = some (U8 102) := by simpa using c1
      generalize jb + 0 = k at c2
      match k, c2 with
      | 0, h => cases h
      | 1, h => cases h
      | 2, h => cases h
      | 3, h => cases h
      | 4, h => cases h
      | k + 5, h => cases h
    have hbd : ∀ w', Holds w3 [b8] [⟨b8, Row 36 [Z txN, ps'.v, .int .i64 1, body'.v, .slice ad' 0 cap'], true⟩] w' → body'.ok w' := fun w' hw' => ⟨okb'.len, hw'.reads okb'.reads fun _ a ha => hne a ha⟩
    repeat (refine JL.q (by first | (apply OQ.extract; exact rfl; exact rfl) | (apply OQ.move; exact rfl)) rfl ?_)
    refine JL.store_all (cs := [Z txN, ps'.v, .int .i64 1, body'.v, .slice ad' 0 cap']) ptS rfl rfl rfl rfl .here rfl ?_
    repeat (first | refine JL.q (by first | (apply OQ.eqB (a := ((0 : Nat) : Int)) (b := ((0 : Nat) : Int)); exact rfl; exact rfl; exact h0) | (apply OQ.load; exact strC; exact rfl; exact .here; exact (Row.cell (v := Z txN) rfl)) | (apply OQ.eqS_t (l := txN) (r := txN); exact rfl; exact rfl; exact rfl) | (apply OQ.load; exact inC; exact rfl; exact .here; exact (Row.cell (v := .int .i64 1) rfl)) | (apply OQ.eqB (a := (1 : Int)) (b := (1 : Int)); exact rfl; exact rfl; exact rfl) | (apply OQ.load; exact prC; exact rfl; exact .here; exact (Row.cell (v := ps'.v) rfl)) | (apply OQ.len; exact Tryz.underlying33; exact rfl) | (apply OQ.eqB (a := (ps'.l.length : Int)) (b := ((1 : Nat) : Int)); exact rfl; exact rfl; exact hps') | (apply OQ.load; exact bsCQ; exact rfl; exact .here; exact (Row.cell (v := body'.v) rfl)) | (apply OQ.b2s (s := body'); exact Tryz.underlying22; exact Tryz.underlying5; exact Tryz.underlying9; exact rfl; exact hbd) | (apply OQ.eqS_t (l := body'.l) (r := [102, 111]); exact rfl; exact rfl; exact hbl) | (apply OQ.pick_t; exact rfl; exact rfl) | (apply OQ.move; exact rfl) | (apply OQ.assign; exact rfl) | (apply OQ.fld; exact rfl; exact rfl; exact rfl; exact (by decide); exact rfl)) rfl ?_ | refine JC.seq ?_ | refine JC.region ?_ | refine JL.nil ?_ | refine JE.next ?_ | refine JL.gon rfl rfl ?_)
    refine JC.ret ?_
    skip
    exact JE.ret1 rfl (RV.tmp rfl) fun w' hw => ⟨rfl, Chg.over hx3 hw.chg (fun k hk => by rw [List.mem_singleton.1 hk]; exact hb8)⟩
end Go.Proofs.YtbbmhkdfdgnkpaaGreatDoor

/-
  Of no statement by itself: what a plain row's proof opens its arguments with (keys, bytes, slices of bytes and of int).
  Conditions: each theorem's own.
-/
namespace Go.Proofs.YtbbmhkdfdgnkpaaGreatDoor
set_option maxRecDepth 10000
open Go.ChangeShapes Go.WideShapes Go.ChangeAt Go.RowKit
open Sl
set_option linter.unusedVariables false
theorem ownQ : ownKnob Tryz.prog.godebug = none := by kernel_rfl
theorem laidOutQ : laidOutB Tryz.prog = true := by kernel_rfl
theorem u8_of {z : Int} (h : (Lit.int .u8 z).wf = true) : U8 (BitVec.ofInt 8 z) = .int .u8 z := by
  have h0 : 0 ≤ z ∧ z ≤ 255 := by
    have h1 : (decide (0 ≤ z) && decide (z ≤ 255)) = true := h
    simpa using h1
  have h2 : ((BitVec.ofInt 8 z).toNat : Int) = z := by
    rw [BitVec.toNat_ofInt]
    omega
  unfold U8
  rw [h2]
def bits8 (zs : List Int) : List (BitVec 8) := zs.map (BitVec.ofInt 8)
theorem sl8_of {H : Type} {enc : TypeId × Value → H} {W : World} {fuel : Nat} {v : Value} {x : DataW H × List MemPlace} (h : DataW.trod enc Tryz.prog W 0 (fun _ => true) true fuel 22 [v] = some x) : ∃ k : Sl8, v = k.v ∧ k.ok W ∧ k.cap ≤ maxLen := by
  rcases open_ints (show Tryz.prog.underlying 22 = some (.slice 5) by kernel_rfl) (show Tryz.prog.underlying 5 = some (.int .u8) by kernel_rfl) (by kernel_rfl) h with ⟨hcs, _⟩ | ⟨x, l, c, zs, hcs, _, hl, hm, hz, _, hcell, hwz⟩
  · cases hcs
    exact ⟨⟨none, 0, []⟩, rfl, ⟨by simp, Reads.nil _ _⟩, by decide⟩
  · cases hcs
    simp only [if_true] at hz
    have hlen : (bits8 (zs.take l)).length = l := by simp [bits8]; omega
    refine ⟨⟨some x, c, bits8 (zs.take l)⟩, by simp [Sl8.v, hlen], ⟨by rw [hlen]; exact hl, ?_⟩, hm⟩
    intro i v hv
    have hi : i < l := by
      have := (List.getElem?_eq_some_iff.1 hv).1
      simpa [hlen] using this
    have hc := hcell i (by omega)
    obtain ⟨b, o, sp⟩ := x
    cases sp with
    | some s =>
      have hc := hcell 0 (by omega)
      simp only [World.cell?, Addr.add, if_true] at hc
      split at hc <;> simp at hc
    | none =>
      refine ⟨b, o, rfl, ?_⟩
      have e1 : zs.getD i 0 = zs[i]'(by omega) := by simp [List.getD, show i < zs.length by omega]
      have e2 := u8_of (hwz (zs[i]'(by omega)) (List.getElem_mem _))
      have e3 : v = .int .u8 (zs.getD i 0) := by
        simp only [bits8, List.map_map, List.getElem?_map, List.getElem?_take] at hv
        rw [if_pos hi, List.getElem?_eq_getElem (by omega)] at hv
        simp only [Option.map_some, Function.comp, Option.some.injEq] at hv
        rw [← hv, e2, e1]
      rw [e3]
      have e4 : (⟨b, o, none⟩ : Addr).add i = ⟨b, o + i, none⟩ := by
        unfold Addr.add
        split
        · subst i; rfl
        · rfl
      rw [e4] at hc
      exact hc
end Go.Proofs.YtbbmhkdfdgnkpaaGreatDoor

/-
  Of no statement by itself: the witness world of a card of mime's rows; that the encodings' table lies in its variable, out of what the card lists.
  Conditions: none.
-/
namespace Go.Proofs.YtbbmhkdfdgnkpaaGreatDoor
open Go.ChangeShapes Go.WideShapes Go.ChangeAt Go.RowKit
open Sl Mim
set_option linter.unusedVariables false
theorem laid_plain : ((Rows.mimeSplitsRow.laid).all fun x => x.2.handleName?.isNone) = true := by kernel_rfl
/-- The witness world meets the condition. -/
theorem wit_met (os : Os) (args : Array Value) : laidMetH Tryz.prog Rows.mimeSplitsRow.laid ((World.laidAll Tryz.prog os Rows.mimeSplitsRow.laid).forCall (fun _ _ => 0) ⟨#[], args, []⟩).memory := by
  rw [MakeChecks.laidMetH_plain _ _ _ laid_plain]
  exact laidMet_laidAll _ (by kernel_rfl) (by kernel_rfl)
theorem wit_shape (os : Os) : (World.laidAll Tryz.prog os Rows.mimeSplitsRow.laid).Shaped Tryz.prog := World.shaped_of_ZipB (by kernel_rfl) (by kernel_rfl)
theorem ro_of {W : World} {fuel : Nat} {cs : List Value} {s : List UInt8} {c : Int} {x : DataW Unit × List MemPlace} (h : DataW.trod (fun _ => ()) Tryz.prog W 0 (fun _ => true) false fuel 97 cs = some x) (hx : x.1 = .agg [.lit (.string s), .lit (.int .i64 c)]) : cs = [.string ⟨s.toArray⟩, .int .i64 c] := by
  obtain ⟨y0, y1, n, rfl, hl, g0, g1⟩ := trod_struct2 Tryz.underlying97 h
  have c9 : Tryz.prog.cellsOf 9 = 1 := by kernel_rfl
  have c3 : Tryz.prog.cellsOf 3 = 1 := by kernel_rfl
  have c2 : Tryz.prog.cellsOf 97 = 2 := by kernel_rfl
  dsimp only at g0 g1 hx
  rw [c9] at g0
  rw [c3] at g1
  rw [c2] at hl
  obtain ⟨s', q0, e0, _⟩ := DataW.trod_string (show Tryz.prog.underlying 9 = some .string by kernel_rfl) g0
  obtain ⟨z, q1, e1, _⟩ := DataW.trod_int (show Tryz.prog.underlying 3 = some (.int .i64) by kernel_rfl) g1
  rw [e0, e1] at hx
  simp only [DataW.agg.injEq, List.cons.injEq, DataW.lit.injEq, Lit.string.injEq, Lit.int.injEq, and_true, true_and] at hx
  obtain ⟨rfl, rfl⟩ := hx
  match cs, hl with
  | [a, b], _ =>
    simp at q0 q1
    rw [q0, q1]
theorem encOk_of_laid {W : World} (h : laidMetH Tryz.prog Rows.mimeSplitsRow.laid W) : EncOk W := by
  rw [MakeChecks.laidMetH_plain _ _ _ laid_plain] at h
  have h' : laidMet Tryz.prog (("unicode/utf8.acceptRanges", Rows.laid_unicode_utf8_acceptRanges) :: ("despatch/mime.encodings", Rows.laid_despatch_mime_encodings) :: [("unicode.CaseRanges", Rows.laid_unicode_CaseRanges), ("unicode/utf8.first", Rows.laid_unicode_utf8_first)]) W := h
  obtain ⟨ps, ⟨g1, t1, cs1, f1, p1, q1, _, _, _, _, ⟨g2, t2, cs2, f2, p2, q2, hg, ht, hvar, hd, _, _⟩, _⟩, _⟩ := h'
  have hg' : Tryz.prog.globalNamed "despatch/mime.encodings" = some 0 := by kernel_rfl
  obtain rfl := Option.some.inj (hg'.symm.trans hg)
  have ht' : (Tryz.prog.globals[0]?).map (·.type) = some 98 := by kernel_rfl
  obtain rfl := Option.some.inj (ht'.symm.trans ht)
  obtain ⟨xs, m, _, ex, hcl, hxl, hel⟩ := DataW.trod_array tbU hd
  have c2 : Tryz.prog.cellsOf 97 = 2 := by kernel_rfl
  have c12 : Tryz.prog.cellsOf 98 = 12 := by kernel_rfl
  rw [c12] at hcl
  simp only [c2] at hel
  have hx := congrArg Prod.fst ex
  dsimp only at hx
  unfold Rows.laid_despatch_mime_encodings at hx
  rw [DataW.agg.injEq] at hx
  match xs, hxl with
  | [x0, x1, x2, x3, x4, x5], _ =>
    simp only [List.map_cons, List.map_nil, List.cons.injEq, and_true] at hx
    obtain ⟨e0, e1, e2, e3, e4, e5⟩ := hx
    have r0 := ro_of (hel 0 (by decide)) e0.symm
    have r1 := ro_of (hel 1 (by decide)) e1.symm
    have r2 := ro_of (hel 2 (by decide)) e2.symm
    have r3 := ro_of (hel 3 (by decide)) e3.symm
    have r4 := ro_of (hel 4 (by decide)) e4.symm
    have r5 := ro_of (hel 5 (by decide)) e5.symm
    have hcs : cs2.toList = encT := by
      generalize cs2.toList = l at *
      match l, hcl with
      | [a0, a1, a2, a3, a4, a5, a6, a7, a8, a9, a10, a11], _ =>
        simp at r0 r1 r2 r3 r4 r5
        rw [r0.1, r0.2, r1.1, r1.2, r2.1, r2.2, r3.1, r3.2, r4.1, r4.2, r5.1, r5.2]
        rfl
    unfold World.var? at hvar
    rw [hg'] at hvar
    simp only [Option.bind_some] at hvar
    split at hvar
    · rename_i cs e fr hb
      refine ⟨e, fr, ?_⟩
      rw [hb, Option.some.inj hvar, ← hcs]
    · cases hvar
end Go.Proofs.YtbbmhkdfdgnkpaaGreatDoor

/-
  Of no statement by itself: what a row's proof opens a slice of slices of bytes with, with its bulk.
  Conditions: each theorem's own.
-/
namespace Go.Proofs.YtbbmhkdfdgnkpaaGreatDoor
set_option maxRecDepth 10000
open Go.ChangeShapes Go.WideShapes Go.ChangeAt Go.RowKit
open Sl
set_option linter.unusedVariables false
theorem tinyR {l : List Bt} (h : (strB l).size ≤ maxLen) : l.length < 9223372036854775808 := by
  rw [strB_size] at h
  unfold maxLen at h
  omega
theorem bulk_memR {H : Type} {d : DataW H} {l : List (DataW H)} (h : d ∈ l) : Rows.uptoBulk d ≤ Rows.uptoBulkAll l := by
  induction l with
  | nil => cases h
  | cons x r ih =>
    simp only [Rows.uptoBulkAll]
    cases List.mem_cons.1 h with
    | inl e => subst e; omega
    | inr e => have := ih e; omega
theorem bulk_lits {H : Type} (k : IntKind) : ∀ zs : List Int, Rows.uptoBulkAll (lits k zs : List (DataW H)) = zs.length
  | [] => rfl
  | z :: zs => by
    have := bulk_lits (H := H) k zs
    show Rows.uptoBulk (DataW.lit (.int k z) : DataW H) + Rows.uptoBulkAll (lits k zs) = _
    rw [this]
    simp only [Rows.uptoBulk, List.length_cons]
    omega
theorem sl8_full {H : Type} {enc : TypeId × Value → H} {W : World} {fuel : Nat} {v : Value} {x : DataW H × List MemPlace} (h : DataW.trod enc Tryz.prog W 0 (fun _ => true) true fuel 22 [v] = some x) : ∃ k : Sl8, v = k.v ∧ k.ok W ∧ k.l.length ≤ Rows.uptoBulk x.1 := by
  obtain ⟨k, hk, ok, _⟩ := sl8_of h
  refine ⟨k, hk, ok, ?_⟩
  rcases open_ints (show Tryz.prog.underlying 22 = some (.slice 5) by kernel_rfl) (show Tryz.prog.underlying 5 = some (.int .u8) by kernel_rfl) (by kernel_rfl) h with ⟨hcs, _⟩ | ⟨a, l, c, zs, hcs, _, hl, hm, hz, hxx, _, _⟩
  · cases hcs
    have e : (Value.slice none 0 0) = .slice k.ad k.l.length k.cap := hk
    have : k.l.length = 0 := ((Value.slice.inj e).2.1).symm
    omega
  · cases hcs
    have e : (Value.slice (some a) l c) = .slice k.ad k.l.length k.cap := hk
    have hl2 : k.l.length = l := ((Value.slice.inj e).2.1).symm
    simp only [if_true] at hz
    rw [hxx]
    simp only [Rows.uptoBulk, bulk_lits, List.length_take, List.length_drop]
    omega
theorem parts_full {H : Type} {enc : TypeId × Value → H} {W : World} {base fuel : Nat} {v : Value} {x : DataW H × List MemPlace} (hok : Value.okWide Tryz.prog W .any base 24 v) (h : DataW.trod enc Tryz.prog W 0 (fun _ => true) true fuel 24 v.cells.toList = some x) :
    ∃ k : SlL, v = k.v ∧ k.ok W ∧ (∀ p ∈ k.rs, p.l.length ≤ Rows.uptoBulk x.1) := by
  obtain ⟨a, l, c, rfl⟩ := okWide_slice (show Tryz.prog.underlying 24 = some (.slice 22) by kernel_rfl) hok
  have hc1 : Tryz.prog.cellsOf 22 = 1 := by kernel_rfl
  rcases Go.Deep.open_slice (show Tryz.prog.underlying 24 = some (.slice 22) by kernel_rfl) h with ⟨hcs, _⟩ | ⟨a', len, cap, m, n, D, Pl, hcs, _, hl, hm, hmm, hxx, hel⟩
  · cases hcs
    exact ⟨⟨none, 0, []⟩, rfl, ⟨Nat.le_refl _, Reads.nil _ _, nofun⟩, nofun⟩
  · cases hcs
    simp only [if_true] at hmm
    subst hmm
    simp only [hc1, Nat.mul_one] at hel
    have hk : ∀ i, ∃ k : Sl8, i < l → W.cell? (a'.add i) = some k.v ∧ k.ok W ∧ k.l.length ≤ Rows.uptoBulk x.1 := by
      intro i
      by_cases hi : i < l
      · obtain ⟨cs', h1, h2⟩ := hel i (by omega)
        obtain ⟨_, hlen, hcell⟩ := World.cells?_some h1
        match cs', hlen with
        | [u], _ =>
          obtain ⟨k, rfl, hk, hb⟩ := sl8_full h2
          refine ⟨k, fun _ => ⟨?_, hk, ?_⟩⟩
          · have := hcell 0 (by omega)
            simpa [Addr.add] using this
          · have hm2 := bulk_memR (H := H) (d := D i) (l := (List.range l).map D) (List.mem_map.2 ⟨i, List.mem_range.2 hi, rfl⟩)
            rw [hxx]
            simp only [Rows.uptoBulk]
            dsimp only at hb
            omega
      · exact ⟨⟨none, 0, []⟩, fun h => absurd h hi⟩
    let f : Nat → Sl8 := fun i => Classical.choose (hk i)
    have hf : ∀ i, i < l → W.cell? (a'.add i) = some (f i).v ∧ (f i).ok W ∧ (f i).l.length ≤ Rows.uptoBulk x.1 := fun i => Classical.choose_spec (hk i)
    have hlen : ((List.range l).map f).length = l := by simp
    refine ⟨⟨some a', m, (List.range l).map f⟩, by simp [SlL.v], ⟨by show ((List.range l).map f).length ≤ m; rw [hlen]; exact hl, ?_, ?_⟩, ?_⟩
    · intro i v hv
      have hi : i < l := by
        have := (List.getElem?_eq_some_iff.1 hv).1
        simpa using this
      have hc := (hf i hi).1
      have hv' : v = (f i).v := by
        simp [hi] at hv
        exact hv.symm
      obtain ⟨b, o, sp⟩ := a'
      cases sp with
      | some s =>
        have hc := (hf 0 (by omega)).1
        simp only [World.cell?, Addr.add, if_true] at hc
        split at hc <;> simp at hc
      | none =>
        refine ⟨b, o, rfl, ?_⟩
        have e4 : (⟨b, o, none⟩ : Addr).add i = ⟨b, o + i, none⟩ := by
          unfold Addr.add
          split
          · subst i; rfl
          · rfl
        rw [e4] at hc
        rw [hv']
        exact hc
    · intro p hp
      simp only [List.mem_map, List.mem_range] at hp
      obtain ⟨i, hi, rfl⟩ := hp
      exact (hf i hi).2.1
    · intro p hp
      simp only [List.mem_map, List.mem_range] at hp
      obtain ⟨i, hi, rfl⟩ := hp
      exact (hf i hi).2.2
end Go.Proofs.YtbbmhkdfdgnkpaaGreatDoor

/-
  Of no statement by itself: what a plain row's proof opens pairs of strings and slices of them with.
  Conditions: each theorem's own.
-/
namespace Go.Proofs.YtbbmhkdfdgnkpaaGreatDoor
set_option maxRecDepth 10000
open Go.ChangeShapes Go.WideShapes Go.ChangeAt Go.RowKit
open Sl Fld
set_option linter.unusedVariables false
theorem pair_fields {P : Program} {t str : TypeId} (hf : pairT P t str = true) : ∃ f0 f1, P.fieldsOf t = #[f0, f1] ∧ f0.type = str ∧ f1.type = str ∧ f0.offset = 0 ∧ f1.offset = 1 := by
  unfold pairT at hf
  split at hf
  · next f0 f1 e =>
    simp only [Bool.and_eq_true, beq_iff_eq, bne_iff_ne, ne_eq] at hf
    exact ⟨f0, f1, Array.toList_inj.1 (by simpa using e), hf.1.1.1.1.1, hf.1.1.1.1.2, hf.1.1.1.2, hf.1.1.2⟩
  · cases hf
theorem z_of (s : ByteArray) : ∃ l : List Bt, Value.string s = Z l ∧ l.length = s.size := ⟨bytesOf s, by show _ = Value.string _; rw [strB_bytesOf], bytesOf_length s⟩
theorem short_of {l : List Bt} {s : ByteArray} (h : l.length = s.size) (hm : s.size ≤ maxLen) : l.length < 9223372036854775808 := by
  unfold maxLen at hm
  omega
theorem sl2_of {P : Program} {H : Type} {enc : TypeId × Value → H} {W : World} {fuel : Nat} {t e str : TypeId} {v : Value} {x : DataW H × List MemPlace} (ht : P.underlying t = some (.slice e)) (he : P.underlying e = some (.struct (P.fieldsOf e))) (hf : pairT P e str = true) (hs : P.underlying str = some .string) (cs : P.cellsOf str = 1) (ce : P.cellsOf e = 2)
    (h : DataW.trod enc P W 0 (fun _ => true) true fuel t [v] = some x) : ∃ k : Sl2, v = k.v ∧ k.ok W ∧ small2 k ∧ k.cap ≤ maxLen := by
  obtain ⟨f0, f1, ef, rfl, e1, o0, o1⟩ := pair_fields hf
  rw [ef] at he
  rcases Go.Deep.open_slice_pairs ht he ce o0 o1 cs (by rw [e1]; exact cs) h with ⟨hcs, _⟩ | ⟨a, len, cap, m, n, V0, V1, D0, D1, P0, P1, hcs, _, hl, hm, hmm, _, hx⟩
  · cases hcs
    exact ⟨nil2, rfl, nil2_ok W, (fun p hp => by cases hp), by decide⟩
  · cases hcs
    simp only [if_true] at hmm
    subst hmm
    have each : ∀ i, ∃ p : Pr, i < m → W.cell? (a.add (i * 2)) = some (Z p.1) ∧ W.cell? (a.add (i * 2 + 1)) = some (Z p.2) ∧ p.1.length < 9223372036854775808 ∧ p.2.length < 9223372036854775808 := by
      intro i
      by_cases hi : i < m
      · obtain ⟨c0, c1, t0, t1⟩ := hx i hi
        rw [e1] at t1
        obtain ⟨s0, q0, _, m0⟩ := DataW.trod_string hs t0
        obtain ⟨s1, q1, _, m1⟩ := DataW.trod_string hs t1
        obtain ⟨l0, z0, k0⟩ := z_of s0
        obtain ⟨l1, z1, k1⟩ := z_of s1
        have r0 : V0 i = .string s0 := by simpa using q0
        have r1 : V1 i = .string s1 := by simpa using q1
        exact ⟨(l0, l1), fun _ => ⟨by rw [c0, r0, z0], by rw [c1, r1, z1], short_of k0 m0, short_of k1 m1⟩⟩
      · exact ⟨([], []), fun h => absurd h hi⟩
    let f : Nat → Pr := fun i => Classical.choose (each i)
    have fs : ∀ i, i < m → W.cell? (a.add (i * 2)) = some (Z (f i).1) ∧ W.cell? (a.add (i * 2 + 1)) = some (Z (f i).2) ∧ (f i).1.length < 9223372036854775808 ∧ (f i).2.length < 9223372036854775808 := fun i => Classical.choose_spec (each i)
    have hlen : ((List.range len).map f).length = len := by simp
    refine ⟨⟨some a, m, (List.range len).map f⟩, by simp [Sl2.v], ⟨by rw [hlen]; exact hl, ?_⟩, ?_, hm⟩
    · intro j v hv
      have hj : j < 2 * len := by
        have h0 := (List.getElem?_eq_some_iff.1 hv).1
        rw [show Sl2.cells ⟨some a, m, (List.range len).map f⟩ = ((List.range len).map f).flatMap pc from rfl, pc_len, hlen] at h0
        exact h0
      obtain ⟨b, o, sp⟩ := a
      have hi : j / 2 < len := by omega
      obtain ⟨c0, c1, _, _⟩ := fs (j / 2) (by omega)
      obtain ⟨p0, p1⟩ := pc_at ((List.range len).map f) (i := j / 2) (by rw [hlen]; exact hi)
      rw [show ((List.range len).map f).getD (j / 2) ([], []) = f (j / 2) by simp [List.getD, hi]] at p0 p1
      cases sp with
      | some s =>
        have c := (fs 0 (by omega)).1
        simp only [World.cell?, Addr.add, Nat.zero_mul, if_true] at c
        split at c <;> simp at c
      | none =>
        refine ⟨b, o, rfl, ?_⟩
        have ea : ∀ k, (⟨b, o, none⟩ : Addr).add k = ⟨b, o + k, none⟩ := fun k => by
          unfold Addr.add
          split
          · subst k; rfl
          · rfl
        rw [ea] at c0 c1
        have h2 : j = 2 * (j / 2) ∨ j = 2 * (j / 2) + 1 := by omega
        rcases h2 with h2 | h2
        · rw [show (Sl2.cells ⟨some ⟨b, o, none⟩, m, (List.range len).map f⟩)[j]? = (((List.range len).map f).flatMap pc)[2 * (j / 2)]? by rw [← h2]; rfl, p0] at hv
          cases hv
          rw [show o + j = o + j / 2 * 2 by omega]
          exact c0
        · rw [show (Sl2.cells ⟨some ⟨b, o, none⟩, m, (List.range len).map f⟩)[j]? = (((List.range len).map f).flatMap pc)[2 * (j / 2) + 1]? by rw [← h2]; rfl, p1] at hv
          cases hv
          rw [show o + j = o + (j / 2 * 2 + 1) by omega]
          exact c1
    · intro p hp
      obtain ⟨i, hi, rfl⟩ := List.mem_map.1 hp
      have := List.mem_range.1 hi
      exact (fs i (by omega)).2.2
end Go.Proofs.YtbbmhkdfdgnkpaaGreatDoor

/-
  Of no statement by itself: what a row's proof opens a mail (a structure of a slice of pairs of strings and a slice of bytes) with.
  Conditions: each theorem's own.
-/
namespace Go.Proofs.YtbbmhkdfdgnkpaaGreatDoor
set_option maxRecDepth 10000
open Go.ChangeShapes Go.WideShapes Go.ChangeAt Go.RowKit
open Sl Fld
set_option linter.unusedVariables false
def duoT (P : Program) (t a b : TypeId) : Bool := match (P.fieldsOf t).toList with
  | [f0, f1] => f0.type == a && f1.type == b && f0.offset == 0 && f1.offset == 1
  | _ => false
theorem duo_fields {P : Program} {t a b : TypeId} (hf : duoT P t a b = true) : ∃ f0 f1, P.fieldsOf t = #[f0, f1] ∧ f0.type = a ∧ f1.type = b ∧ f0.offset = 0 ∧ f1.offset = 1 := by
  unfold duoT at hf
  split at hf
  · next f0 f1 e =>
    simp only [Bool.and_eq_true, beq_iff_eq] at hf
    exact ⟨f0, f1, Array.toList_inj.1 (by simpa using e), hf.1.1.1, hf.1.1.2, hf.1.2, hf.2⟩
  · cases hf
theorem letter_of {H : Type} {enc : TypeId × Value → H} {W : World} {base fuel : Nat} {v : Value} {x : DataW H × List MemPlace} (hok : Value.okWide Tryz.prog W .any base 41 v) (h : DataW.trod enc Tryz.prog W 0 (fun _ => true) true fuel 41 v.cells.toList = some x) :
    ∃ (f : Sl2) (s : Sl8), v = .agg #[f.v, s.v] ∧ f.ok W ∧ s.ok W ∧ small2 f := by
  obtain ⟨f0, f1, e, e0, e1, o0, o1⟩ := duo_fields (P := Tryz.prog) (t := 41) (a := 39) (b := 22) (by kernel_rfl)
  have ht : Tryz.prog.underlying 41 = some (.struct (Tryz.prog.fieldsOf 41)) := by kernel_rfl
  rw [e] at ht
  have ct : Tryz.prog.cellsOf 41 = 2 := by kernel_rfl
  have c0 : Tryz.prog.cellsOf 39 = 1 := by kernel_rfl
  have c1 : Tryz.prog.cellsOf 22 = 1 := by kernel_rfl
  simp only [Value.okWide, ht] at hok
  obtain ⟨c, rfl, hsz, _⟩ := hok
  rw [ct] at hsz
  obtain ⟨y0, y1, n, _, _, g0, g1⟩ := trod_struct2 ht h
  rw [o0, e0, c0] at g0
  rw [o1, e1, c1] at g1
  obtain ⟨l⟩ := c
  rw [show (Value.agg ⟨l⟩).cells.toList = l from rfl] at g0 g1
  match l, hsz with
  | [a, b], _ =>
    obtain ⟨k, rfl, k1, k2, _⟩ := sl2_of (str := 9) (show Tryz.prog.underlying 39 = some (.slice 51) by kernel_rfl) (by kernel_rfl) (by kernel_rfl) (by kernel_rfl) (by kernel_rfl) (by kernel_rfl) g0
    obtain ⟨s, rfl, s1, _⟩ := sl8_of g1
    exact ⟨k, s, rfl, k1, s1, k2⟩
end Go.Proofs.YtbbmhkdfdgnkpaaGreatDoor
