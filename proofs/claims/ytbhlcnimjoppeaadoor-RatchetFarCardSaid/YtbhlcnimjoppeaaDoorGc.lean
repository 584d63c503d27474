/-
  Of no statement by itself: the texts StrM, StrO, StrT, StrU, StrV, SealB, CrvA, CrvB, CrvC, CrvD, CrvE, CrvG, CrvH, CurA, CrvJ, CurB, CurC, CrvK, CurD, CrvW, CurE, CrvM, CurF, CrvU, CrvV, CrvX, CrvY, CrvZ, CuvA, CuvB, CuvC in one.
  Conditions: each theorem's own.
-/
import Derived.Test.YtbhlcnimjoppeaaDoorGb
import Init
import Derived.Test.YtbhlcnimjoppeaaDoorProg
import Derived.KernelRfl
set_option linter.unusedSimpArgs false
set_option linter.unusedVariables false
/-
  Of no statement by itself: what stream.mixed and stream.Block give.
  Conditions: each theorem's own; the listed table of quarters.
-/
namespace Go.Proofs.YtbhlcnimjoppeaaDoor
set_option maxRecDepth 10000
open Sl Sha Str

/-- the variable stream.quarters holds the quarters' words -/
def GQ (w : World) : Prop := ∃ e fr, w.heap[0]? = some (.cells (ordF.map N).toArray e fr)
theorem GQ.lt {w : World} (h : GQ w) : 0 < w.heap.size := by
  obtain ⟨e, fr, h⟩ := h
  exact (Array.getElem?_eq_some_iff.1 h).1
theorem GQ.cells {w : World} (h : GQ w) : ∀ i u, (ordF.map N)[i]? = some u → w.cell? ⟨0, 0 + i, none⟩ = some u := by
  obtain ⟨e, fr, h⟩ := h
  intro i u hu
  simpa [World.cell?, h] using hu
theorem GQ.chg {S : List Nat} {w w' : World} (h : GQ w) (hc : Chg S w w') (h0 : 0 ∉ S) : GQ w' := by
  have hl := h.lt
  obtain ⟨e, fr, h⟩ := h
  exact ⟨e, fr, (hc.block _ hl h0).trans h⟩
theorem goes_mixed : Goes Tryd.prog 83 := ⟨_, Tryd.func83, rfl, by kernel_rfl⟩
theorem in1s : szT Tryd.prog 3 = some 1 := by kernel_rfl
theorem in1c : scal Tryd.prog 3 = true := by kernel_rfl
theorem i4s : szT Tryd.prog 74 = some 4 := by kernel_rfl
theorem i4a : aggT Tryd.prog 74 = true := by kernel_rfl
theorem i4z : zc Tryd.prog 74 = some ((List.replicate 4 0).map N) := by kernel_rfl
theorem i8s : szT Tryd.prog 163 = some 32 := by kernel_rfl
theorem i8a : aggT Tryd.prog 163 = true := by kernel_rfl
theorem u64z : zc Tryd.prog 125 = some ((List.replicate 64 (0 : B)).map U8) := by kernel_rfl
theorem allN (l : List Nat) : (l.map N).all Value.oneCell' = true := by simp [Value.oneCell']

def o4 (q : Nat) : List Nat := [oi q 0, oi q 1, oi q 2, oi q 3]
theorem o4_nat : ∀ q < 8, (ordF.drop (q * 4)).take 4 = o4 q := by decide
theorem o4_eq (q : Nat) (h : q < 8) : ((ordF.map N).drop (q * 4)).take 4 = (o4 q).map N := by rw [← List.map_drop, ← List.map_take, o4_nat q h]
theorem w_get {s : List W} {j : Nat} (h : j < s.length) : (s.map U32)[j]? = some (U32 (s.getD j 0)) := map_at U32 0 h
def blA (s : List W) (i : Nat) : List B := bl s i ++ List.replicate (64 - 4 * i) 0
theorem set4 {l : List B} {k m : Nat} (hl : l.length = m) (h : 4 ≤ k) (a b c d : B) : ((((((l ++ List.replicate k 0).map U8).set m (U8 a)).set (m + 1) (U8 b)).set (m + 2) (U8 c)).set (m + 3) (U8 d)) = (l ++ [a, b, c, d] ++ List.replicate (k - 4) 0).map U8 := by
  subst hl
  obtain ⟨k, rfl⟩ : ∃ j, k = j + 4 := ⟨k - 4, by omega⟩
  simp only [← List.map_set, Nat.add_sub_cancel, List.replicate_succ]
  congr 1
  rw [List.set_append_right _ _ (Nat.le_refl _), List.set_append_right _ _ (by omega), List.set_append_right _ _ (by omega), List.set_append_right _ _ (by omega)]
  simp [List.append_assoc, List.set_cons_succ, List.set_cons_zero]
theorem blA_length (s : List W) (i : Nat) (h : i ≤ 16) : ((blA s i).map U8).length = 64 := by simp [blA, bl_length]; omega
theorem blA_set (s : List W) (i : Nat) (h : i < 16) (x : W) (hx : x = (st s 80).getD i 0 + s.getD i 0) : (((((blA s i).map U8).set (4 * i) (U8 (x.setWidth 8))).set (4 * i + 1) (U8 ((x >>> 8).setWidth 8))).set (4 * i + 2) (U8 ((x >>> 16).setWidth 8))).set (4 * i + 3) (U8 ((x >>> 24).setWidth 8)) = (blA s (i + 1)).map U8 := by
  subst hx
  rw [blA, set4 (bl_length s i) (by omega), blA, bl, show 64 - 4 * i - 4 = 64 - 4 * (i + 1) by omega]
  rfl
def needH : Nat → List (Nat × Nat)
  | 1 => [(0, 19)]
  | 2 => [(1, 20)]
  | 3 => [(2, 21)]
  | 5 => [(4, 23)]
  | 6 => [(5, 24)]
  | 7 => [(6, 25)]
  | 9 => [(8, 27)]
  | 10 => [(9, 28)]
  | 11 => [(10, 29)]
  | 13 => [(12, 31)]
  | 14 => [(13, 32)]
  | 15 => [(14, 33)]
  | 16 => [(3, 22), (7, 26), (11, 30), (15, 34)]
  | 17 => [(16, 35)]
  | 19 => [(18, 6), (17, 36)]
  | _ => []
def inpH : Nat → List Nat
  | 1 => [20]
  | 3 => [21]
  | 5 => [20]
  | 7 => [21]
  | 9 => [20]
  | 11 => [21]
  | 13 => [20]
  | 15 => [21]
  | 19 => [18]
  | _ => []
def eatH : Nat → List Nat
  | 19 => [18]
  | _ => []
def srcH : Nat → Option Nat
  | 19 => some 18
  | _ => none
def needI : Nat → List (Nat × Nat)
  | 1 => [(0, 37)]
  | 3 => [(2, 39)]
  | 5 => [(4, 41)]
  | 7 => [(6, 43)]
  | 9 => [(8, 45)]
  | 11 => [(10, 47)]
  | 13 => [(12, 49)]
  | 15 => [(14, 51)]
  | 16 => [(1, 38)]
  | 17 => [(16, 53), (9, 46)]
  | 18 => [(3, 40)]
  | 19 => [(18, 54), (11, 48)]
  | 20 => [(5, 42)]
  | 21 => [(20, 55), (13, 50)]
  | 22 => [(7, 44)]
  | 23 => [(22, 56), (15, 52)]
  | _ => []
def inpI : Nat → List Nat
  | 1 => [25]
  | 3 => [25]
  | 5 => [25]
  | 7 => [25]
  | 9 => [24]
  | 11 => [24]
  | 13 => [24]
  | 15 => [24]
  | 17 => [26]
  | 19 => [17]
  | 21 => [19]
  | 23 => [21]
  | _ => []
def eatI : Nat → List Nat
  | 17 => [26]
  | 19 => [17]
  | 21 => [19]
  | 23 => [21]
  | _ => []

set_option maxHeartbeats 16000000 in
set_option maxRecDepth 8000 in
theorem mixed_any (s : List W) (hs : s.length = 16) (w : World) (hQ : GQ w) : Calls Tryd.prog 83 [.agg (s.map U32).toArray].toArray w fun e w' => e = .returned (.agg ((block s).map U8).toArray) ∧ Ext w w' := by
  have hsl : (s.map U32).length = 16 := by simpa using hs
  refine enter (n := 97) Tryd.func83 rfl rfl rfl (Holds.start w []) ?_
  repeat (first | refine JC.seq ?_ | refine JC.region ?_)
  refine JL.box (r := s.map U32) rfl rfl rfl fun b1 _ => ?_
  refine JL.alloc u64z rfl fun b2 _ => ?_
  repeat (first | refine JC.seq ?_ | refine JC.region ?_ | refine JL.nil ?_ | refine JE.next ?_)
  refine JL.alloc w16z rfl fun b3 _ => ?_
  repeat (first | refine JC.seq ?_ | refine JL.nil ?_ | refine JE.next ?_)
  refine JC.tail 2 mixQ (by kernel_rfl) ?_
  simp only [List.take_succ_cons, List.take_zero, List.drop_succ_cons, List.drop_zero]
  repeat (first | refine JQ.q (by (apply OQ.slA; exact Tryd.underlying128; exact q1s; exact rfl)) rfl ?_ | refine JQ.nil_tail ?_)
  refine JL.copy (cs := s.map U32) (r' := (st s 0).map U32) Tryd.underlying162 q1s rfl rfl .here hsl (fun w' hw' => ?_) (fun v hv => List.all_eq_true.1 (all32q s) v hv) (by simp) (by rw [List.take_of_length_le (l := s.map U32) (by omega)]; simp [st]) rfl ?_
  · obtain ⟨o, ho, hA⟩ := hw'.get (.there (.there .here))
    exact Reads.block ho (Row.all _ hA)
  repeat (first | refine JL.q (by (apply OQ.move; exact rfl)) rfl ?_ | refine JC.seq ?_ | refine JC.region ?_ | refine JC.block ?_ | refine JL.nil ?_ | refine JE.next ?_)
  refine JC.loop (fun r : Nat => [(1, Pt b1 0), (2, Pt b2 0), (3, Pt b3 0), (13, N r)])
    (fun r => [⟨b3, Row 128 ((st s (8 * r)).map U32), true⟩, ⟨b2, Row 125 ((List.replicate 64 (0 : B)).map U8), true⟩, ⟨b1, Row 128 (s.map U32), true⟩])
    (fun r => 10 - r) (fun r => r ≤ 10) 0 (by omega) (by repeat (first | exact SubE.nil | refine SubE.cons _ _ _ rfl ?_)) (Less.refl _) ?_
  intro r hr
  repeat (first | refine JL.q (by (apply OQ.lssN; exact rfl; exact rfl)) rfl ?_ | refine JC.seq ?_ | refine JC.region ?_ | refine JL.nil ?_ | refine JE.next ?_)
  refine JC.cond rfl (fun h => ?_) (fun h => ?_)
  · have hr' : r < 10 := of_decide_eq_true h
    clear h hr
    repeat (first | refine JL.q (by first | (apply OQ.load_agg_old (cs := ordF.map N); exact i8a; exact rfl; exact i8s; exact hQ.lt; exact (by simp); exact hQ.cells) | (apply OQ.move; exact rfl)) rfl ?_ | refine JC.seq ?_ | refine JC.region ?_ | refine JC.block ?_ | refine JC.skip ?_ | refine JL.nil ?_ | refine JE.next ?_)
    refine JC.loop (fun q : Nat => [(1, Pt b1 0), (2, Pt b2 0), (3, Pt b3 0), (13, N r), (15, .agg (ordF.map N).toArray), (16, N q)])
      (fun q => [⟨b3, Row 128 ((st s (8 * r + q)).map U32), true⟩, ⟨b2, Row 125 ((List.replicate 64 (0 : B)).map U8), true⟩, ⟨b1, Row 128 (s.map U32), true⟩])
      (fun q => 8 - q) (fun q => q ≤ 8) 0 (by omega) (by repeat (first | exact SubE.nil | refine SubE.cons _ _ _ rfl ?_)) (Less.refl _) ?_
    intro q hq
    repeat (first | refine JL.q (by (apply OQ.lssN; exact rfl; exact rfl)) rfl ?_ | refine JC.seq ?_ | refine JC.region ?_ | refine JL.nil ?_ | refine JE.next ?_)
    refine JC.cond rfl (fun h => ?_) (fun h => ?_)
    · have hq' : q < 8 := of_decide_eq_true h
      clear h hq
      have hv16 : (st s (8 * r + q)).length = 16 := by rw [st_length, hs]
      have hnext : st s (8 * r + (q + 1)) = put4 (st s (8 * r + q)) q (q4 (st s (8 * r + q)) q) 4 := by
        rw [← Nat.add_assoc, st, qs, show (8 * r + q) % 8 = q by omega]
      generalize st s (8 * r + q) = v at hv16 hnext
      have hlt := fun k hk => oi_lt q hq' k hk
      have hget : ∀ k, k < 4 → (v.map U32)[oi q k]? = some (U32 (v.getD (oi q k) 0)) := fun k hk => w_get (by rw [hv16]; exact hlt k hk)
      repeat (first | refine JL.q (by (apply OQ.indexA; exact Tryd.underlying163; exact i4s; exact i4a; exact rfl; exact rfl; exact hq'; exact (o4_eq q hq'))) rfl ?_ | refine JC.seq ?_ | refine JC.region ?_ | refine JC.block ?_ | refine JC.skip ?_ | refine JE.next ?_)
      refine JL.alloc i4z rfl fun b5 _ => ?_
      refine JL.store_all i4s rfl rfl rfl (allN _) .here (by simp) ?_
      repeat (first | refine JC.seq ?_ | refine JL.nil ?_ | refine JE.next ?_)
      let vs : Nat → X → Value := fun i x => if i < 16 then (match i % 4 with | 0 => Pt b5 (i / 4) | 1 => N (oi q (i / 4)) | 2 => Pt b3 (oi q (i / 4)) | _ => U32 (v.getD (oi q (i / 4)) 0)) else match i with
        | 18 => Pt x.1 0
        | 16 => .agg (([v.getD (oi q 0) 0, v.getD (oi q 1) 0, v.getD (oi q 2) 0, v.getD (oi q 3) 0] : List W).map U32).toArray
        | _ => .agg ((q4 v q).map U32).toArray
      let Ms : Nat → X → List Ent := fun i x => match i with
        | 18 => [⟨x.1, Row 164 ((List.replicate 4 (0 : W)).map U32), true⟩]
        | 19 => [⟨x.1, Row 164 ((q4 v q).map U32), true⟩]
        | 20 => [⟨b5, Row 74 ((o4 q).map N), true⟩]
        | 21 => [⟨b3, Row 128 (v.map U32), true⟩]
        | 22 => [⟨b2, Row 125 ((List.replicate 64 (0 : B)).map U8), true⟩, ⟨b1, Row 128 (s.map U32), true⟩]
        | _ => []
      refine JC.grow (g := ⟨[(1, Pt b1 0), (2, Pt b2 0), (3, Pt b3 0), (5, Pt b5 0), (13, N r), (15, .agg (ordF.map N).toArray), (16, N q)], 23, vs, Ms, needH, inpH, eatH, srcH⟩) [(18, 6)] [19, 20, 21, 22] mixQ (by repeat (first | exact SubE.nil | refine SubE.cons _ _ _ rfl ?_)) (Less.refl _) (by kernel_rfl) (by kernel_rfl) (by kernel_rfl) ?_ ?_
      · refine ⟨?_, ?_, ?_, ?_, ?_, ?_, ?_, ?_, ?_, ?_, ?_, ?_, ?_, ?_, ?_, ?_, ?_, ?_, ?_, ?_, trivial⟩
        iterate 16 (focus (intro x EF MF Q kk; (try refine JL.gon rfl rfl ?_); exact JL.q (by first | (apply OQ.idxA0; exact Tryd.underlying74; exact in1s; exact rfl; exact rfl; exact (by decide)) | (apply OQ.load; exact in1c; exact rfl; exact .here; exact (Row.cell rfl)) | (apply OQ.idxA0; exact Tryd.underlying128; exact q1s; exact rfl; exact rfl; exact (hlt _ (by decide))) | (apply OQ.load; exact q1c; exact rfl; exact .here; exact (Row.cell (hget _ (by decide))))) rfl (JL.nil (kk default nofun))))
        · intro x EF MF Q kk
          exact JL.q (OQ.pure (v := .agg (([v.getD (oi q 0) 0, v.getD (oi q 1) 0, v.getD (oi q 2) 0, v.getD (oi q 3) 0] : List W).map U32).toArray) rfl rfl (by kernel_rfl)) rfl (JL.nil (kk (0, 0) nofun))
        · intro x EF MF Q kk
          exact JL.q (OQ.callx goes_quarter rfl fun w' _ => quarter_any _ _ _ _ w') rfl (JL.nil (kk (0, 0) nofun))
        · intro x EF MF Q kk
          exact JL.alloc q4z rfl fun b _ => JL.nil (kk (b, 0) nofun)
        · intro x EF MF Q kk
          exact JL.store_all q4s rfl rfl rfl (all32q _) .here rfl (JL.nil (kk (x 18) (fun k h => by cases h; rfl)))
      · intro x hx
        have h19 := hx 19 18 (by decide) rfl
        show JE _ _ _ _ _ [(6, Pt (x 18).1 0), (1, Pt b1 0), (2, Pt b2 0), (3, Pt b3 0), (5, Pt b5 0), (13, N r), (15, .agg (ordF.map N).toArray), (16, N q)] [⟨(x 19).1, Row 164 ((q4 v q).map U32), true⟩, ⟨b5, Row 74 ((o4 q).map N), true⟩, ⟨b3, Row 128 (v.map U32), true⟩, ⟨b2, Row 125 ((List.replicate 64 (0 : B)).map U8), true⟩, ⟨b1, Row 128 (s.map U32), true⟩]
        rw [h19]
        generalize (x 18).1 = b6
        clear hx h19 x vs Ms
        repeat (refine JE.next ?_)
        let vs : Nat → X → Value := fun i _ => if i < 8 then (match i % 2 with | 0 => Pt b5 (i / 2) | _ => N (oi q (i / 2))) else if i < 16 then (match i % 2 with | 0 => Pt b6 ((i - 8) / 2) | _ => U32 ((q4 v q).getD ((i - 8) / 2) 0)) else Pt b3 (oi q ((i - 16) / 2))
        let Ms : Nat → X → List Ent := fun i _ => match i with
          | 17 => [⟨b3, Row 128 ((put4 v q (q4 v q) 1).map U32), true⟩]
          | 19 => [⟨b3, Row 128 ((put4 v q (q4 v q) 2).map U32), true⟩]
          | 21 => [⟨b3, Row 128 ((put4 v q (q4 v q) 3).map U32), true⟩]
          | 23 => [⟨b3, Row 128 ((put4 v q (q4 v q) 4).map U32), true⟩]
          | 24 => [⟨b6, Row 164 ((q4 v q).map U32), true⟩]
          | 25 => [⟨b5, Row 74 ((o4 q).map N), true⟩]
          | 26 => [⟨b3, Row 128 ((put4 v q (q4 v q) 0).map U32), true⟩]
          | 27 => [⟨b2, Row 125 ((List.replicate 64 (0 : B)).map U8), true⟩, ⟨b1, Row 128 (s.map U32), true⟩]
          | _ => []
        have hput : ∀ k, ((put4 v q (q4 v q) k).map U32).length = 16 := fun k => by rw [List.length_map, put4_length, hv16]
        have hset : ∀ k, ((put4 v q (q4 v q) k).map U32).set (oi q k) (U32 ((q4 v q).getD k 0)) = (put4 v q (q4 v q) (k + 1)).map U32 := fun k => by rw [put4, List.map_set]
        refine JC.grow (g := ⟨[(1, Pt b1 0), (2, Pt b2 0), (3, Pt b3 0), (5, Pt b5 0), (6, Pt b6 0), (13, N r), (15, .agg (ordF.map N).toArray), (16, N q)], 28, vs, Ms, needI, inpI, eatI, fun _ => none⟩) [] [23, 27] mixQ (by repeat (first | exact SubE.nil | refine SubE.cons _ _ _ rfl ?_)) (Less.refl _) (by kernel_rfl) (by kernel_rfl) (by kernel_rfl) ?_ ?_
        · refine ⟨?_, ?_, ?_, ?_, ?_, ?_, ?_, ?_, ?_, ?_, ?_, ?_, ?_, ?_, ?_, ?_, ?_, ?_, ?_, ?_, ?_, ?_, ?_, ?_, trivial⟩
          iterate 16 (focus (intro x EF MF Q kk; (try refine JL.gon rfl rfl ?_); exact JL.q (by first | (apply OQ.idxA0; exact Tryd.underlying74; exact in1s; exact rfl; exact rfl; exact (by decide)) | (apply OQ.load; exact in1c; exact rfl; exact .here; exact (Row.cell rfl)) | (apply OQ.idxA0; exact Tryd.underlying164; exact q1s; exact rfl; exact rfl; exact (by decide))) rfl (JL.nil (kk default nofun))))
          iterate 4 ((focus (intro x EF MF Q kk; (try refine JL.gon rfl rfl ?_); exact JL.q (by (apply OQ.idxA0; exact Tryd.underlying128; exact q1s; exact rfl; exact rfl; exact (hlt _ (by decide)))) rfl (JL.nil (kk default nofun)))); (focus (intro x EF MF Q kk; exact JL.store_eq q1s rfl rfl rfl rfl .here (by rw [hput]; exact hlt _ (by decide)) (hset _) (JL.nil (kk (0, 0) nofun)))))
        · intro x hx
          clear hx
          show JE _ _ _ _ _ [(1, Pt b1 0), (2, Pt b2 0), (3, Pt b3 0), (5, Pt b5 0), (6, Pt b6 0), (13, N r), (15, .agg (ordF.map N).toArray), (16, N q)] [⟨b3, Row 128 ((put4 v q (q4 v q) 4).map U32), true⟩, ⟨b2, Row 125 ((List.replicate 64 (0 : B)).map U8), true⟩, ⟨b1, Row 128 (s.map U32), true⟩]
          rw [← hnext]
          clear x vs Ms hput hset
          repeat (first | refine JL.q (by first | (apply OQ.move; exact rfl) | (apply OQ.addN; exact rfl; exact rfl; exact (by (try simp only []); omega))) rfl ?_ | refine JC.region ?_ | refine JL.nil ?_ | refine JE.next ?_ | refine JE.blk_normal ?_)
          exact JE.again (i := q) (q + 1) (by omega) (by omega) (by repeat (first | exact SubE.nil | refine SubE.cons _ _ _ rfl ?_)) (Less.refl _)
    · have hq' : ¬ q < 8 := of_decide_eq_false h
      obtain rfl : q = 8 := by omega
      clear h hq hq'
      repeat (first | refine JL.q (by first | (apply OQ.move; exact rfl) | (apply OQ.addN; exact rfl; exact rfl; exact (by (try simp only []); omega))) rfl ?_ | refine JC.region ?_ | refine JC.exit ?_ | refine JL.nil ?_ | refine JE.next ?_ | refine JE.blk_normal ?_ | refine JE.then_exit ?_ | refine JE.blk_hit ?_)
      exact JE.again (i := r) (r + 1) (by omega) (by omega) (by repeat (first | exact SubE.nil | refine SubE.cons _ _ _ rfl ?_)) (Less.refl _)
  · have hr' : ¬ r < 10 := of_decide_eq_false h
    obtain rfl : r = 10 := by omega
    clear h hr hr'
    have hv16 : (st s (8 * 10)).length = 16 := by rw [st_length, hs]
    have hblA := blA_set s
    rw [show st s (8 * 10) = st s 80 from rfl] at hv16 ⊢
    generalize hv : st s 80 = v at hv16 hblA ⊢
    have hvl : (v.map U32).length = 16 := by simpa using hv16
    repeat (first | refine JC.seq ?_ | refine JC.region ?_ | refine JC.exit ?_ | refine JE.next ?_ | refine JE.then_exit ?_ | refine JE.blk_hit ?_)
    refine JL.alloc u64z rfl fun b7 _ => ?_
    repeat (first | refine JL.q (by first | (apply OQ.load_agg (cs := v.map U32); exact w16a; exact w16s; exact rfl; exact (.there .here); exact hvl; exact Row.all) | (apply OQ.move; exact rfl)) rfl ?_ | refine JC.seq ?_ | refine JC.region ?_ | refine JC.block ?_ | refine JL.nil ?_ | refine JE.next ?_)
    refine JC.loop (fun i : Nat => [(1, Pt b1 0), (2, Pt b2 0), (7, Pt b7 0), (59, .agg (v.map U32).toArray), (60, N i)])
      (fun i => [⟨b7, Row 125 ((blA s i).map U8), true⟩, ⟨b2, Row 125 ((List.replicate 64 (0 : B)).map U8), true⟩, ⟨b1, Row 128 (s.map U32), true⟩])
      (fun i => 16 - i) (fun i => i ≤ 16) 0 (by omega) (by repeat (first | exact SubE.nil | refine SubE.cons _ _ _ rfl ?_)) (.keep _ _ _ _ _ _ (fun _ h => h) (.drop _ _ _ (Less.refl _))) ?_
    intro i hi
    repeat (first | refine JL.q (by (apply OQ.lssN; exact rfl; exact rfl)) rfl ?_ | refine JC.seq ?_ | refine JC.region ?_ | refine JL.nil ?_ | refine JE.next ?_)
    refine JC.cond rfl (fun h => ?_) (fun h => ?_)
    · have hi' : i < 16 := of_decide_eq_true h
      clear h hi
      have hbl := blA_length s i (by omega)
      have hset := hblA i hi' _ rfl
      repeat (first | refine JL.q (by first | (apply OQ.index; exact Tryd.underlying128; exact q1s; exact q1c; exact rfl; exact rfl; exact hi'; exact (w_get (by omega))) | (apply OQ.idxA0; exact Tryd.underlying128; exact q1s; exact rfl; exact rfl; exact hi') | (apply OQ.load; exact q1c; exact rfl; exact (.there (.there .here)); exact (Row.cell (w_get (by omega)))) | (apply OQ.move; exact rfl) | (apply OQ.assign; exact rfl) | (apply OQ.add32; exact rfl; exact rfl) | (apply OQ.shr32; exact rfl; exact rfl) | (apply OQ.addN; exact rfl; exact rfl; exact (by (try simp only []); omega)) | (apply OQ.mulN; exact rfl; exact rfl; exact (by (try simp only []); omega)) | (apply OQ.conv32_8; exact rfl; exact rfl; exact rfl) | (apply OQ.idxA0; exact rfl; exact rfl; exact rfl; exact rfl; exact (by (try simp only []); omega))) rfl ?_ | refine JC.seq ?_ | refine JC.region ?_ | refine JC.block ?_ | refine JC.skip ?_ | refine JL.nil ?_ | refine JE.next ?_)
      generalize (blA s i).map U8 = r0 at hbl hset
      generalize v.getD i 0 + s.getD i 0 = z at hset
      skip
      refine JL.store_row rfl rfl s5 rfl rfl .here (by (try simp only []); omega) ?_
      repeat (refine JL.q (by (apply OQ.idxA0; exact Tryd.underlying125; exact s5; exact rfl; exact rfl; exact (by (try simp only []); omega))) rfl ?_)
      refine JL.store_row rfl rfl s5 rfl rfl .here (by rw [List.length_set]; (try simp only []); omega) ?_
      repeat (refine JL.q (by (apply OQ.idxA0; exact Tryd.underlying125; exact s5; exact rfl; exact rfl; exact (by (try simp only []); omega))) rfl ?_)
      refine JL.store_row rfl rfl s5 rfl rfl .here (by rw [List.length_set, List.length_set]; (try simp only []); omega) ?_
      repeat (refine JL.q (by (apply OQ.idxA0; exact Tryd.underlying125; exact s5; exact rfl; exact rfl; exact (by (try simp only []); omega))) rfl ?_)
      refine JL.store_eq s5 rfl rfl rfl rfl .here (by rw [List.length_set, List.length_set, List.length_set]; (try simp only []); omega) hset ?_
      repeat (first | refine JL.q (by first | (apply OQ.move; exact rfl) | (apply OQ.addN; exact rfl; exact rfl; exact (by (try simp only []); omega))) rfl ?_ | refine JC.region ?_ | refine JL.nil ?_ | refine JE.next ?_ | refine JE.blk_normal ?_)
      exact JE.again (i := i) (i + 1) (by omega) (by omega) (by repeat (first | exact SubE.nil | refine SubE.cons _ _ _ rfl ?_)) (Less.refl _)
    · have hi' : ¬ i < 16 := of_decide_eq_false h
      obtain rfl : i = 16 := by omega
      clear h hi hi'
      have hbl : blA s 16 = block s := by simp [blA, block]
      have hl := blA_length s 16 (by omega)
      rw [hbl] at hl ⊢
      repeat (first | refine JL.q (by (apply OQ.load_agg (cs := (block s).map U8); exact a60; exact s60; exact rfl; exact .here; exact hl; exact Row.all)) rfl ?_ | refine JC.seq ?_ | refine JC.region ?_ | refine JC.exit ?_ | refine JE.next ?_ | refine JE.then_exit ?_ | refine JE.blk_hit ?_)
      refine JL.store_all s60 rfl rfl hl (all8 _) (.there .here) (by simp) ?_
      repeat (first | refine JL.nil ?_ | refine JE.next ?_)
      refine JC.ret (JE.ret1 rfl (RV.cell_agg a60 s60 rfl (.there .here) hl Row.all) ?_)
      exact fun w' hw => ⟨rfl, hw.chg⟩

end Go.Proofs.YtbhlcnimjoppeaaDoor

/-
  Of no statement by itself: what the reference's Order and Block give.
  Conditions: each theorem's own.
-/
namespace Go.Proofs.YtbhlcnimjoppeaaDoor
set_option maxRecDepth 10000
open Sl Sha Str

theorem Sl.Holds.perm {w0 w : World} {S : List Nat} {M M' : List Ent} (h : Holds w0 S M w) (hp : M.Perm M') : Holds w0 S M' w :=
  ⟨h.chg, (hp.map Ent.b).nodup_iff.1 h.nodup, fun e he => h.all e (hp.mem_iff.2 he)⟩
theorem JL.permS {P : Program} {n : Nat} {w0 : World} {S : List Nat} {ops : Array Oper} {Q : Exit → Act → World → Prop} {l : List Oper} {E : Env} {M M' : List Ent} (hp : M.Perm M') (h : JL P n w0 S ops Q l E M') : JL P n w0 S ops Q l E M := ⟨fun a w ha hw => h.go a w ha (hw.perm hp)⟩
end Go.Proofs.YtbhlcnimjoppeaaDoor

/-
  Of no statement by itself: what stream.Turn gives.
  Conditions: the theorem's own; the listed table of quarters.
-/
namespace Go.Proofs.YtbhlcnimjoppeaaDoor
set_option maxRecDepth 10000
open Sl Sha Str

theorem goes_turnb : Goes Tryd.prog 50 := ⟨_, Tryd.func50, rfl, by kernel_rfl⟩
theorem OQ.slS_in {P : Program} {n : Nat} {E : Env} {C : World → Prop} {dst : Option Tmp} {t ty e : TypeId} {pos : String} {aft : Array Edge} {g : Option (Nat × Bool)} {x y z : Operand} {len cap b j lo hi : Nat} (hu : P.underlying t = some (.slice e)) (hz : szT P e = some 1) (hx : ev E x = some (.slice (some ⟨b, j, none⟩) len cap)) (hl : ev E y = some (N lo)) (hh : ev E z = some (N hi)) (h : lo ≤ hi) (h' : hi ≤ cap) (h2 : lo < cap) :
    OQ P n E C ⟨dst, .slice t x (some y) (some z) none, ty, pos, aft, g⟩ (.slice (some ⟨b, j + lo, none⟩) (hi - lo) (cap - lo)) := by
  have := OQ.slS_lohi (P := P) (n := n) (E := E) (C := C) (dst := dst) (ty := ty) (pos := pos) (aft := aft) (g := g) hu hz hx hl hh h h'
  rw [if_neg (by omega), Nat.mul_one] at this
  simpa [add_off] using this

section
variable (key : List B) (ctr : W) (nonce l : List B)
/-- turned as far as j, noughts behind -/
def tz (j : Nat) : List B := turn key ctr nonce (l.take j) ++ List.replicate (l.length - j) 0
theorem tz_length (j : Nat) (h : j ≤ l.length) : ((tz key ctr nonce l j).map U8).length = l.length := by simp [tz, turn_length]; omega
theorem tz_zero : List.replicate (l.length * 1) (Value.int .u8 0) = (tz key ctr nonce l (min (64 * 0) l.length)).map U8 := by simp [tz, turn, turnAt, U8]
theorem tz_all : tz key ctr nonce l l.length = turn key ctr nonce l := by simp [tz]
theorem tz_set (q i : Nat) (hi : i < 64) (h : 64 * q + i < l.length) : ((tz key ctr nonce l (64 * q + i)).map U8).set (64 * q + i) (U8 (l.getD (64 * q + i) 0 ^^^ (ks key (ctr + BitVec.ofNat 32 q) nonce).getD i 0)) = (tz key ctr nonce l (64 * q + i + 1)).map U8 := by
  rw [← sb_at key ctr nonce q i hi]
  generalize 64 * q + i = j at h ⊢
  have hl : (turn key ctr nonce (l.take j)).length = j := by rw [turn_length, List.length_take]; omega
  rw [← List.map_set, tz, List.set_append_right _ _ (by omega), hl, Nat.sub_self, tz, turn_succ key ctr nonce l j h, show l.length - j = (l.length - (j + 1)) + 1 by omega, List.replicate_succ, List.set_cons_zero]
  simp
theorem ctr_succ (q : Nat) : ctr + BitVec.ofNat 32 q + 1#32 = ctr + BitVec.ofNat 32 (q + 1) := by rw [BitVec.add_assoc, BitVec.ofNat_add]
end

set_option maxHeartbeats 16000000 in
set_option maxRecDepth 4000 in
theorem turn_any' (key : List B) (ctr : W) (nonce : List B) (s : Sl8) (hk : key.length = 32) (hn : nonce.length = 12) (w : World) (hQ : GQ w) (hs : s.ok w) (hsl : s.l.length < 140737488355328) :
    Calls Tryd.prog 50 [.agg (key.map U8).toArray, U32 ctr, .agg (nonce.map U8).toArray, s.v].toArray w fun e w' => ∃ b, e = .returned (.slice (some ⟨b, 0, none⟩) s.l.length s.l.length) ∧ Holds w [] [⟨b, Row 5 ((turn key ctr nonce s.l).map U8), true⟩] w' := by
  refine enter (n := 60) Tryd.func50 rfl rfl rfl (Holds.start w []) ?_
  repeat (first | refine JC.seq ?_ | refine JC.region ?_)
  refine JL.box (r := key.map U8) rfl rfl rfl fun b4 _ => ?_
  refine JL.box (r := nonce.map U8) rfl rfl rfl fun b6 _ => ?_
  repeat (first | refine JL.q (by first | (apply OQ.load_agg (cs := key.map U8); exact a25; exact s25; exact rfl; exact (.there .here); exact (by simpa using hk); exact Row.all) | (apply OQ.load_agg (cs := nonce.map U8); exact noa; exact nos; exact rfl; exact .here; exact (by simpa using hn); exact Row.all) | (apply OQ.callx; exact goes_beginning; exact rfl; exact (fun w' _ => beginning_any key ctr nonce hk hn w')) | (apply OQ.move; exact rfl) | (apply OQ.assign; exact rfl)) rfl ?_ | refine JC.seq ?_ | refine JC.region ?_ | refine JL.nil ?_ | refine JE.next ?_)
  refine JL.alloc w16z rfl fun b9 _ => ?_
  have hbl : ∀ c, ((sbegin key c nonce).map U32).length = 16 := fun c => by rw [List.length_map, sbegin_length]
  refine JL.store_all w16s rfl rfl (hbl _) (all32q _) .here (by simp) ?_
  repeat (first | refine JL.q (by first | (apply OQ.move; exact rfl) | (apply OQ.len; exact rfl; exact rfl)) rfl ?_ | refine JC.seq ?_ | refine JC.region ?_ | refine JL.nil ?_ | refine JE.next ?_)
  refine JL.make Tryd.underlying27 e5 rfl (by decide) (c := s.l.length) rfl rfl (by omega) (by omega) rfl fun b10 _ => ?_
  rw [tz_zero key ctr nonce]
  repeat (first | refine JL.q (by (apply OQ.assign; exact rfl)) rfl ?_ | refine JC.seq ?_ | refine JC.region ?_ | refine JC.block ?_ | refine JL.nil ?_ | refine JE.next ?_)
  refine JC.loop (fun q : Nat => [(3, s.v), (9, Pt b9 0), (10, .slice (some ⟨b10, 0, none⟩) s.l.length s.l.length), (11, N (64 * q))])
    (fun q => [⟨b10, Row 5 ((tz key ctr nonce s.l (min (64 * q) s.l.length)).map U8), true⟩, ⟨b9, Row 128 ((sbegin key (ctr + BitVec.ofNat 32 q) nonce).map U32), true⟩])
    (fun q => s.l.length + 64 - 64 * q) (fun q => 64 * q < s.l.length + 64) 0 (by omega) (by repeat (first | exact SubE.nil | refine SubE.cons _ _ _ rfl ?_)) (.keep _ _ _ _ _ _ (fun _ h => h) (.keep _ _ _ _ _ _ (fun o ho => by simpa using ho) (Less.nil _))) ?_
  intro q hq
  repeat (first | refine JL.q (by first | (apply OQ.move; exact rfl) | (apply OQ.len; exact rfl; exact rfl) | (apply OQ.lssN; exact rfl; exact rfl)) rfl ?_ | refine JC.seq ?_ | refine JC.region ?_ | refine JL.nil ?_ | refine JE.next ?_)
  refine JC.cond rfl (fun h => ?_) (fun h => ?_)
  · have hq' : 64 * q < s.l.length := of_decide_eq_true h
    clear h hq
    obtain ⟨bb, jb, hae, hcell⟩ := hs.reads.at (by simp; omega)
    have hav : s.v = .slice (some ⟨bb, jb, none⟩) s.l.length s.cap := by rw [← hae]; rfl
    have hcap := hs.len
    have hksl : ((ks key (ctr + BitVec.ofNat 32 q) nonce).map U8).length = 64 := by rw [List.length_map, ks_length]
    repeat (first | refine JL.q (by first | (apply OQ.load_agg (cs := (sbegin key (ctr + BitVec.ofNat 32 q) nonce).map U32); exact w16a; exact w16s; exact rfl; exact (.there .here); exact (hbl _); exact Row.all) | (apply OQ.callx; exact goes_mixed; exact rfl; exact (fun w' hw' => mixed_any (sbegin key (ctr + BitVec.ofNat 32 q) nonce) (sbegin_length _ _ _) w' (hQ.chg hw'.chg (by simp))))) rfl ?_ | refine JC.seq ?_ | refine JC.region ?_ | refine JC.block ?_ | refine JC.skip ?_ | refine JE.next ?_)
    refine JL.alloc u64z rfl fun b12 _ => ?_
    refine JL.store_all s60 rfl rfl hksl (all8 _) .here (by simp) ?_
    rw [hav]
    obtain ⟨c, hc⟩ : ∃ c, c = min (64 * q + 64) s.l.length - 64 * q := ⟨_, rfl⟩
    have hc1 : c ≤ 64 := by omega
    have hc2 : 64 * q + c ≤ s.l.length := by omega
    repeat (first | refine JL.q (by first | (apply OQ.minN; exact rfl; exact rfl) | (apply OQ.slS_in; exact Tryd.underlying27; exact s5; exact rfl; exact rfl; exact rfl; exact (by (try simp only []); omega); exact (by (try simp only []); omega); exact (by (try simp only []); omega)) | (apply OQ.move; exact rfl) | (apply OQ.len; exact rfl; exact rfl) | (apply OQ.addN; exact rfl; exact rfl; exact (by (try simp only []); omega))) rfl ?_ | refine JC.seq ?_ | refine JC.region ?_ | refine JC.block ?_ | refine JL.nil ?_ | refine JE.next ?_)
    rw [← hc, Nat.min_eq_left (by omega : 64 * q ≤ s.l.length)]
    refine JC.loop (fun i : Nat => [(3, .slice (some ⟨bb, jb, none⟩) s.l.length s.cap), (9, Pt b9 0), (10, .slice (some ⟨b10, 0, none⟩) s.l.length s.l.length), (11, N (64 * q)), (12, Pt b12 0), (37, .slice (some ⟨bb, jb + 64 * q, none⟩) c (s.cap - 64 * q)), (38, N c), (39, N i)])
      (fun i => [⟨b12, Row 125 ((ks key (ctr + BitVec.ofNat 32 q) nonce).map U8), true⟩, ⟨b10, Row 5 ((tz key ctr nonce s.l (64 * q + i)).map U8), true⟩, ⟨b9, Row 128 ((sbegin key (ctr + BitVec.ofNat 32 q) nonce).map U32), true⟩])
      (fun i => c - i) (fun i => i ≤ c) 0 (by omega) (by repeat (first | exact SubE.nil | refine SubE.cons _ _ _ rfl ?_)) (Less.refl _) ?_
    intro i hi
    repeat (first | refine JL.q (by (apply OQ.lssN; exact rfl; exact rfl)) rfl ?_ | refine JC.seq ?_ | refine JC.region ?_ | refine JL.nil ?_ | refine JE.next ?_)
    refine JC.cond rfl (fun h => ?_) (fun h => ?_)
    · have hi' : i < c := of_decide_eq_true h
      clear h hi
      have hci : w.cell? ⟨bb, jb + 64 * q + i, none⟩ = some (U8 (s.l.getD (64 * q + i) 0)) := by
        rw [Nat.add_assoc]
        exact hcell _ _ (map_at U8 0 (by omega))
      repeat (first | refine JL.q (by first | (apply OQ.idxS1; exact Tryd.underlying27; exact s5; exact rfl; exact rfl; exact hi') | (apply OQ.load_old; exact c5; exact rfl; exact (block_lt_of_cell hci); exact (by simp); exact hci) | (apply OQ.idxA0; exact Tryd.underlying125; exact s5; exact rfl; exact rfl; exact (by (try simp only []); omega)) | (apply OQ.load; exact c5; exact rfl; exact .here; exact (Row.cell (map_at U8 0 (by rw [ks_length]; omega)))) | (apply OQ.idxS0; exact Tryd.underlying27; exact s5; exact rfl; exact rfl; exact (show 64 * q + i < s.l.length by omega)) | (apply OQ.move; exact rfl) | (apply OQ.assign; exact rfl) | (apply OQ.xor8; exact rfl; exact rfl) | (apply OQ.addN; exact rfl; exact rfl; exact (by (try simp only []); omega))) rfl ?_ | refine JC.seq ?_ | refine JC.region ?_ | refine JC.block ?_ | refine JC.skip ?_ | refine JL.nil ?_ | refine JE.next ?_)
      refine JL.store_eq s5 rfl rfl rfl rfl (.there .here) (by rw [tz_length _ _ _ _ _ (by omega)]; omega) (tz_set key ctr nonce s.l q i (by omega) (by omega)) ?_
      repeat (first | refine JL.q (by first | (apply OQ.move; exact rfl) | (apply OQ.addN; exact rfl; exact rfl; exact (by (try simp only []); omega))) rfl ?_ | refine JC.region ?_ | refine JL.nil ?_ | refine JE.next ?_ | refine JE.blk_normal ?_)
      exact JE.again (i := i) (i + 1) (by omega) (by omega) (by repeat (first | exact SubE.nil | refine SubE.cons _ _ _ rfl ?_)) (Less.refl _)
    · have hi' : ¬ i < c := of_decide_eq_false h
      obtain rfl : i = c := by omega
      clear h hi hi'
      have hg : ((sbegin key (ctr + BitVec.ofNat 32 q) nonce).map U32)[12]? = some (U32 (ctr + BitVec.ofNat 32 q)) := by
        have := w_get (s := sbegin key (ctr + BitVec.ofNat 32 q) nonce) (j := 12) (by rw [sbegin_length]; decide)
        rwa [sbegin_get] at this
      have hset : ((sbegin key (ctr + BitVec.ofNat 32 q) nonce).map U32).set 12 (U32 (ctr + BitVec.ofNat 32 q + 1#32)) = (sbegin key (ctr + BitVec.ofNat 32 (q + 1)) nonce).map U32 := by
        rw [← List.map_set, sbegin_set, ctr_succ]
      rw [← hav]
      repeat (first | refine JL.q (by first | (apply OQ.idxA0; exact Tryd.underlying128; exact q1s; exact rfl; exact rfl; exact (by decide)) | (apply OQ.load; exact q1c; exact rfl; exact (.there (.there .here)); exact (Row.cell hg)) | (apply OQ.add32 (b := 1#32); exact rfl; exact rfl)) rfl ?_ | refine JC.region ?_ | refine JC.exit ?_ | refine JE.next ?_ | refine JE.then_exit ?_ | refine JE.blk_hit ?_)
      refine JL.store_eq q1s rfl rfl rfl rfl (.there (.there .here)) (by rw [hbl]; decide) hset ?_
      repeat (first | refine JL.q (by first | (apply OQ.move; exact rfl) | (apply OQ.assign; exact rfl) | (apply OQ.addN; exact rfl; exact rfl; exact (by (try simp only []); omega))) rfl ?_ | refine JC.region ?_ | refine JL.nil ?_ | refine JE.next ?_ | refine JE.blk_normal ?_)
      rw [show 64 * q + 64 = 64 * (q + 1) by omega]
      exact JE.again (i := q) (q + 1) (by omega) (by omega) (by repeat (first | exact SubE.nil | refine SubE.cons _ _ _ rfl ?_)) (.drop _ _ _ (.keep _ _ _ _ _ _ (fun o ho => by rw [show min (64 * (q + 1)) s.l.length = 64 * q + i by omega]; exact ho) (Less.refl _)))
  · have hq' : ¬ 64 * q < s.l.length := of_decide_eq_false h
    clear h
    repeat (first | refine JL.q (by first | (apply OQ.move; exact rfl) | (apply OQ.assign; exact rfl)) rfl ?_ | refine JC.seq ?_ | refine JC.region ?_ | refine JC.exit ?_ | refine JL.nil ?_ | refine JE.next ?_ | refine JE.then_exit ?_ | refine JE.blk_hit ?_)
    refine JC.ret ?_
    skip
    refine JE.ret1 rfl (RV.tmp rfl) fun w' hw => ⟨b10, rfl, hw.weak (.keep _ _ _ _ _ _ (fun o ho => ?_) (Less.nil _))⟩
    rw [Nat.min_eq_right (by omega), tz_all] at ho
    exact ho
end Go.Proofs.YtbhlcnimjoppeaaDoor

/-
  Of no statement by itself: what the reference's Turn gives.
  Conditions: each theorem's own.
-/
namespace Go.Proofs.YtbhlcnimjoppeaaDoor
set_option maxRecDepth 10000
open Sl Sha Str

end Go.Proofs.YtbhlcnimjoppeaaDoor

/-
  Of no statement by itself: what Turn and the reference's Turn give, once more; the two parts of a cut slice.
  Conditions: each theorem's own.
-/
namespace Go.Proofs.YtbhlcnimjoppeaaDoor
set_option maxRecDepth 10000
open Sl Sha Str

theorem turnO_any (key : List B) (ctr : W) (nonce : List B) (s : Sl8) {va : Value} (hva : s.v = va) (hk : key.length = 32) (hn : nonce.length = 12) (w : World) (hQ : GQ w) (hs : s.ok w) (hsl : s.l.length < 140737488355328) :
    Calls Tryd.prog 50 [.agg (key.map U8).toArray, U32 ctr, .agg (nonce.map U8).toArray, va].toArray w fun e w' => ∃ b, e = .returned (.slice (some ⟨b, 0, none⟩) s.l.length s.l.length) ∧ Holds w [] [⟨b, Sl.Own 5 1 s.l.length s.l.length ((turn key ctr nonce s.l).map U8), true⟩] w' := by
  subst hva
  exact (turn_any' key ctr nonce s hk hn w hQ hs hsl).mono fun e w' ⟨b, h1, h2⟩ => ⟨b, h1, h2.weak (.keep _ _ _ _ _ _ (row_own (by simp [turn_length])) (Less.nil _))⟩
end Go.Proofs.YtbhlcnimjoppeaaDoor

/-
  Of no statement by itself: what seal.Seal and seal.Open give.
  Conditions: each theorem's own; the listed tables.
-/
namespace Go.Proofs.YtbhlcnimjoppeaaDoor
set_option maxRecDepth 10000
open Sl Sha Str

/-- sealed by two keys, and opened -/
def sealK (a1 a2 nonce side p : List B) : List B := turn a1 1#32 nonce p ++ hmac a2 (msg nonce side (turn a1 1#32 nonce p))
def openK (a1 a2 nonce side z : List B) : List B × Nat :=
  if z.length < 32 then ([], 3) else if hmac a2 (msg nonce side (z.take (z.length - 32))) = z.drop (z.length - 32) then (turn a1 1#32 nonce (z.take (z.length - 32)), 0) else ([], 10)
theorem hmacL (k b : List B) : (hmac k b).length = 32 := rfl
theorem sealK_length (a1 a2 nonce side p : List B) : (sealK a1 a2 nonce side p).length = p.length + 32 := by rw [sealK, List.length_append, turn_length, hmacL]
theorem sealK_take (a1 a2 nonce side p : List B) : (sealK a1 a2 nonce side p).take p.length = turn a1 1#32 nonce p := by
  rw [sealK, List.take_append_of_le_length (by rw [turn_length]; exact Nat.le_refl _), List.take_of_length_le (by rw [turn_length]; exact Nat.le_refl _)]
theorem sealK_drop (a1 a2 nonce side p : List B) : (sealK a1 a2 nonce side p).drop p.length = hmac a2 (msg nonce side (turn a1 1#32 nonce p)) := by
  have h := turn_length a1 1#32 nonce p
  rw [sealK, List.drop_append, h, Nat.sub_self, List.drop_zero, List.drop_of_length_le (by omega), List.nil_append]
theorem openK_sealK (a1 a2 nonce side p : List B) : openK a1 a2 nonce side (sealK a1 a2 nonce side p) = (p, 0) := by
  have h1 := sealK_length a1 a2 nonce side p
  have h2 : (sealK a1 a2 nonce side p).length - 32 = p.length := by omega
  rw [openK, if_neg (by omega), h2, sealK_take, sealK_drop, if_pos rfl, turn_twice]
theorem goes_seal : Goes Tryd.prog 27 := ⟨_, Tryd.func27, rfl, by kernel_rfl⟩
theorem goes_open : Goes Tryd.prog 71 := ⟨_, Tryd.func71, rfl, by kernel_rfl⟩

theorem messageV {nonce : List B} {s c : Sl8} {vc : Value} (hvc : c.v = vc) (hn : nonce.length = 12) {w : World} (hs : s.ok w) (hc : c.ok w) (hsl : s.l.length < 35184372088832) (hcl : c.l.length < 35184372088832) :
    Calls Tryd.prog 51 [.agg (nonce.map U8).toArray, s.v, vc].toArray w fun e w' => ∃ x : Nat × Nat, e = .returned (.slice (some ⟨x.1, 0, none⟩) (msg nonce s.l c.l).length x.2) ∧ Holds w [] [⟨x.1, Sl.Own 5 1 (msg nonce s.l c.l).length x.2 ((msg nonce s.l c.l).map U8), true⟩] w' := by
  subst hvc
  exact message_any nonce s c hn w hs hc hsl hcl
theorem tag_ok {w0 w : World} {S : List Nat} {M : List Ent} {a2 m : List B} (ha : a2.length = 32) (hml : m.length < 1000000000) {b10 bL bm cm : Nat} (hw : Holds w0 S M w) (hG : GOk w) (h1 : Has M b10 (Row 23 (a2.map U8)) true) (h2 : Has M bL (Row 27 [.slice (some ⟨bm, 0, none⟩) m.length cm]) true) (h3 : Has M bm (Sl.Own 5 1 m.length cm (m.map U8)) true) :
    Calls Tryd.prog 48 [.slice (some ⟨b10, 0, none⟩) 32 32, .slice (some ⟨bL, 0, none⟩) 1 1].toArray w fun e w'' => e = .returned (.agg ((hmac a2 m).map U8).toArray) ∧ Ext w w'' := by
  obtain ⟨o2, ho2, hA2⟩ := hw.get h2
  have := hmac_any ⟨some ⟨b10, 0, none⟩, 32, a2⟩ (some ⟨bL, 0, none⟩) 1 [⟨some ⟨bm, 0, none⟩, cm, m⟩] w hG (row_ok hw h1 rfl (Nat.le_of_eq ha)) (Reads.block ho2 (Row.all _ hA2)) (by simpa using ownb_ok hw h3) (show a2.length < 4611686018427387904 by omega) (by simp) (by simp [total]; omega)
  simpa [Sl8.v, ha] using this
def needP : Nat → List (Nat × Nat)
  | 4 => [(1, 24), (2, 25), (3, 26)]
  | 5 => [(4, 27)]
  | 6 => [(0, 23), (5, 28)]
  | 8 => [(7, 12), (6, 29)]
  | _ => []
def inpP : Nat → List Nat
  | 1 => [12]
  | 4 => [9]
  | 5 => [4]
  | 6 => [5, 10]
  | 8 => [7]
  | _ => []
def eatP : Nat → List Nat
  | 5 => [4]
  | 8 => [7]
  | _ => []
def srcP : Nat → Option Nat
  | 8 => some 7
  | _ => none
def needQ : Nat → List (Nat × Nat)
  | 4 => [(1, 34), (2, 35), (3, 36)]
  | 5 => [(4, 37)]
  | 6 => [(0, 33), (5, 38)]
  | 8 => [(7, 14), (6, 39)]
  | _ => []
def inpQ : Nat → List Nat
  | 1 => [11]
  | 5 => [4]
  | 6 => [5, 9]
  | 8 => [7]
  | _ => []

set_option maxHeartbeats 4000000 in
set_option maxRecDepth 4000 in
theorem seal_any (key nonce : List B) (s p : Sl8) (hk : key.length = 32) (hn : nonce.length = 12) (w : World) (hG : GOk w) (hQ : GQ w) (hs : s.ok w) (hp : p.ok w) (hsl : s.l.length < 100000000) (hpl : p.l.length < 100000000) :
    Calls Tryd.prog 27 [.agg (key.map U8).toArray, .agg (nonce.map U8).toArray, s.v, p.v].toArray w fun e w' => ∃ x : Nat × Nat, e = .returned (.slice (some ⟨x.1, 0, none⟩) (p.l.length + 32) x.2) ∧ Holds w [] [⟨x.1, Sl.Own 5 1 (p.l.length + 32) x.2 ((sealK (k1 key) (k2 key) nonce s.l p.l).map U8), true⟩] w' := by
  have hTwo := two_any key hk
  have h1 := k1_length key
  have h2 := k2_length key
  generalize k1 key = a1 at hTwo h1 ⊢
  generalize k2 key = a2 at hTwo h2 ⊢
  have hTl := turn_length a1 1#32 nonce p.l
  have hT0 := fun w' (h : GQ w') (h' : p.ok w') => turnO_any a1 1#32 nonce p rfl h1 hn w' h h' (by omega)
  rw [sealK]
  generalize turn a1 1#32 nonce p.l = T at hTl hT0 ⊢
  have hml := msg_length nonce s.l T
  have hM0 := fun (w' : World) (b c : Nat) (hs' : s.ok w') (h : Sl8.ok w' ⟨some ⟨b, 0, none⟩, c, T⟩) => messageV (c := ⟨some ⟨b, 0, none⟩, c, T⟩) (vc := .slice (some ⟨b, 0, none⟩) p.l.length c) (by simp [Sl8.v, hTl]) hn hs' h (show s.l.length < 35184372088832 by omega) (show T.length < 35184372088832 by omega)
  simp only [] at hM0
  rw [hn, hTl] at hml
  generalize msg nonce s.l T = m at hml hM0 ⊢
  refine enter (n := 40) Tryd.func27 rfl rfl rfl (Holds.start w []) ?_
  repeat (first | refine JC.seq ?_ | refine JC.region ?_)
  refine JL.box (r := key.map U8) rfl rfl rfl fun b4 _ => ?_
  refine JL.box (r := nonce.map U8) rfl rfl rfl fun b5 _ => ?_
  repeat (first | refine JL.q (by first | (apply OQ.load_agg (cs := key.map U8); exact a25; exact s25; exact rfl; exact (.there .here); exact (by simpa using hk); exact Row.all) | (apply OQ.callx; exact goes_two; exact rfl; exact (fun w' hw' => hTwo w' (hG.chg hw'.chg (by simp)))) | (apply OQ.extract; exact rfl; exact rfl) | (apply OQ.move; exact rfl) | (apply OQ.assign; exact rfl)) rfl ?_ | refine JC.seq ?_ | refine JC.region ?_ | refine JL.nil ?_ | refine JE.next ?_)
  refine JL.alloc zc25 rfl fun b9 _ => ?_
  refine JL.alloc zc25 rfl fun b10 _ => ?_
  skip
  refine JL.store_all s25 rfl rfl (by simpa using h1) (all8 _) (.there .here) (by simp) ?_
  refine JL.store_all s25 rfl rfl (by simpa using h2) (all8 _) .here (by simp) ?_
  repeat (first | refine JL.q (by first | (apply OQ.load_agg (cs := a1.map U8); exact a25; exact s25; exact rfl; exact (.there .here); exact (by simpa using h1); exact Row.all) | (apply OQ.load_agg (cs := nonce.map U8); exact noa; exact nos; exact rfl; exact (.there (.there .here)); exact (by simpa using hn); exact Row.all) | (apply OQ.move; exact rfl)) rfl ?_ | refine JC.seq ?_ | refine JC.region ?_ | refine JL.nil ?_ | refine JE.next ?_)
  refine JL.callg (ι := Nat) (fun b => .slice (some ⟨b, 0, none⟩) p.l.length p.l.length) (fun b => [⟨b, Sl.Own 5 1 p.l.length p.l.length (T.map U8), true⟩]) goes_turnb rfl rfl (fun i => by simp) (fun w' hw' => hT0 w' (hQ.chg hw'.chg (by simp)) (hp.holds hw' rfl)) fun b11 => ?_
  try dsimp only
  repeat (first | refine JL.q (by (apply OQ.assign; exact rfl)) rfl ?_ | refine JC.seq ?_ | refine JL.nil ?_ | refine JE.next ?_)
  let vs : Nat → X3 → Value := fun j x => match j with
    | 0 => .slice (some ⟨b10, 0, none⟩) 32 32
    | 1 => .agg (nonce.map U8).toArray
    | 2 => s.v
    | 3 => .slice (some ⟨b11, 0, none⟩) p.l.length p.l.length
    | 4 => .slice (some ⟨x.1, 0, none⟩) m.length x.2.1
    | 5 => .slice (some ⟨x.1, 0, none⟩) 1 1
    | 6 => .agg ((hmac a2 m).map U8).toArray
    | _ => Pt x.1 0
  let Ms : Nat → X3 → List Ent := fun j x => match j with
    | 4 => [⟨x.1, Sl.Own 5 1 m.length x.2.1 (m.map U8), true⟩]
    | 5 => [⟨x.1, Row 27 [.slice (some ⟨x.2.1, 0, none⟩) m.length x.2.2], true⟩, ⟨x.2.1, Sl.Own 5 1 m.length x.2.2 (m.map U8), true⟩]
    | 7 => [⟨x.1, Row 23 ((List.replicate 32 (0 : B)).map U8), true⟩]
    | 8 => [⟨x.1, Row 23 ((hmac a2 m).map U8), true⟩]
    | 9 => [⟨b11, Sl.Own 5 1 p.l.length p.l.length (T.map U8), true⟩]
    | 10 => [⟨b10, Row 23 (a2.map U8), true⟩]
    | 11 => [⟨b9, Row 23 (a1.map U8), true⟩]
    | 12 => [⟨b5, Row 67 (nonce.map U8), true⟩]
    | 13 => [⟨b4, Row 23 (key.map U8), true⟩]
    | _ => []
  refine JC.grow (g := ⟨[(2, s.v), (5, Pt b5 0), (10, Pt b10 0), (11, .slice (some ⟨b11, 0, none⟩) p.l.length p.l.length)], 14, vs, Ms, needP, inpP, eatP, srcP⟩) [(7, 12)] [8, 9] mixed (by repeat (first | exact SubE.nil | refine SubE.cons _ _ _ rfl ?_)) (Less.refl _) (by kernel_rfl) (by kernel_rfl) (by kernel_rfl) ?_ ?_
  · refine ⟨?_, ?_, ?_, ?_, ?_, ?_, ?_, ?_, ?_, trivial⟩
    iterate 4 (focus (intro x EF MF Q kk; (try refine JL.gon rfl rfl ?_); exact JL.q (by first | (apply OQ.slA; exact Tryd.underlying23; exact s5; exact rfl) | (apply OQ.load_agg (cs := nonce.map U8); exact noa; exact nos; exact rfl; exact .here; exact (by simpa using hn); exact Row.all) | (apply OQ.move; exact rfl)) rfl (JL.nil (kk default nofun))))
    · intro x EF MF Q kk
      exact JL.callg (ι := Nat × Nat) (fun x => .slice (some ⟨x.1, 0, none⟩) m.length x.2) (fun x => [⟨x.1, Sl.Own 5 1 m.length x.2 (m.map U8), true⟩]) goes_message rfl rfl (fun i => by simp) (fun w' hw' => hM0 w' b11 p.l.length (hs.holds hw' rfl) (ownb_ok hw' .here)) fun i => JL.nil (kk (i.1, i.2, 0) nofun)
    · intro x EF MF Q kk
      exact JL.lit1 Tryd.underlying88 e22 rfl rfl rfl rfl fun b _ => JL.nil (kk (b, (x 4).1, (x 4).2.1) nofun)
    · intro x EF MF Q kk
      exact JL.q (OQ.callx (vs := [.slice (some ⟨b10, 0, none⟩) 32 32, .slice (some ⟨(x 5).1, 0, none⟩) 1 1]) goes_hmac rfl fun w' hw' => tag_ok h2 (by omega) hw' (hG.chg hw'.chg (by simp)) (.there (.there .here)) .here (.there .here)) rfl (JL.nil (kk default nofun))
    · intro x EF MF Q kk
      exact JL.alloc zc25 rfl fun b _ => JL.nil (kk (b, 0, 0) nofun)
    · intro x EF MF Q kk
      exact JL.store_all s25 rfl rfl (shal _) (all8 _) .here (by simp) (JL.nil (kk (x 7) (fun k h => by cases h; rfl)))
  · intro x hx
    have h8 := hx 8 7 (by decide) rfl
    show JE _ _ _ _ _ [(12, Pt (x 7).1 0), (2, s.v), (5, Pt b5 0), (10, Pt b10 0), (11, .slice (some ⟨b11, 0, none⟩) p.l.length p.l.length)] [⟨(x 8).1, Row 23 ((hmac a2 m).map U8), true⟩, ⟨b11, Sl.Own 5 1 p.l.length p.l.length (T.map U8), true⟩]
    rw [h8]
    generalize (x 7).1 = b12
    clear hx h8 x vs Ms
    repeat (first | refine JL.q (by first | (apply OQ.move; exact rfl) | (apply OQ.len; exact rfl; exact rfl) | (apply OQ.addN; exact rfl; exact rfl; exact (by (try simp only []); omega))) rfl ?_ | refine JC.seq ?_ | refine JC.region ?_ | refine JE.next ?_)
    refine JL.make0 (c := p.l.length + 32) Tryd.underlying27 e5 rfl rfl (by omega) rfl fun b13 _ => ?_
    repeat (first | refine JL.q (by first | (apply OQ.move; exact rfl) | (apply OQ.assign; exact rfl)) rfl ?_ | refine JC.seq ?_ | refine JC.region ?_ | refine JL.nil ?_ | refine JE.next ?_)
    refine JL.append (cs := T.map U8) (fun b' cap' => [⟨b', Sl.Own 5 1 (0 + p.l.length) cap' ([] ++ T.map U8), true⟩, ⟨b12, Row 23 ((hmac a2 m).map U8), true⟩, ⟨b11, Sl.Own 5 1 p.l.length p.l.length (T.map U8), true⟩]) Tryd.underlying27 e5 rfl rfl (by intro _ _; repeat (first | exact Repl.here | apply Repl.there)) (by simpa using hTl) (fun w' hw' => (ownb_ok hw' (.there (.there .here))).reads) (of_u8 _) rfl (by decide) (by omega) (by omega) rfl fun b13 cap13 => ?_
    rw [List.nil_append, Nat.zero_add]
    repeat (first | refine JL.q (by first | (apply OQ.slA; exact Tryd.underlying23; exact s5; exact rfl) | (apply OQ.move; exact rfl) | (apply OQ.assign; exact rfl)) rfl ?_ | refine JC.seq ?_ | refine JC.region ?_ | refine JL.nil ?_ | refine JE.next ?_)
    refine JL.append (cs := (hmac a2 m).map U8) (fun b' cap' => [⟨b', Sl.Own 5 1 (p.l.length + 32) cap' (T.map U8 ++ (hmac a2 m).map U8), true⟩, ⟨b12, Row 23 ((hmac a2 m).map U8), true⟩, ⟨b11, Sl.Own 5 1 p.l.length p.l.length (T.map U8), true⟩]) Tryd.underlying27 e5 rfl rfl (by intro _ _; repeat (first | exact Repl.here | apply Repl.there)) (shal _) (fun w' hw' => (row_ok (cap := 32) hw' (.there .here) rfl (Nat.le_of_eq (hmacL _ _))).reads) (of_u8 _) rfl (by decide) (by omega) (by omega) rfl fun b13 cap13 => ?_
    rw [← List.map_append]
    repeat (first | refine JL.q (by (apply OQ.assign; exact rfl)) rfl ?_ | refine JL.nil ?_ | refine JE.next ?_)
    refine JC.ret ?_
    skip
    exact JE.ret1 rfl (RV.tmp rfl) fun w' hw => ⟨(b13, cap13), rfl, hw.weak (.keep _ _ _ _ _ _ (fun _ h => h) (Less.nil _))⟩

set_option maxHeartbeats 4000000 in
set_option maxRecDepth 4000 in
theorem open_any (key nonce : List B) (s z : Sl8) (hk : key.length = 32) (hn : nonce.length = 12) (w : World) (hG : GOk w) (hQ : GQ w) (hs : s.ok w) (hz : z.ok w) (hsl : s.l.length < 100000000) (hzl : z.l.length < 100000000) :
    Calls Tryd.prog 71 [.agg (key.map U8).toArray, .agg (nonce.map U8).toArray, s.v, z.v].toArray w fun e w' => ∃ s' : Sl8, e = .returned (.tuple #[s'.v, N (openK (k1 key) (k2 key) nonce s.l z.l).2]) ∧ Gave s' (openK (k1 key) (k2 key) nonce s.l z.l).1 s'.cap ∧ Holds w [] s'.ents w' := by
  have hTwo := two_any key hk
  have h1 := k1_length key
  have h2 := k2_length key
  generalize k1 key = a1 at hTwo h1 ⊢
  generalize k2 key = a2 at hTwo h2 ⊢
  refine enter (n := 48) Tryd.func71 rfl rfl rfl (Holds.start w []) ?_
  repeat (first | refine JC.seq ?_ | refine JC.region ?_)
  refine JL.box (r := key.map U8) rfl rfl rfl fun b4 _ => ?_
  refine JL.box (r := nonce.map U8) rfl rfl rfl fun b5 _ => ?_
  by_cases hlt : z.l.length < 32
  · rw [openK, if_pos hlt]
    repeat (first | refine JL.q (by first | (apply OQ.lssN_t; exact rfl; exact rfl; exact hlt) | (apply OQ.move; exact rfl) | (apply OQ.assign; exact rfl) | (apply OQ.len; exact rfl; exact rfl)) rfl ?_ | refine JC.seq ?_ | refine JC.region ?_ | refine JL.nil ?_ | refine JE.next ?_)
    refine JC.cond_true rfl rfl ?_
    repeat (first | refine JL.q (by (apply OQ.assign; exact rfl)) rfl ?_ | refine JC.seq ?_ | refine JC.region ?_ | refine JL.nil ?_ | refine JE.next ?_)
    refine JC.ret ?_
    repeat (refine JE.then_ret ?_)
    exact JE.ret2 rfl (RV.tmp rfl) (RV.tmp rfl) fun w' hw => ⟨nilS, rfl, ⟨rfl, rfl, fun _ => rfl⟩, hw.weak (Less.nil _)⟩
  repeat (first | refine JL.q (by first | (apply OQ.lssN_f; exact rfl; exact rfl; exact hlt) | (apply OQ.move; exact rfl) | (apply OQ.assign; exact rfl) | (apply OQ.len; exact rfl; exact rfl)) rfl ?_ | refine JC.seq ?_ | refine JC.region ?_ | refine JL.nil ?_ | refine JE.next ?_)
  refine JC.cond_false rfl rfl ?_
  rw [openK, if_neg hlt]
  have hle : z.l.length - 32 ≤ z.l.length := Nat.sub_le _ _
  have hT0 := fun w' (h : GQ w') (h' : (z.fst (z.l.length - 32)).ok w') => turnO_any a1 1#32 nonce (z.fst (z.l.length - 32)) rfl h1 hn w' h h' (show (z.l.take (z.l.length - 32)).length < 140737488355328 by rw [List.length_take]; omega)
  have hM0 := fun (w' : World) (hs' : s.ok w') (h : (z.fst (z.l.length - 32)).ok w') => message_any nonce s (z.fst (z.l.length - 32)) hn w' hs' h (show s.l.length < 35184372088832 by omega) (show (z.l.take (z.l.length - 32)).length < 35184372088832 by rw [List.length_take]; omega)
  rw [show (z.fst (z.l.length - 32)).l = z.l.take (z.l.length - 32) from rfl] at hT0
  simp only [show (z.fst (z.l.length - 32)).l = z.l.take (z.l.length - 32) from rfl] at hM0
  have hml := msg_length nonce s.l (z.l.take (z.l.length - 32))
  rw [hn, List.length_take] at hml
  generalize msg nonce s.l (z.l.take (z.l.length - 32)) = m at hml hM0 ⊢
  have hTl := turn_length a1 1#32 nonce (z.l.take (z.l.length - 32))
  generalize turn a1 1#32 nonce (z.l.take (z.l.length - 32)) = T at hTl hT0 ⊢
  repeat (first | refine JL.q (by first | (apply OQ.load_agg (cs := key.map U8); exact a25; exact s25; exact rfl; exact (.there .here); exact (by simpa using hk); exact Row.all) | (apply OQ.callx; exact goes_two; exact rfl; exact (fun w' hw' => hTwo w' (hG.chg hw'.chg (by simp)))) | (apply OQ.extract; exact rfl; exact rfl) | (apply OQ.move; exact rfl)) rfl ?_ | refine JC.seq ?_ | refine JC.region ?_ | refine JC.skip ?_ | refine JE.next ?_)
  refine JL.alloc zc25 rfl fun b10 _ => ?_
  refine JL.alloc zc25 rfl fun b11 _ => ?_
  skip
  refine JL.store_all s25 rfl rfl (by simpa using h1) (all8 _) (.there .here) (by simp) ?_
  refine JL.store_all s25 rfl rfl (by simpa using h2) (all8 _) .here (by simp) ?_
  repeat (first | refine JC.seq ?_ | refine JL.nil ?_ | refine JE.next ?_)
  refine JC.quiet mixed (by kernel_rfl) ?_
  repeat (first | refine JQ.q (by first | (apply OQ.fst (s := z); exact Tryd.underlying27; exact s5; exact rfl; exact rfl; exact hle; exact hz.len) | (apply OQ.snd (s := z); exact Tryd.underlying27; exact s5; exact rfl; exact rfl; exact hle) | (apply OQ.move; exact rfl) | (apply OQ.assign; exact rfl) | (apply OQ.len; exact rfl; exact rfl) | (apply OQ.subN; exact rfl; exact rfl; exact (by (try simp only []); omega); exact (by (try simp only []); omega))) rfl ?_ | refine JC.seq ?_ | refine JQ.nil ?_ | refine JE.next ?_)
  let vs : Nat → X3 → Value := fun j x => match j with
    | 0 => .slice (some ⟨b11, 0, none⟩) 32 32
    | 1 => .agg (nonce.map U8).toArray
    | 2 => s.v
    | 3 => (z.fst (z.l.length - 32)).v
    | 4 => .slice (some ⟨x.1, 0, none⟩) m.length x.2.1
    | 5 => .slice (some ⟨x.1, 0, none⟩) 1 1
    | 6 => .agg ((hmac a2 m).map U8).toArray
    | _ => Pt x.1 0
  let Ms : Nat → X3 → List Ent := fun j x => match j with
    | 4 => [⟨x.1, Sl.Own 5 1 m.length x.2.1 (m.map U8), true⟩]
    | 5 => [⟨x.1, Row 27 [.slice (some ⟨x.2.1, 0, none⟩) m.length x.2.2], true⟩, ⟨x.2.1, Sl.Own 5 1 m.length x.2.2 (m.map U8), true⟩]
    | 7 => [⟨x.1, Row 23 ((List.replicate 32 (0 : B)).map U8), true⟩]
    | 8 => [⟨x.1, Row 23 ((hmac a2 m).map U8), true⟩]
    | 9 => [⟨b11, Row 23 (a2.map U8), true⟩]
    | 10 => [⟨b10, Row 23 (a1.map U8), true⟩]
    | 11 => [⟨b5, Row 67 (nonce.map U8), true⟩]
    | 12 => [⟨b4, Row 23 (key.map U8), true⟩]
    | _ => []
  refine JC.grow (g := ⟨[(2, s.v), (5, Pt b5 0), (10, Pt b10 0), (11, Pt b11 0), (12, (z.fst (z.l.length - 32)).v), (13, (z.snd (z.l.length - 32)).v)], 13, vs, Ms, needQ, inpQ, eatP, srcP⟩) [(7, 14)] [8, 10, 11] mixed (by repeat (first | exact SubE.nil | refine SubE.cons _ _ _ rfl ?_)) (Less.refl _) (by kernel_rfl) (by kernel_rfl) (by kernel_rfl) ?_ ?_
  · refine ⟨?_, ?_, ?_, ?_, ?_, ?_, ?_, ?_, ?_, trivial⟩
    iterate 4 (focus (intro x EF MF Q kk; (try refine JL.gon rfl rfl ?_); exact JL.q (by first | (apply OQ.slA; exact Tryd.underlying23; exact s5; exact rfl) | (apply OQ.load_agg (cs := nonce.map U8); exact noa; exact nos; exact rfl; exact .here; exact (by simpa using hn); exact Row.all) | (apply OQ.move; exact rfl)) rfl (JL.nil (kk default nofun))))
    · intro x EF MF Q kk
      exact JL.callg (ι := Nat × Nat) (fun x => .slice (some ⟨x.1, 0, none⟩) m.length x.2) (fun x => [⟨x.1, Sl.Own 5 1 m.length x.2 (m.map U8), true⟩]) goes_message rfl rfl (fun i => by simp) (fun w' hw' => hM0 w' (hs.holds hw' rfl) ((hz.holds hw' rfl).fst _)) fun i => JL.nil (kk (i.1, i.2, 0) nofun)
    · intro x EF MF Q kk
      exact JL.lit1 Tryd.underlying88 e22 rfl rfl rfl rfl fun b _ => JL.nil (kk (b, (x 4).1, (x 4).2.1) nofun)
    · intro x EF MF Q kk
      exact JL.q (OQ.callx (vs := [.slice (some ⟨b11, 0, none⟩) 32 32, .slice (some ⟨(x 5).1, 0, none⟩) 1 1]) goes_hmac rfl fun w' hw' => tag_ok h2 (by omega) hw' (hG.chg hw'.chg (by simp)) (.there (.there .here)) .here (.there .here)) rfl (JL.nil (kk default nofun))
    · intro x EF MF Q kk
      exact JL.alloc zc25 rfl fun b _ => JL.nil (kk (b, 0, 0) nofun)
    · intro x EF MF Q kk
      exact JL.store_all s25 rfl rfl (shal _) (all8 _) .here (by simp) (JL.nil (kk (x 7) (fun k h => by cases h; rfl)))
  · intro x hx
    have h8 := hx 8 7 (by decide) rfl
    show JE _ _ _ _ _ [(14, Pt (x 7).1 0), (2, s.v), (5, Pt b5 0), (10, Pt b10 0), (11, Pt b11 0), (12, (z.fst (z.l.length - 32)).v), (13, (z.snd (z.l.length - 32)).v)] [⟨(x 8).1, Row 23 ((hmac a2 m).map U8), true⟩, ⟨b10, Row 23 (a1.map U8), true⟩, ⟨b5, Row 67 (nonce.map U8), true⟩]
    rw [h8]
    generalize (x 7).1 = b14
    clear hx h8 x vs Ms
    have hgl := hmacL a2 m
    generalize hmac a2 m = g at hgl ⊢
    by_cases hg : g = z.l.drop (z.l.length - 32)
    · rw [if_pos hg]
      repeat (first | refine JL.q (by first | (apply OQ.slA; exact Tryd.underlying23; exact s5; exact rfl) | (apply OQ.callx; exact goes_ssame; exact rfl; exact (fun w' hw' => ssame_b (a := ⟨some ⟨b14, 0, none⟩, 32, g⟩) (b := z.snd (z.l.length - 32)) (c := true) (by simp [Sl8.v, hgl]) rfl (row_ok hw' .here rfl (Nat.le_of_eq hgl)) ((hz.holds hw' rfl).snd _ hle) (show g.length < 4611686018427387904 by omega) (decide_eq_true hg))) | (apply OQ.not; exact rfl) | (apply OQ.move; exact rfl)) rfl ?_ | refine JC.seq ?_ | refine JC.region ?_ | refine JL.nil ?_ | refine JE.next ?_)
      refine JC.cond_false rfl rfl ?_
      repeat (first | refine JL.q (by first | (apply OQ.load_agg (cs := a1.map U8); exact a25; exact s25; exact rfl; exact (.there .here); exact (by simpa using h1); exact Row.all) | (apply OQ.load_agg (cs := nonce.map U8); exact noa; exact nos; exact rfl; exact (.there (.there .here)); exact (by simpa using hn); exact Row.all) | (apply OQ.move; exact rfl)) rfl ?_ | refine JC.seq ?_ | refine JC.region ?_ | refine JC.skip ?_ | refine JE.next ?_)
      refine JL.callg (ι := Nat) (fun b => .slice (some ⟨b, 0, none⟩) (z.l.take (z.l.length - 32)).length (z.l.take (z.l.length - 32)).length) (fun b => [⟨b, Sl.Own 5 1 (z.l.take (z.l.length - 32)).length (z.l.take (z.l.length - 32)).length (T.map U8), true⟩]) goes_turnb rfl rfl (fun i => by simp) (fun w' hw' => hT0 w' (hQ.chg hw'.chg (by simp)) ((hz.holds hw' rfl).fst _)) fun b47 => ?_
      try dsimp only
      repeat (first | refine JL.q (by (apply OQ.assign; exact rfl)) rfl ?_ | refine JL.nil ?_ | refine JE.next ?_)
      refine JC.ret ?_
      skip
      refine JE.ret2 rfl (RV.tmp rfl) (RV.tmp rfl) fun w' hw => ⟨⟨some ⟨b47, 0, none⟩, (z.l.take (z.l.length - 32)).length, T⟩, by simp only [Sl8.v, hTl]; rfl, ⟨rfl, rfl, fun h => by cases h⟩, hw.weak (.keep _ _ _ _ _ _ (fun o ho => ?_) (Less.nil _))⟩
      exact ⟨Sl.Own.cells _ ho, Nat.le_of_eq hTl, rfl⟩
    · rw [if_neg hg]
      repeat (first | refine JL.q (by first | (apply OQ.slA; exact Tryd.underlying23; exact s5; exact rfl) | (apply OQ.callx; exact goes_ssame; exact rfl; exact (fun w' hw' => ssame_b (a := ⟨some ⟨b14, 0, none⟩, 32, g⟩) (b := z.snd (z.l.length - 32)) (c := false) (by simp [Sl8.v, hgl]) rfl (row_ok hw' .here rfl (Nat.le_of_eq hgl)) ((hz.holds hw' rfl).snd _ hle) (show g.length < 4611686018427387904 by omega) (decide_eq_false hg))) | (apply OQ.not; exact rfl) | (apply OQ.move; exact rfl)) rfl ?_ | refine JC.seq ?_ | refine JC.region ?_ | refine JL.nil ?_ | refine JE.next ?_)
      refine JC.cond_true rfl rfl ?_
      repeat (first | refine JL.q (by (apply OQ.assign; exact rfl)) rfl ?_ | refine JC.seq ?_ | refine JC.region ?_ | refine JL.nil ?_ | refine JE.next ?_)
      refine JC.ret ?_
      repeat (refine JE.then_ret ?_)
      exact JE.ret2 rfl (RV.tmp rfl) (RV.tmp rfl) fun w' hw => ⟨nilS, rfl, ⟨rfl, rfl, fun _ => rfl⟩, hw.weak (Less.nil _)⟩
end Go.Proofs.YtbhlcnimjoppeaaDoor

/-
  Of no statement by itself: numbers that have no parts, Fermat's little theorem, and that 2^255 - 19 is such a number; no program stands here.
  Conditions: none but each lemma's own.
-/
namespace Go.Proofs.YtbhlcnimjoppeaaDoor
namespace Crv
def Prim (n : Nat) : Prop := 1 < n ∧ ∀ m, m ∣ n → m = 1 ∨ m = n
/-- binomials -/
def ch : Nat → Nat → Nat
  | _, 0 => 1
  | 0, _ + 1 => 0
  | n + 1, k + 1 => ch n k + ch n (k + 1)
theorem ch_zero (n : Nat) : ch n 0 = 1 := by cases n <;> rfl
theorem ch_over : ∀ n k : Nat, n < k → ch n k = 0
  | 0, 0, h => absurd h (by decide)
  | 0, _ + 1, _ => rfl
  | n + 1, 0, h => absurd h (by omega)
  | n + 1, k + 1, h => by
    show ch n k + ch n (k + 1) = 0
    rw [ch_over n k (by omega), ch_over n (k + 1) (by omega)]
theorem ch_self : ∀ n : Nat, ch n n = 1
  | 0 => rfl
  | n + 1 => by
    show ch n n + ch n (n + 1) = 1
    rw [ch_self n, ch_over n (n + 1) (by omega)]
theorem ch_mul : ∀ n j : Nat, (j + 1) * ch (n + 1) (j + 1) = (n + 1) * ch n j
  | 0, 0 => by decide
  | 0, j + 1 => by
    show (j + 1 + 1) * (ch 0 (j + 1) + ch 0 (j + 1 + 1)) = (0 + 1) * ch 0 (j + 1)
    simp [ch]
  | n + 1, 0 => by
    have h := ch_mul n 0
    show (0 + 1) * (ch (n + 1) 0 + ch (n + 1) (0 + 1)) = (n + 1 + 1) * ch (n + 1) 0
    rw [ch_zero] at *
    omega
  | n + 1, k + 1 => by
    have h1 := ch_mul n k
    have h2 := ch_mul n (k + 1)
    have h3 : ch (n + 1) (k + 1) = ch n k + ch n (k + 1) := rfl
    show (k + 1 + 1) * (ch (n + 1) (k + 1) + ch (n + 1) (k + 1 + 1)) = (n + 1 + 1) * ch (n + 1) (k + 1)
    have e1 : (k + 1 + 1) * (ch (n + 1) (k + 1) + ch (n + 1) (k + 1 + 1)) = (k + 1) * ch (n + 1) (k + 1) + ch (n + 1) (k + 1) + (k + 1 + 1) * ch (n + 1) (k + 1 + 1) := by
      rw [Nat.mul_add, Nat.add_mul (k + 1) 1, Nat.one_mul]
    have e2 : (n + 1 + 1) * ch (n + 1) (k + 1) = (n + 1) * ch n k + (n + 1) * ch n (k + 1) + ch (n + 1) (k + 1) := by
      rw [Nat.add_mul (n + 1) 1, Nat.one_mul, h3, Nat.mul_add]
    rw [e1, e2, h1, h2]; omega
/-- the sum's first k parts -/
def bs (a n : Nat) : Nat → Nat
  | 0 => 0
  | k + 1 => bs a n k + ch n k * a ^ k
theorem bs_step (a n : Nat) : ∀ k, bs a (n + 1) (k + 1) = bs a n (k + 1) + a * bs a n k
  | 0 => by simp [bs, ch_zero]
  | k + 1 => by
    have h := bs_step a n k
    have e1 : bs a (n + 1) (k + 1 + 1) = bs a (n + 1) (k + 1) + (ch n k + ch n (k + 1)) * a ^ (k + 1) := rfl
    have e2 : bs a n (k + 1 + 1) = bs a n (k + 1) + ch n (k + 1) * a ^ (k + 1) := rfl
    have e3 : bs a n (k + 1) = bs a n k + ch n k * a ^ k := rfl
    have e4 : a * bs a n (k + 1) = a * bs a n k + ch n k * a ^ (k + 1) := by
      rw [e3, Nat.mul_add, Nat.pow_succ, Nat.mul_left_comm, Nat.mul_comm a (a ^ k)]
    rw [e1, h, e2, e4, Nat.add_mul]; omega
theorem binom (a : Nat) : ∀ n, (a + 1) ^ n = bs a n (n + 1)
  | 0 => by simp [bs, ch]
  | n + 1 => by
    have h := binom a n
    rw [bs_step, Nat.pow_succ, h, Nat.mul_add, Nat.mul_one, Nat.mul_comm]
    have : bs a n (n + 1 + 1) = bs a n (n + 1) + ch n (n + 1) * a ^ (n + 1) := rfl
    rw [this, ch_over n (n + 1) (by omega)]; omega
theorem Prim.euclid {p a b : Nat} (h : Prim p) (d : p ∣ a * b) : p ∣ a ∨ p ∣ b := by
  cases h.2 (Nat.gcd p a) (Nat.gcd_dvd_left p a) with
  | inl e => exact Or.inr (Nat.Coprime.dvd_of_dvd_mul_left e d)
  | inr e => exact Or.inl (e ▸ Nat.gcd_dvd_right p a)
theorem Prim.ch {p : Nat} (h : Prim p) (j : Nat) (h0 : 0 < j) (h1 : j < p) : p ∣ ch p j := by
  obtain ⟨n, rfl⟩ : ∃ n, p = n + 1 := ⟨p - 1, by have := h.1; omega⟩
  obtain ⟨k, rfl⟩ : ∃ k, j = k + 1 := ⟨j - 1, by omega⟩
  have e := ch_mul n k
  cases h.euclid (a := k + 1) (b := Crv.ch (n + 1) (k + 1)) ⟨_, e⟩ with
  | inl d => exact absurd (Nat.le_of_dvd (by omega) d) (by omega)
  | inr d => exact d
theorem bs_mod {p : Nat} (h : Prim p) (a : Nat) : ∀ k, k < p → bs a p (k + 1) % p = 1 % p
  | 0, _ => by simp [bs, ch_zero]
  | k + 1, hk => by
    have e : bs a p (k + 1 + 1) = bs a p (k + 1) + Crv.ch p (k + 1) * a ^ (k + 1) := rfl
    obtain ⟨c, hc⟩ := h.ch (k + 1) (by omega) hk
    rw [e, hc, Nat.mul_assoc, Nat.add_mul_mod_self_left]
    exact bs_mod h a k (by omega)
theorem frob {p : Nat} (h : Prim p) (a : Nat) : (a + 1) ^ p % p = (a ^ p + 1) % p := by
  obtain ⟨n, rfl⟩ : ∃ n, p = n + 1 := ⟨p - 1, by have := h.1; omega⟩
  rw [binom]
  have e : bs a (n + 1) (n + 1 + 1) = bs a (n + 1) (n + 1) + Crv.ch (n + 1) (n + 1) * a ^ (n + 1) := rfl
  rw [e, ch_self, Nat.one_mul, Nat.add_mod, bs_mod h a n (by omega), ← Nat.add_mod, Nat.add_comm]
theorem fermat0 {p : Nat} (h : Prim p) : ∀ a : Nat, a ^ p % p = a % p
  | 0 => by rw [Nat.zero_pow (by have := h.1; omega)]
  | a + 1 => by rw [frob h, Nat.add_mod, fermat0 h a, ← Nat.add_mod]
theorem fermat {p : Nat} (h : Prim p) (a : Nat) (ha : ¬ p ∣ a) : a ^ (p - 1) % p = 1 := by
  have h1 := h.1
  have e := fermat0 h a
  have e2 : a ^ p = a * a ^ (p - 1) := by
    have : p = (p - 1) + 1 := by omega
    rw [Nat.mul_comm, ← Nat.pow_succ, Nat.succ_eq_add_one, ← this]
  have pos : 0 < a ^ (p - 1) := Nat.pow_pos (Nat.pos_of_ne_zero (fun h => ha (h ▸ Nat.dvd_zero p)))
  have d : p ∣ a * (a ^ (p - 1) - 1) := by
    rw [Nat.mul_sub, Nat.mul_one, ← e2]
    exact (Nat.dvd_of_mod_eq_zero (Nat.sub_mod_eq_zero_of_mod_eq e))
  cases h.euclid d with
  | inl d => exact absurd d ha
  | inr d =>
    obtain ⟨c, hc⟩ := d
    have : a ^ (p - 1) = 1 + p * c := by omega
    rw [this, Nat.add_mul_mod_self_left, Nat.mod_eq_of_lt h1]
theorem pow_gcd {r c : Nat} : ∀ m n : Nat, c ^ m % r = 1 % r → c ^ n % r = 1 % r → c ^ Nat.gcd m n % r = 1 % r := by
  intro m n
  induction m, n using Nat.gcd.induction with
  | H0 n => intro _ h; rw [Nat.gcd_zero_left]; exact h
  | H1 m n hm ih =>
    intro h1 h2
    rw [Nat.gcd_rec]
    refine ih ?_ h1
    have e : c ^ n = (c ^ m) ^ (n / m) * c ^ (n % m) := by
      rw [← Nat.pow_mul, ← Nat.pow_add, Nat.div_add_mod]
    rw [e, Nat.mul_mod, Nat.pow_mod, h1, ← Nat.pow_mod, Nat.one_pow, ← Nat.mul_mod, Nat.one_mul] at h2
    exact h2
theorem part (n : Nat) : 1 < n → ∃ r, Prim r ∧ r ∣ n := by
  induction n using Nat.strongRecOn with
  | _ n ih =>
    intro h
    by_cases hp : Prim n
    · exact ⟨n, hp, Nat.dvd_refl n⟩
    · have : ∃ m, m ∣ n ∧ m ≠ 1 ∧ m ≠ n := by
        refine Classical.byContradiction fun hn => hp ⟨h, fun m hm => ?_⟩
        by_cases h1 : m = 1
        · exact Or.inl h1
        · by_cases h2 : m = n
          · exact Or.inr h2
          · exact absurd ⟨m, hm, h1, h2⟩ hn
      obtain ⟨m, hm, h1, h2⟩ := this
      have hle := Nat.le_of_dvd (by omega) hm
      have h0 : m ≠ 0 := fun e => by rw [e] at hm; have := Nat.eq_zero_of_zero_dvd hm; omega
      obtain ⟨r, hr, hd⟩ := ih m (by omega) (by omega)
      exact ⟨r, hr, Nat.dvd_trans hd hm⟩
theorem small (n : Nat) (h : 1 < n) (no : ∀ r, Prim r → r ∣ n → n < r * r) : Prim n := by
  refine ⟨h, fun m hm => ?_⟩
  by_cases h1 : m = 1
  · exact Or.inl h1
  by_cases h2 : m = n
  · exact Or.inr h2
  exfalso
  obtain ⟨k, hk⟩ := hm
  have m0 : m ≠ 0 := fun e => by rw [e, Nat.zero_mul] at hk; omega
  have k0 : k ≠ 0 := fun e => by rw [e, Nat.mul_zero] at hk; omega
  have k1 : k ≠ 1 := fun e => by rw [e, Nat.mul_one] at hk; exact h2 hk.symm
  have two : ∀ a b, n = a * b → 1 < a → a ≤ b → False := fun a b e ha hab => by
    obtain ⟨r, hr, hd⟩ := part a ha
    have q1 := no r hr (Nat.dvd_trans hd ⟨b, e⟩)
    have q2 := Nat.le_of_dvd (by omega) hd
    have q3 := Nat.mul_le_mul q2 (Nat.le_trans q2 hab)
    omega
  cases Nat.le_total m k with
  | inl hl => exact two m k hk (by omega) hl
  | inr hl => exact two k m (by rw [hk, Nat.mul_comm]) (by omega) hl
theorem pock {N r q k a : Nat} (hr : Prim r) (hd : r ∣ N) (hN : 1 < N) (hq : Prim q) (hk : N - 1 = k * q)
    (h1 : a ^ (k * q) % N = 1) (h2 : Nat.gcd (a ^ k % N + N - 1) N = 1) : q ∣ r - 1 := by
  have r1 := hr.1
  have hp : ∀ x, x % N % r = x % r := fun x => Nat.mod_mod_of_dvd x hd
  have e1 : (a ^ k) ^ q % r = 1 % r := by rw [← Nat.pow_mul, ← hp, h1]
  have na : ¬ r ∣ a ^ k := fun d => by
    obtain ⟨c, hc⟩ := d
    have : q ≠ 0 := by have := hq.1; omega
    obtain ⟨q', rfl⟩ : ∃ q', q = q' + 1 := ⟨q - 1, by omega⟩
    rw [Nat.pow_succ, hc, Nat.mul_comm, Nat.mul_assoc, Nat.mul_mod_right, Nat.mod_eq_of_lt r1] at e1
    exact absurd e1 (by decide)
  have e2 : (a ^ k) ^ (r - 1) % r = 1 % r := by rw [fermat hr _ na, Nat.mod_eq_of_lt r1]
  have e3 := pow_gcd _ _ e1 e2
  cases hq.2 _ (Nat.gcd_dvd_left q (r - 1)) with
  | inr e => rw [← e]; exact Nat.gcd_dvd_right q (r - 1)
  | inl e =>
    exfalso
    rw [e, Nat.pow_one, ← hp] at e3
    have d : r ∣ a ^ k % N + N - 1 := by
      have := Nat.sub_mod_eq_zero_of_mod_eq e3
      have d1 := Nat.dvd_of_mod_eq_zero this
      have : a ^ k % N + N - 1 = (a ^ k % N - 1) + N := by
        have : a ^ k % N ≠ 0 := fun z => by rw [z, Nat.zero_mod, Nat.mod_eq_of_lt r1] at e3; exact absurd e3 (by decide)
        omega
      rw [this]
      exact Nat.dvd_add d1 hd
    have d2 := Nat.dvd_gcd d hd
    rw [h2] at d2
    have := Nat.le_of_dvd (by decide) d2
    omega
/-- one number is enough: it is greater than the root -/
theorem pock1 {N q k a : Nat} (hN : 1 < N) (hq : Prim q) (hk : N - 1 = k * q) (big : N < q * q)
    (h1 : a ^ (k * q) % N = 1) (h2 : Nat.gcd (a ^ k % N + N - 1) N = 1) : Prim N := by
  refine small N hN fun r hr hd => ?_
  have d := pock hr hd hN hq hk h1 h2
  have := hr.1
  have l := Nat.le_of_dvd (by omega) d
  have := Nat.mul_le_mul (Nat.le_trans l (Nat.sub_le r 1)) (Nat.le_trans l (Nat.sub_le r 1))
  omega
/-- two numbers: their product is greater than the root -/
theorem pock2 {N q k q' k' a : Nat} (hN : 1 < N) (hq : Prim q) (hk : N - 1 = k * q) (hq' : Prim q') (hk' : N - 1 = k' * q') (ne : Nat.gcd q q' = 1) (big : N < q * q' * (q * q'))
    (h1 : a ^ (k * q) % N = 1) (h2 : Nat.gcd (a ^ k % N + N - 1) N = 1) (h3 : Nat.gcd (a ^ k' % N + N - 1) N = 1) : Prim N := by
  refine small N hN fun r hr hd => ?_
  have d := Nat.Coprime.mul_dvd_of_dvd_of_dvd ne (pock hr hd hN hq hk h1 h2) (pock hr hd hN hq' hk' (by rw [← hk', hk]; exact h1) h3)
  have := hr.1
  have l := Nat.le_of_dvd (by omega) d
  have := Nat.mul_le_mul (Nat.le_trans l (Nat.sub_le r 1)) (Nat.le_trans l (Nat.sub_le r 1))
  omega
/-- a power, kept small -/
def pm (n : Nat) : Nat → Nat → Nat → Nat → Nat
  | 0, _, _, acc => acc
  | f + 1, b, e, acc => pm n f (b * b % n) (e / 2) (if e % 2 = 1 then acc * b % n else acc)
theorem pm_eq (n : Nat) : ∀ f b e acc : Nat, e < 2 ^ f → pm n f b e acc % n = acc * b ^ e % n
  | 0, b, e, acc, h => by
    have : e = 0 := by omega
    subst this; simp [pm]
  | f + 1, b, e, acc, h => by
    show pm n f (b * b % n) (e / 2) (if e % 2 = 1 then acc * b % n else acc) % n = _
    rw [pm_eq n f _ _ _ (by rw [Nat.pow_succ] at h; omega)]
    have eb : b ^ e = b ^ (e % 2) * (b * b) ^ (e / 2) := by
      rw [← Nat.pow_two, ← Nat.pow_mul, ← Nat.pow_add, Nat.mod_add_div]
    rw [Nat.mul_mod, ← Nat.pow_mod, ← Nat.mul_mod, eb]
    split
    next h1 => rw [h1, Nat.pow_one, Nat.mul_mod, Nat.mod_mod, ← Nat.mul_mod, Nat.mul_assoc]
    next h1 =>
      have : e % 2 = 0 := by omega
      rw [this, Nat.pow_zero, Nat.one_mul]
theorem pm_is {n f b e v : Nat} (h : e < 2 ^ f) (hv : pm n f b e 1 % n = v) : b ^ e % n = v := by
  rw [← hv, pm_eq n f b e 1 h, Nat.one_mul]
/-- no number from 2 up to here goes into n -/
def trial (n : Nat) : Nat → Bool
  | 0 => true
  | k + 1 => (n % (k + 2) != 0) && trial n k
theorem trial_no (n : Nat) : ∀ k, trial n k = true → ∀ d, 2 ≤ d → d < k + 2 → n % d ≠ 0
  | 0, _, d, h, h2 => by omega
  | k + 1, ht, d, h, h2 => by
    simp only [trial, Bool.and_eq_true, bne_iff_ne, ne_eq] at ht
    by_cases e : d = k + 2
    · rw [e]; exact ht.1
    · exact trial_no n k ht.2 d h (by omega)
theorem trial_prim {n : Nat} (k : Nat) (h : 1 < n) (ht : trial n k = true) (big : n < (k + 2) * (k + 2)) : Prim n := by
  refine small n h fun r hr hd => ?_
  by_cases hk : r < k + 2
  · exact absurd (Nat.mod_eq_zero_of_dvd hd) (trial_no n k ht r hr.1 hk)
  · have := Nat.mul_le_mul (Nat.le_of_not_lt hk) (Nat.le_of_not_lt hk)
    omega
theorem pock2' {N q q' : Nat} (f a k k' v v' : Nat) (hq : Prim q) (hq' : Prim q') (hN : 1 < N) (hk : N - 1 = k * q) (hk' : N - 1 = k' * q') (ne : Nat.gcd q q' = 1) (big : N < q * q' * (q * q'))
    (hf : N ≤ 2 ^ f) (e1 : pm N f a k 1 % N = v) (e2 : pm N f a k' 1 % N = v') (e3 : pm N f a (k * q) 1 % N = 1)
    (g1 : Nat.gcd (v + N - 1) N = 1) (g2 : Nat.gcd (v' + N - 1) N = 1) : Prim N := by
  have l1 : k ≤ k * q := Nat.le_mul_of_pos_right k (Nat.lt_trans Nat.zero_lt_one hq.1)
  have l2 : k' ≤ k' * q' := Nat.le_mul_of_pos_right k' (Nat.lt_trans Nat.zero_lt_one hq'.1)
  refine pock2 hN hq hk hq' hk' ne big (a := a) (pm_is (by omega) e3) ?_ ?_
  · rw [pm_is (by omega) e1]; exact g1
  · rw [pm_is (by omega) e2]; exact g2
theorem pock1' {N q : Nat} (f a k v : Nat) (hq : Prim q) (hN : 1 < N) (hk : N - 1 = k * q) (big : N < q * q)
    (hf : N ≤ 2 ^ f) (e1 : pm N f a k 1 % N = v) (e3 : pm N f a (k * q) 1 % N = 1) (g1 : Nat.gcd (v + N - 1) N = 1) : Prim N := by
  have l1 : k ≤ k * q := Nat.le_mul_of_pos_right k (Nat.lt_trans Nat.zero_lt_one hq.1)
  refine pock1 hN hq hk big (a := a) (pm_is (by omega) e3) ?_
  rw [pm_is (by omega) e1]; exact g1
theorem prim_127 : Prim 127 := trial_prim 10 (by decide) (by decide +kernel) (by decide)
theorem prim_353 : Prim 353 := trial_prim 17 (by decide) (by decide +kernel) (by decide)
theorem prim_75707 : Prim 75707 := trial_prim 274 (by decide) (by decide +kernel) (by decide)
theorem prim_a : Prim 8574133 := trial_prim 2927 (by decide) (by decide +kernel) (by decide)
theorem prim_b : Prim 1919519569386763 :=
  pock2' (N := 1919519569386763) 51 2 223873314 15114327318006 1059928654987441 576774792492622 prim_a prim_127 (by decide +kernel) (by decide +kernel) (by decide +kernel) (by decide +kernel) (by decide +kernel) (by decide +kernel) (by decide +kernel) (by decide +kernel) (by decide +kernel) (by decide +kernel) (by decide +kernel)
theorem prim_c : Prim 75445702479781427272750846543864801 :=
  pock2' (N := 75445702479781427272750846543864801) 116 2 39304471641247389600 996548568557483816196003626400 56747016255153332959347766392083459 58781699294900834553279248901967638 prim_b prim_75707 (by decide +kernel) (by decide +kernel) (by decide +kernel) (by decide +kernel) (by decide +kernel) (by decide +kernel) (by decide +kernel) (by decide +kernel) (by decide +kernel) (by decide +kernel) (by decide +kernel)
theorem prim_d : Prim 74058212732561358302231226437062788676166966415465897661863160754340907 :=
  pock2' (N := 74058212732561358302231226437062788676166966415465897661863160754340907) 236 2 981609426360740691344999861639072106 209796636636151156663544550813209033076960244803019540118592523383402 69490809710348678725736597923071784769591275419387514694139338586948360 8562916886866218785688304546164188478888058893729309188831496247839076 prim_c prim_353 (by decide +kernel) (by decide +kernel) (by decide +kernel) (by decide +kernel) (by decide +kernel) (by decide +kernel) (by decide +kernel) (by decide +kernel) (by decide +kernel) (by decide +kernel) (by decide +kernel)
abbrev P : Nat := 57896044618658097711785492504343953926634992332820282019728792003956564819949
theorem prim_P : Prim P :=
  pock1' (N := P) 255 2 781764 427094198651976259540344842774561673889945192655078505504941250475370961481 prim_d (by decide +kernel) (by decide +kernel) (by decide +kernel) (by decide +kernel) (by decide +kernel) (by decide +kernel) (by decide +kernel)
end Crv
end Go.Proofs.YtbhlcnimjoppeaaDoor

/-
  Of no statement by itself: the numbers modulo 2^255 - 19: each but nought has an inverse, and one of two certain multiples of each has a root; no program stands here.
  Conditions: none but each lemma's own.
-/
namespace Go.Proofs.YtbhlcnimjoppeaaDoor
namespace Crv
abbrev F := Fin P
def pw (x : F) : Nat → F
  | 0 => 1
  | n + 1 => pw x n * x
theorem pw_val (x : F) : ∀ n, (pw x n).val = x.val ^ n % P
  | 0 => rfl
  | n + 1 => by
    show (pw x n * x).val = _
    rw [Fin.val_mul, pw_val x n, Nat.pow_succ, Nat.mul_mod, Nat.mod_mod, ← Nat.mul_mod]
theorem pw_add (x : F) (m : Nat) : ∀ n, pw x (m + n) = pw x m * pw x n
  | 0 => by show pw x m = pw x m * 1; grobner
  | n + 1 => by
    show pw x (m + n) * x = pw x m * (pw x n * x)
    rw [pw_add x m n]; grobner
theorem pw_mul (x y : F) : ∀ n, pw (x * y) n = pw x n * pw y n
  | 0 => by show (1 : F) = 1 * 1; grobner
  | n + 1 => by
    show pw (x * y) n * (x * y) = pw x n * x * (pw y n * y)
    rw [pw_mul x y n]; grobner
theorem val_ne {x : F} (h : x ≠ 0) : ¬ P ∣ x.val := fun d => h (by
  apply Fin.ext
  have := Nat.eq_zero_of_dvd_of_lt d x.isLt
  rw [this]; rfl)
theorem fermatF {x : F} (h : x ≠ 0) : pw x (P - 1) = 1 := by
  apply Fin.ext
  rw [pw_val, fermat prim_P _ (val_ne h)]; rfl
def inv (x : F) : F := pw x (P - 2)
theorem mul_inv {x : F} (h : x ≠ 0) : x * inv x = 1 := by
  have := fermatF h
  have e : P - 1 = (P - 2) + 1 := by decide
  rw [e] at this
  have t : pw x (P - 2) * x = 1 := this
  show x * pw x (P - 2) = 1
  grobner
theorem inv_zero : inv 0 = 0 := by
  apply Fin.ext
  have e : P - 2 = (P - 3) + 1 := by decide
  show (pw 0 (P - 2)).val = 0
  rw [e]
  show (pw 0 (P - 3) * 0).val = 0
  have : pw 0 (P - 3) * 0 = (0 : F) := by grobner
  rw [this]; rfl
theorem mul_zero {x y : F} (h : x * y = 0) : x = 0 ∨ y = 0 := by
  by_cases hx : x = 0
  · exact Or.inl hx
  · have := mul_inv hx
    exact Or.inr (by grobner)
theorem mul_ne {x y : F} (hx : x ≠ 0) (hy : y ≠ 0) : x * y ≠ 0 := fun h => by
  cases mul_zero h with
  | inl h => exact hx h
  | inr h => exact hy h
theorem cancel {c x y : F} (h : c ≠ 0) (e : c * x = c * y) : x = y := by
  have := mul_inv h
  grobner
theorem sq_zero {x : F} (h : x * x = 0) : x = 0 := (mul_zero h).elim id id
theorem two_ne : (2 : F) ≠ 0 := by decide
/-- half of what comes before p -/
def chi (x : F) : F := pw x 28948022309329048855892746252171976963317496166410141009864396001978282409974
theorem chi_sq {x : F} (h : x ≠ 0) : chi x * chi x = 1 := by
  unfold chi
  rw [← pw_add, ← fermatF h]
  exact congrArg (pw x) (by decide)
theorem chi_one {x : F} (h : x ≠ 0) : chi x = 1 ∨ chi x = -1 := by
  have := chi_sq h
  have e : (chi x - 1) * (chi x + 1) = 0 := by grobner
  cases mul_zero e with
  | inl h => exact Or.inl (by grobner)
  | inr h => exact Or.inr (by grobner)
theorem chi_mul (x y : F) : chi (x * y) = chi x * chi y := pw_mul x y _
/-- its square is -1 -/
def im : F := 19681161376707505956807079304988542015446066515923890162744021073123829784752
theorem im_sq : im * im = -1 := by decide +kernel
theorem root {x : F} (hc : chi x = 1) : ∃ s, x = s * s := by
  let q := pw x 14474011154664524427946373126085988481658748083205070504932198000989141204987
  let s := pw x 7237005577332262213973186563042994240829374041602535252466099000494570602494
  have e1 : q * q = 1 := by
    rw [← hc]; show pw x _ * pw x _ = pw x _
    rw [← pw_add]
  have e2 : s * s = q * x := by
    show pw x _ * pw x _ = pw x (14474011154664524427946373126085988481658748083205070504932198000989141204987 + 1)
    rw [← pw_add]
  have e3 : (q - 1) * (q + 1) = 0 := by grobner
  cases mul_zero e3 with
  | inl h => exact ⟨s, by grobner⟩
  | inr h =>
    have := im_sq
    exact ⟨im * s, by grobner⟩
/-- the curve's number -/
def ca : F := 486662
theorem pw_pm (x : F) {e f v : Nat} (he : e < 2 ^ f) (h : pm P f x.val e 1 % P = v) : (pw x e).val = v := by
  rw [pw_val]; exact pm_is he h
theorem chi_ca : chi (ca * ca - 4) = -1 := by
  apply Fin.ext
  exact pw_pm (f := 255) _ (by decide) (by decide +kernel)
/-- of what is left of the curve's square less 4, no root is there -/
theorem no_root (t : F) : t * t ≠ ca * ca - 4 := fun h => by
  have h0 : t ≠ 0 := fun e => by
    rw [e] at h
    revert h
    decide +kernel
  have e := chi_sq h0
  rw [← chi_mul, h, chi_ca] at e
  revert e
  decide +kernel
theorem one_has {w : F} (hw : w ≠ 0) : (∃ s, (ca + 2) * w = s * s) ∨ (∃ s, (ca - 2) * w = s * s) := by
  have n1 : (ca + 2) * w ≠ 0 := mul_ne (by decide +kernel) hw
  have n2 : (ca - 2) * w ≠ 0 := mul_ne (by decide +kernel) hw
  have e : chi ((ca + 2) * w) * chi ((ca - 2) * w) = -1 := by
    have e1 := chi_sq hw
    have e2 := chi_ca
    have e3 : (ca + 2) * (ca - 2) = ca * ca - 4 := by grobner
    rw [← e3, chi_mul] at e2
    rw [chi_mul, chi_mul]
    grobner
  cases chi_one n1 with
  | inl h => exact Or.inl (root h)
  | inr h =>
    refine Or.inr (root ?_)
    rw [h] at e
    grobner
end Crv
end Go.Proofs.YtbhlcnimjoppeaaDoor

/-
  Of no statement by itself: four identities of the curve x^2 + y^2 = 1 + d x^2 y^2, each with what it is a sum of; no program stands here.
  Conditions: none.
-/
namespace Go.Proofs.YtbhlcnimjoppeaaDoor
namespace Crv
def c0_on (d x1 y1 x2 y2 : F) : F := (x2*x2*x2*x2) + (y2*y2*y2*y2) + (-2*x2*x2*y2*y2*y2*y2) + (-2*x2*x2*x2*x2*y2*y2) + (4*x2*x2*y2*y2) + (-d*d*x2*x2*x2*x2*y2*y2*y2*y2) + (-2*d*x2*x2*y2*y2) + (2*d*x2*x2*x2*x2*y2*y2*y2*y2) + (d*d*x1*x1*x2*x2*x2*x2*y2*y2*y2*y2) + (d*d*x2*x2*x2*x2*y1*y1*y2*y2*y2*y2) + (-d*x1*x1*x2*x2*y2*y2*y2*y2) + (-d*x1*x1*x2*x2*x2*x2*y2*y2) + (-d*x2*x2*y1*y1*y2*y2*y2*y2) + (-d*x2*x2*x2*x2*y1*y1*y2*y2) + (d*d*d*x1*x1*x2*x2*x2*x2*y1*y1*y2*y2*y2*y2)
def c1_on (d x1 y1 x2 y2 : F) : F := (1) + (x2*x2) + (y2*y2) + (-x1*x1*x2*x2) + (-x1*x1*y2*y2) + (-x2*x2*y1*y1) + (-y1*y1*y2*y2) + (-2*x2*x2*y2*y2) + (d*x2*x2*y2*y2) + (2*x1*x1*x2*x2*y2*y2) + (2*x2*x2*y1*y1*y2*y2) + (d*x1*x1*x1*x1*x2*x2*y2*y2) + (d*x2*x2*y1*y1*y1*y1*y2*y2) + (-2*d*x1*x1*x2*x2*y2*y2) + (-2*d*x2*x2*y1*y1*y2*y2)
theorem cert_on (d x1 y1 x2 y2 : F) : (x1*y2+x2*y1)*(x1*y2+x2*y1)*((1-d*x1*x2*y1*y2)*(1-d*x1*x2*y1*y2))+(y1*y2-x1*x2)*(y1*y2-x1*x2)*((1+d*x1*x2*y1*y2)*(1+d*x1*x2*y1*y2))-(1-d*x1*x2*y1*y2)*(1-d*x1*x2*y1*y2)*((1+d*x1*x2*y1*y2)*(1+d*x1*x2*y1*y2))-d*((x1*y2+x2*y1)*(x1*y2+x2*y1))*((y1*y2-x1*x2)*(y1*y2-x1*x2))
    = c0_on d x1 y1 x2 y2*(-d*x1*x1*y1*y1 + x1*x1 + y1*y1 - 1) + c1_on d x1 y1 x2 y2*(-d*x2*x2*y2*y2 + x2*x2 + y2*y2 - 1) := by
  unfold c0_on c1_on
  grobner
def c0_x (d x1 y1 x2 y2 x3 y3 : F) : F := (d*x1*x2*x2*x2*x3*y2*y2) + (d*x1*x2*x2*y2*y2*y2*y3*y3*y3) + (d*x2*x2*x3*x3*x3*y1*y2*y2*y2) + (d*x2*x2*x2*y1*y2*y2*y3*y3*y3) + (-d*x1*x2*x2*y2*y2*y2*y3) + (-d*x1*x2*x2*x2*x3*x3*x3*y2*y2) + (-d*x2*x2*x3*y1*y2*y2*y2) + (-d*x2*x2*x2*y1*y2*y2*y3) + (d*x1*x2*x3*y2*y2*y2*y2*y3*y3) + (d*d*x1*x2*x2*x2*x2*x3*x3*y2*y2*y2*y3) + (d*d*x2*x2*x2*x2*x3*y1*y2*y2*y2*y3*y3) + (d*d*x2*x2*x2*x3*x3*y1*y2*y2*y2*y2*y3) + (-d*x1*x2*x2*x2*x2*x3*x3*y2*y3) + (-d*x2*x3*x3*y1*y2*y2*y2*y2*y3) + (-d*x2*x2*x2*x2*x3*y1*y2*y3*y3) + (-d*d*x1*x2*x2*x2*x3*y2*y2*y2*y2*y3*y3)
def c1_x (d x1 y1 x2 y2 x3 y3 : F) : F := (x1*x2*x3*x3*x3) + (x1*y2*y3) + (x1*x1*x1*x2*x3) + (x2*y1*y3) + (x2*y1*y1*y1*y3*y3*y3) + (x3*y1*y2) + (x1*x1*x1*y2*y3*y3*y3) + (x3*x3*x3*y1*y1*y1*y2) + (-x1*x2*x3) + (-x1*y2*y3*y3*y3) + (-x2*y1*y3*y3*y3) + (-x2*y1*y1*y1*y3) + (-x1*x1*x1*x2*x3*x3*x3) + (-x3*y1*y1*y1*y2) + (-x3*x3*x3*y1*y2) + (-x1*x1*x1*y2*y3) + (x1*x2*x3*y1*y1) + (x1*x2*x3*y3*y3) + (x1*y1*y1*y2*y3*y3*y3) + (x1*x1*x2*y1*y3*y3*y3) + (x2*x3*x3*y1*y1*y1*y3) + (x3*y1*y1*y1*y2*y3*y3) + (x1*x1*x3*x3*x3*y1*y2) + (x1*x1*x1*x3*x3*y2*y3) + (-x1*x2*x3*x3*x3*y1*y1) + (-x1*x3*x3*y2*y3) + (-x1*y1*y1*y2*y3) + (-x1*x1*x1*x2*x3*y3*y3) + (-x1*x1*x2*y1*y3) + (-x2*x3*x3*y1*y3) + (-x1*x1*x3*y1*y2) + (-x3*y1*y2*y3*y3) + (d*x1*x3*x3*y2*y3*y3*y3) + (d*x2*x3*x3*y1*y3*y3*y3) + (d*x1*x1*x1*x2*x3*x3*x3*y3*y3) + (d*x3*x3*x3*y1*y2*y3*y3) + (x1*x3*x3*y1*y1*y2*y3) + (x1*x1*x2*x3*x3*y1*y3) + (x1*x1*x3*y1*y2*y3*y3) + (-d*x1*x2*x3*x3*x3*y3*y3) + (-d*x2*x3*x3*y1*y1*y1*y3*y3*y3) + (-d*x1*x1*x1*x3*x3*y2*y3*y3*y3) + (-d*x3*x3*x3*y1*y1*y1*y2*y3*y3) + (-x1*x2*x3*y1*y1*y3*y3) + (d*x1*x2*x3*y2*y2*y3*y3) + (d*x1*x2*x3*x3*x3*y1*y1*y3*y3) + (d*x2*x3*x3*y1*y1*y1*y2*y2*y3) + (d*x2*x2*x3*y1*y1*y1*y2*y3*y3) + (d*x1*x1*x1*x2*x2*x3*x3*y2*y3) + (-d*x1*x2*x2*x3*x3*y2*y3) + (-d*x1*x3*x3*y1*y1*y2*y3*y3*y3) + (-d*x1*x1*x1*x2*x3*y2*y2*y3*y3) + (-d*x2*x3*x3*y1*y2*y2*y3) + (-d*x1*x1*x2*x3*x3*y1*y3*y3*y3) + (-d*x2*x2*x3*y1*y2*y3*y3) + (-d*x1*x1*x3*x3*x3*y1*y2*y3*y3) + (d*x1*x2*x2*x3*x3*y1*y1*y2*y3) + (d*x1*x1*x2*x3*x3*y1*y2*y2*y3) + (d*x1*x1*x2*x2*x3*y1*y2*y3*y3) + (d*d*x1*x2*x3*x3*x3*y1*y1*y2*y2*y3*y3) + (-d*x1*x2*x3*y1*y1*y2*y2*y3*y3) + (-d*d*x1*x2*x2*x3*x3*y1*y1*y2*y3*y3*y3) + (-d*d*x1*x1*x2*x3*x3*y1*y2*y2*y3*y3*y3) + (-d*d*x1*x1*x2*x2*x3*x3*x3*y1*y2*y3*y3)
def c2_x (d x1 y1 x2 y2 x3 y3 : F) : F := (x1*x2*x3) + (x1*y2*y2*y2*y3) + (x2*y1*y1*y1*y3) + (x3*y1*y2*y2*y2) + (x3*y1*y1*y1*y2) + (x1*x1*x1*x2*x2*x2*x3) + (x2*x2*x2*y1*y3) + (x1*x1*x1*y2*y3) + (-x1*x2*x2*x2*x3) + (-x1*y2*y3) + (-x1*x1*x1*x2*x3) + (-x2*y1*y3) + (-x3*y1*y2) + (-x3*y1*y1*y1*y2*y2*y2) + (-x1*x1*x1*y2*y2*y2*y3) + (-x2*x2*x2*y1*y1*y1*y3) + (x1*x2*x2*x2*x3*y1*y1) + (x1*x2*x2*y2*y3) + (x1*y1*y1*y2*y3) + (x1*x1*x1*x2*x3*y2*y2) + (x1*x1*x2*y1*y3) + (x2*y1*y2*y2*y3) + (x1*x1*x3*y1*y2) + (x2*x2*x3*y1*y2) + (-x1*x2*x3*y1*y1) + (-x1*x2*x3*y2*y2) + (-x1*y1*y1*y2*y2*y2*y3) + (-x2*y1*y1*y1*y2*y2*y3) + (-x1*x1*x3*y1*y2*y2*y2) + (-x2*x2*x3*y1*y1*y1*y2) + (-x1*x1*x2*x2*x2*y1*y3) + (-x1*x1*x1*x2*x2*y2*y3) + (x1*x2*x3*y1*y1*y2*y2) + (-x1*x2*x2*y1*y1*y2*y3) + (-x1*x1*x2*y1*y2*y2*y3) + (-x1*x1*x2*x2*x3*y1*y2) + (d*x1*x2*x2*y1*y1*y2*y3) + (d*x1*x1*x2*y1*y2*y2*y3) + (d*x1*x1*x2*x2*x3*y1*y2) + (-d*x1*x2*x3*y1*y1*y2*y2)
theorem cert_x (d x1 y1 x2 y2 x3 y3 : F) : ((x1*y2+x2*y1)*(1-d*x1*x2*y1*y2)*y3+x3*(y1*y2-x1*x2)*(1+d*x1*x2*y1*y2))*((1-d*x2*x3*y2*y3)*(1+d*x2*x3*y2*y3)+d*x1*(x2*y3+x3*y2)*y1*(y2*y3-x2*x3))-(x1*(y2*y3-x2*x3)*(1+d*x2*x3*y2*y3)+(x2*y3+x3*y2)*y1*(1-d*x2*x3*y2*y3))*((1-d*x1*x2*y1*y2)*(1+d*x1*x2*y1*y2)+d*(x1*y2+x2*y1)*x3*(y1*y2-x1*x2)*y3)
    = c0_x d x1 y1 x2 y2 x3 y3*(-d*x1*x1*y1*y1 + x1*x1 + y1*y1 - 1) + c1_x d x1 y1 x2 y2 x3 y3*(-d*x2*x2*y2*y2 + x2*x2 + y2*y2 - 1) + c2_x d x1 y1 x2 y2 x3 y3*(-d*x3*x3*y3*y3 + x3*x3 + y3*y3 - 1) := by
  unfold c0_x c1_x c2_x
  grobner
def c0_y (d x1 y1 x2 y2 x3 y3 : F) : F := (d*x1*x2*x2*x3*y2*y2*y2) + (d*x1*x2*x2*x2*y2*y2*y3) + (d*x2*x2*x2*x3*y1*y2*y2) + (d*x2*x2*y1*y2*y2*y2*y3*y3*y3) + (-d*x1*x2*x2*x3*x3*x3*y2*y2*y2) + (-d*x1*x2*x2*x2*y2*y2*y3*y3*y3) + (-d*x2*x2*y1*y2*y2*y2*y3) + (-d*x2*x2*x2*x3*x3*x3*y1*y2*y2) + (d*x1*x2*x3*x3*y2*y2*y2*y2*y3) + (d*x1*x2*x2*x2*x2*x3*y2*y3*y3) + (d*x2*x3*y1*y2*y2*y2*y2*y3*y3) + (d*d*x2*x2*x2*x2*x3*x3*y1*y2*y2*y2*y3) + (-d*x2*x2*x2*x2*x3*x3*y1*y2*y3) + (-d*d*x1*x2*x2*x2*x2*x3*y2*y2*y2*y3*y3) + (-d*d*x1*x2*x2*x2*x3*x3*y2*y2*y2*y2*y3) + (-d*d*x2*x2*x2*x3*y1*y2*y2*y2*y2*y3*y3)
def c1_y (d x1 y1 x2 y2 x3 y3 : F) : F := (x1*x2*y3*y3*y3) + (x1*x3*x3*x3*y2) + (x2*x3*y1*y1*y1) + (x2*x3*x3*x3*y1) + (x1*x1*x1*x2*y3) + (x1*x1*x1*x3*y2) + (y1*y2*y3) + (y1*y1*y1*y2*y3*y3*y3) + (-x1*x2*y3) + (-x1*x3*y2) + (-x2*x3*y1) + (-x1*x1*x1*x2*y3*y3*y3) + (-x2*x3*x3*x3*y1*y1*y1) + (-y1*y2*y3*y3*y3) + (-y1*y1*y1*y2*y3) + (-x1*x1*x1*x3*x3*x3*y2) + (x1*x2*x3*x3*y3) + (x1*x2*y1*y1*y3) + (x1*x3*y1*y1*y2) + (x1*x3*y2*y3*y3) + (x1*x1*x2*x3*y1) + (x2*x3*y1*y3*y3) + (x1*x1*y1*y2*y3*y3*y3) + (x3*x3*y1*y1*y1*y2*y3) + (-x1*x2*y1*y1*y3*y3*y3) + (-x1*x3*x3*x3*y1*y1*y2) + (-x2*x3*y1*y1*y1*y3*y3) + (-x1*x1*x2*x3*x3*x3*y1) + (-x1*x1*x1*x2*x3*x3*y3) + (-x1*x1*x1*x3*y2*y3*y3) + (-x1*x1*y1*y2*y3) + (-x3*x3*y1*y2*y3) + (d*x1*x1*x1*x2*x3*x3*y3*y3*y3) + (d*x2*x3*x3*x3*y1*y1*y1*y3*y3) + (d*x3*x3*y1*y2*y3*y3*y3) + (d*x1*x1*x1*x3*x3*x3*y2*y3*y3) + (x1*x1*x3*x3*y1*y2*y3) + (-d*x1*x2*x3*x3*y3*y3*y3) + (-d*x1*x3*x3*x3*y2*y3*y3) + (-d*x2*x3*x3*x3*y1*y3*y3) + (-d*x3*x3*y1*y1*y1*y2*y3*y3*y3) + (-x1*x2*x3*x3*y1*y1*y3) + (-x1*x3*y1*y1*y2*y3*y3) + (-x1*x1*x2*x3*y1*y3*y3) + (d*x1*x2*x3*x3*y2*y2*y3) + (d*x1*x2*x3*x3*y1*y1*y3*y3*y3) + (d*x1*x2*x2*x3*y2*y3*y3) + (d*x1*x3*x3*x3*y1*y1*y2*y3*y3) + (d*x2*x3*y1*y2*y2*y3*y3) + (d*x1*x1*x2*x3*x3*x3*y1*y3*y3) + (d*x2*x2*x3*x3*y1*y1*y1*y2*y3) + (-d*x2*x3*y1*y1*y1*y2*y2*y3*y3) + (-d*x1*x1*x1*x2*x3*x3*y2*y2*y3) + (-d*x1*x1*x1*x2*x2*x3*y2*y3*y3) + (-d*x2*x2*x3*x3*y1*y2*y3) + (-d*x1*x1*x3*x3*y1*y2*y3*y3*y3) + (d*x1*x1*x2*x2*x3*x3*y1*y2*y3) + (d*d*x1*x2*x3*x3*y1*y1*y2*y2*y3*y3*y3) + (d*d*x1*x2*x2*x3*x3*x3*y1*y1*y2*y3*y3) + (d*d*x1*x1*x2*x3*x3*x3*y1*y2*y2*y3*y3) + (-d*x1*x2*x3*x3*y1*y1*y2*y2*y3) + (-d*x1*x2*x2*x3*y1*y1*y2*y3*y3) + (-d*x1*x1*x2*x3*y1*y2*y2*y3*y3) + (-d*d*x1*x1*x2*x2*x3*x3*y1*y2*y3*y3*y3)
def c2_y (d x1 y1 x2 y2 x3 y3 : F) : F := (x1*x2*y3) + (x1*x3*y2) + (x2*x3*y1) + (x1*x1*x1*x3*y2*y2*y2) + (x2*x2*x2*x3*y1*y1*y1) + (y1*y2*y2*y2*y3) + (y1*y1*y1*y2*y3) + (x1*x1*x1*x2*x2*x2*y3) + (-x1*x3*y2*y2*y2) + (-x1*x2*x2*x2*y3) + (-x2*x3*y1*y1*y1) + (-x1*x1*x1*x2*y3) + (-x2*x2*x2*x3*y1) + (-x1*x1*x1*x3*y2) + (-y1*y2*y3) + (-y1*y1*y1*y2*y2*y2*y3) + (x1*x3*y1*y1*y2*y2*y2) + (x1*x2*x2*x2*y1*y1*y3) + (x2*x3*y1*y1*y1*y2*y2) + (x1*x1*x1*x2*y2*y2*y3) + (x1*x1*x2*x2*x2*x3*y1) + (x1*x1*x1*x2*x2*x3*y2) + (x1*x1*y1*y2*y3) + (x2*x2*y1*y2*y3) + (-x1*x2*y1*y1*y3) + (-x1*x2*y2*y2*y3) + (-x1*x2*x2*x3*y2) + (-x1*x3*y1*y1*y2) + (-x1*x1*x2*x3*y1) + (-x2*x3*y1*y2*y2) + (-x1*x1*y1*y2*y2*y2*y3) + (-x2*x2*y1*y1*y1*y2*y3) + (x1*x2*y1*y1*y2*y2*y3) + (x1*x2*x2*x3*y1*y1*y2) + (x1*x1*x2*x3*y1*y2*y2) + (-x1*x1*x2*x2*y1*y2*y3) + (d*x1*x1*x2*x2*y1*y2*y3) + (-d*x1*x2*y1*y1*y2*y2*y3) + (-d*x1*x2*x2*x3*y1*y1*y2) + (-d*x1*x1*x2*x3*y1*y2*y2)
theorem cert_y (d x1 y1 x2 y2 x3 y3 : F) : ((y1*y2-x1*x2)*(1+d*x1*x2*y1*y2)*y3-(x1*y2+x2*y1)*x3*(1-d*x1*x2*y1*y2))*((1-d*x2*x3*y2*y3)*(1+d*x2*x3*y2*y3)-d*x1*(x2*y3+x3*y2)*y1*(y2*y3-x2*x3))-(y1*(y2*y3-x2*x3)*(1+d*x2*x3*y2*y3)-x1*(x2*y3+x3*y2)*(1-d*x2*x3*y2*y3))*((1-d*x1*x2*y1*y2)*(1+d*x1*x2*y1*y2)-d*(x1*y2+x2*y1)*x3*(y1*y2-x1*x2)*y3)
    = c0_y d x1 y1 x2 y2 x3 y3*(-d*x1*x1*y1*y1 + x1*x1 + y1*y1 - 1) + c1_y d x1 y1 x2 y2 x3 y3*(-d*x2*x2*y2*y2 + x2*x2 + y2*y2 - 1) + c2_y d x1 y1 x2 y2 x3 y3*(-d*x3*x3*y3*y3 + x3*x3 + y3*y3 - 1) := by
  unfold c0_y c1_y c2_y
  grobner
def c0_diff (d y1 x2 y2 : F) : F := (4*x2*x2*y1*y2) + (-4*d*x2*x2*y1*y2*y2*y2)
def c1_diff (y1 y2 : F) : F := (-4*y1*y1*y1*y2) + (4*y1*y2)
theorem cert_diff (d x1 y1 x2 y2 : F) : ((1-d*x1*x2*y1*y2+y1*y2-x1*x2)*(1+d*x1*x2*y1*y2+y1*y2+x1*x2))*((y1-y2)*(y1-y2))-((1-d*x1*x2*y1*y2-y1*y2+x1*x2)*(1+d*x1*x2*y1*y2-y1*y2-x1*x2))*((y1+y2)*(y1+y2))
    = c0_diff d y1 x2 y2*(-d*x1*x1*y1*y1 + x1*x1 + y1*y1 - 1) + c1_diff y1 y2*(-d*x2*x2*y2*y2 + x2*x2 + y2*y2 - 1) := by
  unfold c0_diff c1_diff
  grobner
end Crv
end Go.Proofs.YtbhlcnimjoppeaaDoor

/-
  Of no statement by itself: the points of x^2 + y^2 = 1 + d x^2 y^2, where d has no root, are a commuting group; no program stands here.
  Conditions: none but each lemma's own.
-/
namespace Go.Proofs.YtbhlcnimjoppeaaDoor
namespace Crv
def NS (d : F) : Prop := ∀ t, t * t ≠ d
def On (d : F) (p : F × F) : Prop := p.1 * p.1 + p.2 * p.2 = 1 + d * p.1 * p.1 * p.2 * p.2
def kk (d : F) (p q : F × F) : F := d * p.1 * q.1 * p.2 * q.2
theorem den {d : F} {p q : F × F} (ns : NS d) (hp : On d p) (hq : On d q) {ε : F} (hε : ε * ε = 1) : kk d p q ≠ ε := by
  obtain ⟨x1, y1⟩ := p
  obtain ⟨x2, y2⟩ := q
  unfold kk On at *
  simp only at *
  intro h
  have e1 : (x1 + ε * y1) * (x1 + ε * y1) = d * (x1 * y1) * (x1 * y1) * ((x2 + y2) * (x2 + y2)) := by grobner
  have e2 : (x1 - ε * y1) * (x1 - ε * y1) = d * (x1 * y1) * (x1 * y1) * ((x2 - y2) * (x2 - y2)) := by grobner
  have one : (1 : F) ≠ 0 := by decide
  have n0 : x1 * y1 ≠ 0 := fun z => one (by grobner)
  have step : ∀ a b : F, a * a = d * (x1 * y1) * (x1 * y1) * (b * b) → b = 0 := fun a b e => by
    refine Classical.byContradiction fun hb => ?_
    have i := mul_inv (mul_ne n0 hb)
    exact ns (a * inv (x1 * y1 * b)) (by grobner)
  have z1 := step _ _ e1
  have z2 := step _ _ e2
  have z3 : (2 : F) * x2 = 0 := by grobner
  have z4 : x2 = 0 := (mul_zero z3).elim (fun h => absurd h two_ne) id
  exact one (by grobner)
theorem den_p {d : F} {p q : F × F} (ns : NS d) (hp : On d p) (hq : On d q) : 1 + kk d p q ≠ 0 := fun h =>
  den ns hp hq (ε := -1) (by decide) (by grobner)
theorem den_m {d : F} {p q : F × F} (ns : NS d) (hp : On d p) (hq : On d q) : 1 - kk d p q ≠ 0 := fun h =>
  den ns hp hq (ε := 1) (by decide) (by grobner)
def add (d : F) (p q : F × F) : F × F := ((p.1 * q.2 + q.1 * p.2) * inv (1 + kk d p q), (p.2 * q.2 - p.1 * q.1) * inv (1 - kk d p q))
theorem add_x {d : F} {p q : F × F} (ns : NS d) (hp : On d p) (hq : On d q) : (add d p q).1 * (1 + kk d p q) = p.1 * q.2 + q.1 * p.2 := by
  have := mul_inv (den_p ns hp hq)
  show (p.1 * q.2 + q.1 * p.2) * inv (1 + kk d p q) * (1 + kk d p q) = _
  generalize inv (1 + kk d p q) = i at *
  generalize kk d p q = k at *
  grobner
theorem add_y {d : F} {p q : F × F} (ns : NS d) (hp : On d p) (hq : On d q) : (add d p q).2 * (1 - kk d p q) = p.2 * q.2 - p.1 * q.1 := by
  have := mul_inv (den_m ns hp hq)
  show (p.2 * q.2 - p.1 * q.1) * inv (1 - kk d p q) * (1 - kk d p q) = _
  generalize inv (1 - kk d p q) = i at *
  generalize kk d p q = k at *
  grobner
theorem of_two {a b c0 c1 z0 z1 : F} (h : a - b = c0 * z0 + c1 * z1) (h0 : z0 = 0) (h1 : z1 = 0) : a = b := by grobner
theorem of_two' {a c0 c1 z0 z1 : F} (h : a = c0 * z0 + c1 * z1) (h0 : z0 = 0) (h1 : z1 = 0) : a = 0 := by grobner
theorem of_three {a b c0 c1 c2 z0 z1 z2 : F} (h : a - b = c0 * z0 + c1 * z1 + c2 * z2) (h0 : z0 = 0) (h1 : z1 = 0) (h2 : z2 = 0) : a = b := by grobner
theorem curve0 {d x y : F} (h : x * x + y * y = 1 + d * x * x * y * y) : -d*x*x*y*y + x*x + y*y - 1 = 0 := by grobner
theorem fin_on {d k a b x y : F} (hx : x * (1 + k) = a) (hy : y * (1 - k) = b)
    (c : a * a * ((1 - k) * (1 - k)) + b * b * ((1 + k) * (1 + k)) - (1 - k) * (1 - k) * ((1 + k) * (1 + k)) - d * (a * a) * (b * b) = 0) :
    (1 + k) * (1 - k) * ((1 + k) * (1 - k)) * (x * x + y * y) = (1 + k) * (1 - k) * ((1 + k) * (1 - k)) * (1 + d * x * x * y * y) := by
  subst hx
  subst hy
  grobner
theorem add_on {d : F} {p q : F × F} (ns : NS d) (hp : On d p) (hq : On d q) : On d (add d p q) := by
  have hx := add_x ns hp hq
  have hy := add_y ns hp hq
  have nn := mul_ne (den_p ns hp hq) (den_m ns hp hq)
  exact cancel (mul_ne nn nn) (fin_on hx hy (of_two' (cert_on d p.1 p.2 q.1 q.2) (curve0 hp) (curve0 hq)))
theorem leg_d {d k a b x y u v : F} (h1 : x * (1 + k) = a) (h2 : y * (1 - k) = b) : (1 - k) * (1 + k) + d * a * u * b * v = (1 - k) * (1 + k) * (1 + d * x * u * y * v) := by
  subst h1
  subst h2
  grobner
theorem leg_lx {d k a b x y u v l : F} (h1 : x * (1 + k) = a) (h2 : y * (1 - k) = b) (hl : l * (1 + d * x * u * y * v) = x * v + u * y) : l * ((1 - k) * (1 + k) + d * a * u * b * v) = a * (1 - k) * v + u * b * (1 + k) := by
  rw [leg_d h1 h2]
  subst h1
  subst h2
  generalize 1 + d * x * u * y * v = z at *
  grobner
theorem leg_ly {d k a b x y u v l : F} (h1 : x * (1 + k) = a) (h2 : y * (1 - k) = b) (hl : l * (1 - d * x * u * y * v) = y * v - x * u) : l * ((1 - k) * (1 + k) - d * a * u * b * v) = b * (1 + k) * v - a * u * (1 - k) := by
  have e : (1 - k) * (1 + k) - d * a * u * b * v = (1 - k) * (1 + k) * (1 - d * x * u * y * v) := by
    subst h1
    subst h2
    grobner
  rw [e]
  subst h1
  subst h2
  generalize 1 - d * x * u * y * v = z at *
  grobner
theorem leg_rx {d k a b x y u v l : F} (h1 : x * (1 + k) = a) (h2 : y * (1 - k) = b) (hl : l * (1 + d * u * x * v * y) = u * y + x * v) : l * ((1 - k) * (1 + k) + d * u * a * v * b) = u * b * (1 + k) + a * v * (1 - k) := by
  have e := leg_lx h1 h2 (l := l) (d := d) (u := u) (v := v) (by clear h1 h2; grobner)
  clear h1 h2 hl
  grobner
theorem leg_ry {d k a b x y u v l : F} (h1 : x * (1 + k) = a) (h2 : y * (1 - k) = b) (hl : l * (1 - d * u * x * v * y) = v * y - u * x) : l * ((1 - k) * (1 + k) - d * u * a * v * b) = v * b * (1 + k) - u * a * (1 - k) := by
  have e := leg_ly h1 h2 (l := l) (d := d) (u := u) (v := v) (by clear h1 h2; grobner)
  clear h1 h2 hl
  grobner
theorem leg_n {d k a b x y u v : F} (h1 : x * (1 + k) = a) (h2 : y * (1 - k) = b) (n1 : 1 + k ≠ 0) (n2 : 1 - k ≠ 0) (n3 : 1 + d * x * u * y * v ≠ 0) : (1 - k) * (1 + k) + d * a * u * b * v ≠ 0 := by
  rw [leg_d h1 h2]
  exact mul_ne (mul_ne n2 n1) n3
theorem leg_m {d k a b x y u v : F} (h1 : x * (1 + k) = a) (h2 : y * (1 - k) = b) (n1 : 1 + k ≠ 0) (n2 : 1 - k ≠ 0) (n3 : 1 - d * x * u * y * v ≠ 0) : (1 - k) * (1 + k) - d * a * u * b * v ≠ 0 := by
  have e : (1 - k) * (1 + k) - d * a * u * b * v = (1 - k) * (1 + k) * (1 - d * x * u * y * v) := by
    subst h1
    subst h2
    clear n1 n2 n3
    grobner
  rw [e]
  exact mul_ne (mul_ne n2 n1) n3
theorem leg_n' {d k a b x y u v : F} (h1 : x * (1 + k) = a) (h2 : y * (1 - k) = b) (n1 : 1 + k ≠ 0) (n2 : 1 - k ≠ 0) (n3 : 1 + d * u * x * v * y ≠ 0) : (1 - k) * (1 + k) + d * u * a * v * b ≠ 0 := by
  have e : ∀ x y : F, d * u * x * v * y = d * x * u * y * v := fun x y => by clear h1 h2 n1 n2 n3; grobner
  rw [e]
  exact leg_n h1 h2 n1 n2 (by rw [← e]; exact n3)
theorem leg_m' {d k a b x y u v : F} (h1 : x * (1 + k) = a) (h2 : y * (1 - k) = b) (n1 : 1 + k ≠ 0) (n2 : 1 - k ≠ 0) (n3 : 1 - d * u * x * v * y ≠ 0) : (1 - k) * (1 + k) - d * u * a * v * b ≠ 0 := by
  have e : ∀ x y : F, d * u * x * v * y = d * x * u * y * v := fun x y => by clear h1 h2 n1 n2 n3; grobner
  rw [e]
  exact leg_m h1 h2 n1 n2 (by rw [← e]; exact n3)
theorem cross {l r a b c e : F} (h1 : l * b = a) (h2 : r * e = c) (h : a * e = c * b) (n1 : b ≠ 0) (n2 : e ≠ 0) : l = r := by
  refine cancel (mul_ne n1 n2) ?_
  subst h1
  subst h2
  grobner
theorem assoc {d : F} {p q r : F × F} (ns : NS d) (hp : On d p) (hq : On d q) (hr : On d r) : add d (add d p q) r = add d p (add d q r) := by
  have h12 := add_on ns hp hq
  have h23 := add_on ns hq hr
  have a1 := add_x ns hp hq
  have a2 := add_y ns hp hq
  have b1 := add_x ns hq hr
  have b2 := add_y ns hq hr
  have l1 := add_x ns h12 hr
  have l2 := add_y ns h12 hr
  have r1 := add_x ns hp h23
  have r2 := add_y ns hp h23
  have np := den_p ns hp hq
  have nm := den_m ns hp hq
  have mp := den_p ns hq hr
  have mm := den_m ns hq hr
  have lp := den_p ns h12 hr
  have lm := den_m ns h12 hr
  have rp := den_p ns hp h23
  have rm := den_m ns hp h23
  have cx := of_three (cert_x d p.1 p.2 q.1 q.2 r.1 r.2) (curve0 hp) (curve0 hq) (curve0 hr)
  have cy := of_three (cert_y d p.1 p.2 q.1 q.2 r.1 r.2) (curve0 hp) (curve0 hq) (curve0 hr)
  generalize add d (add d p q) r = l at *
  generalize add d p (add d q r) = t at *
  generalize add d p q = s at *
  generalize add d q r = w at *
  obtain ⟨x1, y1⟩ := p
  obtain ⟨x2, y2⟩ := q
  obtain ⟨x3, y3⟩ := r
  obtain ⟨x12, y12⟩ := s
  obtain ⟨x23, y23⟩ := w
  obtain ⟨lx, ly⟩ := l
  obtain ⟨tx, ty⟩ := t
  unfold kk On at *
  simp only at *
  clear hp hq hr h12 h23
  generalize d * x1 * x2 * y1 * y2 = k at *
  generalize d * x2 * x3 * y2 * y3 = m at *
  generalize x1 * y2 + x2 * y1 = nx at *
  generalize y1 * y2 - x1 * x2 = ny at *
  generalize x2 * y3 + x3 * y2 = mx at *
  generalize y2 * y3 - x2 * x3 = my at *
  have ex : lx = tx := cross (leg_lx a1 a2 l1) (leg_rx b1 b2 r1) cx (leg_n a1 a2 np nm lp) (leg_n' b1 b2 mp mm rp)
  have ey : ly = ty := cross (leg_ly a1 a2 l2) (leg_ry b1 b2 r2) cy (leg_m a1 a2 np nm lm) (leg_m' b1 b2 mp mm rm)
  rw [ex, ey]
theorem add_comm (d : F) (p q : F × F) : add d p q = add d q p := by
  have e : kk d p q = kk d q p := by unfold kk; grobner
  unfold add
  rw [e]
  apply Prod.ext
  · show (p.1 * q.2 + q.1 * p.2) * _ = (q.1 * p.2 + p.1 * q.2) * _
    congr 1
    grobner
  · show (p.2 * q.2 - p.1 * q.1) * _ = (q.2 * p.2 - q.1 * p.1) * _
    congr 1
    grobner
def O : F × F := (0, 1)
theorem on_O (d : F) : On d O := by
  show (0 : F) * 0 + 1 * 1 = 1 + d * 0 * 0 * 1 * 1
  grobner
theorem inv_one : inv 1 = 1 := by
  have := mul_inv (x := 1) (by decide)
  grobner
theorem O_add (d : F) (p : F × F) : add d O p = p := by
  have e : kk d O p = 0 := by show d * 0 * p.1 * 1 * p.2 = 0; grobner
  unfold add
  rw [e]
  have e1 : (1 + 0 : F) = 1 := by decide
  have e2 : (1 - 0 : F) = 1 := by decide
  rw [e1, e2, inv_one]
  apply Prod.ext
  · show (0 * p.2 + p.1 * 1) * 1 = p.1
    grobner
  · show (1 * p.2 - 0 * p.1) * 1 = p.2
    grobner
def neg (p : F × F) : F × F := (-p.1, p.2)
theorem on_neg {d : F} {p : F × F} (h : On d p) : On d (neg p) := by
  show -p.1 * -p.1 + p.2 * p.2 = 1 + d * -p.1 * -p.1 * p.2 * p.2
  unfold On at h
  grobner
theorem add_neg {d : F} {p : F × F} (ns : NS d) (h : On d p) : add d p (neg p) = O := by
  have x := add_x ns h (on_neg h)
  have y := add_y ns h (on_neg h)
  have n1 := den_p ns h (on_neg h)
  have n2 := den_m ns h (on_neg h)
  generalize add d p (neg p) = r at *
  obtain ⟨rx, ry⟩ := r
  obtain ⟨px, py⟩ := p
  unfold neg kk On at *
  simp only at *
  have ex : rx = 0 := by
    refine cancel n1 ?_
    generalize 1 + d * px * -px * py * py = z at *
    grobner
  have ey : ry = 1 := by
    refine cancel n2 ?_
    have : 1 - d * px * -px * py * py = py * py - px * -px := by clear x y n1 n2 ex; grobner
    rw [← this] at y
    generalize 1 - d * px * -px * py * py = z at *
    clear x n1 n2 this ex h
    grobner
  rw [ex, ey]; rfl
/-- p so many times -/
def nP (d : F) (p : F × F) : Nat → F × F
  | 0 => O
  | n + 1 => add d (nP d p n) p
theorem on_nP {d : F} {p : F × F} (ns : NS d) (h : On d p) : ∀ n, On d (nP d p n)
  | 0 => on_O d
  | n + 1 => add_on ns (on_nP ns h n) h
theorem nP_add {d : F} {p : F × F} (ns : NS d) (h : On d p) (m : Nat) : ∀ n, nP d p (m + n) = add d (nP d p m) (nP d p n)
  | 0 => by
    show nP d p m = add d (nP d p m) O
    rw [add_comm, O_add]
  | n + 1 => by
    show add d (nP d p (m + n)) p = add d (nP d p m) (add d (nP d p n) p)
    rw [nP_add ns h m n, assoc ns (on_nP ns h m) (on_nP ns h n) h]
theorem nP_mul {d : F} {p : F × F} (ns : NS d) (h : On d p) (m : Nat) : ∀ n, nP d (nP d p m) n = nP d p (m * n)
  | 0 => rfl
  | n + 1 => by
    show add d (nP d (nP d p m) n) (nP d p m) = nP d p (m * n + m)
    rw [nP_mul ns h m n, nP_add ns h]
theorem nP_comm {d : F} {p : F × F} (ns : NS d) (h : On d p) (m n : Nat) : nP d (nP d p m) n = nP d (nP d p n) m := by
  rw [nP_mul ns h, nP_mul ns h, Nat.mul_comm]
end Crv
end Go.Proofs.YtbhlcnimjoppeaaDoor

/-
  Of no statement by itself: the ladder of X25519 over the numbers modulo 2^255 - 19, and that to multiply by one even number and then by another one is the same in either order; no program stands here.
  Conditions: none but each lemma's own.
-/
namespace Go.Proofs.YtbhlcnimjoppeaaDoor
namespace Crv
structure L4 where
  x2 : F
  z2 : F
  x3 : F
  z3 : F
/-- one step, as the document tells it, between the exchanges -/
def core (x1 : F) (s : L4) : L4 :=
  let a := s.x2 + s.z2
  let b := s.x2 - s.z2
  let c := s.x3 + s.z3
  let d := s.x3 - s.z3
  let da := d * a
  let cb := c * b
  let aa := a * a
  let bb := b * b
  let e := aa - bb
  ⟨aa * bb, e * (aa + 121665 * e), (da + cb) * (da + cb), x1 * ((da - cb) * (da - cb))⟩
def swap (b : Bool) (s : L4) : L4 := if b then ⟨s.x3, s.z3, s.x2, s.z2⟩ else s
def lad (x1 : F) (k : Nat) : Nat → L4 → L4
  | 0, s => s
  | n + 1, s => lad x1 k n (swap (k.testBit n) (core x1 (swap (k.testBit n) s)))
def mulF (k : Nat) (u : F) : F := (lad u k 255 ⟨1, 0, u, 1⟩).x2 * inv (lad u k 255 ⟨1, 0, u, 1⟩).z2
/-- the pair stands for the point of this second coordinate -/
def Rep (σ y X Z : F) : Prop := ∃ l, l ≠ 0 ∧ X = l * (1 + y) ∧ Z = l * (σ * (1 - y))
structure Par (σ d : F) : Prop where
  one : σ * σ = 1
  num : d * (σ * ca + 2) = σ * ca - 2
  ns : NS d
theorem rep_of {σ y X Z : F} (h1 : σ * σ = 1) (h : σ * (1 + y) * Z = (1 - y) * X) (n : X = 0 → Z = 0 → False) : Rep σ y X Z := by
  have h2 := mul_inv two_ne
  refine ⟨(X + σ * Z) * inv 2, fun z => ?_, ?_, ?_⟩
  · have z1 : X + σ * Z = 0 := by
      refine (mul_zero z).elim id fun e => ?_
      rw [e] at h2
      have one : (1 : F) ≠ 0 := by decide
      exact absurd (by grobner) one
    have e : (2 : F) * X = 0 := by
      clear z h2 n
      grobner
    have e1 : X = 0 := (mul_zero e).elim (fun h => absurd h two_ne) id
    refine n e1 ?_
    clear z h2 n
    grobner
  · clear n
    generalize inv 2 = i at *
    grobner
  · clear n
    generalize inv 2 = i at *
    grobner
theorem dbl_id {d : F} {p : F × F} (ns : NS d) (hp : On d p) : (1 + (add d p p).2) * ((1 - p.2 * p.2) * (1 - d * p.2 * p.2)) = (1 - (add d p p).2) * (p.2 * p.2 * (1 - d)) := by
  have hy := add_y ns hp hp
  have n := den_m ns hp hp
  generalize add d p p = r at *
  obtain ⟨rx, y2⟩ := r
  obtain ⟨x, y⟩ := p
  unfold kk On at *
  simp only at *
  have e : 1 - d * x * x * y * y = 2 - x * x - y * y := by clear hy n; grobner
  rw [e] at hy n
  refine cancel n ?_
  have e1 : (2 - x * x - y * y) * (1 + y2) = 2 - 2 * (x * x) := by clear n e; grobner
  have e2 : (2 - x * x - y * y) * (1 - y2) = 2 - 2 * (y * y) := by clear n e e1; grobner
  have e3 : (2 - x * x - y * y) * ((1 + y2) * ((1 - y * y) * (1 - d * y * y))) = (2 - 2 * (x * x)) * ((1 - y * y) * (1 - d * y * y)) := by rw [← e1]; clear n e e1 e2 hy hp; grobner
  have e4 : (2 - x * x - y * y) * ((1 - y2) * (y * y * (1 - d))) = (2 - 2 * (y * y)) * (y * y * (1 - d)) := by rw [← e2]; clear n e e1 e2 e3 hy hp; grobner
  rw [e3, e4]
  clear e3 e4 e1 e2 n e hy
  grobner
theorem diff_id {d : F} {p q : F × F} (ns : NS d) (hp : On d p) (hq : On d q) :
    (1 + (add d p q).2) * (1 + (add d p (neg q)).2) * ((p.2 - q.2) * (p.2 - q.2)) = (1 - (add d p q).2) * (1 - (add d p (neg q)).2) * ((p.2 + q.2) * (p.2 + q.2)) := by
  have a := add_y ns hp hq
  have b := add_y ns hp (on_neg hq)
  have n1 := den_m ns hp hq
  have n2 := den_m ns hp (on_neg hq)
  have c := of_two (cert_diff d p.1 p.2 q.1 q.2) (curve0 hp) (curve0 hq)
  generalize add d p q = r at *
  generalize add d p (neg q) = t at *
  obtain ⟨rx, ry⟩ := r
  obtain ⟨tx, ty⟩ := t
  obtain ⟨x1, y1⟩ := p
  obtain ⟨x2, y2⟩ := q
  unfold neg kk On at *
  simp only at *
  clear hp hq
  have e : 1 - d * x1 * -x2 * y1 * y2 = 1 + d * x1 * x2 * y1 * y2 := by clear a b n1 n2 c; grobner
  rw [e] at b n2
  generalize d * x1 * x2 * y1 * y2 = k at *
  have e1 : (1 - k) * (1 + ry) = 1 - k + y1 * y2 - x1 * x2 := by clear b n1 n2 c e; grobner
  have e2 : (1 - k) * (1 - ry) = 1 - k - y1 * y2 + x1 * x2 := by clear b n1 n2 c e e1; grobner
  have e3 : (1 + k) * (1 + ty) = 1 + k + y1 * y2 + x1 * x2 := by clear a n1 n2 c e e1 e2; grobner
  have e4 : (1 + k) * (1 - ty) = 1 + k - y1 * y2 - x1 * x2 := by clear a n1 n2 c e e1 e2 e3; grobner
  rw [← e1, ← e2, ← e3, ← e4] at c
  refine cancel (mul_ne n1 n2) ?_
  clear e1 e2 e3 e4 a b e n1 n2
  generalize 1 + ry = r1 at *
  generalize 1 - ry = r2 at *
  generalize 1 + ty = t1 at *
  generalize 1 - ty = t2 at *
  generalize 1 + k = k1 at *
  generalize 1 - k = k2 at *
  generalize y1 - y2 = f at *
  generalize y1 + y2 = g at *
  grobner
theorem neg_sym (d : F) (p q : F × F) : (add d p (neg q)).2 = (add d q (neg p)).2 := by
  show (p.2 * q.2 - p.1 * -q.1) * inv (1 - d * p.1 * -q.1 * p.2 * q.2) = (q.2 * p.2 - q.1 * -p.1) * inv (1 - d * q.1 * -p.1 * q.2 * p.2)
  have e1 : p.2 * q.2 - p.1 * -q.1 = q.2 * p.2 - q.1 * -p.1 := by grobner
  have e2 : 1 - d * p.1 * -q.1 * p.2 * q.2 = 1 - d * q.1 * -p.1 * q.2 * p.2 := by grobner
  rw [e1, e2]
theorem Par.d_ne {σ d : F} (h : Par σ d) : 1 - d ≠ 0 := fun z => h.ns 1 (by grobner)
theorem rep_dbl {σ d : F} (hp : Par σ d) {p : F × F} (h : On d p) {s : L4} (r : Rep σ p.2 s.x2 s.z2) (x1 : F) : Rep σ (add d p p).2 (core x1 s).x2 (core x1 s).z2 := by
  obtain ⟨l, l0, ex, ez⟩ := r
  have id := dbl_id hp.ns h
  have nd := hp.d_ne
  have h1 := hp.one
  have h2 := hp.num
  show Rep σ (add d p p).2 ((s.x2 + s.z2) * (s.x2 + s.z2) * ((s.x2 - s.z2) * (s.x2 - s.z2))) (((s.x2 + s.z2) * (s.x2 + s.z2) - (s.x2 - s.z2) * (s.x2 - s.z2)) * ((s.x2 + s.z2) * (s.x2 + s.z2) + 121665 * ((s.x2 + s.z2) * (s.x2 + s.z2) - (s.x2 - s.z2) * (s.x2 - s.z2))))
  rw [ex, ez]
  generalize p.2 = y at *
  generalize (add d p p).2 = y2 at *
  clear ex ez h hp
  have fx : (l * (1 + y) + l * (σ * (1 - y))) * (l * (1 + y) + l * (σ * (1 - y))) * ((l * (1 + y) - l * (σ * (1 - y))) * (l * (1 + y) - l * (σ * (1 - y)))) = 16 * (l * l * (l * l)) * (y * y) := by
    have e : (l * (1 + y) + l * (σ * (1 - y))) * (l * (1 + y) - l * (σ * (1 - y))) = l * l * (4 * y) := by clear id h2 nd l0; grobner
    clear id h1 h2 nd l0
    generalize l * (1 + y) + l * (σ * (1 - y)) = a at *
    generalize l * (1 + y) - l * (σ * (1 - y)) = b at *
    grobner
  have ge : (l * (1 + y) + l * (σ * (1 - y))) * (l * (1 + y) + l * (σ * (1 - y))) - (l * (1 + y) - l * (σ * (1 - y))) * (l * (1 + y) - l * (σ * (1 - y))) = 4 * (l * l) * (σ * (1 - y * y)) := by clear id h1 h2 nd l0 fx; grobner
  have ga : (l * (1 + y) + l * (σ * (1 - y))) * (l * (1 + y) + l * (σ * (1 - y))) = l * l * (2 + 2 * (y * y) + 2 * (σ * (1 - y * y))) := by clear id h2 nd l0 fx ge; grobner
  rw [fx, ge, ga]
  have ca4 : (121665 : F) * 4 = ca - 2 := by decide +kernel
  have gz : (1 - d) * (4 * (l * l) * (σ * (1 - y * y)) * (l * l * (2 + 2 * (y * y) + 2 * (σ * (1 - y * y))) + 121665 * (4 * (l * l) * (σ * (1 - y * y))))) = 16 * (l * l * (l * l)) * (σ * ((1 - y * y) * (1 - d * y * y))) := by
    have e1 : l * l * (2 + 2 * (y * y) + 2 * (σ * (1 - y * y))) + 121665 * (4 * (l * l) * (σ * (1 - y * y))) = l * l * (2 + 2 * (y * y) + σ * ca * (1 - y * y)) := by
      clear id h1 h2 nd l0 fx ge ga
      generalize ca = A at *
      grobner
    have e2 : (1 - d) * (2 + 2 * (y * y) + σ * ca * (1 - y * y)) = 4 * (1 - d * y * y) := by
      clear id h1 nd l0 fx ge ga e1 ca4
      generalize ca = A at *
      grobner
    rw [e1]
    clear id h1 h2 nd l0 fx ge ga e1 ca4
    generalize 2 + 2 * (y * y) + σ * ca * (1 - y * y) = w at *
    grobner
  generalize 4 * (l * l) * (σ * (1 - y * y)) * (l * l * (2 + 2 * (y * y) + 2 * (σ * (1 - y * y))) + 121665 * (4 * (l * l) * (σ * (1 - y * y)))) = Z at *
  have n16 : 16 * (l * l * (l * l)) ≠ 0 := mul_ne (by decide) (mul_ne (mul_ne l0 l0) (mul_ne l0 l0))
  clear fx ge ga ca4 h2 l0
  generalize 16 * (l * l * (l * l)) = K at *
  refine rep_of h1 (cancel nd ?_) fun z1 z2 => ?_
  · have e : (1 - d) * (σ * (1 + y2) * Z) = σ * (1 + y2) * ((1 - d) * Z) := by clear id h1 gz nd n16; grobner
    rw [e, gz]
    clear e gz nd n16
    generalize (1 - y * y) * (1 - d * y * y) = w at *
    grobner
  · have y0 : y = 0 := (mul_zero z1).elim (fun h => absurd h n16) sq_zero
    have s0 : σ ≠ 0 := fun e => by
      rw [e] at h1
      have : (0 : F) * 0 ≠ 1 := by decide
      exact this h1
    refine mul_ne n16 s0 ?_
    rw [y0, z2] at gz
    clear id h1 nd n16 z1 z2 y0 s0
    grobner
theorem rep_add {σ d u : F} (hp : Par σ d) {p q : F × F} (h : On d p) (h' : On d q) {s : L4} (r : Rep σ p.2 s.x2 s.z2) (r' : Rep σ q.2 s.x3 s.z3)
    (hu : u ≠ 0) (hd : u * (σ * (1 - (add d p (neg q)).2)) = 1 + (add d p (neg q)).2) : Rep σ (add d p q).2 (core u s).x3 (core u s).z3 := by
  obtain ⟨l, l0, ex, ez⟩ := r
  obtain ⟨m, m0, fx, fz⟩ := r'
  have id := diff_id hp.ns h h'
  have ty := add_y hp.ns h (on_neg h')
  have h1 := hp.one
  show Rep σ (add d p q).2 (((s.x3 - s.z3) * (s.x2 + s.z2) + (s.x3 + s.z3) * (s.x2 - s.z2)) * ((s.x3 - s.z3) * (s.x2 + s.z2) + (s.x3 + s.z3) * (s.x2 - s.z2)))
    (u * (((s.x3 - s.z3) * (s.x2 + s.z2) - (s.x3 + s.z3) * (s.x2 - s.z2)) * ((s.x3 - s.z3) * (s.x2 + s.z2) - (s.x3 + s.z3) * (s.x2 - s.z2))))
  rw [ex, ez, fx, fz]
  generalize (add d p q).2 = ry at *
  generalize add d p (neg q) = t at *
  obtain ⟨tx, t⟩ := t
  obtain ⟨x1, y1⟩ := p
  obtain ⟨x2, y2⟩ := q
  unfold neg kk On at *
  simp only at *
  clear ex ez fx fz hp
  have one : (1 : F) ≠ 0 := by decide
  have ga : (m * (1 + y2) - m * (σ * (1 - y2))) * (l * (1 + y1) + l * (σ * (1 - y1))) + (m * (1 + y2) + m * (σ * (1 - y2))) * (l * (1 + y1) - l * (σ * (1 - y1))) = 4 * (l * m) * (y1 + y2) := by
    clear id ty h h' hu hd l0 m0 one
    grobner
  have gb : (m * (1 + y2) - m * (σ * (1 - y2))) * (l * (1 + y1) + l * (σ * (1 - y1))) - (m * (1 + y2) + m * (σ * (1 - y2))) * (l * (1 + y1) - l * (σ * (1 - y1))) = 4 * (l * m) * (σ * (y2 - y1)) := by
    clear id ty h h' hu hd l0 m0 one ga h1
    grobner
  rw [ga, gb]
  have n4 : 4 * (l * m) ≠ 0 := mul_ne (by decide) (mul_ne l0 m0)
  clear ga gb l0 m0
  generalize 4 * (l * m) = K at *
  have t1 : 1 - t ≠ 0 := fun z => by
    have e : (2 : F) = 0 := by
      rw [z] at hd
      clear id ty h h' hu h1 one n4
      grobner
    exact two_ne e
  refine rep_of h1 (cancel t1 ?_) fun z1 z2 => ?_
  · have e : (1 - t) * (σ * (1 + ry) * (u * (K * (σ * (y2 - y1)) * (K * (σ * (y2 - y1)))))) = K * K * (σ * σ) * ((1 + ry) * (u * (σ * (1 - t))) * ((y1 - y2) * (y1 - y2))) := by
      clear id ty h h' hu hd h1 one n4 t1
      grobner
    rw [e, hd, id, h1]
    clear id ty h h' hu hd h1 one n4 t1 e
    grobner
  · have a1 : y1 + y2 = 0 := (mul_zero (sq_zero z1)).elim (fun h => absurd h n4) (fun h => h)
    have a2 : σ * (y2 - y1) = 0 := (mul_zero ((mul_zero z2).elim (fun h => absurd h hu) sq_zero)).elim (fun h => absurd h n4) (fun h => h)
    have a3 : y2 - y1 = 0 := by clear id ty h h' hu hd one n4 t1 z1 z2 a1; grobner
    have a4 : (2 : F) * y1 = 0 := by clear id ty h h' hu hd one n4 t1 z1 z2 a2 h1; grobner
    have a5 : y1 = 0 := (mul_zero a4).elim (fun h => absurd h two_ne) (fun h => h)
    have a6 : y2 = 0 := by rw [a5] at a1; clear id ty h h' hu hd one n4 t1 z1 z2 a2 h1 a3 a4 a5; grobner
    rw [a5] at h ty
    rw [a6] at h' ty
    have b1 : x1 * x1 = 1 := by clear id ty h' hu hd one n4 t1 z1 z2 a1 a2 h1 a3 a4 a5 a6; grobner
    have b2 : x2 * x2 = 1 := by clear id ty h hu hd one n4 t1 z1 z2 a1 a2 h1 a3 a4 a5 a6 b1; grobner
    have b3 : t = x1 * x2 := by clear id h h' hu hd one n4 t1 z1 z2 a1 a2 h1 a3 a4 a5 a6 b1 b2; grobner
    have b4 : (1 - t) * (1 + t) = 0 := by clear id h h' hu hd one n4 t1 z1 z2 a1 a2 h1 a3 a4 a5 a6 ty; grobner
    have b5 : 1 + t = 0 := (mul_zero b4).elim (fun h => absurd h t1) (fun h => h)
    have s0 : σ ≠ 0 := fun e => by
      rw [e] at h1
      have : (0 : F) * 0 ≠ 1 := by decide
      exact this h1
    rw [b5] at hd
    exact mul_ne hu (mul_ne s0 t1) hd
end Crv
end Go.Proofs.YtbhlcnimjoppeaaDoor

/-
  Of no statement by itself: the ladder of X25519 gives the point so many times, so that two even numbers may be taken in either order; no program stands here.
  Conditions: none but each lemma's own.
-/
namespace Go.Proofs.YtbhlcnimjoppeaaDoor
namespace Crv
theorem add_diff {d : F} {p r : F × F} (ns : NS d) (hp : On d p) (hr : On d r) : add d (add d r p) (neg r) = p := by
  rw [add_comm d r p, assoc ns hp hr (on_neg hr), add_neg ns hr, add_comm, O_add]
theorem nP_dbl {d : F} {p : F × F} (ns : NS d) (h : On d p) (m : Nat) : add d (nP d p m) (nP d p m) = nP d p (2 * m) := by
  rw [← nP_add ns h, Nat.two_mul]
theorem nP_next {d : F} {p : F × F} (ns : NS d) (h : On d p) (m : Nat) : add d (nP d p m) (nP d p (m + 1)) = nP d p (2 * m + 1) := by
  rw [← nP_add ns h]
  congr 1
  omega
/-- the state stands for the point m times, and once more -/
def Inv (σ d : F) (p : F × F) (m : Nat) (s : L4) : Prop := Rep σ (nP d p m).2 s.x2 s.z2 ∧ Rep σ (nP d p (m + 1)).2 s.x3 s.z3
theorem Inv.step {σ d u : F} {p : F × F} (hp : Par σ d) (h : On d p) (hu : u ≠ 0) (hd : u * (σ * (1 - p.2)) = 1 + p.2) {m : Nat} {s : L4} (i : Inv σ d p m s) (b : Bool) :
    Inv σ d p (2 * m + b.toNat) (swap b (core u (swap b s))) := by
  obtain ⟨i1, i2⟩ := i
  have o1 := on_nP hp.ns h m
  have o2 := on_nP hp.ns h (m + 1)
  have df : add d (nP d p (m + 1)) (neg (nP d p m)) = p := add_diff hp.ns h o1
  have dg : (add d (nP d p m) (neg (nP d p (m + 1)))).2 = p.2 := by rw [neg_sym, df]
  cases b with
  | false =>
    have a1 := rep_dbl hp o1 i1 u
    have a2 := rep_add hp o1 o2 i1 i2 hu (by rw [dg]; exact hd)
    rw [nP_dbl hp.ns h] at a1
    rw [nP_next hp.ns h] at a2
    exact ⟨a1, a2⟩
  | true =>
    have a1 := rep_dbl hp o2 (s := ⟨s.x3, s.z3, s.x2, s.z2⟩) i2 u
    have a2 := rep_add hp o2 o1 (s := ⟨s.x3, s.z3, s.x2, s.z2⟩) i2 i1 hu (by rw [df]; exact hd)
    rw [nP_dbl hp.ns h] at a1
    rw [add_comm, nP_next hp.ns h] at a2
    exact ⟨a2, a1⟩
theorem bits_next (k n : Nat) : k % 2 ^ (n + 1) = (k.testBit n).toNat * 2 ^ n + k % 2 ^ n := by
  rw [Nat.pow_succ, Nat.mod_mul, Nat.testBit_eq_decide_div_mod_eq, Nat.add_comm, Nat.mul_comm]
  congr 2
  by_cases h : k / 2 ^ n % 2 = 1
  · rw [h]; rfl
  · have h0 : k / 2 ^ n % 2 = 0 := by omega
    rw [h0]; rfl
theorem Inv.all {σ d u : F} {p : F × F} (hp : Par σ d) (h : On d p) (hu : u ≠ 0) (hd : u * (σ * (1 - p.2)) = 1 + p.2) (k : Nat) :
    ∀ n m s, Inv σ d p m s → Inv σ d p (m * 2 ^ n + k % 2 ^ n) (lad u k n s)
  | 0, m, s, i => by
    have e : m * 2 ^ 0 + k % 2 ^ 0 = m := by rw [Nat.pow_zero, Nat.mod_one, Nat.mul_one]; rfl
    rw [e]; exact i
  | n + 1, m, s, i => by
    have r := Inv.all hp h hu hd k n _ _ (i.step hp h hu hd (k.testBit n))
    have e : m * 2 ^ (n + 1) + k % 2 ^ (n + 1) = (2 * m + (k.testBit n).toNat) * 2 ^ n + k % 2 ^ n := by
      rw [bits_next, Nat.add_mul, Nat.pow_succ, Nat.mul_comm (2 ^ n) 2, ← Nat.mul_assoc, Nat.mul_comm m 2, Nat.add_assoc]
    rw [e]; exact r
/-- the number of a point: 0 of the two that have none -/
def U (σ : F) (p : F × F) : F := (1 + p.2) * inv (σ * (1 - p.2))
theorem rep_out {σ y X Z : F} (r : Rep σ y X Z) : X * inv Z = (1 + y) * inv (σ * (1 - y)) := by
  obtain ⟨l, l0, ex, ez⟩ := r
  by_cases hz : σ * (1 - y) = 0
  · have e : Z = 0 := by rw [ez, hz]; clear ex ez hz l0; grobner
    rw [e, hz, inv_zero]
    clear ex ez hz l0 e
    grobner
  · have i1 := mul_inv hz
    have zn : Z ≠ 0 := by rw [ez]; exact mul_ne l0 hz
    have i2 := mul_inv zn
    refine cancel zn ?_
    have e1 : Z * (X * inv Z) = X := by
      clear ex ez l0 hz i1 zn
      generalize inv Z = a at *
      grobner
    rw [e1, ex, ez]
    clear e1 i2 zn ex ez l0 hz
    generalize inv (σ * (1 - y)) = a at *
    generalize σ * (1 - y) = b at *
    grobner
theorem U_ne {σ : F} {p : F × F} (h : U σ p ≠ 0) : U σ p * (σ * (1 - p.2)) = 1 + p.2 := by
  have n : σ * (1 - p.2) ≠ 0 := fun e => by
    refine h ?_
    unfold U
    rw [e, inv_zero]
    clear h e
    grobner
  have i := mul_inv n
  unfold U
  clear h n
  generalize inv (σ * (1 - p.2)) = a at *
  generalize σ * (1 - p.2) = b at *
  grobner
theorem mul_pt {σ d : F} {p : F × F} (hp : Par σ d) (h : On d p) (hu : U σ p ≠ 0) {k : Nat} (hk : k < 2 ^ 255) : mulF k (U σ p) = U σ (nP d p k) := by
  have hd := U_ne hu
  have h1 := hp.one
  have i0 : Inv σ d p 0 ⟨1, 0, U σ p, 1⟩ := by
    refine ⟨rep_of h1 ?_ fun z _ => ?_, ?_⟩
    · show σ * (1 + 1) * 0 = (1 - 1) * 1
      clear h1 hd
      grobner
    · have : (1 : F) ≠ 0 := by decide
      exact this z
    · show Rep σ (add d O p).2 (U σ p) 1
      rw [O_add]
      refine rep_of h1 ?_ fun _ z => ?_
      · generalize U σ p = u at *
        clear hu
        grobner
      · have : (1 : F) ≠ 0 := by decide
        exact this z
  have i := Inv.all hp h hu hd k 255 0 _ i0
  rw [Nat.zero_mul, Nat.zero_add, Nat.mod_eq_of_lt hk] at i
  exact rep_out i.1
theorem lad_zero (k : Nat) : ∀ n s, s.z2 = 0 → s.z3 = 0 → (lad 0 k n s).z2 = 0
  | 0, _, h, _ => h
  | n + 1, s, h, h' => by
    have g2 : ∀ s : L4, s.z2 = 0 → (core 0 s).z2 = 0 := fun s e => by
      show ((s.x2 + s.z2) * (s.x2 + s.z2) - (s.x2 - s.z2) * (s.x2 - s.z2)) * ((s.x2 + s.z2) * (s.x2 + s.z2) + 121665 * ((s.x2 + s.z2) * (s.x2 + s.z2) - (s.x2 - s.z2) * (s.x2 - s.z2))) = 0
      rw [e]
      generalize s.x2 = x
      clear h h' e
      grobner
    have g3 : ∀ s : L4, (core 0 s).z3 = 0 := fun s => by
      show 0 * (((s.x3 - s.z3) * (s.x2 + s.z2) - (s.x3 + s.z3) * (s.x2 - s.z2)) * ((s.x3 - s.z3) * (s.x2 + s.z2) - (s.x3 + s.z3) * (s.x2 - s.z2))) = 0
      generalize ((s.x3 - s.z3) * (s.x2 + s.z2) - (s.x3 + s.z3) * (s.x2 - s.z2)) * ((s.x3 - s.z3) * (s.x2 + s.z2) - (s.x3 + s.z3) * (s.x2 - s.z2)) = x
      clear h h' g2
      grobner
    show (lad 0 k n (swap (k.testBit n) (core 0 (swap (k.testBit n) s)))).z2 = 0
    cases k.testBit n with
    | false => exact lad_zero k n _ (g2 _ h) (g3 _)
    | true => exact lad_zero k n _ (g3 _) (g2 _ h')
theorem lad_one (k n : Nat) : (lad 0 k (n + 1) ⟨1, 0, 0, 1⟩).z2 = 0 := by
  show (lad 0 k n (swap (k.testBit n) (core 0 (swap (k.testBit n) ⟨1, 0, 0, 1⟩)))).z2 = 0
  cases k.testBit n with
  | false => exact lad_zero k n _ (by decide +kernel) (by decide +kernel)
  | true => exact lad_zero k n _ (by decide +kernel) (by decide +kernel)
theorem mul_nought (k : Nat) : mulF k 0 = 0 := by
  have e : (lad 0 k 255 ⟨1, 0, 0, 1⟩).z2 = 0 := lad_one k 254
  unfold mulF
  rw [e, inv_zero]
  generalize (lad 0 k 255 ⟨1, 0, 0, 1⟩).x2 = x
  clear e
  grobner
theorem nP_O {d : F} : ∀ n, nP d O n = O
  | 0 => rfl
  | n + 1 => by show add d (nP d O n) O = O; rw [nP_O n, O_add]
theorem U_O (σ : F) : U σ O = 0 := by
  show (1 + 1) * inv (σ * (1 - 1)) = 0
  have e : σ * (1 - 1) = 0 := by grobner
  rw [e, inv_zero]; rfl
theorem even_nought {σ d : F} {p : F × F} (hp : Par σ d) (h : On d p) (hu : U σ p = 0) (j : Nat) : U σ (nP d p (2 * j)) = 0 := by
  have h1 := hp.one
  have nd := hp.d_ne
  have s0 : σ ≠ 0 := fun e => by
    rw [e] at h1
    have : (0 : F) * 0 ≠ 1 := by decide
    exact this h1
  have e1 : (1 + p.2) * (1 - p.2) = 0 := by
    by_cases z : 1 - p.2 = 0
    · rw [z]; clear h1 nd s0 hu h z; grobner
    · have i := mul_inv (mul_ne s0 z)
      have e : (1 + p.2) * inv (σ * (1 - p.2)) = 0 := hu
      clear h1 nd s0 hu h z
      generalize inv (σ * (1 - p.2)) = a at *
      generalize 1 + p.2 = b at *
      generalize 1 - p.2 = c at *
      grobner
  have e2 : p.1 = 0 := by
    refine sq_zero ((mul_zero (x := 1 - d) (y := p.1 * p.1) ?_).elim (fun h => absurd h nd) (fun h => h))
    unfold On at h
    clear h1 nd s0 hu
    generalize p.1 = x at *
    generalize p.2 = y at *
    grobner
  have e3 : neg p = p := by
    apply Prod.ext
    · show -p.1 = p.1
      rw [e2]; decide
    · rfl
  have e4 : nP d p 2 = O := by
    show add d (add d O p) p = O
    have := add_neg hp.ns h
    rw [e3] at this
    rw [O_add, this]
  rw [← nP_mul hp.ns h, e4, nP_O, U_O]
theorem mul_even {σ d : F} {p : F × F} (hp : Par σ d) (h : On d p) {k : Nat} (hk : k < 2 ^ 255) (he : k % 2 = 0) : mulF k (U σ p) = U σ (nP d p k) := by
  by_cases hu : U σ p = 0
  · have e : k = 2 * (k / 2) := by omega
    rw [hu, mul_nought, e, even_nought hp h hu]
  · exact mul_pt hp h hu hk
theorem point {σ u s : F} (h1 : σ * σ = 1) (hs : σ * (σ * ca + 2) * (u * (u * u + ca * u + 1)) = s * s) : ∃ d p, Par σ d ∧ On d p ∧ U σ p = u := by
  have nr := no_root
  have hc : σ * ca + 2 ≠ 0 := fun z => nr 0 (by
    generalize ca = A at *
    clear nr hs
    grobner)
  have hv : σ * u + 1 ≠ 0 := fun z => nr s (by
    rw [← hs]
    generalize ca = A at *
    clear nr hs hc
    grobner)
  have hD : u * u + ca * u + 1 ≠ 0 := fun z => nr (2 * u + ca) (by
    generalize ca = A at *
    clear nr hs hc hv
    grobner)
  have ic := mul_inv hc
  have iv := mul_inv hv
  have iD := mul_inv hD
  have num : (σ * ca - 2) * inv (σ * ca + 2) * (σ * ca + 2) = σ * ca - 2 := by
    clear hs hv hD iv iD nr h1
    generalize inv (σ * ca + 2) = a at *
    generalize σ * ca + 2 = b at *
    generalize σ * ca - 2 = c at *
    grobner
  have ns : NS ((σ * ca - 2) * inv (σ * ca + 2)) := fun t e => nr (t * (σ * ca + 2)) (by
    rw [← e] at num
    clear hs hv hD iv iD nr e ic hc
    generalize ca = A at *
    grobner)
  have hx : s * inv (u * u + ca * u + 1) * (u * u + ca * u + 1) = s := by
    clear hs hv ns iv nr ic hc num h1
    generalize inv (u * u + ca * u + 1) = a at *
    generalize u * u + ca * u + 1 = b at *
    grobner
  have hy : (σ * u - 1) * inv (σ * u + 1) * (σ * u + 1) = σ * u - 1 := by
    clear hs hD ns iD nr ic hc num h1 hx
    generalize inv (σ * u + 1) = a at *
    generalize σ * u + 1 = b at *
    generalize σ * u - 1 = c at *
    grobner
  generalize s * inv (u * u + ca * u + 1) = x at *
  generalize (σ * u - 1) * inv (σ * u + 1) = y at *
  generalize (σ * ca - 2) * inv (σ * ca + 2) = d at *
  refine ⟨d, (x, y), ⟨h1, num, ns⟩, ?_, ?_⟩
  · show x * x + y * y = 1 + d * x * x * y * y
    have e1 : x * x * (u * u + ca * u + 1) = (σ * ca + 2) * (σ * u) := by
      refine cancel hD ?_
      clear nr hc hv hD ic iv iD num ns hy
      have e : (u * u + ca * u + 1) * (x * x * (u * u + ca * u + 1)) = s * s := by
        rw [← hx]
        clear hx hs h1
        generalize u * u + ca * u + 1 = D at *
        grobner
      rw [e, ← hs]
      clear e hx hs
      generalize u * u + ca * u + 1 = D at *
      generalize ca = A at *
      grobner
    refine cancel hD (cancel (mul_ne hv hv) ?_)
    have l : (σ * u + 1) * (σ * u + 1) * ((u * u + ca * u + 1) * (x * x + y * y)) = (σ * ca + 2) * (σ * u) * ((σ * u + 1) * (σ * u + 1)) + (u * u + ca * u + 1) * ((σ * u - 1) * (σ * u - 1)) := by
      rw [← e1, ← hy]
      clear e1 hy hx hs nr hc hv hD ic iv iD num ns h1
      generalize σ * u + 1 = E at *
      generalize u * u + ca * u + 1 = D at *
      grobner
    have r : (σ * u + 1) * (σ * u + 1) * ((u * u + ca * u + 1) * (1 + d * x * x * y * y)) = (u * u + ca * u + 1) * ((σ * u + 1) * (σ * u + 1)) + d * (σ * ca + 2) * (σ * u) * ((σ * u - 1) * (σ * u - 1)) := by
      have e2 : d * (σ * ca + 2) * (σ * u) = d * (x * x * (u * u + ca * u + 1)) := by
        rw [e1]
        clear l e1 hy hx hs nr hc hv hD ic iv iD num ns h1
        generalize σ * ca + 2 = C at *
        generalize σ * u = v at *
        grobner
      rw [e2, ← hy]
      clear l e1 e2 hy hx hs nr hc hv hD ic iv iD num ns h1
      generalize σ * u + 1 = E at *
      generalize u * u + ca * u + 1 = D at *
      grobner
    rw [l, r, num]
    clear l r e1 hy hx hs nr hc hv hD ic iv iD num ns
    generalize ca = A at *
    grobner
  · show (1 + y) * inv (σ * (1 - y)) = u
    have e1 : (σ * u + 1) * (1 + y) = 2 * (σ * u) := by
      clear hx hs nr hc hv hD ic iv iD num ns h1
      grobner
    have e2 : (σ * u + 1) * (1 - y) = 2 := by
      clear hx hs nr hc hv hD ic iv iD num ns h1 e1
      grobner
    have e3 : u * (σ * (1 - y)) = 1 + y := by
      refine cancel hv ?_
      rw [e1]
      clear hx hs nr hc hv hD ic iv iD num ns h1 e1 hy
      grobner
    have n : σ * (1 - y) ≠ 0 := fun z => by
      have e4 : (2 : F) = 0 := by
        clear hx hs nr hc hv hD ic iv iD num ns e1 hy e3
        grobner
      exact two_ne e4
    have i := mul_inv n
    rw [← e3]
    clear hx hs nr hc hv hD ic iv iD num ns e1 hy e3 e2 n h1
    generalize inv (σ * (1 - y)) = a at *
    generalize σ * (1 - y) = b at *
    grobner
theorem some_point {u : F} (hu : u ≠ 0) : ∃ σ d p, Par σ d ∧ On d p ∧ U σ p = u := by
  have hD : u * u + ca * u + 1 ≠ 0 := fun z => no_root (2 * u + ca) (by
    generalize ca = A at *
    clear hu
    grobner)
  cases one_has (mul_ne hu hD) with
  | inl h =>
    obtain ⟨s, hs⟩ := h
    refine ⟨1, point (s := s) (by decide) ?_⟩
    rw [← hs]
    clear hs hD hu
    generalize u * (u * u + ca * u + 1) = w at *
    generalize ca = A at *
    grobner
  | inr h =>
    obtain ⟨s, hs⟩ := h
    refine ⟨-1, point (s := s) (by decide) ?_⟩
    rw [← hs]
    clear hs hD hu
    generalize u * (u * u + ca * u + 1) = w at *
    generalize ca = A at *
    grobner
/-- two even numbers, in either order -/
theorem mul_comm2 (u : F) {a b : Nat} (ha : a < 2 ^ 255) (hb : b < 2 ^ 255) (ea : a % 2 = 0) (eb : b % 2 = 0) : mulF a (mulF b u) = mulF b (mulF a u) := by
  by_cases hu : u = 0
  · rw [hu, mul_nought, mul_nought, mul_nought]
  · obtain ⟨σ, d, p, hp, h, e⟩ := some_point hu
    rw [← e, mul_even hp h hb eb, mul_even hp h ha ea, mul_even hp (on_nP hp.ns h b) ha ea, mul_even hp (on_nP hp.ns h a) hb eb, nP_comm hp.ns h]
end Crv
end Go.Proofs.YtbhlcnimjoppeaaDoor

/-
  Of no statement by itself: whole numbers as sixteen limbs of sixteen bits: what a carry does to their sum and to their bounds; no program stands here.
  Conditions: none but each lemma's own.
-/
namespace Go.Proofs.YtbhlcnimjoppeaaDoor
namespace Crv
/-- the sum of limbs -/
def val : List Int → Int
  | [] => 0
  | a :: l => a + 65536 * val l
def nth (l : List Int) (i : Nat) : Int := l.getD i 0
theorem nth_set (l : List Int) (i j : Nat) (x : Int) (h : i < l.length) : nth (l.set i x) j = if i = j then x else nth l j := by
  unfold nth
  simp only [List.getD_eq_getElem?_getD, List.getElem?_set]
  by_cases e : i = j
  · subst e
    simp [h]
  · simp [e]
theorem val_set : ∀ (l : List Int) (i : Nat) (x : Int), i < l.length → val (l.set i x) = val l + (x - nth l i) * 65536 ^ i
  | [], i, x, h => absurd h (by simp)
  | a :: l, 0, x, _ => by
    show x + 65536 * val l = a + 65536 * val l + (x - a) * 65536 ^ 0
    rw [Int.pow_zero]; omega
  | a :: l, i + 1, x, h => by
    have ih := val_set l i x (by simpa using h)
    show a + 65536 * val (l.set i x) = a + 65536 * val l + (x - nth l i) * 65536 ^ (i + 1)
    rw [ih, Int.pow_succ, Int.mul_add, Int.mul_comm (65536 ^ i) 65536, Int.mul_left_comm, Int.add_assoc]
/-- one step of the carry -/
def cstep (l : List Int) (i : Nat) : List Int :=
  let q := nth l i / 65536
  let m := l.set i (nth l i - q * 65536)
  if i < 15 then m.set (i + 1) (nth m (i + 1) + q) else m.set 0 (nth m 0 + 38 * q)
def cit (l : List Int) : Nat → List Int
  | 0 => l
  | i + 1 => cstep (cit l i) i
def car (l : List Int) : List Int := cit l 16
theorem cstep_len (l : List Int) (i : Nat) : (cstep l i).length = l.length := by
  unfold cstep
  simp only
  split <;> simp
theorem cit_len (l : List Int) : ∀ i, (cit l i).length = l.length
  | 0 => rfl
  | i + 1 => by show (cstep (cit l i) i).length = _; rw [cstep_len, cit_len l i]
theorem val_cstep {l : List Int} (hl : l.length = 16) {i : Nat} (h : i < 15) : val (cstep l i) = val l := by
  unfold cstep
  simp only [h, if_true]
  rw [val_set _ _ _ (by simp [hl]; omega), val_set _ _ _ (by omega), Int.pow_succ]
  have e : nth (l.set i (nth l i - nth l i / 65536 * 65536)) (i + 1) + nth l i / 65536 - nth (l.set i (nth l i - nth l i / 65536 * 65536)) (i + 1) = nth l i / 65536 := by omega
  have e2 : nth l i - nth l i / 65536 * 65536 - nth l i = -(nth l i / 65536 * 65536) := by omega
  rw [e, e2]
  generalize nth l i / 65536 = q
  rw [Int.neg_mul, Int.mul_assoc q, Int.mul_comm 65536 (65536 ^ i)]
  omega
theorem val_cit {l : List Int} (hl : l.length = 16) : ∀ i, i ≤ 15 → val (cit l i) = val l
  | 0, _ => rfl
  | i + 1, h => by
    show val (cstep (cit l i) i) = val l
    rw [val_cstep (by rw [cit_len, hl]) (by omega), val_cit hl i (by omega)]
/-- what a carry of these bounds may be -/
def cmin (lo : List Int) : Nat → Int
  | 0 => 0
  | i + 1 => (nth lo i + cmin lo i) / 65536
/-- the limbs lie between these -/
def Btw (lo hi l : List Int) : Prop := ∀ j, j < 16 → nth lo j ≤ nth l j ∧ nth l j ≤ nth hi j
/-- where the carry stands at limb i -/
structure Cst (lo hi : List Int) (i : Nat) (l : List Int) : Prop where
  len : l.length = 16
  done : ∀ j, j < i → 0 ≤ nth l j ∧ nth l j ≤ 65535
  here : nth lo i + cmin lo i ≤ nth l i ∧ nth l i ≤ nth hi i + cmin hi i
  rest : ∀ j, i < j → j < 16 → nth lo j ≤ nth l j ∧ nth l j ≤ nth hi j
theorem Cst.step {lo hi l : List Int} {i : Nat} (h : i < 15) (c : Cst lo hi i l) : Cst lo hi (i + 1) (cstep l i) := by
  obtain ⟨len, done, here, rest⟩ := c
  unfold cstep
  simp only [h, if_true]
  have l1 : (l.set i (nth l i - nth l i / 65536 * 65536)).length = 16 := by simp [len]
  refine ⟨by simp [len], fun j hj => ?_, ?_, fun j hj hj2 => ?_⟩
  · rw [nth_set _ _ _ _ (by omega), if_neg (by omega), nth_set _ _ _ _ (by omega)]
    split
    next e => omega
    next e => exact done j (by omega)
  · rw [nth_set _ _ _ _ (by omega), if_pos rfl, nth_set _ _ _ _ (by omega), if_neg (by omega)]
    have r := rest (i + 1) (by omega) (by omega)
    have e1 : cmin lo (i + 1) = (nth lo i + cmin lo i) / 65536 := rfl
    have e2 : cmin hi (i + 1) = (nth hi i + cmin hi i) / 65536 := rfl
    rw [e1, e2]
    omega
  · rw [nth_set _ _ _ _ (by omega), if_neg (by omega), nth_set _ _ _ _ (by omega), if_neg (by omega)]
    exact rest j (by omega) hj2
theorem Cst.all {lo hi l : List Int} (hl : l.length = 16) (b : Btw lo hi l) : ∀ i, i ≤ 15 → Cst lo hi i (cit l i)
  | 0, _ => ⟨hl, fun j h => absurd h (by omega), by have := b 0 (by omega); show nth lo 0 + 0 ≤ nth l 0 ∧ nth l 0 ≤ nth hi 0 + 0; omega, fun j _ h => b j h⟩
  | i + 1, h => (Cst.all hl b i (by omega)).step (by omega)
/-- after it: small, but the first -/
structure Small (l0 h0 : Int) (l : List Int) : Prop where
  len : l.length = 16
  first : l0 ≤ nth l 0 ∧ nth l 0 ≤ h0
  rest : ∀ j, 0 < j → j < 16 → 0 ≤ nth l j ∧ nth l j ≤ 65535
theorem Cst.last {lo hi l : List Int} (c : Cst lo hi 15 l) : Small (38 * cmin lo 16) (65535 + 38 * cmin hi 16) (cstep l 15) := by
  obtain ⟨len, done, here, rest⟩ := c
  unfold cstep
  simp only [show ¬ (15 : Nat) < 15 by decide, if_false]
  have l1 : (l.set 15 (nth l 15 - nth l 15 / 65536 * 65536)).length = 16 := by simp [len]
  have d0 := done 0 (by omega)
  have e1 : cmin lo 16 = (nth lo 15 + cmin lo 15) / 65536 := rfl
  have e2 : cmin hi 16 = (nth hi 15 + cmin hi 15) / 65536 := rfl
  refine ⟨by simp [len], ?_, fun j hj hj2 => ?_⟩
  · rw [nth_set _ _ _ _ (by omega), if_pos rfl, nth_set _ _ _ _ (by omega), if_neg (by omega), e1, e2]
    omega
  · rw [nth_set _ _ _ _ (by omega), if_neg (by omega), nth_set _ _ _ _ (by omega)]
    split
    next e => omega
    next e => exact done j (by omega)
theorem Small.weak {a b c d : Int} {l : List Int} (h : Small a b l) (h1 : c ≤ a) (h2 : b ≤ d) : Small c d l :=
  ⟨h.len, by have := h.first; omega, h.rest⟩
end Crv
end Go.Proofs.YtbhlcnimjoppeaaDoor

/-
  Of no statement by itself: what the reference's carry gives.
  Conditions: each theorem's own.
-/
namespace Go.Proofs.YtbhlcnimjoppeaaDoor
set_option maxRecDepth 10000
open Sl Crv

theorem mixC : Tryd.prog.follows .mixedOrders = true := by kernel_rfl
/-- so small that a carry stays in 64 bits -/
def Fit (l : List Int) : Prop := ∀ j, j < 16 → -288230376151711744 ≤ nth l j ∧ nth l j ≤ 288230376151711744
def wlo : List Int := List.replicate 16 (-288230376151711744)
def whi : List Int := List.replicate 16 288230376151711744
theorem rep_nth (x : Int) (j : Nat) (h : j < 16) : nth (List.replicate 16 x) j = x := by
  unfold nth
  rw [List.getD_eq_getElem?_getD, List.getElem?_replicate, if_pos h]; rfl
theorem Fit.btw {l : List Int} (h : Fit l) : Btw wlo whi l := fun j hj => by
  rw [wlo, whi, rep_nth _ _ hj, rep_nth _ _ hj]; exact h j hj
theorem wlo_min : ∀ i, i ≤ 16 → -8796093022208 ≤ cmin wlo i ∧ cmin wlo i ≤ 0
  | 0, _ => by decide
  | i + 1, h => by
    have ih := wlo_min i (by omega)
    have e : cmin wlo (i + 1) = (nth wlo i + cmin wlo i) / 65536 := rfl
    rw [e, wlo, rep_nth _ _ (by omega), ← wlo]
    omega
theorem whi_min : ∀ i, i ≤ 16 → 0 ≤ cmin whi i ∧ cmin whi i ≤ 8796093022208
  | 0, _ => by decide
  | i + 1, h => by
    have ih := whi_min i (by omega)
    have e : cmin whi (i + 1) = (nth whi i + cmin whi i) / 65536 := rfl
    rw [e, whi, rep_nth _ _ (by omega), ← whi]
    omega
theorem Fit.here {l : List Int} (hl : l.length = 16) (h : Fit l) {i : Nat} (hi : i < 16) : -297237575406452736 ≤ nth (cit l i) i ∧ nth (cit l i) i ≤ 297237575406452736 := by
  have c := (Cst.all hl h.btw i (by omega)).here
  have a := wlo_min i (by omega)
  have b := whi_min i (by omega)
  rw [wlo, whi, rep_nth _ _ hi, rep_nth _ _ hi, ← wlo, ← whi] at c
  omega
theorem Fit.next {l : List Int} (hl : l.length = 16) (h : Fit l) {i : Nat} (hi : i < 15) : -288230376151711744 ≤ nth (cit l i) (i + 1) ∧ nth (cit l i) (i + 1) ≤ 288230376151711744 := by
  have c := (Cst.all hl h.btw i (by omega)).rest (i + 1) (by omega) (by omega)
  rw [wlo, whi, rep_nth _ _ (by omega), rep_nth _ _ (by omega)] at c
  exact c
theorem Fit.zero {l : List Int} (hl : l.length = 16) (h : Fit l) : 0 ≤ nth (cit l 15) 0 ∧ nth (cit l 15) 0 ≤ 65535 := (Cst.all hl h.btw 15 (by omega)).done 0 (by omega)
end Go.Proofs.YtbhlcnimjoppeaaDoor

/-
  Of no statement by itself: sums, differences and products of limbs modulo 2^255 - 19; no program stands here.
  Conditions: none but each lemma's own.
-/
namespace Go.Proofs.YtbhlcnimjoppeaaDoor
namespace Crv
/-! ### whole numbers modulo p -/
def fi (x : Int) : F := ⟨(x % (P : Int)).toNat, by
  have h1 : 0 ≤ x % (P : Int) := Int.emod_nonneg _ (by decide)
  have h2 : x % (P : Int) < (P : Int) := Int.emod_lt_of_pos _ (by decide)
  omega⟩
theorem fi_val (x : Int) : ((fi x).val : Int) = x % (P : Int) := Int.toNat_of_nonneg (Int.emod_nonneg _ (by decide))
theorem F_ext {a b : F} (h : (a.val : Int) = (b.val : Int)) : a = b := Fin.ext (by omega)
theorem fi_add (x y : Int) : fi (x + y) = fi x + fi y := F_ext (by
  rw [fi_val, Fin.val_add, Int.natCast_emod, Int.natCast_add, fi_val, fi_val, ← Int.add_emod])
theorem fi_mul (x y : Int) : fi (x * y) = fi x * fi y := F_ext (by
  rw [fi_val, Fin.val_mul, Int.natCast_emod, Int.natCast_mul, fi_val, fi_val, ← Int.mul_emod])
theorem fi_P (q : Int) : fi (q * P) = 0 := F_ext (by rw [fi_val, Int.mul_emod_left]; rfl)
theorem fi_off {x y q : Int} (h : x = y + q * P) : fi x = fi y := by
  rw [h, fi_add, fi_P]
  generalize fi y = a
  clear h
  grobner
theorem fi_nat (x : F) : fi (x.val : Int) = x := F_ext (by
  rw [fi_val]
  exact Int.emod_eq_of_lt (by omega) (by have := x.isLt; omega))
/-- limbs as a number modulo p -/
def fv (l : List Int) : F := fi (val l)
/-! ### sums by index -/
def ps (l : List Int) : Nat → Int
  | 0 => 0
  | k + 1 => ps l k + nth l k * 65536 ^ k
theorem ps_cons (a : Int) (l : List Int) : ∀ k, ps (a :: l) (k + 1) = a + 65536 * ps l k
  | 0 => by
    show 0 + nth (a :: l) 0 * 65536 ^ 0 = a + 65536 * 0
    rw [Int.pow_zero]
    show 0 + a * 1 = a + 65536 * 0
    omega
  | k + 1 => by
    show ps (a :: l) (k + 1) + nth (a :: l) (k + 1) * 65536 ^ (k + 1) = a + 65536 * (ps l k + nth l k * 65536 ^ k)
    rw [ps_cons a l k, Int.pow_succ, Int.mul_comm (65536 ^ k) 65536, Int.mul_add, Int.mul_left_comm]
    show a + 65536 * ps l k + 65536 * (nth l k * 65536 ^ k) = _
    rw [Int.add_assoc]
theorem ps_nil : ∀ k, ps [] k = 0
  | 0 => rfl
  | k + 1 => by show ps [] k + 0 * 65536 ^ k = 0; rw [ps_nil k, Int.zero_mul]; rfl
theorem val_ps : ∀ (l : List Int) (k : Nat), l.length ≤ k → val l = ps l k
  | [], k, _ => (ps_nil k).symm
  | a :: l, 0, h => absurd h (by simp)
  | a :: l, k + 1, h => by rw [ps_cons, ← val_ps l k (by simpa using h)]; rfl
/-! ### sums, differences -/
abbrev Good (l : List Int) : Prop := Small (-128) 65663 l
/-! ### products -/
theorem rep0_nth (n j : Nat) : nth (List.replicate n 0) j = 0 := by
  unfold nth
  rw [List.getD_eq_getElem?_getD, List.getElem?_replicate]
  split <;> rfl
/-- the upper limbs, 38 times, on the lower -/
def fold (t : List Int) : Nat → List Int
  | 0 => List.replicate 16 0
  | i + 1 => if i < 15 then ((fold t i).set i (nth t i)).set i (nth ((fold t i).set i (nth t i)) i + 38 * nth t (i + 16)) else (fold t i).set i (nth t i)
end Crv
end Go.Proofs.YtbhlcnimjoppeaaDoor

/-
  Of no statement by itself: what the reference's Add, Less and Times give.
  Conditions: each theorem's own.
-/
namespace Go.Proofs.YtbhlcnimjoppeaaDoor
set_option maxRecDepth 10000
open Sl Crv

end Go.Proofs.YtbhlcnimjoppeaaDoor

/-
  Of no statement by itself: what the reference's Times gives.
  Conditions: each theorem's own.
-/
namespace Go.Proofs.YtbhlcnimjoppeaaDoor
set_option maxRecDepth 10000
open Sl Crv

end Go.Proofs.YtbhlcnimjoppeaaDoor

/-
  Of no statement by itself: bytes as limbs, and one by a number as a power; no program stands here.
  Conditions: none but each lemma's own.
-/
namespace Go.Proofs.YtbhlcnimjoppeaaDoor
namespace Crv
abbrev By := BitVec 8
/-- bytes as a number, that of the least weight first -/
def le : List By → Nat
  | [] => 0
  | b :: l => b.toNat + 256 * le l
def top : Nat := 32768 * 65536 ^ 15
/-- a point's bytes as a number modulo p -/
def pt (u : List By) : F := fi ((le u % top : Nat) : Int)
/-! ### one by a number -/
end Crv
end Go.Proofs.YtbhlcnimjoppeaaDoor

/-
  Of no statement by itself: what the reference's Read and Inverse give.
  Conditions: each theorem's own.
-/
namespace Go.Proofs.YtbhlcnimjoppeaaDoor
set_option maxRecDepth 10000
open Sl Crv

theorem k32s : szT Tryd.prog 23 = some 32 := by kernel_rfl
theorem k32a : aggT Tryd.prog 23 = true := by kernel_rfl
theorem y1s : szT Tryd.prog 5 = some 1 := by kernel_rfl
theorem y1c : scal Tryd.prog 5 = true := by kernel_rfl
theorem U8_nth {l : List By} {i : Nat} (h : i < l.length) : (l.map U8)[i]? = some (U8 (l.getD i 0)) := by
  simp [h]
section
variable {P : Program} {n : Nat} {E : Env} {C : World → Prop} {dst : Option Tmp} {ty t t' : TypeId} {pos : String} {aft : Array Edge} {g : Option (Nat × Bool)} {x y : Operand}
end

end Go.Proofs.YtbhlcnimjoppeaaDoor

/-
  Of no statement by itself: limbs made small, less than p, and as bytes; no program stands here.
  Conditions: none but each lemma's own.
-/
namespace Go.Proofs.YtbhlcnimjoppeaaDoor
namespace Crv
/-- each limb has its sixteen bits -/
structure Norm (l : List Int) : Prop where
  len : l.length = 16
  all : ∀ j, j < 16 → 0 ≤ nth l j ∧ nth l j ≤ 65535
theorem Norm.good {l : List Int} (h : Norm l) : Good l := ⟨h.len, by have := h.all 0 (by omega); omega, fun j _ hj => h.all j hj⟩
theorem set_same (l : List Int) (i : Nat) (h : i < l.length) : l.set i (nth l i) = l := by
  unfold nth
  rw [List.getD_eq_getElem?_getD, List.getElem?_eq_getElem h]
  exact List.set_getElem_self h
theorem Norm.cstep {l : List Int} (h : Norm l) {i : Nat} (hi : i < 16) : Crv.cstep l i = l := by
  have a := h.all i hi
  have q : nth l i / 65536 = 0 := by omega
  have e : l.set i (nth l i - nth l i / 65536 * 65536) = l := by
    rw [q, Int.zero_mul, Int.sub_zero, set_same _ _ (by rw [h.len]; omega)]
  unfold Crv.cstep
  simp only
  rw [e, q, Int.mul_zero, Int.add_zero, Int.add_zero]
  split
  · exact set_same _ _ (by rw [h.len]; omega)
  · exact set_same _ _ (by rw [h.len]; omega)
theorem Norm.cit {l : List Int} (h : Norm l) : ∀ i, i ≤ 16 → Crv.cit l i = l
  | 0, _ => rfl
  | i + 1, hi => by
    show Crv.cstep (Crv.cit l i) i = l
    rw [h.cit i (by omega), h.cstep (by omega)]
theorem Norm.car {l : List Int} (h : Norm l) : Crv.car l = l := h.cit 16 (by omega)
/-! ### bounds of sums -/
theorem ps_bd (l : List Int) : ∀ k, (∀ j, j < k → 0 ≤ nth l j ∧ nth l j ≤ 65535) → 0 ≤ ps l k ∧ ps l k ≤ 65536 ^ k - 1
  | 0, _ => by show (0 : Int) ≤ 0 ∧ (0 : Int) ≤ 65536 ^ 0 - 1; rw [Int.pow_zero]; omega
  | k + 1, h => by
    have ih := ps_bd l k fun j hj => h j (by omega)
    have a := h k (by omega)
    have m : (0 : Int) < 65536 ^ k := Int.pow_pos (by decide)
    show 0 ≤ ps l k + nth l k * 65536 ^ k ∧ ps l k + nth l k * 65536 ^ k ≤ 65536 ^ (k + 1) - 1
    rw [Int.pow_succ]
    generalize (65536 : Int) ^ k = M at *
    have p0 := Int.mul_nonneg a.1 (Int.le_of_lt m)
    have p1 := Int.mul_le_mul_of_nonneg_right a.2 (Int.le_of_lt m)
    omega
/-! ### p taken off -/
def ptop (i : Nat) : Int := if i = 15 then 32767 else 65535
/-- p's limbs -/
def pl (i : Nat) : Int := if i = 0 then 65517 else ptop i
def sb (a : List Int) : Nat → List Int
  | 0 => (List.replicate 16 0).set 0 (nth a 0 - 65517)
  | k + 1 => ((sb a k).set (k + 1) (nth a (k + 1) - ptop (k + 1) - nth (sb a k) k / 65536 % 2)).set k (nth ((sb a k).set (k + 1) (nth a (k + 1) - ptop (k + 1) - nth (sb a k) k / 65536 % 2)) k % 65536)
structure Sst (a : List Int) (k : Nat) (m : List Int) : Prop where
  len : m.length = 16
  done : ∀ j, j < k → 0 ≤ nth m j ∧ nth m j ≤ 65535
  here : -65536 ≤ nth m k ∧ nth m k ≤ 65535
  zero : ∀ j, k < j → nth m j = 0
  sum : val m = ps a (k + 1) - ps ((List.range 16).map pl) (k + 1)
theorem pl_nth (j : Nat) (h : j < 16) : nth ((List.range 16).map pl) j = pl j := by
  unfold nth
  rw [List.getD_eq_getElem?_getD, List.getElem?_map, List.getElem?_range h]; rfl
theorem Sst.all {a : List Int} (h : Norm a) : ∀ k, k ≤ 15 → Sst a k (sb a k)
  | 0, _ => by
    have a0 := h.all 0 (by omega)
    refine ⟨rfl, fun j hj => absurd hj (by omega), ?_, fun j hj => ?_, ?_⟩
    · show -65536 ≤ nth a 0 - 65517 ∧ nth a 0 - 65517 ≤ 65535
      omega
    · rw [sb, nth_set _ _ _ _ (by simp), if_neg (by omega), rep0_nth]
    · rw [sb, val_set _ _ _ (by simp), rep0_nth, show val (List.replicate 16 0) = 0 by decide]
      show 0 + (nth a 0 - 65517 - 0) * 65536 ^ 0 = 0 + nth a 0 * 65536 ^ 0 - (0 + nth ((List.range 16).map pl) 0 * 65536 ^ 0)
      rw [pl_nth 0 (by omega), Int.pow_zero, show pl 0 = 65517 from rfl]
      omega
  | k + 1, hk => by
    have c := Sst.all h k (by omega)
    obtain ⟨len, done, here, zero, sum⟩ := c
    have ak := h.all (k + 1) (by omega)
    have tp : 32767 ≤ ptop (k + 1) ∧ ptop (k + 1) ≤ 65535 := by unfold ptop; split <;> omega
    have z1 := zero (k + 1) (by omega)
    rw [sb]
    have n1 : nth ((sb a k).set (k + 1) (nth a (k + 1) - ptop (k + 1) - nth (sb a k) k / 65536 % 2)) k = nth (sb a k) k := by rw [nth_set _ _ _ _ (by omega), if_neg (by omega)]
    have l1 : ((sb a k).set (k + 1) (nth a (k + 1) - ptop (k + 1) - nth (sb a k) k / 65536 % 2)).length = 16 := by rw [List.length_set]; exact len
    rw [n1]
    refine ⟨by rw [List.length_set]; exact l1, fun j hj => ?_, ?_, fun j hj => ?_, ?_⟩
    · rw [nth_set _ _ _ _ (by omega), nth_set _ _ _ _ (by omega)]
      split
      · omega
      · rw [if_neg (by omega)]; exact done j (by omega)
    · rw [nth_set _ _ _ _ (by omega), if_neg (by omega), nth_set _ _ _ _ (by omega), if_pos rfl]
      omega
    · rw [nth_set _ _ _ _ (by omega), if_neg (by omega), nth_set _ _ _ _ (by omega), if_neg (by omega)]
      exact zero j (by omega)
    · rw [val_set _ _ _ (by omega), val_set _ _ _ (by omega), sum, z1, n1]
      show _ = ps a (k + 1) + nth a (k + 1) * 65536 ^ (k + 1) - (ps ((List.range 16).map pl) (k + 1) + nth ((List.range 16).map pl) (k + 1) * 65536 ^ (k + 1))
      rw [pl_nth (k + 1) (by omega), show pl (k + 1) = ptop (k + 1) by unfold pl; rw [if_neg (by omega)]]
      have b : nth (sb a k) k % 65536 - nth (sb a k) k = (nth (sb a k) k / 65536 % 2) * 65536 := by omega
      rw [b]
      generalize nth (sb a k) k / 65536 % 2 = q
      generalize nth a (k + 1) = x
      generalize ptop (k + 1) = y
      rw [Int.pow_succ, Int.sub_zero, Int.mul_assoc q, Int.mul_comm 65536 (65536 ^ k), Int.sub_mul, Int.sub_mul]
      omega
/-- p once off, if that leaves something -/
def off (a : List Int) : List Int := if 0 ≤ nth (sb a 15) 15 then sb a 15 else a
theorem Norm.val {a : List Int} (h : Norm a) : 0 ≤ Crv.val a ∧ Crv.val a ≤ 65536 ^ 16 - 1 := by
  rw [val_ps a 16 (by rw [h.len]; omega)]
  exact ps_bd a 16 fun j hj => h.all j hj
/-! ### as bytes -/
def keyB : Nat → Nat → List By
  | 0, _ => []
  | k + 1, n => BitVec.ofNat 8 n :: keyB k (n / 256)
theorem keyB_len : ∀ k n, (keyB k n).length = k
  | 0, _ => rfl
  | k + 1, n => by rw [keyB, List.length_cons, keyB_len k]
theorem keyB_le : ∀ b : List By, keyB b.length (le b) = b
  | [] => rfl
  | x :: b => by
    have h := x.isLt
    show BitVec.ofNat 8 (x.toNat + 256 * le b) :: keyB b.length ((x.toNat + 256 * le b) / 256) = x :: b
    have e1 : (x.toNat + 256 * le b) / 256 = le b := by omega
    have e2 : BitVec.ofNat 8 (x.toNat + 256 * le b) = x := by
      apply BitVec.eq_of_toNat_eq
      rw [BitVec.toNat_ofNat]
      omega
    rw [e1, e2, keyB_le b]
theorem le_keyB : ∀ k n, le (keyB k n) = n % 256 ^ k
  | 0, n => by rw [Nat.pow_zero, Nat.mod_one]; rfl
  | k + 1, n => by
    show (BitVec.ofNat 8 n).toNat + 256 * le (keyB k (n / 256)) = n % 256 ^ (k + 1)
    rw [le_keyB k, BitVec.toNat_ofNat]
    show n % 256 + 256 * (n / 256 % 256 ^ k) = n % 256 ^ (k + 1)
    rw [Nat.pow_succ, Nat.mul_comm (256 ^ k), Nat.mod_mul]
/-- limbs as bytes -/
def lb : List Int → List By
  | [] => []
  | x :: l => BitVec.ofInt 8 x :: BitVec.ofInt 8 (x / 256) :: lb l
/-- a number modulo p as a key -/
def keyF (x : F) : List By := keyB 32 x.val
end Crv
end Go.Proofs.YtbhlcnimjoppeaaDoor

/-
  Of no statement by itself: what the reference's Write gives.
  Conditions: each theorem's own.
-/
namespace Go.Proofs.YtbhlcnimjoppeaaDoor
set_option maxRecDepth 10000
open Sl Crv

theorem k32z : zc Tryd.prog 23 = some ((List.replicate 32 (0 : By)).map U8) := by kernel_rfl
theorem Y_cell (l : List By) : (l.map U8).all Value.oneCell' = true := by simp [Value.oneCell']
theorem Y_set (l : List By) (i : Nat) (x : By) : (l.map U8).set i (U8 x) = (l.set i x).map U8 := by rw [List.map_set]
section
variable {P : Program} {n : Nat} {E : Env} {C : World → Prop} {dst : Option Tmp} {ty t t' : TypeId} {pos : String} {aft : Array Edge} {g : Option (Nat × Bool)} {x y : Operand}
end
end Go.Proofs.YtbhlcnimjoppeaaDoor

/-
  Of no statement by itself: Mult as bytes, over the ladder modulo p; the ladder over limbs; no program stands here.
  Conditions: none but each lemma's own.
-/
namespace Go.Proofs.YtbhlcnimjoppeaaDoor
namespace Crv
/-! ### keys -/
theorem pt_keyF (x : F) : pt (keyF x) = x := by
  have h := x.isLt
  have e : le (keyF x) % top = x.val := by
    rw [keyF, le_keyB]
    have e1 : x.val % 256 ^ 32 = x.val := Nat.mod_eq_of_lt (Nat.lt_trans h (by decide))
    rw [e1]
    exact Nat.mod_eq_of_lt (Nat.lt_trans h (by decide))
  unfold pt
  rw [e, fi_nat]
theorem keyF_len (x : F) : (keyF x).length = 32 := keyB_len 32 _
/-- a number's fixed bits -/
def clampB (k : List By) : List By := (k.set 0 (k.getD 0 0 / 8 * 8)).set 31 ((k.set 0 (k.getD 0 0 / 8 * 8)).getD 31 0 % 64 + 64)
theorem clampB_len (k : List By) : (clampB k).length = k.length := by rw [clampB, List.length_set, List.length_set]
theorem le_even : ∀ b : List By, le b % 2 = (b.getD 0 0).toNat % 2
  | [] => rfl
  | x :: b => by
    show (x.toNat + 256 * le b) % 2 = x.toNat % 2
    omega
theorem le_lt : ∀ b : List By, le b < 256 ^ b.length
  | [] => by show 0 < 256 ^ 0; decide
  | x :: b => by
    have ih := le_lt b
    have h := x.isLt
    show x.toNat + 256 * le b < 256 ^ (b.length + 1)
    rw [Nat.pow_succ]
    omega
theorem le_append : ∀ a b : List By, le (a ++ b) = le a + 256 ^ a.length * le b
  | [], b => by show le b = 0 + 256 ^ 0 * le b; rw [Nat.pow_zero]; omega
  | x :: a, b => by
    show x.toNat + 256 * le (a ++ b) = x.toNat + 256 * le a + 256 ^ (a.length + 1) * le b
    rw [le_append a b, Nat.pow_succ, Nat.mul_add, Nat.mul_comm (256 ^ a.length) 256, Nat.mul_assoc, Nat.add_assoc]
theorem low8 : ∀ x : By, (x / 8 * 8).toNat % 2 = 0 := by decide +kernel
theorem high8 : ∀ x : By, (x % 64 + 64).toNat < 128 := by decide +kernel
theorem clampB_even (k : List By) (h : k.length = 32) : le (clampB k) % 2 = 0 := by
  rw [le_even, clampB]
  simp only [List.getD_eq_getElem?_getD, List.getElem?_set, List.length_set, h]
  simp only [show ¬ (31 : Nat) = 0 by decide, if_false, if_true, show (0 : Nat) < 32 by decide, Option.getD_some]
  exact low8 _
theorem clampB_lt (k : List By) (h : k.length = 32) : le (clampB k) < 2 ^ 255 := by
  have l := clampB_len k
  have e : clampB k = (clampB k).take 31 ++ [(clampB k).getD 31 0] := by
    have d : (clampB k).drop 31 = [(clampB k).getD 31 0] := by
      rw [List.drop_eq_getElem_cons (by omega), List.drop_eq_nil_of_le (by omega), List.getD_eq_getElem?_getD, List.getElem?_eq_getElem (by omega)]
      rfl
    rw [← d, List.take_append_drop]
  have top : ((clampB k).getD 31 0).toNat < 128 := by
    rw [clampB]
    generalize k.set 0 (k.getD 0 0 / 8 * 8) = m at *
    by_cases hm : 31 < m.length
    · rw [List.getD_eq_getElem?_getD, List.getElem?_set, if_pos rfl, if_pos hm]
      exact high8 _
    · rw [List.getD_eq_getElem?_getD, List.getElem?_eq_none (by rw [List.length_set]; omega)]
      decide
  have lt := le_lt ((clampB k).take 31)
  have l31 : ((clampB k).take 31).length = 31 := by rw [List.length_take]; omega
  rw [e, le_append, l31]
  rw [l31] at lt
  generalize (clampB k).getD 31 0 = x at *
  generalize le ((clampB k).take 31) = y at *
  have p : (2 : Nat) ^ 255 = 256 ^ 31 * 128 := by decide
  have s : le [x] = x.toNat := by show x.toNat + 256 * 0 = x.toNat; omega
  rw [p, s]
  have m := Nat.mul_le_mul_left (256 ^ 31) (show x.toNat ≤ 127 by omega)
  generalize (256 : Nat) ^ 31 = M at *
  generalize M * x.toNat = z at *
  omega
/-- a point so many times -/
def multB (k u : List By) : List By := keyF (mulF (le (clampB k)) (pt u))
theorem multB_comm (a b u : List By) (ha : a.length = 32) (hb : b.length = 32) : multB a (multB b u) = multB b (multB a u) := by
  unfold multB
  rw [pt_keyF, pt_keyF, mul_comm2 _ (clampB_lt a ha) (clampB_lt b hb) (clampB_even a ha) (clampB_even b hb)]
theorem le_bit : ∀ (b : List By) (i : Nat), (le b).testBit i = (b.getD (i / 8) 0).toNat.testBit (i % 8)
  | [], i => by
    rw [show le [] = 0 from rfl, Nat.zero_testBit]
    show false = (0 : By).toNat.testBit (i % 8)
    rw [show (0 : By).toNat = 0 from rfl, Nat.zero_testBit]
  | x :: b, i => by
    have ih := le_bit b
    have h := x.isLt
    have e : le (x :: b) = 2 ^ 8 * le b + x.toNat := by show x.toNat + 256 * le b = 256 * le b + x.toNat; omega
    rw [e, Nat.testBit_two_pow_mul_add _ h]
    by_cases hi : i < 8
    · rw [if_pos hi, Nat.div_eq_of_lt hi, Nat.mod_eq_of_lt hi]
      rfl
    · rw [if_neg hi, ih, show i / 8 = (i - 8) / 8 + 1 by omega, show i % 8 = (i - 8) % 8 by omega]
      rfl
/-! ### the ladder over limbs -/
structure N4 where
  x2 : List Int
  z2 : List Int
  x3 : List Int
  z3 : List Int
def N4.f (s : N4) : L4 := ⟨fv s.x2, fv s.z2, fv s.x3, fv s.z3⟩
structure N4.ok (s : N4) : Prop where
  x2 : Good s.x2
  z2 : Good s.z2
  x3 : Good s.x3
  z3 : Good s.z3
end Crv
end Go.Proofs.YtbhlcnimjoppeaaDoor

/-
  Of no statement by itself: what the reference's Mult gives.
  Conditions: each theorem's own.
-/
namespace Go.Proofs.YtbhlcnimjoppeaaDoor
set_option maxRecDepth 10000
open Sl Crv

end Go.Proofs.YtbhlcnimjoppeaaDoor

/-
  Of no statement by itself: five limbs of 51 bits modulo 2^255 - 19: carries, sums, differences, products of 128 bits; no program stands here.
  Conditions: none but each lemma's own.
-/
namespace Go.Proofs.YtbhlcnimjoppeaaDoor
namespace Crv
abbrev W64 := BitVec 64
structure N5 where
  a0 : W64
  a1 : W64
  a2 : W64
  a3 : W64
  a4 : W64
@[reducible] def N5.l (n : N5) : List W64 := [n.a0, n.a1, n.a2, n.a3, n.a4]
def val5 (n : N5) : Nat := n.a0.toNat + 2251799813685248 * (n.a1.toNat + 2251799813685248 * (n.a2.toNat + 2251799813685248 * (n.a3.toNat + 2251799813685248 * n.a4.toNat)))
structure Good5 (n : N5) : Prop where
  a0 : n.a0.toNat < 2251799813947392
  a1 : n.a1.toNat < 2251799813947392
  a2 : n.a2.toNat < 2251799813947392
  a3 : n.a3.toNat < 2251799813947392
  a4 : n.a4.toNat < 2251799813947392
/-! ### natural numbers modulo p -/
theorem P_is : P = 57896044618658097711785492504343953926634992332820282019728792003956564819949 := rfl
def fn (x : Nat) : F := fi (x : Int)
theorem fn_add (x y : Nat) : fn (x + y) = fn x + fn y := by
  unfold fn
  rw [Int.natCast_add, fi_add]
theorem fn_mul (x y : Nat) : fn (x * y) = fn x * fn y := by
  unfold fn
  rw [Int.natCast_mul, fi_mul]
theorem fn_off {x y q : Nat} (h : x + q * P = y) : fn x = fn y := by
  unfold fn
  refine (fi_off (q := (q : Int)) ?_).symm
  rw [← h, Int.natCast_add, Int.natCast_mul]
theorem fn_lt {x : Nat} (h : x < P) : (fn x).val = x := by
  have := fi_val (x : Int)
  rw [Int.emod_eq_of_lt (by omega) (by omega)] at this
  unfold fn
  omega
def fv5 (n : N5) : F := fn (val5 n)
def rr : F := 2251799813685248
theorem rr5 : rr * rr * rr * rr * rr = 19 := by decide +kernel
theorem fn_rr : fn 2251799813685248 = rr := by decide +kernel
theorem fn_19 : fn 19 = 19 := by decide +kernel
theorem fv5_is (n : N5) : fv5 n = fn n.a0.toNat + rr * (fn n.a1.toNat + rr * (fn n.a2.toNat + rr * (fn n.a3.toNat + rr * fn n.a4.toNat))) := by
  unfold fv5 val5
  rw [fn_add, fn_mul, fn_add, fn_mul, fn_add, fn_mul, fn_add, fn_mul, fn_rr]
/-! ### words -/
theorem toNat_mask (x : W64) : (x &&& 2251799813685247#64).toNat = x.toNat % 2251799813685248 := by
  rw [BitVec.toNat_and, show (2251799813685247#64).toNat = 2 ^ 51 - 1 from rfl, Nat.and_two_pow_sub_one_eq_mod]
theorem toNat_shr (x : W64) (k : Nat) : (x >>> k).toNat = x.toNat / 2 ^ k := by rw [BitVec.toNat_ushiftRight, Nat.shiftRight_eq_div_pow]
theorem toNat_shr51 (x : W64) : (x >>> 51).toNat = x.toNat / 2251799813685248 := toNat_shr x 51
theorem toNat_add {x y : W64} (h : x.toNat + y.toNat < 18446744073709551616) : (x + y).toNat = x.toNat + y.toNat := by
  rw [BitVec.toNat_add]
  exact Nat.mod_eq_of_lt h
theorem toNat_mul19 {y : W64} (h : 19 * y.toNat < 18446744073709551616) : (19#64 * y).toNat = 19 * y.toNat := by
  rw [BitVec.toNat_mul]
  exact Nat.mod_eq_of_lt h
/-! ### carries -/
def carB (n : N5) : N5 :=
  ⟨(n.a0 &&& 2251799813685247#64) + 19#64 * (n.a4 >>> 51), (n.a1 &&& 2251799813685247#64) + n.a0 >>> 51, (n.a2 &&& 2251799813685247#64) + n.a1 >>> 51,
   (n.a3 &&& 2251799813685247#64) + n.a2 >>> 51, (n.a4 &&& 2251799813685247#64) + n.a3 >>> 51⟩
structure CarS (n m : N5) : Prop where
  a0 : m.a0.toNat = n.a0.toNat % 2251799813685248 + 19 * (n.a4.toNat / 2251799813685248)
  a1 : m.a1.toNat = n.a1.toNat % 2251799813685248 + n.a0.toNat / 2251799813685248
  a2 : m.a2.toNat = n.a2.toNat % 2251799813685248 + n.a1.toNat / 2251799813685248
  a3 : m.a3.toNat = n.a3.toNat % 2251799813685248 + n.a2.toNat / 2251799813685248
  a4 : m.a4.toNat = n.a4.toNat % 2251799813685248 + n.a3.toNat / 2251799813685248
theorem carB_is (n : N5) : CarS n (carB n) := by
  have h0 := n.a0.isLt
  have h1 := n.a1.isLt
  have h2 := n.a2.isLt
  have h3 := n.a3.isLt
  have h4 := n.a4.isLt
  have m0 := toNat_mask n.a0
  have m1 := toNat_mask n.a1
  have m2 := toNat_mask n.a2
  have m3 := toNat_mask n.a3
  have m4 := toNat_mask n.a4
  have s0 := toNat_shr51 n.a0
  have s1 := toNat_shr51 n.a1
  have s2 := toNat_shr51 n.a2
  have s3 := toNat_shr51 n.a3
  have s4 := toNat_shr51 n.a4
  have f := toNat_mul19 (y := n.a4 >>> 51) (by omega)
  exact ⟨(toNat_add (by omega)).trans (by omega), (toNat_add (by omega)).trans (by omega), (toNat_add (by omega)).trans (by omega), (toNat_add (by omega)).trans (by omega), (toNat_add (by omega)).trans (by omega)⟩
theorem carB_good (n : N5) : Good5 (carB n) := by
  have c := carB_is n
  have h0 := n.a0.isLt
  have h1 := n.a1.isLt
  have h2 := n.a2.isLt
  have h3 := n.a3.isLt
  have h4 := n.a4.isLt
  exact ⟨by rw [c.a0]; omega, by rw [c.a1]; omega, by rw [c.a2]; omega, by rw [c.a3]; omega, by rw [c.a4]; omega⟩
theorem carB_val (n : N5) : val5 (carB n) + n.a4.toNat / 2251799813685248 * P = val5 n := by
  have c := carB_is n
  unfold val5
  rw [c.a0, c.a1, c.a2, c.a3, c.a4, P_is]
  omega
theorem carB_fv (n : N5) : fv5 (carB n) = fv5 n := fn_off (carB_val n)
/-! ### sums and differences -/
def sumB (a b : N5) : N5 := carB ⟨a.a0 + b.a0, a.a1 + b.a1, a.a2 + b.a2, a.a3 + b.a3, a.a4 + b.a4⟩
def difB (a b : N5) : N5 := carB ⟨a.a0 + 4503599627370458#64 - b.a0, a.a1 + 4503599627370494#64 - b.a1, a.a2 + 4503599627370494#64 - b.a2, a.a3 + 4503599627370494#64 - b.a3, a.a4 + 4503599627370494#64 - b.a4⟩
theorem sumB_good (a b : N5) : Good5 (sumB a b) := carB_good _
theorem difB_good (a b : N5) : Good5 (difB a b) := carB_good _
theorem sumB_fv {a b : N5} (ha : Good5 a) (hb : Good5 b) : fv5 (sumB a b) = fv5 a + fv5 b := by
  obtain ⟨p0, p1, p2, p3, p4⟩ := ha
  obtain ⟨q0, q1, q2, q3, q4⟩ := hb
  have e0 := toNat_add (x := a.a0) (y := b.a0) (by omega)
  have e1 := toNat_add (x := a.a1) (y := b.a1) (by omega)
  have e2 := toNat_add (x := a.a2) (y := b.a2) (by omega)
  have e3 := toNat_add (x := a.a3) (y := b.a3) (by omega)
  have e4 := toNat_add (x := a.a4) (y := b.a4) (by omega)
  unfold sumB
  rw [carB_fv]
  unfold fv5
  rw [← fn_add]
  congr 1
  unfold val5
  rw [e0, e1, e2, e3, e4]
  omega
theorem toNat_less {x y : W64} {c : Nat} (h : x.toNat + c < 18446744073709551616) (hy : y.toNat ≤ c) : (x + BitVec.ofNat 64 c - y).toNat + y.toNat = x.toNat + c := by
  rw [BitVec.toNat_sub, BitVec.toNat_add, BitVec.toNat_ofNat]
  have := y.isLt
  omega
theorem difB_fv {a b : N5} (ha : Good5 a) (hb : Good5 b) : fv5 (difB a b) = fv5 a - fv5 b := by
  obtain ⟨p0, p1, p2, p3, p4⟩ := ha
  obtain ⟨q0, q1, q2, q3, q4⟩ := hb
  have e0 := toNat_less (x := a.a0) (y := b.a0) (c := 4503599627370458) (by omega) (by omega)
  have e1 := toNat_less (x := a.a1) (y := b.a1) (c := 4503599627370494) (by omega) (by omega)
  have e2 := toNat_less (x := a.a2) (y := b.a2) (c := 4503599627370494) (by omega) (by omega)
  have e3 := toNat_less (x := a.a3) (y := b.a3) (c := 4503599627370494) (by omega) (by omega)
  have e4 := toNat_less (x := a.a4) (y := b.a4) (c := 4503599627370494) (by omega) (by omega)
  unfold difB
  rw [carB_fv]
  have k : fn (val5 ⟨a.a0 + 4503599627370458#64 - b.a0, a.a1 + 4503599627370494#64 - b.a1, a.a2 + 4503599627370494#64 - b.a2, a.a3 + 4503599627370494#64 - b.a3, a.a4 + 4503599627370494#64 - b.a4⟩ + val5 b) = fn (val5 a) := by
    refine (fn_off (q := 2) ?_).symm
    unfold val5
    simp only
    rw [P_is]
    omega
  rw [fn_add] at k
  unfold fv5
  rw [← k]
  generalize fn (val5 b) = y
  generalize fn (val5 _) = x
  clear k
  grobner
/-! ### products of 128 bits -/
structure W2 where
  hi : W64
  lo : W64
@[reducible] def W2.l (w : W2) : List W64 := [w.hi, w.lo]
def W2.v (w : W2) : Nat := w.hi.toNat * 18446744073709551616 + w.lo.toNat
def mulHi (a b : W64) : W64 := BitVec.ofNat 64 (a.toNat * b.toNat / 18446744073709551616)
def cry (a b : W64) : W64 := BitVec.ofNat 64 ((a.toNat + b.toNat) / 18446744073709551616)
def tms (a b : W64) : W2 := ⟨mulHi a b, a * b⟩
def pls (w : W2) (a b : W64) : W2 := ⟨w.hi + mulHi a b + cry w.lo (a * b), w.lo + a * b⟩
def rst (w : W2) : W64 := w.hi <<< 13 ||| w.lo >>> 51
theorem mulHi_is (a b : W64) : (mulHi a b).toNat = a.toNat * b.toNat / 18446744073709551616 := by
  unfold mulHi
  rw [BitVec.toNat_ofNat]
  apply Nat.mod_eq_of_lt
  have h := Nat.mul_lt_mul'' a.isLt b.isLt
  omega
theorem cry_is (a b : W64) : (cry a b).toNat = (a.toNat + b.toNat) / 18446744073709551616 := by
  unfold cry
  rw [BitVec.toNat_ofNat]
  have := a.isLt
  have := b.isLt
  omega
theorem tms_v (a b : W64) : (tms a b).v = a.toNat * b.toNat := by
  unfold tms W2.v
  simp only
  rw [mulHi_is, BitVec.toNat_mul]
  omega
theorem pls_v {w : W2} {a b : W64} (h : w.v + a.toNat * b.toNat < 340282366920938463463374607431768211456) : (pls w a b).v = w.v + a.toNat * b.toNat := by
  unfold pls W2.v at *
  simp only at *
  rw [BitVec.toNat_add, BitVec.toNat_add, BitVec.toNat_add, cry_is, mulHi_is, BitVec.toNat_mul]
  generalize a.toNat * b.toNat = p at *
  have := w.lo.isLt
  have := w.hi.isLt
  omega
theorem or_add (x y : W64) {k : Nat} (hk : k ≤ 64) (hx : x.toNat < 2 ^ k) : (y <<< k ||| x).toNat = y.toNat * 2 ^ k % 2 ^ 64 + x.toNat := by
  have e : (y.toNat * 2 ^ k % 2 ^ 64) = (y.toNat % 2 ^ (64 - k)) <<< k := by
    rw [Nat.shiftLeft_eq, ← Nat.mul_mod_mul_right, ← Nat.pow_add, Nat.sub_add_cancel hk]
  rw [BitVec.toNat_or, BitVec.toNat_shiftLeft, Nat.shiftLeft_eq, e, ← Nat.shiftLeft_add_eq_or_of_lt hx]
theorem rst_is {w : W2} (h : w.v < 41538374868278621028243970633760768) : (rst w).toNat = w.v / 2251799813685248 := by
  unfold rst
  have hs := toNat_shr51 w.lo
  have l := w.lo.isLt
  rw [or_add _ _ (k := 13) (by omega) (by omega), hs]
  unfold W2.v at *
  omega
def nrw (w0 w1 w2 w3 w4 : W2) : N5 :=
  carB ⟨(w0.lo &&& 2251799813685247#64) + 19#64 * rst w4, (w1.lo &&& 2251799813685247#64) + rst w0, (w2.lo &&& 2251799813685247#64) + rst w1, (w3.lo &&& 2251799813685247#64) + rst w2, (w4.lo &&& 2251799813685247#64) + rst w3⟩
def prdB (a b : N5) : N5 :=
  let f1 := 19#64 * b.a1
  let f2 := 19#64 * b.a2
  let f3 := 19#64 * b.a3
  let f4 := 19#64 * b.a4
  nrw (pls (pls (pls (pls (tms a.a0 b.a0) a.a1 f4) a.a2 f3) a.a3 f2) a.a4 f1)
    (pls (pls (pls (pls (tms a.a0 b.a1) a.a1 b.a0) a.a2 f4) a.a3 f3) a.a4 f2)
    (pls (pls (pls (pls (tms a.a0 b.a2) a.a1 b.a1) a.a2 b.a0) a.a3 f4) a.a4 f3)
    (pls (pls (pls (pls (tms a.a0 b.a3) a.a1 b.a2) a.a2 b.a1) a.a3 b.a0) a.a4 f4)
    (pls (pls (pls (pls (tms a.a0 b.a4) a.a1 b.a3) a.a2 b.a2) a.a3 b.a1) a.a4 b.a0)
theorem prdB_good (a b : N5) : Good5 (prdB a b) := carB_good _
theorem nrw_fv {w0 w1 w2 w3 w4 : W2} (h0 : w0.v < 5192296858534827628530496329220096) (h1 : w1.v < 5192296858534827628530496329220096) (h2 : w2.v < 5192296858534827628530496329220096) (h3 : w3.v < 5192296858534827628530496329220096) (h4 : w4.v < 324518553658426726783156020576256) :
    fv5 (nrw w0 w1 w2 w3 w4) = fn w0.v + rr * (fn w1.v + rr * (fn w2.v + rr * (fn w3.v + rr * fn w4.v))) := by
  have r0 := rst_is (w := w0) (by omega)
  have r1 := rst_is (w := w1) (by omega)
  have r2 := rst_is (w := w2) (by omega)
  have r3 := rst_is (w := w3) (by omega)
  have r4 := rst_is (w := w4) (by omega)
  have lo : ∀ w : W2, w.lo.toNat % 2251799813685248 = w.v % 2251799813685248 := fun w => by
    unfold W2.v
    omega
  have m0 := (toNat_mask w0.lo).trans (lo w0)
  have m1 := (toNat_mask w1.lo).trans (lo w1)
  have m2 := (toNat_mask w2.lo).trans (lo w2)
  have m3 := (toNat_mask w3.lo).trans (lo w3)
  have m4 := (toNat_mask w4.lo).trans (lo w4)
  clear lo
  have f := toNat_mul19 (y := rst w4) (by omega)
  have e0 := toNat_add (x := w0.lo &&& 2251799813685247#64) (y := 19#64 * rst w4) (by omega)
  have e1 := toNat_add (x := w1.lo &&& 2251799813685247#64) (y := rst w0) (by omega)
  have e2 := toNat_add (x := w2.lo &&& 2251799813685247#64) (y := rst w1) (by omega)
  have e3 := toNat_add (x := w3.lo &&& 2251799813685247#64) (y := rst w2) (by omega)
  have e4 := toNat_add (x := w4.lo &&& 2251799813685247#64) (y := rst w3) (by omega)
  unfold nrw
  rw [carB_fv, ← fn_rr, ← fn_mul, ← fn_add, ← fn_mul, ← fn_add, ← fn_mul, ← fn_add, ← fn_mul, ← fn_add]
  refine fn_off (q := w4.v / 2251799813685248) ?_
  unfold val5
  simp only
  rw [e0, e1, e2, e3, e4, f, m0, m1, m2, m3, m4, r0, r1, r2, r3, r4, P_is]
  clear e0 e1 e2 e3 e4 f m0 m1 m2 m3 m4 r0 r1 r2 r3 r4
  generalize w0.v = v0 at *
  generalize w1.v = v1 at *
  generalize w2.v = v2 at *
  generalize w3.v = v3 at *
  generalize w4.v = v4 at *
  omega
theorem bdm {x y : Nat} {c d : Nat} (hx : x < c) (hy : y < d) : x * y ≤ c * d := Nat.mul_le_mul (Nat.le_of_lt hx) (Nat.le_of_lt hy)
/-- five products, one behind the other -/
theorem five {a0 a1 a2 a3 a4 b0 b1 b2 b3 b4 : W64} (h0 : a0.toNat < 2251799813947392) (h1 : a1.toNat < 2251799813947392) (h2 : a2.toNat < 2251799813947392) (h3 : a3.toNat < 2251799813947392) (h4 : a4.toNat < 2251799813947392)
    {d : Nat} (hd : d ≤ 42784196465000448) (k0 : b0.toNat < d) (k1 : b1.toNat < d) (k2 : b2.toNat < d) (k3 : b3.toNat < d) (k4 : b4.toNat < d) :
    (pls (pls (pls (pls (tms a0 b0) a1 b1) a2 b2) a3 b3) a4 b4).v = a0.toNat * b0.toNat + a1.toNat * b1.toNat + a2.toNat * b2.toNat + a3.toNat * b3.toNat + a4.toNat * b4.toNat ∧
    (pls (pls (pls (pls (tms a0 b0) a1 b1) a2 b2) a3 b3) a4 b4).v ≤ 11258999069736960 * d := by
  have p0 := bdm h0 k0
  have p1 := bdm h1 k1
  have p2 := bdm h2 k2
  have p3 := bdm h3 k3
  have p4 := bdm h4 k4
  have e0 := tms_v a0 b0
  have e1 := pls_v (w := tms a0 b0) (a := a1) (b := b1) (by rw [e0]; omega)
  rw [e0] at e1
  have e2 := pls_v (w := pls (tms a0 b0) a1 b1) (a := a2) (b := b2) (by rw [e1]; omega)
  rw [e1] at e2
  have e3 := pls_v (w := pls (pls (tms a0 b0) a1 b1) a2 b2) (a := a3) (b := b3) (by rw [e2]; omega)
  rw [e2] at e3
  have e4 := pls_v (w := pls (pls (pls (tms a0 b0) a1 b1) a2 b2) a3 b3) (a := a4) (b := b4) (by rw [e3]; omega)
  rw [e3] at e4
  refine ⟨e4, ?_⟩
  rw [e4]
  omega
theorem prdB_fv {a b : N5} (ha : Good5 a) (hb : Good5 b) : fv5 (prdB a b) = fv5 a * fv5 b := by
  obtain ⟨p0, p1, p2, p3, p4⟩ := ha
  obtain ⟨q0, q1, q2, q3, q4⟩ := hb
  have f1 := toNat_mul19 (y := b.a1) (by omega)
  have f2 := toNat_mul19 (y := b.a2) (by omega)
  have f3 := toNat_mul19 (y := b.a3) (by omega)
  have f4 := toNat_mul19 (y := b.a4) (by omega)
  have v0 := five p0 p1 p2 p3 p4 (b0 := b.a0) (b1 := 19#64 * b.a4) (b2 := 19#64 * b.a3) (b3 := 19#64 * b.a2) (b4 := 19#64 * b.a1) (d := 42784196465000448) (by omega) (by omega) (by omega) (by omega) (by omega) (by omega)
  have v1 := five p0 p1 p2 p3 p4 (b0 := b.a1) (b1 := b.a0) (b2 := 19#64 * b.a4) (b3 := 19#64 * b.a3) (b4 := 19#64 * b.a2) (d := 42784196465000448) (by omega) (by omega) (by omega) (by omega) (by omega) (by omega)
  have v2 := five p0 p1 p2 p3 p4 (b0 := b.a2) (b1 := b.a1) (b2 := b.a0) (b3 := 19#64 * b.a4) (b4 := 19#64 * b.a3) (d := 42784196465000448) (by omega) (by omega) (by omega) (by omega) (by omega) (by omega)
  have v3 := five p0 p1 p2 p3 p4 (b0 := b.a3) (b1 := b.a2) (b2 := b.a1) (b3 := b.a0) (b4 := 19#64 * b.a4) (d := 42784196465000448) (by omega) (by omega) (by omega) (by omega) (by omega) (by omega)
  have v4 := five p0 p1 p2 p3 p4 (b0 := b.a4) (b1 := b.a3) (b2 := b.a2) (b3 := b.a1) (b4 := b.a0) (d := 2251799813947392) (by omega) q4 q3 q2 q1 q0
  unfold prdB
  simp only
  rw [nrw_fv (by have := v0.2; omega) (by have := v1.2; omega) (by have := v2.2; omega) (by have := v3.2; omega) (by have := v4.2; omega), v0.1, v1.1, v2.1, v3.1, v4.1, f1, f2, f3, f4, fv5_is, fv5_is]
  simp only [fn_add, fn_mul, fn_19]
  have h := rr5
  generalize rr = r at *
  generalize fn a.a0.toNat = x0
  generalize fn a.a1.toNat = x1
  generalize fn a.a2.toNat = x2
  generalize fn a.a3.toNat = x3
  generalize fn a.a4.toNat = x4
  generalize fn b.a0.toNat = y0
  generalize fn b.a1.toNat = y1
  generalize fn b.a2.toNat = y2
  generalize fn b.a3.toNat = y3
  generalize fn b.a4.toNat = y4
  clear v0 v1 v2 v3 v4 f1 f2 f3 f4 p0 p1 p2 p3 p4 q0 q1 q2 q3 q4
  grobner
end Crv
end Go.Proofs.YtbhlcnimjoppeaaDoor

/-
  Of no statement by itself: five limbs of 51 bits modulo 2^255 - 19: powers, the inverse; no program stands here.
  Conditions: none but each lemma's own.
-/
namespace Go.Proofs.YtbhlcnimjoppeaaDoor
namespace Crv
/-! ### powers -/
def sqB (n : N5) : Nat → N5
  | 0 => n
  | k + 1 => prdB (sqB n k) (sqB n k)
theorem sqB_good {n : N5} (h : Good5 n) : ∀ k, Good5 (sqB n k)
  | 0 => h
  | _ + 1 => prdB_good _ _
structure Pow (x : F) (n : N5) (e : Nat) : Prop where
  good : Good5 n
  fv : fv5 n = pw x e
theorem Pow.mul {x : F} {a b : N5} {d e : Nat} (ha : Pow x a d) (hb : Pow x b e) : Pow x (prdB a b) (d + e) :=
  ⟨prdB_good _ _, by rw [prdB_fv ha.good hb.good, ha.fv, hb.fv, pw_add]⟩
theorem Pow.sq {x : F} {a : N5} {d : Nat} (ha : Pow x a d) : ∀ k, Pow x (sqB a k) (d * 2 ^ k)
  | 0 => by rw [Nat.pow_zero, Nat.mul_one]; exact ha
  | k + 1 => by
    have := (ha.sq k).mul (ha.sq k)
    rw [show d * 2 ^ (k + 1) = d * 2 ^ k + d * 2 ^ k by rw [Nat.pow_succ, ← Nat.mul_assoc]; omega]
    exact this
theorem Pow.to {x : F} {a : N5} {d e : Nat} (h : Pow x a d) (he : Nat.beq d e = true) : Pow x a e := Nat.eq_of_beq_eq_true he ▸ h
structure InvT where
  two : N5
  nine : N5
  eleven : N5
  o5 : N5
  o10 : N5
  o20 : N5
  o40 : N5
  o50 : N5
  o100 : N5
  o200 : N5
  o250 : N5
  all : N5
def invT (n : N5) : InvT :=
  let two := sqB n 1
  let nine := prdB (sqB two 2) n
  let eleven := prdB nine two
  let o5 := prdB (sqB eleven 1) nine
  let o10 := prdB (sqB o5 5) o5
  let o20 := prdB (sqB o10 10) o10
  let o40 := prdB (sqB o20 20) o20
  let o50 := prdB (sqB o40 10) o10
  let o100 := prdB (sqB o50 50) o50
  let o200 := prdB (sqB o100 100) o100
  let o250 := prdB (sqB o200 50) o50
  ⟨two, nine, eleven, o5, o10, o20, o40, o50, o100, o200, o250, prdB (sqB o250 5) eleven⟩
def invB (n : N5) : N5 := (invT n).all
theorem invB_pow {n : N5} (h : Good5 n) : Pow (fv5 n) (invB n) (P - 2) := by
  have h1 : Pow (fv5 n) n 1 := ⟨h, by show fv5 n = 1 * fv5 n; grobner⟩
  have two := h1.sq 1
  have nine := (two.sq 2).mul h1
  have eleven := nine.mul two
  have o5 := (eleven.sq 1).mul nine
  have o10 := (o5.sq 5).mul o5
  have o20 := (o10.sq 10).mul o10
  have o40 := (o20.sq 20).mul o20
  have o50 := (o40.sq 10).mul o10
  have o100 := (o50.sq 50).mul o50
  have o200 := (o100.sq 100).mul o100
  have o250 := (o200.sq 50).mul o50
  have all := (o250.sq 5).mul eleven
  have r := all.to (e := P - 2) (by decide +kernel)
  exact r
theorem invB_fv {n : N5} (h : Good5 n) : fv5 (invB n) = inv (fv5 n) := (invB_pow h).fv
theorem invB_good {n : N5} (h : Good5 n) : Good5 (invB n) := (invB_pow h).good
end Crv
end Go.Proofs.YtbhlcnimjoppeaaDoor

/-
  Of no statement by itself: five limbs of 51 bits modulo 2^255 - 19: numbers less than p; no program stands here.
  Conditions: none but each lemma's own.
-/
namespace Go.Proofs.YtbhlcnimjoppeaaDoor
namespace Crv
/-! ### less than p -/
def rsB (l : List W64) (c : W64) : Nat → W64
  | 0 => c
  | i + 1 => (l.getD i 0 + rsB l c i) >>> 51
def leB (l : List W64) (c : W64) : Nat → List W64
  | 0 => l
  | i + 1 => (leB l c i).set i ((l.getD i 0 + rsB l c i) &&& 2251799813685247#64)
theorem leB_len (l : List W64) (c : W64) : ∀ i, (leB l c i).length = l.length
  | 0 => rfl
  | i + 1 => by rw [leB, List.length_set, leB_len l c i]
def lstB (n : N5) : N5 :=
  let c := 19#64 * rsB n.l 19#64 5
  ⟨(n.a0 + rsB n.l c 0) &&& 2251799813685247#64, (n.a1 + rsB n.l c 1) &&& 2251799813685247#64, (n.a2 + rsB n.l c 2) &&& 2251799813685247#64, (n.a3 + rsB n.l c 3) &&& 2251799813685247#64, (n.a4 + rsB n.l c 4) &&& 2251799813685247#64⟩
theorem leB_all (n : N5) : leB n.l (19#64 * rsB n.l 19#64 5) 5 = (lstB n).l := rfl
theorem rsB_is (l : List W64) (c : W64) (i : Nat) (h : (l.getD i 0).toNat < 2251799813947392) (hc : (rsB l c i).toNat < 2251799813947392) : (rsB l c (i + 1)).toNat = ((l.getD i 0).toNat + (rsB l c i).toNat) / 2251799813685248 := by
  rw [rsB, toNat_shr51, toNat_add (by omega)]
structure Nrm (n : N5) : Prop where
  a0 : n.a0.toNat < 2251799813685248
  a1 : n.a1.toNat < 2251799813685248
  a2 : n.a2.toNat < 2251799813685248
  a3 : n.a3.toNat < 2251799813685248
  a4 : n.a4.toNat < 2251799813685248
/-- five carries -/
theorem chain5 {n0 n1 n2 n3 n4 r0 r1 r2 r3 r4 r5 : Nat} (e1 : r1 = (n0 + r0) / 2251799813685248) (e2 : r2 = (n1 + r1) / 2251799813685248) (e3 : r3 = (n2 + r2) / 2251799813685248) (e4 : r4 = (n3 + r3) / 2251799813685248) (e5 : r5 = (n4 + r4) / 2251799813685248) :
    ∃ s, s < 57896044618658097711785492504343953926634992332820282019728792003956564819968 ∧
      s = (n0 + r0) % 2251799813685248 + 2251799813685248 * ((n1 + r1) % 2251799813685248 + 2251799813685248 * ((n2 + r2) % 2251799813685248 + 2251799813685248 * ((n3 + r3) % 2251799813685248 + 2251799813685248 * ((n4 + r4) % 2251799813685248)))) ∧
      n0 + 2251799813685248 * (n1 + 2251799813685248 * (n2 + 2251799813685248 * (n3 + 2251799813685248 * n4))) + r0 = s + 57896044618658097711785492504343953926634992332820282019728792003956564819968 * r5 := by
  have d0 := Nat.div_add_mod (n0 + r0) 2251799813685248
  have d1 := Nat.div_add_mod (n1 + r1) 2251799813685248
  have d2 := Nat.div_add_mod (n2 + r2) 2251799813685248
  have d3 := Nat.div_add_mod (n3 + r3) 2251799813685248
  have d4 := Nat.div_add_mod (n4 + r4) 2251799813685248
  have b0 := Nat.mod_lt (n0 + r0) (show 2251799813685248 > 0 by decide)
  have b1 := Nat.mod_lt (n1 + r1) (show 2251799813685248 > 0 by decide)
  have b2 := Nat.mod_lt (n2 + r2) (show 2251799813685248 > 0 by decide)
  have b3 := Nat.mod_lt (n3 + r3) (show 2251799813685248 > 0 by decide)
  have b4 := Nat.mod_lt (n4 + r4) (show 2251799813685248 > 0 by decide)
  rw [← e1] at d0
  rw [← e2] at d1
  rw [← e3] at d2
  rw [← e4] at d3
  rw [← e5] at d4
  clear e1 e2 e3 e4 e5
  refine ⟨_, ?_, rfl, ?_⟩
  · clear d0 d1 d2 d3 d4
    generalize (n0 + r0) % 2251799813685248 = s0 at *
    generalize (n1 + r1) % 2251799813685248 = s1 at *
    generalize (n2 + r2) % 2251799813685248 = s2 at *
    generalize (n3 + r3) % 2251799813685248 = s3 at *
    generalize (n4 + r4) % 2251799813685248 = s4 at *
    omega
  · clear b0 b1 b2 b3 b4
    generalize (n0 + r0) % 2251799813685248 = s0 at *
    generalize (n1 + r1) % 2251799813685248 = s1 at *
    generalize (n2 + r2) % 2251799813685248 = s2 at *
    generalize (n3 + r3) % 2251799813685248 = s3 at *
    generalize (n4 + r4) % 2251799813685248 = s4 at *
    omega
theorem least_nat {v o s S r : Nat} (hv : v < 115792089237316195423570985008687907853269984665640564039457584007913129639898)
    (hs : s < 57896044618658097711785492504343953926634992332820282019728792003956564819968) (h1 : v + 19 = s + 57896044618658097711785492504343953926634992332820282019728792003956564819968 * o)
    (hS : S < 57896044618658097711785492504343953926634992332820282019728792003956564819968) (h2 : v + 19 * o = S + 57896044618658097711785492504343953926634992332820282019728792003956564819968 * r) :
    S + o * 57896044618658097711785492504343953926634992332820282019728792003956564819949 = v ∧ S < 57896044618658097711785492504343953926634992332820282019728792003956564819949 := by
  have : o = 0 ∨ o = 1 := by omega
  rcases this with rfl | rfl
  · omega
  · omega
theorem rsB_lt {l : List W64} {c : W64} (h : ∀ i, (l.getD i 0).toNat < 2251799813947392) (hc : c.toNat < 2251799813947392) : ∀ i, (rsB l c i).toNat < 2251799813947392
  | 0 => hc
  | i + 1 => by
    have h1 := h i
    have h2 := rsB_lt h hc i
    rw [rsB_is l c i h1 h2]
    omega
theorem limbs_lt {n : N5} (h : Good5 n) : ∀ i, (n.l.getD i 0).toNat < 2251799813947392
  | 0 => h.a0
  | 1 => h.a1
  | 2 => h.a2
  | 3 => h.a3
  | 4 => h.a4
  | i + 5 => by
    show (0 : W64).toNat < _
    decide
theorem lstB_is {n : N5} (h : Good5 n) : Nrm (lstB n) ∧ val5 (lstB n) = (fv5 n).val := by
  have ll := limbs_lt h
  have hr : ∀ c : W64, c.toNat < 2251799813947392 → ∀ i, (rsB n.l c (i + 1)).toNat = ((n.l.getD i 0).toNat + (rsB n.l c i).toNat) / 2251799813685248 := fun c hc i => rsB_is n.l c i (ll i) (rsB_lt ll hc i)
  have hm : ∀ (c : W64) (x : W64) (i : Nat), c.toNat < 2251799813947392 → x.toNat < 2251799813947392 → ((x + rsB n.l c i) &&& 2251799813685247#64).toNat = (x.toNat + (rsB n.l c i).toNat) % 2251799813685248 := fun c x i hc hx => by
    have h2 := rsB_lt ll hc i
    rw [toNat_mask, toNat_add (by omega)]
  obtain ⟨p0, p1, p2, p3, p4⟩ := h
  have hb : (19#64 : W64).toNat < 2251799813947392 := by decide
  obtain ⟨s, hs, _, h1⟩ := chain5 (n0 := n.a0.toNat) (n1 := n.a1.toNat) (n2 := n.a2.toNat) (n3 := n.a3.toNat) (n4 := n.a4.toNat) (hr _ hb 0) (hr _ hb 1) (hr _ hb 2) (hr _ hb 3) (hr _ hb 4)
  have t0 : (rsB n.l 19#64 0).toNat = 19 := rfl
  rw [t0] at h1
  have hv : n.a0.toNat + 2251799813685248 * (n.a1.toNat + 2251799813685248 * (n.a2.toNat + 2251799813685248 * (n.a3.toNat + 2251799813685248 * n.a4.toNat))) < 115792089237316195423570985008687907853269984665640564039457584007913129639898 := by
    clear h1 hr hm ll
    omega
  have ho : (rsB n.l 19#64 (4 + 1)).toNat ≤ 1 := by
    clear hr hm ll
    omega
  have c := toNat_mul19 (y := rsB n.l 19#64 (4 + 1)) (by omega)
  have hC : (19#64 * rsB n.l 19#64 (4 + 1)).toNat < 2251799813947392 := by omega
  obtain ⟨S, hS, eS, h2⟩ := chain5 (n0 := n.a0.toNat) (n1 := n.a1.toNat) (n2 := n.a2.toNat) (n3 := n.a3.toNat) (n4 := n.a4.toNat) (hr _ hC 0) (hr _ hC 1) (hr _ hC 2) (hr _ hC 3) (hr _ hC 4)
  have t1 : (rsB n.l (19#64 * rsB n.l 19#64 (4 + 1)) 0).toNat = 19 * (rsB n.l 19#64 (4 + 1)).toNat := c
  have hh2 := h2
  rw [t1] at hh2
  obtain ⟨f1, f2⟩ := least_nat hv hs h1 hS hh2
  have m0 := hm (19#64 * rsB n.l 19#64 (4 + 1)) n.a0 0 hC p0
  have m1 := hm (19#64 * rsB n.l 19#64 (4 + 1)) n.a1 1 hC p1
  have m2 := hm (19#64 * rsB n.l 19#64 (4 + 1)) n.a2 2 hC p2
  have m3 := hm (19#64 * rsB n.l 19#64 (4 + 1)) n.a3 3 hC p3
  have m4 := hm (19#64 * rsB n.l 19#64 (4 + 1)) n.a4 4 hC p4
  refine ⟨⟨?_, ?_, ?_, ?_, ?_⟩, ?_⟩
  · exact m0 ▸ Nat.mod_lt _ (by decide)
  · exact m1 ▸ Nat.mod_lt _ (by decide)
  · exact m2 ▸ Nat.mod_lt _ (by decide)
  · exact m3 ▸ Nat.mod_lt _ (by decide)
  · exact m4 ▸ Nat.mod_lt _ (by decide)
  · have ev : val5 (lstB n) = S := by
      rw [eS]
      unfold val5
      show ((n.a0 + rsB n.l (19#64 * rsB n.l 19#64 (4 + 1)) 0) &&& 2251799813685247#64).toNat + 2251799813685248 * (((n.a1 + rsB n.l (19#64 * rsB n.l 19#64 (4 + 1)) 1) &&& 2251799813685247#64).toNat + 2251799813685248 * (((n.a2 + rsB n.l (19#64 * rsB n.l 19#64 (4 + 1)) 2) &&& 2251799813685247#64).toNat + 2251799813685248 * (((n.a3 + rsB n.l (19#64 * rsB n.l 19#64 (4 + 1)) 3) &&& 2251799813685247#64).toNat + 2251799813685248 * ((n.a4 + rsB n.l (19#64 * rsB n.l 19#64 (4 + 1)) 4) &&& 2251799813685247#64).toNat))) = _
      rw [m0, m1, m2, m3, m4]
    have hf : fv5 n = fn S := by
      unfold fv5 val5
      exact (fn_off (q := (rsB n.l 19#64 (4 + 1)).toNat) f1).symm
    rw [ev, hf, fn_lt f2]
end Crv
end Go.Proofs.YtbhlcnimjoppeaaDoor

/-
  Of no statement by itself: five limbs of 51 bits modulo 2^255 - 19: bytes in and out; no program stands here.
  Conditions: none but each lemma's own.
-/
namespace Go.Proofs.YtbhlcnimjoppeaaDoor
namespace Crv
/-! ### as bytes -/
theorem or_add' (x y : W64) {k : Nat} (hk : k ≤ 64) (hx : x.toNat < 2 ^ k) : (x ||| y <<< k).toNat = y.toNat * 2 ^ k % 2 ^ 64 + x.toNat := by
  rw [BitVec.or_comm, or_add x y hk hx]
def wdsB (n : N5) : List W64 := [n.a0 ||| n.a1 <<< 51, n.a1 >>> 13 ||| n.a2 <<< 38, n.a2 >>> 26 ||| n.a3 <<< 25, n.a3 >>> 39 ||| n.a4 <<< 12]
def bys (w : W64) : List By := [(w >>> 0).setWidth 8, (w >>> 8).setWidth 8, (w >>> 16).setWidth 8, (w >>> 24).setWidth 8, (w >>> 32).setWidth 8, (w >>> 40).setWidth 8, (w >>> 48).setWidth 8, (w >>> 56).setWidth 8]
theorem byt (w : W64) (k : Nat) : ((w >>> k).setWidth 8).toNat = w.toNat / 2 ^ k % 256 := by
  rw [BitVec.toNat_setWidth, toNat_shr]
theorem le_bys (w : W64) : le (bys w) = w.toNat := by
  unfold bys
  simp only [le, byt]
  have := w.isLt
  omega
def kbB (w : List W64) : Nat → List By
  | 0 => List.replicate 32 0
  | i + 1 => (kbB w i).set i ((w.getD (i / 8) 0 >>> (i % 8 * 8)).setWidth 8)
theorem kbB_len (w : List W64) : ∀ i, (kbB w i).length = 32
  | 0 => rfl
  | i + 1 => by rw [kbB, List.length_set, kbB_len w i]
theorem kbB_all (a b c d : W64) : kbB [a, b, c, d] 32 = bys a ++ (bys b ++ (bys c ++ bys d)) := by kernel_rfl
theorem kbB_is {n : N5} (h : Nrm n) : kbB (wdsB n) 32 = keyB 32 (val5 n) := by
  obtain ⟨p0, p1, p2, p3, p4⟩ := h
  have e0 := or_add' n.a0 n.a1 (k := 51) (by omega) (by omega)
  have s1 := toNat_shr n.a1 13
  have s2 := toNat_shr n.a2 26
  have s3 := toNat_shr n.a3 39
  have e1 := or_add' (n.a1 >>> 13) n.a2 (k := 38) (by omega) (by omega)
  have e2 := or_add' (n.a2 >>> 26) n.a3 (k := 25) (by omega) (by omega)
  have e3 := or_add' (n.a3 >>> 39) n.a4 (k := 12) (by omega) (by omega)
  unfold wdsB
  rw [kbB_all]
  have l8 : ∀ w, (bys w).length = 8 := fun _ => rfl
  have el : le (bys (n.a0 ||| n.a1 <<< 51) ++ (bys (n.a1 >>> 13 ||| n.a2 <<< 38) ++ (bys (n.a2 >>> 26 ||| n.a3 <<< 25) ++ bys (n.a3 >>> 39 ||| n.a4 <<< 12)))) = val5 n := by
    rw [le_append, le_append, le_append, l8, l8, l8, le_bys, le_bys, le_bys, le_bys, e0, e1, e2, e3, s1, s2, s3]
    unfold val5
    omega
  rw [← el]
  have := keyB_le (bys (n.a0 ||| n.a1 <<< 51) ++ (bys (n.a1 >>> 13 ||| n.a2 <<< 38) ++ (bys (n.a2 >>> 26 ||| n.a3 <<< 25) ++ bys (n.a3 >>> 39 ||| n.a4 <<< 12))))
  exact this.symm
/-- a number's bytes -/
def kyB (n : N5) : List By := kbB (wdsB (lstB n)) 32
theorem kyB_is {n : N5} (h : Good5 n) : kyB n = keyF (fv5 n) := by
  have := lstB_is h
  rw [kyB, kbB_is this.1, this.2]; rfl
/-! ### bytes as limbs -/
def wdB (k : List By) (p : Nat) : Nat → W64
  | 0 => 0
  | i + 1 => wdB k p i ||| ((k.getD (8 * p + i) 0).setWidth 64) <<< (8 * i)
theorem wdB_is (k : List By) (p : Nat) : ∀ i, i ≤ 8 → 8 * p + i ≤ k.length → (wdB k p i).toNat = le ((k.drop (8 * p)).take i)
  | 0, _, _ => rfl
  | i + 1, hi, hl => by
    have ih := wdB_is k p i (by omega) (by omega)
    have lt := le_lt ((k.drop (8 * p)).take i)
    have ln : ((k.drop (8 * p)).take i).length = i := by rw [List.length_take, List.length_drop]; omega
    rw [ln, show 256 ^ i = 2 ^ (8 * i) by rw [Nat.pow_mul]] at lt
    have hb : (k.drop (8 * p))[i]? = some (k.getD (8 * p + i) 0) := by
      rw [List.getElem?_drop, List.getD_eq_getElem?_getD, List.getElem?_eq_getElem (by omega)]; rfl
    rw [wdB, or_add' _ _ (k := 8 * i) (by omega) (by rw [ih]; exact lt), ih, List.take_add_one, hb, le_append, ln, show 256 ^ i = 2 ^ (8 * i) by rw [Nat.pow_mul]]
    generalize k.getD (8 * p + i) 0 = x
    have hx := x.isLt
    have hs : (x.setWidth 64).toNat = x.toNat := by rw [BitVec.toNat_setWidth]; exact Nat.mod_eq_of_lt (by omega)
    have hp : 2 ^ (8 * i) ≤ 2 ^ 56 := Nat.pow_le_pow_right (by omega) (by omega)
    have hm : x.toNat * 2 ^ (8 * i) ≤ 255 * 2 ^ 56 := Nat.mul_le_mul (by omega) hp
    rw [hs, Nat.mod_eq_of_lt (by omega)]
    show _ = _ + 2 ^ (8 * i) * (x.toNat + 256 * 0)
    rw [Nat.mul_zero, Nat.add_zero, Nat.mul_comm]
    omega
def numW (w0 w1 w2 w3 : W64) : N5 := ⟨w0 &&& 2251799813685247#64, (w0 >>> 51 ||| w1 <<< 13) &&& 2251799813685247#64, (w1 >>> 38 ||| w2 <<< 26) &&& 2251799813685247#64, (w2 >>> 25 ||| w3 <<< 39) &&& 2251799813685247#64, w3 >>> 12 &&& 2251799813685247#64⟩
theorem numW_is (w0 w1 w2 w3 : W64) : Nrm (numW w0 w1 w2 w3) ∧ val5 (numW w0 w1 w2 w3) = (w0.toNat + 18446744073709551616 * (w1.toNat + 18446744073709551616 * (w2.toNat + 18446744073709551616 * w3.toNat))) % 57896044618658097711785492504343953926634992332820282019728792003956564819968 := by
  have h0 := w0.isLt
  have h1 := w1.isLt
  have h2 := w2.isLt
  have h3 := w3.isLt
  have s0 := toNat_shr w0 51
  have s1 := toNat_shr w1 38
  have s2 := toNat_shr w2 25
  have s3 := toNat_shr w3 12
  have e1 := or_add' (w0 >>> 51) w1 (k := 13) (by omega) (by omega)
  have e2 := or_add' (w1 >>> 38) w2 (k := 26) (by omega) (by omega)
  have e3 := or_add' (w2 >>> 25) w3 (k := 39) (by omega) (by omega)
  have m0 := toNat_mask w0
  have m1 := toNat_mask (w0 >>> 51 ||| w1 <<< 13)
  have m2 := toNat_mask (w1 >>> 38 ||| w2 <<< 26)
  have m3 := toNat_mask (w2 >>> 25 ||| w3 <<< 39)
  have m4 := toNat_mask (w3 >>> 12)
  rw [e1, s0] at m1
  rw [e2, s1] at m2
  rw [e3, s2] at m3
  rw [s3] at m4
  refine ⟨⟨?_, ?_, ?_, ?_, ?_⟩, ?_⟩
  · show (w0 &&& 2251799813685247#64).toNat < _; rw [m0]; omega
  · show ((w0 >>> 51 ||| w1 <<< 13) &&& 2251799813685247#64).toNat < _; rw [m1]; omega
  · show ((w1 >>> 38 ||| w2 <<< 26) &&& 2251799813685247#64).toNat < _; rw [m2]; omega
  · show ((w2 >>> 25 ||| w3 <<< 39) &&& 2251799813685247#64).toNat < _; rw [m3]; omega
  · show (w3 >>> 12 &&& 2251799813685247#64).toNat < _; rw [m4]; omega
  · unfold val5 numW
    simp only
    rw [m0, m1, m2, m3, m4]
    clear e1 e2 e3 s0 s1 s2 s3 m0 m1 m2 m3 m4
    generalize w0.toNat = x0 at *
    generalize w1.toNat = x1 at *
    generalize w2.toNat = x2 at *
    generalize w3.toNat = x3 at *
    omega
theorem Nrm.good {n : N5} (h : Nrm n) : Good5 n := by
  obtain ⟨p0, p1, p2, p3, p4⟩ := h
  exact ⟨by omega, by omega, by omega, by omega, by omega⟩
def numB (u : List By) : N5 := numW (wdB u 0 8) (wdB u 1 8) (wdB u 2 8) (wdB u 3 8)
theorem numB_good (u : List By) : Good5 (numB u) := (numW_is _ _ _ _).1.good
theorem numB_fv {u : List By} (hu : u.length = 32) : fv5 (numB u) = pt u := by
  have e := (numW_is (wdB u 0 8) (wdB u 1 8) (wdB u 2 8) (wdB u 3 8)).2
  rw [wdB_is u 0 8 (by omega) (by omega), wdB_is u 1 8 (by omega) (by omega), wdB_is u 2 8 (by omega) (by omega), wdB_is u 3 8 (by omega) (by omega)] at e
  have c : ∀ l : List By, 8 ≤ l.length → le l = le (l.take 8) + 18446744073709551616 * le (l.drop 8) := fun l hl => by
    have := le_append (l.take 8) (l.drop 8)
    rw [List.take_append_drop, List.length_take, Nat.min_eq_left hl] at this
    exact this
  have c0 := c u (by omega)
  have c1 := c (u.drop 8) (by rw [List.length_drop]; omega)
  have c2 := c (u.drop 16) (by rw [List.length_drop]; omega)
  have c3 : le (u.drop 24) = le ((u.drop 24).take 8) := by rw [List.take_of_length_le (by rw [List.length_drop]; omega)]
  rw [List.drop_drop] at c1 c2
  have hl : le u = le ((u.drop (8 * 0)).take 8) + 18446744073709551616 * (le ((u.drop (8 * 1)).take 8) + 18446744073709551616 * (le ((u.drop (8 * 2)).take 8) + 18446744073709551616 * le ((u.drop (8 * 3)).take 8))) := by
    rw [c0]
    show _ = le ((u.drop 0).take 8) + 18446744073709551616 * (le ((u.drop 8).take 8) + 18446744073709551616 * (le ((u.drop 16).take 8) + 18446744073709551616 * le ((u.drop 24).take 8)))
    rw [← c3, ← c2, ← c1]; rfl
  rw [← hl] at e
  unfold fv5 pt
  show fn _ = fn _
  congr 1
end Crv
end Go.Proofs.YtbhlcnimjoppeaaDoor

/-
  Of no statement by itself: five limbs of 51 bits modulo 2^255 - 19: the ladder over these limbs, rows that change places; no program stands here.
  Conditions: none but each lemma's own.
-/
namespace Go.Proofs.YtbhlcnimjoppeaaDoor
namespace Crv
/-! ### the ladder over limbs -/
structure L5 where
  x2 : N5
  z2 : N5
  x3 : N5
  z3 : N5
@[reducible] def L5.l (s : L5) : List W64 := s.x2.l ++ s.z2.l ++ s.x3.l ++ s.z3.l
def L5.f (s : L5) : L4 := ⟨fv5 s.x2, fv5 s.z2, fv5 s.x3, fv5 s.z3⟩
structure L5.ok (s : L5) : Prop where
  x2 : Good5 s.x2
  z2 : Good5 s.z2
  x3 : Good5 s.x3
  z3 : Good5 s.z3
def oneN : N5 := ⟨1, 0, 0, 0, 0⟩
def zeroN : N5 := ⟨0, 0, 0, 0, 0⟩
def cN : N5 := ⟨121665, 0, 0, 0, 0⟩
theorem oneN_good : Good5 oneN := ⟨by decide, by decide, by decide, by decide, by decide⟩
theorem zeroN_good : Good5 zeroN := ⟨by decide, by decide, by decide, by decide, by decide⟩
theorem cN_good : Good5 cN := ⟨by decide, by decide, by decide, by decide, by decide⟩
theorem oneN_fv : fv5 oneN = 1 := by decide +kernel
theorem zeroN_fv : fv5 zeroN = 0 := by decide +kernel
theorem cN_fv : fv5 cN = 121665 := by decide +kernel
structure StpT where
  a : N5
  b : N5
  c : N5
  d : N5
  aa : N5
  bb : N5
  da : N5
  cb : N5
  e : N5
  m : N5
  s : N5
def stpT (s : L5) : StpT :=
  let a := sumB s.x2 s.z2
  let b := difB s.x2 s.z2
  let c := sumB s.x3 s.z3
  let d := difB s.x3 s.z3
  let aa := prdB a a
  let bb := prdB b b
  let da := prdB d a
  let cb := prdB c b
  let e := difB aa bb
  ⟨a, b, c, d, aa, bb, da, cb, e, sumB da cb, difB da cb⟩
def stpR (x1 : N5) (t : StpT) : L5 := ⟨prdB t.aa t.bb, prdB t.e (sumB t.aa (prdB cN t.e)), prdB t.m t.m, prdB x1 (prdB t.s t.s)⟩
def stpB (x1 : N5) (s : L5) : L5 := stpR x1 (stpT s)
def swB (b : Bool) (s : L5) : L5 := if b then ⟨s.x3, s.z3, s.x2, s.z2⟩ else s
theorem swB_ok {s : L5} (h : s.ok) (b : Bool) : (swB b s).ok := by
  cases b
  · exact h
  · exact ⟨h.x3, h.z3, h.x2, h.z2⟩
theorem swB_f (s : L5) (b : Bool) : (swB b s).f = swap b s.f := by cases b <;> rfl
theorem stpB_ok (x1 : N5) (s : L5) : (stpB x1 s).ok := ⟨prdB_good _ _, prdB_good _ _, prdB_good _ _, prdB_good _ _⟩
theorem stpB_f {x1 : N5} {s : L5} (h1 : Good5 x1) (h : s.ok) : (stpB x1 s).f = core (fv5 x1) s.f := by
  have ga := sumB_good s.x2 s.z2
  have gb := difB_good s.x2 s.z2
  have gc := sumB_good s.x3 s.z3
  have gd := difB_good s.x3 s.z3
  unfold L5.f stpB stpR stpT core
  simp only
  rw [prdB_fv (prdB_good _ _) (prdB_good _ _), prdB_fv (difB_good _ _) (sumB_good _ _), sumB_fv (prdB_good _ _) (prdB_good _ _), prdB_fv cN_good (difB_good _ _), difB_fv (prdB_good _ _) (prdB_good _ _),
    prdB_fv (sumB_good (prdB _ _) _) (sumB_good _ _), sumB_fv (prdB_good (difB _ _) _) (prdB_good _ _), prdB_fv h1 (prdB_good _ _), prdB_fv (difB_good (prdB _ _) _) (difB_good _ _), difB_fv (prdB_good (difB _ _) _) (prdB_good _ _),
    prdB_fv gd ga, prdB_fv gc gb, prdB_fv ga ga, prdB_fv gb gb, sumB_fv h.x2 h.z2, difB_fv h.x2 h.z2, sumB_fv h.x3 h.z3, difB_fv h.x3 h.z3, cN_fv]
def ladB (x1 : N5) (k : Nat) : Nat → L5
  | 0 => ⟨oneN, zeroN, x1, oneN⟩
  | n + 1 => swB (k.testBit (254 - n)) (stpB x1 (swB (k.testBit (254 - n)) (ladB x1 k n)))
theorem ladB_ok {x1 : N5} (h : Good5 x1) (k : Nat) : ∀ n, (ladB x1 k n).ok
  | 0 => ⟨oneN_good, zeroN_good, h, oneN_good⟩
  | _ + 1 => swB_ok (stpB_ok _ _) _
theorem ladB_f {x1 : N5} (h : Good5 x1) (k : Nat) : ∀ n, n ≤ 255 → lad (fv5 x1) k (255 - n) (ladB x1 k n).f = lad (fv5 x1) k 255 (ladB x1 k 0).f
  | 0, _ => rfl
  | n + 1, hn => by
    rw [← ladB_f h k n (by omega)]
    have e : 255 - n = (255 - (n + 1)) + 1 := by omega
    have e2 : 254 - n = 255 - (n + 1) := by omega
    rw [e]
    show lad (fv5 x1) k (255 - (n + 1)) (swB (k.testBit (254 - n)) (stpB x1 (swB (k.testBit (254 - n)) (ladB x1 k n)))).f = lad (fv5 x1) k (255 - (n + 1)) (swap (k.testBit (255 - (n + 1))) (core (fv5 x1) (swap (k.testBit (255 - (n + 1))) (ladB x1 k n).f)))
    rw [swB_f, stpB_f h (swB_ok (ladB_ok h k n) _), swB_f, e2]
/-- what the code's Mult lays -/
def mltB (k u : List By) : List By := kyB (prdB (ladB (numB u) (le (clampB k)) 255).x2 (invB (ladB (numB u) (le (clampB k)) 255).z2))
theorem mltB_is (k u : List By) (hu : u.length = 32) : mltB k u = multB k u := by
  have h := numB_good u
  have g := ladB_ok h (le (clampB k)) 255
  have e : (ladB (numB u) (le (clampB k)) 255).f = lad (fv5 (numB u)) (le (clampB k)) 255 (ladB (numB u) (le (clampB k)) 0).f := ladB_f h _ 255 (by omega)
  have e0 : (ladB (numB u) (le (clampB k)) 0).f = ⟨1, 0, fv5 (numB u), 1⟩ := by
    show (⟨fv5 oneN, fv5 zeroN, fv5 (numB u), fv5 oneN⟩ : L4) = _
    rw [oneN_fv, zeroN_fv]
  rw [e0] at e
  unfold mltB
  rw [kyB_is (prdB_good _ _), prdB_fv g.x2 (invB_good g.z2), invB_fv g.z2]
  unfold multB mulF
  rw [← numB_fv hu, ← e]
  rfl
/-! ### two rows that change places -/
def mixl (c : Bool) (x y : List W64) (i : Nat) : List W64 := if c then y.take i ++ x.drop i else x
theorem mixl_len (c : Bool) {x y : List W64} (h : x.length = y.length) (i : Nat) : (mixl c x y i).length = x.length := by
  cases c
  · rfl
  · show (y.take i ++ x.drop i).length = _
    rw [List.length_append, List.length_take, List.length_drop]; omega
theorem mixl_get (c : Bool) {x y : List W64} (h : x.length = y.length) {i : Nat} (hi : i < x.length) : (mixl c x y i)[i]? = some (x.getD i 0) := by
  have e : x[i]? = some (x.getD i 0) := by rw [List.getD_eq_getElem?_getD, List.getElem?_eq_getElem hi]; rfl
  cases c
  · exact e
  · show (y.take i ++ x.drop i)[i]? = _
    rw [List.getElem?_append_right (by rw [List.length_take]; omega), List.length_take, List.getElem?_drop, ← e]
    congr 1; omega
theorem mixl_set (c : Bool) {x y : List W64} (h : x.length = y.length) {i : Nat} (hi : i < x.length) {v : W64} (hv : v = if c then y.getD i 0 else x.getD i 0) : (mixl c x y i).set i v = mixl c x y (i + 1) := by
  subst hv
  cases c
  · show x.set i (x.getD i 0) = x
    rw [List.getD_eq_getElem?_getD, List.getElem?_eq_getElem hi]
    simp
  · show (y.take i ++ x.drop i).set i (y.getD i 0) = y.take (i + 1) ++ x.drop (i + 1)
    have e : y[i]? = some (y.getD i 0) := by rw [List.getD_eq_getElem?_getD, List.getElem?_eq_getElem (by omega)]; rfl
    rw [List.set_append_right _ _ (by rw [List.length_take]; omega), List.length_take, Nat.min_eq_left (by omega), Nat.sub_self, List.drop_eq_getElem_cons hi, List.set_cons_zero, List.take_add_one, e]
    simp
def bt (c : Bool) : By := if c then 1#8 else 0#8
def mk64 (c : Bool) : W64 := if c then BitVec.allOnes 64 else 0
theorem mk64_is (c : Bool) : -((bt c).setWidth 64 : W64) = mk64 c := by cases c <;> decide
theorem bt_is (x : By) (k : Nat) (h : k < 8) : (x >>> k) &&& 1#8 = bt (x.toNat.testBit k) := by
  have h8 : ∀ k : Fin 8, ∀ x : By, (x >>> k.val) &&& 1#8 = bt (x.toNat.testBit k.val) := by decide +kernel
  exact h8 ⟨k, h⟩ x
theorem swap_l (c : Bool) (a b : W64) : a ^^^ (mk64 c &&& (a ^^^ b)) = if c then b else a := by
  cases c
  · show a ^^^ (0 &&& (a ^^^ b)) = a
    simp
  · show a ^^^ (BitVec.allOnes 64 &&& (a ^^^ b)) = b
    rw [BitVec.allOnes_and, ← BitVec.xor_assoc, BitVec.xor_self, BitVec.zero_xor]
theorem swap_r (c : Bool) (a b : W64) : b ^^^ (mk64 c &&& (a ^^^ b)) = if c then a else b := by
  rw [BitVec.xor_comm a b]
  exact swap_l c b a
end Crv
end Go.Proofs.YtbhlcnimjoppeaaDoor

/-
  Of no statement by itself: what the code's word, numberOf, carried, sum and difference give.
  Conditions: each theorem's own.
-/
namespace Go.Proofs.YtbhlcnimjoppeaaDoor
set_option maxRecDepth 10000
open Sl Crv

theorem w8s : szT Tryd.prog 76 = some 1 := by kernel_rfl
theorem w8c : scal Tryd.prog 76 = true := by kernel_rfl
theorem n5s : szT Tryd.prog 117 = some 5 := by kernel_rfl
theorem n5a : aggT Tryd.prog 117 = true := by kernel_rfl
theorem n5z : zc Tryd.prog 117 = some (zeroN.l.map U64) := by kernel_rfl
theorem W_cell (l : List W64) : (l.map U64).all Value.oneCell' = true := by simp [Value.oneCell']
theorem goes_word : Goes Tryd.prog 99 := ⟨_, Tryd.func99, rfl, by kernel_rfl⟩
theorem goes_carried : Goes Tryd.prog 119 := ⟨_, Tryd.func119, rfl, by kernel_rfl⟩
theorem goes_sum : Goes Tryd.prog 101 := ⟨_, Tryd.func101, rfl, by kernel_rfl⟩
theorem goes_difference : Goes Tryd.prog 102 := ⟨_, Tryd.func102, rfl, by kernel_rfl⟩

set_option maxHeartbeats 8000000 in
theorem carried_any (n : N5) (w : World) : Calls Tryd.prog 119 [.agg (n.l.map U64).toArray].toArray w fun e w' => e = .returned (.agg ((carB n).l.map U64).toArray) ∧ Ext w w' := by
  have c0 : (n.l.map U64)[0]? = some (U64 n.a0) := rfl
  have c1 : (n.l.map U64)[1]? = some (U64 n.a1) := rfl
  have c2 : (n.l.map U64)[2]? = some (U64 n.a2) := rfl
  have c3 : (n.l.map U64)[3]? = some (U64 n.a3) := rfl
  have c4 : (n.l.map U64)[4]? = some (U64 n.a4) := rfl
  refine enter (n := 40) Tryd.func119 rfl rfl rfl (Holds.start w []) ?_
  repeat (first | refine JC.seq ?_ | refine JC.region ?_)
  refine JL.box (r := n.l.map U64) rfl rfl rfl fun b1 _ => ?_
  refine JL.alloc n5z rfl fun b2 _ => ?_
  repeat (first | refine JL.q (by first | (apply OQ.idxA0; exact Tryd.underlying117; exact w8s; exact rfl; exact rfl; exact (by decide)) | (apply OQ.load; exact w8c; exact rfl; exact (.there .here); exact (Row.cell c0)) | (apply OQ.load; exact w8c; exact rfl; exact (.there .here); exact (Row.cell c1)) | (apply OQ.load; exact w8c; exact rfl; exact (.there .here); exact (Row.cell c2)) | (apply OQ.load; exact w8c; exact rfl; exact (.there .here); exact (Row.cell c3)) | (apply OQ.load; exact w8c; exact rfl; exact (.there .here); exact (Row.cell c4)) | (apply OQ.and64 (b := 2251799813685247#64); exact rfl; exact rfl) | (apply OQ.mul64 (a := 19#64); exact rfl; exact rfl) | (apply OQ.add64; exact rfl; exact rfl) | (apply OQ.shr64; exact rfl; exact rfl)) rfl ?_ | refine JC.seq ?_ | refine JC.region ?_ | refine JL.nil ?_ | refine JE.next ?_)
  refine JL.q (OQ.pure (v := .agg ((carB n).l.map U64).toArray) rfl rfl (by kernel_rfl)) rfl ?_
  refine JL.store_all (cs := (carB n).l.map U64) n5s rfl rfl rfl (W_cell _) .here rfl ?_
  repeat (first | refine JL.nil ?_ | refine JE.next ?_)
  refine JC.ret (JE.ret1 rfl (RV.cell_agg n5a n5s rfl .here rfl Row.all) ?_)
  exact fun w' hw => ⟨rfl, hw.chg⟩

set_option maxHeartbeats 8000000 in
theorem sum_any (a b : N5) (w : World) : Calls Tryd.prog 101 [.agg (a.l.map U64).toArray, .agg (b.l.map U64).toArray].toArray w fun e w' => e = .returned (.agg ((sumB a b).l.map U64).toArray) ∧ Ext w w' := by
  have c0 : (a.l.map U64)[0]? = some (U64 a.a0) := rfl
  have c1 : (a.l.map U64)[1]? = some (U64 a.a1) := rfl
  have c2 : (a.l.map U64)[2]? = some (U64 a.a2) := rfl
  have c3 : (a.l.map U64)[3]? = some (U64 a.a3) := rfl
  have c4 : (a.l.map U64)[4]? = some (U64 a.a4) := rfl
  have d0 : (b.l.map U64)[0]? = some (U64 b.a0) := rfl
  have d1 : (b.l.map U64)[1]? = some (U64 b.a1) := rfl
  have d2 : (b.l.map U64)[2]? = some (U64 b.a2) := rfl
  have d3 : (b.l.map U64)[3]? = some (U64 b.a3) := rfl
  have d4 : (b.l.map U64)[4]? = some (U64 b.a4) := rfl
  have cc := carried_any ⟨a.a0 + b.a0, a.a1 + b.a1, a.a2 + b.a2, a.a3 + b.a3, a.a4 + b.a4⟩
  refine enter (n := 32) Tryd.func101 rfl rfl rfl (Holds.start w []) ?_
  repeat (first | refine JC.seq ?_ | refine JC.region ?_)
  refine JL.box (r := a.l.map U64) rfl rfl rfl fun b2 _ => ?_
  refine JL.box (r := b.l.map U64) rfl rfl rfl fun b3 _ => ?_
  refine JL.alloc n5z rfl fun b4 _ => ?_
  repeat (first | refine JL.q (by first | (apply OQ.idxA0; exact Tryd.underlying117; exact w8s; exact rfl; exact rfl; exact (by decide)) | (apply OQ.load; exact w8c; exact rfl; exact (.there (.there .here)); exact (Row.cell c0)) | (apply OQ.load; exact w8c; exact rfl; exact (.there (.there .here)); exact (Row.cell c1)) | (apply OQ.load; exact w8c; exact rfl; exact (.there (.there .here)); exact (Row.cell c2)) | (apply OQ.load; exact w8c; exact rfl; exact (.there (.there .here)); exact (Row.cell c3)) | (apply OQ.load; exact w8c; exact rfl; exact (.there (.there .here)); exact (Row.cell c4)) | (apply OQ.load; exact w8c; exact rfl; exact (.there .here); exact (Row.cell d0)) | (apply OQ.load; exact w8c; exact rfl; exact (.there .here); exact (Row.cell d1)) | (apply OQ.load; exact w8c; exact rfl; exact (.there .here); exact (Row.cell d2)) | (apply OQ.load; exact w8c; exact rfl; exact (.there .here); exact (Row.cell d3)) | (apply OQ.load; exact w8c; exact rfl; exact (.there .here); exact (Row.cell d4)) | (apply OQ.add64; exact rfl; exact rfl)) rfl ?_ | refine JC.seq ?_ | refine JC.region ?_ | refine JL.nil ?_ | refine JE.next ?_)
  refine JL.q (OQ.pure (v := .agg ((⟨a.a0 + b.a0, a.a1 + b.a1, a.a2 + b.a2, a.a3 + b.a3, a.a4 + b.a4⟩ : N5).l.map U64).toArray) rfl rfl (by kernel_rfl)) rfl ?_
  refine JL.q (OQ.callx goes_carried rfl fun w' _ => cc w') rfl ?_
  refine JL.store_all (cs := (sumB a b).l.map U64) n5s rfl rfl rfl (W_cell _) .here rfl ?_
  repeat (first | refine JL.nil ?_ | refine JE.next ?_)
  refine JC.ret (JE.ret1 rfl (RV.cell_agg n5a n5s rfl .here rfl Row.all) ?_)
  exact fun w' hw => ⟨rfl, hw.chg⟩

set_option maxHeartbeats 8000000 in
theorem difference_any (a b : N5) (w : World) : Calls Tryd.prog 102 [.agg (a.l.map U64).toArray, .agg (b.l.map U64).toArray].toArray w fun e w' => e = .returned (.agg ((difB a b).l.map U64).toArray) ∧ Ext w w' := by
  have c0 : (a.l.map U64)[0]? = some (U64 a.a0) := rfl
  have c1 : (a.l.map U64)[1]? = some (U64 a.a1) := rfl
  have c2 : (a.l.map U64)[2]? = some (U64 a.a2) := rfl
  have c3 : (a.l.map U64)[3]? = some (U64 a.a3) := rfl
  have c4 : (a.l.map U64)[4]? = some (U64 a.a4) := rfl
  have d0 : (b.l.map U64)[0]? = some (U64 b.a0) := rfl
  have d1 : (b.l.map U64)[1]? = some (U64 b.a1) := rfl
  have d2 : (b.l.map U64)[2]? = some (U64 b.a2) := rfl
  have d3 : (b.l.map U64)[3]? = some (U64 b.a3) := rfl
  have d4 : (b.l.map U64)[4]? = some (U64 b.a4) := rfl
  have cc := carried_any ⟨a.a0 + 4503599627370458#64 - b.a0, a.a1 + 4503599627370494#64 - b.a1, a.a2 + 4503599627370494#64 - b.a2, a.a3 + 4503599627370494#64 - b.a3, a.a4 + 4503599627370494#64 - b.a4⟩
  refine enter (n := 37) Tryd.func102 rfl rfl rfl (Holds.start w []) ?_
  repeat (first | refine JC.seq ?_ | refine JC.region ?_)
  refine JL.box (r := a.l.map U64) rfl rfl rfl fun b2 _ => ?_
  refine JL.box (r := b.l.map U64) rfl rfl rfl fun b3 _ => ?_
  refine JL.alloc n5z rfl fun b4 _ => ?_
  repeat (first | refine JL.q (by first | (apply OQ.idxA0; exact Tryd.underlying117; exact w8s; exact rfl; exact rfl; exact (by decide)) | (apply OQ.load; exact w8c; exact rfl; exact (.there (.there .here)); exact (Row.cell c0)) | (apply OQ.load; exact w8c; exact rfl; exact (.there (.there .here)); exact (Row.cell c1)) | (apply OQ.load; exact w8c; exact rfl; exact (.there (.there .here)); exact (Row.cell c2)) | (apply OQ.load; exact w8c; exact rfl; exact (.there (.there .here)); exact (Row.cell c3)) | (apply OQ.load; exact w8c; exact rfl; exact (.there (.there .here)); exact (Row.cell c4)) | (apply OQ.load; exact w8c; exact rfl; exact (.there .here); exact (Row.cell d0)) | (apply OQ.load; exact w8c; exact rfl; exact (.there .here); exact (Row.cell d1)) | (apply OQ.load; exact w8c; exact rfl; exact (.there .here); exact (Row.cell d2)) | (apply OQ.load; exact w8c; exact rfl; exact (.there .here); exact (Row.cell d3)) | (apply OQ.load; exact w8c; exact rfl; exact (.there .here); exact (Row.cell d4)) | (apply OQ.add64 (b := 4503599627370458#64); exact rfl; exact rfl) | (apply OQ.add64 (b := 4503599627370494#64); exact rfl; exact rfl) | (apply OQ.sub64w; exact rfl; exact rfl)) rfl ?_ | refine JC.seq ?_ | refine JC.region ?_ | refine JL.nil ?_ | refine JE.next ?_)
  refine JL.q (OQ.pure (v := .agg ((⟨a.a0 + 4503599627370458#64 - b.a0, a.a1 + 4503599627370494#64 - b.a1, a.a2 + 4503599627370494#64 - b.a2, a.a3 + 4503599627370494#64 - b.a3, a.a4 + 4503599627370494#64 - b.a4⟩ : N5).l.map U64).toArray) rfl rfl (by kernel_rfl)) rfl ?_
  refine JL.q (OQ.callx goes_carried rfl fun w' _ => cc w') rfl ?_
  refine JL.store_all (cs := (difB a b).l.map U64) n5s rfl rfl rfl (W_cell _) .here rfl ?_
  repeat (first | refine JL.nil ?_ | refine JE.next ?_)
  refine JC.ret (JE.ret1 rfl (RV.cell_agg n5a n5s rfl .here rfl Row.all) ?_)
  exact fun w' hw => ⟨rfl, hw.chg⟩

set_option maxHeartbeats 8000000 in
theorem word_any (k : List By) (hk : k.length = 32) (p : Nat) (hp : p < 4) (w : World) : Calls Tryd.prog 99 [.agg (k.map U8).toArray, N p].toArray w fun e w' => e = .returned (U64 (wdB k p 8)) ∧ Ext w w' := by
  refine enter (n := 24) Tryd.func99 rfl rfl rfl (Holds.start w []) ?_
  repeat (first | refine JC.seq ?_ | refine JC.region ?_)
  refine JL.box (r := k.map U8) rfl rfl rfl fun b2 _ => ?_
  repeat (first | refine JL.q (by first | (apply OQ.move; exact rfl) | (apply OQ.assign; exact rfl)) rfl ?_ | refine JC.seq ?_ | refine JC.region ?_ | refine JC.block ?_ | refine JL.nil ?_ | refine JE.next ?_)
  refine JC.loop (fun i : Nat => [(1, N p), (2, Pt b2 0), (5, U64 (wdB k p i)), (7, N i)]) (fun _ => [⟨b2, Row 23 (k.map U8), true⟩])
    (fun i => 8 - i) (fun i => i ≤ 8) 0 (by omega) (by repeat (first | exact SubE.nil | refine SubE.cons _ _ _ rfl ?_)) (Less.refl _) ?_
  intro i hi
  repeat (first | refine JL.q (by (apply OQ.lssN; exact rfl; exact rfl)) rfl ?_ | refine JC.seq ?_ | refine JC.region ?_ | refine JL.nil ?_ | refine JE.next ?_)
  refine JC.cond rfl (fun h => ?_) (fun h => ?_)
  · have hi' : i < 8 := of_decide_eq_true h
    clear h hi
    have hc := U8_nth (l := k) (i := 8 * p + i) (by omega)
    repeat (first | refine JL.q (by first | (apply OQ.idxA0; exact Tryd.underlying23; exact y1s; exact rfl; exact rfl; exact (by (try simp only []); omega)) | (apply OQ.load; exact y1c; exact rfl; exact .here; exact (Row.cell hc)) | (apply OQ.conv8_64; exact rfl; exact rfl; exact rfl) | (apply OQ.shl64; exact rfl; exact rfl) | (apply OQ.or64; exact rfl; exact rfl) | (apply OQ.move; exact rfl) | (apply OQ.assign; exact rfl) | (apply OQ.addN; exact rfl; exact rfl; exact (by (try simp only []); omega)) | (apply OQ.mulN; exact rfl; exact rfl; exact (by (try simp only []); omega))) rfl ?_ | refine JC.seq ?_ | refine JC.region ?_ | refine JC.block ?_ | refine JC.skip ?_ | refine JL.nil ?_ | refine JE.next ?_ | refine JE.blk_normal ?_)
    exact JE.again (i := i) (i + 1) (by omega) (by omega) (by repeat (first | exact SubE.nil | refine SubE.cons _ _ _ rfl ?_)) (Less.refl _)
  · have hi' : ¬ i < 8 := of_decide_eq_false h
    obtain rfl : i = 8 := by omega
    clear h hi hi'
    generalize wdB k p 8 = X
    repeat (first | refine JL.q (by first | (apply OQ.move; exact rfl) | (apply OQ.assign; exact rfl)) rfl ?_ | refine JC.seq ?_ | refine JC.region ?_ | refine JC.exit ?_ | refine JL.nil ?_ | refine JE.next ?_ | refine JE.then_exit ?_ | refine JE.blk_hit ?_)
    refine JC.ret (JE.ret1 rfl (RV.tmp rfl) ?_)
    exact fun w' hw => ⟨rfl, hw.chg⟩

theorem goes_numberOf : Goes Tryd.prog 73 := ⟨_, Tryd.func73, rfl, by kernel_rfl⟩
set_option maxHeartbeats 8000000 in
theorem numberOf_any (u : List By) (hu : u.length = 32) (w : World) : Calls Tryd.prog 73 [.agg (u.map U8).toArray].toArray w fun e w' => e = .returned (.agg ((numB u).l.map U64).toArray) ∧ Ext w w' := by
  have hlu : (u.map U8).length = 32 := by rw [List.length_map]; exact hu
  have c0 := word_any u hu 0 (by decide)
  have c1 := word_any u hu 1 (by decide)
  have c2 := word_any u hu 2 (by decide)
  have c3 := word_any u hu 3 (by decide)
  have e : numB u = numW (wdB u 0 8) (wdB u 1 8) (wdB u 2 8) (wdB u 3 8) := rfl
  rw [e]
  generalize wdB u 0 8 = W0 at *
  generalize wdB u 1 8 = W1 at *
  generalize wdB u 2 8 = W2 at *
  generalize wdB u 3 8 = W3 at *
  clear e
  refine enter (n := 39) Tryd.func73 rfl rfl rfl (Holds.start w []) ?_
  repeat (first | refine JC.seq ?_ | refine JC.region ?_)
  refine JL.box (r := u.map U8) rfl rfl rfl fun b1 _ => ?_
  refine JL.alloc n5z rfl fun b2 _ => ?_
  repeat (first | refine JC.seq ?_ | refine JL.nil ?_ | refine JE.next ?_)
  refine JC.quiet mixC (by kernel_rfl) ?_
  repeat (first | refine JL.q (by first | (apply OQ.load_agg (cs := u.map U8); exact k32a; exact k32s; exact rfl; exact (.there .here); exact hlu; exact Row.all) | (apply OQ.callx (vs := [.agg (u.map U8).toArray, N 0]); exact goes_word; exact rfl; exact (fun w' _ => c0 w')) | (apply OQ.callx (vs := [.agg (u.map U8).toArray, N 1]); exact goes_word; exact rfl; exact (fun w' _ => c1 w')) | (apply OQ.callx (vs := [.agg (u.map U8).toArray, N 2]); exact goes_word; exact rfl; exact (fun w' _ => c2 w')) | (apply OQ.callx (vs := [.agg (u.map U8).toArray, N 3]); exact goes_word; exact rfl; exact (fun w' _ => c3 w')) | (apply OQ.and64 (b := 2251799813685247#64); exact rfl; exact rfl) | (apply OQ.shl64; exact rfl; exact rfl) | (apply OQ.or64; exact rfl; exact rfl) | (apply OQ.move; exact rfl) | (apply OQ.assign; exact rfl) | (apply OQ.shr64; exact rfl; exact rfl)) rfl ?_ | refine JQ.q (by first | (apply OQ.load_agg (cs := u.map U8); exact k32a; exact k32s; exact rfl; exact (.there .here); exact hlu; exact Row.all) | (apply OQ.callx (vs := [.agg (u.map U8).toArray, N 0]); exact goes_word; exact rfl; exact (fun w' _ => c0 w')) | (apply OQ.callx (vs := [.agg (u.map U8).toArray, N 1]); exact goes_word; exact rfl; exact (fun w' _ => c1 w')) | (apply OQ.callx (vs := [.agg (u.map U8).toArray, N 2]); exact goes_word; exact rfl; exact (fun w' _ => c2 w')) | (apply OQ.callx (vs := [.agg (u.map U8).toArray, N 3]); exact goes_word; exact rfl; exact (fun w' _ => c3 w')) | (apply OQ.and64 (b := 2251799813685247#64); exact rfl; exact rfl) | (apply OQ.shl64; exact rfl; exact rfl) | (apply OQ.or64; exact rfl; exact rfl) | (apply OQ.move; exact rfl) | (apply OQ.assign; exact rfl) | (apply OQ.shr64; exact rfl; exact rfl)) rfl ?_ | refine JC.seq ?_ | refine JC.region ?_ | refine JQ.nil ?_ | refine JE.next ?_)
  refine JL.q (OQ.pure (v := .agg ((numW W0 W1 W2 W3).l.map U64).toArray) rfl rfl (by kernel_rfl)) rfl ?_
  refine JL.store_all (cs := (numW W0 W1 W2 W3).l.map U64) n5s rfl rfl rfl (W_cell _) .here rfl ?_
  repeat (first | refine JL.nil ?_ | refine JE.next ?_)
  refine JC.ret (JE.ret1 rfl (RV.cell_agg n5a n5s rfl .here rfl Row.all) ?_)
  exact fun w' hw => ⟨rfl, hw.chg⟩
end Go.Proofs.YtbhlcnimjoppeaaDoor

/-
  Of no statement by itself: what the code's product gives: math/bits.Mul64, times, plus, rest, narrow, product.
  Conditions: each theorem's own.
-/
namespace Go.Proofs.YtbhlcnimjoppeaaDoor
set_option maxRecDepth 10000
open Sl Crv

/-- what Mul64 lays -/
def mulC (a b : W64) : W64 :=
  (a >>> 32) * (b >>> 32) + ((a >>> 32) * (b &&& 4294967295#64) + ((a &&& 4294967295#64) * (b &&& 4294967295#64)) >>> 32) >>> 32 +
    ((((a >>> 32) * (b &&& 4294967295#64) + ((a &&& 4294967295#64) * (b &&& 4294967295#64)) >>> 32) &&& 4294967295#64) + (a &&& 4294967295#64) * (b >>> 32)) >>> 32
theorem mask32 (x : W64) : (x &&& 4294967295#64).toNat = x.toNat % 4294967296 := by
  rw [BitVec.toNat_and, show (4294967295#64).toNat = 2 ^ 32 - 1 from rfl, Nat.and_two_pow_sub_one_eq_mod]
theorem mul32s {x y : W64} (hx : x.toNat < 4294967296) (hy : y.toNat < 4294967296) : (x * y).toNat = x.toNat * y.toNat ∧ x.toNat * y.toNat ≤ 18446744065119617025 := by
  have h : x.toNat * y.toNat ≤ 4294967295 * 4294967295 := Nat.mul_le_mul (by omega) (by omega)
  refine ⟨?_, by omega⟩
  rw [BitVec.toNat_mul]
  exact Nat.mod_eq_of_lt (by omega)
theorem split4 (x1 x0 y1 y0 : Nat) : (x1 * 4294967296 + x0) * (y1 * 4294967296 + y0) = x1 * y1 * 18446744073709551616 + (x1 * y0 + x0 * y1) * 4294967296 + x0 * y0 := by
  grind
theorem mulC_is (a b : W64) : mulC a b = mulHi a b := by
  apply BitVec.eq_of_toNat_eq
  rw [mulHi_is]
  have ha := a.isLt
  have hb := b.isLt
  have a1 := toNat_shr a 32
  have b1 := toNat_shr b 32
  have a0 := mask32 a
  have b0 := mask32 b
  have ea : a.toNat = a.toNat / 4294967296 * 4294967296 + a.toNat % 4294967296 := by omega
  have eb : b.toNat = b.toNat / 4294967296 * 4294967296 + b.toNat % 4294967296 := by omega
  have e := split4 (a.toNat / 4294967296) (a.toNat % 4294967296) (b.toNat / 4294967296) (b.toNat % 4294967296)
  rw [← ea, ← eb] at e
  unfold mulC
  have h1 : (a >>> 32).toNat < 4294967296 := by omega
  have h2 : (b >>> 32).toNat < 4294967296 := by omega
  have h3 : (a &&& 4294967295#64).toNat < 4294967296 := by omega
  have h4 : (b &&& 4294967295#64).toNat < 4294967296 := by omega
  have p11 := mul32s h1 h2
  have p10 := mul32s h1 h4
  have p01 := mul32s h3 h2
  have p00 := mul32s h3 h4
  rw [a1, b1] at p11
  rw [a1, b0] at p10
  rw [a0, b1] at p01
  rw [a0, b0] at p00
  clear ha hb ea eb h1 h2 h3 h4 a1 b1 a0 b0
  rw [show (2 : Nat) ^ 32 = 4294967296 from rfl] at *
  generalize (a >>> 32) * (b >>> 32) = q11 at *
  generalize (a >>> 32) * (b &&& 4294967295#64) = q10 at *
  generalize (a &&& 4294967295#64) * (b >>> 32) = q01 at *
  generalize (a &&& 4294967295#64) * (b &&& 4294967295#64) = q00 at *
  generalize a.toNat * b.toNat = pr at *
  generalize a.toNat / 4294967296 * (b.toNat / 4294967296) = n11 at *
  generalize a.toNat / 4294967296 * (b.toNat % 4294967296) = n10 at *
  generalize a.toNat % 4294967296 * (b.toNat / 4294967296) = n01 at *
  generalize a.toNat % 4294967296 * (b.toNat % 4294967296) = n00 at *
  have s1 := toNat_shr q00 32
  have t1 := toNat_add (x := q10) (y := q00 >>> 32) (by omega)
  have s2 := toNat_shr (q10 + q00 >>> 32) 32
  have m1 := mask32 (q10 + q00 >>> 32)
  have t2 := toNat_add (x := (q10 + q00 >>> 32) &&& 4294967295#64) (y := q01) (by omega)
  have s3 := toNat_shr (((q10 + q00 >>> 32) &&& 4294967295#64) + q01) 32
  have hbd : pr < 18446744073709551616 * 18446744073709551616 := by omega
  have u1 := toNat_add (x := q11) (y := (q10 + q00 >>> 32) >>> 32) (by omega)
  have u2 := toNat_add (x := q11 + (q10 + q00 >>> 32) >>> 32) (y := (((q10 + q00 >>> 32) &&& 4294967295#64) + q01) >>> 32) (by omega)
  rw [u2, u1, s3, t2, m1, s2, t1, s1]
  omega
theorem goes_mul64 : Goes Tryd.prog 121 := ⟨_, Tryd.func121, rfl, by kernel_rfl⟩
theorem is_add : IsAdd Tryd.prog 122 := ⟨_, Tryd.func122, by kernel_rfl, by kernel_rfl, by kernel_rfl, by kernel_rfl⟩
set_option maxHeartbeats 8000000 in
theorem mul64_any (a b : W64) (w : World) : Calls Tryd.prog 121 [U64 a, U64 b].toArray w fun e w' => e = .returned (.tuple #[U64 (mulHi a b), U64 (a * b)]) ∧ Ext w w' := by
  rw [← mulC_is]
  refine enter (n := 51) Tryd.func121 rfl rfl rfl (Holds.start w []) ?_
  repeat (first | refine JL.q (by first | (apply OQ.and64 (b := 4294967295#64); exact rfl; exact rfl) | (apply OQ.mul64; exact rfl; exact rfl) | (apply OQ.move; exact rfl) | (apply OQ.assign; exact rfl) | (apply OQ.add64; exact rfl; exact rfl) | (apply OQ.shr64; exact rfl; exact rfl)) rfl ?_ | refine JC.seq ?_ | refine JC.region ?_ | refine JL.nil ?_ | refine JE.next ?_)
  refine JC.ret ?_
  refine JE.ret2 rfl (RV.tmp rfl) (RV.tmp rfl) ?_
  exact fun w' hw => ⟨rfl, hw.chg⟩

theorem w2s : szT Tryd.prog 152 = some 2 := by kernel_rfl
theorem w2a : aggT Tryd.prog 152 = true := by kernel_rfl
theorem w2z : zc Tryd.prog 152 = some ((⟨0, 0⟩ : W2).l.map U64) := by kernel_rfl
theorem goes_times64 : Goes Tryd.prog 104 := ⟨_, Tryd.func104, rfl, by kernel_rfl⟩
theorem goes_plus : Goes Tryd.prog 105 := ⟨_, Tryd.func105, rfl, by kernel_rfl⟩
theorem goes_rest : Goes Tryd.prog 120 := ⟨_, Tryd.func120, rfl, by kernel_rfl⟩
theorem goes_narrow : Goes Tryd.prog 103 := ⟨_, Tryd.func103, rfl, by kernel_rfl⟩
theorem goes_product : Goes Tryd.prog 76 := ⟨_, Tryd.func76, rfl, by kernel_rfl⟩
set_option maxHeartbeats 8000000 in
theorem times64_any (a b : W64) (w : World) : Calls Tryd.prog 104 [U64 a, U64 b].toArray w fun e w' => e = .returned (.agg ((tms a b).l.map U64).toArray) ∧ Ext w w' := by
  refine enter (n := 16) Tryd.func104 rfl rfl rfl (Holds.start w []) ?_
  repeat (first | refine JC.seq ?_ | refine JC.region ?_)
  refine JL.alloc w2z rfl fun b4 _ => ?_
  repeat (first | refine JL.q (by first | (apply OQ.callx; exact goes_mul64; exact rfl; exact (fun w' _ => mul64_any a b w')) | (apply OQ.extract; exact rfl; exact rfl) | (apply OQ.move; exact rfl) | (apply OQ.assign; exact rfl)) rfl ?_ | refine JC.seq ?_ | refine JC.region ?_ | refine JL.nil ?_ | refine JE.next ?_)
  refine JL.q (OQ.pure (v := .agg ((tms a b).l.map U64).toArray) rfl rfl (by kernel_rfl)) rfl ?_
  refine JL.store_all (cs := (tms a b).l.map U64) w2s rfl rfl rfl (W_cell _) .here rfl ?_
  repeat (first | refine JL.nil ?_ | refine JE.next ?_)
  refine JC.ret (JE.ret1 rfl (RV.cell_agg w2a w2s rfl .here rfl Row.all) ?_)
  exact fun w' hw => ⟨rfl, hw.chg⟩
theorem cry_le (a b : W64) : (cry a b).toNat ≤ 1 := by
  rw [cry_is]
  have := a.isLt
  have := b.isLt
  omega
theorem add_s0 (a b : W64) : (a + b).toNat = (a.toNat + b.toNat + (0#64 : W64).toNat) % 18446744073709551616 := by
  rw [BitVec.toNat_add]; rfl
theorem add_o0 (a b : W64) : (cry a b).toNat = (a.toNat + b.toNat + (0#64 : W64).toNat) / 18446744073709551616 := cry_is a b
theorem add_s1 (a b c : W64) : (a + b + c).toNat = (a.toNat + b.toNat + c.toNat) % 18446744073709551616 := by
  rw [BitVec.toNat_add, BitVec.toNat_add]
  omega
theorem add_o1 (a b c : W64) : (BitVec.ofNat 64 ((a.toNat + b.toNat + c.toNat) / 18446744073709551616)).toNat = (a.toNat + b.toNat + c.toNat) / 18446744073709551616 := by
  rw [BitVec.toNat_ofNat]
  have := a.isLt
  have := b.isLt
  have := c.isLt
  omega
set_option maxHeartbeats 8000000 in
theorem plus_any (v : W2) (a b : W64) (w : World) : Calls Tryd.prog 105 [.agg (v.l.map U64).toArray, U64 a, U64 b].toArray w fun e w' => e = .returned (.agg ((pls v a b).l.map U64).toArray) ∧ Ext w w' := by
  have c0 : (v.l.map U64)[0]? = some (U64 v.hi) := rfl
  have c1 : (v.l.map U64)[1]? = some (U64 v.lo) := rfl
  refine enter (n := 34) Tryd.func105 rfl rfl rfl (Holds.start w []) ?_
  repeat (first | refine JC.seq ?_ | refine JC.region ?_)
  refine JL.box (r := v.l.map U64) rfl rfl rfl fun b3 _ => ?_
  refine JL.alloc w2z rfl fun b6 _ => ?_
  repeat (first | refine JL.q (by first | (apply OQ.callx; exact goes_mul64; exact rfl; exact (fun w' _ => mul64_any a b w')) | (apply OQ.extract; exact rfl; exact rfl) | (apply OQ.load; exact w8c; exact rfl; exact (.there .here); exact (Row.cell c1)) | (apply OQ.load; exact w8c; exact rfl; exact (.there .here); exact (Row.cell c0)) | (apply OQ.add64c (c := 0#64) (s := v.lo + a * b) (o := cry v.lo (a * b)); exact is_add; exact rfl; exact rfl; exact rfl; exact (by decide); exact (add_s0 _ _); exact (add_o0 _ _)) | (apply OQ.add64c (c := cry v.lo (a * b)) (s := v.hi + mulHi a b + cry v.lo (a * b)); exact is_add; exact rfl; exact rfl; exact rfl; exact (cry_le _ _); exact (add_s1 _ _ _); exact (add_o1 _ _ _)) | (apply OQ.move; exact rfl) | (apply OQ.assign; exact rfl) | (apply OQ.fld; exact rfl; exact rfl; exact rfl; exact (by decide); exact rfl)) rfl ?_ | refine JC.seq ?_ | refine JC.region ?_ | refine JL.nil ?_ | refine JE.next ?_)
  refine JL.q (OQ.pure (v := .agg ((pls v a b).l.map U64).toArray) rfl rfl (by kernel_rfl)) rfl ?_
  refine JL.store_all (cs := (pls v a b).l.map U64) w2s rfl rfl rfl (W_cell _) .here rfl ?_
  repeat (first | refine JL.nil ?_ | refine JE.next ?_)
  refine JC.ret (JE.ret1 rfl (RV.cell_agg w2a w2s rfl .here rfl Row.all) ?_)
  exact fun w' hw => ⟨rfl, hw.chg⟩
set_option maxHeartbeats 8000000 in
theorem rest_any (v : W2) (w : World) : Calls Tryd.prog 120 [.agg (v.l.map U64).toArray].toArray w fun e w' => e = .returned (U64 (rst v)) ∧ Ext w w' := by
  have c0 : (v.l.map U64)[0]? = some (U64 v.hi) := rfl
  have c1 : (v.l.map U64)[1]? = some (U64 v.lo) := rfl
  refine enter (n := 10) Tryd.func120 rfl rfl rfl (Holds.start w []) ?_
  repeat (first | refine JC.seq ?_ | refine JC.region ?_)
  refine JL.box (r := v.l.map U64) rfl rfl rfl fun b1 _ => ?_
  repeat (first | refine JL.q (by first | (apply OQ.load; exact w8c; exact rfl; exact .here; exact (Row.cell c1)) | (apply OQ.load; exact w8c; exact rfl; exact .here; exact (Row.cell c0)) | (apply OQ.shl64; exact rfl; exact rfl) | (apply OQ.or64; exact rfl; exact rfl) | (apply OQ.assign; exact rfl) | (apply OQ.shr64; exact rfl; exact rfl) | (apply OQ.fld; exact rfl; exact rfl; exact rfl; exact (by decide); exact rfl)) rfl ?_ | refine JC.seq ?_ | refine JC.region ?_ | refine JL.nil ?_ | refine JE.next ?_)
  refine JC.ret (JE.ret1 rfl (RV.tmp rfl) ?_)
  exact fun w' hw => ⟨rfl, hw.chg⟩
set_option maxHeartbeats 16000000 in
theorem narrow_any (v0 v1 v2 v3 v4 : W2) (w : World) : Calls Tryd.prog 103 [.agg (v0.l.map U64).toArray, .agg (v1.l.map U64).toArray, .agg (v2.l.map U64).toArray, .agg (v3.l.map U64).toArray, .agg (v4.l.map U64).toArray].toArray w
    fun e w' => e = .returned (.agg ((nrw v0 v1 v2 v3 v4).l.map U64).toArray) ∧ Ext w w' := by
  have c0 : (v0.l.map U64)[1]? = some (U64 v0.lo) := rfl
  have c1 : (v1.l.map U64)[1]? = some (U64 v1.lo) := rfl
  have c2 : (v2.l.map U64)[1]? = some (U64 v2.lo) := rfl
  have c3 : (v3.l.map U64)[1]? = some (U64 v3.lo) := rfl
  have c4 : (v4.l.map U64)[1]? = some (U64 v4.lo) := rfl
  have cc := carried_any ⟨(v0.lo &&& 2251799813685247#64) + 19#64 * rst v4, (v1.lo &&& 2251799813685247#64) + rst v0, (v2.lo &&& 2251799813685247#64) + rst v1, (v3.lo &&& 2251799813685247#64) + rst v2, (v4.lo &&& 2251799813685247#64) + rst v3⟩
  refine enter (n := 44) Tryd.func103 rfl rfl rfl (Holds.start w []) ?_
  repeat (first | refine JC.seq ?_ | refine JC.region ?_)
  refine JL.box (r := v0.l.map U64) rfl rfl rfl fun b5 _ => ?_
  refine JL.box (r := v1.l.map U64) rfl rfl rfl fun b6 _ => ?_
  refine JL.box (r := v2.l.map U64) rfl rfl rfl fun b7 _ => ?_
  refine JL.box (r := v3.l.map U64) rfl rfl rfl fun b8 _ => ?_
  refine JL.box (r := v4.l.map U64) rfl rfl rfl fun b9 _ => ?_
  refine JL.alloc n5z rfl fun b10 _ => ?_
  repeat (first | refine JC.seq ?_ | refine JL.nil ?_ | refine JE.next ?_)
  refine JC.tail 33 mixC (by kernel_rfl) ?_
  simp only [List.take_succ_cons, List.take_zero, List.drop_succ_cons, List.drop_zero]
  repeat (refine JQ.q (by first | (apply OQ.load; exact w8c; exact rfl; exact (by repeat (first | exact Has.here | apply Has.there)); exact (Row.cell c0)) | (apply OQ.load; exact w8c; exact rfl; exact (by repeat (first | exact Has.here | apply Has.there)); exact (Row.cell c1)) | (apply OQ.load; exact w8c; exact rfl; exact (by repeat (first | exact Has.here | apply Has.there)); exact (Row.cell c2)) | (apply OQ.load; exact w8c; exact rfl; exact (by repeat (first | exact Has.here | apply Has.there)); exact (Row.cell c3)) | (apply OQ.load; exact w8c; exact rfl; exact (by repeat (first | exact Has.here | apply Has.there)); exact (Row.cell c4)) | (apply OQ.load_agg (cs := v0.l.map U64); exact w2a; exact w2s; exact rfl; exact (by repeat (first | exact Has.here | apply Has.there)); exact rfl; exact Row.all) | (apply OQ.load_agg (cs := v1.l.map U64); exact w2a; exact w2s; exact rfl; exact (by repeat (first | exact Has.here | apply Has.there)); exact rfl; exact Row.all) | (apply OQ.load_agg (cs := v2.l.map U64); exact w2a; exact w2s; exact rfl; exact (by repeat (first | exact Has.here | apply Has.there)); exact rfl; exact Row.all) | (apply OQ.load_agg (cs := v3.l.map U64); exact w2a; exact w2s; exact rfl; exact (by repeat (first | exact Has.here | apply Has.there)); exact rfl; exact Row.all) | (apply OQ.load_agg (cs := v4.l.map U64); exact w2a; exact w2s; exact rfl; exact (by repeat (first | exact Has.here | apply Has.there)); exact rfl; exact Row.all) | (apply OQ.callx; exact goes_rest; exact rfl; exact (fun w' _ => rest_any _ w')) | (apply OQ.and64 (b := 2251799813685247#64); exact rfl; exact rfl) | (apply OQ.mul64 (a := 19#64); exact rfl; exact rfl) | (apply OQ.add64; exact rfl; exact rfl) | (apply OQ.fld; exact rfl; exact rfl; exact rfl; exact (by decide); exact rfl)) rfl ?_)
  refine JQ.q (OQ.pure (v := .agg ((⟨(v0.lo &&& 2251799813685247#64) + 19#64 * rst v4, (v1.lo &&& 2251799813685247#64) + rst v0, (v2.lo &&& 2251799813685247#64) + rst v1, (v3.lo &&& 2251799813685247#64) + rst v2, (v4.lo &&& 2251799813685247#64) + rst v3⟩ : N5).l.map U64).toArray) rfl rfl (by kernel_rfl)) rfl ?_
  refine JQ.q (OQ.callx goes_carried rfl fun w' _ => cc w') rfl ?_
  repeat (refine JQ.nil_tail ?_)
  refine JL.store_all (cs := (nrw v0 v1 v2 v3 v4).l.map U64) n5s rfl rfl rfl (W_cell _) .here rfl ?_
  repeat (first | refine JL.nil ?_ | refine JE.next ?_)
  refine JC.ret (JE.ret1 rfl (RV.cell_agg n5a n5s rfl .here rfl Row.all) ?_)
  exact fun w' hw => ⟨rfl, hw.chg⟩
end Go.Proofs.YtbhlcnimjoppeaaDoor

/-
  Of no statement by itself: what the code's product, squared and inverse give.
  Conditions: each theorem's own.
-/
namespace Go.Proofs.YtbhlcnimjoppeaaDoor
set_option maxRecDepth 10000
open Sl Crv
set_option maxHeartbeats 32000000 in
set_option maxRecDepth 4000 in
theorem product_any (a b : N5) (w : World) : Calls Tryd.prog 76 [.agg (a.l.map U64).toArray, .agg (b.l.map U64).toArray].toArray w fun e w' => e = .returned (.agg ((prdB a b).l.map U64).toArray) ∧ Ext w w' := by
  have c0 : (a.l.map U64)[0]? = some (U64 a.a0) := rfl
  have c1 : (a.l.map U64)[1]? = some (U64 a.a1) := rfl
  have c2 : (a.l.map U64)[2]? = some (U64 a.a2) := rfl
  have c3 : (a.l.map U64)[3]? = some (U64 a.a3) := rfl
  have c4 : (a.l.map U64)[4]? = some (U64 a.a4) := rfl
  have d0 : (b.l.map U64)[0]? = some (U64 b.a0) := rfl
  have d1 : (b.l.map U64)[1]? = some (U64 b.a1) := rfl
  have d2 : (b.l.map U64)[2]? = some (U64 b.a2) := rfl
  have d3 : (b.l.map U64)[3]? = some (U64 b.a3) := rfl
  have d4 : (b.l.map U64)[4]? = some (U64 b.a4) := rfl
  refine enter (n := 123) Tryd.func76 rfl rfl rfl (Holds.start w []) ?_
  repeat (first | refine JC.seq ?_ | refine JC.region ?_)
  refine JL.box (r := a.l.map U64) rfl rfl rfl fun b2 _ => ?_
  refine JL.box (r := b.l.map U64) rfl rfl rfl fun b3 _ => ?_
  refine JL.alloc n5z rfl fun b4 _ => ?_
  repeat (first | refine JC.seq ?_ | refine JL.nil ?_ | refine JE.next ?_)
  refine JC.quiet mixC (by kernel_rfl) ?_
  repeat (first | refine JQ.q (by first | (apply OQ.idxA0; exact Tryd.underlying117; exact w8s; exact rfl; exact rfl; exact (by decide)) | (apply OQ.load; exact w8c; exact rfl; exact (.there (.there .here)); exact (Row.cell c0)) | (apply OQ.load; exact w8c; exact rfl; exact (.there (.there .here)); exact (Row.cell c1)) | (apply OQ.load; exact w8c; exact rfl; exact (.there (.there .here)); exact (Row.cell c2)) | (apply OQ.load; exact w8c; exact rfl; exact (.there (.there .here)); exact (Row.cell c3)) | (apply OQ.load; exact w8c; exact rfl; exact (.there (.there .here)); exact (Row.cell c4)) | (apply OQ.assign; exact rfl)) rfl ?_ | refine JC.seq ?_ | refine JQ.nil ?_ | refine JE.next ?_)
  refine JC.quiet mixC (by kernel_rfl) ?_
  repeat (first | refine JL.q (by first | (apply OQ.idxA0; exact Tryd.underlying117; exact w8s; exact rfl; exact rfl; exact (by decide)) | (apply OQ.load; exact w8c; exact rfl; exact (.there .here); exact (Row.cell d0)) | (apply OQ.load; exact w8c; exact rfl; exact (.there .here); exact (Row.cell d1)) | (apply OQ.load; exact w8c; exact rfl; exact (.there .here); exact (Row.cell d2)) | (apply OQ.load; exact w8c; exact rfl; exact (.there .here); exact (Row.cell d3)) | (apply OQ.load; exact w8c; exact rfl; exact (.there .here); exact (Row.cell d4)) | (apply OQ.mul64 (a := 19#64); exact rfl; exact rfl) | (apply OQ.move; exact rfl) | (apply OQ.assign; exact rfl)) rfl ?_ | refine JQ.q (by first | (apply OQ.idxA0; exact Tryd.underlying117; exact w8s; exact rfl; exact rfl; exact (by decide)) | (apply OQ.load; exact w8c; exact rfl; exact (.there .here); exact (Row.cell d0)) | (apply OQ.load; exact w8c; exact rfl; exact (.there .here); exact (Row.cell d1)) | (apply OQ.load; exact w8c; exact rfl; exact (.there .here); exact (Row.cell d2)) | (apply OQ.load; exact w8c; exact rfl; exact (.there .here); exact (Row.cell d3)) | (apply OQ.load; exact w8c; exact rfl; exact (.there .here); exact (Row.cell d4)) | (apply OQ.mul64 (a := 19#64); exact rfl; exact rfl) | (apply OQ.move; exact rfl) | (apply OQ.assign; exact rfl)) rfl ?_ | refine JC.seq ?_ | refine JC.region ?_ | refine JL.nil ?_ | refine JQ.nil ?_ | refine JE.next ?_)
  simp only [List.append]
  repeat (refine JL.q (by first | (apply OQ.callx; exact goes_times64; exact rfl; exact (fun w' _ => times64_any _ _ w')) | (apply OQ.callx; exact goes_plus; exact rfl; exact (fun w' _ => plus_any _ _ _ w')) | (apply OQ.move; exact rfl)) rfl ?_)
  refine JL.q (OQ.callx goes_narrow rfl fun w' _ => narrow_any _ _ _ _ _ w') rfl ?_
  refine JL.store_all (cs := (prdB a b).l.map U64) n5s rfl rfl rfl (W_cell _) .here rfl ?_
  repeat (first | refine JL.nil ?_ | refine JE.next ?_)
  refine JC.ret (JE.ret1 rfl (RV.cell_agg n5a n5s rfl .here rfl Row.all) ?_)
  exact fun w' hw => ⟨rfl, hw.chg⟩

theorem goes_squared : Goes Tryd.prog 106 := ⟨_, Tryd.func106, rfl, by kernel_rfl⟩
theorem goes_inverse : Goes Tryd.prog 77 := ⟨_, Tryd.func77, rfl, by kernel_rfl⟩
set_option maxHeartbeats 8000000 in
theorem squared_any (a : N5) (k : Nat) (hk : k < 1000) (w : World) : Calls Tryd.prog 106 [.agg (a.l.map U64).toArray, N k].toArray w fun e w' => e = .returned (.agg ((sqB a k).l.map U64).toArray) ∧ Ext w w' := by
  refine enter (n := 13) Tryd.func106 rfl rfl rfl (Holds.start w []) ?_
  repeat (first | refine JC.seq ?_ | refine JC.region ?_)
  refine JL.box (r := a.l.map U64) rfl rfl rfl fun b2 _ => ?_
  refine JL.alloc n5z rfl fun b4 _ => ?_
  repeat (first | refine JL.q (by (apply OQ.move; exact rfl)) rfl ?_ | refine JC.seq ?_ | refine JC.region ?_ | refine JC.block ?_ | refine JL.nil ?_ | refine JE.next ?_)
  refine JC.loop (fun i : Nat => [(2, Pt b2 0), (4, Pt b4 0), (5, N k), (6, N i)]) (fun i => [⟨b4, Row 117 (zeroN.l.map U64), true⟩, ⟨b2, Row 117 ((sqB a i).l.map U64), true⟩])
    (fun i => k - i) (fun i => i ≤ k) 0 (by omega) (by repeat (first | exact SubE.nil | refine SubE.cons _ _ _ rfl ?_)) (Less.refl _) ?_
  intro i hi
  repeat (first | refine JL.q (by (apply OQ.lssN; exact rfl; exact rfl)) rfl ?_ | refine JC.seq ?_ | refine JC.region ?_ | refine JL.nil ?_ | refine JE.next ?_)
  refine JC.cond rfl (fun h => ?_) (fun h => ?_)
  · have hi' : i < k := of_decide_eq_true h
    clear h hi
    have c := product_any (sqB a i) (sqB a i)
    repeat (first | refine JL.q (by first | (apply OQ.load_agg (cs := (sqB a i).l.map U64); exact n5a; exact n5s; exact rfl; exact (.there .here); exact rfl; exact Row.all) | (apply OQ.callx; exact goes_product; exact rfl; exact (fun w' _ => c w'))) rfl ?_ | refine JC.seq ?_ | refine JC.region ?_ | refine JC.block ?_ | refine JC.skip ?_ | refine JE.next ?_)
    refine JL.store_all (cs := (sqB a (i + 1)).l.map U64) n5s rfl rfl rfl (W_cell _) (.there .here) rfl ?_
    repeat (first | refine JL.q (by first | (apply OQ.move; exact rfl) | (apply OQ.addN; exact rfl; exact rfl; exact (by (try simp only []); omega))) rfl ?_ | refine JC.region ?_ | refine JL.nil ?_ | refine JE.next ?_ | refine JE.blk_normal ?_)
    exact JE.again (i := i) (i + 1) (by omega) (by omega) (by repeat (first | exact SubE.nil | refine SubE.cons _ _ _ rfl ?_)) (Less.refl _)
  · have hi' : ¬ i < k := of_decide_eq_false h
    obtain rfl : i = k := by omega
    clear h hi hi'
    generalize sqB a i = X
    repeat (first | refine JL.q (by (apply OQ.load_agg (cs := X.l.map U64); exact n5a; exact n5s; exact rfl; exact (.there .here); exact rfl; exact Row.all)) rfl ?_ | refine JC.seq ?_ | refine JC.region ?_ | refine JC.exit ?_ | refine JE.next ?_ | refine JE.then_exit ?_ | refine JE.blk_hit ?_)
    refine JL.store_all (cs := X.l.map U64) n5s rfl rfl rfl (W_cell _) .here rfl ?_
    repeat (first | refine JL.nil ?_ | refine JE.next ?_)
    refine JC.ret (JE.ret1 rfl (RV.cell_agg n5a n5s rfl .here rfl Row.all) ?_)
    exact fun w' hw => ⟨rfl, hw.chg⟩
end Go.Proofs.YtbhlcnimjoppeaaDoor
