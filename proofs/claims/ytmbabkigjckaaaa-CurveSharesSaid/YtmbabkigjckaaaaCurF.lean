/-
  Of no statement by itself: what the reference's Mult gives.
  Conditions: each theorem's own.
-/
import Derived.Test.YtmbabkigjckaaaaCurE
import Derived.Test.YtmbabkigjckaaaaCrvM
namespace Go.Proofs.Ytmbabkigjckaaaa
open Sl Crv

theorem goes_rmult : Goes Try.prog 10 := ⟨_, Try.func10, rfl, by kernel_rfl⟩
def need12 : Nat → List (Nat × Nat)
  | 2 => [(0, 55), (1, 56)]
  | 5 => [(3, 58), (4, 59)]
  | 8 => [(6, 61), (7, 62)]
  | 11 => [(9, 64), (10, 65)]
  | 16 => [(12, 12), (2, 57)]
  | 17 => [(13, 13), (5, 60)]
  | 18 => [(14, 14), (8, 63)]
  | 19 => [(15, 15), (11, 66)]
  | _ => []
def need13 : Nat → List (Nat × Nat)
  | 2 => [(0, 67), (1, 68)]
  | 5 => [(3, 70), (4, 71)]
  | 8 => [(6, 73), (7, 74)]
  | 11 => [(9, 76), (10, 77)]
  | 16 => [(12, 16), (2, 69)]
  | 17 => [(13, 17), (5, 72)]
  | 18 => [(14, 18), (8, 75)]
  | 19 => [(15, 19), (11, 78)]
  | _ => []
def inp12 : Nat → List Nat
  | 0 => [20]
  | 1 => [21]
  | 3 => [20]
  | 4 => [21]
  | 6 => [22]
  | 7 => [23]
  | 9 => [22]
  | 10 => [23]
  | 16 => [12]
  | 17 => [13]
  | 18 => [14]
  | 19 => [15]
  | _ => []
/-- d a c b a a b b: where a b c d lie as 20 21 22 23 -/
def inp13 : Nat → List Nat
  | 0 => [23]
  | 1 => [20]
  | 3 => [22]
  | 4 => [21]
  | 6 => [20]
  | 7 => [20]
  | 9 => [21]
  | 10 => [21]
  | 16 => [12]
  | 17 => [13]
  | 18 => [14]
  | 19 => [15]
  | _ => []
def eat12 : Nat → List Nat
  | 16 => [12]
  | 17 => [13]
  | 18 => [14]
  | 19 => [15]
  | _ => []
def src12 : Nat → Option Nat
  | 16 => some 12
  | 17 => some 13
  | 18 => some 14
  | 19 => some 15
  | _ => none
def need4 : Nat → List (Nat × Nat)
  | 8 => [(4, 6), (0, 33)]
  | 9 => [(5, 7), (1, 34)]
  | 10 => [(6, 8), (2, 35)]
  | 11 => [(7, 9), (3, 36)]
  | _ => []
def inp4 : Nat → List Nat
  | 2 => [12]
  | 8 => [4]
  | 9 => [5]
  | 10 => [6]
  | 11 => [7]
  | _ => []
def eat4 : Nat → List Nat
  | 8 => [4]
  | 9 => [5]
  | 10 => [6]
  | 11 => [7]
  | _ => []
def src4 : Nat → Option Nat
  | 8 => some 4
  | 9 => some 5
  | 10 => some 6
  | 11 => some 7
  | _ => none

theorem bit_is (x : By) (k : Nat) (h : k < 8) : decide ((x >>> k) &&& 1#8 = 1#8) = x.toNat.testBit k := by
  have h8 : ∀ k : Fin 8, ∀ x : By, decide ((x >>> k.val) &&& 1#8 = 1#8) = x.toNat.testBit k.val := by decide +kernel
  exact h8 ⟨k, h⟩ x

set_option maxHeartbeats 32000000 in
set_option maxRecDepth 4000 in
theorem rmult_any (k u : List By) (hk : k.length = 32) (hu : u.length = 32) (w : World) : Calls Try.prog 10 [.agg (k.map U8).toArray, .agg (u.map U8).toArray].toArray w fun e w' => e = .returned (.agg ((multB k u).map U8).toArray) ∧ Ext w w' := by
  have eM := ladL_mult k u hu
  have hK : (clampB k).length = 32 := by rw [clampB_len, hk]
  have eK : clampB k = (k.set 0 (k.getD 0 0 / 8 * 8)).set 31 ((k.set 0 (k.getD 0 0 / 8 * 8)).getD 31 0 % 64 + 64) := rfl
  have hc0 := U8_nth (l := k) (i := 0) (by omega)
  have hc31 := U8_nth (l := k.set 0 (k.getD 0 0 / 8 * 8)) (i := 31) (by rw [List.length_set]; omega)
  have gx := readL_good u
  have cR := nread_any u hu
  have hlu : (u.map U8).length = 32 := by rw [List.length_map]; exact hu
  generalize hx1 : readL u = x1 at eM gx cR
  refine enter (n := 119) Try.func10 rfl rfl rfl (Holds.start w []) ?_
  repeat (first | refine JL.q (by first | (apply OQ.move; exact rfl) | (apply OQ.assign; exact rfl) | (apply OQ.remN; exact rfl; exact rfl; exact (by (try simp only []); omega)) | (apply OQ.quoN; exact rfl; exact rfl; exact (by (try simp only []); omega); exact (by (try simp only []); omega)) | (apply OQ.idxA0; exact rfl; exact rfl; exact rfl; exact rfl; exact (by (try simp only []); omega))) rfl ?_ | refine JC.seq ?_ | refine JC.region ?_ | refine JC.block ?_ | refine JC.skip ?_ | refine JC.exit ?_ | refine JL.nil ?_ | refine JE.next ?_ | refine JE.blk_normal ?_ | refine JE.then_exit ?_ | refine JE.blk_hit ?_ | refine JE.blk_miss rfl ?_ | refine JE.then_ret ?_ | refine JE.blk_ret ?_ | refine JC.label ?_ | refine JL.gon rfl rfl ?_ | refine JL.gskip rfl rfl rfl rfl ?_)
  refine JL.box (r := k.map U8) rfl rfl rfl fun b2 _ => ?_
  refine JL.box (r := u.map U8) rfl rfl rfl fun b3 _ => ?_
  refine JL.alloc k32z rfl fun b4 _ => ?_
  repeat (first | refine JL.q (by first | (apply OQ.idxA0; exact Try.underlying23; exact y1s; exact rfl; exact rfl; exact (by decide)) | (apply OQ.load; exact y1c; exact rfl; exact (.there (.there .here)); exact (Row.cell hc0)) | (apply OQ.quo8 (b := 8#8); exact rfl; exact rfl; exact (by decide)) | (apply OQ.mul8 (b := 8#8); exact rfl; exact rfl) | (apply OQ.move; exact rfl) | (apply OQ.assign; exact rfl) | (apply OQ.remN; exact rfl; exact rfl; exact (by (try simp only []); omega)) | (apply OQ.quoN; exact rfl; exact rfl; exact (by (try simp only []); omega); exact (by (try simp only []); omega)) | (apply OQ.idxA0; exact rfl; exact rfl; exact rfl; exact rfl; exact (by (try simp only []); omega))) rfl ?_ | refine JC.seq ?_ | refine JC.region ?_ | refine JC.block ?_ | refine JC.skip ?_ | refine JC.exit ?_ | refine JL.nil ?_ | refine JE.next ?_ | refine JE.blk_normal ?_ | refine JE.then_exit ?_ | refine JE.blk_hit ?_ | refine JE.blk_miss rfl ?_ | refine JE.then_ret ?_ | refine JE.blk_ret ?_ | refine JC.label ?_ | refine JL.gon rfl rfl ?_ | refine JL.gskip rfl rfl rfl rfl ?_)
  refine JL.store_eq (r' := (k.set 0 (k.getD 0 0 / 8 * 8)).map U8) y1s rfl rfl rfl rfl (.there (.there .here)) (by rw [List.length_map, hk]; decide) (Y_set _ _ _) ?_
  repeat (first | refine JL.q (by first | (apply OQ.idxA0; exact Try.underlying23; exact y1s; exact rfl; exact rfl; exact (by decide)) | (apply OQ.load; exact y1c; exact rfl; exact (.there (.there .here)); exact (Row.cell hc31)) | (apply OQ.rem8 (b := 64#8); exact rfl; exact rfl; exact (by decide)) | (apply OQ.add8 (b := 64#8); exact rfl; exact rfl) | (apply OQ.move; exact rfl) | (apply OQ.assign; exact rfl) | (apply OQ.remN; exact rfl; exact rfl; exact (by (try simp only []); omega)) | (apply OQ.quoN; exact rfl; exact rfl; exact (by (try simp only []); omega); exact (by (try simp only []); omega)) | (apply OQ.idxA0; exact rfl; exact rfl; exact rfl; exact rfl; exact (by (try simp only []); omega))) rfl ?_ | refine JC.seq ?_ | refine JC.region ?_ | refine JC.block ?_ | refine JC.skip ?_ | refine JC.exit ?_ | refine JL.nil ?_ | refine JE.next ?_ | refine JE.blk_normal ?_ | refine JE.then_exit ?_ | refine JE.blk_hit ?_ | refine JE.blk_miss rfl ?_ | refine JE.then_ret ?_ | refine JE.blk_ret ?_ | refine JC.label ?_ | refine JL.gon rfl rfl ?_ | refine JL.gskip rfl rfl rfl rfl ?_)
  refine JL.store_eq (r' := (clampB k).map U8) y1s rfl rfl rfl rfl (.there (.there .here)) (by rw [List.length_map, List.length_set, hk]; decide) (Y_set _ _ _) ?_
  generalize clampB k = K at eM hK
  clear hc0 hc31 eK
  have hx1l : (x1.map I).length = 16 := by rw [List.length_map]; exact gx.len
  repeat (first | refine JL.q (by first | (apply OQ.load_agg (cs := u.map U8); exact k32a; exact k32s; exact rfl; exact (.there .here); exact hlu; exact Row.all) | (apply OQ.callx; exact goes_nread; exact rfl; exact (fun w' _ => cR w')) | (apply OQ.move; exact rfl) | (apply OQ.assign; exact rfl) | (apply OQ.remN; exact rfl; exact rfl; exact (by (try simp only []); omega)) | (apply OQ.quoN; exact rfl; exact rfl; exact (by (try simp only []); omega); exact (by (try simp only []); omega)) | (apply OQ.idxA0; exact rfl; exact rfl; exact rfl; exact rfl; exact (by (try simp only []); omega))) rfl ?_ | refine JC.seq ?_ | refine JC.region ?_ | refine JC.block ?_ | refine JC.skip ?_ | refine JC.exit ?_ | refine JL.nil ?_ | refine JE.next ?_ | refine JE.blk_normal ?_ | refine JE.then_exit ?_ | refine JE.blk_hit ?_ | refine JE.blk_miss rfl ?_ | refine JE.then_ret ?_ | refine JE.blk_ret ?_ | refine JC.label ?_ | refine JL.gon rfl rfl ?_ | refine JL.gskip rfl rfl rfl rfl ?_)
  refine JL.alloc n16z rfl fun b5 _ => ?_
  refine JL.store_all (cs := x1.map I) n16s rfl rfl hx1l (I_cell _) .here (by simp) ?_
  repeat (first | refine JL.q (by first | (apply OQ.move; exact rfl) | (apply OQ.assign; exact rfl) | (apply OQ.remN; exact rfl; exact rfl; exact (by (try simp only []); omega)) | (apply OQ.quoN; exact rfl; exact rfl; exact (by (try simp only []); omega); exact (by (try simp only []); omega)) | (apply OQ.idxA0; exact rfl; exact rfl; exact rfl; exact rfl; exact (by (try simp only []); omega))) rfl ?_ | refine JC.seq ?_ | refine JC.region ?_ | refine JC.block ?_ | refine JC.skip ?_ | refine JC.exit ?_ | refine JL.nil ?_ | refine JE.next ?_ | refine JE.blk_normal ?_ | refine JE.then_exit ?_ | refine JE.blk_hit ?_ | refine JE.blk_miss rfl ?_ | refine JE.then_ret ?_ | refine JE.blk_ret ?_ | refine JC.label ?_ | refine JL.gon rfl rfl ?_ | refine JL.gskip rfl rfl rfl rfl ?_)
  · let vs : Nat → Nat → Value := fun j x => match j with
      | 0 => .agg (oneL.map I).toArray
      | 1 => .agg ((List.replicate 16 (0 : Int)).map I).toArray
      | 2 => .agg (x1.map I).toArray
      | 3 => .agg (oneL.map I).toArray
      | _ => Pt x 0
    let Ms : Nat → Nat → List Ent := fun j x => match j with
      | 4 => [⟨x, Row 45 ((List.replicate 16 (0 : Int)).map I), true⟩]
      | 5 => [⟨x, Row 45 ((List.replicate 16 (0 : Int)).map I), true⟩]
      | 6 => [⟨x, Row 45 ((List.replicate 16 (0 : Int)).map I), true⟩]
      | 7 => [⟨x, Row 45 ((List.replicate 16 (0 : Int)).map I), true⟩]
      | 8 => [⟨x, Row 45 (oneL.map I), true⟩]
      | 9 => [⟨x, Row 45 ((List.replicate 16 (0 : Int)).map I), true⟩]
      | 10 => [⟨x, Row 45 (x1.map I), true⟩]
      | 11 => [⟨x, Row 45 (oneL.map I), true⟩]
      | 12 => [⟨b5, Row 45 (x1.map I), true⟩]
      | 13 => [⟨b4, Row 23 ((List.replicate 32 (0 : By)).map U8), true⟩]
      | 14 => [⟨b2, Row 23 (K.map U8), true⟩]
      | _ => []
    refine JC.grow (g := ⟨[(2, Pt b2 0), (4, Pt b4 0), (5, Pt b5 0)], 15, vs, Ms, need4, inp4, eat4, src4⟩) [(4, 6), (5, 7), (6, 8), (7, 9)] [8, 9, 10, 11, 12, 13, 14] mixC (by repeat (first | exact SubE.nil | refine SubE.cons _ _ _ rfl ?_)) (.keep _ _ _ _ _ _ (fun _ h => h) (.keep _ _ _ _ _ _ (fun _ h => h) (.drop _ _ _ (Less.refl _)))) (by kernel_rfl) (by kernel_rfl) (by kernel_rfl) ?_ ?_
    · refine ⟨?_, ?_, ?_, ?_, ?_, ?_, ?_, ?_, ?_, ?_, ?_, ?_, trivial⟩
      · intro x EF MF Q kk
        exact JL.q (OQ.pure (v := .agg (oneL.map I).toArray) rfl rfl (by kernel_rfl)) rfl (JL.nil (kk 0 nofun))
      · intro x EF MF Q kk
        exact JL.q (OQ.pure (v := .agg ((List.replicate 16 (0 : Int)).map I).toArray) rfl rfl (by kernel_rfl)) rfl (JL.nil (kk 0 nofun))
      · intro x EF MF Q kk
        exact JL.q (OQ.load_agg (cs := x1.map I) n16a n16s rfl .here hx1l Row.all) rfl (JL.nil (kk 0 nofun))
      · intro x EF MF Q kk
        exact JL.q (OQ.pure (v := .agg (oneL.map I).toArray) rfl rfl (by kernel_rfl)) rfl (JL.nil (kk 0 nofun))
      iterate 4 (focus (intro x EF MF Q kk; exact JL.alloc n16z rfl fun b _ => JL.nil (kk b nofun)))
      · intro x EF MF Q kk
        exact JL.store_all (cs := oneL.map I) n16s rfl rfl rfl (I_cell _) .here (by simp) (JL.nil (kk (x 4) (fun k h => by cases h; rfl)))
      · intro x EF MF Q kk
        exact JL.store_all (cs := (List.replicate 16 (0 : Int)).map I) n16s rfl rfl rfl (I_cell _) .here (by simp) (JL.nil (kk (x 5) (fun k h => by cases h; rfl)))
      · intro x EF MF Q kk
        exact JL.store_all (cs := x1.map I) n16s rfl rfl hx1l (I_cell _) .here (by simp) (JL.nil (kk (x 6) (fun k h => by cases h; rfl)))
      · intro x EF MF Q kk
        exact JL.store_all (cs := oneL.map I) n16s rfl rfl rfl (I_cell _) .here (by simp) (JL.nil (kk (x 7) (fun k h => by cases h; rfl)))
    · intro x hx
      have h8 := hx 8 4 (by decide) rfl
      have h9 := hx 9 5 (by decide) rfl
      have h10 := hx 10 6 (by decide) rfl
      have h11 := hx 11 7 (by decide) rfl
      show JE _ _ _ _ _ [(6, Pt (x 4) 0), (7, Pt (x 5) 0), (8, Pt (x 6) 0), (9, Pt (x 7) 0), (2, Pt b2 0), (4, Pt b4 0), (5, Pt b5 0)] [⟨(x 8), Row 45 (oneL.map I), true⟩, ⟨(x 9), Row 45 ((List.replicate 16 (0 : Int)).map I), true⟩, ⟨(x 10), Row 45 (x1.map I), true⟩, ⟨(x 11), Row 45 (oneL.map I), true⟩, ⟨b5, Row 45 (x1.map I), true⟩, ⟨b4, Row 23 ((List.replicate 32 (0 : By)).map U8), true⟩, ⟨b2, Row 23 (K.map U8), true⟩]
      rw [h8, h9, h10, h11]
      generalize x 4 = b6
      generalize x 5 = b7
      generalize x 6 = b8
      generalize x 7 = b9
      clear hx h8 h9 h10 h11 x vs Ms
      repeat (first | refine JL.q (by first | (apply OQ.move; exact rfl) | (apply OQ.assign; exact rfl) | (apply OQ.remN; exact rfl; exact rfl; exact (by (try simp only []); omega)) | (apply OQ.quoN; exact rfl; exact rfl; exact (by (try simp only []); omega); exact (by (try simp only []); omega)) | (apply OQ.idxA0; exact rfl; exact rfl; exact rfl; exact rfl; exact (by (try simp only []); omega))) rfl ?_ | refine JC.seq ?_ | refine JC.region ?_ | refine JC.block ?_ | refine JC.skip ?_ | refine JC.exit ?_ | refine JL.nil ?_ | refine JE.next ?_ | refine JE.blk_normal ?_ | refine JE.then_exit ?_ | refine JE.blk_hit ?_ | refine JE.blk_miss rfl ?_ | refine JE.then_ret ?_ | refine JE.blk_ret ?_ | refine JC.label ?_ | refine JL.gon rfl rfl ?_ | refine JL.gskip rfl rfl rfl rfl ?_)
      refine JC.loop (fun n : Nat => [(2, Pt b2 0), (4, Pt b4 0), (5, Pt b5 0), (6, Pt b6 0), (7, Pt b7 0), (8, Pt b8 0), (9, Pt b9 0), (10, I (254 - n))])
        (fun n => [⟨b6, Row 45 ((ladL x1 (le K) n).x2.map I), true⟩, ⟨b7, Row 45 ((ladL x1 (le K) n).z2.map I), true⟩, ⟨b8, Row 45 ((ladL x1 (le K) n).x3.map I), true⟩, ⟨b9, Row 45 ((ladL x1 (le K) n).z3.map I), true⟩, ⟨b5, Row 45 (x1.map I), true⟩, ⟨b4, Row 23 ((List.replicate 32 (0 : By)).map U8), true⟩, ⟨b2, Row 23 (K.map U8), true⟩])
        (fun n => 255 - n) (fun n => n ≤ 255) 0 (by omega) (by repeat (first | exact SubE.nil | refine SubE.cons _ _ _ rfl ?_)) (Less.refl _) ?_
      intro n hn
      have ok := ladL_ok gx (le K) n
      repeat (first | refine JL.q (by first | (apply OQ.geqI (b := 0); exact rfl; exact rfl) | (apply OQ.move; exact rfl) | (apply OQ.assign; exact rfl) | (apply OQ.remN; exact rfl; exact rfl; exact (by (try simp only []); omega)) | (apply OQ.quoN; exact rfl; exact rfl; exact (by (try simp only []); omega); exact (by (try simp only []); omega)) | (apply OQ.idxA0; exact rfl; exact rfl; exact rfl; exact rfl; exact (by (try simp only []); omega))) rfl ?_ | refine JC.seq ?_ | refine JC.region ?_ | refine JC.block ?_ | refine JC.skip ?_ | refine JC.exit ?_ | refine JL.nil ?_ | refine JE.next ?_ | refine JE.blk_normal ?_ | refine JE.then_exit ?_ | refine JE.blk_hit ?_ | refine JE.blk_miss rfl ?_ | refine JE.then_ret ?_ | refine JE.blk_ret ?_ | refine JC.label ?_ | refine JL.gon rfl rfl ?_ | refine JL.gskip rfl rfl rfl rfl ?_)
      refine JC.cond rfl (fun h => ?_) (fun h => ?_)
      · have hn' : (0 : Int) ≤ 254 - n := of_decide_eq_true h
        clear h hn
        have hb : n < 255 := by omega
        have hb2 : n ≤ 254 := by omega
        have eN : ladL x1 (le K) (n + 1) = swapL ((le K).testBit (254 - n)) (coreL x1 (swapL ((le K).testBit (254 - n)) (ladL x1 (le K) n))) := rfl
        obtain ⟨i, hi⟩ : ∃ i, i = 254 - n := ⟨_, rfl⟩
        have eI : (254 - (n : Int)) = ((i : Nat) : Int) := by omega
        rw [← hi] at eN
        rw [eI]
        have hcb := U8_nth (l := K) (i := i / 8) (by omega)
        have hbit : decide ((K.getD (i / 8) 0 >>> (i % 8)) &&& 1#8 = 1#8) = (le K).testBit i := by rw [bit_is _ _ (by omega), le_bit]
        generalize ladL x1 (le K) n = s at ok eN ⊢
        obtain ⟨x2, z2, x3, z3⟩ := s
        have gx2 : Good x2 := ok.x2
        have gz2 : Good z2 := ok.z2
        have gx3 : Good x3 := ok.x3
        have gz3 : Good z3 := ok.z3
        dsimp only
        repeat (first | refine JL.q (by first | (apply OQ.idxA0; exact Try.underlying23; exact y1s; exact rfl; exact rfl; exact (by (try simp only []); omega)) | (apply OQ.load; exact y1c; exact rfl; exact (by repeat (first | exact Has.here | apply Has.there)); exact (Row.cell hcb)) | (apply OQ.shr8; exact rfl; exact rfl) | (apply OQ.and8 (b := 1#8); exact rfl; exact rfl) | (apply OQ.move; exact rfl) | (apply OQ.assign; exact rfl) | (apply OQ.remN; exact rfl; exact rfl; exact (by (try simp only []); omega)) | (apply OQ.quoN; exact rfl; exact rfl; exact (by (try simp only []); omega); exact (by (try simp only []); omega)) | (apply OQ.idxA0; exact rfl; exact rfl; exact rfl; exact rfl; exact (by (try simp only []); omega))) rfl ?_ | refine JC.seq ?_ | refine JC.region ?_ | refine JC.block ?_ | refine JC.skip ?_ | refine JC.exit ?_ | refine JL.nil ?_ | refine JE.next ?_ | refine JE.blk_normal ?_ | refine JE.then_exit ?_ | refine JE.blk_hit ?_ | refine JE.blk_miss rfl ?_ | refine JE.then_ret ?_ | refine JE.blk_ret ?_ | refine JC.label ?_ | refine JL.gon rfl rfl ?_ | refine JL.gskip rfl rfl rfl rfl ?_)
        generalize hbt : (K.getD (i / 8) 0 >>> (i % 8)) &&& 1#8 = bt at hbit ⊢
        repeat (first | refine JL.q (by first | (apply OQ.eq8 (b := 1#8); exact rfl; exact rfl) | (apply OQ.move; exact rfl) | (apply OQ.assign; exact rfl) | (apply OQ.remN; exact rfl; exact rfl; exact (by (try simp only []); omega)) | (apply OQ.quoN; exact rfl; exact rfl; exact (by (try simp only []); omega); exact (by (try simp only []); omega)) | (apply OQ.idxA0; exact rfl; exact rfl; exact rfl; exact rfl; exact (by (try simp only []); omega))) rfl ?_ | refine JC.seq ?_ | refine JC.region ?_ | refine JC.block ?_ | refine JC.skip ?_ | refine JC.exit ?_ | refine JL.nil ?_ | refine JE.next ?_ | refine JE.blk_normal ?_ | refine JE.then_exit ?_ | refine JE.blk_hit ?_ | refine JE.blk_miss rfl ?_ | refine JE.then_ret ?_ | refine JE.blk_ret ?_ | refine JC.label ?_ | refine JL.gon rfl rfl ?_ | refine JL.gskip rfl rfl rfl rfl ?_)
        refine JC.join (ι := Unit) (fun _ => [(2, Pt b2 0), (4, Pt b4 0), (5, Pt b5 0), (6, Pt b6 0), (7, Pt b7 0), (8, Pt b8 0), (9, Pt b9 0), (10, N i), (11, U8 bt)]) (fun _ => [⟨b6, Row 45 ((swapL ((le K).testBit i) ⟨x2, z2, x3, z3⟩).x2.map I), true⟩, ⟨b7, Row 45 ((swapL ((le K).testBit i) ⟨x2, z2, x3, z3⟩).z2.map I), true⟩, ⟨b8, Row 45 ((swapL ((le K).testBit i) ⟨x2, z2, x3, z3⟩).x3.map I), true⟩, ⟨b9, Row 45 ((swapL ((le K).testBit i) ⟨x2, z2, x3, z3⟩).z3.map I), true⟩, ⟨b5, Row 45 (x1.map I), true⟩, ⟨b4, Row 23 ((List.replicate 32 (0 : By)).map U8), true⟩, ⟨b2, Row 23 (K.map U8), true⟩]) (fun _ => True) ?_ (fun _ _ => ?_)
        · refine JC.cond rfl (fun h => ?_) (fun h => ?_)
          · rw [← hbit, h]
            repeat (first | refine JL.q (by first | (apply OQ.load_agg (cs := x2.map I); exact n16a; exact n16s; exact rfl; exact (by repeat (first | exact Has.here | apply Has.there)); exact (by rw [List.length_map]; exact gx2.len); exact Row.all) | (apply OQ.load_agg (cs := x3.map I); exact n16a; exact n16s; exact rfl; exact (by repeat (first | exact Has.here | apply Has.there)); exact (by rw [List.length_map]; exact gx3.len); exact Row.all) | (apply OQ.move; exact rfl) | (apply OQ.assign; exact rfl) | (apply OQ.remN; exact rfl; exact rfl; exact (by (try simp only []); omega)) | (apply OQ.quoN; exact rfl; exact rfl; exact (by (try simp only []); omega); exact (by (try simp only []); omega)) | (apply OQ.idxA0; exact rfl; exact rfl; exact rfl; exact rfl; exact (by (try simp only []); omega))) rfl ?_ | refine JC.seq ?_ | refine JC.region ?_ | refine JC.block ?_ | refine JC.skip ?_ | refine JC.exit ?_ | refine JL.nil ?_ | refine JE.next ?_ | refine JE.blk_normal ?_ | refine JE.then_exit ?_ | refine JE.blk_hit ?_ | refine JE.blk_miss rfl ?_ | refine JE.then_ret ?_ | refine JE.blk_ret ?_ | refine JC.label ?_ | refine JL.gon rfl rfl ?_ | refine JL.gskip rfl rfl rfl rfl ?_)
            refine JL.store_all (cs := x3.map I) n16s rfl rfl (by rw [List.length_map]; exact gx3.len) (I_cell _) (by repeat (first | exact Upd.here | apply Upd.there)) (by rw [List.length_map]; exact gx2.len) ?_
            repeat (first | refine JL.q (by first | (apply OQ.move; exact rfl) | (apply OQ.assign; exact rfl) | (apply OQ.remN; exact rfl; exact rfl; exact (by (try simp only []); omega)) | (apply OQ.quoN; exact rfl; exact rfl; exact (by (try simp only []); omega); exact (by (try simp only []); omega)) | (apply OQ.idxA0; exact rfl; exact rfl; exact rfl; exact rfl; exact (by (try simp only []); omega))) rfl ?_ | refine JC.seq ?_ | refine JC.region ?_ | refine JC.block ?_ | refine JC.skip ?_ | refine JC.exit ?_ | refine JL.nil ?_ | refine JE.next ?_ | refine JE.blk_normal ?_ | refine JE.then_exit ?_ | refine JE.blk_hit ?_ | refine JE.blk_miss rfl ?_ | refine JE.then_ret ?_ | refine JE.blk_ret ?_ | refine JC.label ?_ | refine JL.gon rfl rfl ?_ | refine JL.gskip rfl rfl rfl rfl ?_)
            refine JL.store_all (cs := x2.map I) n16s rfl rfl (by rw [List.length_map]; exact gx2.len) (I_cell _) (by repeat (first | exact Upd.here | apply Upd.there)) (by rw [List.length_map]; exact gx3.len) ?_
            repeat (first | refine JL.q (by first | (apply OQ.load_agg (cs := z2.map I); exact n16a; exact n16s; exact rfl; exact (by repeat (first | exact Has.here | apply Has.there)); exact (by rw [List.length_map]; exact gz2.len); exact Row.all) | (apply OQ.load_agg (cs := z3.map I); exact n16a; exact n16s; exact rfl; exact (by repeat (first | exact Has.here | apply Has.there)); exact (by rw [List.length_map]; exact gz3.len); exact Row.all) | (apply OQ.move; exact rfl) | (apply OQ.assign; exact rfl) | (apply OQ.remN; exact rfl; exact rfl; exact (by (try simp only []); omega)) | (apply OQ.quoN; exact rfl; exact rfl; exact (by (try simp only []); omega); exact (by (try simp only []); omega)) | (apply OQ.idxA0; exact rfl; exact rfl; exact rfl; exact rfl; exact (by (try simp only []); omega))) rfl ?_ | refine JC.seq ?_ | refine JC.region ?_ | refine JC.block ?_ | refine JC.skip ?_ | refine JC.exit ?_ | refine JL.nil ?_ | refine JE.next ?_ | refine JE.blk_normal ?_ | refine JE.then_exit ?_ | refine JE.blk_hit ?_ | refine JE.blk_miss rfl ?_ | refine JE.then_ret ?_ | refine JE.blk_ret ?_ | refine JC.label ?_ | refine JL.gon rfl rfl ?_ | refine JL.gskip rfl rfl rfl rfl ?_)
            refine JL.store_all (cs := z3.map I) n16s rfl rfl (by rw [List.length_map]; exact gz3.len) (I_cell _) (by repeat (first | exact Upd.here | apply Upd.there)) (by rw [List.length_map]; exact gz2.len) ?_
            repeat (first | refine JL.q (by first | (apply OQ.move; exact rfl) | (apply OQ.assign; exact rfl) | (apply OQ.remN; exact rfl; exact rfl; exact (by (try simp only []); omega)) | (apply OQ.quoN; exact rfl; exact rfl; exact (by (try simp only []); omega); exact (by (try simp only []); omega)) | (apply OQ.idxA0; exact rfl; exact rfl; exact rfl; exact rfl; exact (by (try simp only []); omega))) rfl ?_ | refine JC.seq ?_ | refine JC.region ?_ | refine JC.block ?_ | refine JC.skip ?_ | refine JC.exit ?_ | refine JL.nil ?_ | refine JE.next ?_ | refine JE.blk_normal ?_ | refine JE.then_exit ?_ | refine JE.blk_hit ?_ | refine JE.blk_miss rfl ?_ | refine JE.then_ret ?_ | refine JE.blk_ret ?_ | refine JC.label ?_ | refine JL.gon rfl rfl ?_ | refine JL.gskip rfl rfl rfl rfl ?_)
            refine JL.store_all (cs := z2.map I) n16s rfl rfl (by rw [List.length_map]; exact gz2.len) (I_cell _) (by repeat (first | exact Upd.here | apply Upd.there)) (by rw [List.length_map]; exact gz3.len) ?_
            repeat (first | refine JL.q (by first | (apply OQ.move; exact rfl) | (apply OQ.assign; exact rfl) | (apply OQ.remN; exact rfl; exact rfl; exact (by (try simp only []); omega)) | (apply OQ.quoN; exact rfl; exact rfl; exact (by (try simp only []); omega); exact (by (try simp only []); omega)) | (apply OQ.idxA0; exact rfl; exact rfl; exact rfl; exact rfl; exact (by (try simp only []); omega))) rfl ?_ | refine JC.seq ?_ | refine JC.region ?_ | refine JC.block ?_ | refine JC.skip ?_ | refine JC.exit ?_ | refine JL.nil ?_ | refine JE.next ?_ | refine JE.blk_normal ?_ | refine JE.then_exit ?_ | refine JE.blk_hit ?_ | refine JE.blk_miss rfl ?_ | refine JE.then_ret ?_ | refine JE.blk_ret ?_ | refine JC.label ?_ | refine JL.gon rfl rfl ?_ | refine JL.gskip rfl rfl rfl rfl ?_)
            exact JE.mid () trivial (by repeat (first | exact SubE.nil | refine SubE.cons _ _ _ rfl ?_)) (Less.refl _)
          · rw [← hbit, h]
            repeat (first | refine JL.q (by first | (apply OQ.move; exact rfl) | (apply OQ.assign; exact rfl) | (apply OQ.remN; exact rfl; exact rfl; exact (by (try simp only []); omega)) | (apply OQ.quoN; exact rfl; exact rfl; exact (by (try simp only []); omega); exact (by (try simp only []); omega)) | (apply OQ.idxA0; exact rfl; exact rfl; exact rfl; exact rfl; exact (by (try simp only []); omega))) rfl ?_ | refine JC.seq ?_ | refine JC.region ?_ | refine JC.block ?_ | refine JC.skip ?_ | refine JC.exit ?_ | refine JL.nil ?_ | refine JE.next ?_ | refine JE.blk_normal ?_ | refine JE.then_exit ?_ | refine JE.blk_hit ?_ | refine JE.blk_miss rfl ?_ | refine JE.then_ret ?_ | refine JE.blk_ret ?_ | refine JC.label ?_ | refine JL.gon rfl rfl ?_ | refine JL.gskip rfl rfl rfl rfl ?_)
            exact JE.mid () trivial (by repeat (first | exact SubE.nil | refine SubE.cons _ _ _ rfl ?_)) (Less.refl _)
        have ok' := swapL_ok ok ((le K).testBit i)
        generalize swapL ((le K).testBit i) ⟨x2, z2, x3, z3⟩ = s' at ok' eN ⊢
        obtain ⟨X2, Z2, X3, Z3⟩ := s'
        have gX2 : Good X2 := ok'.x2
        have gZ2 : Good Z2 := ok'.z2
        have gX3 : Good X3 := ok'.x3
        have gZ3 : Good Z3 := ok'.z3
        dsimp only
        clear ok ok' gx2 gz2 gx3 gz3
        have cA := nadd_any X2 Z2 gX2 gZ2
        have gA := addL_good gX2 gZ2
        generalize hA : addL X2 Z2 = A at cA gA
        have cB := nless_any X2 Z2 gX2 gZ2
        have gB := subL_good gX2 gZ2
        generalize hB : subL X2 Z2 = B at cB gB
        have cC := nadd_any X3 Z3 gX3 gZ3
        have gC := addL_good gX3 gZ3
        generalize hC : addL X3 Z3 = C at cC gC
        have cD := nless_any X3 Z3 gX3 gZ3
        have gD := subL_good gX3 gZ3
        generalize hD : subL X3 Z3 = D at cD gD
        have cDA := times_any D A gD gA
        have gDA := mulL_good gD gA
        generalize hDA : mulL D A = DA at cDA gDA
        have cCB := times_any C B gC gB
        have gCB := mulL_good gC gB
        generalize hCB : mulL C B = CB at cCB gCB
        have cAA := times_any A A gA gA
        have gAA := mulL_good gA gA
        generalize hAA : mulL A A = AA at cAA gAA
        have cBB := times_any B B gB gB
        have gBB := mulL_good gB gB
        generalize hBB : mulL B B = BB at cBB gBB
        have cE := nless_any AA BB gAA gBB
        have gE := subL_good gAA gBB
        generalize hE : subL AA BB = E at cE gE
        have cF := times_any cL E cL_good gE
        have gF := mulL_good cL_good gE
        generalize hF : mulL cL E = F at cF gF
        have cG := nadd_any AA F gAA gF
        have gG := addL_good gAA gF
        generalize hG : addL AA F = G at cG gG
        have cR1 := times_any AA BB gAA gBB
        have gR1 := mulL_good gAA gBB
        generalize hR1 : mulL AA BB = R1 at cR1 gR1
        have cR2 := times_any E G gE gG
        have gR2 := mulL_good gE gG
        generalize hR2 : mulL E G = R2 at cR2 gR2
        have cH := nadd_any DA CB gDA gCB
        have gH := addL_good gDA gCB
        generalize hH : addL DA CB = H at cH gH
        have cR3 := times_any H H gH gH
        have gR3 := mulL_good gH gH
        generalize hR3 : mulL H H = R3 at cR3 gR3
        have cJ := nless_any DA CB gDA gCB
        have gJ := subL_good gDA gCB
        generalize hJ : subL DA CB = J at cJ gJ
        have cJJ := times_any J J gJ gJ
        have gJJ := mulL_good gJ gJ
        generalize hJJ : mulL J J = JJ at cJJ gJJ
        have cR4 := times_any x1 JJ gx gJJ
        have gR4 := mulL_good gx gJJ
        generalize hR4 : mulL x1 JJ = R4 at cR4 gR4
        have eC : coreL x1 ⟨X2, Z2, X3, Z3⟩ = ⟨R1, R2, R3, R4⟩ := by
          subst hR4 hJJ hJ hR3 hH hR2 hR1 hG hF hE hBB hAA hCB hDA hD hC hB hA
          rfl
        rw [eC] at eN
        clear eC hA hB hC hD hDA hCB hAA hBB hE hF hG hR1 hR2 hH hR3 hJ hJJ hR4
        repeat (first | refine JL.q (by first | (apply OQ.move; exact rfl) | (apply OQ.assign; exact rfl) | (apply OQ.remN; exact rfl; exact rfl; exact (by (try simp only []); omega)) | (apply OQ.quoN; exact rfl; exact rfl; exact (by (try simp only []); omega); exact (by (try simp only []); omega)) | (apply OQ.idxA0; exact rfl; exact rfl; exact rfl; exact rfl; exact (by (try simp only []); omega))) rfl ?_ | refine JC.seq ?_ | refine JC.region ?_ | refine JC.block ?_ | refine JC.skip ?_ | refine JC.exit ?_ | refine JL.nil ?_ | refine JE.next ?_ | refine JE.blk_normal ?_ | refine JE.then_exit ?_ | refine JE.blk_hit ?_ | refine JE.blk_miss rfl ?_ | refine JE.then_ret ?_ | refine JE.blk_ret ?_ | refine JC.label ?_ | refine JL.gon rfl rfl ?_ | refine JL.gskip rfl rfl rfl rfl ?_)
        let vs : Nat → Nat → Value := fun j x => match j with
          | 0 => .agg (X2.map I).toArray
          | 1 => .agg (Z2.map I).toArray
          | 3 => .agg (X2.map I).toArray
          | 4 => .agg (Z2.map I).toArray
          | 6 => .agg (X3.map I).toArray
          | 7 => .agg (Z3.map I).toArray
          | 9 => .agg (X3.map I).toArray
          | 10 => .agg (Z3.map I).toArray
          | 2 => .agg (A.map I).toArray
          | 5 => .agg (B.map I).toArray
          | 8 => .agg (C.map I).toArray
          | 11 => .agg (D.map I).toArray
          | _ => Pt x 0
        let Ms : Nat → Nat → List Ent := fun j x => match j with
          | 12 => [⟨x, Row 45 ((List.replicate 16 (0 : Int)).map I), true⟩]
          | 13 => [⟨x, Row 45 ((List.replicate 16 (0 : Int)).map I), true⟩]
          | 14 => [⟨x, Row 45 ((List.replicate 16 (0 : Int)).map I), true⟩]
          | 15 => [⟨x, Row 45 ((List.replicate 16 (0 : Int)).map I), true⟩]
          | 16 => [⟨x, Row 45 (A.map I), true⟩]
          | 17 => [⟨x, Row 45 (B.map I), true⟩]
          | 18 => [⟨x, Row 45 (C.map I), true⟩]
          | 19 => [⟨x, Row 45 (D.map I), true⟩]
          | 20 => [⟨b6, Row 45 (X2.map I), true⟩]
          | 21 => [⟨b7, Row 45 (Z2.map I), true⟩]
          | 22 => [⟨b8, Row 45 (X3.map I), true⟩]
          | 23 => [⟨b9, Row 45 (Z3.map I), true⟩]
          | 24 => [⟨b5, Row 45 (x1.map I), true⟩]
          | 25 => [⟨b4, Row 23 ((List.replicate 32 (0 : By)).map U8), true⟩]
          | 26 => [⟨b2, Row 23 (K.map U8), true⟩]
          | _ => []
        refine JC.grow (g := ⟨[(2, Pt b2 0), (4, Pt b4 0), (5, Pt b5 0), (6, Pt b6 0), (7, Pt b7 0), (8, Pt b8 0), (9, Pt b9 0), (10, N i), (11, U8 bt)], 27, vs, Ms, need12, inp12, eat12, src12⟩) [(12, 12), (13, 13), (14, 14), (15, 15)] [16, 17, 18, 19, 20, 21, 22, 23, 24, 25, 26] mixC (by repeat (first | exact SubE.nil | refine SubE.cons _ _ _ rfl ?_)) (Less.refl _) (by kernel_rfl) (by kernel_rfl) (by kernel_rfl) ?_ ?_
        · refine ⟨?_, ?_, ?_, ?_, ?_, ?_, ?_, ?_, ?_, ?_, ?_, ?_, ?_, ?_, ?_, ?_, ?_, ?_, ?_, ?_, trivial⟩
          · intro x EF MF Q kk
            exact JL.q (OQ.load_agg (cs := X2.map I) n16a n16s rfl .here (by rw [List.length_map]; exact gX2.len) Row.all) rfl (JL.nil (kk 0 nofun))
          · intro x EF MF Q kk
            exact JL.q (OQ.load_agg (cs := Z2.map I) n16a n16s rfl .here (by rw [List.length_map]; exact gZ2.len) Row.all) rfl (JL.nil (kk 0 nofun))
          · intro x EF MF Q kk
            exact JL.q (OQ.callx goes_nadd rfl fun w' _ => cA w') rfl (JL.nil (kk 0 nofun))
          · intro x EF MF Q kk
            exact JL.q (OQ.load_agg (cs := X2.map I) n16a n16s rfl .here (by rw [List.length_map]; exact gX2.len) Row.all) rfl (JL.nil (kk 0 nofun))
          · intro x EF MF Q kk
            exact JL.q (OQ.load_agg (cs := Z2.map I) n16a n16s rfl .here (by rw [List.length_map]; exact gZ2.len) Row.all) rfl (JL.nil (kk 0 nofun))
          · intro x EF MF Q kk
            exact JL.q (OQ.callx goes_nless rfl fun w' _ => cB w') rfl (JL.nil (kk 0 nofun))
          · intro x EF MF Q kk
            exact JL.q (OQ.load_agg (cs := X3.map I) n16a n16s rfl .here (by rw [List.length_map]; exact gX3.len) Row.all) rfl (JL.nil (kk 0 nofun))
          · intro x EF MF Q kk
            exact JL.q (OQ.load_agg (cs := Z3.map I) n16a n16s rfl .here (by rw [List.length_map]; exact gZ3.len) Row.all) rfl (JL.nil (kk 0 nofun))
          · intro x EF MF Q kk
            exact JL.q (OQ.callx goes_nadd rfl fun w' _ => cC w') rfl (JL.nil (kk 0 nofun))
          · intro x EF MF Q kk
            exact JL.q (OQ.load_agg (cs := X3.map I) n16a n16s rfl .here (by rw [List.length_map]; exact gX3.len) Row.all) rfl (JL.nil (kk 0 nofun))
          · intro x EF MF Q kk
            exact JL.q (OQ.load_agg (cs := Z3.map I) n16a n16s rfl .here (by rw [List.length_map]; exact gZ3.len) Row.all) rfl (JL.nil (kk 0 nofun))
          · intro x EF MF Q kk
            exact JL.q (OQ.callx goes_nless rfl fun w' _ => cD w') rfl (JL.nil (kk 0 nofun))
          · intro x EF MF Q kk
            exact JL.alloc n16z rfl fun b _ => JL.nil (kk b nofun)
          · intro x EF MF Q kk
            exact JL.alloc n16z rfl fun b _ => JL.nil (kk b nofun)
          · intro x EF MF Q kk
            exact JL.alloc n16z rfl fun b _ => JL.nil (kk b nofun)
          · intro x EF MF Q kk
            exact JL.alloc n16z rfl fun b _ => JL.nil (kk b nofun)
          · intro x EF MF Q kk
            exact JL.store_all (cs := A.map I) n16s rfl rfl (by rw [List.length_map]; exact gA.len) (I_cell _) .here (by simp) (JL.nil (kk (x 12) (fun k h => by cases h; rfl)))
          · intro x EF MF Q kk
            exact JL.store_all (cs := B.map I) n16s rfl rfl (by rw [List.length_map]; exact gB.len) (I_cell _) .here (by simp) (JL.nil (kk (x 13) (fun k h => by cases h; rfl)))
          · intro x EF MF Q kk
            exact JL.store_all (cs := C.map I) n16s rfl rfl (by rw [List.length_map]; exact gC.len) (I_cell _) .here (by simp) (JL.nil (kk (x 14) (fun k h => by cases h; rfl)))
          · intro x EF MF Q kk
            exact JL.store_all (cs := D.map I) n16s rfl rfl (by rw [List.length_map]; exact gD.len) (I_cell _) .here (by simp) (JL.nil (kk (x 15) (fun k h => by cases h; rfl)))
        · intro x hx
          have h16 := hx 16 12 (by decide) rfl
          have h17 := hx 17 13 (by decide) rfl
          have h18 := hx 18 14 (by decide) rfl
          have h19 := hx 19 15 (by decide) rfl
          show JE _ _ _ _ _ [(12, Pt (x 12) 0), (13, Pt (x 13) 0), (14, Pt (x 14) 0), (15, Pt (x 15) 0), (2, Pt b2 0), (4, Pt b4 0), (5, Pt b5 0), (6, Pt b6 0), (7, Pt b7 0), (8, Pt b8 0), (9, Pt b9 0), (10, N i), (11, U8 bt)] [⟨(x 16), Row 45 (A.map I), true⟩, ⟨(x 17), Row 45 (B.map I), true⟩, ⟨(x 18), Row 45 (C.map I), true⟩, ⟨(x 19), Row 45 (D.map I), true⟩, ⟨b6, Row 45 (X2.map I), true⟩, ⟨b7, Row 45 (Z2.map I), true⟩, ⟨b8, Row 45 (X3.map I), true⟩, ⟨b9, Row 45 (Z3.map I), true⟩, ⟨b5, Row 45 (x1.map I), true⟩, ⟨b4, Row 23 ((List.replicate 32 (0 : By)).map U8), true⟩, ⟨b2, Row 23 (K.map U8), true⟩]
          rw [h16, h17, h18, h19]
          generalize x 12 = b12
          generalize x 13 = b13
          generalize x 14 = b14
          generalize x 15 = b15
          clear hx h16 h17 h18 h19 x vs Ms
          repeat (first | refine JL.q (by first | (apply OQ.move; exact rfl) | (apply OQ.assign; exact rfl) | (apply OQ.remN; exact rfl; exact rfl; exact (by (try simp only []); omega)) | (apply OQ.quoN; exact rfl; exact rfl; exact (by (try simp only []); omega); exact (by (try simp only []); omega)) | (apply OQ.idxA0; exact rfl; exact rfl; exact rfl; exact rfl; exact (by (try simp only []); omega))) rfl ?_ | refine JC.seq ?_ | refine JC.region ?_ | refine JC.block ?_ | refine JC.skip ?_ | refine JC.exit ?_ | refine JL.nil ?_ | refine JE.next ?_ | refine JE.blk_normal ?_ | refine JE.then_exit ?_ | refine JE.blk_hit ?_ | refine JE.blk_miss rfl ?_ | refine JE.then_ret ?_ | refine JE.blk_ret ?_ | refine JC.label ?_ | refine JL.gon rfl rfl ?_ | refine JL.gskip rfl rfl rfl rfl ?_)
          let vs : Nat → Nat → Value := fun j x => match j with
            | 0 => .agg (D.map I).toArray
            | 1 => .agg (A.map I).toArray
            | 3 => .agg (C.map I).toArray
            | 4 => .agg (B.map I).toArray
            | 6 => .agg (A.map I).toArray
            | 7 => .agg (A.map I).toArray
            | 9 => .agg (B.map I).toArray
            | 10 => .agg (B.map I).toArray
            | 2 => .agg (DA.map I).toArray
            | 5 => .agg (CB.map I).toArray
            | 8 => .agg (AA.map I).toArray
            | 11 => .agg (BB.map I).toArray
            | _ => Pt x 0
          let Ms : Nat → Nat → List Ent := fun j x => match j with
            | 12 => [⟨x, Row 45 ((List.replicate 16 (0 : Int)).map I), true⟩]
            | 13 => [⟨x, Row 45 ((List.replicate 16 (0 : Int)).map I), true⟩]
            | 14 => [⟨x, Row 45 ((List.replicate 16 (0 : Int)).map I), true⟩]
            | 15 => [⟨x, Row 45 ((List.replicate 16 (0 : Int)).map I), true⟩]
            | 16 => [⟨x, Row 45 (DA.map I), true⟩]
            | 17 => [⟨x, Row 45 (CB.map I), true⟩]
            | 18 => [⟨x, Row 45 (AA.map I), true⟩]
            | 19 => [⟨x, Row 45 (BB.map I), true⟩]
            | 20 => [⟨b12, Row 45 (A.map I), true⟩]
            | 21 => [⟨b13, Row 45 (B.map I), true⟩]
            | 22 => [⟨b14, Row 45 (C.map I), true⟩]
            | 23 => [⟨b15, Row 45 (D.map I), true⟩]
            | 24 => [⟨b6, Row 45 (X2.map I), true⟩]
            | 25 => [⟨b7, Row 45 (Z2.map I), true⟩]
            | 26 => [⟨b8, Row 45 (X3.map I), true⟩]
            | 27 => [⟨b9, Row 45 (Z3.map I), true⟩]
            | 28 => [⟨b5, Row 45 (x1.map I), true⟩]
            | 29 => [⟨b4, Row 23 ((List.replicate 32 (0 : By)).map U8), true⟩]
            | 30 => [⟨b2, Row 23 (K.map U8), true⟩]
            | _ => []
          refine JC.grow (g := ⟨[(2, Pt b2 0), (4, Pt b4 0), (5, Pt b5 0), (6, Pt b6 0), (7, Pt b7 0), (8, Pt b8 0), (9, Pt b9 0), (10, N i), (11, U8 bt), (12, Pt b12 0), (13, Pt b13 0), (14, Pt b14 0), (15, Pt b15 0)], 31, vs, Ms, need13, inp13, eat12, src12⟩) [(12, 16), (13, 17), (14, 18), (15, 19)] [16, 17, 18, 19, 20, 21, 22, 23, 24, 25, 26, 27, 28, 29, 30] mixC (by repeat (first | exact SubE.nil | refine SubE.cons _ _ _ rfl ?_)) (Less.refl _) (by kernel_rfl) (by kernel_rfl) (by kernel_rfl) ?_ ?_
          · refine ⟨?_, ?_, ?_, ?_, ?_, ?_, ?_, ?_, ?_, ?_, ?_, ?_, ?_, ?_, ?_, ?_, ?_, ?_, ?_, ?_, trivial⟩
            · intro x EF MF Q kk
              exact JL.q (OQ.load_agg (cs := D.map I) n16a n16s rfl .here (by rw [List.length_map]; exact gD.len) Row.all) rfl (JL.nil (kk 0 nofun))
            · intro x EF MF Q kk
              exact JL.q (OQ.load_agg (cs := A.map I) n16a n16s rfl .here (by rw [List.length_map]; exact gA.len) Row.all) rfl (JL.nil (kk 0 nofun))
            · intro x EF MF Q kk
              exact JL.q (OQ.callx goes_times rfl fun w' _ => cDA w') rfl (JL.nil (kk 0 nofun))
            · intro x EF MF Q kk
              exact JL.q (OQ.load_agg (cs := C.map I) n16a n16s rfl .here (by rw [List.length_map]; exact gC.len) Row.all) rfl (JL.nil (kk 0 nofun))
            · intro x EF MF Q kk
              exact JL.q (OQ.load_agg (cs := B.map I) n16a n16s rfl .here (by rw [List.length_map]; exact gB.len) Row.all) rfl (JL.nil (kk 0 nofun))
            · intro x EF MF Q kk
              exact JL.q (OQ.callx goes_times rfl fun w' _ => cCB w') rfl (JL.nil (kk 0 nofun))
            · intro x EF MF Q kk
              exact JL.q (OQ.load_agg (cs := A.map I) n16a n16s rfl .here (by rw [List.length_map]; exact gA.len) Row.all) rfl (JL.nil (kk 0 nofun))
            · intro x EF MF Q kk
              exact JL.q (OQ.load_agg (cs := A.map I) n16a n16s rfl .here (by rw [List.length_map]; exact gA.len) Row.all) rfl (JL.nil (kk 0 nofun))
            · intro x EF MF Q kk
              exact JL.q (OQ.callx goes_times rfl fun w' _ => cAA w') rfl (JL.nil (kk 0 nofun))
            · intro x EF MF Q kk
              exact JL.q (OQ.load_agg (cs := B.map I) n16a n16s rfl .here (by rw [List.length_map]; exact gB.len) Row.all) rfl (JL.nil (kk 0 nofun))
            · intro x EF MF Q kk
              exact JL.q (OQ.load_agg (cs := B.map I) n16a n16s rfl .here (by rw [List.length_map]; exact gB.len) Row.all) rfl (JL.nil (kk 0 nofun))
            · intro x EF MF Q kk
              exact JL.q (OQ.callx goes_times rfl fun w' _ => cBB w') rfl (JL.nil (kk 0 nofun))
            · intro x EF MF Q kk
              exact JL.alloc n16z rfl fun b _ => JL.nil (kk b nofun)
            · intro x EF MF Q kk
              exact JL.alloc n16z rfl fun b _ => JL.nil (kk b nofun)
            · intro x EF MF Q kk
              exact JL.alloc n16z rfl fun b _ => JL.nil (kk b nofun)
            · intro x EF MF Q kk
              exact JL.alloc n16z rfl fun b _ => JL.nil (kk b nofun)
            · intro x EF MF Q kk
              exact JL.store_all (cs := DA.map I) n16s rfl rfl (by rw [List.length_map]; exact gDA.len) (I_cell _) .here (by simp) (JL.nil (kk (x 12) (fun k h => by cases h; rfl)))
            · intro x EF MF Q kk
              exact JL.store_all (cs := CB.map I) n16s rfl rfl (by rw [List.length_map]; exact gCB.len) (I_cell _) .here (by simp) (JL.nil (kk (x 13) (fun k h => by cases h; rfl)))
            · intro x EF MF Q kk
              exact JL.store_all (cs := AA.map I) n16s rfl rfl (by rw [List.length_map]; exact gAA.len) (I_cell _) .here (by simp) (JL.nil (kk (x 14) (fun k h => by cases h; rfl)))
            · intro x EF MF Q kk
              exact JL.store_all (cs := BB.map I) n16s rfl rfl (by rw [List.length_map]; exact gBB.len) (I_cell _) .here (by simp) (JL.nil (kk (x 15) (fun k h => by cases h; rfl)))
          · intro x hx
            have h16 := hx 16 12 (by decide) rfl
            have h17 := hx 17 13 (by decide) rfl
            have h18 := hx 18 14 (by decide) rfl
            have h19 := hx 19 15 (by decide) rfl
            show JE _ _ _ _ _ [(16, Pt (x 12) 0), (17, Pt (x 13) 0), (18, Pt (x 14) 0), (19, Pt (x 15) 0), (2, Pt b2 0), (4, Pt b4 0), (5, Pt b5 0), (6, Pt b6 0), (7, Pt b7 0), (8, Pt b8 0), (9, Pt b9 0), (10, N i), (11, U8 bt), (12, Pt b12 0), (13, Pt b13 0), (14, Pt b14 0), (15, Pt b15 0)] [⟨(x 16), Row 45 (DA.map I), true⟩, ⟨(x 17), Row 45 (CB.map I), true⟩, ⟨(x 18), Row 45 (AA.map I), true⟩, ⟨(x 19), Row 45 (BB.map I), true⟩, ⟨b12, Row 45 (A.map I), true⟩, ⟨b13, Row 45 (B.map I), true⟩, ⟨b14, Row 45 (C.map I), true⟩, ⟨b15, Row 45 (D.map I), true⟩, ⟨b6, Row 45 (X2.map I), true⟩, ⟨b7, Row 45 (Z2.map I), true⟩, ⟨b8, Row 45 (X3.map I), true⟩, ⟨b9, Row 45 (Z3.map I), true⟩, ⟨b5, Row 45 (x1.map I), true⟩, ⟨b4, Row 23 ((List.replicate 32 (0 : By)).map U8), true⟩, ⟨b2, Row 23 (K.map U8), true⟩]
            rw [h16, h17, h18, h19]
            generalize x 12 = b16
            generalize x 13 = b17
            generalize x 14 = b18
            generalize x 15 = b19
            clear hx h16 h17 h18 h19 x vs Ms
            repeat (first | refine JL.q (by first | (apply OQ.move; exact rfl) | (apply OQ.assign; exact rfl) | (apply OQ.remN; exact rfl; exact rfl; exact (by (try simp only []); omega)) | (apply OQ.quoN; exact rfl; exact rfl; exact (by (try simp only []); omega); exact (by (try simp only []); omega)) | (apply OQ.idxA0; exact rfl; exact rfl; exact rfl; exact rfl; exact (by (try simp only []); omega))) rfl ?_ | refine JC.seq ?_ | refine JC.region ?_ | refine JC.block ?_ | refine JC.skip ?_ | refine JC.exit ?_ | refine JL.nil ?_ | refine JE.next ?_ | refine JE.blk_normal ?_ | refine JE.then_exit ?_ | refine JE.blk_hit ?_ | refine JE.blk_miss rfl ?_ | refine JE.then_ret ?_ | refine JE.blk_ret ?_ | refine JC.label ?_ | refine JL.gon rfl rfl ?_ | refine JL.gskip rfl rfl rfl rfl ?_)
            repeat (first | refine JL.q (by first | (apply OQ.load_agg (cs := AA.map I); exact n16a; exact n16s; exact rfl; exact (by repeat (first | exact Has.here | apply Has.there)); exact (by rw [List.length_map]; exact gAA.len); exact Row.all) | (apply OQ.load_agg (cs := BB.map I); exact n16a; exact n16s; exact rfl; exact (by repeat (first | exact Has.here | apply Has.there)); exact (by rw [List.length_map]; exact gBB.len); exact Row.all) | (apply OQ.callx (vs := [.agg (AA.map I).toArray, .agg (BB.map I).toArray]); exact goes_nless; exact rfl; exact (fun w' _ => cE w')) | (apply OQ.move; exact rfl) | (apply OQ.assign; exact rfl) | (apply OQ.remN; exact rfl; exact rfl; exact (by (try simp only []); omega)) | (apply OQ.quoN; exact rfl; exact rfl; exact (by (try simp only []); omega); exact (by (try simp only []); omega)) | (apply OQ.idxA0; exact rfl; exact rfl; exact rfl; exact rfl; exact (by (try simp only []); omega))) rfl ?_ | refine JC.seq ?_ | refine JC.region ?_ | refine JC.block ?_ | refine JC.skip ?_ | refine JC.exit ?_ | refine JL.nil ?_ | refine JE.next ?_ | refine JE.blk_normal ?_ | refine JE.then_exit ?_ | refine JE.blk_hit ?_ | refine JE.blk_miss rfl ?_ | refine JE.then_ret ?_ | refine JE.blk_ret ?_ | refine JC.label ?_ | refine JL.gon rfl rfl ?_ | refine JL.gskip rfl rfl rfl rfl ?_)
            refine JL.alloc n16z rfl fun b20 _ => ?_
            refine JL.store_all (cs := E.map I) n16s rfl rfl (by rw [List.length_map]; exact gE.len) (I_cell _) .here (by simp) ?_
            repeat (first | refine JL.q (by first | (apply OQ.move; exact rfl) | (apply OQ.assign; exact rfl) | (apply OQ.remN; exact rfl; exact rfl; exact (by (try simp only []); omega)) | (apply OQ.quoN; exact rfl; exact rfl; exact (by (try simp only []); omega); exact (by (try simp only []); omega)) | (apply OQ.idxA0; exact rfl; exact rfl; exact rfl; exact rfl; exact (by (try simp only []); omega))) rfl ?_ | refine JC.seq ?_ | refine JC.region ?_ | refine JC.block ?_ | refine JC.skip ?_ | refine JC.exit ?_ | refine JL.nil ?_ | refine JE.next ?_ | refine JE.blk_normal ?_ | refine JE.then_exit ?_ | refine JE.blk_hit ?_ | refine JE.blk_miss rfl ?_ | refine JE.then_ret ?_ | refine JE.blk_ret ?_ | refine JC.label ?_ | refine JL.gon rfl rfl ?_ | refine JL.gskip rfl rfl rfl rfl ?_)
            refine JC.tail 7 mixC (by kernel_rfl) ?_
            simp only [List.take_succ_cons, List.take_zero, List.drop_succ_cons, List.drop_zero]
            repeat (first | refine JL.q (by first | (apply OQ.load_agg (cs := DA.map I); exact n16a; exact n16s; exact rfl; exact (by repeat (first | exact Has.here | apply Has.there)); exact (by rw [List.length_map]; exact gDA.len); exact Row.all) | (apply OQ.load_agg (cs := CB.map I); exact n16a; exact n16s; exact rfl; exact (by repeat (first | exact Has.here | apply Has.there)); exact (by rw [List.length_map]; exact gCB.len); exact Row.all) | (apply OQ.callx (vs := [.agg (DA.map I).toArray, .agg (CB.map I).toArray]); exact goes_nadd; exact rfl; exact (fun w' _ => cH w')) | (apply OQ.callx (vs := [.agg (H.map I).toArray, .agg (H.map I).toArray]); exact goes_times; exact rfl; exact (fun w' _ => cR3 w')) | (apply OQ.move; exact rfl) | (apply OQ.assign; exact rfl) | (apply OQ.remN; exact rfl; exact rfl; exact (by (try simp only []); omega)) | (apply OQ.quoN; exact rfl; exact rfl; exact (by (try simp only []); omega); exact (by (try simp only []); omega)) | (apply OQ.idxA0; exact rfl; exact rfl; exact rfl; exact rfl; exact (by (try simp only []); omega))) rfl ?_ | refine JQ.q (by first | (apply OQ.load_agg (cs := DA.map I); exact n16a; exact n16s; exact rfl; exact (by repeat (first | exact Has.here | apply Has.there)); exact (by rw [List.length_map]; exact gDA.len); exact Row.all) | (apply OQ.load_agg (cs := CB.map I); exact n16a; exact n16s; exact rfl; exact (by repeat (first | exact Has.here | apply Has.there)); exact (by rw [List.length_map]; exact gCB.len); exact Row.all) | (apply OQ.callx (vs := [.agg (DA.map I).toArray, .agg (CB.map I).toArray]); exact goes_nadd; exact rfl; exact (fun w' _ => cH w')) | (apply OQ.callx (vs := [.agg (H.map I).toArray, .agg (H.map I).toArray]); exact goes_times; exact rfl; exact (fun w' _ => cR3 w')) | (apply OQ.move; exact rfl) | (apply OQ.assign; exact rfl) | (apply OQ.remN; exact rfl; exact rfl; exact (by (try simp only []); omega)) | (apply OQ.quoN; exact rfl; exact rfl; exact (by (try simp only []); omega); exact (by (try simp only []); omega)) | (apply OQ.idxA0; exact rfl; exact rfl; exact rfl; exact rfl; exact (by (try simp only []); omega))) rfl ?_ | refine JC.seq ?_ | refine JC.region ?_ | refine JC.block ?_ | refine JC.skip ?_ | refine JC.exit ?_ | refine JL.nil ?_ | refine JQ.nil ?_ | refine JQ.nil_tail ?_ | refine JE.next ?_ | refine JE.blk_normal ?_ | refine JE.then_exit ?_ | refine JE.blk_hit ?_ | refine JE.blk_miss rfl ?_ | refine JE.then_ret ?_ | refine JE.blk_ret ?_ | refine JC.label ?_ | refine JL.gon rfl rfl ?_ | refine JQ.gon rfl rfl ?_ | refine JL.gskip rfl rfl rfl rfl ?_ | refine JQ.gskip rfl rfl rfl rfl ?_)
            refine JL.store_all (cs := R3.map I) n16s rfl rfl (by rw [List.length_map]; exact gR3.len) (I_cell _) (by repeat (first | exact Upd.here | apply Upd.there)) (by rw [List.length_map]; exact gX3.len) ?_
            repeat (first | refine JL.q (by first | (apply OQ.move; exact rfl) | (apply OQ.assign; exact rfl) | (apply OQ.remN; exact rfl; exact rfl; exact (by (try simp only []); omega)) | (apply OQ.quoN; exact rfl; exact rfl; exact (by (try simp only []); omega); exact (by (try simp only []); omega)) | (apply OQ.idxA0; exact rfl; exact rfl; exact rfl; exact rfl; exact (by (try simp only []); omega))) rfl ?_ | refine JQ.q (by first | (apply OQ.move; exact rfl) | (apply OQ.assign; exact rfl) | (apply OQ.remN; exact rfl; exact rfl; exact (by (try simp only []); omega)) | (apply OQ.quoN; exact rfl; exact rfl; exact (by (try simp only []); omega); exact (by (try simp only []); omega)) | (apply OQ.idxA0; exact rfl; exact rfl; exact rfl; exact rfl; exact (by (try simp only []); omega))) rfl ?_ | refine JC.seq ?_ | refine JC.region ?_ | refine JC.block ?_ | refine JC.skip ?_ | refine JC.exit ?_ | refine JL.nil ?_ | refine JQ.nil ?_ | refine JQ.nil_tail ?_ | refine JE.next ?_ | refine JE.blk_normal ?_ | refine JE.then_exit ?_ | refine JE.blk_hit ?_ | refine JE.blk_miss rfl ?_ | refine JE.then_ret ?_ | refine JE.blk_ret ?_ | refine JC.label ?_ | refine JL.gon rfl rfl ?_ | refine JQ.gon rfl rfl ?_ | refine JL.gskip rfl rfl rfl rfl ?_ | refine JQ.gskip rfl rfl rfl rfl ?_)
            refine JC.tail 9 mixC (by kernel_rfl) ?_
            simp only [List.take_succ_cons, List.take_zero, List.drop_succ_cons, List.drop_zero]
            repeat (first | refine JL.q (by first | (apply OQ.load_agg (cs := DA.map I); exact n16a; exact n16s; exact rfl; exact (by repeat (first | exact Has.here | apply Has.there)); exact (by rw [List.length_map]; exact gDA.len); exact Row.all) | (apply OQ.load_agg (cs := CB.map I); exact n16a; exact n16s; exact rfl; exact (by repeat (first | exact Has.here | apply Has.there)); exact (by rw [List.length_map]; exact gCB.len); exact Row.all) | (apply OQ.load_agg (cs := x1.map I); exact n16a; exact n16s; exact rfl; exact (by repeat (first | exact Has.here | apply Has.there)); exact (by rw [List.length_map]; exact gx.len); exact Row.all) | (apply OQ.callx (vs := [.agg (DA.map I).toArray, .agg (CB.map I).toArray]); exact goes_nless; exact rfl; exact (fun w' _ => cJ w')) | (apply OQ.callx (vs := [.agg (J.map I).toArray, .agg (J.map I).toArray]); exact goes_times; exact rfl; exact (fun w' _ => cJJ w')) | (apply OQ.callx (vs := [.agg (x1.map I).toArray, .agg (JJ.map I).toArray]); exact goes_times; exact rfl; exact (fun w' _ => cR4 w')) | (apply OQ.move; exact rfl) | (apply OQ.assign; exact rfl) | (apply OQ.remN; exact rfl; exact rfl; exact (by (try simp only []); omega)) | (apply OQ.quoN; exact rfl; exact rfl; exact (by (try simp only []); omega); exact (by (try simp only []); omega)) | (apply OQ.idxA0; exact rfl; exact rfl; exact rfl; exact rfl; exact (by (try simp only []); omega))) rfl ?_ | refine JQ.q (by first | (apply OQ.load_agg (cs := DA.map I); exact n16a; exact n16s; exact rfl; exact (by repeat (first | exact Has.here | apply Has.there)); exact (by rw [List.length_map]; exact gDA.len); exact Row.all) | (apply OQ.load_agg (cs := CB.map I); exact n16a; exact n16s; exact rfl; exact (by repeat (first | exact Has.here | apply Has.there)); exact (by rw [List.length_map]; exact gCB.len); exact Row.all) | (apply OQ.load_agg (cs := x1.map I); exact n16a; exact n16s; exact rfl; exact (by repeat (first | exact Has.here | apply Has.there)); exact (by rw [List.length_map]; exact gx.len); exact Row.all) | (apply OQ.callx (vs := [.agg (DA.map I).toArray, .agg (CB.map I).toArray]); exact goes_nless; exact rfl; exact (fun w' _ => cJ w')) | (apply OQ.callx (vs := [.agg (J.map I).toArray, .agg (J.map I).toArray]); exact goes_times; exact rfl; exact (fun w' _ => cJJ w')) | (apply OQ.callx (vs := [.agg (x1.map I).toArray, .agg (JJ.map I).toArray]); exact goes_times; exact rfl; exact (fun w' _ => cR4 w')) | (apply OQ.move; exact rfl) | (apply OQ.assign; exact rfl) | (apply OQ.remN; exact rfl; exact rfl; exact (by (try simp only []); omega)) | (apply OQ.quoN; exact rfl; exact rfl; exact (by (try simp only []); omega); exact (by (try simp only []); omega)) | (apply OQ.idxA0; exact rfl; exact rfl; exact rfl; exact rfl; exact (by (try simp only []); omega))) rfl ?_ | refine JC.seq ?_ | refine JC.region ?_ | refine JC.block ?_ | refine JC.skip ?_ | refine JC.exit ?_ | refine JL.nil ?_ | refine JQ.nil ?_ | refine JQ.nil_tail ?_ | refine JE.next ?_ | refine JE.blk_normal ?_ | refine JE.then_exit ?_ | refine JE.blk_hit ?_ | refine JE.blk_miss rfl ?_ | refine JE.then_ret ?_ | refine JE.blk_ret ?_ | refine JC.label ?_ | refine JL.gon rfl rfl ?_ | refine JQ.gon rfl rfl ?_ | refine JL.gskip rfl rfl rfl rfl ?_ | refine JQ.gskip rfl rfl rfl rfl ?_)
            refine JL.store_all (cs := R4.map I) n16s rfl rfl (by rw [List.length_map]; exact gR4.len) (I_cell _) (by repeat (first | exact Upd.here | apply Upd.there)) (by rw [List.length_map]; exact gZ3.len) ?_
            repeat (first | refine JL.q (by first | (apply OQ.load_agg (cs := AA.map I); exact n16a; exact n16s; exact rfl; exact (by repeat (first | exact Has.here | apply Has.there)); exact (by rw [List.length_map]; exact gAA.len); exact Row.all) | (apply OQ.load_agg (cs := BB.map I); exact n16a; exact n16s; exact rfl; exact (by repeat (first | exact Has.here | apply Has.there)); exact (by rw [List.length_map]; exact gBB.len); exact Row.all) | (apply OQ.callx (vs := [.agg (AA.map I).toArray, .agg (BB.map I).toArray]); exact goes_times; exact rfl; exact (fun w' _ => cR1 w')) | (apply OQ.move; exact rfl) | (apply OQ.assign; exact rfl) | (apply OQ.remN; exact rfl; exact rfl; exact (by (try simp only []); omega)) | (apply OQ.quoN; exact rfl; exact rfl; exact (by (try simp only []); omega); exact (by (try simp only []); omega)) | (apply OQ.idxA0; exact rfl; exact rfl; exact rfl; exact rfl; exact (by (try simp only []); omega))) rfl ?_ | refine JQ.q (by first | (apply OQ.load_agg (cs := AA.map I); exact n16a; exact n16s; exact rfl; exact (by repeat (first | exact Has.here | apply Has.there)); exact (by rw [List.length_map]; exact gAA.len); exact Row.all) | (apply OQ.load_agg (cs := BB.map I); exact n16a; exact n16s; exact rfl; exact (by repeat (first | exact Has.here | apply Has.there)); exact (by rw [List.length_map]; exact gBB.len); exact Row.all) | (apply OQ.callx (vs := [.agg (AA.map I).toArray, .agg (BB.map I).toArray]); exact goes_times; exact rfl; exact (fun w' _ => cR1 w')) | (apply OQ.move; exact rfl) | (apply OQ.assign; exact rfl) | (apply OQ.remN; exact rfl; exact rfl; exact (by (try simp only []); omega)) | (apply OQ.quoN; exact rfl; exact rfl; exact (by (try simp only []); omega); exact (by (try simp only []); omega)) | (apply OQ.idxA0; exact rfl; exact rfl; exact rfl; exact rfl; exact (by (try simp only []); omega))) rfl ?_ | refine JC.seq ?_ | refine JC.region ?_ | refine JC.block ?_ | refine JC.skip ?_ | refine JC.exit ?_ | refine JL.nil ?_ | refine JQ.nil ?_ | refine JQ.nil_tail ?_ | refine JE.next ?_ | refine JE.blk_normal ?_ | refine JE.then_exit ?_ | refine JE.blk_hit ?_ | refine JE.blk_miss rfl ?_ | refine JE.then_ret ?_ | refine JE.blk_ret ?_ | refine JC.label ?_ | refine JL.gon rfl rfl ?_ | refine JQ.gon rfl rfl ?_ | refine JL.gskip rfl rfl rfl rfl ?_ | refine JQ.gskip rfl rfl rfl rfl ?_)
            refine JL.store_all (cs := R1.map I) n16s rfl rfl (by rw [List.length_map]; exact gR1.len) (I_cell _) (by repeat (first | exact Upd.here | apply Upd.there)) (by rw [List.length_map]; exact gX2.len) ?_
            repeat (first | refine JL.q (by first | (apply OQ.move; exact rfl) | (apply OQ.assign; exact rfl) | (apply OQ.remN; exact rfl; exact rfl; exact (by (try simp only []); omega)) | (apply OQ.quoN; exact rfl; exact rfl; exact (by (try simp only []); omega); exact (by (try simp only []); omega)) | (apply OQ.idxA0; exact rfl; exact rfl; exact rfl; exact rfl; exact (by (try simp only []); omega))) rfl ?_ | refine JQ.q (by first | (apply OQ.move; exact rfl) | (apply OQ.assign; exact rfl) | (apply OQ.remN; exact rfl; exact rfl; exact (by (try simp only []); omega)) | (apply OQ.quoN; exact rfl; exact rfl; exact (by (try simp only []); omega); exact (by (try simp only []); omega)) | (apply OQ.idxA0; exact rfl; exact rfl; exact rfl; exact rfl; exact (by (try simp only []); omega))) rfl ?_ | refine JC.seq ?_ | refine JC.region ?_ | refine JC.block ?_ | refine JC.skip ?_ | refine JC.exit ?_ | refine JL.nil ?_ | refine JQ.nil ?_ | refine JQ.nil_tail ?_ | refine JE.next ?_ | refine JE.blk_normal ?_ | refine JE.then_exit ?_ | refine JE.blk_hit ?_ | refine JE.blk_miss rfl ?_ | refine JE.then_ret ?_ | refine JE.blk_ret ?_ | refine JC.label ?_ | refine JL.gon rfl rfl ?_ | refine JQ.gon rfl rfl ?_ | refine JL.gskip rfl rfl rfl rfl ?_ | refine JQ.gskip rfl rfl rfl rfl ?_)
            refine JC.tail 7 mixC (by kernel_rfl) ?_
            simp only [List.take_succ_cons, List.take_zero, List.drop_succ_cons, List.drop_zero]
            repeat (first | refine JL.q (by first | (apply OQ.load_agg (cs := E.map I); exact n16a; exact n16s; exact rfl; exact (by repeat (first | exact Has.here | apply Has.there)); exact (by rw [List.length_map]; exact gE.len); exact Row.all) | (apply OQ.load_agg (cs := AA.map I); exact n16a; exact n16s; exact rfl; exact (by repeat (first | exact Has.here | apply Has.there)); exact (by rw [List.length_map]; exact gAA.len); exact Row.all) | (apply OQ.move; exact rfl) | (apply OQ.assign; exact rfl) | (apply OQ.remN; exact rfl; exact rfl; exact (by (try simp only []); omega)) | (apply OQ.quoN; exact rfl; exact rfl; exact (by (try simp only []); omega); exact (by (try simp only []); omega)) | (apply OQ.idxA0; exact rfl; exact rfl; exact rfl; exact rfl; exact (by (try simp only []); omega))) rfl ?_ | refine JQ.q (by first | (apply OQ.load_agg (cs := E.map I); exact n16a; exact n16s; exact rfl; exact (by repeat (first | exact Has.here | apply Has.there)); exact (by rw [List.length_map]; exact gE.len); exact Row.all) | (apply OQ.load_agg (cs := AA.map I); exact n16a; exact n16s; exact rfl; exact (by repeat (first | exact Has.here | apply Has.there)); exact (by rw [List.length_map]; exact gAA.len); exact Row.all) | (apply OQ.move; exact rfl) | (apply OQ.assign; exact rfl) | (apply OQ.remN; exact rfl; exact rfl; exact (by (try simp only []); omega)) | (apply OQ.quoN; exact rfl; exact rfl; exact (by (try simp only []); omega); exact (by (try simp only []); omega)) | (apply OQ.idxA0; exact rfl; exact rfl; exact rfl; exact rfl; exact (by (try simp only []); omega))) rfl ?_ | refine JC.seq ?_ | refine JC.region ?_ | refine JC.block ?_ | refine JC.skip ?_ | refine JC.exit ?_ | refine JL.nil ?_ | refine JQ.nil ?_ | refine JQ.nil_tail ?_ | refine JE.next ?_ | refine JE.blk_normal ?_ | refine JE.then_exit ?_ | refine JE.blk_hit ?_ | refine JE.blk_miss rfl ?_ | refine JE.then_ret ?_ | refine JE.blk_ret ?_ | refine JC.label ?_ | refine JL.gon rfl rfl ?_ | refine JQ.gon rfl rfl ?_ | refine JL.gskip rfl rfl rfl rfl ?_ | refine JQ.gskip rfl rfl rfl rfl ?_)
            refine JQ.q (OQ.pure (v := .agg (cL.map I).toArray) rfl rfl (by kernel_rfl)) rfl ?_
            repeat (first | refine JL.q (by first | (apply OQ.load_agg (cs := E.map I); exact n16a; exact n16s; exact rfl; exact (by repeat (first | exact Has.here | apply Has.there)); exact (by rw [List.length_map]; exact gE.len); exact Row.all) | (apply OQ.callx (vs := [.agg (cL.map I).toArray, .agg (E.map I).toArray]); exact goes_times; exact rfl; exact (fun w' _ => cF w')) | (apply OQ.callx (vs := [.agg (AA.map I).toArray, .agg (F.map I).toArray]); exact goes_nadd; exact rfl; exact (fun w' _ => cG w')) | (apply OQ.callx (vs := [.agg (E.map I).toArray, .agg (G.map I).toArray]); exact goes_times; exact rfl; exact (fun w' _ => cR2 w')) | (apply OQ.move; exact rfl) | (apply OQ.assign; exact rfl) | (apply OQ.remN; exact rfl; exact rfl; exact (by (try simp only []); omega)) | (apply OQ.quoN; exact rfl; exact rfl; exact (by (try simp only []); omega); exact (by (try simp only []); omega)) | (apply OQ.idxA0; exact rfl; exact rfl; exact rfl; exact rfl; exact (by (try simp only []); omega))) rfl ?_ | refine JQ.q (by first | (apply OQ.load_agg (cs := E.map I); exact n16a; exact n16s; exact rfl; exact (by repeat (first | exact Has.here | apply Has.there)); exact (by rw [List.length_map]; exact gE.len); exact Row.all) | (apply OQ.callx (vs := [.agg (cL.map I).toArray, .agg (E.map I).toArray]); exact goes_times; exact rfl; exact (fun w' _ => cF w')) | (apply OQ.callx (vs := [.agg (AA.map I).toArray, .agg (F.map I).toArray]); exact goes_nadd; exact rfl; exact (fun w' _ => cG w')) | (apply OQ.callx (vs := [.agg (E.map I).toArray, .agg (G.map I).toArray]); exact goes_times; exact rfl; exact (fun w' _ => cR2 w')) | (apply OQ.move; exact rfl) | (apply OQ.assign; exact rfl) | (apply OQ.remN; exact rfl; exact rfl; exact (by (try simp only []); omega)) | (apply OQ.quoN; exact rfl; exact rfl; exact (by (try simp only []); omega); exact (by (try simp only []); omega)) | (apply OQ.idxA0; exact rfl; exact rfl; exact rfl; exact rfl; exact (by (try simp only []); omega))) rfl ?_ | refine JC.seq ?_ | refine JC.region ?_ | refine JC.block ?_ | refine JC.skip ?_ | refine JC.exit ?_ | refine JL.nil ?_ | refine JQ.nil ?_ | refine JQ.nil_tail ?_ | refine JE.next ?_ | refine JE.blk_normal ?_ | refine JE.then_exit ?_ | refine JE.blk_hit ?_ | refine JE.blk_miss rfl ?_ | refine JE.then_ret ?_ | refine JE.blk_ret ?_ | refine JC.label ?_ | refine JL.gon rfl rfl ?_ | refine JQ.gon rfl rfl ?_ | refine JL.gskip rfl rfl rfl rfl ?_ | refine JQ.gskip rfl rfl rfl rfl ?_)
            refine JL.store_all (cs := R2.map I) n16s rfl rfl (by rw [List.length_map]; exact gR2.len) (I_cell _) (by repeat (first | exact Upd.here | apply Upd.there)) (by rw [List.length_map]; exact gZ2.len) ?_
            repeat (first | refine JL.q (by first | (apply OQ.eq8 (b := 1#8); exact rfl; exact rfl) | (apply OQ.move; exact rfl) | (apply OQ.assign; exact rfl) | (apply OQ.remN; exact rfl; exact rfl; exact (by (try simp only []); omega)) | (apply OQ.quoN; exact rfl; exact rfl; exact (by (try simp only []); omega); exact (by (try simp only []); omega)) | (apply OQ.idxA0; exact rfl; exact rfl; exact rfl; exact rfl; exact (by (try simp only []); omega))) rfl ?_ | refine JQ.q (by first | (apply OQ.eq8 (b := 1#8); exact rfl; exact rfl) | (apply OQ.move; exact rfl) | (apply OQ.assign; exact rfl) | (apply OQ.remN; exact rfl; exact rfl; exact (by (try simp only []); omega)) | (apply OQ.quoN; exact rfl; exact rfl; exact (by (try simp only []); omega); exact (by (try simp only []); omega)) | (apply OQ.idxA0; exact rfl; exact rfl; exact rfl; exact rfl; exact (by (try simp only []); omega))) rfl ?_ | refine JC.seq ?_ | refine JC.region ?_ | refine JC.block ?_ | refine JC.skip ?_ | refine JC.exit ?_ | refine JL.nil ?_ | refine JQ.nil ?_ | refine JQ.nil_tail ?_ | refine JE.next ?_ | refine JE.blk_normal ?_ | refine JE.then_exit ?_ | refine JE.blk_hit ?_ | refine JE.blk_miss rfl ?_ | refine JE.then_ret ?_ | refine JE.blk_ret ?_ | refine JC.label ?_ | refine JL.gon rfl rfl ?_ | refine JQ.gon rfl rfl ?_ | refine JL.gskip rfl rfl rfl rfl ?_ | refine JQ.gskip rfl rfl rfl rfl ?_)
            refine JC.cond rfl (fun h => ?_) (fun h => ?_)
            · repeat (first | refine JL.q (by first | (apply OQ.load_agg (cs := R1.map I); exact n16a; exact n16s; exact rfl; exact (by repeat (first | exact Has.here | apply Has.there)); exact (by rw [List.length_map]; exact gR1.len); exact Row.all) | (apply OQ.load_agg (cs := R3.map I); exact n16a; exact n16s; exact rfl; exact (by repeat (first | exact Has.here | apply Has.there)); exact (by rw [List.length_map]; exact gR3.len); exact Row.all) | (apply OQ.move; exact rfl) | (apply OQ.assign; exact rfl) | (apply OQ.remN; exact rfl; exact rfl; exact (by (try simp only []); omega)) | (apply OQ.quoN; exact rfl; exact rfl; exact (by (try simp only []); omega); exact (by (try simp only []); omega)) | (apply OQ.idxA0; exact rfl; exact rfl; exact rfl; exact rfl; exact (by (try simp only []); omega))) rfl ?_ | refine JQ.q (by first | (apply OQ.load_agg (cs := R1.map I); exact n16a; exact n16s; exact rfl; exact (by repeat (first | exact Has.here | apply Has.there)); exact (by rw [List.length_map]; exact gR1.len); exact Row.all) | (apply OQ.load_agg (cs := R3.map I); exact n16a; exact n16s; exact rfl; exact (by repeat (first | exact Has.here | apply Has.there)); exact (by rw [List.length_map]; exact gR3.len); exact Row.all) | (apply OQ.move; exact rfl) | (apply OQ.assign; exact rfl) | (apply OQ.remN; exact rfl; exact rfl; exact (by (try simp only []); omega)) | (apply OQ.quoN; exact rfl; exact rfl; exact (by (try simp only []); omega); exact (by (try simp only []); omega)) | (apply OQ.idxA0; exact rfl; exact rfl; exact rfl; exact rfl; exact (by (try simp only []); omega))) rfl ?_ | refine JC.seq ?_ | refine JC.region ?_ | refine JC.block ?_ | refine JC.skip ?_ | refine JC.exit ?_ | refine JL.nil ?_ | refine JQ.nil ?_ | refine JQ.nil_tail ?_ | refine JE.next ?_ | refine JE.blk_normal ?_ | refine JE.then_exit ?_ | refine JE.blk_hit ?_ | refine JE.blk_miss rfl ?_ | refine JE.then_ret ?_ | refine JE.blk_ret ?_ | refine JC.label ?_ | refine JL.gon rfl rfl ?_ | refine JQ.gon rfl rfl ?_ | refine JL.gskip rfl rfl rfl rfl ?_ | refine JQ.gskip rfl rfl rfl rfl ?_)
              refine JL.store_all (cs := R3.map I) n16s rfl rfl (by rw [List.length_map]; exact gR3.len) (I_cell _) (by repeat (first | exact Upd.here | apply Upd.there)) (by rw [List.length_map]; exact gR1.len) ?_
              repeat (first | refine JL.q (by first | (apply OQ.move; exact rfl) | (apply OQ.assign; exact rfl) | (apply OQ.remN; exact rfl; exact rfl; exact (by (try simp only []); omega)) | (apply OQ.quoN; exact rfl; exact rfl; exact (by (try simp only []); omega); exact (by (try simp only []); omega)) | (apply OQ.idxA0; exact rfl; exact rfl; exact rfl; exact rfl; exact (by (try simp only []); omega))) rfl ?_ | refine JQ.q (by first | (apply OQ.move; exact rfl) | (apply OQ.assign; exact rfl) | (apply OQ.remN; exact rfl; exact rfl; exact (by (try simp only []); omega)) | (apply OQ.quoN; exact rfl; exact rfl; exact (by (try simp only []); omega); exact (by (try simp only []); omega)) | (apply OQ.idxA0; exact rfl; exact rfl; exact rfl; exact rfl; exact (by (try simp only []); omega))) rfl ?_ | refine JC.seq ?_ | refine JC.region ?_ | refine JC.block ?_ | refine JC.skip ?_ | refine JC.exit ?_ | refine JL.nil ?_ | refine JQ.nil ?_ | refine JQ.nil_tail ?_ | refine JE.next ?_ | refine JE.blk_normal ?_ | refine JE.then_exit ?_ | refine JE.blk_hit ?_ | refine JE.blk_miss rfl ?_ | refine JE.then_ret ?_ | refine JE.blk_ret ?_ | refine JC.label ?_ | refine JL.gon rfl rfl ?_ | refine JQ.gon rfl rfl ?_ | refine JL.gskip rfl rfl rfl rfl ?_ | refine JQ.gskip rfl rfl rfl rfl ?_)
              refine JL.store_all (cs := R1.map I) n16s rfl rfl (by rw [List.length_map]; exact gR1.len) (I_cell _) (by repeat (first | exact Upd.here | apply Upd.there)) (by rw [List.length_map]; exact gR3.len) ?_
              repeat (first | refine JL.q (by first | (apply OQ.load_agg (cs := R2.map I); exact n16a; exact n16s; exact rfl; exact (by repeat (first | exact Has.here | apply Has.there)); exact (by rw [List.length_map]; exact gR2.len); exact Row.all) | (apply OQ.load_agg (cs := R4.map I); exact n16a; exact n16s; exact rfl; exact (by repeat (first | exact Has.here | apply Has.there)); exact (by rw [List.length_map]; exact gR4.len); exact Row.all) | (apply OQ.move; exact rfl) | (apply OQ.assign; exact rfl) | (apply OQ.remN; exact rfl; exact rfl; exact (by (try simp only []); omega)) | (apply OQ.quoN; exact rfl; exact rfl; exact (by (try simp only []); omega); exact (by (try simp only []); omega)) | (apply OQ.idxA0; exact rfl; exact rfl; exact rfl; exact rfl; exact (by (try simp only []); omega))) rfl ?_ | refine JQ.q (by first | (apply OQ.load_agg (cs := R2.map I); exact n16a; exact n16s; exact rfl; exact (by repeat (first | exact Has.here | apply Has.there)); exact (by rw [List.length_map]; exact gR2.len); exact Row.all) | (apply OQ.load_agg (cs := R4.map I); exact n16a; exact n16s; exact rfl; exact (by repeat (first | exact Has.here | apply Has.there)); exact (by rw [List.length_map]; exact gR4.len); exact Row.all) | (apply OQ.move; exact rfl) | (apply OQ.assign; exact rfl) | (apply OQ.remN; exact rfl; exact rfl; exact (by (try simp only []); omega)) | (apply OQ.quoN; exact rfl; exact rfl; exact (by (try simp only []); omega); exact (by (try simp only []); omega)) | (apply OQ.idxA0; exact rfl; exact rfl; exact rfl; exact rfl; exact (by (try simp only []); omega))) rfl ?_ | refine JC.seq ?_ | refine JC.region ?_ | refine JC.block ?_ | refine JC.skip ?_ | refine JC.exit ?_ | refine JL.nil ?_ | refine JQ.nil ?_ | refine JQ.nil_tail ?_ | refine JE.next ?_ | refine JE.blk_normal ?_ | refine JE.then_exit ?_ | refine JE.blk_hit ?_ | refine JE.blk_miss rfl ?_ | refine JE.then_ret ?_ | refine JE.blk_ret ?_ | refine JC.label ?_ | refine JL.gon rfl rfl ?_ | refine JQ.gon rfl rfl ?_ | refine JL.gskip rfl rfl rfl rfl ?_ | refine JQ.gskip rfl rfl rfl rfl ?_)
              refine JL.store_all (cs := R4.map I) n16s rfl rfl (by rw [List.length_map]; exact gR4.len) (I_cell _) (by repeat (first | exact Upd.here | apply Upd.there)) (by rw [List.length_map]; exact gR2.len) ?_
              repeat (first | refine JL.q (by first | (apply OQ.move; exact rfl) | (apply OQ.assign; exact rfl) | (apply OQ.remN; exact rfl; exact rfl; exact (by (try simp only []); omega)) | (apply OQ.quoN; exact rfl; exact rfl; exact (by (try simp only []); omega); exact (by (try simp only []); omega)) | (apply OQ.idxA0; exact rfl; exact rfl; exact rfl; exact rfl; exact (by (try simp only []); omega))) rfl ?_ | refine JQ.q (by first | (apply OQ.move; exact rfl) | (apply OQ.assign; exact rfl) | (apply OQ.remN; exact rfl; exact rfl; exact (by (try simp only []); omega)) | (apply OQ.quoN; exact rfl; exact rfl; exact (by (try simp only []); omega); exact (by (try simp only []); omega)) | (apply OQ.idxA0; exact rfl; exact rfl; exact rfl; exact rfl; exact (by (try simp only []); omega))) rfl ?_ | refine JC.seq ?_ | refine JC.region ?_ | refine JC.block ?_ | refine JC.skip ?_ | refine JC.exit ?_ | refine JL.nil ?_ | refine JQ.nil ?_ | refine JQ.nil_tail ?_ | refine JE.next ?_ | refine JE.blk_normal ?_ | refine JE.then_exit ?_ | refine JE.blk_hit ?_ | refine JE.blk_miss rfl ?_ | refine JE.then_ret ?_ | refine JE.blk_ret ?_ | refine JC.label ?_ | refine JL.gon rfl rfl ?_ | refine JQ.gon rfl rfl ?_ | refine JL.gskip rfl rfl rfl rfl ?_ | refine JQ.gskip rfl rfl rfl rfl ?_)
              refine JL.store_all (cs := R2.map I) n16s rfl rfl (by rw [List.length_map]; exact gR2.len) (I_cell _) (by repeat (first | exact Upd.here | apply Upd.there)) (by rw [List.length_map]; exact gR4.len) ?_
              repeat (first | refine JL.q (by first | (apply OQ.move; exact rfl) | (apply OQ.assign; exact rfl) | (apply OQ.remN; exact rfl; exact rfl; exact (by (try simp only []); omega)) | (apply OQ.quoN; exact rfl; exact rfl; exact (by (try simp only []); omega); exact (by (try simp only []); omega)) | (apply OQ.idxA0; exact rfl; exact rfl; exact rfl; exact rfl; exact (by (try simp only []); omega))) rfl ?_ | refine JQ.q (by first | (apply OQ.move; exact rfl) | (apply OQ.assign; exact rfl) | (apply OQ.remN; exact rfl; exact rfl; exact (by (try simp only []); omega)) | (apply OQ.quoN; exact rfl; exact rfl; exact (by (try simp only []); omega); exact (by (try simp only []); omega)) | (apply OQ.idxA0; exact rfl; exact rfl; exact rfl; exact rfl; exact (by (try simp only []); omega))) rfl ?_ | refine JC.seq ?_ | refine JC.region ?_ | refine JC.block ?_ | refine JC.skip ?_ | refine JC.exit ?_ | refine JL.nil ?_ | refine JQ.nil ?_ | refine JQ.nil_tail ?_ | refine JE.next ?_ | refine JE.blk_normal ?_ | refine JE.then_exit ?_ | refine JE.blk_hit ?_ | refine JE.blk_miss rfl ?_ | refine JE.then_ret ?_ | refine JE.blk_ret ?_ | refine JC.label ?_ | refine JL.gon rfl rfl ?_ | refine JQ.gon rfl rfl ?_ | refine JL.gskip rfl rfl rfl rfl ?_ | refine JQ.gskip rfl rfl rfl rfl ?_)
              repeat (first | refine JL.q (by first | (apply OQ.subI (b := 1); exact rfl; exact rfl; exact (by omega); exact (by omega)) | (apply OQ.move; exact rfl) | (apply OQ.assign; exact rfl) | (apply OQ.remN; exact rfl; exact rfl; exact (by (try simp only []); omega)) | (apply OQ.quoN; exact rfl; exact rfl; exact (by (try simp only []); omega); exact (by (try simp only []); omega)) | (apply OQ.idxA0; exact rfl; exact rfl; exact rfl; exact rfl; exact (by (try simp only []); omega))) rfl ?_ | refine JQ.q (by first | (apply OQ.subI (b := 1); exact rfl; exact rfl; exact (by omega); exact (by omega)) | (apply OQ.move; exact rfl) | (apply OQ.assign; exact rfl) | (apply OQ.remN; exact rfl; exact rfl; exact (by (try simp only []); omega)) | (apply OQ.quoN; exact rfl; exact rfl; exact (by (try simp only []); omega); exact (by (try simp only []); omega)) | (apply OQ.idxA0; exact rfl; exact rfl; exact rfl; exact rfl; exact (by (try simp only []); omega))) rfl ?_ | refine JC.seq ?_ | refine JC.region ?_ | refine JC.block ?_ | refine JC.skip ?_ | refine JC.exit ?_ | refine JL.nil ?_ | refine JQ.nil ?_ | refine JQ.nil_tail ?_ | refine JE.next ?_ | refine JE.blk_normal ?_ | refine JE.then_exit ?_ | refine JE.blk_hit ?_ | refine JE.blk_miss rfl ?_ | refine JE.then_ret ?_ | refine JE.blk_ret ?_ | refine JC.label ?_ | refine JL.gon rfl rfl ?_ | refine JQ.gon rfl rfl ?_ | refine JL.gskip rfl rfl rfl rfl ?_ | refine JQ.gskip rfl rfl rfl rfl ?_)
              refine JE.again (i := n) (n + 1) (by omega) (by omega) ?_ ?_
              · rw [show (254 - ((n + 1 : Nat) : Int)) = (i : Int) - 1 by omega]
                exact (by repeat (first | exact SubE.nil | refine SubE.cons _ _ _ rfl ?_))
              · rw [eN, ← hbit, h]
                repeat (first | exact Less.refl _ | refine Less.drop _ _ _ ?_)
            · repeat (first | refine JL.q (by first | (apply OQ.move; exact rfl) | (apply OQ.assign; exact rfl) | (apply OQ.remN; exact rfl; exact rfl; exact (by (try simp only []); omega)) | (apply OQ.quoN; exact rfl; exact rfl; exact (by (try simp only []); omega); exact (by (try simp only []); omega)) | (apply OQ.idxA0; exact rfl; exact rfl; exact rfl; exact rfl; exact (by (try simp only []); omega))) rfl ?_ | refine JQ.q (by first | (apply OQ.move; exact rfl) | (apply OQ.assign; exact rfl) | (apply OQ.remN; exact rfl; exact rfl; exact (by (try simp only []); omega)) | (apply OQ.quoN; exact rfl; exact rfl; exact (by (try simp only []); omega); exact (by (try simp only []); omega)) | (apply OQ.idxA0; exact rfl; exact rfl; exact rfl; exact rfl; exact (by (try simp only []); omega))) rfl ?_ | refine JC.seq ?_ | refine JC.region ?_ | refine JC.block ?_ | refine JC.skip ?_ | refine JC.exit ?_ | refine JL.nil ?_ | refine JQ.nil ?_ | refine JQ.nil_tail ?_ | refine JE.next ?_ | refine JE.blk_normal ?_ | refine JE.then_exit ?_ | refine JE.blk_hit ?_ | refine JE.blk_miss rfl ?_ | refine JE.then_ret ?_ | refine JE.blk_ret ?_ | refine JC.label ?_ | refine JL.gon rfl rfl ?_ | refine JQ.gon rfl rfl ?_ | refine JL.gskip rfl rfl rfl rfl ?_ | refine JQ.gskip rfl rfl rfl rfl ?_)
              repeat (first | refine JL.q (by first | (apply OQ.subI (b := 1); exact rfl; exact rfl; exact (by omega); exact (by omega)) | (apply OQ.move; exact rfl) | (apply OQ.assign; exact rfl) | (apply OQ.remN; exact rfl; exact rfl; exact (by (try simp only []); omega)) | (apply OQ.quoN; exact rfl; exact rfl; exact (by (try simp only []); omega); exact (by (try simp only []); omega)) | (apply OQ.idxA0; exact rfl; exact rfl; exact rfl; exact rfl; exact (by (try simp only []); omega))) rfl ?_ | refine JQ.q (by first | (apply OQ.subI (b := 1); exact rfl; exact rfl; exact (by omega); exact (by omega)) | (apply OQ.move; exact rfl) | (apply OQ.assign; exact rfl) | (apply OQ.remN; exact rfl; exact rfl; exact (by (try simp only []); omega)) | (apply OQ.quoN; exact rfl; exact rfl; exact (by (try simp only []); omega); exact (by (try simp only []); omega)) | (apply OQ.idxA0; exact rfl; exact rfl; exact rfl; exact rfl; exact (by (try simp only []); omega))) rfl ?_ | refine JC.seq ?_ | refine JC.region ?_ | refine JC.block ?_ | refine JC.skip ?_ | refine JC.exit ?_ | refine JL.nil ?_ | refine JQ.nil ?_ | refine JQ.nil_tail ?_ | refine JE.next ?_ | refine JE.blk_normal ?_ | refine JE.then_exit ?_ | refine JE.blk_hit ?_ | refine JE.blk_miss rfl ?_ | refine JE.then_ret ?_ | refine JE.blk_ret ?_ | refine JC.label ?_ | refine JL.gon rfl rfl ?_ | refine JQ.gon rfl rfl ?_ | refine JL.gskip rfl rfl rfl rfl ?_ | refine JQ.gskip rfl rfl rfl rfl ?_)
              refine JE.again (i := n) (n + 1) (by omega) (by omega) ?_ ?_
              · rw [show (254 - ((n + 1 : Nat) : Int)) = (i : Int) - 1 by omega]
                exact (by repeat (first | exact SubE.nil | refine SubE.cons _ _ _ rfl ?_))
              · rw [eN, ← hbit, h]
                repeat (first | exact Less.refl _ | refine Less.drop _ _ _ ?_)
      · have hn' : ¬ (0 : Int) ≤ 254 - n := of_decide_eq_false h
        obtain rfl : n = 255 := by omega
        clear h hn hn'
        generalize ladL x1 (le K) 255 = s at ok eM ⊢
        obtain ⟨X2, Z2, X3, Z3⟩ := s
        have gX2 : Good X2 := ok.x2
        have gZ2 : Good Z2 := ok.z2
        dsimp only at eM ⊢
        have cV := ninv_any Z2 gZ2
        have gV := invS_good gZ2 255
        generalize invS Z2 255 = V at cV gV eM
        have cW := times_any X2 V gX2 gV
        have gW := mulL_good gX2 gV
        generalize mulL X2 V = W at cW gW eM
        have cY := nwrite_any W gW
        rw [eM] at cY
        have hly : ((multB k u).map U8).length = 32 := by rw [List.length_map]; exact keyF_len _
        generalize multB k u = Y at cY hly ⊢
        repeat (first | refine JL.q (by first | (apply OQ.move; exact rfl) | (apply OQ.assign; exact rfl) | (apply OQ.remN; exact rfl; exact rfl; exact (by (try simp only []); omega)) | (apply OQ.quoN; exact rfl; exact rfl; exact (by (try simp only []); omega); exact (by (try simp only []); omega)) | (apply OQ.idxA0; exact rfl; exact rfl; exact rfl; exact rfl; exact (by (try simp only []); omega))) rfl ?_ | refine JQ.q (by first | (apply OQ.move; exact rfl) | (apply OQ.assign; exact rfl) | (apply OQ.remN; exact rfl; exact rfl; exact (by (try simp only []); omega)) | (apply OQ.quoN; exact rfl; exact rfl; exact (by (try simp only []); omega); exact (by (try simp only []); omega)) | (apply OQ.idxA0; exact rfl; exact rfl; exact rfl; exact rfl; exact (by (try simp only []); omega))) rfl ?_ | refine JC.seq ?_ | refine JC.region ?_ | refine JC.block ?_ | refine JC.skip ?_ | refine JC.exit ?_ | refine JL.nil ?_ | refine JQ.nil ?_ | refine JQ.nil_tail ?_ | refine JE.next ?_ | refine JE.blk_normal ?_ | refine JE.then_exit ?_ | refine JE.blk_hit ?_ | refine JE.blk_miss rfl ?_ | refine JE.then_ret ?_ | refine JE.blk_ret ?_ | refine JC.label ?_ | refine JL.gon rfl rfl ?_ | refine JQ.gon rfl rfl ?_ | refine JL.gskip rfl rfl rfl rfl ?_ | refine JQ.gskip rfl rfl rfl rfl ?_)
        refine JC.tail 5 mixC (by kernel_rfl) ?_
        simp only [List.take_succ_cons, List.take_zero, List.drop_succ_cons, List.drop_zero]
        repeat (first | refine JL.q (by first | (apply OQ.load_agg (cs := X2.map I); exact n16a; exact n16s; exact rfl; exact (by repeat (first | exact Has.here | apply Has.there)); exact (by rw [List.length_map]; exact gX2.len); exact Row.all) | (apply OQ.load_agg (cs := Z2.map I); exact n16a; exact n16s; exact rfl; exact (by repeat (first | exact Has.here | apply Has.there)); exact (by rw [List.length_map]; exact gZ2.len); exact Row.all) | (apply OQ.callx (vs := [.agg (Z2.map I).toArray]); exact goes_ninv; exact rfl; exact (fun w' _ => cV w')) | (apply OQ.callx (vs := [.agg (X2.map I).toArray, .agg (V.map I).toArray]); exact goes_times; exact rfl; exact (fun w' _ => cW w')) | (apply OQ.callx (vs := [.agg (W.map I).toArray]); exact goes_nwrite; exact rfl; exact (fun w' _ => cY w')) | (apply OQ.move; exact rfl) | (apply OQ.assign; exact rfl) | (apply OQ.remN; exact rfl; exact rfl; exact (by (try simp only []); omega)) | (apply OQ.quoN; exact rfl; exact rfl; exact (by (try simp only []); omega); exact (by (try simp only []); omega)) | (apply OQ.idxA0; exact rfl; exact rfl; exact rfl; exact rfl; exact (by (try simp only []); omega))) rfl ?_ | refine JQ.q (by first | (apply OQ.load_agg (cs := X2.map I); exact n16a; exact n16s; exact rfl; exact (by repeat (first | exact Has.here | apply Has.there)); exact (by rw [List.length_map]; exact gX2.len); exact Row.all) | (apply OQ.load_agg (cs := Z2.map I); exact n16a; exact n16s; exact rfl; exact (by repeat (first | exact Has.here | apply Has.there)); exact (by rw [List.length_map]; exact gZ2.len); exact Row.all) | (apply OQ.callx (vs := [.agg (Z2.map I).toArray]); exact goes_ninv; exact rfl; exact (fun w' _ => cV w')) | (apply OQ.callx (vs := [.agg (X2.map I).toArray, .agg (V.map I).toArray]); exact goes_times; exact rfl; exact (fun w' _ => cW w')) | (apply OQ.callx (vs := [.agg (W.map I).toArray]); exact goes_nwrite; exact rfl; exact (fun w' _ => cY w')) | (apply OQ.move; exact rfl) | (apply OQ.assign; exact rfl) | (apply OQ.remN; exact rfl; exact rfl; exact (by (try simp only []); omega)) | (apply OQ.quoN; exact rfl; exact rfl; exact (by (try simp only []); omega); exact (by (try simp only []); omega)) | (apply OQ.idxA0; exact rfl; exact rfl; exact rfl; exact rfl; exact (by (try simp only []); omega))) rfl ?_ | refine JC.seq ?_ | refine JC.region ?_ | refine JC.block ?_ | refine JC.skip ?_ | refine JC.exit ?_ | refine JL.nil ?_ | refine JQ.nil ?_ | refine JQ.nil_tail ?_ | refine JE.next ?_ | refine JE.blk_normal ?_ | refine JE.then_exit ?_ | refine JE.blk_hit ?_ | refine JE.blk_miss rfl ?_ | refine JE.then_ret ?_ | refine JE.blk_ret ?_ | refine JC.label ?_ | refine JL.gon rfl rfl ?_ | refine JQ.gon rfl rfl ?_ | refine JL.gskip rfl rfl rfl rfl ?_ | refine JQ.gskip rfl rfl rfl rfl ?_)
        refine JL.store_all (cs := Y.map U8) k32s rfl rfl hly (Y_cell _) (by repeat (first | exact Upd.here | apply Upd.there)) (by simp) ?_
        repeat (first | refine JL.q (by first | (apply OQ.move; exact rfl) | (apply OQ.assign; exact rfl) | (apply OQ.remN; exact rfl; exact rfl; exact (by (try simp only []); omega)) | (apply OQ.quoN; exact rfl; exact rfl; exact (by (try simp only []); omega); exact (by (try simp only []); omega)) | (apply OQ.idxA0; exact rfl; exact rfl; exact rfl; exact rfl; exact (by (try simp only []); omega))) rfl ?_ | refine JQ.q (by first | (apply OQ.move; exact rfl) | (apply OQ.assign; exact rfl) | (apply OQ.remN; exact rfl; exact rfl; exact (by (try simp only []); omega)) | (apply OQ.quoN; exact rfl; exact rfl; exact (by (try simp only []); omega); exact (by (try simp only []); omega)) | (apply OQ.idxA0; exact rfl; exact rfl; exact rfl; exact rfl; exact (by (try simp only []); omega))) rfl ?_ | refine JC.seq ?_ | refine JC.region ?_ | refine JC.block ?_ | refine JC.skip ?_ | refine JC.exit ?_ | refine JL.nil ?_ | refine JQ.nil ?_ | refine JQ.nil_tail ?_ | refine JE.next ?_ | refine JE.blk_normal ?_ | refine JE.then_exit ?_ | refine JE.blk_hit ?_ | refine JE.blk_miss rfl ?_ | refine JE.then_ret ?_ | refine JE.blk_ret ?_ | refine JC.label ?_ | refine JL.gon rfl rfl ?_ | refine JQ.gon rfl rfl ?_ | refine JL.gskip rfl rfl rfl rfl ?_ | refine JQ.gskip rfl rfl rfl rfl ?_)
        refine JC.ret (JE.ret1 rfl (RV.cell_agg k32a k32s rfl (by repeat (first | exact Has.here | apply Has.there)) hly Row.all) ?_)
        exact fun w' hw => ⟨rfl, hw.chg⟩
end Go.Proofs.Ytmbabkigjckaaaa
