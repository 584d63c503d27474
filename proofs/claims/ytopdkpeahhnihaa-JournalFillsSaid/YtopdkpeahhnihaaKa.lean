/-
  Of no statement by itself: the texts JrnD, JrnE, JrnF, JrnG, JrnH, JrnI, JrnJ, JrnK in one.
  Conditions: each theorem's own.
-/
import Derived.Test.YtopdkpeahhnihaaJrnC
/-
  Of no statement by itself: the landed journal's read: the record that begins with a block.
  Conditions: each theorem's own.
-/
namespace Go.Proofs.Ytopdkpeahhnihaa
set_option maxRecDepth 10000
open Sl Dsk Jrn
/-- a half of a disk -/
structure Hf where
  x : Dp
  first : Nat
  size : Nat
  g : BitVec 32
  count : Nat
  used : Nat
def ifD (x : Dp) : Value := .iface 24 (Pt x.p 0)
def hfc (h : Hf) : List Value := [ifD h.x, N h.first, N h.size, U32 h.g, N h.count, N h.used]
theorem hf6 : szT Try.prog 86 = some 6 := by kernel_rfl
theorem hfAg : aggT Try.prog 86 = true := by kernel_rfl
theorem hfZ : zc Try.prog 86 = some [.nilIface, N 0, N 0, U32 0, N 0, N 0] := by kernel_rfl
theorem jbC : scal Try.prog 83 = true := by kernel_rfl
theorem isRead (x : Dp) : IsMeth Try.prog 24 (Pt x.p 0) "Read" 19 := by unfold IsMeth; kernel_rfl
theorem isSize (x : Dp) : IsMeth Try.prog 24 (Pt x.p 0) "Size" 11 := by unfold IsMeth; kernel_rfl
theorem goes_jdsize : Goes Try.prog 11 := ⟨_, Try.func11, rfl, by kernel_rfl⟩
/-- the blocks of a half from one on -/
def bsOf (bl : List Bk) (first size at' : Nat) : List Bk := ((bl.drop first).take size).drop at'
theorem bsOf_len {bl : List Bk} {first size at' : Nat} (h : first + size ≤ bl.length) : (bsOf bl first size at').length = size - at' := by
  simp only [bsOf, List.length_drop, List.length_take]
  omega
theorem bsOf_at {bl : List Bk} {first size at' p : Nat} (h : first + size ≤ bl.length) (hp : p < size - at') : (bsOf bl first size at').drop p = old bl (first + at' + p) :: (bsOf bl first size at').drop (p + 1) := by
  have hl := bsOf_len (at' := at') h
  rw [List.drop_eq_getElem_cons (by rw [hl]; exact hp)]
  congr 1
  simp only [bsOf, List.getElem_drop, List.getElem_take, old, List.getD_eq_getElem?_getD]
  rw [List.getElem?_eq_getElem (by omega : first + at' + p < bl.length)]
  simp only [Option.getD_some]
  congr 1
  omega
theorem part_len {b : Bk} (hb : b.length = 64) (hw : wholeB b = true) : (partOf b).length = cnt b ∧ cnt b ≤ 42 := by
  unfold wholeB at hw
  simp only [Bool.and_eq_true, decide_eq_true_eq] at hw
  refine ⟨?_, hw.2.1⟩
  unfold partOf
  rw [List.length_take, List.length_drop, hb]
  have := hw.2.1
  omega
def rdP (r : Option (Bk × Nat)) : Bk × Nat := r.getD ([], 0)
/-- where a part of a record stands -/
theorem part_reads {w0 w : World} {S : List Nat} {M : List Ent} {b1 : Nat} {b : Bk} {wr : Bool} (hw : Holds w0 S M w) (hM : Has M b1 (Row 32 (bc b)) wr) (hc : (partOf b).length = cnt b) : Reads w (some ⟨b1, 12, none⟩) ((partOf b).map U8) := by
  obtain ⟨o, ho, hA⟩ := hw.get hM
  refine Reads.block ho (Row.cells ?_ o hA)
  rw [List.length_map, hc]
  simp only [bc, partOf, List.map_take, List.map_drop]
theorem partIn_no {b : Bk} (hb : b.length = 64) (hwb : wholeB b = false) (w : World) : Calls Try.prog 62 [.agg (bc b).toArray].toArray w fun e w' => e = .returned (.tuple #[.agg (mkc (0, 0, 0, false)).toArray, .slice none 0 0, .bool false]) ∧ Ext w w' :=
  (partIn_any b hb w).mono fun e w2 hh => by
    rcases hh with ⟨_, h1, h2⟩ | ⟨h1, _⟩
    · exact ⟨h1, h2⟩
    · rw [hwb] at h1; cases h1
theorem partIn_yes {b : Bk} (hb : b.length = 64) (hwb : wholeB b = true) (w : World) : Calls Try.prog 62 [.agg (bc b).toArray].toArray w fun e w' => ∃ b1 : Nat, e = .returned (.tuple #[.agg (mkc (markIn b)).toArray, .slice (some ⟨b1, 12, none⟩) (cnt b) 52, .bool true]) ∧ Holds w [] [⟨b1, Row 32 (bc b), true⟩] w' :=
  (partIn_any b hb w).mono fun e w2 hh => by
    rcases hh with ⟨h1, _⟩ | ⟨_, b1, h1, h2⟩
    · rw [hwb] at h1; cases h1
    · exact ⟨b1, h1, h2⟩
theorem goes_read : Goes Try.prog 53 := ⟨_, Try.func53, rfl, by kernel_rfl⟩
set_option maxHeartbeats 32000000 in
theorem read_any (h : Hf) (bl : List Bk) (pd : List (Nat × Bk)) (at' num : Nat) (ok : Ok bl pd) (hn : bl.length ≤ 65536) (hs : h.first + h.size ≤ bl.length) (ha : at' ≤ h.size) (w : World) (h0 : Holds w [] (dkR h.x bl pd) w) :
    Calls Try.prog 53 [.agg (hfc h).toArray, N at', N num].toArray w fun e w' => ∃ q : {q : Acc // q = none → (rdP (rd h.g num (bsOf bl h.first h.size at') 0 [])).1 = []}, e = .returned (.tuple #[accV q.1 (rdP (rd h.g num (bsOf bl h.first h.size at') 0 [])).1.length, N (rdP (rd h.g num (bsOf bl h.first h.size at') 0 [])).2]) ∧ Holds w [] (accE 5 q.1 ((rdP (rd h.g num (bsOf bl h.first h.size at') 0 [])).1.map U8)) w' := by
  obtain ⟨x, first, size, g, count, used⟩ := h
  dsimp only at hs ha h0 ⊢
  generalize hbs : bsOf bl first size at' = bs
  have hbl : bs.length = size - at' := by rw [← hbs]; exact bsOf_len hs
  have hat := fun p (hp : p < size - at') => bsOf_at (bl := bl) (first := first) (size := size) (at' := at') (p := p) hs hp
  rw [hbs] at hat
  refine enter (n := 64) Try.func53 rfl rfl rfl h0 ?_
  repeat (first | refine JL.q (by first | (apply OQ.move; exact rfl) | (apply OQ.assign; exact rfl) | (apply OQ.nilc; exact rfl) | (apply OQ.len; exact rfl; exact rfl) | (apply OQ.addN; exact rfl; exact rfl; exact (by (try simp only []); omega)) | (apply OQ.subN; exact rfl; exact rfl; exact (by (try simp only []); omega); exact (by (try simp only []); omega)) | (apply OQ.lssN; exact rfl; exact rfl) | (apply OQ.gtrN; exact rfl; exact rfl) | (apply OQ.fld; exact rfl; exact rfl; exact rfl; exact (by decide); exact rfl)) rfl ?_ | refine JC.seq ?_ | refine JC.region ?_ | refine JC.block ?_ | refine JC.skip ?_ | refine JC.exit ?_ | refine JL.nil ?_ | refine JE.next ?_ | refine JE.blk_normal ?_ | refine JE.then_exit ?_ | refine JE.blk_hit ?_ | refine JE.blk_miss rfl ?_ | refine JE.then_ret ?_ | refine JE.blk_ret ?_ | refine JC.label ?_ | refine JL.gon rfl rfl ?_ | refine JL.gskip rfl rfl rfl rfl ?_ | refine JL.gskipU rfl rfl rfl rfl ?_)
  refine JL.box (r := hfc ⟨x, first, size, g, count, used⟩) rfl rfl rfl fun b3 _ => ?_
  repeat (first | refine JL.q (by first | (apply OQ.load; exact intC; exact rfl; exact .here; exact (Row.cell (v := N size) rfl)) | (apply OQ.subN (a := size); exact rfl; exact rfl; exact ha; exact (by omega)) | (apply OQ.move; exact rfl) | (apply OQ.assign; exact rfl) | (apply OQ.nilc; exact rfl) | (apply OQ.len; exact rfl; exact rfl) | (apply OQ.addN; exact rfl; exact rfl; exact (by (try simp only []); omega)) | (apply OQ.subN; exact rfl; exact rfl; exact (by (try simp only []); omega); exact (by (try simp only []); omega)) | (apply OQ.lssN; exact rfl; exact rfl) | (apply OQ.gtrN; exact rfl; exact rfl) | (apply OQ.fld; exact rfl; exact rfl; exact rfl; exact (by decide); exact rfl)) rfl ?_ | refine JC.seq ?_ | refine JC.region ?_ | refine JC.block ?_ | refine JC.skip ?_ | refine JC.exit ?_ | refine JL.nil ?_ | refine JE.next ?_ | refine JE.blk_normal ?_ | refine JE.then_exit ?_ | refine JE.blk_hit ?_ | refine JE.blk_miss rfl ?_ | refine JE.then_ret ?_ | refine JE.blk_ret ?_ | refine JC.label ?_ | refine JL.gon rfl rfl ?_ | refine JL.gskip rfl rfl rfl rfl ?_ | refine JL.gskipU rfl rfl rfl rfl ?_)
  refine JC.loop (fun z : Nat × Acc × Bk => [(1, N at'), (2, N num), (3, Pt b3 0), (8, accV z.2.1 z.2.2.length), (18, N (size - at')), (19, N z.1)]) (fun z => accE 5 z.2.1 (z.2.2.map U8) ++ (⟨b3, Row 86 (hfc ⟨x, first, size, g, count, used⟩), true⟩ :: dkR x bl pd)) (fun z => size - at' - z.1) (fun z => z.1 ≤ size - at' ∧ (z.2.1 = none → z.2.2 = []) ∧ z.2.2.length ≤ z.1 * 42 ∧ rd g num bs 0 [] = rd g num (bs.drop z.1) z.1 z.2.2) (0, none, []) ⟨Nat.zero_le _, fun _ => rfl, Nat.le_refl _, rfl⟩ (by repeat (first | exact SubE.nil | refine SubE.cons _ _ _ rfl ?_)) (Less.refl _) ?_
  rintro ⟨p, q, acc⟩ ⟨hp, hq, hal, hr⟩
  dsimp only at hp hq hal hr ⊢
  repeat (first | refine JL.q (by first | (apply OQ.move; exact rfl) | (apply OQ.assign; exact rfl) | (apply OQ.nilc; exact rfl) | (apply OQ.len; exact rfl; exact rfl) | (apply OQ.addN; exact rfl; exact rfl; exact (by (try simp only []); omega)) | (apply OQ.subN; exact rfl; exact rfl; exact (by (try simp only []); omega); exact (by (try simp only []); omega)) | (apply OQ.lssN; exact rfl; exact rfl) | (apply OQ.gtrN; exact rfl; exact rfl) | (apply OQ.fld; exact rfl; exact rfl; exact rfl; exact (by decide); exact rfl)) rfl ?_ | refine JC.seq ?_ | refine JC.region ?_ | refine JC.block ?_ | refine JC.skip ?_ | refine JC.exit ?_ | refine JL.nil ?_ | refine JE.next ?_ | refine JE.blk_normal ?_ | refine JE.then_exit ?_ | refine JE.blk_hit ?_ | refine JE.blk_miss rfl ?_ | refine JE.then_ret ?_ | refine JE.blk_ret ?_ | refine JC.label ?_ | refine JL.gon rfl rfl ?_ | refine JL.gskip rfl rfl rfl rfl ?_ | refine JL.gskipU rfl rfl rfl rfl ?_)
  refine JC.cond rfl (fun hc => ?_) (fun hc => ?_)
  · have hp' : p < size - at' := by have := of_decide_eq_true hc; omega
    clear hc
    rw [hat p hp'] at hr
    have hix : first + at' + p < bl.length := by omega
    have hb64 : (old bl (first + at' + p)).length = 64 := ok.old hix
    have cR := fun {u w' : World} {S : List Nat} {A : List Ent} (hw' : Holds u S (A ++ (dkR x bl pd ++ [])) w') => dreadR x bl pd (first + at' + p) hix ok w' (dkR_front hw')
    generalize old bl (first + at' + p) = b at hr hb64 cR
    repeat (first | refine JL.q (by first | (apply OQ.load; exact jbC; exact rfl; exact (hasR (N := accE 5 q (acc.map U8)) .here); exact (Row.cell (v := ifD x) rfl)) | (apply OQ.load; exact intC; exact rfl; exact (hasR (N := accE 5 q (acc.map U8)) .here); exact (Row.cell (v := N first) rfl)) | (apply OQ.inv (xs := [_]); exact (isRead x); exact rfl; exact (OQ.callx (vs := [Pt x.p 0, N (first + at' + p)]) goes_dread rfl (fun w' hw' => cR (A := accE 5 q (acc.map U8) ++ [⟨b3, Row 86 (hfc ⟨x, first, size, g, count, used⟩), true⟩]) (by rw [List.append_assoc]; exact hw')))) | (apply OQ.extract; exact rfl; exact rfl) | (apply OQ.move; exact rfl) | (apply OQ.assign; exact rfl) | (apply OQ.nilc; exact rfl) | (apply OQ.len; exact rfl; exact rfl) | (apply OQ.addN; exact rfl; exact rfl; exact (by (try simp only []); omega)) | (apply OQ.subN; exact rfl; exact rfl; exact (by (try simp only []); omega); exact (by (try simp only []); omega)) | (apply OQ.lssN; exact rfl; exact rfl) | (apply OQ.gtrN; exact rfl; exact rfl) | (apply OQ.fld; exact rfl; exact rfl; exact rfl; exact (by decide); exact rfl)) rfl ?_ | refine JC.seq ?_ | refine JC.region ?_ | refine JC.block ?_ | refine JC.skip ?_ | refine JC.exit ?_ | refine JL.nil ?_ | refine JE.next ?_ | refine JE.blk_normal ?_ | refine JE.then_exit ?_ | refine JE.blk_hit ?_ | refine JE.blk_miss rfl ?_ | refine JE.then_ret ?_ | refine JE.blk_ret ?_ | refine JC.label ?_ | refine JL.gon rfl rfl ?_ | refine JL.gskip rfl rfl rfl rfl ?_ | refine JL.gskipU rfl rfl rfl rfl ?_)
    refine JL.alloc dkZ rfl fun b10 _ => ?_
    refine JL.store_all (cs := bc b) dkB rfl rfl (bc_len hb64) (bc_cell _) .here rfl ?_
    repeat (first | refine JL.q (by first | (apply OQ.load_agg (cs := bc b); exact dkAg; exact dkB; exact rfl; exact .here; exact (bc_len hb64); exact Row.all) | (apply OQ.move; exact rfl) | (apply OQ.assign; exact rfl) | (apply OQ.nilc; exact rfl) | (apply OQ.len; exact rfl; exact rfl) | (apply OQ.addN; exact rfl; exact rfl; exact (by (try simp only []); omega)) | (apply OQ.subN; exact rfl; exact rfl; exact (by (try simp only []); omega); exact (by (try simp only []); omega)) | (apply OQ.lssN; exact rfl; exact rfl) | (apply OQ.gtrN; exact rfl; exact rfl) | (apply OQ.fld; exact rfl; exact rfl; exact rfl; exact (by decide); exact rfl)) rfl ?_ | refine JC.seq ?_ | refine JC.region ?_ | refine JC.block ?_ | refine JC.skip ?_ | refine JC.exit ?_ | refine JL.nil ?_ | refine JE.next ?_ | refine JE.blk_normal ?_ | refine JE.then_exit ?_ | refine JE.blk_hit ?_ | refine JE.blk_miss rfl ?_ | refine JE.then_ret ?_ | refine JE.blk_ret ?_ | refine JC.label ?_ | refine JL.gon rfl rfl ?_ | refine JL.gskip rfl rfl rfl rfl ?_ | refine JL.gskipU rfl rfl rfl rfl ?_)
    cases hwb : wholeB b
    case false =>
      rw [rd, if_neg (by rw [hwb]; simp)] at hr
      rw [hr]
      repeat (first | refine JL.q (by first | (apply OQ.callx (vs := [.agg (bc b).toArray]); exact goes_partIn; exact rfl; exact (fun w' _ => partIn_no hb64 hwb w')) | (apply OQ.extract; exact rfl; exact rfl) | (apply OQ.move; exact rfl) | (apply OQ.assign; exact rfl) | (apply OQ.nilc; exact rfl) | (apply OQ.len; exact rfl; exact rfl) | (apply OQ.addN; exact rfl; exact rfl; exact (by (try simp only []); omega)) | (apply OQ.subN; exact rfl; exact rfl; exact (by (try simp only []); omega); exact (by (try simp only []); omega)) | (apply OQ.lssN; exact rfl; exact rfl) | (apply OQ.gtrN; exact rfl; exact rfl) | (apply OQ.fld; exact rfl; exact rfl; exact rfl; exact (by decide); exact rfl)) rfl ?_ | refine JC.seq ?_ | refine JC.region ?_ | refine JC.block ?_ | refine JC.skip ?_ | refine JC.exit ?_ | refine JL.nil ?_ | refine JE.next ?_ | refine JE.blk_normal ?_ | refine JE.then_exit ?_ | refine JE.blk_hit ?_ | refine JE.blk_miss rfl ?_ | refine JE.then_ret ?_ | refine JE.blk_ret ?_ | refine JC.label ?_ | refine JL.gon rfl rfl ?_ | refine JL.gskip rfl rfl rfl rfl ?_ | refine JL.gskipU rfl rfl rfl rfl ?_)
      refine JL.alloc mkZ rfl fun b12 _ => ?_
      refine JL.store_all (cs := mkc (0, 0, 0, false)) mk4 rfl rfl rfl rfl .here rfl ?_
      repeat (first | refine JL.q (by first | (apply OQ.not; exact rfl) | (apply OQ.pick_t; exact rfl; exact rfl) | (apply OQ.move; exact rfl) | (apply OQ.assign; exact rfl) | (apply OQ.nilc; exact rfl) | (apply OQ.len; exact rfl; exact rfl) | (apply OQ.addN; exact rfl; exact rfl; exact (by (try simp only []); omega)) | (apply OQ.subN; exact rfl; exact rfl; exact (by (try simp only []); omega); exact (by (try simp only []); omega)) | (apply OQ.lssN; exact rfl; exact rfl) | (apply OQ.gtrN; exact rfl; exact rfl) | (apply OQ.fld; exact rfl; exact rfl; exact rfl; exact (by decide); exact rfl)) rfl ?_ | refine JC.seq ?_ | refine JC.region ?_ | refine JC.block ?_ | refine JC.skip ?_ | refine JC.exit ?_ | refine JL.nil ?_ | refine JE.next ?_ | refine JE.blk_normal ?_ | refine JE.then_exit ?_ | refine JE.blk_hit ?_ | refine JE.blk_miss rfl ?_ | refine JE.then_ret ?_ | refine JE.blk_ret ?_ | refine JC.label ?_ | refine JL.gon rfl rfl ?_ | refine JL.gskip rfl rfl rfl rfl ?_ | refine JL.gskipU rfl rfl rfl rfl ?_)
      refine JC.cond_true rfl rfl ?_
      repeat (first | refine JL.q (by first | (apply OQ.move; exact rfl) | (apply OQ.assign; exact rfl) | (apply OQ.nilc; exact rfl) | (apply OQ.len; exact rfl; exact rfl) | (apply OQ.addN; exact rfl; exact rfl; exact (by (try simp only []); omega)) | (apply OQ.subN; exact rfl; exact rfl; exact (by (try simp only []); omega); exact (by (try simp only []); omega)) | (apply OQ.lssN; exact rfl; exact rfl) | (apply OQ.gtrN; exact rfl; exact rfl) | (apply OQ.fld; exact rfl; exact rfl; exact rfl; exact (by decide); exact rfl)) rfl ?_ | refine JC.seq ?_ | refine JC.region ?_ | refine JC.block ?_ | refine JC.skip ?_ | refine JC.exit ?_ | refine JL.nil ?_ | refine JE.next ?_ | refine JE.blk_normal ?_ | refine JE.then_exit ?_ | refine JE.blk_hit ?_ | refine JE.blk_miss rfl ?_ | refine JE.then_ret ?_ | refine JE.blk_ret ?_ | refine JC.label ?_ | refine JL.gon rfl rfl ?_ | refine JL.gskip rfl rfl rfl rfl ?_ | refine JL.gskipU rfl rfl rfl rfl ?_)
      refine JC.ret ?_
      repeat (first | refine JL.q (by first | (apply OQ.move; exact rfl) | (apply OQ.assign; exact rfl) | (apply OQ.nilc; exact rfl) | (apply OQ.len; exact rfl; exact rfl) | (apply OQ.addN; exact rfl; exact rfl; exact (by (try simp only []); omega)) | (apply OQ.subN; exact rfl; exact rfl; exact (by (try simp only []); omega); exact (by (try simp only []); omega)) | (apply OQ.lssN; exact rfl; exact rfl) | (apply OQ.gtrN; exact rfl; exact rfl) | (apply OQ.fld; exact rfl; exact rfl; exact rfl; exact (by decide); exact rfl)) rfl ?_ | refine JC.seq ?_ | refine JC.region ?_ | refine JC.block ?_ | refine JC.skip ?_ | refine JC.exit ?_ | refine JL.nil ?_ | refine JE.next ?_ | refine JE.blk_normal ?_ | refine JE.then_exit ?_ | refine JE.blk_hit ?_ | refine JE.blk_miss rfl ?_ | refine JE.then_ret ?_ | refine JE.blk_ret ?_ | refine JC.label ?_ | refine JL.gon rfl rfl ?_ | refine JL.gskip rfl rfl rfl rfl ?_ | refine JL.gskipU rfl rfl rfl rfl ?_)
      exact JE.ret2 rfl (RV.tmp rfl) (RV.tmp rfl) fun w' hw => ⟨⟨none, fun _ => rfl⟩, rfl, (⟨hw.chg, by simp, by simp⟩ : Holds w [] [] w')⟩
    case true =>
      have ⟨hpl, hc42⟩ := part_len hb64 hwb
      refine JL.callg (ι := Nat) (vs := [.agg (bc b).toArray]) (fun b1 => .tuple #[.agg (mkc (markIn b)).toArray, .slice (some ⟨b1, 12, none⟩) (cnt b) 52, .bool true]) (fun b1 => [⟨b1, Row 32 (bc b), true⟩]) goes_partIn rfl rfl (fun _ => by simp) (fun w' _ => partIn_yes hb64 hwb w') fun b1 => ?_
      repeat (first | refine JL.q (by first | (apply OQ.extract; exact rfl; exact rfl) | (apply OQ.move; exact rfl) | (apply OQ.assign; exact rfl) | (apply OQ.nilc; exact rfl) | (apply OQ.len; exact rfl; exact rfl) | (apply OQ.addN; exact rfl; exact rfl; exact (by (try simp only []); omega)) | (apply OQ.subN; exact rfl; exact rfl; exact (by (try simp only []); omega); exact (by (try simp only []); omega)) | (apply OQ.lssN; exact rfl; exact rfl) | (apply OQ.gtrN; exact rfl; exact rfl) | (apply OQ.fld; exact rfl; exact rfl; exact rfl; exact (by decide); exact rfl)) rfl ?_ | refine JC.seq ?_ | refine JC.region ?_ | refine JC.block ?_ | refine JC.skip ?_ | refine JC.exit ?_ | refine JL.nil ?_ | refine JE.next ?_ | refine JE.blk_normal ?_ | refine JE.then_exit ?_ | refine JE.blk_hit ?_ | refine JE.blk_miss rfl ?_ | refine JE.then_ret ?_ | refine JE.blk_ret ?_ | refine JC.label ?_ | refine JL.gon rfl rfl ?_ | refine JL.gskip rfl rfl rfl rfl ?_ | refine JL.gskipU rfl rfl rfl rfl ?_)
      refine JL.alloc mkZ rfl fun b12 _ => ?_
      refine JL.store_all (cs := mkc (markIn b)) mk4 rfl rfl rfl rfl .here rfl ?_
      have hlc : (mkc (markIn b))[3]? = some (.bool (markIn b).2.2.2) := rfl
      cases c1 : decide (markIn b = (g, BitVec.ofNat 32 num, BitVec.ofNat 16 p, (markIn b).2.2.2))
      case false =>
        rw [rd, if_neg (by rw [hwb]; simpa using c1)] at hr
        rw [hr]
        repeat (first | refine JL.q (by first | (apply OQ.load_agg (cs := mkc (markIn b)); exact mkAg; exact mk4; exact rfl; exact .here; exact rfl; exact Row.all) | (apply OQ.load; exact u32C; exact rfl; exact (hasR (N := [_, _, _]) (hasR (N := accE 5 q (acc.map U8)) .here)); exact (Row.cell (v := U32 g) rfl)) | (apply OQ.convN_32; exact Try.underlying3; exact Try.underlying84; exact rfl) | (apply OQ.convN_16; exact Try.underlying3; exact Try.underlying107; exact rfl) | (apply OQ.load; exact boolC; exact rfl; exact .here; exact (Row.cell hlc)) | (apply OQ.buildM (m := (g, BitVec.ofNat 32 num, BitVec.ofNat 16 p, (markIn b).2.2.2)); exact rfl; exact rfl; exact rfl; exact rfl) | (apply OQ.neM; exact rfl; exact rfl; exact c1) | (apply OQ.not; exact rfl) | (apply OQ.pick_f; exact rfl; exact rfl) | (apply OQ.move; exact rfl) | (apply OQ.assign; exact rfl) | (apply OQ.nilc; exact rfl) | (apply OQ.len; exact rfl; exact rfl) | (apply OQ.addN; exact rfl; exact rfl; exact (by (try simp only []); omega)) | (apply OQ.subN; exact rfl; exact rfl; exact (by (try simp only []); omega); exact (by (try simp only []); omega)) | (apply OQ.lssN; exact rfl; exact rfl) | (apply OQ.gtrN; exact rfl; exact rfl) | (apply OQ.fld; exact rfl; exact rfl; exact rfl; exact (by decide); exact rfl)) rfl ?_ | refine JC.seq ?_ | refine JC.region ?_ | refine JC.block ?_ | refine JC.skip ?_ | refine JC.exit ?_ | refine JL.nil ?_ | refine JE.next ?_ | refine JE.blk_normal ?_ | refine JE.then_exit ?_ | refine JE.blk_hit ?_ | refine JE.blk_miss rfl ?_ | refine JE.then_ret ?_ | refine JE.blk_ret ?_ | refine JC.label ?_ | refine JL.gon rfl rfl ?_ | refine JL.gskip rfl rfl rfl rfl ?_ | refine JL.gskipU rfl rfl rfl rfl ?_)
        refine JC.cond_true rfl rfl ?_
        repeat (first | refine JL.q (by first | (apply OQ.move; exact rfl) | (apply OQ.assign; exact rfl) | (apply OQ.nilc; exact rfl) | (apply OQ.len; exact rfl; exact rfl) | (apply OQ.addN; exact rfl; exact rfl; exact (by (try simp only []); omega)) | (apply OQ.subN; exact rfl; exact rfl; exact (by (try simp only []); omega); exact (by (try simp only []); omega)) | (apply OQ.lssN; exact rfl; exact rfl) | (apply OQ.gtrN; exact rfl; exact rfl) | (apply OQ.fld; exact rfl; exact rfl; exact rfl; exact (by decide); exact rfl)) rfl ?_ | refine JC.seq ?_ | refine JC.region ?_ | refine JC.block ?_ | refine JC.skip ?_ | refine JC.exit ?_ | refine JL.nil ?_ | refine JE.next ?_ | refine JE.blk_normal ?_ | refine JE.then_exit ?_ | refine JE.blk_hit ?_ | refine JE.blk_miss rfl ?_ | refine JE.then_ret ?_ | refine JE.blk_ret ?_ | refine JC.label ?_ | refine JL.gon rfl rfl ?_ | refine JL.gskip rfl rfl rfl rfl ?_ | refine JL.gskipU rfl rfl rfl rfl ?_)
        refine JC.ret ?_
        repeat (first | refine JL.q (by first | (apply OQ.move; exact rfl) | (apply OQ.assign; exact rfl) | (apply OQ.nilc; exact rfl) | (apply OQ.len; exact rfl; exact rfl) | (apply OQ.addN; exact rfl; exact rfl; exact (by (try simp only []); omega)) | (apply OQ.subN; exact rfl; exact rfl; exact (by (try simp only []); omega); exact (by (try simp only []); omega)) | (apply OQ.lssN; exact rfl; exact rfl) | (apply OQ.gtrN; exact rfl; exact rfl) | (apply OQ.fld; exact rfl; exact rfl; exact rfl; exact (by decide); exact rfl)) rfl ?_ | refine JC.seq ?_ | refine JC.region ?_ | refine JC.block ?_ | refine JC.skip ?_ | refine JC.exit ?_ | refine JL.nil ?_ | refine JE.next ?_ | refine JE.blk_normal ?_ | refine JE.then_exit ?_ | refine JE.blk_hit ?_ | refine JE.blk_miss rfl ?_ | refine JE.then_ret ?_ | refine JE.blk_ret ?_ | refine JC.label ?_ | refine JL.gon rfl rfl ?_ | refine JL.gskip rfl rfl rfl rfl ?_ | refine JL.gskipU rfl rfl rfl rfl ?_)
        exact JE.ret2 rfl (RV.tmp rfl) (RV.tmp rfl) fun w' hw => ⟨⟨none, fun _ => rfl⟩, rfl, (⟨hw.chg, by simp, by simp⟩ : Holds w [] [] w')⟩
      case true =>
        rw [rd, if_pos ⟨hwb, of_decide_eq_true c1⟩] at hr
        repeat (first | refine JL.q (by first | (apply OQ.load_agg (cs := mkc (markIn b)); exact mkAg; exact mk4; exact rfl; exact .here; exact rfl; exact Row.all) | (apply OQ.load; exact u32C; exact rfl; exact (hasR (N := [_, _, _]) (hasR (N := accE 5 q (acc.map U8)) .here)); exact (Row.cell (v := U32 g) rfl)) | (apply OQ.convN_32; exact Try.underlying3; exact Try.underlying84; exact rfl) | (apply OQ.convN_16; exact Try.underlying3; exact Try.underlying107; exact rfl) | (apply OQ.load; exact boolC; exact rfl; exact .here; exact (Row.cell hlc)) | (apply OQ.buildM (m := (g, BitVec.ofNat 32 num, BitVec.ofNat 16 p, (markIn b).2.2.2)); exact rfl; exact rfl; exact rfl; exact rfl) | (apply OQ.neM; exact rfl; exact rfl; exact c1) | (apply OQ.not; exact rfl) | (apply OQ.pick_f; exact rfl; exact rfl) | (apply OQ.move; exact rfl) | (apply OQ.assign; exact rfl) | (apply OQ.nilc; exact rfl) | (apply OQ.len; exact rfl; exact rfl) | (apply OQ.addN; exact rfl; exact rfl; exact (by (try simp only []); omega)) | (apply OQ.subN; exact rfl; exact rfl; exact (by (try simp only []); omega); exact (by (try simp only []); omega)) | (apply OQ.lssN; exact rfl; exact rfl) | (apply OQ.gtrN; exact rfl; exact rfl) | (apply OQ.fld; exact rfl; exact rfl; exact rfl; exact (by decide); exact rfl)) rfl ?_ | refine JC.seq ?_ | refine JC.region ?_ | refine JC.block ?_ | refine JC.skip ?_ | refine JC.exit ?_ | refine JL.nil ?_ | refine JE.next ?_ | refine JE.blk_normal ?_ | refine JE.then_exit ?_ | refine JE.blk_hit ?_ | refine JE.blk_miss rfl ?_ | refine JE.then_ret ?_ | refine JE.blk_ret ?_ | refine JC.label ?_ | refine JL.gon rfl rfl ?_ | refine JL.gskip rfl rfl rfl rfl ?_ | refine JL.gskipU rfl rfl rfl rfl ?_)
        refine JC.cond_false rfl rfl ?_
        repeat (first | refine JL.q (by first | (apply OQ.move; exact rfl) | (apply OQ.assign; exact rfl) | (apply OQ.nilc; exact rfl) | (apply OQ.len; exact rfl; exact rfl) | (apply OQ.addN; exact rfl; exact rfl; exact (by (try simp only []); omega)) | (apply OQ.subN; exact rfl; exact rfl; exact (by (try simp only []); omega); exact (by (try simp only []); omega)) | (apply OQ.lssN; exact rfl; exact rfl) | (apply OQ.gtrN; exact rfl; exact rfl) | (apply OQ.fld; exact rfl; exact rfl; exact rfl; exact (by decide); exact rfl)) rfl ?_ | refine JC.seq ?_ | refine JC.region ?_ | refine JC.block ?_ | refine JC.skip ?_ | refine JC.exit ?_ | refine JL.nil ?_ | refine JE.next ?_ | refine JE.blk_normal ?_ | refine JE.then_exit ?_ | refine JE.blk_hit ?_ | refine JE.blk_miss rfl ?_ | refine JE.then_ret ?_ | refine JE.blk_ret ?_ | refine JC.label ?_ | refine JL.gon rfl rfl ?_ | refine JL.gskip rfl rfl rfl rfl ?_ | refine JL.gskipU rfl rfl rfl rfl ?_)
        refine JL.perm (M' := accE 5 q (acc.map U8) ++ ([⟨b12, Row 109 (mkc (markIn b)), true⟩, ⟨b1, Row 32 (bc b), true⟩, ⟨b10, Row 32 (bc b), true⟩] ++ (⟨b3, Row 86 (hfc ⟨x, first, size, g, count, used⟩), true⟩ :: dkR x bl pd))) ?_ (by exact List.perm_append_comm_assoc [_, _, _] _ _)
        refine JL.appendQ (xs := acc.map U8) (cs := (partOf b).map U8) (m := cnt b) (ad := some ⟨b1, 12, none⟩) (sc := 52) q Try.underlying33 u8e (fun e => by rw [hq e]; rfl) (by rw [List.length_map]; rfl) rfl (by rw [List.length_map, hpl]) (fun w' hw' => part_reads hw' (hasR (N := accE 5 q (acc.map U8)) (.there .here)) hpl) (all8U _) rfl (by rw [List.length_map]; omega) (by rw [List.length_map]; omega) rfl fun q' hq' => ?_
        rw [← List.map_append] at hq' ⊢
        have hq2 : q' = none → acc ++ partOf b = [] := fun e => List.map_eq_nil_iff.1 (hq' e)
        have hal2 : (acc ++ partOf b).length ≤ (p + 1) * 42 := by rw [List.length_append, hpl]; omega
        clear hq' hq hal
        generalize acc ++ partOf b = acc2 at hq2 hal2 hr ⊢
        rw [List.length_map]
        repeat (first | refine JL.q (by first | (apply OQ.load; exact boolC; exact rfl; exact (hasR (N := accE 5 q' (acc2.map U8)) .here); exact (Row.cell hlc)) | (apply OQ.move; exact rfl) | (apply OQ.assign; exact rfl) | (apply OQ.nilc; exact rfl) | (apply OQ.len; exact rfl; exact rfl) | (apply OQ.addN; exact rfl; exact rfl; exact (by (try simp only []); omega)) | (apply OQ.subN; exact rfl; exact rfl; exact (by (try simp only []); omega); exact (by (try simp only []); omega)) | (apply OQ.lssN; exact rfl; exact rfl) | (apply OQ.gtrN; exact rfl; exact rfl) | (apply OQ.fld; exact rfl; exact rfl; exact rfl; exact (by decide); exact rfl)) rfl ?_ | refine JC.seq ?_ | refine JC.region ?_ | refine JC.block ?_ | refine JC.skip ?_ | refine JC.exit ?_ | refine JL.nil ?_ | refine JE.next ?_ | refine JE.blk_normal ?_ | refine JE.then_exit ?_ | refine JE.blk_hit ?_ | refine JE.blk_miss rfl ?_ | refine JE.then_ret ?_ | refine JE.blk_ret ?_ | refine JC.label ?_ | refine JL.gon rfl rfl ?_ | refine JL.gskip rfl rfl rfl rfl ?_ | refine JL.gskipU rfl rfl rfl rfl ?_)
        refine JC.cond rfl (fun hl => ?_) (fun hl => ?_)
        · rw [if_pos hl] at hr
          rw [hr]
          repeat (first | refine JL.q (by first | (apply OQ.move; exact rfl) | (apply OQ.assign; exact rfl) | (apply OQ.nilc; exact rfl) | (apply OQ.len; exact rfl; exact rfl) | (apply OQ.addN; exact rfl; exact rfl; exact (by (try simp only []); omega)) | (apply OQ.subN; exact rfl; exact rfl; exact (by (try simp only []); omega); exact (by (try simp only []); omega)) | (apply OQ.lssN; exact rfl; exact rfl) | (apply OQ.gtrN; exact rfl; exact rfl) | (apply OQ.fld; exact rfl; exact rfl; exact rfl; exact (by decide); exact rfl)) rfl ?_ | refine JC.seq ?_ | refine JC.region ?_ | refine JC.block ?_ | refine JC.skip ?_ | refine JC.exit ?_ | refine JL.nil ?_ | refine JE.next ?_ | refine JE.blk_normal ?_ | refine JE.then_exit ?_ | refine JE.blk_hit ?_ | refine JE.blk_miss rfl ?_ | refine JE.then_ret ?_ | refine JE.blk_ret ?_ | refine JC.label ?_ | refine JL.gon rfl rfl ?_ | refine JL.gskip rfl rfl rfl rfl ?_ | refine JL.gskipU rfl rfl rfl rfl ?_)
          refine JC.ret ?_
          repeat (first | refine JL.q (by first | (apply OQ.move; exact rfl) | (apply OQ.assign; exact rfl) | (apply OQ.nilc; exact rfl) | (apply OQ.len; exact rfl; exact rfl) | (apply OQ.addN; exact rfl; exact rfl; exact (by (try simp only []); omega)) | (apply OQ.subN; exact rfl; exact rfl; exact (by (try simp only []); omega); exact (by (try simp only []); omega)) | (apply OQ.lssN; exact rfl; exact rfl) | (apply OQ.gtrN; exact rfl; exact rfl) | (apply OQ.fld; exact rfl; exact rfl; exact rfl; exact (by decide); exact rfl)) rfl ?_ | refine JC.seq ?_ | refine JC.region ?_ | refine JC.block ?_ | refine JC.skip ?_ | refine JC.exit ?_ | refine JL.nil ?_ | refine JE.next ?_ | refine JE.blk_normal ?_ | refine JE.then_exit ?_ | refine JE.blk_hit ?_ | refine JE.blk_miss rfl ?_ | refine JE.then_ret ?_ | refine JE.blk_ret ?_ | refine JC.label ?_ | refine JL.gon rfl rfl ?_ | refine JL.gskip rfl rfl rfl rfl ?_ | refine JL.gskipU rfl rfl rfl rfl ?_)
          exact JE.ret2 rfl (RV.tmp rfl) (RV.tmp rfl) fun w' hw => ⟨⟨q', hq2⟩, rfl, hw.weak (less_preX _ _)⟩
        · rw [if_neg (by rw [hl]; decide)] at hr
          repeat (first | refine JL.q (by first | (apply OQ.move; exact rfl) | (apply OQ.assign; exact rfl) | (apply OQ.nilc; exact rfl) | (apply OQ.len; exact rfl; exact rfl) | (apply OQ.addN; exact rfl; exact rfl; exact (by (try simp only []); omega)) | (apply OQ.subN; exact rfl; exact rfl; exact (by (try simp only []); omega); exact (by (try simp only []); omega)) | (apply OQ.lssN; exact rfl; exact rfl) | (apply OQ.gtrN; exact rfl; exact rfl) | (apply OQ.fld; exact rfl; exact rfl; exact rfl; exact (by decide); exact rfl)) rfl ?_ | refine JC.seq ?_ | refine JC.region ?_ | refine JC.block ?_ | refine JC.skip ?_ | refine JC.exit ?_ | refine JL.nil ?_ | refine JE.next ?_ | refine JE.blk_normal ?_ | refine JE.then_exit ?_ | refine JE.blk_hit ?_ | refine JE.blk_miss rfl ?_ | refine JE.then_ret ?_ | refine JE.blk_ret ?_ | refine JC.label ?_ | refine JL.gon rfl rfl ?_ | refine JL.gskip rfl rfl rfl rfl ?_ | refine JL.gskipU rfl rfl rfl rfl ?_)
          exact JE.again (i := (p, q, acc)) (p + 1, q', acc2) ⟨hp', hq2, hal2, hr⟩ (by dsimp only; omega) (by repeat (first | exact SubE.nil | refine SubE.cons _ _ _ rfl ?_)) (less_two (Less.refl _) (.drop _ _ _ (.drop _ _ _ (.drop _ _ _ (Less.refl _)))))
  · have hp' : p = size - at' := by have := of_decide_eq_false hc; omega
    rw [List.drop_of_length_le (by omega : bs.length ≤ p), rd] at hr
    rw [hr]
    repeat (first | refine JL.q (by first | (apply OQ.move; exact rfl) | (apply OQ.assign; exact rfl) | (apply OQ.nilc; exact rfl) | (apply OQ.len; exact rfl; exact rfl) | (apply OQ.addN; exact rfl; exact rfl; exact (by (try simp only []); omega)) | (apply OQ.subN; exact rfl; exact rfl; exact (by (try simp only []); omega); exact (by (try simp only []); omega)) | (apply OQ.lssN; exact rfl; exact rfl) | (apply OQ.gtrN; exact rfl; exact rfl) | (apply OQ.fld; exact rfl; exact rfl; exact rfl; exact (by decide); exact rfl)) rfl ?_ | refine JC.seq ?_ | refine JC.region ?_ | refine JC.block ?_ | refine JC.skip ?_ | refine JC.exit ?_ | refine JL.nil ?_ | refine JE.next ?_ | refine JE.blk_normal ?_ | refine JE.then_exit ?_ | refine JE.blk_hit ?_ | refine JE.blk_miss rfl ?_ | refine JE.then_ret ?_ | refine JE.blk_ret ?_ | refine JC.label ?_ | refine JL.gon rfl rfl ?_ | refine JL.gskip rfl rfl rfl rfl ?_ | refine JL.gskipU rfl rfl rfl rfl ?_)
    exact JC.ret (JE.ret2 rfl (RV.tmp rfl) (RV.tmp rfl) fun w' hw => ⟨⟨none, fun _ => rfl⟩, rfl, (⟨hw.chg, by simp, by simp⟩ : Holds w [] [] w')⟩)
end Go.Proofs.Ytopdkpeahhnihaa

/-
  Of no statement by itself: the landed journal's told: the records of a half.
  Conditions: each theorem's own.
-/
namespace Go.Proofs.Ytopdkpeahhnihaa
set_option maxRecDepth 10000
open Sl Dsk Jrn
/-- rows of bytes that were made anew -/
structure Gr where
  q : Acc
  rs : List Sl8
  hq : q = none → rs = []
  h0 : ∀ x ∈ rs, x.ad = none → x.l = []
def Gr.v (z : Gr) : Value := accV z.q z.rs.length
def Gr.l (z : Gr) : List Bk := z.rs.map Sl8.l
def Gr.E (z : Gr) : List Ent := accE 33 z.q (z.rs.map Sl8.v) ++ flatE z.rs
theorem flatE_wr (rs : List Sl8) : ∀ e ∈ flatE rs, e.wr = true := by
  intro e he
  unfold flatE at he
  obtain ⟨x, _, h2⟩ := List.mem_flatMap.1 he
  unfold Sl8.ents at h2
  split at h2
  · rw [List.mem_singleton.1 h2]
  · cases h2
theorem Gr.wr (z : Gr) : ∀ e ∈ z.E, e.wr = true := by
  intro e he
  rcases List.mem_append.1 he with h | h
  · exact accE_wr _ _ _ e h
  · exact flatE_wr _ e h
def Gr.s (z : Gr) : SlL := accL z.q z.rs
theorem Gr.v_eq (z : Gr) : z.s.v = z.v := by unfold Gr.s; rw [accL_v, List.length_map]; rfl
theorem Gr.rs_eq (z : Gr) : z.s.rs = z.rs := accL_rs z.hq
theorem Gr.ok {z : Gr} {w0 w : World} {S : List Nat} (h : Holds w0 S z.E w) : z.s.ok w := accL_ok h z.h0
theorem slEj : EI Try.prog 33 (.slice none 0 0) 1 24 := by unfold EI; kernel_rfl
theorem goes_told : Goes Try.prog 42 := ⟨_, Try.func42, rfl, by kernel_rfl⟩
/-- the records that a half tells -/
def toldH (bl : List Bk) (first size : Nat) (g : BitVec 32) : List Bk := told g (bsOf bl first size 0)
theorem toldH_f {bl : List Bk} {first size : Nat} {g : BitVec 32} (h : first + size ≤ bl.length) : ∃ f, size - 0 < f ∧ toldH bl first size g = [] ++ toldN g f (bsOf bl first size 0) 0 :=
  ⟨(bsOf bl first size 0).length + 1, by rw [bsOf_len h]; exact Nat.lt_succ_self _, rfl⟩
theorem bsOf_drop (bl : List Bk) (first size at' k : Nat) : (bsOf bl first size at').drop k = bsOf bl first size (at' + k) := by
  unfold bsOf
  rw [List.drop_drop]
set_option maxHeartbeats 16000000 in
theorem told_any (h : Hf) (bl : List Bk) (pd : List (Nat × Bk)) (ok : Ok bl pd) (hn : bl.length ≤ 65536) (hs : h.first + h.size ≤ bl.length) (w : World) (h0 : Holds w [] (dkR h.x bl pd) w) :
    Calls Try.prog 42 [.agg (hfc h).toArray].toArray w fun e w' => ∃ z : {z : Gr // z.l = toldH bl h.first h.size h.g ∧ z.rs.length ≤ h.size}, e = .returned z.1.v ∧ Holds w [] z.1.E w' := by
  refine enter (n := 25) Try.func42 rfl rfl rfl h0 ?_
  repeat (first | refine JL.q (by first | (apply OQ.move; exact rfl) | (apply OQ.assign; exact rfl) | (apply OQ.nilc; exact rfl) | (apply OQ.len; exact rfl; exact rfl) | (apply OQ.addN; exact rfl; exact rfl; exact (by (try simp only []); omega)) | (apply OQ.subN; exact rfl; exact rfl; exact (by (try simp only []); omega); exact (by (try simp only []); omega)) | (apply OQ.lssN; exact rfl; exact rfl) | (apply OQ.gtrN; exact rfl; exact rfl) | (apply OQ.fld; exact rfl; exact rfl; exact rfl; exact (by decide); exact rfl)) rfl ?_ | refine JC.seq ?_ | refine JC.region ?_ | refine JC.block ?_ | refine JC.skip ?_ | refine JC.exit ?_ | refine JL.nil ?_ | refine JE.next ?_ | refine JE.blk_normal ?_ | refine JE.then_exit ?_ | refine JE.blk_hit ?_ | refine JE.blk_miss rfl ?_ | refine JE.then_ret ?_ | refine JE.blk_ret ?_ | refine JC.label ?_ | refine JL.gon rfl rfl ?_ | refine JL.gskip rfl rfl rfl rfl ?_ | refine JL.gskipU rfl rfl rfl rfl ?_)
  refine JL.box (r := hfc h) rfl rfl rfl fun b1 _ => ?_
  repeat (first | refine JL.q (by first | (apply OQ.move; exact rfl) | (apply OQ.assign; exact rfl) | (apply OQ.nilc; exact rfl) | (apply OQ.len; exact rfl; exact rfl) | (apply OQ.addN; exact rfl; exact rfl; exact (by (try simp only []); omega)) | (apply OQ.subN; exact rfl; exact rfl; exact (by (try simp only []); omega); exact (by (try simp only []); omega)) | (apply OQ.lssN; exact rfl; exact rfl) | (apply OQ.gtrN; exact rfl; exact rfl) | (apply OQ.fld; exact rfl; exact rfl; exact rfl; exact (by decide); exact rfl)) rfl ?_ | refine JC.seq ?_ | refine JC.region ?_ | refine JC.block ?_ | refine JC.skip ?_ | refine JC.exit ?_ | refine JL.nil ?_ | refine JE.next ?_ | refine JE.blk_normal ?_ | refine JE.then_exit ?_ | refine JE.blk_hit ?_ | refine JE.blk_miss rfl ?_ | refine JE.then_ret ?_ | refine JE.blk_ret ?_ | refine JC.label ?_ | refine JL.gon rfl rfl ?_ | refine JL.gskip rfl rfl rfl rfl ?_ | refine JL.gskipU rfl rfl rfl rfl ?_)
  refine JC.loop (fun z : Nat × Gr => [(1, Pt b1 0), (3, z.2.v), (4, N z.1)]) (fun z => accE 33 z.2.q (z.2.rs.map Sl8.v) ++ (flatE z.2.rs ++ (⟨b1, Row 86 (hfc h), true⟩ :: dkR h.x bl pd))) (fun z => h.size - z.1) (fun z => z.1 ≤ h.size ∧ z.2.rs.length ≤ z.1 ∧ ∃ f, h.size - z.1 < f ∧ toldH bl h.first h.size h.g = z.2.l ++ toldN h.g f (bsOf bl h.first h.size z.1) z.2.rs.length) (0, ⟨none, [], fun _ => rfl, nofun⟩) ⟨Nat.zero_le _, Nat.le_refl _, toldH_f hs⟩ (by repeat (first | exact SubE.nil | refine SubE.cons _ _ _ rfl ?_)) (Less.refl _) ?_
  rintro ⟨at', q, rs, hq, hr0⟩ ⟨hat, hrl, f, hf, ht⟩
  dsimp only [Gr.v, Gr.l] at hat hrl hf ht ⊢
  obtain ⟨f, rfl⟩ : ∃ f', f = f' + 1 := ⟨f - 1, by omega⟩
  rw [toldN] at ht
  have hq0 : q = none → rs.length = 0 := fun e => by rw [hq e]; rfl
  repeat (first | refine JL.q (by first | (apply OQ.load_agg (cs := hfc h); exact hfAg; exact hf6; exact rfl; exact (hasR (N := accE 33 q (rs.map Sl8.v)) (hasR (N := flatE rs) .here)); exact rfl; exact Row.all) | (apply OQ.lenV (q := q) (k := rs.length); exact Try.underlying57; exact hq0; exact rfl) | (apply OQ.move; exact rfl) | (apply OQ.assign; exact rfl) | (apply OQ.nilc; exact rfl) | (apply OQ.len; exact rfl; exact rfl) | (apply OQ.addN; exact rfl; exact rfl; exact (by (try simp only []); omega)) | (apply OQ.subN; exact rfl; exact rfl; exact (by (try simp only []); omega); exact (by (try simp only []); omega)) | (apply OQ.lssN; exact rfl; exact rfl) | (apply OQ.gtrN; exact rfl; exact rfl) | (apply OQ.fld; exact rfl; exact rfl; exact rfl; exact (by decide); exact rfl)) rfl ?_ | refine JC.seq ?_ | refine JC.region ?_ | refine JC.block ?_ | refine JC.skip ?_ | refine JC.exit ?_ | refine JL.nil ?_ | refine JE.next ?_ | refine JE.blk_normal ?_ | refine JE.then_exit ?_ | refine JE.blk_hit ?_ | refine JE.blk_miss rfl ?_ | refine JE.then_ret ?_ | refine JE.blk_ret ?_ | refine JC.label ?_ | refine JL.gon rfl rfl ?_ | refine JL.gskip rfl rfl rfl rfl ?_ | refine JL.gskipU rfl rfl rfl rfl ?_)
  have cR := fun {u w' : World} {S : List Nat} {A : List Ent} (hw' : Holds u S (A ++ (dkR h.x bl pd ++ [])) w') => read_any h bl pd at' rs.length ok hn hs hat w' (dkR_front hw')
  have hle := fun rec k => rd_le (g := h.g) (r := rs.length) (bs := bsOf bl h.first h.size at') (p := 0) (acc := []) (rec := rec) (k := k)
  rw [bsOf_len hs] at hle
  generalize rd h.g rs.length (bsOf bl h.first h.size at') 0 [] = r at ht cR hle
  refine JL.callg (ι := {q : Acc // q = none → (rdP r).1 = []}) (vs := [.agg (hfc h).toArray, N at', N rs.length]) (fun q => .tuple #[accV q.1 (rdP r).1.length, N (rdP r).2]) (fun q => accE 5 q.1 ((rdP r).1.map U8)) goes_read rfl rfl (fun _ => accE_wr _ _ _) (fun w' hw' => cR (A := accE 33 q (rs.map Sl8.v) ++ (flatE rs ++ [⟨b1, Row 86 (hfc h), true⟩])) (by rw [List.append_assoc, List.append_assoc]; exact hw')) fun q1 => ?_
  obtain ⟨q1, hq1⟩ := q1
  dsimp only
  cases r with
  | none =>
    dsimp only at ht
    rw [List.append_nil] at ht
    repeat (first | refine JL.q (by first | (apply OQ.extract; exact rfl; exact rfl) | (apply OQ.eqN; exact rfl; exact rfl) | (apply OQ.move; exact rfl) | (apply OQ.assign; exact rfl) | (apply OQ.nilc; exact rfl) | (apply OQ.len; exact rfl; exact rfl) | (apply OQ.addN; exact rfl; exact rfl; exact (by (try simp only []); omega)) | (apply OQ.subN; exact rfl; exact rfl; exact (by (try simp only []); omega); exact (by (try simp only []); omega)) | (apply OQ.lssN; exact rfl; exact rfl) | (apply OQ.gtrN; exact rfl; exact rfl) | (apply OQ.fld; exact rfl; exact rfl; exact rfl; exact (by decide); exact rfl)) rfl ?_ | refine JC.seq ?_ | refine JC.region ?_ | refine JC.block ?_ | refine JC.skip ?_ | refine JC.exit ?_ | refine JL.nil ?_ | refine JE.next ?_ | refine JE.blk_normal ?_ | refine JE.then_exit ?_ | refine JE.blk_hit ?_ | refine JE.blk_miss rfl ?_ | refine JE.then_ret ?_ | refine JE.blk_ret ?_ | refine JC.label ?_ | refine JL.gon rfl rfl ?_ | refine JL.gskip rfl rfl rfl rfl ?_ | refine JL.gskipU rfl rfl rfl rfl ?_)
    refine JC.cond_true rfl rfl ?_
    repeat (first | refine JL.q (by first | (apply OQ.move; exact rfl) | (apply OQ.assign; exact rfl) | (apply OQ.nilc; exact rfl) | (apply OQ.len; exact rfl; exact rfl) | (apply OQ.addN; exact rfl; exact rfl; exact (by (try simp only []); omega)) | (apply OQ.subN; exact rfl; exact rfl; exact (by (try simp only []); omega); exact (by (try simp only []); omega)) | (apply OQ.lssN; exact rfl; exact rfl) | (apply OQ.gtrN; exact rfl; exact rfl) | (apply OQ.fld; exact rfl; exact rfl; exact rfl; exact (by decide); exact rfl)) rfl ?_ | refine JC.seq ?_ | refine JC.region ?_ | refine JC.block ?_ | refine JC.skip ?_ | refine JC.exit ?_ | refine JL.nil ?_ | refine JE.next ?_ | refine JE.blk_normal ?_ | refine JE.then_exit ?_ | refine JE.blk_hit ?_ | refine JE.blk_miss rfl ?_ | refine JE.then_ret ?_ | refine JE.blk_ret ?_ | refine JC.label ?_ | refine JL.gon rfl rfl ?_ | refine JL.gskip rfl rfl rfl rfl ?_ | refine JL.gskipU rfl rfl rfl rfl ?_)
    refine JC.ret ?_
    repeat (first | refine JL.q (by first | (apply OQ.move; exact rfl) | (apply OQ.assign; exact rfl) | (apply OQ.nilc; exact rfl) | (apply OQ.len; exact rfl; exact rfl) | (apply OQ.addN; exact rfl; exact rfl; exact (by (try simp only []); omega)) | (apply OQ.subN; exact rfl; exact rfl; exact (by (try simp only []); omega); exact (by (try simp only []); omega)) | (apply OQ.lssN; exact rfl; exact rfl) | (apply OQ.gtrN; exact rfl; exact rfl) | (apply OQ.fld; exact rfl; exact rfl; exact rfl; exact (by decide); exact rfl)) rfl ?_ | refine JC.seq ?_ | refine JC.region ?_ | refine JC.block ?_ | refine JC.skip ?_ | refine JC.exit ?_ | refine JL.nil ?_ | refine JE.next ?_ | refine JE.blk_normal ?_ | refine JE.then_exit ?_ | refine JE.blk_hit ?_ | refine JE.blk_miss rfl ?_ | refine JE.then_ret ?_ | refine JE.blk_ret ?_ | refine JC.label ?_ | refine JL.gon rfl rfl ?_ | refine JL.gskip rfl rfl rfl rfl ?_ | refine JL.gskipU rfl rfl rfl rfl ?_)
    exact JE.ret1 rfl (RV.tmp rfl) fun w' hw => ⟨⟨⟨q, rs, hq, hr0⟩, ht.symm, by show rs.length ≤ h.size; omega⟩, rfl, hw.weak (less_app _ (less_two (Less.refl _) (less_pre _ _)))⟩
  | some rk =>
    obtain ⟨rec, k⟩ := rk
    have hk := hle rec k rfl
    dsimp only [rdP, Option.getD_some] at ht hq1 ⊢
    rw [bsOf_drop] at ht
    have hk0 : decide (((k : Nat) : Int) = 0) = false := decide_eq_false (by omega)
    repeat (first | refine JL.q (by first | (apply OQ.extract; exact rfl; exact rfl) | (apply OQ.eqB (b := 0); exact rfl; exact rfl; exact hk0) | (apply OQ.move; exact rfl) | (apply OQ.assign; exact rfl) | (apply OQ.nilc; exact rfl) | (apply OQ.len; exact rfl; exact rfl) | (apply OQ.addN; exact rfl; exact rfl; exact (by (try simp only []); omega)) | (apply OQ.subN; exact rfl; exact rfl; exact (by (try simp only []); omega); exact (by (try simp only []); omega)) | (apply OQ.lssN; exact rfl; exact rfl) | (apply OQ.gtrN; exact rfl; exact rfl) | (apply OQ.fld; exact rfl; exact rfl; exact rfl; exact (by decide); exact rfl)) rfl ?_ | refine JC.seq ?_ | refine JC.region ?_ | refine JC.block ?_ | refine JC.skip ?_ | refine JC.exit ?_ | refine JL.nil ?_ | refine JE.next ?_ | refine JE.blk_normal ?_ | refine JE.then_exit ?_ | refine JE.blk_hit ?_ | refine JE.blk_miss rfl ?_ | refine JE.then_ret ?_ | refine JE.blk_ret ?_ | refine JC.label ?_ | refine JL.gon rfl rfl ?_ | refine JL.gskip rfl rfl rfl rfl ?_ | refine JL.gskipU rfl rfl rfl rfl ?_)
    refine JC.cond_false rfl rfl ?_
    repeat (first | refine JL.q (by first | (apply OQ.move; exact rfl) | (apply OQ.assign; exact rfl) | (apply OQ.nilc; exact rfl) | (apply OQ.len; exact rfl; exact rfl) | (apply OQ.addN; exact rfl; exact rfl; exact (by (try simp only []); omega)) | (apply OQ.subN; exact rfl; exact rfl; exact (by (try simp only []); omega); exact (by (try simp only []); omega)) | (apply OQ.lssN; exact rfl; exact rfl) | (apply OQ.gtrN; exact rfl; exact rfl) | (apply OQ.fld; exact rfl; exact rfl; exact rfl; exact (by decide); exact rfl)) rfl ?_ | refine JC.seq ?_ | refine JC.region ?_ | refine JC.block ?_ | refine JC.skip ?_ | refine JC.exit ?_ | refine JL.nil ?_ | refine JE.next ?_ | refine JE.blk_normal ?_ | refine JE.then_exit ?_ | refine JE.blk_hit ?_ | refine JE.blk_miss rfl ?_ | refine JE.then_ret ?_ | refine JE.blk_ret ?_ | refine JC.label ?_ | refine JL.gon rfl rfl ?_ | refine JL.gskip rfl rfl rfl rfl ?_ | refine JL.gskipU rfl rfl rfl rfl ?_)
    refine JL.perm (M' := accE 33 q (rs.map Sl8.v) ++ (flatE rs ++ (accE 5 q1 (rec.map U8) ++ (⟨b1, Row 86 (hfc h), true⟩ :: dkR h.x bl pd)))) ?_ (by exact (List.perm_append_comm_assoc (accE 5 q1 (rec.map U8)) _ _).trans (List.Perm.append_left _ (List.perm_append_comm_assoc (accE 5 q1 (rec.map U8)) _ _)))
    refine JL.lit1 (v := accV q1 rec.length) Try.underlying57 slEj rfl rfl (accV_cells _ _) rfl fun bl2 _ => ?_
    refine JL.perm (M' := accE 33 q (rs.map Sl8.v) ++ (⟨bl2, Row 33 [accV q1 rec.length], true⟩ :: (flatE rs ++ (accE 5 q1 (rec.map U8) ++ (⟨b1, Row 86 (hfc h), true⟩ :: dkR h.x bl pd))))) ?_ (by exact List.perm_append_comm_assoc [_] _ _)
    refine JL.appendQ (xs := rs.map Sl8.v) (cs := [accV q1 rec.length]) (m := 1) (ad := some ⟨bl2, 0, none⟩) (sc := 1) q Try.underlying57 slEj (fun h => by rw [hq h]; rfl) (by rw [List.length_map]; rfl) rfl rfl (fun w' hw' => ?_) (fun v hv => by rw [List.mem_singleton.1 hv]; exact accV_one _ _) rfl (by rw [List.length_map]; omega) (by rw [List.length_map]; omega) rfl fun q3 hq3 => ?_
    · obtain ⟨o, ho, hA⟩ := (hw'.weak (less_app _ (Less.refl _))).get (b := bl2) (A := Row 33 [accV q1 rec.length]) (wr := true) .here
      exact Reads.block ho (Row.all _ hA)
    have eM : rs.map Sl8.v ++ [accV q1 rec.length] = (rs ++ [accS q1 rec]).map Sl8.v := by
      rw [List.map_append, List.map_singleton, accS_v]
    rw [eM] at hq3 ⊢
    have hq4 : q3 = none → rs ++ [accS q1 rec] = [] := fun e => List.map_eq_nil_iff.1 (hq3 e)
    have hr4 : ∀ x ∈ rs ++ [accS q1 rec], x.ad = none → x.l = [] := by
      intro x hx hn
      rcases List.mem_append.1 hx with hx | hx
      · exact hr0 x hx hn
      · rw [List.mem_singleton.1 hx] at hn ⊢
        cases q1 with
        | none => rfl
        | some p => cases hn
    have hl4 : (rs ++ [accS q1 rec]).map Sl8.l = rs.map Sl8.l ++ [rec] := by
      rw [List.map_append, List.map_singleton, accS_l (fun e => (hq1 e))]
    rw [List.length_map]
    repeat (first | refine JL.q (by first | (apply OQ.addN (a := at'); exact rfl; exact rfl; exact (by omega)) | (apply OQ.move; exact rfl) | (apply OQ.assign; exact rfl) | (apply OQ.nilc; exact rfl) | (apply OQ.len; exact rfl; exact rfl) | (apply OQ.addN; exact rfl; exact rfl; exact (by (try simp only []); omega)) | (apply OQ.subN; exact rfl; exact rfl; exact (by (try simp only []); omega); exact (by (try simp only []); omega)) | (apply OQ.lssN; exact rfl; exact rfl) | (apply OQ.gtrN; exact rfl; exact rfl) | (apply OQ.fld; exact rfl; exact rfl; exact rfl; exact (by decide); exact rfl)) rfl ?_ | refine JC.seq ?_ | refine JC.region ?_ | refine JC.block ?_ | refine JC.skip ?_ | refine JC.exit ?_ | refine JL.nil ?_ | refine JE.next ?_ | refine JE.blk_normal ?_ | refine JE.then_exit ?_ | refine JE.blk_hit ?_ | refine JE.blk_miss rfl ?_ | refine JE.then_ret ?_ | refine JE.blk_ret ?_ | refine JC.label ?_ | refine JL.gon rfl rfl ?_ | refine JL.gskip rfl rfl rfl rfl ?_ | refine JL.gskipU rfl rfl rfl rfl ?_)
    refine JE.again (i := (at', ⟨q, rs, hq, hr0⟩)) (at' + k, ⟨q3, rs ++ [accS q1 rec], hq4, hr4⟩) ⟨by dsimp only; omega, by dsimp only; rw [List.length_append, List.length_singleton]; omega, f, by dsimp only; omega, ?_⟩ (by dsimp only; omega) (by repeat (first | exact SubE.nil | refine SubE.cons _ _ _ rfl ?_)) ?_
    · dsimp only [Gr.l]
      rw [hl4, ht, List.append_assoc, List.length_append]
      rfl
    · dsimp only
      exact less_two (Less.refl _) (.drop _ _ _ (by rw [← List.append_assoc]; exact less_two (flat_snoc rs q1 rec) (Less.refl _)))
end Go.Proofs.Ytopdkpeahhnihaa

/-
  Of no statement by itself: the landed journal's halfAt, newGeneration.
  Conditions: each theorem's own.
-/
namespace Go.Proofs.Ytopdkpeahhnihaa
set_option maxRecDepth 10000
open Sl Dsk Jrn
section
variable {n : Nat} {E : Env} {C : World → Prop} {dst : Option Tmp} {ty t t' t'' : TypeId} {pos : String} {aft : Array Edge} {g : Option (Nat × Bool)} {x1 x2 x3 x4 : Operand}
theorem OQ.fieldM0 {m : Mk} (hx : ev E x1 = some (.agg (mkc m).toArray)) : OQ Try.prog n E C ⟨dst, .field 109 x1 0, ty, pos, aft, g⟩ (U32 m.1) :=
  OQ.run fun a ha w _ => by
    have h1 := ha.eval hx
    have h2 : (Instr.field 109 (.agg (mkc m).toArray) 0).run Try.prog w = .ok (U32 m.1) w := pur_run (by kernel_rfl)
    simp [execOp, h1, h2]
theorem OQ.ifaceD {x : Dp} (hx : ev E x1 = some (Pt x.p 0)) : OQ Try.prog n E C ⟨dst, .makeInterface 24 x1, ty, pos, aft, g⟩ (ifD x) :=
  OQ.run fun a ha w _ => by
    have h1 := ha.eval hx
    have h2 : (Instr.makeInterface 24 (Pt x.p 0)).run Try.prog w = .ok (ifD x) w := pur_run (by kernel_rfl)
    simp [execOp, h1, h2]
def hfc0 : List Value := [.nilIface, N 0, N 0, U32 0, N 0, N 0]
theorem OQ.buildH4 {h : Hf} (h1 : ev E x1 = some (ifD h.x)) (h2 : ev E x2 = some (N h.first)) (h3 : ev E x3 = some (N h.size)) (h4 : ev E x4 = some (U32 h.g)) :
    OQ Try.prog n E C ⟨dst, .build 86 #[(0, x1), (1, x2), (2, x3), (3, x4)], ty, pos, aft, g⟩ (.agg (hfc ⟨h.x, h.first, h.size, h.g, 0, 0⟩).toArray) :=
  OQ.run fun a ha w _ => by
    have e1 := ha.eval h1
    have e2 := ha.eval h2
    have e3 := ha.eval h3
    have e4 := ha.eval h4
    have r := run_build (P := Try.prog) w 86 #[(0, ifD h.x), (1, N h.first), (2, N h.size), (3, U32 h.g)] (hfc ⟨h.x, h.first, h.size, h.g, 0, 0⟩).toArray (by kernel_rfl)
    simp [execOp, e1, e2, e3, e4, r]
theorem OQ.buildH3 {h : Hf} (h1 : ev E x1 = some (ifD h.x)) (h2 : ev E x2 = some (N h.first)) (h3 : ev E x3 = some (N h.size)) :
    OQ Try.prog n E C ⟨dst, .build 86 #[(0, x1), (1, x2), (2, x3)], ty, pos, aft, g⟩ (.agg (hfc ⟨h.x, h.first, h.size, 0, 0, 0⟩).toArray) :=
  OQ.run fun a ha w _ => by
    have e1 := ha.eval h1
    have e2 := ha.eval h2
    have e3 := ha.eval h3
    have r := run_build (P := Try.prog) w 86 #[(0, ifD h.x), (1, N h.first), (2, N h.size)] (hfc ⟨h.x, h.first, h.size, 0, 0, 0⟩).toArray (by kernel_rfl)
    simp [execOp, e1, e2, e3, r]
theorem OQ.buildJ {h : Hf} (h1 : ev E x1 = some (.agg (hfc h).toArray)) : OQ Try.prog n E C ⟨dst, .build 88 #[(0, x1)], ty, pos, aft, g⟩ (.agg (hfc h).toArray) :=
  OQ.run fun a ha w _ => by
    have e1 := ha.eval h1
    have r := run_build (P := Try.prog) w 88 #[(0, .agg (hfc h).toArray)] (hfc h).toArray (by kernel_rfl)
    simp [execOp, e1, r]
def mx (a b : BitVec 32) : BitVec 32 := if a.toNat < b.toNat then b else a
theorem OQ.max32 {a b c : BitVec 32} (h1 : ev E x1 = some (U32 a)) (h2 : ev E x2 = some (U32 b)) (h3 : ev E x3 = some (U32 c)) : OQ Try.prog n E C ⟨dst, .call ⟨.builtin .max, #[x1, x2, x3], #[t, t', t'']⟩, ty, pos, aft, g⟩ (U32 (mx (mx a b) c)) :=
  OQ.run fun ac ha w _ => by
    have e1 := ha.eval h1
    have e2 := ha.eval h2
    have e3 := ha.eval h3
    unfold mx
    by_cases h : a.toNat < b.toNat <;> by_cases h' : (if a.toNat < b.toNat then b else a).toNat < c.toNat <;> simp [h] at h' <;> simp [execOp, e1, e2, e3, resolve, invoke, builtin, Builtin.max_, Builtin.max2, Sem.run_bind, h, h'] <;> (try split <;> rfl)
end
theorem goes_dsizej : Goes Try.prog 11 := ⟨_, Try.func11, rfl, by kernel_rfl⟩
theorem dsizeR (x : Dp) (bl : List Bk) (pd : List (Nat × Bk)) (w : World) (h : Holds w [] (dkR x bl pd) w) : Calls Try.prog 11 [Pt x.p 0].toArray w fun e w' => e = .returned (N bl.length) ∧ Ext w w' :=
  dsize_any x.p _ _ _ w (dkR_cell (M := []) (by rw [List.append_nil]; exact h))
theorem goes_halfAt : Goes Try.prog 65 := ⟨_, Try.func65, rfl, by kernel_rfl⟩
set_option maxHeartbeats 16000000 in
theorem halfAt_any (x : Dp) (bl : List Bk) (pd : List (Nat × Bk)) (first : Nat) (ok : Ok bl pd) (hn : bl.length ≤ 65536) (hf : first < bl.length) (hs : first + bl.length / 2 ≤ bl.length) (w : World) (h0 : Holds w [] (dkR x bl pd) w) :
    Calls Try.prog 65 [ifD x, N first].toArray w fun e w' => ∃ z : {z : Gr // z.l = toldH bl first (bl.length / 2) (markIn (old bl first)).1 ∧ z.rs.length ≤ bl.length / 2}, e = .returned (.tuple #[.agg (hfc ⟨x, first, bl.length / 2, if z.1.rs.length = 0 then 0 else (markIn (old bl first)).1, 0, 0⟩).toArray, z.1.v]) ∧ Holds w [] z.1.E w' := by
  have hb : (old bl first).length = 64 := ok.old hf
  have cR := fun {u w' : World} {S : List Nat} {A : List Ent} (hw' : Holds u S (A ++ (dkR x bl pd ++ [])) w') => dreadR x bl pd first hf ok w' (dkR_front hw')
  have cT := fun g {u w' : World} {S : List Nat} {M : List Ent} (hw' : Holds u S (dkR x bl pd ++ M) w') => told_any ⟨x, first, bl.length / 2, g, 0, 0⟩ bl pd ok hn hs w' (dkR_front (A := []) hw')
  generalize old bl first = b at hb cR ⊢
  refine enter (n := 33) Try.func65 rfl rfl rfl h0 ?_
  repeat (first | refine JL.q (by first | (apply OQ.move; exact rfl) | (apply OQ.assign; exact rfl) | (apply OQ.nilc; exact rfl) | (apply OQ.len; exact rfl; exact rfl) | (apply OQ.addN; exact rfl; exact rfl; exact (by (try simp only []); omega)) | (apply OQ.subN; exact rfl; exact rfl; exact (by (try simp only []); omega); exact (by (try simp only []); omega)) | (apply OQ.lssN; exact rfl; exact rfl) | (apply OQ.gtrN; exact rfl; exact rfl) | (apply OQ.fld; exact rfl; exact rfl; exact rfl; exact (by decide); exact rfl)) rfl ?_ | refine JC.seq ?_ | refine JC.region ?_ | refine JC.block ?_ | refine JC.skip ?_ | refine JC.exit ?_ | refine JL.nil ?_ | refine JE.next ?_ | refine JE.blk_normal ?_ | refine JE.then_exit ?_ | refine JE.blk_hit ?_ | refine JE.blk_miss rfl ?_ | refine JE.then_ret ?_ | refine JE.blk_ret ?_ | refine JC.label ?_ | refine JL.gon rfl rfl ?_ | refine JL.gskip rfl rfl rfl rfl ?_ | refine JL.gskipU rfl rfl rfl rfl ?_)
  refine JL.alloc (r := hfc0) hfZ rfl fun b4 _ => ?_
  repeat (first | refine JL.q (by first | (apply OQ.inv (xs := [_]); exact (isRead x); exact rfl; exact (OQ.callx (vs := [Pt x.p 0, N first]) goes_dread rfl (fun w' hw' => cR (A := [_]) hw'))) | (apply OQ.extract; exact rfl; exact rfl) | (apply OQ.move; exact rfl) | (apply OQ.assign; exact rfl) | (apply OQ.nilc; exact rfl) | (apply OQ.len; exact rfl; exact rfl) | (apply OQ.addN; exact rfl; exact rfl; exact (by (try simp only []); omega)) | (apply OQ.subN; exact rfl; exact rfl; exact (by (try simp only []); omega); exact (by (try simp only []); omega)) | (apply OQ.lssN; exact rfl; exact rfl) | (apply OQ.gtrN; exact rfl; exact rfl) | (apply OQ.fld; exact rfl; exact rfl; exact rfl; exact (by decide); exact rfl)) rfl ?_ | refine JC.seq ?_ | refine JC.region ?_ | refine JC.block ?_ | refine JC.skip ?_ | refine JC.exit ?_ | refine JL.nil ?_ | refine JE.next ?_ | refine JE.blk_normal ?_ | refine JE.then_exit ?_ | refine JE.blk_hit ?_ | refine JE.blk_miss rfl ?_ | refine JE.then_ret ?_ | refine JE.blk_ret ?_ | refine JC.label ?_ | refine JL.gon rfl rfl ?_ | refine JL.gskip rfl rfl rfl rfl ?_ | refine JL.gskipU rfl rfl rfl rfl ?_)
  refine JL.alloc dkZ rfl fun b6 _ => ?_
  refine JL.store_all (cs := bc b) dkB rfl rfl (bc_len hb) (bc_cell _) .here rfl ?_
  repeat (first | refine JL.q (by first | (apply OQ.move; exact rfl) | (apply OQ.assign; exact rfl) | (apply OQ.nilc; exact rfl) | (apply OQ.len; exact rfl; exact rfl) | (apply OQ.addN; exact rfl; exact rfl; exact (by (try simp only []); omega)) | (apply OQ.subN; exact rfl; exact rfl; exact (by (try simp only []); omega); exact (by (try simp only []); omega)) | (apply OQ.lssN; exact rfl; exact rfl) | (apply OQ.gtrN; exact rfl; exact rfl) | (apply OQ.fld; exact rfl; exact rfl; exact rfl; exact (by decide); exact rfl)) rfl ?_ | refine JC.seq ?_ | refine JC.region ?_ | refine JC.block ?_ | refine JC.skip ?_ | refine JC.exit ?_ | refine JL.nil ?_ | refine JE.next ?_ | refine JE.blk_normal ?_ | refine JE.then_exit ?_ | refine JE.blk_hit ?_ | refine JE.blk_miss rfl ?_ | refine JE.then_ret ?_ | refine JE.blk_ret ?_ | refine JC.label ?_ | refine JL.gon rfl rfl ?_ | refine JL.gskip rfl rfl rfl rfl ?_ | refine JL.gskipU rfl rfl rfl rfl ?_)
  let vs : Nat → Nat → Value := fun j y => match j with
    | 0 => ifD x
    | 1 => N first
    | 2 => ifD x
    | 3 => N bl.length
    | 4 => N (bl.length / 2)
    | 5 => (⟨some ⟨b6, 0, none⟩, 64, b⟩ : Sl8).v
    | 6 => .agg (mkc (markIn b)).toArray
    | 7 => U32 (markIn b).1
    | 8 => .agg (hfc ⟨x, first, bl.length / 2, (markIn b).1, 0, 0⟩).toArray
    | 9 => Pt y 0
    | _ => N 0
  let Ms : Nat → Nat → List Ent := fun j y => match j with
    | 9 => [⟨y, Row 86 hfc0, true⟩]
    | 10 => [⟨y, Row 86 (hfc ⟨x, first, bl.length / 2, (markIn b).1, 0, 0⟩), true⟩]
    | 11 => [⟨b6, Row 32 (bc b), true⟩]
    | 12 => [⟨b4, Row 86 hfc0, true⟩]
    | 13 => dkR x bl pd
    | _ => []
  refine JC.grow (g := ⟨[(0, ifD x), (1, N first), (4, Pt b4 0), (6, Pt b6 0), (5, .slice none 0 0)], 14, vs, Ms, (fun j => match j with | 3 => [(2, 18)] | 4 => [(3, 19)] | 6 => [(5, 21)] | 7 => [(6, 22)] | 8 => [(0, 16), (1, 17), (4, 20), (7, 23)] | 10 => [(9, 8), (8, 24)] | _ => []), (fun j => match j with | 3 => [13] | 6 => [11] | 10 => [9] | _ => []), (fun j => match j with | 10 => [9] | _ => []), (fun j => match j with | 10 => some 9 | _ => none)⟩) [(9, 8)] [10, 11, 12, 13] mixT (by repeat (first | exact SubE.nil | refine SubE.cons _ _ _ rfl ?_)) ?_ (by kernel_rfl) (by kernel_rfl) (by kernel_rfl) ?_ ?_
  · exact Less.refl _
  · refine ⟨?_, ?_, ?_, ?_, ?_, ?_, ?_, ?_, ?_, ?_, ?_, trivial⟩
    · (intro xx EF MF Q kk; (try refine JL.gon rfl rfl ?_); exact JL.q (OQ.move rfl) rfl (JL.nil (kk default nofun)))
    · (intro xx EF MF Q kk; (try refine JL.gon rfl rfl ?_); exact JL.q (OQ.move rfl) rfl (JL.nil (kk default nofun)))
    · (intro xx EF MF Q kk; (try refine JL.gon rfl rfl ?_); exact JL.q (OQ.move rfl) rfl (JL.nil (kk default nofun)))
    · (intro xx EF MF Q kk; (try refine JL.gon rfl rfl ?_); exact JL.q (OQ.inv (xs := []) (isSize x) rfl (OQ.callx (vs := [Pt x.p 0]) goes_dsizej rfl (fun w' hw' => dsizeR x bl pd w' (dkR_front (A := []) hw')))) rfl (JL.nil (kk default nofun)))
    · (intro xx EF MF Q kk; (try refine JL.gon rfl rfl ?_); exact JL.q (OQ.quoN (b := 2) rfl rfl (by decide) (by omega)) rfl (JL.nil (kk default nofun)))
    · (intro xx EF MF Q kk; (try refine JL.gon rfl rfl ?_); exact JL.q (OQ.slAll hb Try.underlying32 u8s rfl) rfl (JL.nil (kk default nofun)))
    · (intro xx EF MF Q kk; (try refine JL.gon rfl rfl ?_); exact JL.q (OQ.callx (vs := [(⟨some ⟨b6, 0, none⟩, 64, b⟩ : Sl8).v]) goes_markIn rfl (fun w' hw' => markIn_any _ w' (row_ok hw' .here rfl (by omega)) (by show 10 ≤ b.length; omega) (by show b.length ≤ 64; omega))) rfl (JL.nil (kk default nofun)))
    · (intro xx EF MF Q kk; (try refine JL.gon rfl rfl ?_); exact JL.q (OQ.fieldM0 rfl) rfl (JL.nil (kk default nofun)))
    · (intro xx EF MF Q kk; (try refine JL.gon rfl rfl ?_); exact JL.q (OQ.buildH4 (h := ⟨x, first, bl.length / 2, (markIn b).1, 0, 0⟩) rfl rfl rfl rfl) rfl (JL.nil (kk default nofun)))
    · (intro xx EF MF Q kk; exact JL.alloc hfZ rfl fun b _ => JL.nil (kk b nofun))
    · (intro xx EF MF Q kk; exact JL.store_all (cs := hfc ⟨x, first, bl.length / 2, (markIn b).1, 0, 0⟩) hf6 rfl rfl rfl rfl .here rfl (JL.nil (kk (xx 9) (fun k h => by cases h; rfl))))
  · intro xx hx
    have e10 := hx 10 9 (by decide) rfl
    show JE _ _ _ _ _ [(8, Pt (xx 9) 0), (0, ifD x), (1, N first), (4, Pt b4 0), (6, Pt b6 0), (5, .slice none 0 0)] (⟨xx 10, Row 86 (hfc ⟨x, first, bl.length / 2, (markIn b).1, 0, 0⟩), true⟩ :: ⟨b6, Row 32 (bc b), true⟩ :: ⟨b4, Row 86 hfc0, true⟩ :: dkR x bl pd)
    rw [e10]
    generalize xx 9 = b8
    clear hx e10 xx vs Ms
    generalize hhh : (⟨x, first, bl.length / 2, (markIn b).1, 0, 0⟩ : Hf) = hh
    have eg : hh.g = (markIn b).1 := by rw [← hhh]
    repeat (first | refine JL.q (by first | (apply OQ.load_agg (cs := hfc hh); exact hfAg; exact hf6; exact rfl; exact .here; exact rfl; exact Row.all) | (apply OQ.move; exact rfl) | (apply OQ.assign; exact rfl) | (apply OQ.nilc; exact rfl) | (apply OQ.len; exact rfl; exact rfl) | (apply OQ.addN; exact rfl; exact rfl; exact (by (try simp only []); omega)) | (apply OQ.subN; exact rfl; exact rfl; exact (by (try simp only []); omega); exact (by (try simp only []); omega)) | (apply OQ.lssN; exact rfl; exact rfl) | (apply OQ.gtrN; exact rfl; exact rfl) | (apply OQ.fld; exact rfl; exact rfl; exact rfl; exact (by decide); exact rfl)) rfl ?_ | refine JC.seq ?_ | refine JC.region ?_ | refine JC.block ?_ | refine JC.skip ?_ | refine JC.exit ?_ | refine JL.nil ?_ | refine JE.next ?_ | refine JE.blk_normal ?_ | refine JE.then_exit ?_ | refine JE.blk_hit ?_ | refine JE.blk_miss rfl ?_ | refine JE.then_ret ?_ | refine JE.blk_ret ?_ | refine JC.label ?_ | refine JL.gon rfl rfl ?_ | refine JL.gskip rfl rfl rfl rfl ?_ | refine JL.gskipU rfl rfl rfl rfl ?_)
    refine JL.callg (ι := {z : Gr // z.l = toldH bl first (bl.length / 2) (markIn b).1 ∧ z.rs.length ≤ bl.length / 2}) (vs := [.agg (hfc hh).toArray]) (fun z => z.1.v) (fun z => z.1.E) goes_told rfl rfl (fun z => z.1.wr) (fun w' hw' => by rw [← hhh] at hw' ⊢; exact cT (markIn b).1 (M := []) (hw'.weak (.drop _ _ _ (.drop _ _ _ (.drop _ _ _ (Less.refl _)))))) fun z => ?_
    refine JL.perm (M' := [⟨b8, Row 86 (hfc hh), true⟩, ⟨b6, Row 32 (bc b), true⟩, ⟨b4, Row 86 hfc0, true⟩] ++ (z.1.E ++ dkR x bl pd)) ?_ (by exact List.perm_append_comm_assoc _ [_, _, _] _)
    obtain ⟨⟨q, rs, hq, hr0⟩, hz⟩ := z
    have hq0 : q = none → rs.length = 0 := fun e => by rw [hq e]; rfl
    dsimp only [Gr.v]
    repeat (first | refine JL.q (by first | (apply OQ.lenV (q := q) (k := rs.length); exact Try.underlying57; exact hq0; exact rfl) | (apply OQ.eqN; exact rfl; exact rfl) | (apply OQ.move; exact rfl) | (apply OQ.assign; exact rfl) | (apply OQ.nilc; exact rfl) | (apply OQ.len; exact rfl; exact rfl) | (apply OQ.addN; exact rfl; exact rfl; exact (by (try simp only []); omega)) | (apply OQ.subN; exact rfl; exact rfl; exact (by (try simp only []); omega); exact (by (try simp only []); omega)) | (apply OQ.lssN; exact rfl; exact rfl) | (apply OQ.gtrN; exact rfl; exact rfl) | (apply OQ.fld; exact rfl; exact rfl; exact rfl; exact (by decide); exact rfl)) rfl ?_ | refine JC.seq ?_ | refine JC.region ?_ | refine JC.block ?_ | refine JC.skip ?_ | refine JC.exit ?_ | refine JL.nil ?_ | refine JE.next ?_ | refine JE.blk_normal ?_ | refine JE.then_exit ?_ | refine JE.blk_hit ?_ | refine JE.blk_miss rfl ?_ | refine JE.then_ret ?_ | refine JE.blk_ret ?_ | refine JC.label ?_ | refine JL.gon rfl rfl ?_ | refine JL.gskip rfl rfl rfl rfl ?_ | refine JL.gskipU rfl rfl rfl rfl ?_)
    refine JC.cond rfl (fun hc => ?_) (fun hc => ?_)
    · have hc0 := of_decide_eq_true hc
      repeat (first | refine JL.q (by first | (apply OQ.move; exact rfl) | (apply OQ.assign; exact rfl) | (apply OQ.nilc; exact rfl) | (apply OQ.len; exact rfl; exact rfl) | (apply OQ.addN; exact rfl; exact rfl; exact (by (try simp only []); omega)) | (apply OQ.subN; exact rfl; exact rfl; exact (by (try simp only []); omega); exact (by (try simp only []); omega)) | (apply OQ.lssN; exact rfl; exact rfl) | (apply OQ.gtrN; exact rfl; exact rfl) | (apply OQ.fld; exact rfl; exact rfl; exact rfl; exact (by decide); exact rfl)) rfl ?_ | refine JC.seq ?_ | refine JC.region ?_ | refine JC.block ?_ | refine JC.skip ?_ | refine JC.exit ?_ | refine JL.nil ?_ | refine JE.next ?_ | refine JE.blk_normal ?_ | refine JE.then_exit ?_ | refine JE.blk_hit ?_ | refine JE.blk_miss rfl ?_ | refine JE.then_ret ?_ | refine JE.blk_ret ?_ | refine JC.label ?_ | refine JL.gon rfl rfl ?_ | refine JL.gskip rfl rfl rfl rfl ?_ | refine JL.gskipU rfl rfl rfl rfl ?_)
      refine JL.store_eq (b := b8) (r := hfc hh) (r' := hfc ⟨x, first, bl.length / 2, 0, 0, 0⟩) u321 rfl rfl rfl rfl .here (show 3 < 6 by decide) (by rw [← hhh]; rfl) ?_
      repeat (first | refine JL.q (by first | (apply OQ.load_agg (cs := hfc ⟨x, first, bl.length / 2, 0, 0, 0⟩); exact hfAg; exact hf6; exact rfl; exact .here; exact rfl; exact Row.all) | (apply OQ.move; exact rfl) | (apply OQ.assign; exact rfl) | (apply OQ.nilc; exact rfl) | (apply OQ.len; exact rfl; exact rfl) | (apply OQ.addN; exact rfl; exact rfl; exact (by (try simp only []); omega)) | (apply OQ.subN; exact rfl; exact rfl; exact (by (try simp only []); omega); exact (by (try simp only []); omega)) | (apply OQ.lssN; exact rfl; exact rfl) | (apply OQ.gtrN; exact rfl; exact rfl) | (apply OQ.fld; exact rfl; exact rfl; exact rfl; exact (by decide); exact rfl)) rfl ?_ | refine JC.seq ?_ | refine JC.region ?_ | refine JC.block ?_ | refine JC.skip ?_ | refine JC.exit ?_ | refine JL.nil ?_ | refine JE.next ?_ | refine JE.blk_normal ?_ | refine JE.then_exit ?_ | refine JE.blk_hit ?_ | refine JE.blk_miss rfl ?_ | refine JE.then_ret ?_ | refine JE.blk_ret ?_ | refine JC.label ?_ | refine JL.gon rfl rfl ?_ | refine JL.gskip rfl rfl rfl rfl ?_ | refine JL.gskipU rfl rfl rfl rfl ?_)
      refine JL.store_all (cs := hfc ⟨x, first, bl.length / 2, 0, 0, 0⟩) hf6 rfl rfl rfl rfl (.there (.there .here)) rfl ?_
      repeat (first | refine JL.q (by first | (apply OQ.move; exact rfl) | (apply OQ.assign; exact rfl) | (apply OQ.nilc; exact rfl) | (apply OQ.len; exact rfl; exact rfl) | (apply OQ.addN; exact rfl; exact rfl; exact (by (try simp only []); omega)) | (apply OQ.subN; exact rfl; exact rfl; exact (by (try simp only []); omega); exact (by (try simp only []); omega)) | (apply OQ.lssN; exact rfl; exact rfl) | (apply OQ.gtrN; exact rfl; exact rfl) | (apply OQ.fld; exact rfl; exact rfl; exact rfl; exact (by decide); exact rfl)) rfl ?_ | refine JC.seq ?_ | refine JC.region ?_ | refine JC.block ?_ | refine JC.skip ?_ | refine JC.exit ?_ | refine JL.nil ?_ | refine JE.next ?_ | refine JE.blk_normal ?_ | refine JE.then_exit ?_ | refine JE.blk_hit ?_ | refine JE.blk_miss rfl ?_ | refine JE.then_ret ?_ | refine JE.blk_ret ?_ | refine JC.label ?_ | refine JL.gon rfl rfl ?_ | refine JL.gskip rfl rfl rfl rfl ?_ | refine JL.gskipU rfl rfl rfl rfl ?_)
      refine JC.ret ?_
      exact JE.ret2 rfl (RV.cell_agg hfAg hf6 rfl (.there (.there .here)) rfl Row.all) (RV.tmp rfl) fun w' hw => ⟨⟨⟨q, rs, hq, hr0⟩, hz⟩, by dsimp only; rw [if_pos hc0], hw.weak (.drop _ _ _ (.drop _ _ _ (.drop _ _ _ (less_pre _ _))))⟩
    · have hc0 := of_decide_eq_false hc
      repeat (first | refine JL.q (by first | (apply OQ.load_agg (cs := hfc hh); exact hfAg; exact hf6; exact rfl; exact .here; exact rfl; exact Row.all) | (apply OQ.move; exact rfl) | (apply OQ.assign; exact rfl) | (apply OQ.nilc; exact rfl) | (apply OQ.len; exact rfl; exact rfl) | (apply OQ.addN; exact rfl; exact rfl; exact (by (try simp only []); omega)) | (apply OQ.subN; exact rfl; exact rfl; exact (by (try simp only []); omega); exact (by (try simp only []); omega)) | (apply OQ.lssN; exact rfl; exact rfl) | (apply OQ.gtrN; exact rfl; exact rfl) | (apply OQ.fld; exact rfl; exact rfl; exact rfl; exact (by decide); exact rfl)) rfl ?_ | refine JC.seq ?_ | refine JC.region ?_ | refine JC.block ?_ | refine JC.skip ?_ | refine JC.exit ?_ | refine JL.nil ?_ | refine JE.next ?_ | refine JE.blk_normal ?_ | refine JE.then_exit ?_ | refine JE.blk_hit ?_ | refine JE.blk_miss rfl ?_ | refine JE.then_ret ?_ | refine JE.blk_ret ?_ | refine JC.label ?_ | refine JL.gon rfl rfl ?_ | refine JL.gskip rfl rfl rfl rfl ?_ | refine JL.gskipU rfl rfl rfl rfl ?_)
      refine JL.store_all (cs := hfc hh) hf6 rfl rfl rfl rfl (.there (.there .here)) rfl ?_
      repeat (first | refine JL.q (by first | (apply OQ.move; exact rfl) | (apply OQ.assign; exact rfl) | (apply OQ.nilc; exact rfl) | (apply OQ.len; exact rfl; exact rfl) | (apply OQ.addN; exact rfl; exact rfl; exact (by (try simp only []); omega)) | (apply OQ.subN; exact rfl; exact rfl; exact (by (try simp only []); omega); exact (by (try simp only []); omega)) | (apply OQ.lssN; exact rfl; exact rfl) | (apply OQ.gtrN; exact rfl; exact rfl) | (apply OQ.fld; exact rfl; exact rfl; exact rfl; exact (by decide); exact rfl)) rfl ?_ | refine JC.seq ?_ | refine JC.region ?_ | refine JC.block ?_ | refine JC.skip ?_ | refine JC.exit ?_ | refine JL.nil ?_ | refine JE.next ?_ | refine JE.blk_normal ?_ | refine JE.then_exit ?_ | refine JE.blk_hit ?_ | refine JE.blk_miss rfl ?_ | refine JE.then_ret ?_ | refine JE.blk_ret ?_ | refine JC.label ?_ | refine JL.gon rfl rfl ?_ | refine JL.gskip rfl rfl rfl rfl ?_ | refine JL.gskipU rfl rfl rfl rfl ?_)
      refine JC.ret ?_
      exact JE.ret2 rfl (RV.cell_agg hfAg hf6 rfl (.there (.there .here)) rfl Row.all) (RV.tmp rfl) fun w' hw => ⟨⟨⟨q, rs, hq, hr0⟩, hz⟩, by dsimp only; rw [if_neg hc0, hhh], hw.weak (.drop _ _ _ (.drop _ _ _ (.drop _ _ _ (less_pre _ _))))⟩
/-- the greatest generation of all blocks, at either end -/
def gm (bl : List Bk) : BitVec 32 := bl.foldl (fun m b => mx (mx m (markIn b).1) (markIn (b.drop 54)).1) 0
theorem gm_at {bl : List Bk} {p : Nat} (h : p < bl.length) : gm (bl.take (p + 1)) = mx (mx (gm (bl.take p)) (markIn (old bl p)).1) (markIn ((old bl p).drop 54)).1 := by
  have : bl.take (p + 1) = bl.take p ++ [old bl p] := by
    rw [List.take_add_one]
    simp [old, List.getD_eq_getElem?_getD, h]
  rw [this, gm, List.foldl_append]
  rfl
theorem goes_newGen : Goes Try.prog 46 := ⟨_, Try.func46, rfl, by kernel_rfl⟩
def newG (bl : List Bk) : Value := if gm bl = 4294967295#32 then .tuple #[U32 0, N 6] else .tuple #[U32 (gm bl + 1#32), N 0]
set_option maxHeartbeats 16000000 in
theorem newGen_any (x : Dp) (bl : List Bk) (pd : List (Nat × Bk)) (ok : Ok bl pd) (hn : bl.length ≤ 65536) (w : World) (h0 : Holds w [] (dkR x bl pd) w) :
    Calls Try.prog 46 [ifD x].toArray w fun e w' => e = .returned (newG bl) ∧ Ext w w' := by
  refine enter (n := 32) Try.func46 rfl rfl rfl h0 ?_
  repeat (first | refine JL.q (by first | (apply OQ.inv (xs := []); exact (isSize x); exact rfl; exact (OQ.callx (vs := [Pt x.p 0]) goes_dsizej rfl (fun w' hw' => dsizeR x bl pd w' (dkR_front (A := []) (M := []) hw')))) | (apply OQ.move; exact rfl) | (apply OQ.assign; exact rfl) | (apply OQ.nilc; exact rfl) | (apply OQ.len; exact rfl; exact rfl) | (apply OQ.addN; exact rfl; exact rfl; exact (by (try simp only []); omega)) | (apply OQ.subN; exact rfl; exact rfl; exact (by (try simp only []); omega); exact (by (try simp only []); omega)) | (apply OQ.lssN; exact rfl; exact rfl) | (apply OQ.gtrN; exact rfl; exact rfl) | (apply OQ.fld; exact rfl; exact rfl; exact rfl; exact (by decide); exact rfl)) rfl ?_ | refine JC.seq ?_ | refine JC.region ?_ | refine JC.block ?_ | refine JC.skip ?_ | refine JC.exit ?_ | refine JL.nil ?_ | refine JE.next ?_ | refine JE.blk_normal ?_ | refine JE.then_exit ?_ | refine JE.blk_hit ?_ | refine JE.blk_miss rfl ?_ | refine JE.then_ret ?_ | refine JE.blk_ret ?_ | refine JC.label ?_ | refine JL.gon rfl rfl ?_ | refine JL.gskip rfl rfl rfl rfl ?_ | refine JL.gskipU rfl rfl rfl rfl ?_)
  refine JC.loop (fun z : Nat => [(0, ifD x), (4, U32 (gm (bl.take z))), (9, N bl.length), (10, N z)]) (fun _ => dkR x bl pd) (fun z => bl.length - z) (fun z => z ≤ bl.length) 0 (Nat.zero_le _) (by repeat (first | exact SubE.nil | refine SubE.cons _ _ _ rfl ?_)) (Less.refl _) ?_
  intro p hp
  repeat (first | refine JL.q (by first | (apply OQ.move; exact rfl) | (apply OQ.assign; exact rfl) | (apply OQ.nilc; exact rfl) | (apply OQ.len; exact rfl; exact rfl) | (apply OQ.addN; exact rfl; exact rfl; exact (by (try simp only []); omega)) | (apply OQ.subN; exact rfl; exact rfl; exact (by (try simp only []); omega); exact (by (try simp only []); omega)) | (apply OQ.lssN; exact rfl; exact rfl) | (apply OQ.gtrN; exact rfl; exact rfl) | (apply OQ.fld; exact rfl; exact rfl; exact rfl; exact (by decide); exact rfl)) rfl ?_ | refine JC.seq ?_ | refine JC.region ?_ | refine JC.block ?_ | refine JC.skip ?_ | refine JC.exit ?_ | refine JL.nil ?_ | refine JE.next ?_ | refine JE.blk_normal ?_ | refine JE.then_exit ?_ | refine JE.blk_hit ?_ | refine JE.blk_miss rfl ?_ | refine JE.then_ret ?_ | refine JE.blk_ret ?_ | refine JC.label ?_ | refine JL.gon rfl rfl ?_ | refine JL.gskip rfl rfl rfl rfl ?_ | refine JL.gskipU rfl rfl rfl rfl ?_)
  refine JC.cond rfl (fun hc => ?_) (fun hc => ?_)
  · have hp' : p < bl.length := by have := of_decide_eq_true hc; omega
    clear hc
    have hg := gm_at hp'
    have hb : (old bl p).length = 64 := ok.old hp'
    have cR := fun {u w' : World} {S : List Nat} {A : List Ent} (hw' : Holds u S (A ++ (dkR x bl pd ++ [])) w') => dreadR x bl pd p hp' ok w' (dkR_front hw')
    generalize old bl p = b at hb cR hg
    repeat (first | refine JL.q (by first | (apply OQ.inv (xs := [_]); exact (isRead x); exact rfl; exact (OQ.callx (vs := [Pt x.p 0, N p]) goes_dread rfl (fun w' hw' => cR (A := []) hw'))) | (apply OQ.extract; exact rfl; exact rfl) | (apply OQ.move; exact rfl) | (apply OQ.assign; exact rfl) | (apply OQ.nilc; exact rfl) | (apply OQ.len; exact rfl; exact rfl) | (apply OQ.addN; exact rfl; exact rfl; exact (by (try simp only []); omega)) | (apply OQ.subN; exact rfl; exact rfl; exact (by (try simp only []); omega); exact (by (try simp only []); omega)) | (apply OQ.lssN; exact rfl; exact rfl) | (apply OQ.gtrN; exact rfl; exact rfl) | (apply OQ.fld; exact rfl; exact rfl; exact rfl; exact (by decide); exact rfl)) rfl ?_ | refine JC.seq ?_ | refine JC.region ?_ | refine JC.block ?_ | refine JC.skip ?_ | refine JC.exit ?_ | refine JL.nil ?_ | refine JE.next ?_ | refine JE.blk_normal ?_ | refine JE.then_exit ?_ | refine JE.blk_hit ?_ | refine JE.blk_miss rfl ?_ | refine JE.then_ret ?_ | refine JE.blk_ret ?_ | refine JC.label ?_ | refine JL.gon rfl rfl ?_ | refine JL.gskip rfl rfl rfl rfl ?_ | refine JL.gskipU rfl rfl rfl rfl ?_)
    refine JL.alloc dkZ rfl fun b6 _ => ?_
    refine JL.store_all (cs := bc b) dkB rfl rfl (bc_len hb) (bc_cell _) .here rfl ?_
    repeat (first | refine JL.q (by first | (apply OQ.move; exact rfl) | (apply OQ.assign; exact rfl) | (apply OQ.nilc; exact rfl) | (apply OQ.len; exact rfl; exact rfl) | (apply OQ.addN; exact rfl; exact rfl; exact (by (try simp only []); omega)) | (apply OQ.subN; exact rfl; exact rfl; exact (by (try simp only []); omega); exact (by (try simp only []); omega)) | (apply OQ.lssN; exact rfl; exact rfl) | (apply OQ.gtrN; exact rfl; exact rfl) | (apply OQ.fld; exact rfl; exact rfl; exact rfl; exact (by decide); exact rfl)) rfl ?_ | refine JC.seq ?_ | refine JC.region ?_ | refine JC.block ?_ | refine JC.skip ?_ | refine JC.exit ?_ | refine JL.nil ?_ | refine JE.next ?_ | refine JE.blk_normal ?_ | refine JE.then_exit ?_ | refine JE.blk_hit ?_ | refine JE.blk_miss rfl ?_ | refine JE.then_ret ?_ | refine JE.blk_ret ?_ | refine JC.label ?_ | refine JL.gon rfl rfl ?_ | refine JL.gskip rfl rfl rfl rfl ?_ | refine JL.gskipU rfl rfl rfl rfl ?_)
    have cA := fun {u w' : World} {S : List Nat} {M : List Ent} (hw' : Holds u S M w') (hM : Has M b6 (Row 32 (bc b)) true) => markIn_any ⟨some ⟨b6, 0, none⟩, 64, b⟩ w' (row_ok hw' hM rfl (by omega)) (by show 10 ≤ b.length; omega) (by show b.length ≤ 64; omega)
    have cE := fun {u w' : World} {S : List Nat} {M : List Ent} (hw' : Holds u S M w') (hM : Has M b6 (Row 32 (bc b)) true) => markIn_any ⟨some ⟨b6, 0 + 54, none⟩, 64 - 54, b.drop 54⟩ w' (end_ok hw' hM hb (by decide)) (by show 10 ≤ (b.drop 54).length; rw [List.length_drop]; omega) (by show (b.drop 54).length ≤ 64; rw [List.length_drop]; omega)
    refine JC.tail 8 mixT (by kernel_rfl) ?_
    simp only [List.take_succ_cons, List.take_zero, List.drop_succ_cons, List.drop_zero]
    repeat (first | refine JL.q (by first | (apply OQ.slAll; exact hb; exact Try.underlying32; exact u8s; exact rfl) | (apply OQ.slEnd (lo := 54); exact hb; exact Try.underlying32; exact u8s; exact rfl; exact rfl; exact (by decide)) | (apply OQ.callx (vs := [(⟨some ⟨b6, 0, none⟩, 64, b⟩ : Sl8).v]); exact goes_markIn; exact rfl; exact (fun w' hw' => cA hw' .here)) | (apply OQ.callx (vs := [(⟨some ⟨b6, 0 + 54, none⟩, 64 - 54, b.drop 54⟩ : Sl8).v]); exact goes_markIn; exact rfl; exact (fun w' hw' => cE hw' .here)) | (apply OQ.fieldM0; exact rfl) | (apply OQ.max32; exact rfl; exact rfl; exact rfl) | (apply OQ.move; exact rfl) | (apply OQ.assign; exact rfl) | (apply OQ.nilc; exact rfl) | (apply OQ.len; exact rfl; exact rfl) | (apply OQ.addN; exact rfl; exact rfl; exact (by (try simp only []); omega)) | (apply OQ.subN; exact rfl; exact rfl; exact (by (try simp only []); omega); exact (by (try simp only []); omega)) | (apply OQ.lssN; exact rfl; exact rfl) | (apply OQ.gtrN; exact rfl; exact rfl) | (apply OQ.fld; exact rfl; exact rfl; exact rfl; exact (by decide); exact rfl)) rfl ?_ | refine JQ.q (by first | (apply OQ.slAll; exact hb; exact Try.underlying32; exact u8s; exact rfl) | (apply OQ.slEnd (lo := 54); exact hb; exact Try.underlying32; exact u8s; exact rfl; exact rfl; exact (by decide)) | (apply OQ.callx (vs := [(⟨some ⟨b6, 0, none⟩, 64, b⟩ : Sl8).v]); exact goes_markIn; exact rfl; exact (fun w' hw' => cA hw' .here)) | (apply OQ.callx (vs := [(⟨some ⟨b6, 0 + 54, none⟩, 64 - 54, b.drop 54⟩ : Sl8).v]); exact goes_markIn; exact rfl; exact (fun w' hw' => cE hw' .here)) | (apply OQ.fieldM0; exact rfl) | (apply OQ.max32; exact rfl; exact rfl; exact rfl) | (apply OQ.move; exact rfl) | (apply OQ.assign; exact rfl) | (apply OQ.nilc; exact rfl) | (apply OQ.len; exact rfl; exact rfl) | (apply OQ.addN; exact rfl; exact rfl; exact (by (try simp only []); omega)) | (apply OQ.subN; exact rfl; exact rfl; exact (by (try simp only []); omega); exact (by (try simp only []); omega)) | (apply OQ.lssN; exact rfl; exact rfl) | (apply OQ.gtrN; exact rfl; exact rfl) | (apply OQ.fld; exact rfl; exact rfl; exact rfl; exact (by decide); exact rfl)) rfl ?_ | refine JC.seq ?_ | refine JC.region ?_ | refine JC.block ?_ | refine JC.skip ?_ | refine JC.exit ?_ | refine JL.nil ?_ | refine JQ.nil ?_ | refine JQ.nil_tail ?_ | refine JE.next ?_ | refine JE.blk_normal ?_ | refine JE.then_exit ?_ | refine JE.blk_hit ?_ | refine JE.blk_miss rfl ?_ | refine JE.then_ret ?_ | refine JE.blk_ret ?_ | refine JC.label ?_ | refine JL.gon rfl rfl ?_ | refine JQ.gon rfl rfl ?_ | refine JL.gskip rfl rfl rfl rfl ?_ | refine JQ.gskip rfl rfl rfl rfl ?_ | refine JL.gskipU rfl rfl rfl rfl ?_ | refine JQ.gskipU rfl rfl rfl rfl ?_)
    rw [← hg]
    exact JE.again (i := p) (p + 1) hp' (by omega) (by repeat (first | exact SubE.nil | refine SubE.cons _ _ _ rfl ?_)) (.drop _ _ _ (Less.refl _))
  · have hp' : p = bl.length := by have := of_decide_eq_false hc; omega
    rw [List.take_of_length_le (by omega : bl.length ≤ p)]
    unfold newG
    cases hm : decide (((gm bl).toNat : Int) = 4294967295)
    · have hne : ¬ gm bl = 4294967295#32 := fun e => by rw [e] at hm; cases hm
      rw [if_neg hne]
      repeat (first | refine JL.q (by first | (apply OQ.eqB (b := 4294967295); exact rfl; exact rfl; exact hm) | (apply OQ.add32 (b := 1#32); exact rfl; exact rfl) | (apply OQ.move; exact rfl) | (apply OQ.assign; exact rfl) | (apply OQ.nilc; exact rfl) | (apply OQ.len; exact rfl; exact rfl) | (apply OQ.addN; exact rfl; exact rfl; exact (by (try simp only []); omega)) | (apply OQ.subN; exact rfl; exact rfl; exact (by (try simp only []); omega); exact (by (try simp only []); omega)) | (apply OQ.lssN; exact rfl; exact rfl) | (apply OQ.gtrN; exact rfl; exact rfl) | (apply OQ.fld; exact rfl; exact rfl; exact rfl; exact (by decide); exact rfl)) rfl ?_ | refine JQ.q (by first | (apply OQ.eqB (b := 4294967295); exact rfl; exact rfl; exact hm) | (apply OQ.add32 (b := 1#32); exact rfl; exact rfl) | (apply OQ.move; exact rfl) | (apply OQ.assign; exact rfl) | (apply OQ.nilc; exact rfl) | (apply OQ.len; exact rfl; exact rfl) | (apply OQ.addN; exact rfl; exact rfl; exact (by (try simp only []); omega)) | (apply OQ.subN; exact rfl; exact rfl; exact (by (try simp only []); omega); exact (by (try simp only []); omega)) | (apply OQ.lssN; exact rfl; exact rfl) | (apply OQ.gtrN; exact rfl; exact rfl) | (apply OQ.fld; exact rfl; exact rfl; exact rfl; exact (by decide); exact rfl)) rfl ?_ | refine JC.seq ?_ | refine JC.region ?_ | refine JC.block ?_ | refine JC.skip ?_ | refine JC.exit ?_ | refine JL.nil ?_ | refine JQ.nil ?_ | refine JQ.nil_tail ?_ | refine JE.next ?_ | refine JE.blk_normal ?_ | refine JE.then_exit ?_ | refine JE.blk_hit ?_ | refine JE.blk_miss rfl ?_ | refine JE.then_ret ?_ | refine JE.blk_ret ?_ | refine JC.label ?_ | refine JL.gon rfl rfl ?_ | refine JQ.gon rfl rfl ?_ | refine JL.gskip rfl rfl rfl rfl ?_ | refine JQ.gskip rfl rfl rfl rfl ?_ | refine JL.gskipU rfl rfl rfl rfl ?_ | refine JQ.gskipU rfl rfl rfl rfl ?_)
      refine JC.cond_false rfl rfl ?_
      repeat (first | refine JL.q (by first | (apply OQ.eqB (b := 4294967295); exact rfl; exact rfl; exact hm) | (apply OQ.add32 (b := 1#32); exact rfl; exact rfl) | (apply OQ.move; exact rfl) | (apply OQ.assign; exact rfl) | (apply OQ.nilc; exact rfl) | (apply OQ.len; exact rfl; exact rfl) | (apply OQ.addN; exact rfl; exact rfl; exact (by (try simp only []); omega)) | (apply OQ.subN; exact rfl; exact rfl; exact (by (try simp only []); omega); exact (by (try simp only []); omega)) | (apply OQ.lssN; exact rfl; exact rfl) | (apply OQ.gtrN; exact rfl; exact rfl) | (apply OQ.fld; exact rfl; exact rfl; exact rfl; exact (by decide); exact rfl)) rfl ?_ | refine JQ.q (by first | (apply OQ.eqB (b := 4294967295); exact rfl; exact rfl; exact hm) | (apply OQ.add32 (b := 1#32); exact rfl; exact rfl) | (apply OQ.move; exact rfl) | (apply OQ.assign; exact rfl) | (apply OQ.nilc; exact rfl) | (apply OQ.len; exact rfl; exact rfl) | (apply OQ.addN; exact rfl; exact rfl; exact (by (try simp only []); omega)) | (apply OQ.subN; exact rfl; exact rfl; exact (by (try simp only []); omega); exact (by (try simp only []); omega)) | (apply OQ.lssN; exact rfl; exact rfl) | (apply OQ.gtrN; exact rfl; exact rfl) | (apply OQ.fld; exact rfl; exact rfl; exact rfl; exact (by decide); exact rfl)) rfl ?_ | refine JC.seq ?_ | refine JC.region ?_ | refine JC.block ?_ | refine JC.skip ?_ | refine JC.exit ?_ | refine JL.nil ?_ | refine JQ.nil ?_ | refine JQ.nil_tail ?_ | refine JE.next ?_ | refine JE.blk_normal ?_ | refine JE.then_exit ?_ | refine JE.blk_hit ?_ | refine JE.blk_miss rfl ?_ | refine JE.then_ret ?_ | refine JE.blk_ret ?_ | refine JC.label ?_ | refine JL.gon rfl rfl ?_ | refine JQ.gon rfl rfl ?_ | refine JL.gskip rfl rfl rfl rfl ?_ | refine JQ.gskip rfl rfl rfl rfl ?_ | refine JL.gskipU rfl rfl rfl rfl ?_ | refine JQ.gskipU rfl rfl rfl rfl ?_)
      refine JC.ret ?_
      repeat (first | refine JL.q (by first | (apply OQ.move; exact rfl) | (apply OQ.assign; exact rfl) | (apply OQ.nilc; exact rfl) | (apply OQ.len; exact rfl; exact rfl) | (apply OQ.addN; exact rfl; exact rfl; exact (by (try simp only []); omega)) | (apply OQ.subN; exact rfl; exact rfl; exact (by (try simp only []); omega); exact (by (try simp only []); omega)) | (apply OQ.lssN; exact rfl; exact rfl) | (apply OQ.gtrN; exact rfl; exact rfl) | (apply OQ.fld; exact rfl; exact rfl; exact rfl; exact (by decide); exact rfl)) rfl ?_ | refine JQ.q (by first | (apply OQ.move; exact rfl) | (apply OQ.assign; exact rfl) | (apply OQ.nilc; exact rfl) | (apply OQ.len; exact rfl; exact rfl) | (apply OQ.addN; exact rfl; exact rfl; exact (by (try simp only []); omega)) | (apply OQ.subN; exact rfl; exact rfl; exact (by (try simp only []); omega); exact (by (try simp only []); omega)) | (apply OQ.lssN; exact rfl; exact rfl) | (apply OQ.gtrN; exact rfl; exact rfl) | (apply OQ.fld; exact rfl; exact rfl; exact rfl; exact (by decide); exact rfl)) rfl ?_ | refine JC.seq ?_ | refine JC.region ?_ | refine JC.block ?_ | refine JC.skip ?_ | refine JC.exit ?_ | refine JL.nil ?_ | refine JQ.nil ?_ | refine JQ.nil_tail ?_ | refine JE.next ?_ | refine JE.blk_normal ?_ | refine JE.then_exit ?_ | refine JE.blk_hit ?_ | refine JE.blk_miss rfl ?_ | refine JE.then_ret ?_ | refine JE.blk_ret ?_ | refine JC.label ?_ | refine JL.gon rfl rfl ?_ | refine JQ.gon rfl rfl ?_ | refine JL.gskip rfl rfl rfl rfl ?_ | refine JQ.gskip rfl rfl rfl rfl ?_ | refine JL.gskipU rfl rfl rfl rfl ?_ | refine JQ.gskipU rfl rfl rfl rfl ?_)
      exact JE.ret2 rfl (RV.tmp rfl) (RV.tmp rfl) fun w' hw => ⟨rfl, hw.chg⟩
    · have he : gm bl = 4294967295#32 := BitVec.eq_of_toNat_eq (by have := of_decide_eq_true hm; show (gm bl).toNat = 4294967295; omega)
      rw [if_pos he]
      repeat (first | refine JL.q (by first | (apply OQ.eqB (b := 4294967295); exact rfl; exact rfl; exact hm) | (apply OQ.move; exact rfl) | (apply OQ.assign; exact rfl) | (apply OQ.nilc; exact rfl) | (apply OQ.len; exact rfl; exact rfl) | (apply OQ.addN; exact rfl; exact rfl; exact (by (try simp only []); omega)) | (apply OQ.subN; exact rfl; exact rfl; exact (by (try simp only []); omega); exact (by (try simp only []); omega)) | (apply OQ.lssN; exact rfl; exact rfl) | (apply OQ.gtrN; exact rfl; exact rfl) | (apply OQ.fld; exact rfl; exact rfl; exact rfl; exact (by decide); exact rfl)) rfl ?_ | refine JQ.q (by first | (apply OQ.eqB (b := 4294967295); exact rfl; exact rfl; exact hm) | (apply OQ.move; exact rfl) | (apply OQ.assign; exact rfl) | (apply OQ.nilc; exact rfl) | (apply OQ.len; exact rfl; exact rfl) | (apply OQ.addN; exact rfl; exact rfl; exact (by (try simp only []); omega)) | (apply OQ.subN; exact rfl; exact rfl; exact (by (try simp only []); omega); exact (by (try simp only []); omega)) | (apply OQ.lssN; exact rfl; exact rfl) | (apply OQ.gtrN; exact rfl; exact rfl) | (apply OQ.fld; exact rfl; exact rfl; exact rfl; exact (by decide); exact rfl)) rfl ?_ | refine JC.seq ?_ | refine JC.region ?_ | refine JC.block ?_ | refine JC.skip ?_ | refine JC.exit ?_ | refine JL.nil ?_ | refine JQ.nil ?_ | refine JQ.nil_tail ?_ | refine JE.next ?_ | refine JE.blk_normal ?_ | refine JE.then_exit ?_ | refine JE.blk_hit ?_ | refine JE.blk_miss rfl ?_ | refine JE.then_ret ?_ | refine JE.blk_ret ?_ | refine JC.label ?_ | refine JL.gon rfl rfl ?_ | refine JQ.gon rfl rfl ?_ | refine JL.gskip rfl rfl rfl rfl ?_ | refine JQ.gskip rfl rfl rfl rfl ?_ | refine JL.gskipU rfl rfl rfl rfl ?_ | refine JQ.gskipU rfl rfl rfl rfl ?_)
      refine JC.cond_true rfl rfl ?_
      repeat (first | refine JL.q (by first | (apply OQ.move; exact rfl) | (apply OQ.assign; exact rfl) | (apply OQ.nilc; exact rfl) | (apply OQ.len; exact rfl; exact rfl) | (apply OQ.addN; exact rfl; exact rfl; exact (by (try simp only []); omega)) | (apply OQ.subN; exact rfl; exact rfl; exact (by (try simp only []); omega); exact (by (try simp only []); omega)) | (apply OQ.lssN; exact rfl; exact rfl) | (apply OQ.gtrN; exact rfl; exact rfl) | (apply OQ.fld; exact rfl; exact rfl; exact rfl; exact (by decide); exact rfl)) rfl ?_ | refine JQ.q (by first | (apply OQ.move; exact rfl) | (apply OQ.assign; exact rfl) | (apply OQ.nilc; exact rfl) | (apply OQ.len; exact rfl; exact rfl) | (apply OQ.addN; exact rfl; exact rfl; exact (by (try simp only []); omega)) | (apply OQ.subN; exact rfl; exact rfl; exact (by (try simp only []); omega); exact (by (try simp only []); omega)) | (apply OQ.lssN; exact rfl; exact rfl) | (apply OQ.gtrN; exact rfl; exact rfl) | (apply OQ.fld; exact rfl; exact rfl; exact rfl; exact (by decide); exact rfl)) rfl ?_ | refine JC.seq ?_ | refine JC.region ?_ | refine JC.block ?_ | refine JC.skip ?_ | refine JC.exit ?_ | refine JL.nil ?_ | refine JQ.nil ?_ | refine JQ.nil_tail ?_ | refine JE.next ?_ | refine JE.blk_normal ?_ | refine JE.then_exit ?_ | refine JE.blk_hit ?_ | refine JE.blk_miss rfl ?_ | refine JE.then_ret ?_ | refine JE.blk_ret ?_ | refine JC.label ?_ | refine JL.gon rfl rfl ?_ | refine JQ.gon rfl rfl ?_ | refine JL.gskip rfl rfl rfl rfl ?_ | refine JQ.gskip rfl rfl rfl rfl ?_ | refine JL.gskipU rfl rfl rfl rfl ?_ | refine JQ.gskipU rfl rfl rfl rfl ?_)
      refine JC.ret ?_
      repeat (first | refine JL.q (by first | (apply OQ.move; exact rfl) | (apply OQ.assign; exact rfl) | (apply OQ.nilc; exact rfl) | (apply OQ.len; exact rfl; exact rfl) | (apply OQ.addN; exact rfl; exact rfl; exact (by (try simp only []); omega)) | (apply OQ.subN; exact rfl; exact rfl; exact (by (try simp only []); omega); exact (by (try simp only []); omega)) | (apply OQ.lssN; exact rfl; exact rfl) | (apply OQ.gtrN; exact rfl; exact rfl) | (apply OQ.fld; exact rfl; exact rfl; exact rfl; exact (by decide); exact rfl)) rfl ?_ | refine JQ.q (by first | (apply OQ.move; exact rfl) | (apply OQ.assign; exact rfl) | (apply OQ.nilc; exact rfl) | (apply OQ.len; exact rfl; exact rfl) | (apply OQ.addN; exact rfl; exact rfl; exact (by (try simp only []); omega)) | (apply OQ.subN; exact rfl; exact rfl; exact (by (try simp only []); omega); exact (by (try simp only []); omega)) | (apply OQ.lssN; exact rfl; exact rfl) | (apply OQ.gtrN; exact rfl; exact rfl) | (apply OQ.fld; exact rfl; exact rfl; exact rfl; exact (by decide); exact rfl)) rfl ?_ | refine JC.seq ?_ | refine JC.region ?_ | refine JC.block ?_ | refine JC.skip ?_ | refine JC.exit ?_ | refine JL.nil ?_ | refine JQ.nil ?_ | refine JQ.nil_tail ?_ | refine JE.next ?_ | refine JE.blk_normal ?_ | refine JE.then_exit ?_ | refine JE.blk_hit ?_ | refine JE.blk_miss rfl ?_ | refine JE.then_ret ?_ | refine JE.blk_ret ?_ | refine JC.label ?_ | refine JL.gon rfl rfl ?_ | refine JQ.gon rfl rfl ?_ | refine JL.gskip rfl rfl rfl rfl ?_ | refine JQ.gskip rfl rfl rfl rfl ?_ | refine JL.gskipU rfl rfl rfl rfl ?_ | refine JQ.gskipU rfl rfl rfl rfl ?_)
      exact JE.ret2 rfl (RV.tmp rfl) (RV.tmp rfl) fun w' hw => ⟨rfl, hw.chg⟩
end Go.Proofs.Ytopdkpeahhnihaa

/-
  Of no statement by itself: the landed journal's current, other, Records, Fits.
  Conditions: each theorem's own.
-/
namespace Go.Proofs.Ytopdkpeahhnihaa
set_option maxRecDepth 10000
open Sl Dsk Jrn
/-- the records at a half, and its generation -/
def recH (bl : List Bk) (first : Nat) : List Bk := toldH bl first (bl.length / 2) (markIn (old bl first)).1
def genH (bl : List Bk) (first : Nat) : BitVec 32 := if (recH bl first).length = 0 then 0 else (markIn (old bl first)).1
def curF (bl : List Bk) : Nat × BitVec 32 × List Bk :=
  if (0 : Int) < ((genH bl 0).toNat : Int) ∧ ((genH bl (bl.length / 2)).toNat : Int) ≤ ((genH bl 0).toNat : Int) then (0, genH bl 0, recH bl 0)
  else if (0 : Int) < ((genH bl (bl.length / 2)).toNat : Int) then (bl.length / 2, genH bl (bl.length / 2), recH bl (bl.length / 2)) else (bl.length / 2, genH bl (bl.length / 2), [[]])
theorem halfAt_c (x : Dp) (bl : List Bk) (pd : List (Nat × Bk)) (first : Nat) (ok : Ok bl pd) (hn : bl.length ≤ 65536) (hf : first < bl.length) (hs : first + bl.length / 2 ≤ bl.length) (w : World) (h0 : Holds w [] (dkR x bl pd) w) :
    Calls Try.prog 65 [ifD x, N first].toArray w fun e w' => ∃ z : {z : Gr // z.l = recH bl first ∧ z.rs.length ≤ bl.length / 2}, e = .returned (.tuple #[.agg (hfc ⟨x, first, bl.length / 2, genH bl first, 0, 0⟩).toArray, z.1.v]) ∧ Holds w [] z.1.E w' :=
  (halfAt_any x bl pd first ok hn hf hs w h0).mono fun e w' ⟨⟨z, hz⟩, h1, h2⟩ => ⟨⟨z, hz⟩, by
    rw [h1]
    have : z.rs.length = (recH bl first).length := by
      have := congrArg List.length hz.1
      rw [Gr.l, List.length_map] at this
      exact this
    unfold genH
    rw [← this], h2⟩
theorem goes_cur : Goes Try.prog 60 := ⟨_, Try.func60, rfl, by kernel_rfl⟩
abbrev GrOf (A : List Bk) (m : Nat) := {z : Gr // z.l = A ∧ z.rs.length ≤ m}
theorem JL.halfAt {n : Nat} {w0 : World} {S : List Nat} {ops : Array Oper} {Q : Exit → Act → World → Prop} {l : List Oper} {E : Env} {M A : List Ent} {d : Nat} {ty : TypeId} {pos : String} {aft : Array Edge} {x1 x2 : Operand} {ats : Array TypeId} {x : Dp} {bl : List Bk} {pd : List (Nat × Bk)} {first : Nat}
    (ok : Ok bl pd) (hn : bl.length ≤ 65536) (hf : first < bl.length) (hs : first + bl.length / 2 ≤ bl.length) (e1 : ev E x1 = some (ifD x)) (e2 : ev E x2 = some (N first)) (hd : Nat.blt d n = true) (hM : M = A ++ (dkR x bl pd ++ []))
    (kk : ∀ z : GrOf (recH bl first) (bl.length / 2), JL Try.prog n w0 S ops Q l ((d, .tuple #[.agg (hfc ⟨x, first, bl.length / 2, genH bl first, 0, 0⟩).toArray, z.1.v]) :: E) (z.1.E ++ M)) : JL Try.prog n w0 S ops Q (⟨some d, .call ⟨.value (.func 65), #[x1, x2], ats⟩, ty, pos, aft, none⟩ :: l) E M :=
  JL.callg (xs := [x1, x2]) (ι := GrOf (recH bl first) (bl.length / 2)) (vs := [ifD x, N first]) (fun z => .tuple #[.agg (hfc ⟨x, first, bl.length / 2, genH bl first, 0, 0⟩).toArray, z.1.v]) (fun z => z.1.E) goes_halfAt (by simp [evs, e1, e2]) hd (fun z => z.1.wr) (fun w' hw' => halfAt_c x bl pd first ok hn hf hs w' (dkR_front (A := A) (by rw [← hM]; exact hw'))) kk
def gr0 (b : Nat) : Gr := ⟨some (b, 1), [nilS], nofun, fun x hx _ => by rw [List.mem_singleton.1 hx]; rfl⟩
set_option maxHeartbeats 16000000 in
theorem cur_any (x : Dp) (bl : List Bk) (pd : List (Nat × Bk)) (ok : Ok bl pd) (hn : bl.length ≤ 65536) (h4 : 4 ≤ bl.length) (w : World) (h0 : Holds w [] (dkR x bl pd) w) :
    Calls Try.prog 60 [ifD x].toArray w fun e w' => ∃ z : GrOf (curF bl).2.2 (bl.length / 2), e = .returned (.tuple #[.agg (hfc ⟨x, (curF bl).1, bl.length / 2, (curF bl).2.1, 0, 0⟩).toArray, z.1.v]) ∧ Holds w [] z.1.E w' := by
  refine enter (n := 40) Try.func60 rfl rfl rfl h0 ?_
  repeat (first | refine JL.q (by first | (apply OQ.move; exact rfl) | (apply OQ.assign; exact rfl) | (apply OQ.nilc; exact rfl) | (apply OQ.len; exact rfl; exact rfl) | (apply OQ.addN; exact rfl; exact rfl; exact (by (try simp only []); omega)) | (apply OQ.subN; exact rfl; exact rfl; exact (by (try simp only []); omega); exact (by (try simp only []); omega)) | (apply OQ.lssN; exact rfl; exact rfl) | (apply OQ.gtrN; exact rfl; exact rfl) | (apply OQ.fld; exact rfl; exact rfl; exact rfl; exact (by decide); exact rfl)) rfl ?_ | refine JC.seq ?_ | refine JC.region ?_ | refine JC.block ?_ | refine JC.skip ?_ | refine JC.exit ?_ | refine JL.nil ?_ | refine JE.next ?_ | refine JE.blk_normal ?_ | refine JE.then_exit ?_ | refine JE.blk_hit ?_ | refine JE.blk_miss rfl ?_ | refine JE.then_ret ?_ | refine JE.blk_ret ?_ | refine JC.label ?_ | refine JL.gon rfl rfl ?_ | refine JL.gskip rfl rfl rfl rfl ?_ | refine JL.gskipU rfl rfl rfl rfl ?_)
  refine JL.alloc (r := hfc0) hfZ rfl fun b2 _ => ?_
  repeat (first | refine JL.q (by first | (apply OQ.move; exact rfl) | (apply OQ.assign; exact rfl) | (apply OQ.nilc; exact rfl) | (apply OQ.len; exact rfl; exact rfl) | (apply OQ.addN; exact rfl; exact rfl; exact (by (try simp only []); omega)) | (apply OQ.subN; exact rfl; exact rfl; exact (by (try simp only []); omega); exact (by (try simp only []); omega)) | (apply OQ.lssN; exact rfl; exact rfl) | (apply OQ.gtrN; exact rfl; exact rfl) | (apply OQ.fld; exact rfl; exact rfl; exact rfl; exact (by decide); exact rfl)) rfl ?_ | refine JC.seq ?_ | refine JC.region ?_ | refine JC.block ?_ | refine JC.skip ?_ | refine JC.exit ?_ | refine JL.nil ?_ | refine JE.next ?_ | refine JE.blk_normal ?_ | refine JE.then_exit ?_ | refine JE.blk_hit ?_ | refine JE.blk_miss rfl ?_ | refine JE.then_ret ?_ | refine JE.blk_ret ?_ | refine JC.label ?_ | refine JL.gon rfl rfl ?_ | refine JL.gskip rfl rfl rfl rfl ?_ | refine JL.gskipU rfl rfl rfl rfl ?_)
  refine JL.halfAt (A := [_]) (first := 0) ok hn (by omega) (by omega) rfl rfl rfl rfl fun z1 => ?_
  repeat (first | refine JL.q (by first | (apply OQ.extract; exact rfl; exact rfl) | (apply OQ.move; exact rfl) | (apply OQ.assign; exact rfl) | (apply OQ.nilc; exact rfl) | (apply OQ.len; exact rfl; exact rfl) | (apply OQ.addN; exact rfl; exact rfl; exact (by (try simp only []); omega)) | (apply OQ.subN; exact rfl; exact rfl; exact (by (try simp only []); omega); exact (by (try simp only []); omega)) | (apply OQ.lssN; exact rfl; exact rfl) | (apply OQ.gtrN; exact rfl; exact rfl) | (apply OQ.fld; exact rfl; exact rfl; exact rfl; exact (by decide); exact rfl)) rfl ?_ | refine JC.seq ?_ | refine JC.region ?_ | refine JC.block ?_ | refine JC.skip ?_ | refine JC.exit ?_ | refine JL.nil ?_ | refine JE.next ?_ | refine JE.blk_normal ?_ | refine JE.then_exit ?_ | refine JE.blk_hit ?_ | refine JE.blk_miss rfl ?_ | refine JE.then_ret ?_ | refine JE.blk_ret ?_ | refine JC.label ?_ | refine JL.gon rfl rfl ?_ | refine JL.gskip rfl rfl rfl rfl ?_ | refine JL.gskipU rfl rfl rfl rfl ?_)
  generalize hh1 : (⟨x, 0, bl.length / 2, genH bl 0, 0, 0⟩ : Hf) = h1
  refine JL.alloc (r := hfc0) hfZ rfl fun b4 _ => ?_
  refine JL.store_all (cs := hfc h1) hf6 rfl rfl rfl rfl .here rfl ?_
  refine JL.perm (M' := ([⟨b4, Row 86 (hfc h1), true⟩, ⟨b2, Row 86 hfc0, true⟩] ++ z1.1.E) ++ (dkR x bl pd ++ [])) ?_ (by
    rw [List.append_nil, List.append_assoc]
    exact List.Perm.cons _ (List.perm_append_comm_assoc z1.1.E [_] _))
  repeat (first | refine JL.q (by first | (apply OQ.inv (xs := []); exact (isSize x); exact rfl; exact (OQ.callx (vs := [Pt x.p 0]) goes_dsizej rfl (fun w' hw' => dsizeR x bl pd w' (dkR_front (A := [⟨b4, Row 86 (hfc h1), true⟩, ⟨b2, Row 86 hfc0, true⟩] ++ z1.1.E) (M := []) hw')))) | (apply OQ.quoN (b := 2); exact rfl; exact rfl; exact (by decide); exact (by omega)) | (apply OQ.move; exact rfl) | (apply OQ.assign; exact rfl) | (apply OQ.nilc; exact rfl) | (apply OQ.len; exact rfl; exact rfl) | (apply OQ.addN; exact rfl; exact rfl; exact (by (try simp only []); omega)) | (apply OQ.subN; exact rfl; exact rfl; exact (by (try simp only []); omega); exact (by (try simp only []); omega)) | (apply OQ.lssN; exact rfl; exact rfl) | (apply OQ.gtrN; exact rfl; exact rfl) | (apply OQ.fld; exact rfl; exact rfl; exact rfl; exact (by decide); exact rfl)) rfl ?_ | refine JC.seq ?_ | refine JC.region ?_ | refine JC.block ?_ | refine JC.skip ?_ | refine JC.exit ?_ | refine JL.nil ?_ | refine JE.next ?_ | refine JE.blk_normal ?_ | refine JE.then_exit ?_ | refine JE.blk_hit ?_ | refine JE.blk_miss rfl ?_ | refine JE.then_ret ?_ | refine JE.blk_ret ?_ | refine JC.label ?_ | refine JL.gon rfl rfl ?_ | refine JL.gskip rfl rfl rfl rfl ?_ | refine JL.gskipU rfl rfl rfl rfl ?_)
  refine JL.halfAt (A := [_, _] ++ z1.1.E) (first := bl.length / 2) ok hn (by omega) (by omega) rfl rfl rfl rfl fun z2 => ?_
  repeat (first | refine JL.q (by first | (apply OQ.extract; exact rfl; exact rfl) | (apply OQ.move; exact rfl) | (apply OQ.assign; exact rfl) | (apply OQ.nilc; exact rfl) | (apply OQ.len; exact rfl; exact rfl) | (apply OQ.addN; exact rfl; exact rfl; exact (by (try simp only []); omega)) | (apply OQ.subN; exact rfl; exact rfl; exact (by (try simp only []); omega); exact (by (try simp only []); omega)) | (apply OQ.lssN; exact rfl; exact rfl) | (apply OQ.gtrN; exact rfl; exact rfl) | (apply OQ.fld; exact rfl; exact rfl; exact rfl; exact (by decide); exact rfl)) rfl ?_ | refine JC.seq ?_ | refine JC.region ?_ | refine JC.block ?_ | refine JC.skip ?_ | refine JC.exit ?_ | refine JL.nil ?_ | refine JE.next ?_ | refine JE.blk_normal ?_ | refine JE.then_exit ?_ | refine JE.blk_hit ?_ | refine JE.blk_miss rfl ?_ | refine JE.then_ret ?_ | refine JE.blk_ret ?_ | refine JC.label ?_ | refine JL.gon rfl rfl ?_ | refine JL.gskip rfl rfl rfl rfl ?_ | refine JL.gskipU rfl rfl rfl rfl ?_)
  generalize hh2 : (⟨x, bl.length / 2, bl.length / 2, genH bl (bl.length / 2), 0, 0⟩ : Hf) = h2
  refine JL.alloc (r := hfc0) hfZ rfl fun b6 _ => ?_
  refine JL.store_all (cs := hfc h2) hf6 rfl rfl rfl rfl .here rfl ?_
  refine JL.perm (M' := [⟨b6, Row 86 (hfc h2), true⟩, ⟨b4, Row 86 (hfc h1), true⟩, ⟨b2, Row 86 hfc0, true⟩] ++ (z1.1.E ++ (z2.1.E ++ dkR x bl pd))) ?_ (by
    rw [List.append_nil]
    refine List.Perm.cons _ ((List.perm_append_comm_assoc z2.1.E ([_, _] ++ z1.1.E) _).trans ?_)
    rw [List.append_assoc]
    exact List.Perm.refl _)
  have hcur : curF bl = if (0 : Int) < (h1.g.toNat : Int) ∧ (h2.g.toNat : Int) ≤ (h1.g.toNat : Int) then (0, h1.g, recH bl 0) else if (0 : Int) < (h2.g.toNat : Int) then (bl.length / 2, h2.g, recH bl (bl.length / 2)) else (bl.length / 2, h2.g, [[]]) := by rw [← hh1, ← hh2]; rfl
  rw [hcur]
  cases c0 : decide ((0 : Int) < (h1.g.toNat : Int) ∧ (h2.g.toNat : Int) ≤ (h1.g.toNat : Int))
  case true =>
    have hc0 := of_decide_eq_true c0
    rw [if_pos hc0]
    repeat (first | refine JL.q (by first | (apply OQ.load; exact u32C; exact rfl; exact (.there .here); exact (Row.cell (v := U32 h1.g) rfl)) | (apply OQ.load; exact u32C; exact rfl; exact .here; exact (Row.cell (v := U32 h2.g) rfl)) | (apply OQ.gtrB (b := 0); exact rfl; exact rfl; exact (decide_eq_true hc0.1)) | (apply OQ.geqB; exact rfl; exact rfl; exact (decide_eq_true hc0.2)) | (apply OQ.pick_t; exact rfl; exact rfl) | (apply OQ.move; exact rfl) | (apply OQ.assign; exact rfl) | (apply OQ.nilc; exact rfl) | (apply OQ.len; exact rfl; exact rfl) | (apply OQ.addN; exact rfl; exact rfl; exact (by (try simp only []); omega)) | (apply OQ.subN; exact rfl; exact rfl; exact (by (try simp only []); omega); exact (by (try simp only []); omega)) | (apply OQ.lssN; exact rfl; exact rfl) | (apply OQ.gtrN; exact rfl; exact rfl) | (apply OQ.fld; exact rfl; exact rfl; exact rfl; exact (by decide); exact rfl)) rfl ?_ | refine JC.seq ?_ | refine JC.region ?_ | refine JC.block ?_ | refine JC.skip ?_ | refine JC.exit ?_ | refine JL.nil ?_ | refine JE.next ?_ | refine JE.blk_normal ?_ | refine JE.then_exit ?_ | refine JE.blk_hit ?_ | refine JE.blk_miss rfl ?_ | refine JE.then_ret ?_ | refine JE.blk_ret ?_ | refine JC.label ?_ | refine JL.gon rfl rfl ?_ | refine JL.gskip rfl rfl rfl rfl ?_ | refine JL.gskipU rfl rfl rfl rfl ?_)
    refine JC.cond_true rfl rfl ?_
    repeat (first | refine JL.q (by first | (apply OQ.load_agg (cs := hfc h1); exact hfAg; exact hf6; exact rfl; exact (.there .here); exact rfl; exact Row.all) | (apply OQ.move; exact rfl) | (apply OQ.assign; exact rfl) | (apply OQ.nilc; exact rfl) | (apply OQ.len; exact rfl; exact rfl) | (apply OQ.addN; exact rfl; exact rfl; exact (by (try simp only []); omega)) | (apply OQ.subN; exact rfl; exact rfl; exact (by (try simp only []); omega); exact (by (try simp only []); omega)) | (apply OQ.lssN; exact rfl; exact rfl) | (apply OQ.gtrN; exact rfl; exact rfl) | (apply OQ.fld; exact rfl; exact rfl; exact rfl; exact (by decide); exact rfl)) rfl ?_ | refine JC.seq ?_ | refine JC.region ?_ | refine JC.block ?_ | refine JC.skip ?_ | refine JC.exit ?_ | refine JL.nil ?_ | refine JE.next ?_ | refine JE.blk_normal ?_ | refine JE.then_exit ?_ | refine JE.blk_hit ?_ | refine JE.blk_miss rfl ?_ | refine JE.then_ret ?_ | refine JE.blk_ret ?_ | refine JC.label ?_ | refine JL.gon rfl rfl ?_ | refine JL.gskip rfl rfl rfl rfl ?_ | refine JL.gskipU rfl rfl rfl rfl ?_)
    refine JL.store_all (cs := hfc h1) hf6 rfl rfl rfl rfl (.there (.there .here)) rfl ?_
    repeat (first | refine JL.q (by first | (apply OQ.move; exact rfl) | (apply OQ.assign; exact rfl) | (apply OQ.nilc; exact rfl) | (apply OQ.len; exact rfl; exact rfl) | (apply OQ.addN; exact rfl; exact rfl; exact (by (try simp only []); omega)) | (apply OQ.subN; exact rfl; exact rfl; exact (by (try simp only []); omega); exact (by (try simp only []); omega)) | (apply OQ.lssN; exact rfl; exact rfl) | (apply OQ.gtrN; exact rfl; exact rfl) | (apply OQ.fld; exact rfl; exact rfl; exact rfl; exact (by decide); exact rfl)) rfl ?_ | refine JC.seq ?_ | refine JC.region ?_ | refine JC.block ?_ | refine JC.skip ?_ | refine JC.exit ?_ | refine JL.nil ?_ | refine JE.next ?_ | refine JE.blk_normal ?_ | refine JE.then_exit ?_ | refine JE.blk_hit ?_ | refine JE.blk_miss rfl ?_ | refine JE.then_ret ?_ | refine JE.blk_ret ?_ | refine JC.label ?_ | refine JL.gon rfl rfl ?_ | refine JL.gskip rfl rfl rfl rfl ?_ | refine JL.gskipU rfl rfl rfl rfl ?_)
    refine JC.ret ?_
    repeat (first | refine JL.q (by first | (apply OQ.move; exact rfl) | (apply OQ.assign; exact rfl) | (apply OQ.nilc; exact rfl) | (apply OQ.len; exact rfl; exact rfl) | (apply OQ.addN; exact rfl; exact rfl; exact (by (try simp only []); omega)) | (apply OQ.subN; exact rfl; exact rfl; exact (by (try simp only []); omega); exact (by (try simp only []); omega)) | (apply OQ.lssN; exact rfl; exact rfl) | (apply OQ.gtrN; exact rfl; exact rfl) | (apply OQ.fld; exact rfl; exact rfl; exact rfl; exact (by decide); exact rfl)) rfl ?_ | refine JC.seq ?_ | refine JC.region ?_ | refine JC.block ?_ | refine JC.skip ?_ | refine JC.exit ?_ | refine JL.nil ?_ | refine JE.next ?_ | refine JE.blk_normal ?_ | refine JE.then_exit ?_ | refine JE.blk_hit ?_ | refine JE.blk_miss rfl ?_ | refine JE.then_ret ?_ | refine JE.blk_ret ?_ | refine JC.label ?_ | refine JL.gon rfl rfl ?_ | refine JL.gskip rfl rfl rfl rfl ?_ | refine JL.gskipU rfl rfl rfl rfl ?_)
    exact JE.ret2 rfl (RV.cell_agg hfAg hf6 rfl (.there (.there .here)) rfl Row.all) (RV.tmp rfl) fun w' hw => ⟨z1, by rw [← hh1]; rfl, hw.weak (.drop _ _ _ (.drop _ _ _ (.drop _ _ _ (less_pre _ _))))⟩
  case false =>
    have hc0 := of_decide_eq_false c0
    rw [if_neg hc0]
    cases c1 : decide ((0 : Int) < (h1.g.toNat : Int))
    case false =>
      repeat (first | refine JL.q (by first | (apply OQ.load; exact u32C; exact rfl; exact (.there .here); exact (Row.cell (v := U32 h1.g) rfl)) | (apply OQ.load; exact u32C; exact rfl; exact .here; exact (Row.cell (v := U32 h2.g) rfl)) | (apply OQ.gtrB (b := 0); exact rfl; exact rfl; exact c1) | (apply OQ.pick_f; exact rfl; exact rfl) | (apply OQ.move; exact rfl) | (apply OQ.assign; exact rfl) | (apply OQ.nilc; exact rfl) | (apply OQ.len; exact rfl; exact rfl) | (apply OQ.addN; exact rfl; exact rfl; exact (by (try simp only []); omega)) | (apply OQ.subN; exact rfl; exact rfl; exact (by (try simp only []); omega); exact (by (try simp only []); omega)) | (apply OQ.lssN; exact rfl; exact rfl) | (apply OQ.gtrN; exact rfl; exact rfl) | (apply OQ.fld; exact rfl; exact rfl; exact rfl; exact (by decide); exact rfl)) rfl ?_ | refine JC.seq ?_ | refine JC.region ?_ | refine JC.block ?_ | refine JC.skip ?_ | refine JC.exit ?_ | refine JL.nil ?_ | refine JE.next ?_ | refine JE.blk_normal ?_ | refine JE.then_exit ?_ | refine JE.blk_hit ?_ | refine JE.blk_miss rfl ?_ | refine JE.then_ret ?_ | refine JE.blk_ret ?_ | refine JC.label ?_ | refine JL.gon rfl rfl ?_ | refine JL.gskip rfl rfl rfl rfl ?_ | refine JL.gskipU rfl rfl rfl rfl ?_)
      refine JC.cond_false rfl rfl ?_
      cases c3 : decide ((0 : Int) < (h2.g.toNat : Int))
      case true =>
        have hc3 := of_decide_eq_true c3
        rw [if_pos hc3]
        repeat (first | refine JL.q (by first | (apply OQ.load; exact u32C; exact rfl; exact .here; exact (Row.cell (v := U32 h2.g) rfl)) | (apply OQ.gtrB (b := 0); exact rfl; exact rfl; exact c3) | (apply OQ.move; exact rfl) | (apply OQ.assign; exact rfl) | (apply OQ.nilc; exact rfl) | (apply OQ.len; exact rfl; exact rfl) | (apply OQ.addN; exact rfl; exact rfl; exact (by (try simp only []); omega)) | (apply OQ.subN; exact rfl; exact rfl; exact (by (try simp only []); omega); exact (by (try simp only []); omega)) | (apply OQ.lssN; exact rfl; exact rfl) | (apply OQ.gtrN; exact rfl; exact rfl) | (apply OQ.fld; exact rfl; exact rfl; exact rfl; exact (by decide); exact rfl)) rfl ?_ | refine JC.seq ?_ | refine JC.region ?_ | refine JC.block ?_ | refine JC.skip ?_ | refine JC.exit ?_ | refine JL.nil ?_ | refine JE.next ?_ | refine JE.blk_normal ?_ | refine JE.then_exit ?_ | refine JE.blk_hit ?_ | refine JE.blk_miss rfl ?_ | refine JE.then_ret ?_ | refine JE.blk_ret ?_ | refine JC.label ?_ | refine JL.gon rfl rfl ?_ | refine JL.gskip rfl rfl rfl rfl ?_ | refine JL.gskipU rfl rfl rfl rfl ?_)
        refine JC.cond_true rfl rfl ?_
        repeat (first | refine JL.q (by first | (apply OQ.load_agg (cs := hfc h2); exact hfAg; exact hf6; exact rfl; exact .here; exact rfl; exact Row.all) | (apply OQ.move; exact rfl) | (apply OQ.assign; exact rfl) | (apply OQ.nilc; exact rfl) | (apply OQ.len; exact rfl; exact rfl) | (apply OQ.addN; exact rfl; exact rfl; exact (by (try simp only []); omega)) | (apply OQ.subN; exact rfl; exact rfl; exact (by (try simp only []); omega); exact (by (try simp only []); omega)) | (apply OQ.lssN; exact rfl; exact rfl) | (apply OQ.gtrN; exact rfl; exact rfl) | (apply OQ.fld; exact rfl; exact rfl; exact rfl; exact (by decide); exact rfl)) rfl ?_ | refine JC.seq ?_ | refine JC.region ?_ | refine JC.block ?_ | refine JC.skip ?_ | refine JC.exit ?_ | refine JL.nil ?_ | refine JE.next ?_ | refine JE.blk_normal ?_ | refine JE.then_exit ?_ | refine JE.blk_hit ?_ | refine JE.blk_miss rfl ?_ | refine JE.then_ret ?_ | refine JE.blk_ret ?_ | refine JC.label ?_ | refine JL.gon rfl rfl ?_ | refine JL.gskip rfl rfl rfl rfl ?_ | refine JL.gskipU rfl rfl rfl rfl ?_)
        refine JL.store_all (cs := hfc h2) hf6 rfl rfl rfl rfl (.there (.there .here)) rfl ?_
        repeat (first | refine JL.q (by first | (apply OQ.move; exact rfl) | (apply OQ.assign; exact rfl) | (apply OQ.nilc; exact rfl) | (apply OQ.len; exact rfl; exact rfl) | (apply OQ.addN; exact rfl; exact rfl; exact (by (try simp only []); omega)) | (apply OQ.subN; exact rfl; exact rfl; exact (by (try simp only []); omega); exact (by (try simp only []); omega)) | (apply OQ.lssN; exact rfl; exact rfl) | (apply OQ.gtrN; exact rfl; exact rfl) | (apply OQ.fld; exact rfl; exact rfl; exact rfl; exact (by decide); exact rfl)) rfl ?_ | refine JC.seq ?_ | refine JC.region ?_ | refine JC.block ?_ | refine JC.skip ?_ | refine JC.exit ?_ | refine JL.nil ?_ | refine JE.next ?_ | refine JE.blk_normal ?_ | refine JE.then_exit ?_ | refine JE.blk_hit ?_ | refine JE.blk_miss rfl ?_ | refine JE.then_ret ?_ | refine JE.blk_ret ?_ | refine JC.label ?_ | refine JL.gon rfl rfl ?_ | refine JL.gskip rfl rfl rfl rfl ?_ | refine JL.gskipU rfl rfl rfl rfl ?_)
        refine JC.ret ?_
        repeat (first | refine JL.q (by first | (apply OQ.move; exact rfl) | (apply OQ.assign; exact rfl) | (apply OQ.nilc; exact rfl) | (apply OQ.len; exact rfl; exact rfl) | (apply OQ.addN; exact rfl; exact rfl; exact (by (try simp only []); omega)) | (apply OQ.subN; exact rfl; exact rfl; exact (by (try simp only []); omega); exact (by (try simp only []); omega)) | (apply OQ.lssN; exact rfl; exact rfl) | (apply OQ.gtrN; exact rfl; exact rfl) | (apply OQ.fld; exact rfl; exact rfl; exact rfl; exact (by decide); exact rfl)) rfl ?_ | refine JC.seq ?_ | refine JC.region ?_ | refine JC.block ?_ | refine JC.skip ?_ | refine JC.exit ?_ | refine JL.nil ?_ | refine JE.next ?_ | refine JE.blk_normal ?_ | refine JE.then_exit ?_ | refine JE.blk_hit ?_ | refine JE.blk_miss rfl ?_ | refine JE.then_ret ?_ | refine JE.blk_ret ?_ | refine JC.label ?_ | refine JL.gon rfl rfl ?_ | refine JL.gskip rfl rfl rfl rfl ?_ | refine JL.gskipU rfl rfl rfl rfl ?_)
        exact JE.ret2 rfl (RV.cell_agg hfAg hf6 rfl (.there (.there .here)) rfl Row.all) (RV.tmp rfl) fun w' hw => ⟨z2, by rw [← hh2]; rfl, hw.weak (.drop _ _ _ (.drop _ _ _ (.drop _ _ _ (less_app z1.1.E (less_pre z2.1.E _)))))⟩
      case false =>
        have hc3 := of_decide_eq_false c3
        rw [if_neg hc3]
        repeat (first | refine JL.q (by first | (apply OQ.load; exact u32C; exact rfl; exact .here; exact (Row.cell (v := U32 h2.g) rfl)) | (apply OQ.gtrB (b := 0); exact rfl; exact rfl; exact c3) | (apply OQ.move; exact rfl) | (apply OQ.assign; exact rfl) | (apply OQ.nilc; exact rfl) | (apply OQ.len; exact rfl; exact rfl) | (apply OQ.addN; exact rfl; exact rfl; exact (by (try simp only []); omega)) | (apply OQ.subN; exact rfl; exact rfl; exact (by (try simp only []); omega); exact (by (try simp only []); omega)) | (apply OQ.lssN; exact rfl; exact rfl) | (apply OQ.gtrN; exact rfl; exact rfl) | (apply OQ.fld; exact rfl; exact rfl; exact rfl; exact (by decide); exact rfl)) rfl ?_ | refine JC.seq ?_ | refine JC.region ?_ | refine JC.block ?_ | refine JC.skip ?_ | refine JC.exit ?_ | refine JL.nil ?_ | refine JE.next ?_ | refine JE.blk_normal ?_ | refine JE.then_exit ?_ | refine JE.blk_hit ?_ | refine JE.blk_miss rfl ?_ | refine JE.then_ret ?_ | refine JE.blk_ret ?_ | refine JC.label ?_ | refine JL.gon rfl rfl ?_ | refine JL.gskip rfl rfl rfl rfl ?_ | refine JL.gskipU rfl rfl rfl rfl ?_)
        refine JC.cond_false rfl rfl ?_
        repeat (first | refine JL.q (by first | (apply OQ.load_agg (cs := hfc h2); exact hfAg; exact hf6; exact rfl; exact .here; exact rfl; exact Row.all) | (apply OQ.move; exact rfl) | (apply OQ.assign; exact rfl) | (apply OQ.nilc; exact rfl) | (apply OQ.len; exact rfl; exact rfl) | (apply OQ.addN; exact rfl; exact rfl; exact (by (try simp only []); omega)) | (apply OQ.subN; exact rfl; exact rfl; exact (by (try simp only []); omega); exact (by (try simp only []); omega)) | (apply OQ.lssN; exact rfl; exact rfl) | (apply OQ.gtrN; exact rfl; exact rfl) | (apply OQ.fld; exact rfl; exact rfl; exact rfl; exact (by decide); exact rfl)) rfl ?_ | refine JC.seq ?_ | refine JC.region ?_ | refine JC.block ?_ | refine JC.skip ?_ | refine JC.exit ?_ | refine JL.nil ?_ | refine JE.next ?_ | refine JE.blk_normal ?_ | refine JE.then_exit ?_ | refine JE.blk_hit ?_ | refine JE.blk_miss rfl ?_ | refine JE.then_ret ?_ | refine JE.blk_ret ?_ | refine JC.label ?_ | refine JL.gon rfl rfl ?_ | refine JL.gskip rfl rfl rfl rfl ?_ | refine JL.gskipU rfl rfl rfl rfl ?_)
        refine JL.lit1 (v := .slice none 0 0) Try.underlying57 slEj rfl rfl rfl rfl fun bl2 _ => ?_
        refine JL.store_all (cs := hfc h2) hf6 rfl rfl rfl rfl (.there (.there (.there .here))) rfl ?_
        repeat (first | refine JL.q (by first | (apply OQ.move; exact rfl) | (apply OQ.assign; exact rfl) | (apply OQ.nilc; exact rfl) | (apply OQ.len; exact rfl; exact rfl) | (apply OQ.addN; exact rfl; exact rfl; exact (by (try simp only []); omega)) | (apply OQ.subN; exact rfl; exact rfl; exact (by (try simp only []); omega); exact (by (try simp only []); omega)) | (apply OQ.lssN; exact rfl; exact rfl) | (apply OQ.gtrN; exact rfl; exact rfl) | (apply OQ.fld; exact rfl; exact rfl; exact rfl; exact (by decide); exact rfl)) rfl ?_ | refine JC.seq ?_ | refine JC.region ?_ | refine JC.block ?_ | refine JC.skip ?_ | refine JC.exit ?_ | refine JL.nil ?_ | refine JE.next ?_ | refine JE.blk_normal ?_ | refine JE.then_exit ?_ | refine JE.blk_hit ?_ | refine JE.blk_miss rfl ?_ | refine JE.then_ret ?_ | refine JE.blk_ret ?_ | refine JC.label ?_ | refine JL.gon rfl rfl ?_ | refine JL.gskip rfl rfl rfl rfl ?_ | refine JL.gskipU rfl rfl rfl rfl ?_)
        refine JC.ret ?_
        repeat (first | refine JL.q (by first | (apply OQ.move; exact rfl) | (apply OQ.assign; exact rfl) | (apply OQ.nilc; exact rfl) | (apply OQ.len; exact rfl; exact rfl) | (apply OQ.addN; exact rfl; exact rfl; exact (by (try simp only []); omega)) | (apply OQ.subN; exact rfl; exact rfl; exact (by (try simp only []); omega); exact (by (try simp only []); omega)) | (apply OQ.lssN; exact rfl; exact rfl) | (apply OQ.gtrN; exact rfl; exact rfl) | (apply OQ.fld; exact rfl; exact rfl; exact rfl; exact (by decide); exact rfl)) rfl ?_ | refine JC.seq ?_ | refine JC.region ?_ | refine JC.block ?_ | refine JC.skip ?_ | refine JC.exit ?_ | refine JL.nil ?_ | refine JE.next ?_ | refine JE.blk_normal ?_ | refine JE.then_exit ?_ | refine JE.blk_hit ?_ | refine JE.blk_miss rfl ?_ | refine JE.then_ret ?_ | refine JE.blk_ret ?_ | refine JC.label ?_ | refine JL.gon rfl rfl ?_ | refine JL.gskip rfl rfl rfl rfl ?_ | refine JL.gskipU rfl rfl rfl rfl ?_)
        exact JE.ret2 rfl (RV.cell_agg hfAg hf6 rfl (.there (.there (.there .here))) rfl Row.all) (RV.tmp rfl) fun w' hw => ⟨⟨gr0 bl2, rfl, by show 1 ≤ _; omega⟩, by rw [← hh2]; rfl, hw.weak (.keep _ _ _ _ _ _ (row_ownG rfl) (.nil _))⟩
    case true =>
      have c2 : decide ((h2.g.toNat : Int) ≤ (h1.g.toNat : Int)) = false := decide_eq_false fun h => hc0 ⟨of_decide_eq_true c1, h⟩
      repeat (first | refine JL.q (by first | (apply OQ.load; exact u32C; exact rfl; exact (.there .here); exact (Row.cell (v := U32 h1.g) rfl)) | (apply OQ.load; exact u32C; exact rfl; exact .here; exact (Row.cell (v := U32 h2.g) rfl)) | (apply OQ.gtrB (b := 0); exact rfl; exact rfl; exact c1) | (apply OQ.geqB; exact rfl; exact rfl; exact c2) | (apply OQ.pick_t; exact rfl; exact rfl) | (apply OQ.move; exact rfl) | (apply OQ.assign; exact rfl) | (apply OQ.nilc; exact rfl) | (apply OQ.len; exact rfl; exact rfl) | (apply OQ.addN; exact rfl; exact rfl; exact (by (try simp only []); omega)) | (apply OQ.subN; exact rfl; exact rfl; exact (by (try simp only []); omega); exact (by (try simp only []); omega)) | (apply OQ.lssN; exact rfl; exact rfl) | (apply OQ.gtrN; exact rfl; exact rfl) | (apply OQ.fld; exact rfl; exact rfl; exact rfl; exact (by decide); exact rfl)) rfl ?_ | refine JC.seq ?_ | refine JC.region ?_ | refine JC.block ?_ | refine JC.skip ?_ | refine JC.exit ?_ | refine JL.nil ?_ | refine JE.next ?_ | refine JE.blk_normal ?_ | refine JE.then_exit ?_ | refine JE.blk_hit ?_ | refine JE.blk_miss rfl ?_ | refine JE.then_ret ?_ | refine JE.blk_ret ?_ | refine JC.label ?_ | refine JL.gon rfl rfl ?_ | refine JL.gskip rfl rfl rfl rfl ?_ | refine JL.gskipU rfl rfl rfl rfl ?_)
      refine JC.cond_false rfl rfl ?_
      cases c3 : decide ((0 : Int) < (h2.g.toNat : Int))
      case true =>
        have hc3 := of_decide_eq_true c3
        rw [if_pos hc3]
        repeat (first | refine JL.q (by first | (apply OQ.load; exact u32C; exact rfl; exact .here; exact (Row.cell (v := U32 h2.g) rfl)) | (apply OQ.gtrB (b := 0); exact rfl; exact rfl; exact c3) | (apply OQ.move; exact rfl) | (apply OQ.assign; exact rfl) | (apply OQ.nilc; exact rfl) | (apply OQ.len; exact rfl; exact rfl) | (apply OQ.addN; exact rfl; exact rfl; exact (by (try simp only []); omega)) | (apply OQ.subN; exact rfl; exact rfl; exact (by (try simp only []); omega); exact (by (try simp only []); omega)) | (apply OQ.lssN; exact rfl; exact rfl) | (apply OQ.gtrN; exact rfl; exact rfl) | (apply OQ.fld; exact rfl; exact rfl; exact rfl; exact (by decide); exact rfl)) rfl ?_ | refine JC.seq ?_ | refine JC.region ?_ | refine JC.block ?_ | refine JC.skip ?_ | refine JC.exit ?_ | refine JL.nil ?_ | refine JE.next ?_ | refine JE.blk_normal ?_ | refine JE.then_exit ?_ | refine JE.blk_hit ?_ | refine JE.blk_miss rfl ?_ | refine JE.then_ret ?_ | refine JE.blk_ret ?_ | refine JC.label ?_ | refine JL.gon rfl rfl ?_ | refine JL.gskip rfl rfl rfl rfl ?_ | refine JL.gskipU rfl rfl rfl rfl ?_)
        refine JC.cond_true rfl rfl ?_
        repeat (first | refine JL.q (by first | (apply OQ.load_agg (cs := hfc h2); exact hfAg; exact hf6; exact rfl; exact .here; exact rfl; exact Row.all) | (apply OQ.move; exact rfl) | (apply OQ.assign; exact rfl) | (apply OQ.nilc; exact rfl) | (apply OQ.len; exact rfl; exact rfl) | (apply OQ.addN; exact rfl; exact rfl; exact (by (try simp only []); omega)) | (apply OQ.subN; exact rfl; exact rfl; exact (by (try simp only []); omega); exact (by (try simp only []); omega)) | (apply OQ.lssN; exact rfl; exact rfl) | (apply OQ.gtrN; exact rfl; exact rfl) | (apply OQ.fld; exact rfl; exact rfl; exact rfl; exact (by decide); exact rfl)) rfl ?_ | refine JC.seq ?_ | refine JC.region ?_ | refine JC.block ?_ | refine JC.skip ?_ | refine JC.exit ?_ | refine JL.nil ?_ | refine JE.next ?_ | refine JE.blk_normal ?_ | refine JE.then_exit ?_ | refine JE.blk_hit ?_ | refine JE.blk_miss rfl ?_ | refine JE.then_ret ?_ | refine JE.blk_ret ?_ | refine JC.label ?_ | refine JL.gon rfl rfl ?_ | refine JL.gskip rfl rfl rfl rfl ?_ | refine JL.gskipU rfl rfl rfl rfl ?_)
        refine JL.store_all (cs := hfc h2) hf6 rfl rfl rfl rfl (.there (.there .here)) rfl ?_
        repeat (first | refine JL.q (by first | (apply OQ.move; exact rfl) | (apply OQ.assign; exact rfl) | (apply OQ.nilc; exact rfl) | (apply OQ.len; exact rfl; exact rfl) | (apply OQ.addN; exact rfl; exact rfl; exact (by (try simp only []); omega)) | (apply OQ.subN; exact rfl; exact rfl; exact (by (try simp only []); omega); exact (by (try simp only []); omega)) | (apply OQ.lssN; exact rfl; exact rfl) | (apply OQ.gtrN; exact rfl; exact rfl) | (apply OQ.fld; exact rfl; exact rfl; exact rfl; exact (by decide); exact rfl)) rfl ?_ | refine JC.seq ?_ | refine JC.region ?_ | refine JC.block ?_ | refine JC.skip ?_ | refine JC.exit ?_ | refine JL.nil ?_ | refine JE.next ?_ | refine JE.blk_normal ?_ | refine JE.then_exit ?_ | refine JE.blk_hit ?_ | refine JE.blk_miss rfl ?_ | refine JE.then_ret ?_ | refine JE.blk_ret ?_ | refine JC.label ?_ | refine JL.gon rfl rfl ?_ | refine JL.gskip rfl rfl rfl rfl ?_ | refine JL.gskipU rfl rfl rfl rfl ?_)
        refine JC.ret ?_
        repeat (first | refine JL.q (by first | (apply OQ.move; exact rfl) | (apply OQ.assign; exact rfl) | (apply OQ.nilc; exact rfl) | (apply OQ.len; exact rfl; exact rfl) | (apply OQ.addN; exact rfl; exact rfl; exact (by (try simp only []); omega)) | (apply OQ.subN; exact rfl; exact rfl; exact (by (try simp only []); omega); exact (by (try simp only []); omega)) | (apply OQ.lssN; exact rfl; exact rfl) | (apply OQ.gtrN; exact rfl; exact rfl) | (apply OQ.fld; exact rfl; exact rfl; exact rfl; exact (by decide); exact rfl)) rfl ?_ | refine JC.seq ?_ | refine JC.region ?_ | refine JC.block ?_ | refine JC.skip ?_ | refine JC.exit ?_ | refine JL.nil ?_ | refine JE.next ?_ | refine JE.blk_normal ?_ | refine JE.then_exit ?_ | refine JE.blk_hit ?_ | refine JE.blk_miss rfl ?_ | refine JE.then_ret ?_ | refine JE.blk_ret ?_ | refine JC.label ?_ | refine JL.gon rfl rfl ?_ | refine JL.gskip rfl rfl rfl rfl ?_ | refine JL.gskipU rfl rfl rfl rfl ?_)
        exact JE.ret2 rfl (RV.cell_agg hfAg hf6 rfl (.there (.there .here)) rfl Row.all) (RV.tmp rfl) fun w' hw => ⟨z2, by rw [← hh2]; rfl, hw.weak (.drop _ _ _ (.drop _ _ _ (.drop _ _ _ (less_app z1.1.E (less_pre z2.1.E _)))))⟩
      case false =>
        have hc3 := of_decide_eq_false c3
        rw [if_neg hc3]
        repeat (first | refine JL.q (by first | (apply OQ.load; exact u32C; exact rfl; exact .here; exact (Row.cell (v := U32 h2.g) rfl)) | (apply OQ.gtrB (b := 0); exact rfl; exact rfl; exact c3) | (apply OQ.move; exact rfl) | (apply OQ.assign; exact rfl) | (apply OQ.nilc; exact rfl) | (apply OQ.len; exact rfl; exact rfl) | (apply OQ.addN; exact rfl; exact rfl; exact (by (try simp only []); omega)) | (apply OQ.subN; exact rfl; exact rfl; exact (by (try simp only []); omega); exact (by (try simp only []); omega)) | (apply OQ.lssN; exact rfl; exact rfl) | (apply OQ.gtrN; exact rfl; exact rfl) | (apply OQ.fld; exact rfl; exact rfl; exact rfl; exact (by decide); exact rfl)) rfl ?_ | refine JC.seq ?_ | refine JC.region ?_ | refine JC.block ?_ | refine JC.skip ?_ | refine JC.exit ?_ | refine JL.nil ?_ | refine JE.next ?_ | refine JE.blk_normal ?_ | refine JE.then_exit ?_ | refine JE.blk_hit ?_ | refine JE.blk_miss rfl ?_ | refine JE.then_ret ?_ | refine JE.blk_ret ?_ | refine JC.label ?_ | refine JL.gon rfl rfl ?_ | refine JL.gskip rfl rfl rfl rfl ?_ | refine JL.gskipU rfl rfl rfl rfl ?_)
        refine JC.cond_false rfl rfl ?_
        repeat (first | refine JL.q (by first | (apply OQ.load_agg (cs := hfc h2); exact hfAg; exact hf6; exact rfl; exact .here; exact rfl; exact Row.all) | (apply OQ.move; exact rfl) | (apply OQ.assign; exact rfl) | (apply OQ.nilc; exact rfl) | (apply OQ.len; exact rfl; exact rfl) | (apply OQ.addN; exact rfl; exact rfl; exact (by (try simp only []); omega)) | (apply OQ.subN; exact rfl; exact rfl; exact (by (try simp only []); omega); exact (by (try simp only []); omega)) | (apply OQ.lssN; exact rfl; exact rfl) | (apply OQ.gtrN; exact rfl; exact rfl) | (apply OQ.fld; exact rfl; exact rfl; exact rfl; exact (by decide); exact rfl)) rfl ?_ | refine JC.seq ?_ | refine JC.region ?_ | refine JC.block ?_ | refine JC.skip ?_ | refine JC.exit ?_ | refine JL.nil ?_ | refine JE.next ?_ | refine JE.blk_normal ?_ | refine JE.then_exit ?_ | refine JE.blk_hit ?_ | refine JE.blk_miss rfl ?_ | refine JE.then_ret ?_ | refine JE.blk_ret ?_ | refine JC.label ?_ | refine JL.gon rfl rfl ?_ | refine JL.gskip rfl rfl rfl rfl ?_ | refine JL.gskipU rfl rfl rfl rfl ?_)
        refine JL.lit1 (v := .slice none 0 0) Try.underlying57 slEj rfl rfl rfl rfl fun bl2 _ => ?_
        refine JL.store_all (cs := hfc h2) hf6 rfl rfl rfl rfl (.there (.there (.there .here))) rfl ?_
        repeat (first | refine JL.q (by first | (apply OQ.move; exact rfl) | (apply OQ.assign; exact rfl) | (apply OQ.nilc; exact rfl) | (apply OQ.len; exact rfl; exact rfl) | (apply OQ.addN; exact rfl; exact rfl; exact (by (try simp only []); omega)) | (apply OQ.subN; exact rfl; exact rfl; exact (by (try simp only []); omega); exact (by (try simp only []); omega)) | (apply OQ.lssN; exact rfl; exact rfl) | (apply OQ.gtrN; exact rfl; exact rfl) | (apply OQ.fld; exact rfl; exact rfl; exact rfl; exact (by decide); exact rfl)) rfl ?_ | refine JC.seq ?_ | refine JC.region ?_ | refine JC.block ?_ | refine JC.skip ?_ | refine JC.exit ?_ | refine JL.nil ?_ | refine JE.next ?_ | refine JE.blk_normal ?_ | refine JE.then_exit ?_ | refine JE.blk_hit ?_ | refine JE.blk_miss rfl ?_ | refine JE.then_ret ?_ | refine JE.blk_ret ?_ | refine JC.label ?_ | refine JL.gon rfl rfl ?_ | refine JL.gskip rfl rfl rfl rfl ?_ | refine JL.gskipU rfl rfl rfl rfl ?_)
        refine JC.ret ?_
        repeat (first | refine JL.q (by first | (apply OQ.move; exact rfl) | (apply OQ.assign; exact rfl) | (apply OQ.nilc; exact rfl) | (apply OQ.len; exact rfl; exact rfl) | (apply OQ.addN; exact rfl; exact rfl; exact (by (try simp only []); omega)) | (apply OQ.subN; exact rfl; exact rfl; exact (by (try simp only []); omega); exact (by (try simp only []); omega)) | (apply OQ.lssN; exact rfl; exact rfl) | (apply OQ.gtrN; exact rfl; exact rfl) | (apply OQ.fld; exact rfl; exact rfl; exact rfl; exact (by decide); exact rfl)) rfl ?_ | refine JC.seq ?_ | refine JC.region ?_ | refine JC.block ?_ | refine JC.skip ?_ | refine JC.exit ?_ | refine JL.nil ?_ | refine JE.next ?_ | refine JE.blk_normal ?_ | refine JE.then_exit ?_ | refine JE.blk_hit ?_ | refine JE.blk_miss rfl ?_ | refine JE.then_ret ?_ | refine JE.blk_ret ?_ | refine JC.label ?_ | refine JL.gon rfl rfl ?_ | refine JL.gskip rfl rfl rfl rfl ?_ | refine JL.gskipU rfl rfl rfl rfl ?_)
        exact JE.ret2 rfl (RV.cell_agg hfAg hf6 rfl (.there (.there (.there .here))) rfl Row.all) (RV.tmp rfl) fun w' hw => ⟨⟨gr0 bl2, rfl, by show 1 ≤ _; omega⟩, by rw [← hh2]; rfl, hw.weak (.keep _ _ _ _ _ _ (row_ownG rfl) (.nil _))⟩
theorem goes_other : Goes Try.prog 47 := ⟨_, Try.func47, rfl, by kernel_rfl⟩
set_option maxHeartbeats 4000000 in
theorem other_any (h : Hf) (hf : h.first ≤ h.size) (hb : h.size < 4611686018427387904) (w : World) : Calls Try.prog 47 [.agg (hfc h).toArray].toArray w fun e w' => e = .returned (.agg (hfc ⟨h.x, h.size - h.first, h.size, 0, 0, 0⟩).toArray) ∧ Ext w w' := by
  refine enter (n := 13) Try.func47 rfl rfl rfl (Holds.start w []) ?_
  repeat (first | refine JL.q (by first | (apply OQ.move; exact rfl) | (apply OQ.assign; exact rfl) | (apply OQ.nilc; exact rfl) | (apply OQ.len; exact rfl; exact rfl) | (apply OQ.addN; exact rfl; exact rfl; exact (by (try simp only []); omega)) | (apply OQ.subN; exact rfl; exact rfl; exact (by (try simp only []); omega); exact (by (try simp only []); omega)) | (apply OQ.lssN; exact rfl; exact rfl) | (apply OQ.gtrN; exact rfl; exact rfl) | (apply OQ.fld; exact rfl; exact rfl; exact rfl; exact (by decide); exact rfl)) rfl ?_ | refine JC.seq ?_ | refine JC.region ?_ | refine JC.block ?_ | refine JC.skip ?_ | refine JC.exit ?_ | refine JL.nil ?_ | refine JE.next ?_ | refine JE.blk_normal ?_ | refine JE.then_exit ?_ | refine JE.blk_hit ?_ | refine JE.blk_miss rfl ?_ | refine JE.then_ret ?_ | refine JE.blk_ret ?_ | refine JC.label ?_ | refine JL.gon rfl rfl ?_ | refine JL.gskip rfl rfl rfl rfl ?_ | refine JL.gskipU rfl rfl rfl rfl ?_)
  refine JL.box (r := hfc h) rfl rfl rfl fun b1 _ => ?_
  refine JL.alloc (r := hfc0) hfZ rfl fun b2 _ => ?_
  repeat (first | refine JL.q (by first | (apply OQ.load; exact jbC; exact rfl; exact (.there .here); exact (Row.cell (v := ifD h.x) rfl)) | (apply OQ.load; exact intC; exact rfl; exact (.there .here); exact (Row.cell (v := N h.first) rfl)) | (apply OQ.load; exact intC; exact rfl; exact (.there .here); exact (Row.cell (v := N h.size) rfl)) | (apply OQ.subN (a := h.size); exact rfl; exact rfl; exact hf; exact (by omega)) | (apply OQ.buildH3 (h := ⟨h.x, h.size - h.first, h.size, 0, 0, 0⟩); exact rfl; exact rfl; exact rfl) | (apply OQ.move; exact rfl) | (apply OQ.assign; exact rfl) | (apply OQ.nilc; exact rfl) | (apply OQ.len; exact rfl; exact rfl) | (apply OQ.addN; exact rfl; exact rfl; exact (by (try simp only []); omega)) | (apply OQ.subN; exact rfl; exact rfl; exact (by (try simp only []); omega); exact (by (try simp only []); omega)) | (apply OQ.lssN; exact rfl; exact rfl) | (apply OQ.gtrN; exact rfl; exact rfl) | (apply OQ.fld; exact rfl; exact rfl; exact rfl; exact (by decide); exact rfl)) rfl ?_ | refine JC.seq ?_ | refine JC.region ?_ | refine JC.block ?_ | refine JC.skip ?_ | refine JC.exit ?_ | refine JL.nil ?_ | refine JE.next ?_ | refine JE.blk_normal ?_ | refine JE.then_exit ?_ | refine JE.blk_hit ?_ | refine JE.blk_miss rfl ?_ | refine JE.then_ret ?_ | refine JE.blk_ret ?_ | refine JC.label ?_ | refine JL.gon rfl rfl ?_ | refine JL.gskip rfl rfl rfl rfl ?_ | refine JL.gskipU rfl rfl rfl rfl ?_)
  refine JL.store_all (cs := hfc ⟨h.x, h.size - h.first, h.size, 0, 0, 0⟩) hf6 rfl rfl rfl rfl .here rfl ?_
  repeat (first | refine JL.q (by first | (apply OQ.move; exact rfl) | (apply OQ.assign; exact rfl) | (apply OQ.nilc; exact rfl) | (apply OQ.len; exact rfl; exact rfl) | (apply OQ.addN; exact rfl; exact rfl; exact (by (try simp only []); omega)) | (apply OQ.subN; exact rfl; exact rfl; exact (by (try simp only []); omega); exact (by (try simp only []); omega)) | (apply OQ.lssN; exact rfl; exact rfl) | (apply OQ.gtrN; exact rfl; exact rfl) | (apply OQ.fld; exact rfl; exact rfl; exact rfl; exact (by decide); exact rfl)) rfl ?_ | refine JC.seq ?_ | refine JC.region ?_ | refine JC.block ?_ | refine JC.skip ?_ | refine JC.exit ?_ | refine JL.nil ?_ | refine JE.next ?_ | refine JE.blk_normal ?_ | refine JE.then_exit ?_ | refine JE.blk_hit ?_ | refine JE.blk_miss rfl ?_ | refine JE.then_ret ?_ | refine JE.blk_ret ?_ | refine JC.label ?_ | refine JL.gon rfl rfl ?_ | refine JL.gskip rfl rfl rfl rfl ?_ | refine JL.gskipU rfl rfl rfl rfl ?_)
  exact JC.ret (JE.ret1 rfl (RV.cell_agg hfAg hf6 rfl .here rfl Row.all) fun w' hw => ⟨rfl, hw.chg⟩)
theorem goes_recs : Goes Try.prog 26 := ⟨_, Try.func26, rfl, by kernel_rfl⟩
/-- a journal and its disk, that are only read -/
def jnR (j : Nat) (h : Hf) (bl : List Bk) (pd : List (Nat × Bk)) : List Ent := ⟨j, Row 88 (hfc h), false⟩ :: dkR h.x bl pd
set_option maxHeartbeats 4000000 in
theorem recs_any (j : Nat) (h : Hf) (bl : List Bk) (pd : List (Nat × Bk)) (ok : Ok bl pd) (hn : bl.length ≤ 65536) (hs : h.first + h.size ≤ bl.length) (w : World) (h0 : Holds w [] (jnR j h bl pd) w) :
    Calls Try.prog 26 [Pt j 0].toArray w fun e w' => ∃ z : GrOf (toldH bl h.first h.size h.g) h.size, e = .returned z.1.v ∧ Holds w [] z.1.E w' := by
  refine enter (n := 8) Try.func26 rfl rfl rfl h0 ?_
  repeat (first | refine JL.q (by first | (apply OQ.load_agg (cs := hfc h); exact hfAg; exact hf6; exact rfl; exact .here; exact rfl; exact Row.all) | (apply OQ.move; exact rfl) | (apply OQ.assign; exact rfl) | (apply OQ.nilc; exact rfl) | (apply OQ.len; exact rfl; exact rfl) | (apply OQ.addN; exact rfl; exact rfl; exact (by (try simp only []); omega)) | (apply OQ.subN; exact rfl; exact rfl; exact (by (try simp only []); omega); exact (by (try simp only []); omega)) | (apply OQ.lssN; exact rfl; exact rfl) | (apply OQ.gtrN; exact rfl; exact rfl) | (apply OQ.fld; exact rfl; exact rfl; exact rfl; exact (by decide); exact rfl)) rfl ?_ | refine JC.seq ?_ | refine JC.region ?_ | refine JC.block ?_ | refine JC.skip ?_ | refine JC.exit ?_ | refine JL.nil ?_ | refine JE.next ?_ | refine JE.blk_normal ?_ | refine JE.then_exit ?_ | refine JE.blk_hit ?_ | refine JE.blk_miss rfl ?_ | refine JE.then_ret ?_ | refine JE.blk_ret ?_ | refine JC.label ?_ | refine JL.gon rfl rfl ?_ | refine JL.gskip rfl rfl rfl rfl ?_ | refine JL.gskipU rfl rfl rfl rfl ?_)
  refine JL.callg (ι := GrOf (toldH bl h.first h.size h.g) h.size) (vs := [.agg (hfc h).toArray]) (fun z => z.1.v) (fun z => z.1.E) goes_told rfl rfl (fun z => z.1.wr) (fun w' hw' => told_any h bl pd ok hn hs w' (dkR_front (A := [_]) (M := []) (by rw [List.append_nil]; exact hw'))) fun z => ?_
  repeat (first | refine JL.q (by first | (apply OQ.move; exact rfl) | (apply OQ.assign; exact rfl) | (apply OQ.nilc; exact rfl) | (apply OQ.len; exact rfl; exact rfl) | (apply OQ.addN; exact rfl; exact rfl; exact (by (try simp only []); omega)) | (apply OQ.subN; exact rfl; exact rfl; exact (by (try simp only []); omega); exact (by (try simp only []); omega)) | (apply OQ.lssN; exact rfl; exact rfl) | (apply OQ.gtrN; exact rfl; exact rfl) | (apply OQ.fld; exact rfl; exact rfl; exact rfl; exact (by decide); exact rfl)) rfl ?_ | refine JC.seq ?_ | refine JC.region ?_ | refine JC.block ?_ | refine JC.skip ?_ | refine JC.exit ?_ | refine JL.nil ?_ | refine JE.next ?_ | refine JE.blk_normal ?_ | refine JE.then_exit ?_ | refine JE.blk_hit ?_ | refine JE.blk_miss rfl ?_ | refine JE.then_ret ?_ | refine JE.blk_ret ?_ | refine JC.label ?_ | refine JL.gon rfl rfl ?_ | refine JL.gskip rfl rfl rfl rfl ?_ | refine JL.gskipU rfl rfl rfl rfl ?_)
  exact JC.ret (JE.ret1 rfl (RV.tmp rfl) fun w' hw => ⟨z, rfl, hw.weak (less_pre _ _)⟩)
theorem goes_fits : Goes Try.prog 34 := ⟨_, Try.func34, rfl, by kernel_rfl⟩
set_option maxHeartbeats 4000000 in
theorem fits_any (j : Nat) (h : Hf) (n : Int) (hu : h.used ≤ h.size) (hb : h.size < 4611686018427387904) (hn : n < 4611686018427387904) (w : World) (h0 : Holds w [] [⟨j, Row 88 (hfc h), false⟩] w) :
    Calls Try.prog 34 [Pt j 0, .int .i64 n].toArray w fun e w' => e = .returned (.bool (decide (0 ≤ n ∧ nb n.toNat ≤ h.size - h.used))) ∧ Ext w w' := by
  refine enter (n := 23) Try.func34 rfl rfl rfl h0 ?_
  repeat (first | refine JL.q (by first | (apply OQ.move; exact rfl) | (apply OQ.assign; exact rfl) | (apply OQ.nilc; exact rfl) | (apply OQ.len; exact rfl; exact rfl) | (apply OQ.addN; exact rfl; exact rfl; exact (by (try simp only []); omega)) | (apply OQ.subN; exact rfl; exact rfl; exact (by (try simp only []); omega); exact (by (try simp only []); omega)) | (apply OQ.lssN; exact rfl; exact rfl) | (apply OQ.gtrN; exact rfl; exact rfl) | (apply OQ.fld; exact rfl; exact rfl; exact rfl; exact (by decide); exact rfl)) rfl ?_ | refine JC.seq ?_ | refine JC.region ?_ | refine JC.block ?_ | refine JC.skip ?_ | refine JC.exit ?_ | refine JL.nil ?_ | refine JE.next ?_ | refine JE.blk_normal ?_ | refine JE.then_exit ?_ | refine JE.blk_hit ?_ | refine JE.blk_miss rfl ?_ | refine JE.then_ret ?_ | refine JE.blk_ret ?_ | refine JC.label ?_ | refine JL.gon rfl rfl ?_ | refine JL.gskip rfl rfl rfl rfl ?_ | refine JL.gskipU rfl rfl rfl rfl ?_)
  refine JC.tail 18 mixT (by kernel_rfl) ?_
  simp only [List.take_succ_cons, List.take_zero, List.drop_succ_cons, List.drop_zero]
  cases h1 : decide ((0 : Int) ≤ n)
  · repeat (first | refine JL.q (by first | (apply OQ.geqB (b := 0); exact rfl; exact rfl; exact h1) | (apply OQ.pick_f; exact rfl; exact rfl) | (apply OQ.move; exact rfl) | (apply OQ.assign; exact rfl) | (apply OQ.nilc; exact rfl) | (apply OQ.len; exact rfl; exact rfl) | (apply OQ.addN; exact rfl; exact rfl; exact (by (try simp only []); omega)) | (apply OQ.subN; exact rfl; exact rfl; exact (by (try simp only []); omega); exact (by (try simp only []); omega)) | (apply OQ.lssN; exact rfl; exact rfl) | (apply OQ.gtrN; exact rfl; exact rfl) | (apply OQ.fld; exact rfl; exact rfl; exact rfl; exact (by decide); exact rfl)) rfl ?_ | refine JQ.q (by first | (apply OQ.geqB (b := 0); exact rfl; exact rfl; exact h1) | (apply OQ.pick_f; exact rfl; exact rfl) | (apply OQ.move; exact rfl) | (apply OQ.assign; exact rfl) | (apply OQ.nilc; exact rfl) | (apply OQ.len; exact rfl; exact rfl) | (apply OQ.addN; exact rfl; exact rfl; exact (by (try simp only []); omega)) | (apply OQ.subN; exact rfl; exact rfl; exact (by (try simp only []); omega); exact (by (try simp only []); omega)) | (apply OQ.lssN; exact rfl; exact rfl) | (apply OQ.gtrN; exact rfl; exact rfl) | (apply OQ.fld; exact rfl; exact rfl; exact rfl; exact (by decide); exact rfl)) rfl ?_ | refine JC.seq ?_ | refine JC.region ?_ | refine JC.block ?_ | refine JC.skip ?_ | refine JC.exit ?_ | refine JL.nil ?_ | refine JQ.nil ?_ | refine JQ.nil_tail ?_ | refine JE.next ?_ | refine JE.blk_normal ?_ | refine JE.then_exit ?_ | refine JE.blk_hit ?_ | refine JE.blk_miss rfl ?_ | refine JE.then_ret ?_ | refine JE.blk_ret ?_ | refine JC.label ?_ | refine JL.gon rfl rfl ?_ | refine JQ.gon rfl rfl ?_ | refine JL.gskip rfl rfl rfl rfl ?_ | refine JQ.gskip rfl rfl rfl rfl ?_ | refine JL.gskipU rfl rfl rfl rfl ?_ | refine JQ.gskipU rfl rfl rfl rfl ?_)
    refine JC.ret (JE.ret1 rfl (RV.tmp rfl) fun w' hw => ⟨?_, hw.chg⟩)
    rw [decide_eq_false fun hh => of_decide_eq_false h1 hh.1]
  · obtain ⟨m, rfl⟩ := Int.eq_ofNat_of_zero_le (of_decide_eq_true h1)
    have hm : m < 4611686018427387904 := by omega
    have e2 : decide ((0 : Int) ≤ (m : Int) ∧ nb (m : Int).toNat ≤ h.size - h.used) = decide (nb m ≤ h.size - h.used) := decide_eq_decide.2 (by simp)
    rw [e2]
    repeat (first | refine JL.q (by first | (apply OQ.geqB (b := 0); exact rfl; exact rfl; exact h1) | (apply OQ.callx (vs := [N m]); exact goes_bfor; exact rfl; exact (fun w' _ => bfor_any m hm w')) | (apply OQ.load; exact intC; exact rfl; exact .here; exact (Row.cell (v := N h.size) rfl)) | (apply OQ.load; exact intC; exact rfl; exact .here; exact (Row.cell (v := N h.used) rfl)) | (apply OQ.subN (a := h.size); exact rfl; exact rfl; exact hu; exact (by omega)) | (apply OQ.leqN; exact rfl; exact rfl) | (apply OQ.pick_t; exact rfl; exact rfl) | (apply OQ.move; exact rfl) | (apply OQ.assign; exact rfl) | (apply OQ.nilc; exact rfl) | (apply OQ.len; exact rfl; exact rfl) | (apply OQ.addN; exact rfl; exact rfl; exact (by (try simp only []); omega)) | (apply OQ.subN; exact rfl; exact rfl; exact (by (try simp only []); omega); exact (by (try simp only []); omega)) | (apply OQ.lssN; exact rfl; exact rfl) | (apply OQ.gtrN; exact rfl; exact rfl) | (apply OQ.fld; exact rfl; exact rfl; exact rfl; exact (by decide); exact rfl)) rfl ?_ | refine JQ.q (by first | (apply OQ.geqB (b := 0); exact rfl; exact rfl; exact h1) | (apply OQ.callx (vs := [N m]); exact goes_bfor; exact rfl; exact (fun w' _ => bfor_any m hm w')) | (apply OQ.load; exact intC; exact rfl; exact .here; exact (Row.cell (v := N h.size) rfl)) | (apply OQ.load; exact intC; exact rfl; exact .here; exact (Row.cell (v := N h.used) rfl)) | (apply OQ.subN (a := h.size); exact rfl; exact rfl; exact hu; exact (by omega)) | (apply OQ.leqN; exact rfl; exact rfl) | (apply OQ.pick_t; exact rfl; exact rfl) | (apply OQ.move; exact rfl) | (apply OQ.assign; exact rfl) | (apply OQ.nilc; exact rfl) | (apply OQ.len; exact rfl; exact rfl) | (apply OQ.addN; exact rfl; exact rfl; exact (by (try simp only []); omega)) | (apply OQ.subN; exact rfl; exact rfl; exact (by (try simp only []); omega); exact (by (try simp only []); omega)) | (apply OQ.lssN; exact rfl; exact rfl) | (apply OQ.gtrN; exact rfl; exact rfl) | (apply OQ.fld; exact rfl; exact rfl; exact rfl; exact (by decide); exact rfl)) rfl ?_ | refine JC.seq ?_ | refine JC.region ?_ | refine JC.block ?_ | refine JC.skip ?_ | refine JC.exit ?_ | refine JL.nil ?_ | refine JQ.nil ?_ | refine JQ.nil_tail ?_ | refine JE.next ?_ | refine JE.blk_normal ?_ | refine JE.then_exit ?_ | refine JE.blk_hit ?_ | refine JE.blk_miss rfl ?_ | refine JE.then_ret ?_ | refine JE.blk_ret ?_ | refine JC.label ?_ | refine JL.gon rfl rfl ?_ | refine JQ.gon rfl rfl ?_ | refine JL.gskip rfl rfl rfl rfl ?_ | refine JQ.gskip rfl rfl rfl rfl ?_ | refine JL.gskipU rfl rfl rfl rfl ?_ | refine JQ.gskipU rfl rfl rfl rfl ?_)
    exact JC.ret (JE.ret1 rfl (RV.tmp rfl) fun w' hw => ⟨rfl, hw.chg⟩)
end Go.Proofs.Ytopdkpeahhnihaa

/-
  Of no statement by itself: the landed journal's write: a record's blocks are written.
  Conditions: each theorem's own.
-/
namespace Go.Proofs.Ytopdkpeahhnihaa
set_option maxRecDepth 10000
open Sl Dsk Jrn
theorem Sl8.ok.away {w0 w : World} {S : List Nat} {M : List Ent} {s : Sl8} (h : s.ok w0) (hw : Holds w0 S M w) (ha : Away s S) : s.ok w :=
  ⟨h.len, hw.reads h.reads fun h0 a e => ha (fun h1 => h0 (by rw [h1]; rfl)) a e⟩
/-- blocks put over others -/
def putAt (bl : List Bk) (k : Nat) (l : List Bk) : List Bk := bl.take k ++ l ++ bl.drop (k + l.length)
theorem putAt_nil (bl : List Bk) (k : Nat) : putAt bl k [] = bl := by simp [putAt]
theorem putAt_len {bl : List Bk} {k : Nat} {l : List Bk} (h : k + l.length ≤ bl.length) : (putAt bl k l).length = bl.length := by
  simp only [putAt, List.length_append, List.length_take, List.length_drop]
  omega
theorem putAt_snoc {bl : List Bk} {k : Nat} {l : List Bk} {b : Bk} (h : k + l.length < bl.length) : (putAt bl k l).set (k + l.length) b = putAt bl k (l ++ [b]) := by
  have h1 : (bl.take k ++ l).length = k + l.length := by rw [List.length_append, List.length_take]; omega
  unfold putAt
  rw [List.set_append_right _ _ (by rw [h1]; exact Nat.le_refl _), h1, Nat.sub_self, List.drop_eq_getElem_cons h, List.set_cons_zero, List.length_append, List.length_singleton]
  simp [List.append_assoc]
  congr 1
theorem isWrite (x : Dp) : IsMeth Try.prog 24 (Pt x.p 0) "Write" 13 := by unfold IsMeth; kernel_rfl
theorem isSync (x : Dp) : IsMeth Try.prog 24 (Pt x.p 0) "Sync" 15 := by unfold IsMeth; kernel_rfl
section
variable {n : Nat} {w0 : World} {S : List Nat} {ops : Array Oper} {Q : Exit → Act → World → Prop} {l : List Oper} {E : Env} {M : List Ent}
variable {d : Nat} {ty : TypeId} {pos : String} {aft : Array Edge} {x1 x2 x3 : Operand} {ats : Array TypeId} {x : Dp} {bl : List Bk} {pd : List (Nat × Bk)}
theorem JL.iwrite {k : Nat} {b : Bk} (h : DkOk x bl pd) (hn : k < bl.length) (hb : b.length = 64) (e1 : ev E x1 = some (ifD x)) (e2 : ev E x2 = some (N k)) (e3 : ev E x3 = some (.agg (bc b).toArray)) (hd : Nat.blt d n = true)
    (kk : ∀ y, JL Try.prog n w0 S ops Q l ((d, N 0) :: E) (dkE ⟨x.p, x.q, x.cap, some y⟩ (bl.set k b) (wrote bl pd k) ++ M)) : JL Try.prog n w0 S ops Q (⟨some d, .call ⟨.invoke x1 "Write", #[x2, x3], ats⟩, ty, pos, aft, none⟩ :: l) E (dkE x bl pd ++ M) :=
  JL.callE (ι := Nat × Nat) (vs := [Pt x.p 0, N k, .agg (bc b).toArray]) (fun _ => N 0) (fun y => dkE ⟨x.p, x.q, x.cap, some y⟩ (bl.set k b) (wrote bl pd k)) (fun a ha w => exec_callI (xs := [x2, x3]) (isWrite x) goes_dwrite ha e1 (by simp [evs, e2, e3]) w) hd (dkE_wr _ _ _) (fun _ => dkE_wr _ _ _)
    (fun w _ hw => dwrite_ok x bl pd k b hn hb h w hw) kk
theorem JL.isync (e1 : ev E x1 = some (ifD x)) (hd : Nat.blt d n = true)
    (kk : JL Try.prog n w0 S ops Q l ((d, .tuple #[]) :: E) (dkE ⟨x.p, x.q, x.cap, none⟩ bl [] ++ M)) : JL Try.prog n w0 S ops Q (⟨some d, .call ⟨.invoke x1 "Sync", #[], ats⟩, ty, pos, aft, none⟩ :: l) E (dkE x bl pd ++ M) :=
  JL.callE (ι := Unit) (vs := [Pt x.p 0]) (fun _ => .tuple #[]) (fun _ => dkE ⟨x.p, x.q, x.cap, none⟩ bl []) (fun a ha w => exec_callI (xs := []) (isSync x) goes_dsync ha e1 rfl w) hd (dkE_wr _ _ _) (fun _ => dkE_wr _ _ _)
    (fun w _ hw => (dsync_any x bl pd w hw).mono fun e w' ⟨g1, g2⟩ => ⟨(), g1, g2⟩) fun _ => kk
theorem OQ.nilcI {C : World → Prop} {dst : Option Tmp} {g : Option (Nat × Bool)} {t : TypeId} {v : Value} (hx : ev E x1 = some (.iface t v)) : OQ Try.prog n E C ⟨dst, .nilCheck x1, ty, pos, aft, g⟩ (.iface t v) :=
  OQ.run fun a ha w _ => by
    have h1 := ha.eval hx
    simp [execOp, h1]
end
/-- a disk behind writes: the same, where it stands too; not synced -/
structure Dw (x : Dp) (bl : List Bk) (m : Nat) where
  a : Acc
  pd : List (Nat × Bk)
  ok : DkOk ⟨x.p, x.q, x.cap, a⟩ bl pd
  n : pd.length ≤ m
def Dw.E {x : Dp} {bl : List Bk} {m : Nat} (z : Dw x bl m) : List Ent := dkE ⟨x.p, x.q, x.cap, z.a⟩ bl z.pd
theorem Dw.wr {x : Dp} {bl : List Bk} {m : Nat} (z : Dw x bl m) : ∀ e ∈ z.E, e.wr = true := dkE_wr _ _ _
theorem sub_chunk {l : Bk} {i : Nat} (h : i * 42 ≤ l.length) : (l.take (min ((i + 1) * 42) l.length)).drop (i * 42) = chunk l i := by
  unfold chunk
  rw [List.drop_take]
  by_cases hh : (i + 1) * 42 ≤ l.length
  · rw [Nat.min_eq_left hh]
    congr 1
    omega
  · rw [Nat.min_eq_right (by omega), List.take_of_length_le (by rw [List.length_drop]; exact Nat.le_refl _), List.take_of_length_le (by rw [List.length_drop]; omega)]
theorem nb_at {n i : Nat} (h : i < nb n) : i * 42 ≤ n := by unfold nb at h; omega
theorem blks_take {g : BitVec 32} {r : Nat} {rec : Bk} {i : Nat} (h : i < nb rec.length) : (blks g r rec).take (i + 1) = (blks g r rec).take i ++ [blk g r rec i] := by
  rw [List.take_add_one]
  congr 1
  simp [blks, h]
theorem goes_jwrite : Goes Try.prog 54 := ⟨_, Try.func54, rfl, by kernel_rfl⟩
set_option maxHeartbeats 32000000 in
theorem write_any (h : Hf) (bl : List Bk) (pd : List (Nat × Bk)) (at' num : Nat) (s : Sl8) (hd : DkOk h.x bl pd) (hs : h.first + h.size ≤ bl.length) (ha : at' + nb s.l.length ≤ h.size) (hm : pd.length + h.size ≤ 1000000) (w : World) (hok : s.ok w) (hap : Away s (keys (dkE h.x bl pd))) (h0 : Holds w (keys (dkE h.x bl pd)) (dkE h.x bl pd) w) :
    Calls Try.prog 54 [.agg (hfc h).toArray, N at', N num, s.v].toArray w fun e w' => ∃ z : Dw h.x (putAt bl (h.first + at') (blks h.g num s.l)) (pd.length + nb s.l.length), e = .returned (.tuple #[]) ∧ Holds w (keys (dkE h.x bl pd)) z.E w' := by
  have hcl := hok.len
  have hn1 := hd.n1
  have hnl : s.l.length ≤ nb s.l.length * 42 := nb_le _
  have hnp := nb_pos s.l.length
  generalize hS : keys (dkE h.x bl pd) = S at hap h0 ⊢
  refine enter (n := 55) Try.func54 rfl rfl rfl h0 ?_
  repeat (first | refine JL.q (by first | (apply OQ.move; exact rfl) | (apply OQ.assign; exact rfl) | (apply OQ.nilc; exact rfl) | (apply OQ.len; exact rfl; exact rfl) | (apply OQ.addN; exact rfl; exact rfl; exact (by (try simp only []); omega)) | (apply OQ.subN; exact rfl; exact rfl; exact (by (try simp only []); omega); exact (by (try simp only []); omega)) | (apply OQ.lssN; exact rfl; exact rfl) | (apply OQ.gtrN; exact rfl; exact rfl) | (apply OQ.fld; exact rfl; exact rfl; exact rfl; exact (by decide); exact rfl)) rfl ?_ | refine JC.seq ?_ | refine JC.region ?_ | refine JC.block ?_ | refine JC.skip ?_ | refine JC.exit ?_ | refine JL.nil ?_ | refine JE.next ?_ | refine JE.blk_normal ?_ | refine JE.then_exit ?_ | refine JE.blk_hit ?_ | refine JE.blk_miss rfl ?_ | refine JE.then_ret ?_ | refine JE.blk_ret ?_ | refine JC.label ?_ | refine JL.gon rfl rfl ?_ | refine JL.gskip rfl rfl rfl rfl ?_ | refine JL.gskipU rfl rfl rfl rfl ?_)
  refine JL.box (r := hfc h) rfl rfl rfl fun b4 _ => ?_
  repeat (first | refine JL.q (by first | (apply OQ.len (k := s.l.length) (ad := s.ad) (cap := s.cap); exact Try.underlying33; exact rfl) | (apply OQ.callx (vs := [N s.l.length]); exact goes_bfor; exact rfl; exact (fun w' _ => bfor_any s.l.length (by omega) w')) | (apply OQ.move; exact rfl) | (apply OQ.assign; exact rfl) | (apply OQ.nilc; exact rfl) | (apply OQ.len; exact rfl; exact rfl) | (apply OQ.addN; exact rfl; exact rfl; exact (by (try simp only []); omega)) | (apply OQ.subN; exact rfl; exact rfl; exact (by (try simp only []); omega); exact (by (try simp only []); omega)) | (apply OQ.lssN; exact rfl; exact rfl) | (apply OQ.gtrN; exact rfl; exact rfl) | (apply OQ.fld; exact rfl; exact rfl; exact rfl; exact (by decide); exact rfl)) rfl ?_ | refine JC.seq ?_ | refine JC.region ?_ | refine JC.block ?_ | refine JC.skip ?_ | refine JC.exit ?_ | refine JL.nil ?_ | refine JE.next ?_ | refine JE.blk_normal ?_ | refine JE.then_exit ?_ | refine JE.blk_hit ?_ | refine JE.blk_miss rfl ?_ | refine JE.then_ret ?_ | refine JE.blk_ret ?_ | refine JC.label ?_ | refine JL.gon rfl rfl ?_ | refine JL.gskip rfl rfl rfl rfl ?_ | refine JL.gskipU rfl rfl rfl rfl ?_)
  refine JC.loop (fun z : Nat × Acc × List (Nat × Bk) => [(1, N at'), (2, N num), (3, s.v), (4, Pt b4 0), (8, N (nb s.l.length)), (15, N (nb s.l.length)), (16, N z.1)]) (fun z => ⟨b4, Row 86 (hfc h), true⟩ :: dkE ⟨h.x.p, h.x.q, h.x.cap, z.2.1⟩ (putAt bl (h.first + at') ((blks h.g num s.l).take z.1)) z.2.2) (fun z => nb s.l.length - z.1) (fun z => z.1 ≤ nb s.l.length ∧ DkOk ⟨h.x.p, h.x.q, h.x.cap, z.2.1⟩ (putAt bl (h.first + at') ((blks h.g num s.l).take z.1)) z.2.2 ∧ z.2.2.length ≤ pd.length + z.1) (0, h.x.a, pd) ⟨Nat.zero_le _, by rw [List.take_zero, putAt_nil]; exact hd, Nat.le_refl _⟩ (by repeat (first | exact SubE.nil | refine SubE.cons _ _ _ rfl ?_)) (by rw [List.take_zero, putAt_nil]; exact Less.refl _) ?_
  rintro ⟨i, qa, ps⟩ ⟨hi, hdi, hpi⟩
  dsimp only at hi hdi hpi ⊢
  repeat (first | refine JL.q (by first | (apply OQ.move; exact rfl) | (apply OQ.assign; exact rfl) | (apply OQ.nilc; exact rfl) | (apply OQ.len; exact rfl; exact rfl) | (apply OQ.addN; exact rfl; exact rfl; exact (by (try simp only []); omega)) | (apply OQ.subN; exact rfl; exact rfl; exact (by (try simp only []); omega); exact (by (try simp only []); omega)) | (apply OQ.lssN; exact rfl; exact rfl) | (apply OQ.gtrN; exact rfl; exact rfl) | (apply OQ.fld; exact rfl; exact rfl; exact rfl; exact (by decide); exact rfl)) rfl ?_ | refine JC.seq ?_ | refine JC.region ?_ | refine JC.block ?_ | refine JC.skip ?_ | refine JC.exit ?_ | refine JL.nil ?_ | refine JE.next ?_ | refine JE.blk_normal ?_ | refine JE.then_exit ?_ | refine JE.blk_hit ?_ | refine JE.blk_miss rfl ?_ | refine JE.then_ret ?_ | refine JE.blk_ret ?_ | refine JC.label ?_ | refine JL.gon rfl rfl ?_ | refine JL.gskip rfl rfl rfl rfl ?_ | refine JL.gskipU rfl rfl rfl rfl ?_)
  refine JC.cond rfl (fun hc => ?_) (fun hc => ?_)
  · have hi' : i < nb s.l.length := by have := of_decide_eq_true hc; omega
    clear hc
    have hlo := nb_at hi'
    have hch := sub_chunk hlo
    have htk := blks_take (g := h.g) (r := num) hi'
    have hkl : (blks h.g num s.l).length = nb s.l.length := blks_len _ _ _
    have hps := putAt_snoc (bl := bl) (k := h.first + at') (l := (blks h.g num s.l).take i) (b := blk h.g num s.l i) (by rw [List.length_take, hkl]; omega)
    rw [← htk, List.length_take, hkl, Nat.min_eq_left hi] at hps
    have hln : (putAt bl (h.first + at') ((blks h.g num s.l).take i)).length = bl.length := putAt_len (by rw [List.length_take, hkl]; omega)
    have hmk : mk1 h.g num (nb s.l.length) i = (h.g, BitVec.ofNat 32 num, BitVec.ofNat 16 i, decide (i = nb s.l.length - 1)) := by
      unfold mk1
      congr 3
      exact decide_eq_decide.2 (by omega)
    have hbk : blk h.g num s.l i = blockOf (mk1 h.g num (nb s.l.length) i) (chunk s.l i) := rfl
    have hcl2 : (chunk s.l i).length ≤ 42 := by rw [Jrn.chunk_len]; omega
    have hb64 : (blk h.g num s.l i).length = 64 := by rw [hbk]; exact block_len hcl2
    rw [hmk] at hbk
    generalize putAt bl (h.first + at') ((blks h.g num s.l).take i) = bi at hdi hps hln ⊢
    have cB := fun {M : List Ent} w' (hw' : Holds w S M w') => blockOf_any (h.g, BitVec.ofNat 32 num, BitVec.ofNat 16 i, decide (i = nb s.l.length - 1)) (s.sub (i * 42) (min ((i + 1) * 42) s.l.length)) w' ((hok.away hw' hap).sub (by omega) (by omega)) (by show ((s.l.take _).drop _).length ≤ 42; rw [hch]; exact hcl2)
    rw [show (s.sub (i * 42) (min ((i + 1) * 42) s.l.length)).l = chunk s.l i from hch, ← hbk] at cB
    repeat (first | refine JL.q (by first | (apply OQ.mulN (a := i) (b := 42); exact rfl; exact rfl; exact (by omega)) | (apply OQ.mulN (a := i + 1) (b := 42); exact rfl; exact rfl; exact (by omega)) | (apply OQ.len (k := s.l.length) (ad := s.ad) (cap := s.cap); exact Try.underlying33; exact rfl) | (apply OQ.minN; exact rfl; exact rfl) | (apply OQ.sub8 (s := s) (lo := i * 42) (hi := min ((i + 1) * 42) s.l.length); exact Try.underlying33; exact u8s; exact rfl; exact rfl; exact rfl; exact (by omega); exact (by omega); exact hcl) | (apply OQ.load; exact u32C; exact rfl; exact .here; exact (Row.cell (v := U32 h.g) rfl)) | (apply OQ.convN_32; exact Try.underlying3; exact Try.underlying84; exact rfl) | (apply OQ.convN_16; exact Try.underlying3; exact Try.underlying107; exact rfl) | (apply OQ.eqN; exact rfl; exact rfl) | (apply OQ.buildM (m := (h.g, BitVec.ofNat 32 num, BitVec.ofNat 16 i, decide (i = nb s.l.length - 1))); exact rfl; exact rfl; exact rfl; exact rfl) | (apply OQ.move; exact rfl) | (apply OQ.assign; exact rfl) | (apply OQ.nilc; exact rfl) | (apply OQ.len; exact rfl; exact rfl) | (apply OQ.addN; exact rfl; exact rfl; exact (by (try simp only []); omega)) | (apply OQ.subN; exact rfl; exact rfl; exact (by (try simp only []); omega); exact (by (try simp only []); omega)) | (apply OQ.lssN; exact rfl; exact rfl) | (apply OQ.gtrN; exact rfl; exact rfl) | (apply OQ.fld; exact rfl; exact rfl; exact rfl; exact (by decide); exact rfl)) rfl ?_ | refine JC.seq ?_ | refine JC.region ?_ | refine JC.block ?_ | refine JC.skip ?_ | refine JC.exit ?_ | refine JL.nil ?_ | refine JE.next ?_ | refine JE.blk_normal ?_ | refine JE.then_exit ?_ | refine JE.blk_hit ?_ | refine JE.blk_miss rfl ?_ | refine JE.then_ret ?_ | refine JE.blk_ret ?_ | refine JC.label ?_ | refine JL.gon rfl rfl ?_ | refine JL.gskip rfl rfl rfl rfl ?_ | refine JL.gskipU rfl rfl rfl rfl ?_)
    refine JL.alloc mkZ rfl fun b11 _ => ?_
    refine JL.store_all (cs := mkc (h.g, BitVec.ofNat 32 num, BitVec.ofNat 16 i, decide (i = nb s.l.length - 1))) mk4 rfl rfl rfl rfl .here rfl ?_
    repeat (first | refine JL.q (by first | (apply OQ.move; exact rfl) | (apply OQ.assign; exact rfl) | (apply OQ.nilc; exact rfl) | (apply OQ.len; exact rfl; exact rfl) | (apply OQ.addN; exact rfl; exact rfl; exact (by (try simp only []); omega)) | (apply OQ.subN; exact rfl; exact rfl; exact (by (try simp only []); omega); exact (by (try simp only []); omega)) | (apply OQ.lssN; exact rfl; exact rfl) | (apply OQ.gtrN; exact rfl; exact rfl) | (apply OQ.fld; exact rfl; exact rfl; exact rfl; exact (by decide); exact rfl)) rfl ?_ | refine JC.seq ?_ | refine JC.region ?_ | refine JC.block ?_ | refine JC.skip ?_ | refine JC.exit ?_ | refine JL.nil ?_ | refine JE.next ?_ | refine JE.blk_normal ?_ | refine JE.then_exit ?_ | refine JE.blk_hit ?_ | refine JE.blk_miss rfl ?_ | refine JE.then_ret ?_ | refine JE.blk_ret ?_ | refine JC.label ?_ | refine JL.gon rfl rfl ?_ | refine JL.gskip rfl rfl rfl rfl ?_ | refine JL.gskipU rfl rfl rfl rfl ?_)
    refine JC.tail 13 mixT (by kernel_rfl) ?_
    simp only [List.take_succ_cons, List.take_zero, List.drop_succ_cons, List.drop_zero]
    repeat (first | refine JL.q (by first | (apply OQ.load; exact jbC; exact rfl; exact (.there .here); exact (Row.cell (v := ifD h.x) rfl)) | (apply OQ.load; exact intC; exact rfl; exact (.there .here); exact (Row.cell (v := N h.first) rfl)) | (apply OQ.load_agg (cs := mkc (h.g, BitVec.ofNat 32 num, BitVec.ofNat 16 i, decide (i = nb s.l.length - 1))); exact mkAg; exact mk4; exact rfl; exact .here; exact rfl; exact Row.all) | (apply OQ.callx (vs := [.agg (mkc (h.g, BitVec.ofNat 32 num, BitVec.ofNat 16 i, decide (i = nb s.l.length - 1))).toArray, (s.sub (i * 42) (min ((i + 1) * 42) s.l.length)).v]); exact goes_blockOf; exact rfl; exact (fun w' hw' => cB w' hw')) | (apply OQ.nilcI; exact rfl) | (apply OQ.move; exact rfl) | (apply OQ.assign; exact rfl) | (apply OQ.nilc; exact rfl) | (apply OQ.len; exact rfl; exact rfl) | (apply OQ.addN; exact rfl; exact rfl; exact (by (try simp only []); omega)) | (apply OQ.subN; exact rfl; exact rfl; exact (by (try simp only []); omega); exact (by (try simp only []); omega)) | (apply OQ.lssN; exact rfl; exact rfl) | (apply OQ.gtrN; exact rfl; exact rfl) | (apply OQ.fld; exact rfl; exact rfl; exact rfl; exact (by decide); exact rfl)) rfl ?_ | refine JQ.q (by first | (apply OQ.load; exact jbC; exact rfl; exact (.there .here); exact (Row.cell (v := ifD h.x) rfl)) | (apply OQ.load; exact intC; exact rfl; exact (.there .here); exact (Row.cell (v := N h.first) rfl)) | (apply OQ.load_agg (cs := mkc (h.g, BitVec.ofNat 32 num, BitVec.ofNat 16 i, decide (i = nb s.l.length - 1))); exact mkAg; exact mk4; exact rfl; exact .here; exact rfl; exact Row.all) | (apply OQ.callx (vs := [.agg (mkc (h.g, BitVec.ofNat 32 num, BitVec.ofNat 16 i, decide (i = nb s.l.length - 1))).toArray, (s.sub (i * 42) (min ((i + 1) * 42) s.l.length)).v]); exact goes_blockOf; exact rfl; exact (fun w' hw' => cB w' hw')) | (apply OQ.nilcI; exact rfl) | (apply OQ.move; exact rfl) | (apply OQ.assign; exact rfl) | (apply OQ.nilc; exact rfl) | (apply OQ.len; exact rfl; exact rfl) | (apply OQ.addN; exact rfl; exact rfl; exact (by (try simp only []); omega)) | (apply OQ.subN; exact rfl; exact rfl; exact (by (try simp only []); omega); exact (by (try simp only []); omega)) | (apply OQ.lssN; exact rfl; exact rfl) | (apply OQ.gtrN; exact rfl; exact rfl) | (apply OQ.fld; exact rfl; exact rfl; exact rfl; exact (by decide); exact rfl)) rfl ?_ | refine JC.seq ?_ | refine JC.region ?_ | refine JC.block ?_ | refine JC.skip ?_ | refine JC.exit ?_ | refine JL.nil ?_ | refine JQ.nil ?_ | refine JQ.nil_tail ?_ | refine JE.next ?_ | refine JE.blk_normal ?_ | refine JE.then_exit ?_ | refine JE.blk_hit ?_ | refine JE.blk_miss rfl ?_ | refine JE.then_ret ?_ | refine JE.blk_ret ?_ | refine JC.label ?_ | refine JL.gon rfl rfl ?_ | refine JQ.gon rfl rfl ?_ | refine JL.gskip rfl rfl rfl rfl ?_ | refine JQ.gskip rfl rfl rfl rfl ?_ | refine JL.gskipU rfl rfl rfl rfl ?_ | refine JQ.gskipU rfl rfl rfl rfl ?_)
    refine JL.perm (M' := dkE ⟨h.x.p, h.x.q, h.x.cap, qa⟩ bi ps ++ [⟨b11, Row 109 (mkc (h.g, BitVec.ofNat 32 num, BitVec.ofNat 16 i, decide (i = nb s.l.length - 1))), true⟩, ⟨b4, Row 86 (hfc h), true⟩]) ?_ (by exact List.perm_append_comm (l₁ := [_, _]))
    refine JL.iwrite (k := h.first + at' + i) (b := blk h.g num s.l i) hdi (by omega) hb64 rfl rfl rfl rfl fun y => ?_
    rw [hps]
    repeat (first | refine JL.q (by first | (apply OQ.move; exact rfl) | (apply OQ.assign; exact rfl) | (apply OQ.nilc; exact rfl) | (apply OQ.len; exact rfl; exact rfl) | (apply OQ.addN; exact rfl; exact rfl; exact (by (try simp only []); omega)) | (apply OQ.subN; exact rfl; exact rfl; exact (by (try simp only []); omega); exact (by (try simp only []); omega)) | (apply OQ.lssN; exact rfl; exact rfl) | (apply OQ.gtrN; exact rfl; exact rfl) | (apply OQ.fld; exact rfl; exact rfl; exact rfl; exact (by decide); exact rfl)) rfl ?_ | refine JQ.q (by first | (apply OQ.move; exact rfl) | (apply OQ.assign; exact rfl) | (apply OQ.nilc; exact rfl) | (apply OQ.len; exact rfl; exact rfl) | (apply OQ.addN; exact rfl; exact rfl; exact (by (try simp only []); omega)) | (apply OQ.subN; exact rfl; exact rfl; exact (by (try simp only []); omega); exact (by (try simp only []); omega)) | (apply OQ.lssN; exact rfl; exact rfl) | (apply OQ.gtrN; exact rfl; exact rfl) | (apply OQ.fld; exact rfl; exact rfl; exact rfl; exact (by decide); exact rfl)) rfl ?_ | refine JC.seq ?_ | refine JC.region ?_ | refine JC.block ?_ | refine JC.skip ?_ | refine JC.exit ?_ | refine JL.nil ?_ | refine JQ.nil ?_ | refine JQ.nil_tail ?_ | refine JE.next ?_ | refine JE.blk_normal ?_ | refine JE.then_exit ?_ | refine JE.blk_hit ?_ | refine JE.blk_miss rfl ?_ | refine JE.then_ret ?_ | refine JE.blk_ret ?_ | refine JC.label ?_ | refine JL.gon rfl rfl ?_ | refine JQ.gon rfl rfl ?_ | refine JL.gskip rfl rfl rfl rfl ?_ | refine JQ.gskip rfl rfl rfl rfl ?_ | refine JL.gskipU rfl rfl rfl rfl ?_ | refine JQ.gskipU rfl rfl rfl rfl ?_)
    refine JE.perm (M' := ⟨b4, Row 86 (hfc h), true⟩ :: ⟨b11, Row 109 (mkc (h.g, BitVec.ofNat 32 num, BitVec.ofNat 16 i, decide (i = nb s.l.length - 1))), true⟩ :: dkE ⟨h.x.p, h.x.q, h.x.cap, some y⟩ (putAt bl (h.first + at') ((blks h.g num s.l).take (i + 1))) (wrote bi ps (h.first + at' + i))) (by exact (List.perm_append_comm (l₂ := [_, _])).trans (List.Perm.swap _ _ _)) ?_
    have hw := hdi.write (n := h.first + at' + i) (b := blk h.g num s.l i) (by omega) hb64 (by omega) y
    rw [hps] at hw
    refine JE.again (i := (i, qa, ps)) (i + 1, some y, wrote bi ps (h.first + at' + i)) ⟨hi', hw, by dsimp only; rw [wrote, List.length_append, List.length_singleton]; omega⟩ (by dsimp only; omega) (by repeat (first | exact SubE.nil | refine SubE.cons _ _ _ rfl ?_)) ?_
    exact .keep _ _ _ _ _ _ (fun _ h => h) (.drop _ _ _ (Less.refl _))
  · have hi' : i = nb s.l.length := by have := of_decide_eq_false hc; omega
    subst hi'
    have ht : (blks h.g num s.l).take (nb s.l.length) = blks h.g num s.l := List.take_of_length_le (by rw [blks_len]; exact Nat.le_refl _)
    rw [ht] at hdi ⊢
    repeat (first | refine JL.q (by first | (apply OQ.move; exact rfl) | (apply OQ.assign; exact rfl) | (apply OQ.nilc; exact rfl) | (apply OQ.len; exact rfl; exact rfl) | (apply OQ.addN; exact rfl; exact rfl; exact (by (try simp only []); omega)) | (apply OQ.subN; exact rfl; exact rfl; exact (by (try simp only []); omega); exact (by (try simp only []); omega)) | (apply OQ.lssN; exact rfl; exact rfl) | (apply OQ.gtrN; exact rfl; exact rfl) | (apply OQ.fld; exact rfl; exact rfl; exact rfl; exact (by decide); exact rfl)) rfl ?_ | refine JQ.q (by first | (apply OQ.move; exact rfl) | (apply OQ.assign; exact rfl) | (apply OQ.nilc; exact rfl) | (apply OQ.len; exact rfl; exact rfl) | (apply OQ.addN; exact rfl; exact rfl; exact (by (try simp only []); omega)) | (apply OQ.subN; exact rfl; exact rfl; exact (by (try simp only []); omega); exact (by (try simp only []); omega)) | (apply OQ.lssN; exact rfl; exact rfl) | (apply OQ.gtrN; exact rfl; exact rfl) | (apply OQ.fld; exact rfl; exact rfl; exact rfl; exact (by decide); exact rfl)) rfl ?_ | refine JC.seq ?_ | refine JC.region ?_ | refine JC.block ?_ | refine JC.skip ?_ | refine JC.exit ?_ | refine JL.nil ?_ | refine JQ.nil ?_ | refine JQ.nil_tail ?_ | refine JE.next ?_ | refine JE.blk_normal ?_ | refine JE.then_exit ?_ | refine JE.blk_hit ?_ | refine JE.blk_miss rfl ?_ | refine JE.then_ret ?_ | refine JE.blk_ret ?_ | refine JC.label ?_ | refine JL.gon rfl rfl ?_ | refine JQ.gon rfl rfl ?_ | refine JL.gskip rfl rfl rfl rfl ?_ | refine JQ.gskip rfl rfl rfl rfl ?_ | refine JL.gskipU rfl rfl rfl rfl ?_ | refine JQ.gskipU rfl rfl rfl rfl ?_)
    exact JE.end0 rfl fun w' hw => ⟨⟨qa, ps, hdi, hpi⟩, rfl, hw.weak (.drop _ _ _ (Less.refl _))⟩
end Go.Proofs.Ytopdkpeahhnihaa

/-
  Of no statement by itself: the landed journal's put.
  Conditions: each theorem's own.
-/
namespace Go.Proofs.Ytopdkpeahhnihaa
set_option maxRecDepth 10000
open Sl Dsk Jrn
theorem away_mid {w0 w : World} {S : List Nat} {X M : List Ent} {s : Sl8} (hw : Holds w0 S (X ++ M) w) (hX : ∀ e ∈ X, e.wr = true) (hs : s.ok w0) (ha : Away s S) : Away s (keys X) := by
  intro h0 a e hm
  obtain ⟨y, he, hb⟩ := List.mem_map.1 hm
  have h1 := hs.lt h0 a e
  rcases (hw.all y (List.mem_append_left _ he)).2 (hX y he) with h | h
  · exact ha h0 a e (hb ▸ h)
  · omega
/-- a journal: its own block, and its disk -/
def jnE (j : Nat) (h : Hf) (bl : List Bk) (pd : List (Nat × Bk)) : List Ent := ⟨j, Row 88 (hfc h), true⟩ :: dkE h.x bl pd
theorem jnE_wr (j : Nat) (h : Hf) (bl : List Bk) (pd : List (Nat × Bk)) : ∀ e ∈ jnE j h bl pd, e.wr = true := by
  intro e he
  rcases List.mem_cons.1 he with rfl | he
  · rfl
  · exact dkE_wr _ _ _ e he
/-- a half with a record more -/
def putH (h : Hf) (n : Nat) : Hf := ⟨h.x, h.first, h.size, h.g, h.count + 1, h.used + nb n⟩
def Dw.J {x : Dp} {bl : List Bk} {m : Nat} (z : Dw x bl m) (j : Nat) (h : Hf) : List Ent := ⟨j, Row 88 (hfc h), true⟩ :: z.E
theorem Dw.Jwr {x : Dp} {bl : List Bk} {m : Nat} (z : Dw x bl m) (j : Nat) (h : Hf) : ∀ e ∈ z.J j h, e.wr = true := by
  intro e he
  rcases List.mem_cons.1 he with rfl | he
  · rfl
  · exact z.wr e he
theorem is1j : szT Try.prog 3 = some 1 := by kernel_rfl
theorem goes_put : Goes Try.prog 43 := ⟨_, Try.func43, rfl, by kernel_rfl⟩
set_option maxHeartbeats 32000000 in
theorem put_any (j : Nat) (h : Hf) (bl : List Bk) (pd : List (Nat × Bk)) (s : Sl8) (hd : DkOk h.x bl pd) (hs : h.first + h.size ≤ bl.length) (ha : h.used + nb s.l.length ≤ h.size) (hc : h.count ≤ h.size) (hm : pd.length + h.size ≤ 1000000) (w : World) (hok : s.ok w) (hap : Away s (keys (jnE j h bl pd))) (h0 : Holds w (keys (jnE j h bl pd)) (jnE j h bl pd) w) :
    Calls Try.prog 43 [Pt j 0, s.v].toArray w fun e w' => ∃ z : Dw h.x (putAt bl (h.first + h.used) (blks h.g h.count s.l)) (pd.length + nb s.l.length), e = .returned (.tuple #[]) ∧ Holds w (keys (jnE j h bl pd)) (z.J j (putH h s.l.length)) w' := by
  have hcl := hok.len
  have hn1 := hd.n1
  have hnl : s.l.length ≤ nb s.l.length * 42 := nb_le _
  generalize hS : keys (jnE j h bl pd) = S at hap h0 ⊢
  refine enter (n := 34) Try.func43 rfl rfl rfl h0 ?_
  repeat (first | refine JL.q (by first | (apply OQ.move; exact rfl) | (apply OQ.assign; exact rfl) | (apply OQ.nilc; exact rfl) | (apply OQ.len; exact rfl; exact rfl) | (apply OQ.addN; exact rfl; exact rfl; exact (by (try simp only []); omega)) | (apply OQ.subN; exact rfl; exact rfl; exact (by (try simp only []); omega); exact (by (try simp only []); omega)) | (apply OQ.lssN; exact rfl; exact rfl) | (apply OQ.gtrN; exact rfl; exact rfl) | (apply OQ.fld; exact rfl; exact rfl; exact rfl; exact (by decide); exact rfl)) rfl ?_ | refine JC.seq ?_ | refine JC.region ?_ | refine JC.block ?_ | refine JC.skip ?_ | refine JC.exit ?_ | refine JL.nil ?_ | refine JE.next ?_ | refine JE.blk_normal ?_ | refine JE.then_exit ?_ | refine JE.blk_hit ?_ | refine JE.blk_miss rfl ?_ | refine JE.then_ret ?_ | refine JE.blk_ret ?_ | refine JC.label ?_ | refine JL.gon rfl rfl ?_ | refine JL.gskip rfl rfl rfl rfl ?_ | refine JL.gskipU rfl rfl rfl rfl ?_)
  refine JC.tail 12 mixT (by kernel_rfl) ?_
  simp only [List.take_succ_cons, List.take_zero, List.drop_succ_cons, List.drop_zero]
  repeat (first | refine JL.q (by first | (apply OQ.load_agg (cs := hfc h); exact hfAg; exact hf6; exact rfl; exact .here; exact rfl; exact Row.all) | (apply OQ.load; exact intC; exact rfl; exact .here; exact (Row.cell (v := N h.used) rfl)) | (apply OQ.load; exact intC; exact rfl; exact .here; exact (Row.cell (v := N h.count) rfl)) | (apply OQ.move; exact rfl) | (apply OQ.assign; exact rfl) | (apply OQ.nilc; exact rfl) | (apply OQ.len; exact rfl; exact rfl) | (apply OQ.addN; exact rfl; exact rfl; exact (by (try simp only []); omega)) | (apply OQ.subN; exact rfl; exact rfl; exact (by (try simp only []); omega); exact (by (try simp only []); omega)) | (apply OQ.lssN; exact rfl; exact rfl) | (apply OQ.gtrN; exact rfl; exact rfl) | (apply OQ.fld; exact rfl; exact rfl; exact rfl; exact (by decide); exact rfl)) rfl ?_ | refine JQ.q (by first | (apply OQ.load_agg (cs := hfc h); exact hfAg; exact hf6; exact rfl; exact .here; exact rfl; exact Row.all) | (apply OQ.load; exact intC; exact rfl; exact .here; exact (Row.cell (v := N h.used) rfl)) | (apply OQ.load; exact intC; exact rfl; exact .here; exact (Row.cell (v := N h.count) rfl)) | (apply OQ.move; exact rfl) | (apply OQ.assign; exact rfl) | (apply OQ.nilc; exact rfl) | (apply OQ.len; exact rfl; exact rfl) | (apply OQ.addN; exact rfl; exact rfl; exact (by (try simp only []); omega)) | (apply OQ.subN; exact rfl; exact rfl; exact (by (try simp only []); omega); exact (by (try simp only []); omega)) | (apply OQ.lssN; exact rfl; exact rfl) | (apply OQ.gtrN; exact rfl; exact rfl) | (apply OQ.fld; exact rfl; exact rfl; exact rfl; exact (by decide); exact rfl)) rfl ?_ | refine JC.seq ?_ | refine JC.region ?_ | refine JC.block ?_ | refine JC.skip ?_ | refine JC.exit ?_ | refine JL.nil ?_ | refine JQ.nil ?_ | refine JQ.nil_tail ?_ | refine JE.next ?_ | refine JE.blk_normal ?_ | refine JE.then_exit ?_ | refine JE.blk_hit ?_ | refine JE.blk_miss rfl ?_ | refine JE.then_ret ?_ | refine JE.blk_ret ?_ | refine JC.label ?_ | refine JL.gon rfl rfl ?_ | refine JQ.gon rfl rfl ?_ | refine JL.gskip rfl rfl rfl rfl ?_ | refine JQ.gskip rfl rfl rfl rfl ?_ | refine JL.gskipU rfl rfl rfl rfl ?_ | refine JQ.gskipU rfl rfl rfl rfl ?_)
  refine JL.perm (M' := dkE h.x bl pd ++ [⟨j, Row 88 (hfc h), true⟩]) ?_ (by exact List.perm_append_comm (l₁ := [_]))
  refine JL.callV (ι := Dw h.x (putAt bl (h.first + h.used) (blks h.g h.count s.l)) (pd.length + nb s.l.length)) (vs := [.agg (hfc h).toArray, N h.used, N h.count, s.v]) (fun _ => .tuple #[]) (fun z => z.E) goes_jwrite rfl rfl (dkE_wr _ _ _) (fun z => z.wr) (fun w' hw' hx' => write_any h bl pd h.used h.count s hd hs ha hm w' (hok.away hw' hap) (away_mid hw' (dkE_wr _ _ _) hok hap) hx') fun z => ?_
  refine JL.perm (M' := ⟨j, Row 88 (hfc h), true⟩ :: z.E) ?_ (by exact List.perm_append_comm (l₂ := [_]))
  repeat (first | refine JL.q (by first | (apply OQ.move; exact rfl) | (apply OQ.assign; exact rfl) | (apply OQ.nilc; exact rfl) | (apply OQ.len; exact rfl; exact rfl) | (apply OQ.addN; exact rfl; exact rfl; exact (by (try simp only []); omega)) | (apply OQ.subN; exact rfl; exact rfl; exact (by (try simp only []); omega); exact (by (try simp only []); omega)) | (apply OQ.lssN; exact rfl; exact rfl) | (apply OQ.gtrN; exact rfl; exact rfl) | (apply OQ.fld; exact rfl; exact rfl; exact rfl; exact (by decide); exact rfl)) rfl ?_ | refine JQ.q (by first | (apply OQ.move; exact rfl) | (apply OQ.assign; exact rfl) | (apply OQ.nilc; exact rfl) | (apply OQ.len; exact rfl; exact rfl) | (apply OQ.addN; exact rfl; exact rfl; exact (by (try simp only []); omega)) | (apply OQ.subN; exact rfl; exact rfl; exact (by (try simp only []); omega); exact (by (try simp only []); omega)) | (apply OQ.lssN; exact rfl; exact rfl) | (apply OQ.gtrN; exact rfl; exact rfl) | (apply OQ.fld; exact rfl; exact rfl; exact rfl; exact (by decide); exact rfl)) rfl ?_ | refine JC.seq ?_ | refine JC.region ?_ | refine JC.block ?_ | refine JC.skip ?_ | refine JC.exit ?_ | refine JL.nil ?_ | refine JQ.nil ?_ | refine JQ.nil_tail ?_ | refine JE.next ?_ | refine JE.blk_normal ?_ | refine JE.then_exit ?_ | refine JE.blk_hit ?_ | refine JE.blk_miss rfl ?_ | refine JE.then_ret ?_ | refine JE.blk_ret ?_ | refine JC.label ?_ | refine JL.gon rfl rfl ?_ | refine JQ.gon rfl rfl ?_ | refine JL.gskip rfl rfl rfl rfl ?_ | refine JQ.gskip rfl rfl rfl rfl ?_ | refine JL.gskipU rfl rfl rfl rfl ?_ | refine JQ.gskipU rfl rfl rfl rfl ?_)
  refine JC.tail 10 mixT (by kernel_rfl) ?_
  simp only [List.take_succ_cons, List.take_zero, List.drop_succ_cons, List.drop_zero]
  repeat (first | refine JL.q (by first | (apply OQ.load; exact intC; exact rfl; exact .here; exact (Row.cell (v := N h.used) rfl)) | (apply OQ.len (k := s.l.length) (ad := s.ad) (cap := s.cap); exact Try.underlying33; exact rfl) | (apply OQ.callx (vs := [N s.l.length]); exact goes_bfor; exact rfl; exact (fun w' _ => bfor_any s.l.length (by omega) w')) | (apply OQ.move; exact rfl) | (apply OQ.assign; exact rfl) | (apply OQ.nilc; exact rfl) | (apply OQ.len; exact rfl; exact rfl) | (apply OQ.addN; exact rfl; exact rfl; exact (by (try simp only []); omega)) | (apply OQ.subN; exact rfl; exact rfl; exact (by (try simp only []); omega); exact (by (try simp only []); omega)) | (apply OQ.lssN; exact rfl; exact rfl) | (apply OQ.gtrN; exact rfl; exact rfl) | (apply OQ.fld; exact rfl; exact rfl; exact rfl; exact (by decide); exact rfl)) rfl ?_ | refine JQ.q (by first | (apply OQ.load; exact intC; exact rfl; exact .here; exact (Row.cell (v := N h.used) rfl)) | (apply OQ.len (k := s.l.length) (ad := s.ad) (cap := s.cap); exact Try.underlying33; exact rfl) | (apply OQ.callx (vs := [N s.l.length]); exact goes_bfor; exact rfl; exact (fun w' _ => bfor_any s.l.length (by omega) w')) | (apply OQ.move; exact rfl) | (apply OQ.assign; exact rfl) | (apply OQ.nilc; exact rfl) | (apply OQ.len; exact rfl; exact rfl) | (apply OQ.addN; exact rfl; exact rfl; exact (by (try simp only []); omega)) | (apply OQ.subN; exact rfl; exact rfl; exact (by (try simp only []); omega); exact (by (try simp only []); omega)) | (apply OQ.lssN; exact rfl; exact rfl) | (apply OQ.gtrN; exact rfl; exact rfl) | (apply OQ.fld; exact rfl; exact rfl; exact rfl; exact (by decide); exact rfl)) rfl ?_ | refine JC.seq ?_ | refine JC.region ?_ | refine JC.block ?_ | refine JC.skip ?_ | refine JC.exit ?_ | refine JL.nil ?_ | refine JQ.nil ?_ | refine JQ.nil_tail ?_ | refine JE.next ?_ | refine JE.blk_normal ?_ | refine JE.then_exit ?_ | refine JE.blk_hit ?_ | refine JE.blk_miss rfl ?_ | refine JE.then_ret ?_ | refine JE.blk_ret ?_ | refine JC.label ?_ | refine JL.gon rfl rfl ?_ | refine JQ.gon rfl rfl ?_ | refine JL.gskip rfl rfl rfl rfl ?_ | refine JQ.gskip rfl rfl rfl rfl ?_ | refine JL.gskipU rfl rfl rfl rfl ?_ | refine JQ.gskipU rfl rfl rfl rfl ?_)
  refine JL.store_eq (b := j) (r := hfc h) (r' := hfc ⟨h.x, h.first, h.size, h.g, h.count, h.used + nb s.l.length⟩) is1j rfl rfl rfl rfl .here (show 5 < 6 by decide) rfl ?_
  repeat (first | refine JL.q (by first | (apply OQ.load; exact intC; exact rfl; exact .here; exact (Row.cell (v := N h.count) rfl)) | (apply OQ.move; exact rfl) | (apply OQ.assign; exact rfl) | (apply OQ.nilc; exact rfl) | (apply OQ.len; exact rfl; exact rfl) | (apply OQ.addN; exact rfl; exact rfl; exact (by (try simp only []); omega)) | (apply OQ.subN; exact rfl; exact rfl; exact (by (try simp only []); omega); exact (by (try simp only []); omega)) | (apply OQ.lssN; exact rfl; exact rfl) | (apply OQ.gtrN; exact rfl; exact rfl) | (apply OQ.fld; exact rfl; exact rfl; exact rfl; exact (by decide); exact rfl)) rfl ?_ | refine JQ.q (by first | (apply OQ.load; exact intC; exact rfl; exact .here; exact (Row.cell (v := N h.count) rfl)) | (apply OQ.move; exact rfl) | (apply OQ.assign; exact rfl) | (apply OQ.nilc; exact rfl) | (apply OQ.len; exact rfl; exact rfl) | (apply OQ.addN; exact rfl; exact rfl; exact (by (try simp only []); omega)) | (apply OQ.subN; exact rfl; exact rfl; exact (by (try simp only []); omega); exact (by (try simp only []); omega)) | (apply OQ.lssN; exact rfl; exact rfl) | (apply OQ.gtrN; exact rfl; exact rfl) | (apply OQ.fld; exact rfl; exact rfl; exact rfl; exact (by decide); exact rfl)) rfl ?_ | refine JC.seq ?_ | refine JC.region ?_ | refine JC.block ?_ | refine JC.skip ?_ | refine JC.exit ?_ | refine JL.nil ?_ | refine JQ.nil ?_ | refine JQ.nil_tail ?_ | refine JE.next ?_ | refine JE.blk_normal ?_ | refine JE.then_exit ?_ | refine JE.blk_hit ?_ | refine JE.blk_miss rfl ?_ | refine JE.then_ret ?_ | refine JE.blk_ret ?_ | refine JC.label ?_ | refine JL.gon rfl rfl ?_ | refine JQ.gon rfl rfl ?_ | refine JL.gskip rfl rfl rfl rfl ?_ | refine JQ.gskip rfl rfl rfl rfl ?_ | refine JL.gskipU rfl rfl rfl rfl ?_ | refine JQ.gskipU rfl rfl rfl rfl ?_)
  refine JL.store_eq (b := j) (r := hfc ⟨h.x, h.first, h.size, h.g, h.count, h.used + nb s.l.length⟩) (r' := hfc (putH h s.l.length)) is1j rfl rfl rfl rfl .here (show 4 < 6 by decide) rfl ?_
  repeat (first | refine JL.q (by first | (apply OQ.move; exact rfl) | (apply OQ.assign; exact rfl) | (apply OQ.nilc; exact rfl) | (apply OQ.len; exact rfl; exact rfl) | (apply OQ.addN; exact rfl; exact rfl; exact (by (try simp only []); omega)) | (apply OQ.subN; exact rfl; exact rfl; exact (by (try simp only []); omega); exact (by (try simp only []); omega)) | (apply OQ.lssN; exact rfl; exact rfl) | (apply OQ.gtrN; exact rfl; exact rfl) | (apply OQ.fld; exact rfl; exact rfl; exact rfl; exact (by decide); exact rfl)) rfl ?_ | refine JQ.q (by first | (apply OQ.move; exact rfl) | (apply OQ.assign; exact rfl) | (apply OQ.nilc; exact rfl) | (apply OQ.len; exact rfl; exact rfl) | (apply OQ.addN; exact rfl; exact rfl; exact (by (try simp only []); omega)) | (apply OQ.subN; exact rfl; exact rfl; exact (by (try simp only []); omega); exact (by (try simp only []); omega)) | (apply OQ.lssN; exact rfl; exact rfl) | (apply OQ.gtrN; exact rfl; exact rfl) | (apply OQ.fld; exact rfl; exact rfl; exact rfl; exact (by decide); exact rfl)) rfl ?_ | refine JC.seq ?_ | refine JC.region ?_ | refine JC.block ?_ | refine JC.skip ?_ | refine JC.exit ?_ | refine JL.nil ?_ | refine JQ.nil ?_ | refine JQ.nil_tail ?_ | refine JE.next ?_ | refine JE.blk_normal ?_ | refine JE.then_exit ?_ | refine JE.blk_hit ?_ | refine JE.blk_miss rfl ?_ | refine JE.then_ret ?_ | refine JE.blk_ret ?_ | refine JC.label ?_ | refine JL.gon rfl rfl ?_ | refine JQ.gon rfl rfl ?_ | refine JL.gskip rfl rfl rfl rfl ?_ | refine JQ.gskip rfl rfl rfl rfl ?_ | refine JL.gskipU rfl rfl rfl rfl ?_ | refine JQ.gskipU rfl rfl rfl rfl ?_)
  exact JE.end0 rfl fun w' hw => ⟨z, rfl, hw⟩
end Go.Proofs.Ytopdkpeahhnihaa

/-
  Of no statement by itself: the landed journal's begin.
  Conditions: each theorem's own.
-/
namespace Go.Proofs.Ytopdkpeahhnihaa
set_option maxRecDepth 10000
open Sl Dsk Jrn
def SlL.ls' (s : SlL) : List Bk := s.rs.map Sl8.l
theorem slLj_at {w : World} {s : SlL} (h : s.ok w) (h0 : 0 < s.rs.length) : ∃ b j, s.ad = some ⟨b, j, none⟩ ∧ b < w.heap.size ∧ ∀ i, i < s.rs.length → w.cell? ⟨b, j + i, none⟩ = some (s.rs.getD i nilS).v := by
  obtain ⟨b, j, e1, c1⟩ := h.reads.at (by rw [List.length_map]; exact h0)
  exact ⟨b, j, e1, block_lt_of_cell (c1 0 _ (map_at Sl8.v nilS h0)), fun i hi => c1 i _ (map_at Sl8.v nilS hi)⟩
structure AwayL (s : SlL) (S : List Nat) : Prop where
  a : s.rs ≠ [] → ∀ a, s.ad = some a → a.block ∉ S
  all : ∀ y ∈ s.rs, Away y S
theorem getD_mem' {rs : List Sl8} {i : Nat} (h : i < rs.length) : rs.getD i nilS ∈ rs := by
  rw [List.getD_eq_getElem?_getD, List.getElem?_eq_getElem h]
  exact List.getElem_mem h
theorem putAt_app {bl : List Bk} {k : Nat} {a b : List Bk} (h : k + a.length + b.length ≤ bl.length) : putAt (putAt bl k a) (k + a.length) b = putAt bl k (a ++ b) := by
  have h1 : (bl.take k ++ a).length = k + a.length := by rw [List.length_append, List.length_take]; omega
  have e1 : (bl.take k ++ a ++ bl.drop (k + a.length)).take (k + a.length) = bl.take k ++ a := List.take_left' h1
  have e2 : (bl.take k ++ a ++ bl.drop (k + a.length)).drop (k + a.length + b.length) = bl.drop (k + (a ++ b).length) := by
    rw [← List.drop_drop, List.drop_left' h1, List.drop_drop, List.length_append, Nat.add_assoc]
  unfold putAt
  rw [e1, e2]
  simp [List.append_assoc]
theorem putAt_two {bl : List Bk} {k : Nat} {a b : List Bk} (h : k + a.length + b.length ≤ bl.length) : putAt (putAt bl (k + a.length) b) k a = putAt bl k (a ++ b) := by
  have h1 : (bl.take (k + a.length)).length = k + a.length := by rw [List.length_take]; omega
  have e1 : (bl.take (k + a.length) ++ b ++ bl.drop (k + a.length + b.length)).take k = bl.take k := by
    rw [List.append_assoc, List.take_append_of_le_length (by rw [h1]; omega), List.take_take, Nat.min_eq_left (by omega)]
  have e2 : (bl.take (k + a.length) ++ b ++ bl.drop (k + a.length + b.length)).drop (k + a.length) = b ++ bl.drop (k + a.length + b.length) := by
    rw [List.append_assoc, List.drop_left' h1]
  unfold putAt
  rw [e1, e2]
  simp [List.append_assoc, Nat.add_assoc]
theorem slCj : scal Try.prog 33 = true := by kernel_rfl
theorem sleJ : szT Try.prog 33 = some 1 := by kernel_rfl
theorem goes_begin : Goes Try.prog 48 := ⟨_, Try.func48, rfl, by kernel_rfl⟩
/-- a half that begins with a generation and records -/
def begH (h : Hf) (g : BitVec 32) (recs : List Bk) : Hf := ⟨h.x, h.first, h.size, g, recs.length, room recs⟩
def sync0 (x : Dp) : Dp := ⟨x.p, x.q, x.cap, none⟩
theorem room_cons (r : Bk) (rs : List Bk) : room (r :: rs) = nb r.length + room rs := rfl
theorem room_take_le (rs : List Bk) (i : Nat) : room (rs.take i) ≤ room rs := by
  have := room_append (rs.take i) (rs.drop i)
  rw [List.take_append_drop] at this
  omega
/-- the half while its records are put, behind so many of those behind the base -/
def midH (h : Hf) (g : BitVec 32) (n0 : Nat) (rt : List Bk) (i : Nat) (qa : Acc) : Hf := ⟨⟨h.x.p, h.x.q, h.x.cap, qa⟩, h.first, h.size, g, 1 + i, n0 + room (rt.take i)⟩
def midB (h : Hf) (g : BitVec 32) (bl : List Bk) (n0 : Nat) (rt : List Bk) (i : Nat) : List Bk := putAt bl (h.first + n0) (allB g 1 (rt.take i))
theorem take_snoc {rt : List Bk} {i : Nat} (h : i < rt.length) : rt.take (i + 1) = rt.take i ++ [rt.getD i []] := by
  rw [List.take_add_one]
  simp [List.getD_eq_getElem?_getD, h]
theorem mid_snoc {h : Hf} {g : BitVec 32} {bl : List Bk} {n0 : Nat} {rt : List Bk} {i : Nat} (hi : i < rt.length) (hb : h.first + n0 + room rt ≤ bl.length) :
    putAt (midB h g bl n0 rt i) (h.first + (n0 + room (rt.take i))) (blks g (1 + i) (rt.getD i [])) = midB h g bl n0 rt (i + 1) := by
  have e := take_snoc hi
  have hr := room_take_le rt (i + 1)
  rw [e, room_append] at hr
  have hr1 : room [rt.getD i []] = nb (rt.getD i []).length := by simp [room]
  have ea : allB g 1 (rt.take (i + 1)) = allB g 1 (rt.take i) ++ blks g (1 + i) (rt.getD i []) := by
    rw [e, allB_append, List.length_take, Nat.min_eq_left (by omega)]
    congr 1
    rw [allB, allB, List.append_nil]
  unfold midB
  rw [ea, ← putAt_app (by rw [allB_len, blks_len]; omega), allB_len]
  congr 1
  omega
set_option maxHeartbeats 64000000 in
theorem begin_any (j : Nat) (h : Hf) (bl : List Bk) (pd : List (Nat × Bk)) (g : BitVec 32) (s : SlL) (hd : DkOk h.x bl pd) (hs : h.first + h.size ≤ bl.length) (hne : 0 < s.rs.length) (ha : room (s.rs.map Sl8.l) ≤ h.size) (hm : pd.length + (h.size + h.size) ≤ 1000000) (w : World) (hok : s.ok w) (hap : AwayL s (keys (jnE j h bl pd))) (h0 : Holds w (keys (jnE j h bl pd)) (jnE j h bl pd) w) :
    Calls Try.prog 48 [Pt j 0, U32 g, s.v].toArray w fun e w' => e = .returned (.tuple #[]) ∧ Holds w (keys (jnE j h bl pd)) (⟨j, Row 88 (hfc (begH h g (s.rs.map Sl8.l))), true⟩ :: dkE (sync0 h.x) (putAt bl h.first (allB g 0 (s.rs.map Sl8.l))) []) w' := by
  obtain ⟨b, jj, ead, lb, cb⟩ := slLj_at hok hne
  have hcap := hok.len
  have hall := hok.all
  have hbS := hap.a (fun e => by rw [e] at hne; cases hne) _ ead
  have haw := hap.all
  have hn1 := hd.n1
  obtain ⟨ad, cap, rs⟩ := s
  dsimp only at ead hcap hall hbS haw hne ha cb ⊢
  subst ead
  obtain ⟨ls, hls⟩ : ∃ ls, rs.map Sl8.l = ls := ⟨_, rfl⟩
  have hll : ls.length = rs.length := by rw [← hls, List.length_map]
  have hat : ∀ i, i < rs.length → ls.getD i [] = (rs.getD i nilS).l := fun i hi => by rw [← hls]; simp [List.getD_eq_getElem?_getD, hi]
  rw [hls] at ha ⊢
  obtain ⟨r0, rt, hrt⟩ : ∃ r0 rt, ls = r0 :: rt := by
    cases ls with
    | nil => rw [List.length_nil] at hll; omega
    | cons a l => exact ⟨a, l, rfl⟩
  have hr0 : (rs.getD 0 nilS).l = r0 := by rw [← hat 0 hne, hrt]; rfl
  have hrl : rt.length + 1 = rs.length := by rw [← hll, hrt]; rfl
  have hrt' : ∀ i, i < rt.length → rt.getD i [] = (rs.getD (i + 1) nilS).l := fun i hi => by rw [← hat (i + 1) (by omega), hrt]; rfl
  have hroom : nb r0.length + room rt ≤ h.size := by rw [hrt, room_cons] at ha; exact ha
  have hge := room_ge rt
  have hnl : r0.length ≤ nb r0.length * 42 := nb_le _
  obtain ⟨j1, hj1, hj2⟩ : ∃ j1, (if cap = 1 then some (⟨b, jj, none⟩ : Addr) else (some (⟨b, jj, none⟩ : Addr)).map (·.add (1 * 1))) = some ⟨b, j1, none⟩ ∧ (2 ≤ rs.length → j1 = jj + 1) := by
    by_cases hc : cap = 1
    · exact ⟨jj, by rw [if_pos hc], fun h2 => by omega⟩
    · exact ⟨jj + 1, by rw [if_neg hc]; rfl, fun _ => rfl⟩
  have hv1 : (Value.slice (if cap = 1 then some (⟨b, jj, none⟩ : Addr) else (some (⟨b, jj, none⟩ : Addr)).map (·.add (1 * 1))) (rs.length - 1) (cap - 1)) = .slice (some ⟨b, j1, none⟩) rt.length (cap - 1) := by rw [hj1, show rs.length - 1 = rt.length by omega]
  have c0 := cb 0 hne
  have ok0 := hall _ (getD_mem' hne)
  have aw0 := haw _ (getD_mem' hne)
  generalize rs.getD 0 nilS = s0 at c0 ok0 aw0 hr0
  subst hr0
  generalize hS : keys (jnE j h bl pd) = S at hbS haw h0 aw0 ⊢
  refine enter (n := 54) Try.func48 rfl rfl rfl h0 ?_
  repeat (first | refine JL.q (by first | (apply OQ.idxS1 (i := 0); exact Try.underlying57; exact sleJ; exact rfl; exact rfl; exact hne) | (apply OQ.load_old; exact slCj; exact rfl; exact lb; exact hbS; exact c0) | (apply OQ.len (k := s0.l.length) (ad := s0.ad) (cap := s0.cap); exact Try.underlying33; exact rfl) | (apply OQ.callx (vs := [N s0.l.length]); exact goes_bfor; exact rfl; exact (fun w' _ => bfor_any s0.l.length (by omega) w')) | (apply OQ.move; exact rfl) | (apply OQ.assign; exact rfl) | (apply OQ.nilc; exact rfl) | (apply OQ.len; exact rfl; exact rfl) | (apply OQ.addN; exact rfl; exact rfl; exact (by (try simp only []); omega)) | (apply OQ.subN; exact rfl; exact rfl; exact (by (try simp only []); omega); exact (by (try simp only []); omega)) | (apply OQ.lssN; exact rfl; exact rfl) | (apply OQ.gtrN; exact rfl; exact rfl) | (apply OQ.fld; exact rfl; exact rfl; exact rfl; exact (by decide); exact rfl)) rfl ?_ | refine JC.seq ?_ | refine JC.region ?_ | refine JC.block ?_ | refine JC.skip ?_ | refine JC.exit ?_ | refine JL.nil ?_ | refine JE.next ?_ | refine JE.blk_normal ?_ | refine JE.then_exit ?_ | refine JE.blk_hit ?_ | refine JE.blk_miss rfl ?_ | refine JE.then_ret ?_ | refine JE.blk_ret ?_ | refine JC.label ?_ | refine JL.gon rfl rfl ?_ | refine JL.gskip rfl rfl rfl rfl ?_ | refine JL.gskipU rfl rfl rfl rfl ?_)
  refine JL.store_eq (b := j) (r := hfc h) (r' := hfc ⟨h.x, h.first, h.size, g, h.count, h.used⟩) u321 rfl rfl rfl rfl .here (show 3 < 6 by decide) rfl ?_
  repeat (first | refine JL.q (by first | (apply OQ.move; exact rfl) | (apply OQ.assign; exact rfl) | (apply OQ.nilc; exact rfl) | (apply OQ.len; exact rfl; exact rfl) | (apply OQ.addN; exact rfl; exact rfl; exact (by (try simp only []); omega)) | (apply OQ.subN; exact rfl; exact rfl; exact (by (try simp only []); omega); exact (by (try simp only []); omega)) | (apply OQ.lssN; exact rfl; exact rfl) | (apply OQ.gtrN; exact rfl; exact rfl) | (apply OQ.fld; exact rfl; exact rfl; exact rfl; exact (by decide); exact rfl)) rfl ?_ | refine JC.seq ?_ | refine JC.region ?_ | refine JC.block ?_ | refine JC.skip ?_ | refine JC.exit ?_ | refine JL.nil ?_ | refine JE.next ?_ | refine JE.blk_normal ?_ | refine JE.then_exit ?_ | refine JE.blk_hit ?_ | refine JE.blk_miss rfl ?_ | refine JE.then_ret ?_ | refine JE.blk_ret ?_ | refine JC.label ?_ | refine JL.gon rfl rfl ?_ | refine JL.gskip rfl rfl rfl rfl ?_ | refine JL.gskipU rfl rfl rfl rfl ?_)
  refine JL.store_eq (b := j) (r := hfc ⟨h.x, h.first, h.size, g, h.count, h.used⟩) (r' := hfc ⟨h.x, h.first, h.size, g, 1, h.used⟩) is1j rfl rfl rfl rfl .here (show 4 < 6 by decide) rfl ?_
  repeat (first | refine JL.q (by first | (apply OQ.move; exact rfl) | (apply OQ.assign; exact rfl) | (apply OQ.nilc; exact rfl) | (apply OQ.len; exact rfl; exact rfl) | (apply OQ.addN; exact rfl; exact rfl; exact (by (try simp only []); omega)) | (apply OQ.subN; exact rfl; exact rfl; exact (by (try simp only []); omega); exact (by (try simp only []); omega)) | (apply OQ.lssN; exact rfl; exact rfl) | (apply OQ.gtrN; exact rfl; exact rfl) | (apply OQ.fld; exact rfl; exact rfl; exact rfl; exact (by decide); exact rfl)) rfl ?_ | refine JC.seq ?_ | refine JC.region ?_ | refine JC.block ?_ | refine JC.skip ?_ | refine JC.exit ?_ | refine JL.nil ?_ | refine JE.next ?_ | refine JE.blk_normal ?_ | refine JE.then_exit ?_ | refine JE.blk_hit ?_ | refine JE.blk_miss rfl ?_ | refine JE.then_ret ?_ | refine JE.blk_ret ?_ | refine JC.label ?_ | refine JL.gon rfl rfl ?_ | refine JL.gskip rfl rfl rfl rfl ?_ | refine JL.gskipU rfl rfl rfl rfl ?_)
  refine JL.store_eq (b := j) (r := hfc ⟨h.x, h.first, h.size, g, 1, h.used⟩) (r' := hfc ⟨h.x, h.first, h.size, g, 1, nb s0.l.length⟩) is1j rfl rfl rfl rfl .here (show 5 < 6 by decide) rfl ?_
  repeat (first | refine JL.q (by first | (apply OQ.to; exact (OQ.slS_lo (lo := 1) (len := rs.length) (cap := cap) (ad := some ⟨b, jj, none⟩) Try.underlying57 sleJ rfl rfl (by omega)); exact hv1) | (apply OQ.len (k := rt.length) (ad := some ⟨b, j1, none⟩) (cap := cap - 1); exact Try.underlying57; exact rfl) | (apply OQ.move; exact rfl) | (apply OQ.assign; exact rfl) | (apply OQ.nilc; exact rfl) | (apply OQ.len; exact rfl; exact rfl) | (apply OQ.addN; exact rfl; exact rfl; exact (by (try simp only []); omega)) | (apply OQ.subN; exact rfl; exact rfl; exact (by (try simp only []); omega); exact (by (try simp only []); omega)) | (apply OQ.lssN; exact rfl; exact rfl) | (apply OQ.gtrN; exact rfl; exact rfl) | (apply OQ.fld; exact rfl; exact rfl; exact rfl; exact (by decide); exact rfl)) rfl ?_ | refine JC.seq ?_ | refine JC.region ?_ | refine JC.block ?_ | refine JC.skip ?_ | refine JC.exit ?_ | refine JL.nil ?_ | refine JE.next ?_ | refine JE.blk_normal ?_ | refine JE.then_exit ?_ | refine JE.blk_hit ?_ | refine JE.blk_miss rfl ?_ | refine JE.then_ret ?_ | refine JE.blk_ret ?_ | refine JC.label ?_ | refine JL.gon rfl rfl ?_ | refine JL.gskip rfl rfl rfl rfl ?_ | refine JL.gskipU rfl rfl rfl rfl ?_)
  refine JC.loop (fun z : Nat × Acc × List (Nat × Bk) => [(0, Pt j 0), (1, U32 g), (2, .slice (some ⟨b, jj, none⟩) rs.length cap), (24, .slice (some ⟨b, j1, none⟩) rt.length (cap - 1)), (25, N rt.length), (26, N z.1)]) (fun z => jnE j (midH h g (nb s0.l.length) rt z.1 z.2.1) (midB h g bl (nb s0.l.length) rt z.1) z.2.2) (fun z => rt.length - z.1) (fun z => z.1 ≤ rt.length ∧ DkOk ⟨h.x.p, h.x.q, h.x.cap, z.2.1⟩ (midB h g bl (nb s0.l.length) rt z.1) z.2.2 ∧ z.2.2.length ≤ pd.length + room (rt.take z.1)) (0, h.x.a, pd) ⟨Nat.zero_le _, by unfold midB; rw [List.take_zero, allB, putAt_nil]; exact hd, Nat.le_refl _⟩ (by repeat (first | exact SubE.nil | refine SubE.cons _ _ _ rfl ?_)) (by unfold midB; rw [List.take_zero, allB, putAt_nil]; exact Less.refl _) ?_
  rintro ⟨i, qa, ps⟩ ⟨hi, hdi, hpi⟩
  dsimp only at hi hdi hpi ⊢
  have hmbl : (midB h g bl (nb s0.l.length) rt i).length = bl.length := putAt_len (by rw [allB_len]; have := room_take_le rt i; omega)
  repeat (first | refine JL.q (by first | (apply OQ.move; exact rfl) | (apply OQ.assign; exact rfl) | (apply OQ.nilc; exact rfl) | (apply OQ.len; exact rfl; exact rfl) | (apply OQ.addN; exact rfl; exact rfl; exact (by (try simp only []); omega)) | (apply OQ.subN; exact rfl; exact rfl; exact (by (try simp only []); omega); exact (by (try simp only []); omega)) | (apply OQ.lssN; exact rfl; exact rfl) | (apply OQ.gtrN; exact rfl; exact rfl) | (apply OQ.fld; exact rfl; exact rfl; exact rfl; exact (by decide); exact rfl)) rfl ?_ | refine JC.seq ?_ | refine JC.region ?_ | refine JC.block ?_ | refine JC.skip ?_ | refine JC.exit ?_ | refine JL.nil ?_ | refine JE.next ?_ | refine JE.blk_normal ?_ | refine JE.then_exit ?_ | refine JE.blk_hit ?_ | refine JE.blk_miss rfl ?_ | refine JE.then_ret ?_ | refine JE.blk_ret ?_ | refine JC.label ?_ | refine JL.gon rfl rfl ?_ | refine JL.gskip rfl rfl rfl rfl ?_ | refine JL.gskipU rfl rfl rfl rfl ?_)
  refine JC.cond rfl (fun hc => ?_) (fun hc => ?_)
  · have hi' : i < rt.length := by have := of_decide_eq_true hc; omega
    clear hc
    have hi2 : i + 1 < rs.length := by omega
    have ci : w.cell? ⟨b, j1 + i, none⟩ = some (rs.getD (i + 1) nilS).v := by
      rw [hj2 (by omega), show jj + 1 + i = jj + (i + 1) by omega]
      exact cb (i + 1) hi2
    have hri := hrt' i hi'
    have oki := hall _ (getD_mem' hi2)
    have awi := haw _ (getD_mem' hi2)
    have hsn := mid_snoc (h := h) (g := g) (bl := bl) (n0 := nb s0.l.length) hi' (by omega)
    have hrr := room_take_le rt (i + 1)
    rw [take_snoc hi', room_append] at hrr
    have hr1 : room [rt.getD i []] = nb (rt.getD i []).length := by simp [room]
    have hts := take_snoc hi'
    rw [hr1] at hrr
    generalize rs.getD (i + 1) nilS = si at ci oki awi hri
    rw [hri] at hsn hrr hts
    have hrge := room_ge (rt.take i)
    rw [List.length_take, Nat.min_eq_left hi] at hrge
    have cP := fun w' (hw' : Holds w S (jnE j (midH h g (nb s0.l.length) rt i qa) (midB h g bl (nb s0.l.length) rt i) ps ++ []) w') hx' => put_any j (midH h g (nb s0.l.length) rt i qa) (midB h g bl (nb s0.l.length) rt i) ps si hdi (by rw [hmbl]; exact hs) (by show nb s0.l.length + room (rt.take i) + nb si.l.length ≤ h.size; omega) (by show 1 + i ≤ h.size; have := nb_pos s0.l.length; omega) (by show ps.length + h.size ≤ _; omega) w' (oki.away hw' awi) (away_mid hw' (jnE_wr _ _ _ _) oki awi) hx'
    have hsn2 : putAt (midB h g bl (nb s0.l.length) rt i) ((midH h g (nb s0.l.length) rt i qa).first + (midH h g (nb s0.l.length) rt i qa).used) (blks (midH h g (nb s0.l.length) rt i qa).g (midH h g (nb s0.l.length) rt i qa).count si.l) = midB h g bl (nb s0.l.length) rt (i + 1) := hsn
    rw [hsn2] at cP
    repeat (first | refine JL.q (by first | (apply OQ.idxS1 (i := i); exact Try.underlying57; exact sleJ; exact rfl; exact rfl; exact hi') | (apply OQ.load_old; exact slCj; exact rfl; exact lb; exact hbS; exact ci) | (apply OQ.move; exact rfl) | (apply OQ.assign; exact rfl) | (apply OQ.nilc; exact rfl) | (apply OQ.len; exact rfl; exact rfl) | (apply OQ.addN; exact rfl; exact rfl; exact (by (try simp only []); omega)) | (apply OQ.subN; exact rfl; exact rfl; exact (by (try simp only []); omega); exact (by (try simp only []); omega)) | (apply OQ.lssN; exact rfl; exact rfl) | (apply OQ.gtrN; exact rfl; exact rfl) | (apply OQ.fld; exact rfl; exact rfl; exact rfl; exact (by decide); exact rfl)) rfl ?_ | refine JC.seq ?_ | refine JC.region ?_ | refine JC.block ?_ | refine JC.skip ?_ | refine JC.exit ?_ | refine JL.nil ?_ | refine JE.next ?_ | refine JE.blk_normal ?_ | refine JE.then_exit ?_ | refine JE.blk_hit ?_ | refine JE.blk_miss rfl ?_ | refine JE.then_ret ?_ | refine JE.blk_ret ?_ | refine JC.label ?_ | refine JL.gon rfl rfl ?_ | refine JL.gskip rfl rfl rfl rfl ?_ | refine JL.gskipU rfl rfl rfl rfl ?_)
    refine JL.perm ?_ (List.Perm.of_eq (List.append_nil _).symm)
    refine JL.callV (ι := Dw (midH h g (nb s0.l.length) rt i qa).x (midB h g bl (nb s0.l.length) rt (i + 1)) (ps.length + nb si.l.length)) (vs := [Pt j 0, si.v]) (fun _ => .tuple #[]) (fun z => z.J j (putH (midH h g (nb s0.l.length) rt i qa) si.l.length)) goes_put rfl rfl (jnE_wr _ _ _ _) (fun z => z.Jwr _ _) cP fun z => ?_
    repeat (first | refine JL.q (by first | (apply OQ.move; exact rfl) | (apply OQ.assign; exact rfl) | (apply OQ.nilc; exact rfl) | (apply OQ.len; exact rfl; exact rfl) | (apply OQ.addN; exact rfl; exact rfl; exact (by (try simp only []); omega)) | (apply OQ.subN; exact rfl; exact rfl; exact (by (try simp only []); omega); exact (by (try simp only []); omega)) | (apply OQ.lssN; exact rfl; exact rfl) | (apply OQ.gtrN; exact rfl; exact rfl) | (apply OQ.fld; exact rfl; exact rfl; exact rfl; exact (by decide); exact rfl)) rfl ?_ | refine JC.seq ?_ | refine JC.region ?_ | refine JC.block ?_ | refine JC.skip ?_ | refine JC.exit ?_ | refine JL.nil ?_ | refine JE.next ?_ | refine JE.blk_normal ?_ | refine JE.then_exit ?_ | refine JE.blk_hit ?_ | refine JE.blk_miss rfl ?_ | refine JE.then_ret ?_ | refine JE.blk_ret ?_ | refine JC.label ?_ | refine JL.gon rfl rfl ?_ | refine JL.gskip rfl rfl rfl rfl ?_ | refine JL.gskipU rfl rfl rfl rfl ?_)
    have hrs : room (rt.take (i + 1)) = room (rt.take i) + nb si.l.length := by rw [hts, room_append]; simp [room]
    have eH : hfc (putH (midH h g (nb s0.l.length) rt i qa) si.l.length) = hfc (midH h g (nb s0.l.length) rt (i + 1) z.a) := by
      unfold putH midH
      rw [hrs]
      simp only [hfc, Nat.add_assoc]
      rfl
    obtain ⟨za, zp, zo, zn⟩ := z
    dsimp only at eH
    refine JE.again (i := (i, qa, ps)) (i + 1, za, zp) ⟨hi', zo, by dsimp only; omega⟩ (by dsimp only; omega) (by repeat (first | exact SubE.nil | refine SubE.cons _ _ _ rfl ?_)) ?_
    rw [List.append_nil]
    show Less (⟨j, Row 88 (hfc (midH h g (nb s0.l.length) rt (i + 1) za)), true⟩ :: dkE ⟨h.x.p, h.x.q, h.x.cap, za⟩ (midB h g bl (nb s0.l.length) rt (i + 1)) zp) (⟨j, Row 88 (hfc (putH (midH h g (nb s0.l.length) rt i qa) si.l.length)), true⟩ :: _)
    rw [eH]
    exact Less.refl _
  · have hi' : i = rt.length := by have := of_decide_eq_false hc; omega
    subst hi'
    have eT : midB h g bl (nb s0.l.length) rt rt.length = putAt bl (h.first + nb s0.l.length) (allB g 1 rt) := by unfold midB; rw [List.take_length]
    have eH : hfc (midH h g (nb s0.l.length) rt rt.length qa) = hfc (begH h g ls) := by
      unfold midH begH
      rw [List.take_length, hll, hrt, room_cons, ← hrl, Nat.add_comm 1]
      rfl
    rw [List.take_length] at hpi
    rw [eT] at hdi hmbl ⊢
    unfold jnE
    rw [eH]
    have hgl : ((rs.length : Nat) : Int) = rt.length + 1 := by omega
    repeat (first | refine JL.q (by first | (apply OQ.len (k := rs.length) (ad := some ⟨b, jj, none⟩) (cap := cap); exact Try.underlying57; exact rfl) | (apply OQ.move; exact rfl) | (apply OQ.assign; exact rfl) | (apply OQ.nilc; exact rfl) | (apply OQ.len; exact rfl; exact rfl) | (apply OQ.addN; exact rfl; exact rfl; exact (by (try simp only []); omega)) | (apply OQ.subN; exact rfl; exact rfl; exact (by (try simp only []); omega); exact (by (try simp only []); omega)) | (apply OQ.lssN; exact rfl; exact rfl) | (apply OQ.gtrN; exact rfl; exact rfl) | (apply OQ.fld; exact rfl; exact rfl; exact rfl; exact (by decide); exact rfl)) rfl ?_ | refine JC.seq ?_ | refine JC.region ?_ | refine JC.block ?_ | refine JC.skip ?_ | refine JC.exit ?_ | refine JL.nil ?_ | refine JE.next ?_ | refine JE.blk_normal ?_ | refine JE.then_exit ?_ | refine JE.blk_hit ?_ | refine JE.blk_miss rfl ?_ | refine JE.then_ret ?_ | refine JE.blk_ret ?_ | refine JC.label ?_ | refine JL.gon rfl rfl ?_ | refine JL.gskip rfl rfl rfl rfl ?_ | refine JL.gskipU rfl rfl rfl rfl ?_)
    refine JC.join (ι := Acc × List (Nat × Bk)) (fun _ => [(0, Pt j 0), (2, .slice (some ⟨b, jj, none⟩) rs.length cap)]) (fun z => ⟨j, Row 88 (hfc (begH h g ls)), true⟩ :: dkE ⟨h.x.p, h.x.q, h.x.cap, z.1⟩ (putAt bl (h.first + nb s0.l.length) (allB g 1 rt)) z.2) (fun z => DkOk ⟨h.x.p, h.x.q, h.x.cap, z.1⟩ (putAt bl (h.first + nb s0.l.length) (allB g 1 rt)) z.2 ∧ z.2.length ≤ pd.length + room rt) ?_ ?_
    · refine JC.cond rfl (fun hg => ?_) (fun hg => ?_)
      · repeat (first | refine JL.q (by first | (apply OQ.load; exact jbC; exact rfl; exact .here; exact (Row.cell (v := ifD h.x) rfl)) | (apply OQ.move; exact rfl) | (apply OQ.assign; exact rfl) | (apply OQ.nilc; exact rfl) | (apply OQ.len; exact rfl; exact rfl) | (apply OQ.addN; exact rfl; exact rfl; exact (by (try simp only []); omega)) | (apply OQ.subN; exact rfl; exact rfl; exact (by (try simp only []); omega); exact (by (try simp only []); omega)) | (apply OQ.lssN; exact rfl; exact rfl) | (apply OQ.gtrN; exact rfl; exact rfl) | (apply OQ.fld; exact rfl; exact rfl; exact rfl; exact (by decide); exact rfl)) rfl ?_ | refine JC.seq ?_ | refine JC.region ?_ | refine JC.block ?_ | refine JC.skip ?_ | refine JC.exit ?_ | refine JL.nil ?_ | refine JE.next ?_ | refine JE.blk_normal ?_ | refine JE.then_exit ?_ | refine JE.blk_hit ?_ | refine JE.blk_miss rfl ?_ | refine JE.then_ret ?_ | refine JE.blk_ret ?_ | refine JC.label ?_ | refine JL.gon rfl rfl ?_ | refine JL.gskip rfl rfl rfl rfl ?_ | refine JL.gskipU rfl rfl rfl rfl ?_)
        refine JL.perm (M' := dkE ⟨h.x.p, h.x.q, h.x.cap, qa⟩ (putAt bl (h.first + nb s0.l.length) (allB g 1 rt)) ps ++ [⟨j, Row 88 (hfc (begH h g ls)), true⟩]) ?_ (by exact List.perm_append_comm (l₁ := [_]))
        refine JL.isync rfl rfl ?_
        repeat (first | refine JL.q (by first | (apply OQ.move; exact rfl) | (apply OQ.assign; exact rfl) | (apply OQ.nilc; exact rfl) | (apply OQ.len; exact rfl; exact rfl) | (apply OQ.addN; exact rfl; exact rfl; exact (by (try simp only []); omega)) | (apply OQ.subN; exact rfl; exact rfl; exact (by (try simp only []); omega); exact (by (try simp only []); omega)) | (apply OQ.lssN; exact rfl; exact rfl) | (apply OQ.gtrN; exact rfl; exact rfl) | (apply OQ.fld; exact rfl; exact rfl; exact rfl; exact (by decide); exact rfl)) rfl ?_ | refine JC.seq ?_ | refine JC.region ?_ | refine JC.block ?_ | refine JC.skip ?_ | refine JC.exit ?_ | refine JL.nil ?_ | refine JE.next ?_ | refine JE.blk_normal ?_ | refine JE.then_exit ?_ | refine JE.blk_hit ?_ | refine JE.blk_miss rfl ?_ | refine JE.then_ret ?_ | refine JE.blk_ret ?_ | refine JC.label ?_ | refine JL.gon rfl rfl ?_ | refine JL.gskip rfl rfl rfl rfl ?_ | refine JL.gskipU rfl rfl rfl rfl ?_)
        refine JE.perm (M' := ⟨j, Row 88 (hfc (begH h g ls)), true⟩ :: dkE ⟨h.x.p, h.x.q, h.x.cap, none⟩ (putAt bl (h.first + nb s0.l.length) (allB g 1 rt)) []) (by exact List.perm_append_comm (l₂ := [_])) ?_
        exact JE.mid (none, []) ⟨hdi.sync, Nat.zero_le _⟩ (by repeat (first | exact SubE.nil | refine SubE.cons _ _ _ rfl ?_)) (Less.refl _)
      · repeat (first | refine JL.q (by first | (apply OQ.move; exact rfl) | (apply OQ.assign; exact rfl) | (apply OQ.nilc; exact rfl) | (apply OQ.len; exact rfl; exact rfl) | (apply OQ.addN; exact rfl; exact rfl; exact (by (try simp only []); omega)) | (apply OQ.subN; exact rfl; exact rfl; exact (by (try simp only []); omega); exact (by (try simp only []); omega)) | (apply OQ.lssN; exact rfl; exact rfl) | (apply OQ.gtrN; exact rfl; exact rfl) | (apply OQ.fld; exact rfl; exact rfl; exact rfl; exact (by decide); exact rfl)) rfl ?_ | refine JC.seq ?_ | refine JC.region ?_ | refine JC.block ?_ | refine JC.skip ?_ | refine JC.exit ?_ | refine JL.nil ?_ | refine JE.next ?_ | refine JE.blk_normal ?_ | refine JE.then_exit ?_ | refine JE.blk_hit ?_ | refine JE.blk_miss rfl ?_ | refine JE.then_ret ?_ | refine JE.blk_ret ?_ | refine JC.label ?_ | refine JL.gon rfl rfl ?_ | refine JL.gskip rfl rfl rfl rfl ?_ | refine JL.gskipU rfl rfl rfl rfl ?_)
        exact JE.mid (qa, ps) ⟨hdi, hpi⟩ (by repeat (first | exact SubE.nil | refine SubE.cons _ _ _ rfl ?_)) (Less.refl _)
    clear hdi hpi
    rintro ⟨qa, ps⟩ ⟨hdi, hpi⟩
    dsimp only at hdi hpi ⊢
    have hfin : putAt (putAt bl (h.first + nb s0.l.length) (allB g 1 rt)) (h.first + 0) (blks g 0 s0.l) = putAt bl h.first (allB g 0 ls) := by
      have := putAt_two (bl := bl) (k := h.first) (a := blks g 0 s0.l) (b := allB g 1 rt) (by rw [blks_len, allB_len]; omega)
      rw [blks_len] at this
      rw [Nat.add_zero, this, hrt]
      rfl
    have cW := fun w' (hw' : Holds w S (dkE ⟨h.x.p, h.x.q, h.x.cap, qa⟩ (putAt bl (h.first + nb s0.l.length) (allB g 1 rt)) ps ++ [⟨j, Row 88 (hfc (begH h g ls)), true⟩]) w') hx' => write_any ⟨⟨h.x.p, h.x.q, h.x.cap, qa⟩, h.first, h.size, g, ls.length, room ls⟩ (putAt bl (h.first + nb s0.l.length) (allB g 1 rt)) ps 0 0 s0 hdi (by rw [hmbl]; exact hs) (by show 0 + nb s0.l.length ≤ h.size; omega) (by show ps.length + h.size ≤ _; omega) w' (ok0.away hw' aw0) (away_mid hw' (dkE_wr _ _ _) ok0 aw0) hx'
    dsimp only at cW
    rw [hfin] at cW
    repeat (first | refine JL.q (by first | (apply OQ.move; exact rfl) | (apply OQ.assign; exact rfl) | (apply OQ.nilc; exact rfl) | (apply OQ.len; exact rfl; exact rfl) | (apply OQ.addN; exact rfl; exact rfl; exact (by (try simp only []); omega)) | (apply OQ.subN; exact rfl; exact rfl; exact (by (try simp only []); omega); exact (by (try simp only []); omega)) | (apply OQ.lssN; exact rfl; exact rfl) | (apply OQ.gtrN; exact rfl; exact rfl) | (apply OQ.fld; exact rfl; exact rfl; exact rfl; exact (by decide); exact rfl)) rfl ?_ | refine JC.seq ?_ | refine JC.region ?_ | refine JC.block ?_ | refine JC.skip ?_ | refine JC.exit ?_ | refine JL.nil ?_ | refine JE.next ?_ | refine JE.blk_normal ?_ | refine JE.then_exit ?_ | refine JE.blk_hit ?_ | refine JE.blk_miss rfl ?_ | refine JE.then_ret ?_ | refine JE.blk_ret ?_ | refine JC.label ?_ | refine JL.gon rfl rfl ?_ | refine JL.gskip rfl rfl rfl rfl ?_ | refine JL.gskipU rfl rfl rfl rfl ?_)
    refine JC.tail 6 mixT (by kernel_rfl) ?_
    simp only [List.take_succ_cons, List.take_zero, List.drop_succ_cons, List.drop_zero]
    repeat (first | refine JL.q (by first | (apply OQ.load_agg (cs := hfc (begH h g ls)); exact hfAg; exact hf6; exact rfl; exact .here; exact rfl; exact Row.all) | (apply OQ.idxS1 (i := 0); exact Try.underlying57; exact sleJ; exact rfl; exact rfl; exact hne) | (apply OQ.load_old; exact slCj; exact rfl; exact lb; exact hbS; exact c0) | (apply OQ.move; exact rfl) | (apply OQ.assign; exact rfl) | (apply OQ.nilc; exact rfl) | (apply OQ.len; exact rfl; exact rfl) | (apply OQ.addN; exact rfl; exact rfl; exact (by (try simp only []); omega)) | (apply OQ.subN; exact rfl; exact rfl; exact (by (try simp only []); omega); exact (by (try simp only []); omega)) | (apply OQ.lssN; exact rfl; exact rfl) | (apply OQ.gtrN; exact rfl; exact rfl) | (apply OQ.fld; exact rfl; exact rfl; exact rfl; exact (by decide); exact rfl)) rfl ?_ | refine JQ.q (by first | (apply OQ.load_agg (cs := hfc (begH h g ls)); exact hfAg; exact hf6; exact rfl; exact .here; exact rfl; exact Row.all) | (apply OQ.idxS1 (i := 0); exact Try.underlying57; exact sleJ; exact rfl; exact rfl; exact hne) | (apply OQ.load_old; exact slCj; exact rfl; exact lb; exact hbS; exact c0) | (apply OQ.move; exact rfl) | (apply OQ.assign; exact rfl) | (apply OQ.nilc; exact rfl) | (apply OQ.len; exact rfl; exact rfl) | (apply OQ.addN; exact rfl; exact rfl; exact (by (try simp only []); omega)) | (apply OQ.subN; exact rfl; exact rfl; exact (by (try simp only []); omega); exact (by (try simp only []); omega)) | (apply OQ.lssN; exact rfl; exact rfl) | (apply OQ.gtrN; exact rfl; exact rfl) | (apply OQ.fld; exact rfl; exact rfl; exact rfl; exact (by decide); exact rfl)) rfl ?_ | refine JC.seq ?_ | refine JC.region ?_ | refine JC.block ?_ | refine JC.skip ?_ | refine JC.exit ?_ | refine JL.nil ?_ | refine JQ.nil ?_ | refine JQ.nil_tail ?_ | refine JE.next ?_ | refine JE.blk_normal ?_ | refine JE.then_exit ?_ | refine JE.blk_hit ?_ | refine JE.blk_miss rfl ?_ | refine JE.then_ret ?_ | refine JE.blk_ret ?_ | refine JC.label ?_ | refine JL.gon rfl rfl ?_ | refine JQ.gon rfl rfl ?_ | refine JL.gskip rfl rfl rfl rfl ?_ | refine JQ.gskip rfl rfl rfl rfl ?_ | refine JL.gskipU rfl rfl rfl rfl ?_ | refine JQ.gskipU rfl rfl rfl rfl ?_)
    refine JL.perm (M' := dkE ⟨h.x.p, h.x.q, h.x.cap, qa⟩ (putAt bl (h.first + nb s0.l.length) (allB g 1 rt)) ps ++ [⟨j, Row 88 (hfc (begH h g ls)), true⟩]) ?_ (by exact List.perm_append_comm (l₁ := [_]))
    refine JL.callV (ι := Dw ⟨h.x.p, h.x.q, h.x.cap, qa⟩ (putAt bl h.first (allB g 0 ls)) (ps.length + nb s0.l.length)) (vs := [.agg (hfc (begH h g ls)).toArray, N 0, N 0, s0.v]) (fun _ => .tuple #[]) (fun z => z.E) goes_jwrite rfl rfl (dkE_wr _ _ _) (fun z => z.wr) cW fun z => ?_
    refine JL.perm (M' := ⟨j, Row 88 (hfc (begH h g ls)), true⟩ :: z.E) ?_ (by exact List.perm_append_comm (l₂ := [_]))
    repeat (first | refine JL.q (by first | (apply OQ.load; exact jbC; exact rfl; exact .here; exact (Row.cell (v := ifD h.x) rfl)) | (apply OQ.move; exact rfl) | (apply OQ.assign; exact rfl) | (apply OQ.nilc; exact rfl) | (apply OQ.len; exact rfl; exact rfl) | (apply OQ.addN; exact rfl; exact rfl; exact (by (try simp only []); omega)) | (apply OQ.subN; exact rfl; exact rfl; exact (by (try simp only []); omega); exact (by (try simp only []); omega)) | (apply OQ.lssN; exact rfl; exact rfl) | (apply OQ.gtrN; exact rfl; exact rfl) | (apply OQ.fld; exact rfl; exact rfl; exact rfl; exact (by decide); exact rfl)) rfl ?_ | refine JQ.q (by first | (apply OQ.load; exact jbC; exact rfl; exact .here; exact (Row.cell (v := ifD h.x) rfl)) | (apply OQ.move; exact rfl) | (apply OQ.assign; exact rfl) | (apply OQ.nilc; exact rfl) | (apply OQ.len; exact rfl; exact rfl) | (apply OQ.addN; exact rfl; exact rfl; exact (by (try simp only []); omega)) | (apply OQ.subN; exact rfl; exact rfl; exact (by (try simp only []); omega); exact (by (try simp only []); omega)) | (apply OQ.lssN; exact rfl; exact rfl) | (apply OQ.gtrN; exact rfl; exact rfl) | (apply OQ.fld; exact rfl; exact rfl; exact rfl; exact (by decide); exact rfl)) rfl ?_ | refine JC.seq ?_ | refine JC.region ?_ | refine JC.block ?_ | refine JC.skip ?_ | refine JC.exit ?_ | refine JL.nil ?_ | refine JQ.nil ?_ | refine JQ.nil_tail ?_ | refine JE.next ?_ | refine JE.blk_normal ?_ | refine JE.then_exit ?_ | refine JE.blk_hit ?_ | refine JE.blk_miss rfl ?_ | refine JE.then_ret ?_ | refine JE.blk_ret ?_ | refine JC.label ?_ | refine JL.gon rfl rfl ?_ | refine JQ.gon rfl rfl ?_ | refine JL.gskip rfl rfl rfl rfl ?_ | refine JQ.gskip rfl rfl rfl rfl ?_ | refine JL.gskipU rfl rfl rfl rfl ?_ | refine JQ.gskipU rfl rfl rfl rfl ?_)
    refine JL.perm (M' := dkE ⟨h.x.p, h.x.q, h.x.cap, z.a⟩ (putAt bl h.first (allB g 0 ls)) z.pd ++ [⟨j, Row 88 (hfc (begH h g ls)), true⟩]) ?_ (by exact List.perm_append_comm (l₁ := [_]))
    refine JL.isync rfl rfl ?_
    repeat (first | refine JL.q (by first | (apply OQ.move; exact rfl) | (apply OQ.assign; exact rfl) | (apply OQ.nilc; exact rfl) | (apply OQ.len; exact rfl; exact rfl) | (apply OQ.addN; exact rfl; exact rfl; exact (by (try simp only []); omega)) | (apply OQ.subN; exact rfl; exact rfl; exact (by (try simp only []); omega); exact (by (try simp only []); omega)) | (apply OQ.lssN; exact rfl; exact rfl) | (apply OQ.gtrN; exact rfl; exact rfl) | (apply OQ.fld; exact rfl; exact rfl; exact rfl; exact (by decide); exact rfl)) rfl ?_ | refine JQ.q (by first | (apply OQ.move; exact rfl) | (apply OQ.assign; exact rfl) | (apply OQ.nilc; exact rfl) | (apply OQ.len; exact rfl; exact rfl) | (apply OQ.addN; exact rfl; exact rfl; exact (by (try simp only []); omega)) | (apply OQ.subN; exact rfl; exact rfl; exact (by (try simp only []); omega); exact (by (try simp only []); omega)) | (apply OQ.lssN; exact rfl; exact rfl) | (apply OQ.gtrN; exact rfl; exact rfl) | (apply OQ.fld; exact rfl; exact rfl; exact rfl; exact (by decide); exact rfl)) rfl ?_ | refine JC.seq ?_ | refine JC.region ?_ | refine JC.block ?_ | refine JC.skip ?_ | refine JC.exit ?_ | refine JL.nil ?_ | refine JQ.nil ?_ | refine JQ.nil_tail ?_ | refine JE.next ?_ | refine JE.blk_normal ?_ | refine JE.then_exit ?_ | refine JE.blk_hit ?_ | refine JE.blk_miss rfl ?_ | refine JE.then_ret ?_ | refine JE.blk_ret ?_ | refine JC.label ?_ | refine JL.gon rfl rfl ?_ | refine JQ.gon rfl rfl ?_ | refine JL.gskip rfl rfl rfl rfl ?_ | refine JQ.gskip rfl rfl rfl rfl ?_ | refine JL.gskipU rfl rfl rfl rfl ?_ | refine JQ.gskipU rfl rfl rfl rfl ?_)
    refine JE.perm (M' := ⟨j, Row 88 (hfc (begH h g ls)), true⟩ :: dkE (sync0 h.x) (putAt bl h.first (allB g 0 ls)) []) (by exact List.perm_append_comm (l₂ := [_])) ?_
    exact JE.end0 rfl fun w' hw => ⟨rfl, hw⟩
end Go.Proofs.Ytopdkpeahhnihaa

/-
  Of no statement by itself: the landed journal's open, Open.
  Conditions: each theorem's own.
-/
namespace Go.Proofs.Ytopdkpeahhnihaa
set_option maxRecDepth 10000
open Sl Dsk Jrn
theorem rd_room {g : BitVec 32} {r : Nat} : ∀ {bs : List Bk} {p : Nat} {acc rec : Bk} {k : Nat}, rd g r bs p acc = some (rec, k) → (∀ b ∈ bs, b.length = 64) → acc.length ≤ p * 42 → rec.length ≤ k * 42
  | [], _, _, _, _, h, _, _ => by simp [rd] at h
  | b :: bs, p, acc, rec, k, h, hb, ha => by
    unfold rd at h
    split at h
    case isTrue hw =>
      have ⟨h1, h2⟩ := part_len (hb b (by simp)) hw.1
      split at h
      · simp only [Option.some.injEq, Prod.mk.injEq] at h
        rw [← h.1, ← h.2, List.length_append, h1]
        omega
      · exact rd_room h (fun x hx => hb x (by simp [hx])) (by rw [List.length_append, h1]; omega)
    · cases h
theorem toldN_room {g : BitVec 32} : ∀ (f : Nat) (bs : List Bk) (n : Nat), (∀ b ∈ bs, b.length = 64) → room (toldN g f bs n) ≤ bs.length
  | 0, bs, n, _ => Nat.zero_le _
  | f + 1, bs, n, hb => by
    rw [toldN]
    cases h : rd g n bs 0 [] with
    | none => exact Nat.zero_le _
    | some rk =>
      obtain ⟨rec, k⟩ := rk
      have h1 := rd_room h hb (Nat.zero_le _)
      have h2 := rd_le h
      have ih := toldN_room (g := g) f (bs.drop k) (n + 1) (fun b hx => hb b (List.mem_of_mem_drop hx))
      rw [List.length_drop] at ih
      rw [room_cons]
      have : nb rec.length ≤ k := by unfold nb; omega
      omega
theorem recH_room {bl : List Bk} {first : Nat} (hb : ∀ b ∈ bl, b.length = 64) (h : first + bl.length / 2 ≤ bl.length) : room (recH bl first) ≤ bl.length / 2 := by
  unfold recH toldH told
  refine Nat.le_trans (toldN_room _ _ _ ?_) (by rw [bsOf_len h]; omega)
  intro b hx
  unfold bsOf at hx
  exact hb b (List.mem_of_mem_drop (List.mem_of_mem_take (List.mem_of_mem_drop hx)))
theorem curF_room {bl : List Bk} (hb : ∀ b ∈ bl, b.length = 64) (h4 : 4 ≤ bl.length) : room (curF bl).2.2 ≤ bl.length / 2 ∧ 0 < (curF bl).2.2.length ∧ (curF bl).1 ≤ bl.length / 2 := by
  have h0 : ∀ f, (0 : Int) < ((genH bl f).toNat : Int) → 0 < (recH bl f).length := fun f h => by
    unfold genH at h
    split at h
    · simp at h
    · omega
  unfold curF
  split
  case isTrue h => exact ⟨recH_room hb (by omega), h0 _ h.1, Nat.zero_le _⟩
  · split
    case isTrue h => exact ⟨recH_room hb (by omega), h0 _ h, Nat.le_refl _⟩
    · exact ⟨by show 1 + 0 ≤ _; omega, Nat.zero_lt_one, Nat.le_refl _⟩
theorem away_gr {w0 w : World} {S : List Nat} {X M : List Ent} {z : Gr} (hw : Holds w0 S (X ++ (z.E ++ M)) w) : AwayL z.s (keys X) := by
  have key : ∀ b, b ∈ z.E.map Ent.b → b ∉ keys X := fun b hb hm => by
    have hn := hw.nodup
    rw [List.map_append, List.nodup_append] at hn
    exact hn.2.2 b hm b (by rw [List.map_append]; exact List.mem_append_left _ hb) rfl
  obtain ⟨q, rs, hq, hr⟩ := z
  refine ⟨fun _ a ha => ?_, fun y hy h0 a ha => ?_⟩
  · cases q with
    | none => cases ha
    | some p =>
      have : a = ⟨p.1, 0, none⟩ := by cases ha; rfl
      rw [this]
      exact key p.1 (by unfold Gr.E; rw [List.map_append]; exact List.mem_append_left _ (by simp [accE]))
  · have hy' : y ∈ rs := by
      have := accL_rs hq
      unfold Gr.s at hy
      rwa [this] at hy
    refine key a.block ?_
    unfold Gr.E
    rw [List.map_append]
    refine List.mem_append_right _ ?_
    unfold flatE
    rw [List.map_flatMap, List.mem_flatMap]
    exact ⟨y, hy', by unfold Sl8.ents; rw [ha]; simp⟩
theorem goes_jopen : Goes Try.prog 51 := ⟨_, Try.func51, rfl, by kernel_rfl⟩
theorem goes_jOpen : Goes Try.prog 36 := ⟨_, Try.func36, rfl, by kernel_rfl⟩
/-- why a journal isn't opened -/
def noOpen (bl : List Bk) : Nat := if bl.length < 4 then 2 else if gm bl = 4294967295#32 then 6 else 0
set_option maxHeartbeats 16000000 in
theorem open_no (x : Dp) (bl : List Bk) (pd : List (Nat × Bk)) (ok : Ok bl pd) (hn : bl.length ≤ 65536) (hno : noOpen bl ≠ 0) (w : World) (h0 : Holds w [] (dkR x bl pd) w) :
    Calls Try.prog 51 [ifD x].toArray w fun e w' => e = .returned (.tuple #[.pointer none, N (noOpen bl)]) ∧ Ext w w' := by
  refine enter (n := 36) Try.func51 rfl rfl rfl h0 ?_
  repeat (first | refine JL.q (by first | (apply OQ.inv (xs := []); exact (isSize x); exact rfl; exact (OQ.callx (vs := [Pt x.p 0]) goes_dsizej rfl (fun w' hw' => dsizeR x bl pd w' (dkR_front (A := []) (M := []) hw')))) | (apply OQ.move; exact rfl) | (apply OQ.assign; exact rfl) | (apply OQ.nilc; exact rfl) | (apply OQ.len; exact rfl; exact rfl) | (apply OQ.addN; exact rfl; exact rfl; exact (by (try simp only []); omega)) | (apply OQ.subN; exact rfl; exact rfl; exact (by (try simp only []); omega); exact (by (try simp only []); omega)) | (apply OQ.lssN; exact rfl; exact rfl) | (apply OQ.gtrN; exact rfl; exact rfl) | (apply OQ.fld; exact rfl; exact rfl; exact rfl; exact (by decide); exact rfl)) rfl ?_ | refine JC.seq ?_ | refine JC.region ?_ | refine JC.block ?_ | refine JC.skip ?_ | refine JC.exit ?_ | refine JL.nil ?_ | refine JE.next ?_ | refine JE.blk_normal ?_ | refine JE.then_exit ?_ | refine JE.blk_hit ?_ | refine JE.blk_miss rfl ?_ | refine JE.then_ret ?_ | refine JE.blk_ret ?_ | refine JC.label ?_ | refine JL.gon rfl rfl ?_ | refine JL.gskip rfl rfl rfl rfl ?_ | refine JL.gskipU rfl rfl rfl rfl ?_)
  refine JC.cond rfl (fun hc => ?_) (fun hc => ?_)
  · have h4 : bl.length < 4 := by have := of_decide_eq_true hc; omega
    unfold noOpen
    rw [if_pos h4]
    repeat (first | refine JL.q (by first | (apply OQ.move; exact rfl) | (apply OQ.assign; exact rfl) | (apply OQ.nilc; exact rfl) | (apply OQ.len; exact rfl; exact rfl) | (apply OQ.addN; exact rfl; exact rfl; exact (by (try simp only []); omega)) | (apply OQ.subN; exact rfl; exact rfl; exact (by (try simp only []); omega); exact (by (try simp only []); omega)) | (apply OQ.lssN; exact rfl; exact rfl) | (apply OQ.gtrN; exact rfl; exact rfl) | (apply OQ.fld; exact rfl; exact rfl; exact rfl; exact (by decide); exact rfl)) rfl ?_ | refine JC.seq ?_ | refine JC.region ?_ | refine JC.block ?_ | refine JC.skip ?_ | refine JC.exit ?_ | refine JL.nil ?_ | refine JE.next ?_ | refine JE.blk_normal ?_ | refine JE.then_exit ?_ | refine JE.blk_hit ?_ | refine JE.blk_miss rfl ?_ | refine JE.then_ret ?_ | refine JE.blk_ret ?_ | refine JC.label ?_ | refine JL.gon rfl rfl ?_ | refine JL.gskip rfl rfl rfl rfl ?_ | refine JL.gskipU rfl rfl rfl rfl ?_)
    refine JC.ret ?_
    repeat (first | refine JL.q (by first | (apply OQ.move; exact rfl) | (apply OQ.assign; exact rfl) | (apply OQ.nilc; exact rfl) | (apply OQ.len; exact rfl; exact rfl) | (apply OQ.addN; exact rfl; exact rfl; exact (by (try simp only []); omega)) | (apply OQ.subN; exact rfl; exact rfl; exact (by (try simp only []); omega); exact (by (try simp only []); omega)) | (apply OQ.lssN; exact rfl; exact rfl) | (apply OQ.gtrN; exact rfl; exact rfl) | (apply OQ.fld; exact rfl; exact rfl; exact rfl; exact (by decide); exact rfl)) rfl ?_ | refine JC.seq ?_ | refine JC.region ?_ | refine JC.block ?_ | refine JC.skip ?_ | refine JC.exit ?_ | refine JL.nil ?_ | refine JE.next ?_ | refine JE.blk_normal ?_ | refine JE.then_exit ?_ | refine JE.blk_hit ?_ | refine JE.blk_miss rfl ?_ | refine JE.then_ret ?_ | refine JE.blk_ret ?_ | refine JC.label ?_ | refine JL.gon rfl rfl ?_ | refine JL.gskip rfl rfl rfl rfl ?_ | refine JL.gskipU rfl rfl rfl rfl ?_)
    exact JE.ret2 rfl (RV.tmp rfl) (RV.tmp rfl) fun w' hw => ⟨rfl, hw.chg⟩
  · have h4 : ¬ bl.length < 4 := by have := of_decide_eq_false hc; omega
    unfold noOpen at hno ⊢
    rw [if_neg h4] at hno ⊢
    have hg : gm bl = 4294967295#32 := by
      by_cases hg : gm bl = 4294967295#32
      · exact hg
      · rw [if_neg hg] at hno; exact absurd rfl hno
    rw [if_pos hg]
    have cN := fun {u w' : World} {S : List Nat} (hw' : Holds u S (dkR x bl pd) w') => newGen_any x bl pd ok hn w' (dkR_front (A := []) (M := []) hw')
    have eG : newG bl = .tuple #[U32 0, N 6] := by unfold newG; rw [if_pos hg]
    rw [eG] at cN
    repeat (first | refine JL.q (by first | (apply OQ.callx (vs := [ifD x]); exact goes_newGen; exact rfl; exact (fun w' hw' => cN hw')) | (apply OQ.extract; exact rfl; exact rfl) | (apply OQ.neB (a := 6) (b := 0) (c := false); exact rfl; exact rfl; exact rfl) | (apply OQ.move; exact rfl) | (apply OQ.assign; exact rfl) | (apply OQ.nilc; exact rfl) | (apply OQ.len; exact rfl; exact rfl) | (apply OQ.addN; exact rfl; exact rfl; exact (by (try simp only []); omega)) | (apply OQ.subN; exact rfl; exact rfl; exact (by (try simp only []); omega); exact (by (try simp only []); omega)) | (apply OQ.lssN; exact rfl; exact rfl) | (apply OQ.gtrN; exact rfl; exact rfl) | (apply OQ.fld; exact rfl; exact rfl; exact rfl; exact (by decide); exact rfl)) rfl ?_ | refine JC.seq ?_ | refine JC.region ?_ | refine JC.block ?_ | refine JC.skip ?_ | refine JC.exit ?_ | refine JL.nil ?_ | refine JE.next ?_ | refine JE.blk_normal ?_ | refine JE.then_exit ?_ | refine JE.blk_hit ?_ | refine JE.blk_miss rfl ?_ | refine JE.then_ret ?_ | refine JE.blk_ret ?_ | refine JC.label ?_ | refine JL.gon rfl rfl ?_ | refine JL.gskip rfl rfl rfl rfl ?_ | refine JL.gskipU rfl rfl rfl rfl ?_)
    refine JC.cond_true rfl rfl ?_
    repeat (first | refine JL.q (by first | (apply OQ.move; exact rfl) | (apply OQ.assign; exact rfl) | (apply OQ.nilc; exact rfl) | (apply OQ.len; exact rfl; exact rfl) | (apply OQ.addN; exact rfl; exact rfl; exact (by (try simp only []); omega)) | (apply OQ.subN; exact rfl; exact rfl; exact (by (try simp only []); omega); exact (by (try simp only []); omega)) | (apply OQ.lssN; exact rfl; exact rfl) | (apply OQ.gtrN; exact rfl; exact rfl) | (apply OQ.fld; exact rfl; exact rfl; exact rfl; exact (by decide); exact rfl)) rfl ?_ | refine JC.seq ?_ | refine JC.region ?_ | refine JC.block ?_ | refine JC.skip ?_ | refine JC.exit ?_ | refine JL.nil ?_ | refine JE.next ?_ | refine JE.blk_normal ?_ | refine JE.then_exit ?_ | refine JE.blk_hit ?_ | refine JE.blk_miss rfl ?_ | refine JE.then_ret ?_ | refine JE.blk_ret ?_ | refine JC.label ?_ | refine JL.gon rfl rfl ?_ | refine JL.gskip rfl rfl rfl rfl ?_ | refine JL.gskipU rfl rfl rfl rfl ?_)
    refine JC.ret ?_
    repeat (first | refine JL.q (by first | (apply OQ.move; exact rfl) | (apply OQ.assign; exact rfl) | (apply OQ.nilc; exact rfl) | (apply OQ.len; exact rfl; exact rfl) | (apply OQ.addN; exact rfl; exact rfl; exact (by (try simp only []); omega)) | (apply OQ.subN; exact rfl; exact rfl; exact (by (try simp only []); omega); exact (by (try simp only []); omega)) | (apply OQ.lssN; exact rfl; exact rfl) | (apply OQ.gtrN; exact rfl; exact rfl) | (apply OQ.fld; exact rfl; exact rfl; exact rfl; exact (by decide); exact rfl)) rfl ?_ | refine JC.seq ?_ | refine JC.region ?_ | refine JC.block ?_ | refine JC.skip ?_ | refine JC.exit ?_ | refine JL.nil ?_ | refine JE.next ?_ | refine JE.blk_normal ?_ | refine JE.then_exit ?_ | refine JE.blk_hit ?_ | refine JE.blk_miss rfl ?_ | refine JE.then_ret ?_ | refine JE.blk_ret ?_ | refine JC.label ?_ | refine JL.gon rfl rfl ?_ | refine JL.gskip rfl rfl rfl rfl ?_ | refine JL.gskipU rfl rfl rfl rfl ?_)
    exact JE.ret2 rfl (RV.tmp rfl) (RV.tmp rfl) fun w' hw => ⟨rfl, hw.chg⟩
/-- the half that a journal that is opened begins in -/
def opnH (x : Dp) (bl : List Bk) : Hf := ⟨x, bl.length / 2 - (curF bl).1, bl.length / 2, 0, 0, 0⟩
def opnD (bl : List Bk) : List Bk := putAt bl (bl.length / 2 - (curF bl).1) (allB (gm bl + 1#32) 0 (curF bl).2.2)
def syH (h : Hf) : Hf := ⟨sync0 h.x, h.first, h.size, h.g, h.count, h.used⟩
def opnJ (x : Dp) (bl : List Bk) : Hf := syH (begH (opnH x bl) (gm bl + 1#32) (curF bl).2.2)
set_option maxHeartbeats 32000000 in
theorem open_yes (x : Dp) (bl : List Bk) (pd : List (Nat × Bk)) (hd : DkOk x bl pd) (hp : pd.length ≤ 900000) (hno : noOpen bl = 0) (w : World) (h0 : Holds w (keys (dkE x bl pd)) (dkE x bl pd) w) :
    Calls Try.prog 51 [ifD x].toArray w fun e w' => ∃ j : Nat, e = .returned (.tuple #[Pt j 0, N 0]) ∧ Holds w (keys (dkE x bl pd)) (jnE j (opnJ x bl) (opnD bl) []) w' := by
  have hn := hd.n1
  have h4 : ¬ bl.length < 4 := fun h => by unfold noOpen at hno; rw [if_pos h] at hno; cases hno
  have hg : ¬ gm bl = 4294967295#32 := fun h => by unfold noOpen at hno; rw [if_neg h4, if_pos h] at hno; cases hno
  have cN := fun {u w' : World} {S : List Nat} {M : List Ent} (hw' : Holds u S (dkE x bl pd ++ M) w') => newGen_any x bl pd hd.ok hn w' (dkR_of hw')
  have eG : newG bl = .tuple #[U32 (gm bl + 1#32), N 0] := by unfold newG; rw [if_neg hg]
  rw [eG] at cN
  have ⟨hr1, hr2, hr3⟩ := curF_room (bl := bl) hd.ok.b (by omega)
  generalize hS : keys (dkE x bl pd) = S at h0 ⊢
  refine enter (n := 36) Try.func51 rfl rfl rfl h0 ?_
  repeat (first | refine JL.q (by first | (apply OQ.inv (xs := []); exact (isSize x); exact rfl; exact (OQ.callx (vs := [Pt x.p 0]) goes_dsizej rfl (fun w' hw' => dsizeR x bl pd w' (dkR_of (M := []) (by rw [List.append_nil]; exact hw'))))) | (apply OQ.move; exact rfl) | (apply OQ.assign; exact rfl) | (apply OQ.nilc; exact rfl) | (apply OQ.len; exact rfl; exact rfl) | (apply OQ.addN; exact rfl; exact rfl; exact (by (try simp only []); omega)) | (apply OQ.subN; exact rfl; exact rfl; exact (by (try simp only []); omega); exact (by (try simp only []); omega)) | (apply OQ.lssN; exact rfl; exact rfl) | (apply OQ.gtrN; exact rfl; exact rfl) | (apply OQ.fld; exact rfl; exact rfl; exact rfl; exact (by decide); exact rfl)) rfl ?_ | refine JC.seq ?_ | refine JC.region ?_ | refine JC.block ?_ | refine JC.skip ?_ | refine JC.exit ?_ | refine JL.nil ?_ | refine JE.next ?_ | refine JE.blk_normal ?_ | refine JE.then_exit ?_ | refine JE.blk_hit ?_ | refine JE.blk_miss rfl ?_ | refine JE.then_ret ?_ | refine JE.blk_ret ?_ | refine JC.label ?_ | refine JL.gon rfl rfl ?_ | refine JL.gskip rfl rfl rfl rfl ?_ | refine JL.gskipU rfl rfl rfl rfl ?_)
  refine JC.cond rfl (fun hc => absurd (of_decide_eq_true hc) (by omega)) (fun _ => ?_)
  repeat (first | refine JL.q (by first | (apply OQ.callx (vs := [ifD x]); exact goes_newGen; exact rfl; exact (fun w' hw' => cN (M := []) (by rw [List.append_nil]; exact hw'))) | (apply OQ.extract; exact rfl; exact rfl) | (apply OQ.neB (a := 0) (b := 0) (c := true); exact rfl; exact rfl; exact rfl) | (apply OQ.move; exact rfl) | (apply OQ.assign; exact rfl) | (apply OQ.nilc; exact rfl) | (apply OQ.len; exact rfl; exact rfl) | (apply OQ.addN; exact rfl; exact rfl; exact (by (try simp only []); omega)) | (apply OQ.subN; exact rfl; exact rfl; exact (by (try simp only []); omega); exact (by (try simp only []); omega)) | (apply OQ.lssN; exact rfl; exact rfl) | (apply OQ.gtrN; exact rfl; exact rfl) | (apply OQ.fld; exact rfl; exact rfl; exact rfl; exact (by decide); exact rfl)) rfl ?_ | refine JC.seq ?_ | refine JC.region ?_ | refine JC.block ?_ | refine JC.skip ?_ | refine JC.exit ?_ | refine JL.nil ?_ | refine JE.next ?_ | refine JE.blk_normal ?_ | refine JE.then_exit ?_ | refine JE.blk_hit ?_ | refine JE.blk_miss rfl ?_ | refine JE.then_ret ?_ | refine JE.blk_ret ?_ | refine JC.label ?_ | refine JL.gon rfl rfl ?_ | refine JL.gskip rfl rfl rfl rfl ?_ | refine JL.gskipU rfl rfl rfl rfl ?_)
  refine JC.cond_false rfl rfl ?_
  repeat (first | refine JL.q (by first | (apply OQ.move; exact rfl) | (apply OQ.assign; exact rfl) | (apply OQ.nilc; exact rfl) | (apply OQ.len; exact rfl; exact rfl) | (apply OQ.addN; exact rfl; exact rfl; exact (by (try simp only []); omega)) | (apply OQ.subN; exact rfl; exact rfl; exact (by (try simp only []); omega); exact (by (try simp only []); omega)) | (apply OQ.lssN; exact rfl; exact rfl) | (apply OQ.gtrN; exact rfl; exact rfl) | (apply OQ.fld; exact rfl; exact rfl; exact rfl; exact (by decide); exact rfl)) rfl ?_ | refine JC.seq ?_ | refine JC.region ?_ | refine JC.block ?_ | refine JC.skip ?_ | refine JC.exit ?_ | refine JL.nil ?_ | refine JE.next ?_ | refine JE.blk_normal ?_ | refine JE.then_exit ?_ | refine JE.blk_hit ?_ | refine JE.blk_miss rfl ?_ | refine JE.then_ret ?_ | refine JE.blk_ret ?_ | refine JC.label ?_ | refine JL.gon rfl rfl ?_ | refine JL.gskip rfl rfl rfl rfl ?_ | refine JL.gskipU rfl rfl rfl rfl ?_)
  refine JL.callg (ι := GrOf (curF bl).2.2 (bl.length / 2)) (vs := [ifD x]) (fun z => .tuple #[.agg (hfc ⟨x, (curF bl).1, bl.length / 2, (curF bl).2.1, 0, 0⟩).toArray, z.1.v]) (fun z => z.1.E) goes_cur rfl rfl (fun z => z.1.wr) (fun w' hw' => cur_any x bl pd hd.ok hn (by omega) w' (dkR_of (M := []) (by rw [List.append_nil]; exact hw'))) fun z => ?_
  repeat (first | refine JL.q (by first | (apply OQ.extract; exact rfl; exact rfl) | (apply OQ.move; exact rfl) | (apply OQ.assign; exact rfl) | (apply OQ.nilc; exact rfl) | (apply OQ.len; exact rfl; exact rfl) | (apply OQ.addN; exact rfl; exact rfl; exact (by (try simp only []); omega)) | (apply OQ.subN; exact rfl; exact rfl; exact (by (try simp only []); omega); exact (by (try simp only []); omega)) | (apply OQ.lssN; exact rfl; exact rfl) | (apply OQ.gtrN; exact rfl; exact rfl) | (apply OQ.fld; exact rfl; exact rfl; exact rfl; exact (by decide); exact rfl)) rfl ?_ | refine JC.seq ?_ | refine JC.region ?_ | refine JC.block ?_ | refine JC.skip ?_ | refine JC.exit ?_ | refine JL.nil ?_ | refine JE.next ?_ | refine JE.blk_normal ?_ | refine JE.then_exit ?_ | refine JE.blk_hit ?_ | refine JE.blk_miss rfl ?_ | refine JE.then_ret ?_ | refine JE.blk_ret ?_ | refine JC.label ?_ | refine JL.gon rfl rfl ?_ | refine JL.gskip rfl rfl rfl rfl ?_ | refine JL.gskipU rfl rfl rfl rfl ?_)
  refine JL.alloc (r := hfc0) hfZ rfl fun b6 _ => ?_
  refine JL.store_all (cs := hfc ⟨x, (curF bl).1, bl.length / 2, (curF bl).2.1, 0, 0⟩) hf6 rfl rfl rfl rfl .here rfl ?_
  have cO := fun w' => other_any ⟨x, (curF bl).1, bl.length / 2, (curF bl).2.1, 0, 0⟩ hr3 (by show bl.length / 2 < _; omega) w'
  repeat (first | refine JL.q (by first | (apply OQ.load_agg (cs := hfc ⟨x, (curF bl).1, bl.length / 2, (curF bl).2.1, 0, 0⟩); exact hfAg; exact hf6; exact rfl; exact .here; exact rfl; exact Row.all) | (apply OQ.callx (vs := [.agg (hfc ⟨x, (curF bl).1, bl.length / 2, (curF bl).2.1, 0, 0⟩).toArray]); exact goes_other; exact rfl; exact (fun w' _ => cO w')) | (apply OQ.buildJ (h := opnH x bl); exact rfl) | (apply OQ.move; exact rfl) | (apply OQ.assign; exact rfl) | (apply OQ.nilc; exact rfl) | (apply OQ.len; exact rfl; exact rfl) | (apply OQ.addN; exact rfl; exact rfl; exact (by (try simp only []); omega)) | (apply OQ.subN; exact rfl; exact rfl; exact (by (try simp only []); omega); exact (by (try simp only []); omega)) | (apply OQ.lssN; exact rfl; exact rfl) | (apply OQ.gtrN; exact rfl; exact rfl) | (apply OQ.fld; exact rfl; exact rfl; exact rfl; exact (by decide); exact rfl)) rfl ?_ | refine JC.seq ?_ | refine JC.region ?_ | refine JC.block ?_ | refine JC.skip ?_ | refine JC.exit ?_ | refine JL.nil ?_ | refine JE.next ?_ | refine JE.blk_normal ?_ | refine JE.then_exit ?_ | refine JE.blk_hit ?_ | refine JE.blk_miss rfl ?_ | refine JE.then_ret ?_ | refine JE.blk_ret ?_ | refine JC.label ?_ | refine JL.gon rfl rfl ?_ | refine JL.gskip rfl rfl rfl rfl ?_ | refine JL.gskipU rfl rfl rfl rfl ?_)
  refine JL.box (r := hfc (opnH x bl)) rfl rfl rfl fun j _ => ?_
  obtain ⟨z, hz1, hz2⟩ := z
  have hzl : z.s.rs.map Sl8.l = (curF bl).2.2 := by rw [z.rs_eq]; exact hz1
  have hzn : 0 < z.s.rs.length := by rw [← hzl, List.length_map] at hr2; exact hr2
  refine JL.perm (M' := jnE j (opnH x bl) bl pd ++ (z.E ++ [⟨b6, Row 86 (hfc ⟨x, (curF bl).1, bl.length / 2, (curF bl).2.1, 0, 0⟩), true⟩])) ?_ (by
    refine List.Perm.cons _ ?_
    refine (List.perm_append_singleton _ _).symm.trans ?_
    rw [List.append_assoc]
    exact List.perm_append_comm_assoc _ _ _)
  have cB := fun w' (hw' : Holds w S (jnE j (opnH x bl) bl pd ++ (z.E ++ [⟨b6, Row 86 (hfc ⟨x, (curF bl).1, bl.length / 2, (curF bl).2.1, 0, 0⟩), true⟩])) w') hx' => begin_any j (opnH x bl) bl pd (gm bl + 1#32) z.s hd (by show bl.length / 2 - (curF bl).1 + bl.length / 2 ≤ bl.length; omega) hzn (by rw [hzl]; exact hr1) (by show pd.length + (bl.length / 2 + bl.length / 2) ≤ _; omega) w' (z.ok (hw'.weak (less_app (jnE j (opnH x bl) bl pd) (less_pre _ _)))) (away_gr hw') hx'
  rw [hzl, z.v_eq] at cB
  repeat (first | refine JL.q (by first | (apply OQ.move; exact rfl) | (apply OQ.assign; exact rfl) | (apply OQ.nilc; exact rfl) | (apply OQ.len; exact rfl; exact rfl) | (apply OQ.addN; exact rfl; exact rfl; exact (by (try simp only []); omega)) | (apply OQ.subN; exact rfl; exact rfl; exact (by (try simp only []); omega); exact (by (try simp only []); omega)) | (apply OQ.lssN; exact rfl; exact rfl) | (apply OQ.gtrN; exact rfl; exact rfl) | (apply OQ.fld; exact rfl; exact rfl; exact rfl; exact (by decide); exact rfl)) rfl ?_ | refine JC.seq ?_ | refine JC.region ?_ | refine JC.block ?_ | refine JC.skip ?_ | refine JC.exit ?_ | refine JL.nil ?_ | refine JE.next ?_ | refine JE.blk_normal ?_ | refine JE.then_exit ?_ | refine JE.blk_hit ?_ | refine JE.blk_miss rfl ?_ | refine JE.then_ret ?_ | refine JE.blk_ret ?_ | refine JC.label ?_ | refine JL.gon rfl rfl ?_ | refine JL.gskip rfl rfl rfl rfl ?_ | refine JL.gskipU rfl rfl rfl rfl ?_)
  refine JL.callV (ι := Unit) (vs := [Pt j 0, U32 (gm bl + 1#32), z.v]) (fun _ => .tuple #[]) (fun _ => jnE j (opnJ x bl) (opnD bl) []) goes_begin rfl rfl (jnE_wr _ _ _ _) (fun _ => jnE_wr _ _ _ _) (fun w' hw' hx' => (cB w' hw' hx').mono fun e w2 ⟨h1, h2⟩ => ⟨(), h1, h2⟩) fun _ => ?_
  repeat (first | refine JL.q (by first | (apply OQ.move; exact rfl) | (apply OQ.assign; exact rfl) | (apply OQ.nilc; exact rfl) | (apply OQ.len; exact rfl; exact rfl) | (apply OQ.addN; exact rfl; exact rfl; exact (by (try simp only []); omega)) | (apply OQ.subN; exact rfl; exact rfl; exact (by (try simp only []); omega); exact (by (try simp only []); omega)) | (apply OQ.lssN; exact rfl; exact rfl) | (apply OQ.gtrN; exact rfl; exact rfl) | (apply OQ.fld; exact rfl; exact rfl; exact rfl; exact (by decide); exact rfl)) rfl ?_ | refine JC.seq ?_ | refine JC.region ?_ | refine JC.block ?_ | refine JC.skip ?_ | refine JC.exit ?_ | refine JL.nil ?_ | refine JE.next ?_ | refine JE.blk_normal ?_ | refine JE.then_exit ?_ | refine JE.blk_hit ?_ | refine JE.blk_miss rfl ?_ | refine JE.then_ret ?_ | refine JE.blk_ret ?_ | refine JC.label ?_ | refine JL.gon rfl rfl ?_ | refine JL.gskip rfl rfl rfl rfl ?_ | refine JL.gskipU rfl rfl rfl rfl ?_)
  refine JC.ret ?_
  repeat (first | refine JL.q (by first | (apply OQ.move; exact rfl) | (apply OQ.assign; exact rfl) | (apply OQ.nilc; exact rfl) | (apply OQ.len; exact rfl; exact rfl) | (apply OQ.addN; exact rfl; exact rfl; exact (by (try simp only []); omega)) | (apply OQ.subN; exact rfl; exact rfl; exact (by (try simp only []); omega); exact (by (try simp only []); omega)) | (apply OQ.lssN; exact rfl; exact rfl) | (apply OQ.gtrN; exact rfl; exact rfl) | (apply OQ.fld; exact rfl; exact rfl; exact rfl; exact (by decide); exact rfl)) rfl ?_ | refine JC.seq ?_ | refine JC.region ?_ | refine JC.block ?_ | refine JC.skip ?_ | refine JC.exit ?_ | refine JL.nil ?_ | refine JE.next ?_ | refine JE.blk_normal ?_ | refine JE.then_exit ?_ | refine JE.blk_hit ?_ | refine JE.blk_miss rfl ?_ | refine JE.then_ret ?_ | refine JE.blk_ret ?_ | refine JC.label ?_ | refine JL.gon rfl rfl ?_ | refine JL.gskip rfl rfl rfl rfl ?_ | refine JL.gskipU rfl rfl rfl rfl ?_)
  exact JE.ret2 rfl (RV.tmp rfl) (RV.tmp rfl) fun w' hw => ⟨j, rfl, hw.weak (less_pre _ _)⟩
theorem Open_no (x : Dp) (bl : List Bk) (pd : List (Nat × Bk)) (ok : Ok bl pd) (hn : bl.length ≤ 65536) (hno : noOpen bl ≠ 0) (w : World) (h0 : Holds w [] (dkR x bl pd) w) :
    Calls Try.prog 36 [Pt x.p 0].toArray w fun e w' => e = .returned (.tuple #[.pointer none, N (noOpen bl)]) ∧ Ext w w' := by
  refine enter (n := 9) Try.func36 rfl rfl rfl h0 ?_
  repeat (first | refine JL.q (by first | (apply OQ.ifaceD (x := x); exact rfl) | (apply OQ.callx (vs := [ifD x]); exact goes_jopen; exact rfl; exact (fun w' hw' => open_no x bl pd ok hn hno w' (dkR_front (A := []) (M := []) hw'))) | (apply OQ.extract; exact rfl; exact rfl) | (apply OQ.move; exact rfl) | (apply OQ.assign; exact rfl) | (apply OQ.nilc; exact rfl) | (apply OQ.len; exact rfl; exact rfl) | (apply OQ.addN; exact rfl; exact rfl; exact (by (try simp only []); omega)) | (apply OQ.subN; exact rfl; exact rfl; exact (by (try simp only []); omega); exact (by (try simp only []); omega)) | (apply OQ.lssN; exact rfl; exact rfl) | (apply OQ.gtrN; exact rfl; exact rfl) | (apply OQ.fld; exact rfl; exact rfl; exact rfl; exact (by decide); exact rfl)) rfl ?_ | refine JC.seq ?_ | refine JC.region ?_ | refine JC.block ?_ | refine JC.skip ?_ | refine JC.exit ?_ | refine JL.nil ?_ | refine JE.next ?_ | refine JE.blk_normal ?_ | refine JE.then_exit ?_ | refine JE.blk_hit ?_ | refine JE.blk_miss rfl ?_ | refine JE.then_ret ?_ | refine JE.blk_ret ?_ | refine JC.label ?_ | refine JL.gon rfl rfl ?_ | refine JL.gskip rfl rfl rfl rfl ?_ | refine JL.gskipU rfl rfl rfl rfl ?_)
  exact JC.ret (JE.ret2 rfl (RV.tmp rfl) (RV.tmp rfl) fun w' hw => ⟨rfl, hw.chg⟩)
theorem Open_yes (x : Dp) (bl : List Bk) (pd : List (Nat × Bk)) (hd : DkOk x bl pd) (hp : pd.length ≤ 900000) (hno : noOpen bl = 0) (w : World) (h0 : Holds w (keys (dkE x bl pd)) (dkE x bl pd) w) :
    Calls Try.prog 36 [Pt x.p 0].toArray w fun e w' => ∃ j : Nat, e = .returned (.tuple #[Pt j 0, N 0]) ∧ Holds w (keys (dkE x bl pd)) (jnE j (opnJ x bl) (opnD bl) []) w' := by
  refine enter (n := 9) Try.func36 rfl rfl rfl h0 ?_
  repeat (first | refine JL.q (by first | (apply OQ.ifaceD (x := x); exact rfl) | (apply OQ.move; exact rfl) | (apply OQ.assign; exact rfl) | (apply OQ.nilc; exact rfl) | (apply OQ.len; exact rfl; exact rfl) | (apply OQ.addN; exact rfl; exact rfl; exact (by (try simp only []); omega)) | (apply OQ.subN; exact rfl; exact rfl; exact (by (try simp only []); omega); exact (by (try simp only []); omega)) | (apply OQ.lssN; exact rfl; exact rfl) | (apply OQ.gtrN; exact rfl; exact rfl) | (apply OQ.fld; exact rfl; exact rfl; exact rfl; exact (by decide); exact rfl)) rfl ?_ | refine JC.seq ?_ | refine JC.region ?_ | refine JC.block ?_ | refine JC.skip ?_ | refine JC.exit ?_ | refine JL.nil ?_ | refine JE.next ?_ | refine JE.blk_normal ?_ | refine JE.then_exit ?_ | refine JE.blk_hit ?_ | refine JE.blk_miss rfl ?_ | refine JE.then_ret ?_ | refine JE.blk_ret ?_ | refine JC.label ?_ | refine JL.gon rfl rfl ?_ | refine JL.gskip rfl rfl rfl rfl ?_ | refine JL.gskipU rfl rfl rfl rfl ?_)
  refine JL.perm ?_ (List.Perm.of_eq (List.append_nil _).symm)
  refine JL.callV (ι := Nat) (vs := [ifD x]) (fun j => .tuple #[Pt j 0, N 0]) (fun j => jnE j (opnJ x bl) (opnD bl) []) goes_jopen rfl rfl (dkE_wr _ _ _) (fun j => jnE_wr _ _ _ _) (fun w' hw' hx' => open_yes x bl pd hd hp hno w' hx') fun j => ?_
  rw [List.append_nil]
  repeat (first | refine JL.q (by first | (apply OQ.extract; exact rfl; exact rfl) | (apply OQ.move; exact rfl) | (apply OQ.assign; exact rfl) | (apply OQ.nilc; exact rfl) | (apply OQ.len; exact rfl; exact rfl) | (apply OQ.addN; exact rfl; exact rfl; exact (by (try simp only []); omega)) | (apply OQ.subN; exact rfl; exact rfl; exact (by (try simp only []); omega); exact (by (try simp only []); omega)) | (apply OQ.lssN; exact rfl; exact rfl) | (apply OQ.gtrN; exact rfl; exact rfl) | (apply OQ.fld; exact rfl; exact rfl; exact rfl; exact (by decide); exact rfl)) rfl ?_ | refine JC.seq ?_ | refine JC.region ?_ | refine JC.block ?_ | refine JC.skip ?_ | refine JC.exit ?_ | refine JL.nil ?_ | refine JE.next ?_ | refine JE.blk_normal ?_ | refine JE.then_exit ?_ | refine JE.blk_hit ?_ | refine JE.blk_miss rfl ?_ | refine JE.then_ret ?_ | refine JE.blk_ret ?_ | refine JC.label ?_ | refine JL.gon rfl rfl ?_ | refine JL.gskip rfl rfl rfl rfl ?_ | refine JL.gskipU rfl rfl rfl rfl ?_)
  exact JC.ret (JE.ret2 rfl (RV.tmp rfl) (RV.tmp rfl) fun w' hw => ⟨j, rfl, hw⟩)
end Go.Proofs.Ytopdkpeahhnihaa
