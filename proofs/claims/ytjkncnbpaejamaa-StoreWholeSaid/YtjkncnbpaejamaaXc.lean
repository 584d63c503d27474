/-
  Of no statement by itself: the texts JrnC, JrnD, JrnE, JrnF, JrnG, JrnH, JrnI, JrnJ, JrnK, JrnL, JrnQ, Same, JrnR, JrnV, JrnX, TorA, LinB, StoP in one.
  Conditions: each theorem's own.
-/
import Derived.Test.YtjkncnbpaejamaaXb
import Derived.Laws.Cover3
set_option linter.unusedSimpArgs false
set_option linter.unusedVariables false
/-
  Of no statement by itself: the landed journal's blockOf; a disk that is only read; read.
  Conditions: each theorem's own.
-/
namespace Go.Proofs.Ytjkncnbpaejamaa
set_option maxRecDepth 10000
open Sl Dsk Jrn
theorem goes_blockOf : Goes Try.prog 73 := ⟨_, Try.func73, rfl, by kernel_rfl⟩
set_option maxHeartbeats 16000000 in
theorem blockOf_any (m : Mk) (s : Sl8) (w : World) (hs : s.ok w) (hl : s.l.length ≤ 42) : Calls Try.prog 73 [.agg (mkc m).toArray, s.v].toArray w fun e w' => e = .returned (.agg (bc (blockOf m s.l)).toArray) ∧ Ext w w' := by
  have hbl := block_len (m := m) hl
  refine enter (n := 26) Try.func73 rfl rfl rfl (Holds.start w []) ?_
  repeat (first | refine JC.seq ?_ | refine JC.region ?_)
  refine JL.box (r := mkc m) rfl rfl rfl fun b2 _ => ?_
  refine JL.alloc dkZ rfl fun b4 _ => ?_
  repeat (first | refine JL.q (by (apply OQ.load_agg (cs := mkc m); exact mkAg; exact mk4; exact rfl; exact (.there .here); exact rfl; exact Row.all)) rfl ?_ | refine JC.seq ?_ | refine JC.region ?_ | refine JL.nil ?_ | refine JE.next ?_)
  refine JL.callg (ι := Nat × Nat) (vs := [.agg (mkc m).toArray]) (fun r => accV (some r) (mb m).length) (fun r => accE 5 (some r) ((mb m).map U8)) goes_bytes rfl rfl (fun _ => accE_wr _ _ _) (fun w' _ => bytes_any m w') fun r1 => ?_
  repeat (refine JL.q (by first | (apply OQ.len (k := s.l.length) (ad := s.ad) (cap := s.cap); exact Try.underlying33; exact rfl) | (apply OQ.convN_64; exact Try.underlying3; exact Try.underlying119; exact rfl) | (apply OQ.move; exact rfl)) rfl ?_)
  rw [show BitVec.ofNat 64 s.l.length = (BitVec.ofNat 32 s.l.length).setWidth 64 from BitVec.eq_of_toNat_eq (by simp only [BitVec.toNat_setWidth, BitVec.toNat_ofNat]; omega)]
  refine JL.numApp32 (q := some r1) (xs := mb m) (m := BitVec.ofNat 32 s.l.length) (size := 2) (by decide) (by decide) nofun (by rw [mb_len]; decide) rfl rfl rfl rfl fun r2 => ?_
  repeat (first | refine JL.q (by first | (apply OQ.move; exact rfl) | (apply OQ.assign; exact rfl)) rfl ?_ | refine JC.seq ?_ | refine JC.region ?_ | refine JL.nil ?_ | refine JE.next ?_)
  obtain ⟨y2, hy2⟩ : ∃ y2, mb m ++ be (BitVec.ofNat 32 s.l.length) 2 = y2 := ⟨_, rfl⟩
  have ly2 : y2.length = 12 := by rw [← hy2, List.length_append, mb_len, be_len]
  rw [hy2]
  refine JL.appendQ (xs := y2.map U8) (cs := s.l.map U8) (m := s.l.length) (ad := s.ad) (sc := s.cap) (some r2) Try.underlying33 u8e nofun (by rw [List.length_map]; rfl) rfl (by simp) (fun w' hw' => (hs.holds hw' rfl).reads) (all8U _) rfl (by rw [List.length_map]; omega) (by rw [List.length_map]; omega) rfl fun q3 hq3 => ?_
  cases q3 with
  | none => have := congrArg List.length (hq3 rfl); simp [ly2] at this
  | some r3 =>
  rw [← List.map_append]
  obtain ⟨y3, hy3⟩ : ∃ y3, y2 ++ s.l = y3 := ⟨_, rfl⟩
  have ly3 : y3.length = 12 + s.l.length := by rw [← hy3, List.length_append, ly2]
  rw [hy3, List.length_map]
  repeat (first | refine JL.q (by first | (apply OQ.len (k := s.l.length) (ad := s.ad) (cap := s.cap); exact Try.underlying33; exact rfl) | (apply OQ.subN (a := 42); exact rfl; exact rfl; exact hl; exact (by decide)) | (apply OQ.move; exact rfl) | (apply OQ.assign; exact rfl)) rfl ?_ | refine JC.seq ?_ | refine JC.region ?_ | refine JL.nil ?_ | refine JE.next ?_)
  refine JL.append0 (b := r3.1) (cap := r3.2) (k := y3.length) (m := 42 - s.l.length) (xs := y3.map U8) (fun b' cap' => ⟨b', Sl.Own 5 1 (y3.length + (42 - s.l.length)) cap' (y3.map U8 ++ List.replicate (42 - s.l.length) (Value.int .u8 0)), true⟩ :: [⟨b4, Row 51 (List.replicate 64 (.int .u8 0)), true⟩, ⟨b2, Row 131 (mkc m), true⟩]) Try.underlying33 Try.underlying3 u8e rfl rfl (fun b' cap' => by
    show Repl (⟨r3.1, Sl.Own 5 1 (y3.map U8).length r3.2 (y3.map U8), true⟩ :: _) _ _ _ _ _
    rw [List.length_map]
    exact .here) (by omega) rfl fun b5 c5 => ?_
  have e4 : y3.map U8 ++ List.replicate (42 - s.l.length) (Value.int .u8 0) = (y3 ++ List.replicate (42 - s.l.length) 0).map U8 := by rw [List.map_append, List.map_replicate]; rfl
  obtain ⟨y4, hy4⟩ : ∃ y4, y3 ++ List.replicate (42 - s.l.length) (0 : Bt) = y4 := ⟨_, rfl⟩
  have ly4 : y4.length = 54 := by rw [← hy4, List.length_append, List.length_replicate, ly3]; omega
  have ly5 : y3.length + (42 - s.l.length) = (y4.map U8).length := by rw [List.length_map, ← hy4, List.length_append, List.length_replicate]
  rw [e4, hy4, ly5]
  repeat (first | refine JL.q (by first | (apply OQ.load_agg (cs := mkc m); exact mkAg; exact mk4; exact rfl; exact (.there (.there .here)); exact rfl; exact Row.all) | (apply OQ.move; exact rfl) | (apply OQ.assign; exact rfl)) rfl ?_ | refine JC.seq ?_ | refine JC.region ?_ | refine JL.nil ?_ | refine JE.next ?_)
  refine JL.callg (ι := Nat × Nat) (vs := [.agg (mkc m).toArray]) (fun r => accV (some r) (mb m).length) (fun r => accE 5 (some r) ((mb m).map U8)) goes_bytes rfl rfl (fun _ => accE_wr _ _ _) (fun w' _ => bytes_any m w') fun r6 => ?_
  refine JL.perm ?_ (List.Perm.swap _ _ _)
  refine JL.appendQ (xs := y4.map U8) (cs := (mb m).map U8) (m := (mb m).length) (ad := some ⟨r6.1, 0, none⟩) (sc := r6.2) (M := ⟨r6.1, Sl.Own 5 1 ((mb m).map U8).length r6.2 ((mb m).map U8), true⟩ :: [⟨b4, Row 51 (List.replicate 64 (.int .u8 0)), true⟩, ⟨b2, Row 131 (mkc m), true⟩]) (some (b5, c5)) Try.underlying33 u8e nofun rfl rfl (by simp) (fun w' hw' => ?_) (all8U _) rfl (by rw [List.length_map, ly4, mb_len]; decide) (by rw [List.length_map, ly4, mb_len]; decide) rfl fun q7 hq7 => ?_
  · obtain ⟨o, ho, hA⟩ := hw'.get (b := r6.1) (wr := true) (.there .here)
    exact Reads.block ho (Sl.Own.cells o hA)
  cases q7 with
  | none => have := congrArg List.length (hq7 rfl); simp [ly4] at this
  | some r7 =>
  rw [← List.map_append]
  have e5 : y4 ++ mb m = blockOf m s.l := by rw [← hy4, ← hy3, ← hy2]; rfl
  rw [e5]
  have l64 : ((blockOf m s.l).map U8).length = 64 := by rw [List.length_map, hbl]
  repeat (refine JL.q (by first | (apply OQ.arr (len := ((blockOf m s.l).map U8).length) (cap := r7.2) (ad := some ⟨r7.1, 0, none⟩); exact Try.underlying51; exact rfl; exact (by rw [l64]; exact Nat.le_refl _)) | (apply OQ.load_agg (cs := bc (blockOf m s.l)); exact dkAg; exact dkB; exact rfl; exact .here; exact (bc_len hbl); exact Sl.Own.cells)) rfl ?_)
  refine JL.store_all (cs := bc (blockOf m s.l)) dkB rfl rfl (bc_len hbl) (bc_cell _) (.there (.there .here)) rfl ?_
  repeat (first | refine JL.nil ?_ | refine JE.next ?_)
  exact JC.ret (JE.ret1 rfl (RV.cell_agg dkAg dkB rfl (.there (.there .here)) (bc_len hbl) Row.all) fun w' hw => ⟨rfl, hw.chg⟩)
/-! ### a disk that is only read -/
def dkR (x : Dp) (bl : List Bk) (pd : List (Nat × Bk)) : List Ent :=
  [⟨x.p, Row 63 (dkRow x bl pd), false⟩, ⟨x.q, Sl.Own 51 64 bl.length x.cap (bcs bl).flatten, false⟩]
theorem dkR_of {x : Dp} {bl : List Bk} {pd : List (Nat × Bk)} {u w : World} {S : List Nat} {M : List Ent} (h : Holds u S (dkE x bl pd ++ M) w) : Holds w [] (dkR x bl pd) w :=
  (ro_holds h).weak (.keep _ _ _ _ _ _ (fun _ h => h) (.keep _ _ _ _ _ _ (fun _ h => h) (.nil _)))
theorem dkR_front {x : Dp} {bl : List Bk} {pd : List (Nat × Bk)} {u w : World} {S : List Nat} {A M : List Ent} (h : Holds u S (A ++ (dkR x bl pd ++ M)) w) : Holds w [] (dkR x bl pd) w :=
  (ro_holds (h.weak (less_post A _))).weak (.keep _ _ _ _ _ _ (fun _ h => h) (.keep _ _ _ _ _ _ (fun _ h => h) (.nil _)))
theorem dkR_cell {x : Dp} {bl : List Bk} {pd : List (Nat × Bk)} {w0 w : World} {S : List Nat} {M : List Ent} (hw : Holds w0 S (dkR x bl pd ++ M) w) : w.cell? ⟨x.p, 0, none⟩ = some (.slice (some ⟨x.q, 0, none⟩) bl.length x.cap) := by
  obtain ⟨o, ho, hA⟩ := hw.get (b := x.p) (A := Row 63 (dkRow x bl pd)) (wr := false) .here
  exact cell_of ho (Row.cell rfl _ hA)
set_option maxHeartbeats 4000000 in
theorem dreadR (x : Dp) (bl : List Bk) (pd : List (Nat × Bk)) (n : Nat) (hn : n < bl.length) (ok : Ok bl pd) (w : World) (h : Holds w [] (dkR x bl pd) w) :
    Calls Try.prog 38 [Pt x.p 0, N n].toArray w fun e w' => e = .returned (.tuple #[.agg (bc (old bl n)).toArray, N 0]) ∧ Ext w w' := by
  have hcl := dkR_cell (M := []) (by rw [List.append_nil]; exact h)
  have c := fun w' (hx : Ext w w') => has_any x.p (some ⟨x.q, 0, none⟩) bl.length x.cap n w' (by
    rw [World.cell?, hx.block x.p (block_lt_of_cell hcl) (by simp)]
    exact hcl)
  rw [decide_eq_true (show (0 : Int) ≤ n ∧ (n : Int) < bl.length by omega)] at c
  refine enter (n := 18) Try.func38 rfl rfl rfl h ?_
  repeat (first | refine JC.seq ?_ | refine JC.region ?_)
  refine JL.alloc dkZ rfl fun b4 _ => ?_
  repeat (first | refine JL.q (by first | (apply OQ.callx (vs := [Pt x.p 0, .int .i64 n]); exact goes_has; exact rfl; exact (fun w' hw => c w' hw.chg)) | (apply OQ.not; exact rfl) | (apply OQ.move; exact rfl) | (apply OQ.assign; exact rfl)) rfl ?_ | refine JC.seq ?_ | refine JC.region ?_ | refine JL.nil ?_ | refine JE.next ?_)
  refine JC.cond_false rfl rfl ?_
  repeat (first | refine JL.q (by first | (apply OQ.load; exact bsC; exact rfl; exact (.there .here); exact (Row.cell (v := .slice (some ⟨x.q, 0, none⟩) bl.length x.cap) rfl)) | (apply OQ.idxS; exact Try.underlying48; exact dkB; exact rfl; exact rfl; exact hn) | (apply OQ.move; exact rfl) | (apply OQ.nilc; exact rfl) | (apply OQ.fld; exact rfl; exact rfl; exact rfl; exact (by decide); exact rfl)) rfl ?_ | refine JC.seq ?_ | refine JC.region ?_ | refine JC.skip ?_ | refine JE.next ?_)
  refine JL.q (v := .agg (bc (old bl n)).toArray) (OQ.to (OQ.loadC (L := bcs bl) (i := n) dkAg dkB rfl (Nat.zero_add _) (.there (.there .here)) (bcs_len ok) (by rw [bcs_n]; exact hn)) (by rw [bcs_at hn])) rfl ?_
  refine JL.store_all (cs := bc (old bl n)) dkB rfl rfl (bc_len (ok.old hn)) (bc_cell _) .here rfl ?_
  repeat (first | refine JL.q (by (apply OQ.assign; exact rfl)) rfl ?_ | refine JL.nil ?_ | refine JE.next ?_)
  refine JC.ret ?_
  skip
  exact JE.ret2 rfl (RV.cell_agg dkAg dkB rfl .here (bc_len (ok.old hn)) Row.all) (RV.tmp rfl) fun w' hw => ⟨rfl, hw.chg⟩
end Go.Proofs.Ytjkncnbpaejamaa

/-
  Of no statement by itself: the landed journal's read: the record that begins with a block.
  Conditions: each theorem's own.
-/
namespace Go.Proofs.Ytjkncnbpaejamaa
set_option maxRecDepth 10000
open Sl Dsk Jrn
/-- a half of a disk -/
structure Hf where
  x : Dp
  first : Nat
  size : Nat
  g : BitVec 32
  count : Nat
  used : Nat
def ifD (x : Dp) : Value := .iface 25 (Pt x.p 0)
def hfc (h : Hf) : List Value := [ifD h.x, N h.first, N h.size, U32 h.g, N h.count, N h.used]
theorem hf6 : szT Try.prog 102 = some 6 := by kernel_rfl
theorem hfAg : aggT Try.prog 102 = true := by kernel_rfl
theorem hfZ : zc Try.prog 102 = some [.nilIface, N 0, N 0, U32 0, N 0, N 0] := by kernel_rfl
theorem jbC : scal Try.prog 99 = true := by kernel_rfl
theorem isRead (x : Dp) : IsMeth Try.prog 25 (Pt x.p 0) "Read" 38 := by unfold IsMeth; kernel_rfl
theorem isSize (x : Dp) : IsMeth Try.prog 25 (Pt x.p 0) "Size" 37 := by unfold IsMeth; kernel_rfl
/-- the blocks of a half from one on -/
def bsOf (bl : List Bk) (first size at' : Nat) : List Bk := ((bl.drop first).take size).drop at'
theorem bsOf_len {bl : List Bk} {first size at' : Nat} (h : first + size ≤ bl.length) : (bsOf bl first size at').length = size - at' := by
  simp only [bsOf, List.length_drop, List.length_take]
  omega
theorem bsOf_at {bl : List Bk} {first size at' p : Nat} (h : first + size ≤ bl.length) (hp : p < size - at') : (bsOf bl first size at').drop p = old bl (first + at' + p) :: (bsOf bl first size at').drop (p + 1) := by
  have hl := bsOf_len (at' := at') h
  rw [List.drop_eq_getElem_cons (by rw [hl]; exact hp)]
  congr 1
  simp only [bsOf, List.getElem_drop, List.getElem_take, old, List.getD_eq_getElem?_getD]
  rw [List.getElem?_eq_getElem (by omega : first + at' + p < bl.length)]
  simp only [Option.getD_some]
  congr 1
  omega
theorem part_len {b : Bk} (hb : b.length = 64) (hw : wholeB b = true) : (partOf b).length = cnt b ∧ cnt b ≤ 42 := by
  unfold wholeB at hw
  simp only [Bool.and_eq_true, decide_eq_true_eq] at hw
  refine ⟨?_, hw.2.1⟩
  unfold partOf
  rw [List.length_take, List.length_drop, hb]
  have := hw.2.1
  omega
def rdP (r : Option (Bk × Nat)) : Bk × Nat := r.getD ([], 0)
/-- where a part of a record stands -/
theorem part_reads {w0 w : World} {S : List Nat} {M : List Ent} {b1 : Nat} {b : Bk} {wr : Bool} (hw : Holds w0 S M w) (hM : Has M b1 (Row 51 (bc b)) wr) (hc : (partOf b).length = cnt b) : Reads w (some ⟨b1, 12, none⟩) ((partOf b).map U8) := by
  obtain ⟨o, ho, hA⟩ := hw.get hM
  refine Reads.block ho (Row.cells ?_ o hA)
  rw [List.length_map, hc]
  simp only [bc, partOf, List.map_take, List.map_drop]
theorem partIn_no {b : Bk} (hb : b.length = 64) (hwb : wholeB b = false) (w : World) : Calls Try.prog 86 [.agg (bc b).toArray].toArray w fun e w' => e = .returned (.tuple #[.agg (mkc (0, 0, 0, false)).toArray, .slice none 0 0, .bool false]) ∧ Ext w w' :=
  (partIn_any b hb w).mono fun e w2 hh => by
    rcases hh with ⟨_, h1, h2⟩ | ⟨h1, _⟩
    · exact ⟨h1, h2⟩
    · rw [hwb] at h1; cases h1
theorem partIn_yes {b : Bk} (hb : b.length = 64) (hwb : wholeB b = true) (w : World) : Calls Try.prog 86 [.agg (bc b).toArray].toArray w fun e w' => ∃ b1 : Nat, e = .returned (.tuple #[.agg (mkc (markIn b)).toArray, .slice (some ⟨b1, 12, none⟩) (cnt b) 52, .bool true]) ∧ Holds w [] [⟨b1, Row 51 (bc b), true⟩] w' :=
  (partIn_any b hb w).mono fun e w2 hh => by
    rcases hh with ⟨h1, _⟩ | ⟨_, b1, h1, h2⟩
    · rw [hwb] at h1; cases h1
    · exact ⟨b1, h1, h2⟩
theorem goes_read : Goes Try.prog 69 := ⟨_, Try.func69, rfl, by kernel_rfl⟩
set_option maxHeartbeats 32000000 in
theorem read_any (h : Hf) (bl : List Bk) (pd : List (Nat × Bk)) (at' num : Nat) (ok : Ok bl pd) (hn : bl.length ≤ 65536) (hs : h.first + h.size ≤ bl.length) (ha : at' ≤ h.size) (w : World) (h0 : Holds w [] (dkR h.x bl pd) w) :
    Calls Try.prog 69 [.agg (hfc h).toArray, N at', N num].toArray w fun e w' => ∃ q : {q : Acc // q = none → (rdP (rd h.g num (bsOf bl h.first h.size at') 0 [])).1 = []}, e = .returned (.tuple #[accV q.1 (rdP (rd h.g num (bsOf bl h.first h.size at') 0 [])).1.length, N (rdP (rd h.g num (bsOf bl h.first h.size at') 0 [])).2]) ∧ Holds w [] (accE 5 q.1 ((rdP (rd h.g num (bsOf bl h.first h.size at') 0 [])).1.map U8)) w' := by
  obtain ⟨x, first, size, g, count, used⟩ := h
  dsimp only at hs ha h0 ⊢
  generalize hbs : bsOf bl first size at' = bs
  have hbl : bs.length = size - at' := by rw [← hbs]; exact bsOf_len hs
  have hat := fun p (hp : p < size - at') => bsOf_at (bl := bl) (first := first) (size := size) (at' := at') (p := p) hs hp
  rw [hbs] at hat
  refine enter (n := 64) Try.func69 rfl rfl rfl h0 ?_
  repeat (first | refine JC.seq ?_ | refine JC.region ?_)
  refine JL.box (r := hfc ⟨x, first, size, g, count, used⟩) rfl rfl rfl fun b3 _ => ?_
  repeat (first | refine JL.q (by first | (apply OQ.load; exact intC; exact rfl; exact .here; exact (Row.cell (v := N size) rfl)) | (apply OQ.subN (a := size); exact rfl; exact rfl; exact ha; exact (by omega)) | (apply OQ.move; exact rfl) | (apply OQ.assign; exact rfl) | (apply OQ.fld; exact rfl; exact rfl; exact rfl; exact (by decide); exact rfl)) rfl ?_ | refine JC.seq ?_ | refine JC.region ?_ | refine JC.block ?_ | refine JL.nil ?_ | refine JE.next ?_)
  refine JC.loop (fun z : Nat × Acc × Bk => [(1, N at'), (2, N num), (3, Pt b3 0), (8, accV z.2.1 z.2.2.length), (18, N (size - at')), (19, N z.1)]) (fun z => accE 5 z.2.1 (z.2.2.map U8) ++ (⟨b3, Row 102 (hfc ⟨x, first, size, g, count, used⟩), true⟩ :: dkR x bl pd)) (fun z => size - at' - z.1) (fun z => z.1 ≤ size - at' ∧ (z.2.1 = none → z.2.2 = []) ∧ z.2.2.length ≤ z.1 * 42 ∧ rd g num bs 0 [] = rd g num (bs.drop z.1) z.1 z.2.2) (0, none, []) ⟨Nat.zero_le _, fun _ => rfl, Nat.le_refl _, rfl⟩ (by repeat (first | exact SubE.nil | refine SubE.cons _ _ _ rfl ?_)) (Less.refl _) ?_
  rintro ⟨p, q, acc⟩ ⟨hp, hq, hal, hr⟩
  dsimp only at hp hq hal hr ⊢
  repeat (first | refine JL.q (by (apply OQ.lssN; exact rfl; exact rfl)) rfl ?_ | refine JC.seq ?_ | refine JC.region ?_ | refine JL.nil ?_ | refine JE.next ?_)
  refine JC.cond rfl (fun hc => ?_) (fun hc => ?_)
  · have hp' : p < size - at' := by have := of_decide_eq_true hc; omega
    clear hc
    rw [hat p hp'] at hr
    have hix : first + at' + p < bl.length := by omega
    have hb64 : (old bl (first + at' + p)).length = 64 := ok.old hix
    have cR := fun {u w' : World} {S : List Nat} {A : List Ent} (hw' : Holds u S (A ++ (dkR x bl pd ++ [])) w') => dreadR x bl pd (first + at' + p) hix ok w' (dkR_front hw')
    generalize old bl (first + at' + p) = b at hr hb64 cR
    repeat (first | refine JL.q (by first | (apply OQ.load; exact jbC; exact rfl; exact (hasR (N := accE 5 q (acc.map U8)) .here); exact (Row.cell (v := ifD x) rfl)) | (apply OQ.load; exact intC; exact rfl; exact (hasR (N := accE 5 q (acc.map U8)) .here); exact (Row.cell (v := N first) rfl)) | (apply OQ.inv (xs := [_]); exact (isRead x); exact rfl; exact (OQ.callx (vs := [Pt x.p 0, N (first + at' + p)]) goes_dread rfl (fun w' hw' => cR (A := accE 5 q (acc.map U8) ++ [⟨b3, Row 102 (hfc ⟨x, first, size, g, count, used⟩), true⟩]) (by rw [List.append_assoc]; exact hw')))) | (apply OQ.extract; exact rfl; exact rfl) | (apply OQ.move; exact rfl) | (apply OQ.assign; exact rfl) | (apply OQ.addN; exact rfl; exact rfl; exact (by (try simp only []); omega)) | (apply OQ.fld; exact rfl; exact rfl; exact rfl; exact (by decide); exact rfl)) rfl ?_ | refine JC.seq ?_ | refine JC.region ?_ | refine JC.block ?_ | refine JC.skip ?_ | refine JL.nil ?_ | refine JE.next ?_)
    refine JL.alloc dkZ rfl fun b10 _ => ?_
    refine JL.store_all (cs := bc b) dkB rfl rfl (bc_len hb64) (bc_cell _) .here rfl ?_
    repeat (first | refine JL.q (by first | (apply OQ.load_agg (cs := bc b); exact dkAg; exact dkB; exact rfl; exact .here; exact (bc_len hb64); exact Row.all) | (apply OQ.assign; exact rfl)) rfl ?_ | refine JC.seq ?_ | refine JC.region ?_ | refine JL.nil ?_ | refine JE.next ?_)
    cases hwb : wholeB b
    case false =>
      rw [rd, if_neg (by rw [hwb]; simp)] at hr
      rw [hr]
      repeat (refine JL.q (by first | (apply OQ.callx (vs := [.agg (bc b).toArray]); exact goes_partIn; exact rfl; exact (fun w' _ => partIn_no hb64 hwb w')) | (apply OQ.extract; exact rfl; exact rfl) | (apply OQ.move; exact rfl)) rfl ?_)
      refine JL.alloc mkZ rfl fun b12 _ => ?_
      refine JL.store_all (cs := mkc (0, 0, 0, false)) mk4 rfl rfl rfl rfl .here rfl ?_
      repeat (first | refine JL.q (by first | (apply OQ.not; exact rfl) | (apply OQ.pick_t; exact rfl; exact rfl) | (apply OQ.move; exact rfl) | (apply OQ.assign; exact rfl)) rfl ?_ | refine JC.seq ?_ | refine JC.region ?_ | refine JL.nil ?_ | refine JE.next ?_ | refine JL.gskip rfl rfl rfl rfl ?_)
      refine JC.cond_true rfl rfl ?_
      repeat (first | refine JL.q (by (apply OQ.assign; exact rfl)) rfl ?_ | refine JC.seq ?_ | refine JC.region ?_ | refine JL.nil ?_ | refine JE.next ?_)
      refine JC.ret ?_
      repeat (first | refine JE.then_ret ?_ | refine JE.blk_ret ?_)
      exact JE.ret2 rfl (RV.tmp rfl) (RV.tmp rfl) fun w' hw => ⟨⟨none, fun _ => rfl⟩, rfl, (⟨hw.chg, by simp, by simp⟩ : Holds w [] [] w')⟩
    case true =>
      have ⟨hpl, hc42⟩ := part_len hb64 hwb
      refine JL.callg (ι := Nat) (vs := [.agg (bc b).toArray]) (fun b1 => .tuple #[.agg (mkc (markIn b)).toArray, .slice (some ⟨b1, 12, none⟩) (cnt b) 52, .bool true]) (fun b1 => [⟨b1, Row 51 (bc b), true⟩]) goes_partIn rfl rfl (fun _ => by simp) (fun w' _ => partIn_yes hb64 hwb w') fun b1 => ?_
      repeat (refine JL.q (by first | (apply OQ.extract; exact rfl; exact rfl) | (apply OQ.move; exact rfl)) rfl ?_)
      refine JL.alloc mkZ rfl fun b12 _ => ?_
      refine JL.store_all (cs := mkc (markIn b)) mk4 rfl rfl rfl rfl .here rfl ?_
      have hlc : (mkc (markIn b))[3]? = some (.bool (markIn b).2.2.2) := rfl
      cases c1 : decide (markIn b = (g, BitVec.ofNat 32 num, BitVec.ofNat 16 p, (markIn b).2.2.2))
      case false =>
        rw [rd, if_neg (by rw [hwb]; simpa using c1)] at hr
        rw [hr]
        repeat (first | refine JL.q (by first | (apply OQ.load_agg (cs := mkc (markIn b)); exact mkAg; exact mk4; exact rfl; exact .here; exact rfl; exact Row.all) | (apply OQ.load; exact u32C; exact rfl; exact (hasR (N := [_, _, _]) (hasR (N := accE 5 q (acc.map U8)) .here)); exact (Row.cell (v := U32 g) rfl)) | (apply OQ.convN_32; exact Try.underlying3; exact Try.underlying100; exact rfl) | (apply OQ.convN_16; exact Try.underlying3; exact Try.underlying129; exact rfl) | (apply OQ.load; exact boolC; exact rfl; exact .here; exact (Row.cell hlc)) | (apply OQ.buildM (m := (g, BitVec.ofNat 32 num, BitVec.ofNat 16 p, (markIn b).2.2.2)); exact rfl; exact rfl; exact rfl; exact rfl) | (apply OQ.neM; exact rfl; exact rfl; exact c1) | (apply OQ.not; exact rfl) | (apply OQ.pick_f; exact rfl; exact rfl) | (apply OQ.move; exact rfl) | (apply OQ.assign; exact rfl) | (apply OQ.fld; exact rfl; exact rfl; exact rfl; exact (by decide); exact rfl)) rfl ?_ | refine JC.seq ?_ | refine JC.region ?_ | refine JL.nil ?_ | refine JE.next ?_ | refine JL.gon rfl rfl ?_)
        refine JC.cond_true rfl rfl ?_
        repeat (first | refine JL.q (by (apply OQ.assign; exact rfl)) rfl ?_ | refine JC.seq ?_ | refine JC.region ?_ | refine JL.nil ?_ | refine JE.next ?_)
        refine JC.ret ?_
        repeat (first | refine JE.then_ret ?_ | refine JE.blk_ret ?_)
        exact JE.ret2 rfl (RV.tmp rfl) (RV.tmp rfl) fun w' hw => ⟨⟨none, fun _ => rfl⟩, rfl, (⟨hw.chg, by simp, by simp⟩ : Holds w [] [] w')⟩
      case true =>
        rw [rd, if_pos ⟨hwb, of_decide_eq_true c1⟩] at hr
        repeat (first | refine JL.q (by first | (apply OQ.load_agg (cs := mkc (markIn b)); exact mkAg; exact mk4; exact rfl; exact .here; exact rfl; exact Row.all) | (apply OQ.load; exact u32C; exact rfl; exact (hasR (N := [_, _, _]) (hasR (N := accE 5 q (acc.map U8)) .here)); exact (Row.cell (v := U32 g) rfl)) | (apply OQ.convN_32; exact Try.underlying3; exact Try.underlying100; exact rfl) | (apply OQ.convN_16; exact Try.underlying3; exact Try.underlying129; exact rfl) | (apply OQ.load; exact boolC; exact rfl; exact .here; exact (Row.cell hlc)) | (apply OQ.buildM (m := (g, BitVec.ofNat 32 num, BitVec.ofNat 16 p, (markIn b).2.2.2)); exact rfl; exact rfl; exact rfl; exact rfl) | (apply OQ.neM; exact rfl; exact rfl; exact c1) | (apply OQ.not; exact rfl) | (apply OQ.pick_f; exact rfl; exact rfl) | (apply OQ.move; exact rfl) | (apply OQ.assign; exact rfl) | (apply OQ.fld; exact rfl; exact rfl; exact rfl; exact (by decide); exact rfl)) rfl ?_ | refine JC.seq ?_ | refine JC.region ?_ | refine JL.nil ?_ | refine JE.next ?_ | refine JL.gon rfl rfl ?_)
        refine JC.cond_false rfl rfl ?_
        repeat (first | refine JL.q (by (apply OQ.move; exact rfl)) rfl ?_ | refine JC.seq ?_ | refine JC.region ?_ | refine JC.skip ?_ | refine JE.next ?_)
        refine JL.perm (M' := accE 5 q (acc.map U8) ++ ([⟨b12, Row 131 (mkc (markIn b)), true⟩, ⟨b1, Row 51 (bc b), true⟩, ⟨b10, Row 51 (bc b), true⟩] ++ (⟨b3, Row 102 (hfc ⟨x, first, size, g, count, used⟩), true⟩ :: dkR x bl pd))) ?_ (by exact List.perm_append_comm_assoc [_, _, _] _ _)
        refine JL.appendQ (xs := acc.map U8) (cs := (partOf b).map U8) (m := cnt b) (ad := some ⟨b1, 12, none⟩) (sc := 52) q Try.underlying33 u8e (fun e => by rw [hq e]; rfl) (by rw [List.length_map]; rfl) rfl (by rw [List.length_map, hpl]) (fun w' hw' => part_reads hw' (hasR (N := accE 5 q (acc.map U8)) (.there .here)) hpl) (all8U _) rfl (by rw [List.length_map]; omega) (by rw [List.length_map]; omega) rfl fun q' hq' => ?_
        rw [← List.map_append] at hq' ⊢
        have hq2 : q' = none → acc ++ partOf b = [] := fun e => List.map_eq_nil_iff.1 (hq' e)
        have hal2 : (acc ++ partOf b).length ≤ (p + 1) * 42 := by rw [List.length_append, hpl]; omega
        clear hq' hq hal
        generalize acc ++ partOf b = acc2 at hq2 hal2 hr ⊢
        rw [List.length_map]
        repeat (first | refine JL.q (by first | (apply OQ.load; exact boolC; exact rfl; exact (hasR (N := accE 5 q' (acc2.map U8)) .here); exact (Row.cell hlc)) | (apply OQ.assign; exact rfl) | (apply OQ.fld; exact rfl; exact rfl; exact rfl; exact (by decide); exact rfl)) rfl ?_ | refine JC.seq ?_ | refine JC.region ?_ | refine JL.nil ?_ | refine JE.next ?_)
        refine JC.cond rfl (fun hl => ?_) (fun hl => ?_)
        · rw [if_pos hl] at hr
          rw [hr]
          repeat (first | refine JL.q (by first | (apply OQ.move; exact rfl) | (apply OQ.assign; exact rfl) | (apply OQ.addN; exact rfl; exact rfl; exact (by (try simp only []); omega))) rfl ?_ | refine JC.seq ?_ | refine JC.region ?_ | refine JL.nil ?_ | refine JE.next ?_)
          refine JC.ret ?_
          repeat (first | refine JE.then_ret ?_ | refine JE.blk_ret ?_)
          exact JE.ret2 rfl (RV.tmp rfl) (RV.tmp rfl) fun w' hw => ⟨⟨q', hq2⟩, rfl, hw.weak (less_preX _ _)⟩
        · rw [if_neg (by rw [hl]; decide)] at hr
          repeat (first | refine JL.q (by first | (apply OQ.move; exact rfl) | (apply OQ.addN; exact rfl; exact rfl; exact (by (try simp only []); omega))) rfl ?_ | refine JC.region ?_ | refine JC.skip ?_ | refine JL.nil ?_ | refine JE.next ?_ | refine JE.blk_normal ?_)
          exact JE.again (i := (p, q, acc)) (p + 1, q', acc2) ⟨hp', hq2, hal2, hr⟩ (by dsimp only; omega) (by repeat (first | exact SubE.nil | refine SubE.cons _ _ _ rfl ?_)) (less_two (Less.refl _) (.drop _ _ _ (.drop _ _ _ (.drop _ _ _ (Less.refl _)))))
  · have hp' : p = size - at' := by have := of_decide_eq_false hc; omega
    rw [List.drop_of_length_le (by omega : bs.length ≤ p), rd] at hr
    rw [hr]
    repeat (first | refine JL.q (by (apply OQ.assign; exact rfl)) rfl ?_ | refine JC.seq ?_ | refine JC.region ?_ | refine JC.exit ?_ | refine JL.nil ?_ | refine JE.next ?_ | refine JE.then_exit ?_ | refine JE.blk_hit ?_)
    exact JC.ret (JE.ret2 rfl (RV.tmp rfl) (RV.tmp rfl) fun w' hw => ⟨⟨none, fun _ => rfl⟩, rfl, (⟨hw.chg, by simp, by simp⟩ : Holds w [] [] w')⟩)
end Go.Proofs.Ytjkncnbpaejamaa

/-
  Of no statement by itself: the landed journal's told: the records of a half.
  Conditions: each theorem's own.
-/
namespace Go.Proofs.Ytjkncnbpaejamaa
set_option maxRecDepth 10000
open Sl Dsk Jrn
/-- rows of bytes that were made anew -/
structure Gr where
  q : Acc
  rs : List Sl8
  hq : q = none → rs = []
  h0 : ∀ x ∈ rs, x.ad = none → x.l = []
def Gr.v (z : Gr) : Value := accV z.q z.rs.length
def Gr.l (z : Gr) : List Bk := z.rs.map Sl8.l
def Gr.E (z : Gr) : List Ent := accE 33 z.q (z.rs.map Sl8.v) ++ flatE z.rs
theorem flatE_wr (rs : List Sl8) : ∀ e ∈ flatE rs, e.wr = true := by
  intro e he
  unfold flatE at he
  obtain ⟨x, _, h2⟩ := List.mem_flatMap.1 he
  unfold Sl8.ents at h2
  split at h2
  · rw [List.mem_singleton.1 h2]
  · cases h2
theorem Gr.wr (z : Gr) : ∀ e ∈ z.E, e.wr = true := by
  intro e he
  rcases List.mem_append.1 he with h | h
  · exact accE_wr _ _ _ e h
  · exact flatE_wr _ e h
def Gr.s (z : Gr) : SlL := accL z.q z.rs
theorem Gr.v_eq (z : Gr) : z.s.v = z.v := by unfold Gr.s; rw [accL_v, List.length_map]; rfl
theorem Gr.rs_eq (z : Gr) : z.s.rs = z.rs := accL_rs z.hq
theorem Gr.ok {z : Gr} {w0 w : World} {S : List Nat} (h : Holds w0 S z.E w) : z.s.ok w := accL_ok h z.h0
theorem slEj : EI Try.prog 33 (.slice none 0 0) 1 24 := by unfold EI; kernel_rfl
theorem goes_told : Goes Try.prog 56 := ⟨_, Try.func56, rfl, by kernel_rfl⟩
/-- the records that a half tells -/
def toldH (bl : List Bk) (first size : Nat) (g : BitVec 32) : List Bk := told g (bsOf bl first size 0)
theorem toldH_f {bl : List Bk} {first size : Nat} {g : BitVec 32} (h : first + size ≤ bl.length) : ∃ f, size - 0 < f ∧ toldH bl first size g = [] ++ toldN g f (bsOf bl first size 0) 0 :=
  ⟨(bsOf bl first size 0).length + 1, by rw [bsOf_len h]; exact Nat.lt_succ_self _, rfl⟩
theorem bsOf_drop (bl : List Bk) (first size at' k : Nat) : (bsOf bl first size at').drop k = bsOf bl first size (at' + k) := by
  unfold bsOf
  rw [List.drop_drop]
set_option maxHeartbeats 16000000 in
theorem told_any (h : Hf) (bl : List Bk) (pd : List (Nat × Bk)) (ok : Ok bl pd) (hn : bl.length ≤ 65536) (hs : h.first + h.size ≤ bl.length) (w : World) (h0 : Holds w [] (dkR h.x bl pd) w) :
    Calls Try.prog 56 [.agg (hfc h).toArray].toArray w fun e w' => ∃ z : {z : Gr // z.l = toldH bl h.first h.size h.g ∧ z.rs.length ≤ h.size}, e = .returned z.1.v ∧ Holds w [] z.1.E w' := by
  refine enter (n := 25) Try.func56 rfl rfl rfl h0 ?_
  repeat (first | refine JC.seq ?_ | refine JC.region ?_)
  refine JL.box (r := hfc h) rfl rfl rfl fun b1 _ => ?_
  repeat (first | refine JL.q (by (apply OQ.assign; exact rfl)) rfl ?_ | refine JC.seq ?_ | refine JC.region ?_ | refine JC.block ?_ | refine JL.nil ?_ | refine JE.next ?_)
  refine JC.loop (fun z : Nat × Gr => [(1, Pt b1 0), (3, z.2.v), (4, N z.1)]) (fun z => accE 33 z.2.q (z.2.rs.map Sl8.v) ++ (flatE z.2.rs ++ (⟨b1, Row 102 (hfc h), true⟩ :: dkR h.x bl pd))) (fun z => h.size - z.1) (fun z => z.1 ≤ h.size ∧ z.2.rs.length ≤ z.1 ∧ ∃ f, h.size - z.1 < f ∧ toldH bl h.first h.size h.g = z.2.l ++ toldN h.g f (bsOf bl h.first h.size z.1) z.2.rs.length) (0, ⟨none, [], fun _ => rfl, nofun⟩) ⟨Nat.zero_le _, Nat.le_refl _, toldH_f hs⟩ (by repeat (first | exact SubE.nil | refine SubE.cons _ _ _ rfl ?_)) (Less.refl _) ?_
  rintro ⟨at', q, rs, hq, hr0⟩ ⟨hat, hrl, f, hf, ht⟩
  dsimp only [Gr.v, Gr.l] at hat hrl hf ht ⊢
  obtain ⟨f, rfl⟩ : ∃ f', f = f' + 1 := ⟨f - 1, by omega⟩
  rw [toldN] at ht
  have hq0 : q = none → rs.length = 0 := fun e => by rw [hq e]; rfl
  repeat (first | refine JL.q (by first | (apply OQ.load_agg (cs := hfc h); exact hfAg; exact hf6; exact rfl; exact (hasR (N := accE 33 q (rs.map Sl8.v)) (hasR (N := flatE rs) .here)); exact rfl; exact Row.all) | (apply OQ.lenV (q := q) (k := rs.length); exact Try.underlying34; exact hq0; exact rfl) | (apply OQ.move; exact rfl)) rfl ?_ | refine JC.seq ?_ | refine JC.region ?_ | refine JC.block ?_)
  have cR := fun {u w' : World} {S : List Nat} {A : List Ent} (hw' : Holds u S (A ++ (dkR h.x bl pd ++ [])) w') => read_any h bl pd at' rs.length ok hn hs hat w' (dkR_front hw')
  have hle := fun rec k => rd_le (g := h.g) (r := rs.length) (bs := bsOf bl h.first h.size at') (p := 0) (acc := []) (rec := rec) (k := k)
  rw [bsOf_len hs] at hle
  generalize rd h.g rs.length (bsOf bl h.first h.size at') 0 [] = r at ht cR hle
  refine JL.callg (ι := {q : Acc // q = none → (rdP r).1 = []}) (vs := [.agg (hfc h).toArray, N at', N rs.length]) (fun q => .tuple #[accV q.1 (rdP r).1.length, N (rdP r).2]) (fun q => accE 5 q.1 ((rdP r).1.map U8)) goes_read rfl rfl (fun _ => accE_wr _ _ _) (fun w' hw' => cR (A := accE 33 q (rs.map Sl8.v) ++ (flatE rs ++ [⟨b1, Row 102 (hfc h), true⟩])) (by rw [List.append_assoc, List.append_assoc]; exact hw')) fun q1 => ?_
  obtain ⟨q1, hq1⟩ := q1
  dsimp only
  cases r with
  | none =>
    dsimp only at ht
    rw [List.append_nil] at ht
    repeat (first | refine JL.q (by first | (apply OQ.extract; exact rfl; exact rfl) | (apply OQ.eqN; exact rfl; exact rfl) | (apply OQ.move; exact rfl) | (apply OQ.assign; exact rfl)) rfl ?_ | refine JC.seq ?_ | refine JC.region ?_ | refine JL.nil ?_ | refine JE.next ?_)
    refine JC.cond_true rfl rfl ?_
    repeat (first | refine JL.q (by first | (apply OQ.move; exact rfl) | (apply OQ.assign; exact rfl)) rfl ?_ | refine JC.seq ?_ | refine JC.region ?_ | refine JL.nil ?_ | refine JE.next ?_)
    refine JC.ret ?_
    repeat (first | refine JE.then_ret ?_ | refine JE.blk_ret ?_)
    exact JE.ret1 rfl (RV.tmp rfl) fun w' hw => ⟨⟨⟨q, rs, hq, hr0⟩, ht.symm, by show rs.length ≤ h.size; omega⟩, rfl, hw.weak (less_app _ (less_two (Less.refl _) (less_pre _ _)))⟩
  | some rk =>
    obtain ⟨rec, k⟩ := rk
    have hk := hle rec k rfl
    dsimp only [rdP, Option.getD_some] at ht hq1 ⊢
    rw [bsOf_drop] at ht
    have hk0 : decide (((k : Nat) : Int) = 0) = false := decide_eq_false (by omega)
    repeat (first | refine JL.q (by first | (apply OQ.extract; exact rfl; exact rfl) | (apply OQ.eqB (b := 0); exact rfl; exact rfl; exact hk0) | (apply OQ.move; exact rfl) | (apply OQ.assign; exact rfl)) rfl ?_ | refine JC.seq ?_ | refine JC.region ?_ | refine JL.nil ?_ | refine JE.next ?_)
    refine JC.cond_false rfl rfl ?_
    repeat (first | refine JL.q (by (apply OQ.move; exact rfl)) rfl ?_ | refine JC.seq ?_ | refine JC.region ?_ | refine JC.skip ?_ | refine JE.next ?_)
    refine JL.perm (M' := accE 33 q (rs.map Sl8.v) ++ (flatE rs ++ (accE 5 q1 (rec.map U8) ++ (⟨b1, Row 102 (hfc h), true⟩ :: dkR h.x bl pd)))) ?_ (by exact (List.perm_append_comm_assoc (accE 5 q1 (rec.map U8)) _ _).trans (List.Perm.append_left _ (List.perm_append_comm_assoc (accE 5 q1 (rec.map U8)) _ _)))
    refine JL.lit1 (v := accV q1 rec.length) Try.underlying34 slEj rfl rfl (accV_cells _ _) rfl fun bl2 _ => ?_
    refine JL.perm (M' := accE 33 q (rs.map Sl8.v) ++ (⟨bl2, Row 33 [accV q1 rec.length], true⟩ :: (flatE rs ++ (accE 5 q1 (rec.map U8) ++ (⟨b1, Row 102 (hfc h), true⟩ :: dkR h.x bl pd))))) ?_ (by exact List.perm_append_comm_assoc [_] _ _)
    refine JL.appendQ (xs := rs.map Sl8.v) (cs := [accV q1 rec.length]) (m := 1) (ad := some ⟨bl2, 0, none⟩) (sc := 1) q Try.underlying34 slEj (fun h => by rw [hq h]; rfl) (by rw [List.length_map]; rfl) rfl rfl (fun w' hw' => ?_) (fun v hv => by rw [List.mem_singleton.1 hv]; exact accV_one _ _) rfl (by rw [List.length_map]; omega) (by rw [List.length_map]; omega) rfl fun q3 hq3 => ?_
    · obtain ⟨o, ho, hA⟩ := (hw'.weak (less_app _ (Less.refl _))).get (b := bl2) (A := Row 33 [accV q1 rec.length]) (wr := true) .here
      exact Reads.block ho (Row.all _ hA)
    have eM : rs.map Sl8.v ++ [accV q1 rec.length] = (rs ++ [accS q1 rec]).map Sl8.v := by
      rw [List.map_append, List.map_singleton, accS_v]
    rw [eM] at hq3 ⊢
    have hq4 : q3 = none → rs ++ [accS q1 rec] = [] := fun e => List.map_eq_nil_iff.1 (hq3 e)
    have hr4 : ∀ x ∈ rs ++ [accS q1 rec], x.ad = none → x.l = [] := by
      intro x hx hn
      rcases List.mem_append.1 hx with hx | hx
      · exact hr0 x hx hn
      · rw [List.mem_singleton.1 hx] at hn ⊢
        cases q1 with
        | none => rfl
        | some p => cases hn
    have hl4 : (rs ++ [accS q1 rec]).map Sl8.l = rs.map Sl8.l ++ [rec] := by
      rw [List.map_append, List.map_singleton, accS_l (fun e => (hq1 e))]
    rw [List.length_map]
    repeat (first | refine JL.q (by first | (apply OQ.addN (a := at'); exact rfl; exact rfl; exact (by omega)) | (apply OQ.move; exact rfl) | (apply OQ.assign; exact rfl)) rfl ?_ | refine JC.region ?_ | refine JL.nil ?_ | refine JE.next ?_ | refine JE.blk_normal ?_)
    refine JE.again (i := (at', ⟨q, rs, hq, hr0⟩)) (at' + k, ⟨q3, rs ++ [accS q1 rec], hq4, hr4⟩) ⟨by dsimp only; omega, by dsimp only; rw [List.length_append, List.length_singleton]; omega, f, by dsimp only; omega, ?_⟩ (by dsimp only; omega) (by repeat (first | exact SubE.nil | refine SubE.cons _ _ _ rfl ?_)) ?_
    · dsimp only [Gr.l]
      rw [hl4, ht, List.append_assoc, List.length_append]
      rfl
    · dsimp only
      exact less_two (Less.refl _) (.drop _ _ _ (by rw [← List.append_assoc]; exact less_two (flat_snoc rs q1 rec) (Less.refl _)))
end Go.Proofs.Ytjkncnbpaejamaa

/-
  Of no statement by itself: the landed journal's halfAt, newGeneration.
  Conditions: each theorem's own.
-/
namespace Go.Proofs.Ytjkncnbpaejamaa
set_option maxRecDepth 10000
open Sl Dsk Jrn
section
variable {n : Nat} {E : Env} {C : World → Prop} {dst : Option Tmp} {ty t t' t'' : TypeId} {pos : String} {aft : Array Edge} {g : Option (Nat × Bool)} {x1 x2 x3 x4 : Operand}
theorem OQ.fieldM0 {m : Mk} (hx : ev E x1 = some (.agg (mkc m).toArray)) : OQ Try.prog n E C ⟨dst, .field 131 x1 0, ty, pos, aft, g⟩ (U32 m.1) :=
  OQ.run fun a ha w _ => by
    have h1 := ha.eval hx
    have h2 : (Instr.field 131 (.agg (mkc m).toArray) 0).run Try.prog w = .ok (U32 m.1) w := pur_run (by kernel_rfl)
    simp [execOp, h1, h2]
theorem OQ.ifaceD {x : Dp} (hx : ev E x1 = some (Pt x.p 0)) : OQ Try.prog n E C ⟨dst, .makeInterface 25 x1, ty, pos, aft, g⟩ (ifD x) :=
  OQ.run fun a ha w _ => by
    have h1 := ha.eval hx
    have h2 : (Instr.makeInterface 25 (Pt x.p 0)).run Try.prog w = .ok (ifD x) w := pur_run (by kernel_rfl)
    simp [execOp, h1, h2]
def hfc0 : List Value := [.nilIface, N 0, N 0, U32 0, N 0, N 0]
theorem OQ.buildH4 {h : Hf} (h1 : ev E x1 = some (ifD h.x)) (h2 : ev E x2 = some (N h.first)) (h3 : ev E x3 = some (N h.size)) (h4 : ev E x4 = some (U32 h.g)) :
    OQ Try.prog n E C ⟨dst, .build 102 #[(0, x1), (1, x2), (2, x3), (3, x4)], ty, pos, aft, g⟩ (.agg (hfc ⟨h.x, h.first, h.size, h.g, 0, 0⟩).toArray) :=
  OQ.run fun a ha w _ => by
    have e1 := ha.eval h1
    have e2 := ha.eval h2
    have e3 := ha.eval h3
    have e4 := ha.eval h4
    have r := run_build (P := Try.prog) w 102 #[(0, ifD h.x), (1, N h.first), (2, N h.size), (3, U32 h.g)] (hfc ⟨h.x, h.first, h.size, h.g, 0, 0⟩).toArray (by kernel_rfl)
    simp [execOp, e1, e2, e3, e4, r]
theorem OQ.buildH3 {h : Hf} (h1 : ev E x1 = some (ifD h.x)) (h2 : ev E x2 = some (N h.first)) (h3 : ev E x3 = some (N h.size)) :
    OQ Try.prog n E C ⟨dst, .build 102 #[(0, x1), (1, x2), (2, x3)], ty, pos, aft, g⟩ (.agg (hfc ⟨h.x, h.first, h.size, 0, 0, 0⟩).toArray) :=
  OQ.run fun a ha w _ => by
    have e1 := ha.eval h1
    have e2 := ha.eval h2
    have e3 := ha.eval h3
    have r := run_build (P := Try.prog) w 102 #[(0, ifD h.x), (1, N h.first), (2, N h.size)] (hfc ⟨h.x, h.first, h.size, 0, 0, 0⟩).toArray (by kernel_rfl)
    simp [execOp, e1, e2, e3, r]
theorem OQ.buildJ {h : Hf} (h1 : ev E x1 = some (.agg (hfc h).toArray)) : OQ Try.prog n E C ⟨dst, .build 104 #[(0, x1)], ty, pos, aft, g⟩ (.agg (hfc h).toArray) :=
  OQ.run fun a ha w _ => by
    have e1 := ha.eval h1
    have r := run_build (P := Try.prog) w 104 #[(0, .agg (hfc h).toArray)] (hfc h).toArray (by kernel_rfl)
    simp [execOp, e1, r]
def mx (a b : BitVec 32) : BitVec 32 := if a.toNat < b.toNat then b else a
theorem OQ.max32 {a b c : BitVec 32} (h1 : ev E x1 = some (U32 a)) (h2 : ev E x2 = some (U32 b)) (h3 : ev E x3 = some (U32 c)) : OQ Try.prog n E C ⟨dst, .call ⟨.builtin .max, #[x1, x2, x3], #[t, t', t'']⟩, ty, pos, aft, g⟩ (U32 (mx (mx a b) c)) :=
  OQ.run fun ac ha w _ => by
    have e1 := ha.eval h1
    have e2 := ha.eval h2
    have e3 := ha.eval h3
    unfold mx
    by_cases h : a.toNat < b.toNat <;> by_cases h' : (if a.toNat < b.toNat then b else a).toNat < c.toNat <;> simp [h] at h' <;> simp [execOp, e1, e2, e3, resolve, invoke, builtin, Builtin.max_, Builtin.max2, Sem.run_bind, h, h'] <;> (try split <;> rfl)
end
theorem goes_dsizej : Goes Try.prog 37 := ⟨_, Try.func37, rfl, by kernel_rfl⟩
theorem dsizeR (x : Dp) (bl : List Bk) (pd : List (Nat × Bk)) (w : World) (h : Holds w [] (dkR x bl pd) w) : Calls Try.prog 37 [Pt x.p 0].toArray w fun e w' => e = .returned (N bl.length) ∧ Ext w w' :=
  dsize_any x.p _ _ _ w (dkR_cell (M := []) (by rw [List.append_nil]; exact h))
theorem goes_halfAt : Goes Try.prog 71 := ⟨_, Try.func71, rfl, by kernel_rfl⟩
set_option maxHeartbeats 16000000 in
theorem halfAt_any (x : Dp) (bl : List Bk) (pd : List (Nat × Bk)) (first : Nat) (ok : Ok bl pd) (hn : bl.length ≤ 65536) (hf : first < bl.length) (hs : first + bl.length / 2 ≤ bl.length) (w : World) (h0 : Holds w [] (dkR x bl pd) w) :
    Calls Try.prog 71 [ifD x, N first].toArray w fun e w' => ∃ z : {z : Gr // z.l = toldH bl first (bl.length / 2) (markIn (old bl first)).1 ∧ z.rs.length ≤ bl.length / 2}, e = .returned (.tuple #[.agg (hfc ⟨x, first, bl.length / 2, if z.1.rs.length = 0 then 0 else (markIn (old bl first)).1, 0, 0⟩).toArray, z.1.v]) ∧ Holds w [] z.1.E w' := by
  have hb : (old bl first).length = 64 := ok.old hf
  have cR := fun {u w' : World} {S : List Nat} {A : List Ent} (hw' : Holds u S (A ++ (dkR x bl pd ++ [])) w') => dreadR x bl pd first hf ok w' (dkR_front hw')
  have cT := fun g {u w' : World} {S : List Nat} {M : List Ent} (hw' : Holds u S (dkR x bl pd ++ M) w') => told_any ⟨x, first, bl.length / 2, g, 0, 0⟩ bl pd ok hn hs w' (dkR_front (A := []) hw')
  generalize old bl first = b at hb cR ⊢
  refine enter (n := 33) Try.func71 rfl rfl rfl h0 ?_
  repeat (first | refine JC.seq ?_ | refine JC.region ?_)
  refine JL.alloc (r := hfc0) hfZ rfl fun b4 _ => ?_
  repeat (first | refine JL.q (by first | (apply OQ.inv (xs := [_]); exact (isRead x); exact rfl; exact (OQ.callx (vs := [Pt x.p 0, N first]) goes_dread rfl (fun w' hw' => cR (A := [_]) hw'))) | (apply OQ.extract; exact rfl; exact rfl) | (apply OQ.move; exact rfl) | (apply OQ.assign; exact rfl)) rfl ?_ | refine JC.seq ?_ | refine JC.region ?_ | refine JL.nil ?_ | refine JE.next ?_)
  refine JL.alloc dkZ rfl fun b6 _ => ?_
  refine JL.store_all (cs := bc b) dkB rfl rfl (bc_len hb) (bc_cell _) .here rfl ?_
  repeat (first | refine JL.q (by (apply OQ.assign; exact rfl)) rfl ?_ | refine JC.seq ?_ | refine JL.nil ?_ | refine JE.next ?_)
  let vs : Nat → Nat → Value := fun j y => match j with
    | 0 => ifD x
    | 1 => N first
    | 2 => ifD x
    | 3 => N bl.length
    | 4 => N (bl.length / 2)
    | 5 => (⟨some ⟨b6, 0, none⟩, 64, b⟩ : Sl8).v
    | 6 => .agg (mkc (markIn b)).toArray
    | 7 => U32 (markIn b).1
    | 8 => .agg (hfc ⟨x, first, bl.length / 2, (markIn b).1, 0, 0⟩).toArray
    | 9 => Pt y 0
    | _ => N 0
  let Ms : Nat → Nat → List Ent := fun j y => match j with
    | 9 => [⟨y, Row 102 hfc0, true⟩]
    | 10 => [⟨y, Row 102 (hfc ⟨x, first, bl.length / 2, (markIn b).1, 0, 0⟩), true⟩]
    | 11 => [⟨b6, Row 51 (bc b), true⟩]
    | 12 => [⟨b4, Row 102 hfc0, true⟩]
    | 13 => dkR x bl pd
    | _ => []
  refine JC.grow (g := ⟨[(0, ifD x), (1, N first), (4, Pt b4 0), (6, Pt b6 0), (5, .slice none 0 0)], 14, vs, Ms, (fun j => match j with | 3 => [(2, 18)] | 4 => [(3, 19)] | 6 => [(5, 21)] | 7 => [(6, 22)] | 8 => [(0, 16), (1, 17), (4, 20), (7, 23)] | 10 => [(9, 8), (8, 24)] | _ => []), (fun j => match j with | 3 => [13] | 6 => [11] | 10 => [9] | _ => []), (fun j => match j with | 10 => [9] | _ => []), (fun j => match j with | 10 => some 9 | _ => none)⟩) [(9, 8)] [10, 11, 12, 13] mixT (by repeat (first | exact SubE.nil | refine SubE.cons _ _ _ rfl ?_)) ?_ (by kernel_rfl) (by kernel_rfl) (by kernel_rfl) ?_ ?_
  · exact Less.refl _
  · refine ⟨?_, ?_, ?_, ?_, ?_, ?_, ?_, ?_, ?_, ?_, ?_, trivial⟩
    · (intro xx EF MF Q kk; (try refine JL.gon rfl rfl ?_); exact JL.q (OQ.move rfl) rfl (JL.nil (kk default nofun)))
    · (intro xx EF MF Q kk; (try refine JL.gon rfl rfl ?_); exact JL.q (OQ.move rfl) rfl (JL.nil (kk default nofun)))
    · (intro xx EF MF Q kk; (try refine JL.gon rfl rfl ?_); exact JL.q (OQ.move rfl) rfl (JL.nil (kk default nofun)))
    · (intro xx EF MF Q kk; (try refine JL.gon rfl rfl ?_); exact JL.q (OQ.inv (xs := []) (isSize x) rfl (OQ.callx (vs := [Pt x.p 0]) goes_dsizej rfl (fun w' hw' => dsizeR x bl pd w' (dkR_front (A := []) hw')))) rfl (JL.nil (kk default nofun)))
    · (intro xx EF MF Q kk; (try refine JL.gon rfl rfl ?_); exact JL.q (OQ.quoN (b := 2) rfl rfl (by decide) (by omega)) rfl (JL.nil (kk default nofun)))
    · (intro xx EF MF Q kk; (try refine JL.gon rfl rfl ?_); exact JL.q (OQ.slAll hb Try.underlying51 u8s rfl) rfl (JL.nil (kk default nofun)))
    · (intro xx EF MF Q kk; (try refine JL.gon rfl rfl ?_); exact JL.q (OQ.callx (vs := [(⟨some ⟨b6, 0, none⟩, 64, b⟩ : Sl8).v]) goes_markIn rfl (fun w' hw' => markIn_any _ w' (row_ok hw' .here rfl (by omega)) (by show 10 ≤ b.length; omega) (by show b.length ≤ 64; omega))) rfl (JL.nil (kk default nofun)))
    · (intro xx EF MF Q kk; (try refine JL.gon rfl rfl ?_); exact JL.q (OQ.fieldM0 rfl) rfl (JL.nil (kk default nofun)))
    · (intro xx EF MF Q kk; (try refine JL.gon rfl rfl ?_); exact JL.q (OQ.buildH4 (h := ⟨x, first, bl.length / 2, (markIn b).1, 0, 0⟩) rfl rfl rfl rfl) rfl (JL.nil (kk default nofun)))
    · (intro xx EF MF Q kk; exact JL.alloc hfZ rfl fun b _ => JL.nil (kk b nofun))
    · (intro xx EF MF Q kk; exact JL.store_all (cs := hfc ⟨x, first, bl.length / 2, (markIn b).1, 0, 0⟩) hf6 rfl rfl rfl rfl .here rfl (JL.nil (kk (xx 9) (fun k h => by cases h; rfl))))
  · intro xx hx
    have e10 := hx 10 9 (by decide) rfl
    show JE _ _ _ _ _ [(8, Pt (xx 9) 0), (0, ifD x), (1, N first), (4, Pt b4 0), (6, Pt b6 0), (5, .slice none 0 0)] (⟨xx 10, Row 102 (hfc ⟨x, first, bl.length / 2, (markIn b).1, 0, 0⟩), true⟩ :: ⟨b6, Row 51 (bc b), true⟩ :: ⟨b4, Row 102 hfc0, true⟩ :: dkR x bl pd)
    rw [e10]
    generalize xx 9 = b8
    clear hx e10 xx vs Ms
    generalize hhh : (⟨x, first, bl.length / 2, (markIn b).1, 0, 0⟩ : Hf) = hh
    have eg : hh.g = (markIn b).1 := by rw [← hhh]
    repeat (first | refine JL.q (by (apply OQ.load_agg (cs := hfc hh); exact hfAg; exact hf6; exact rfl; exact .here; exact rfl; exact Row.all)) rfl ?_ | refine JC.seq ?_ | refine JC.region ?_ | refine JE.next ?_)
    refine JL.callg (ι := {z : Gr // z.l = toldH bl first (bl.length / 2) (markIn b).1 ∧ z.rs.length ≤ bl.length / 2}) (vs := [.agg (hfc hh).toArray]) (fun z => z.1.v) (fun z => z.1.E) goes_told rfl rfl (fun z => z.1.wr) (fun w' hw' => by rw [← hhh] at hw' ⊢; exact cT (markIn b).1 (M := []) (hw'.weak (.drop _ _ _ (.drop _ _ _ (.drop _ _ _ (Less.refl _)))))) fun z => ?_
    refine JL.perm (M' := [⟨b8, Row 102 (hfc hh), true⟩, ⟨b6, Row 51 (bc b), true⟩, ⟨b4, Row 102 hfc0, true⟩] ++ (z.1.E ++ dkR x bl pd)) ?_ (by exact List.perm_append_comm_assoc _ [_, _, _] _)
    obtain ⟨⟨q, rs, hq, hr0⟩, hz⟩ := z
    have hq0 : q = none → rs.length = 0 := fun e => by rw [hq e]; rfl
    dsimp only [Gr.v]
    repeat (first | refine JL.q (by first | (apply OQ.lenV (q := q) (k := rs.length); exact Try.underlying34; exact hq0; exact rfl) | (apply OQ.eqN; exact rfl; exact rfl) | (apply OQ.move; exact rfl) | (apply OQ.assign; exact rfl)) rfl ?_ | refine JC.seq ?_ | refine JC.region ?_ | refine JL.nil ?_ | refine JE.next ?_)
    refine JC.cond rfl (fun hc => ?_) (fun hc => ?_)
    · have hc0 := of_decide_eq_true hc
      repeat (first | refine JL.q (by (apply OQ.fld; exact rfl; exact rfl; exact rfl; exact (by decide); exact rfl)) rfl ?_ | refine JC.region ?_)
      refine JL.store_eq (b := b8) (r := hfc hh) (r' := hfc ⟨x, first, bl.length / 2, 0, 0, 0⟩) u321 rfl rfl rfl rfl .here (show 3 < 6 by decide) (by rw [← hhh]; rfl) ?_
      repeat (first | refine JL.q (by first | (apply OQ.load_agg (cs := hfc ⟨x, first, bl.length / 2, 0, 0, 0⟩); exact hfAg; exact hf6; exact rfl; exact .here; exact rfl; exact Row.all) | (apply OQ.move; exact rfl)) rfl ?_ | refine JC.seq ?_ | refine JC.region ?_ | refine JL.nil ?_ | refine JE.next ?_)
      refine JL.store_all (cs := hfc ⟨x, first, bl.length / 2, 0, 0, 0⟩) hf6 rfl rfl rfl rfl (.there (.there .here)) rfl ?_
      repeat (first | refine JL.q (by (apply OQ.assign; exact rfl)) rfl ?_ | refine JL.nil ?_ | refine JE.next ?_)
      refine JC.ret ?_
      exact JE.ret2 rfl (RV.cell_agg hfAg hf6 rfl (.there (.there .here)) rfl Row.all) (RV.tmp rfl) fun w' hw => ⟨⟨⟨q, rs, hq, hr0⟩, hz⟩, by dsimp only; rw [if_pos hc0], hw.weak (.drop _ _ _ (.drop _ _ _ (.drop _ _ _ (less_pre _ _))))⟩
    · have hc0 := of_decide_eq_false hc
      repeat (first | refine JL.q (by first | (apply OQ.load_agg (cs := hfc hh); exact hfAg; exact hf6; exact rfl; exact .here; exact rfl; exact Row.all) | (apply OQ.move; exact rfl)) rfl ?_ | refine JC.seq ?_ | refine JC.region ?_ | refine JC.skip ?_ | refine JE.next ?_)
      refine JL.store_all (cs := hfc hh) hf6 rfl rfl rfl rfl (.there (.there .here)) rfl ?_
      repeat (first | refine JL.q (by (apply OQ.assign; exact rfl)) rfl ?_ | refine JL.nil ?_ | refine JE.next ?_)
      refine JC.ret ?_
      exact JE.ret2 rfl (RV.cell_agg hfAg hf6 rfl (.there (.there .here)) rfl Row.all) (RV.tmp rfl) fun w' hw => ⟨⟨⟨q, rs, hq, hr0⟩, hz⟩, by dsimp only; rw [if_neg hc0, hhh], hw.weak (.drop _ _ _ (.drop _ _ _ (.drop _ _ _ (less_pre _ _))))⟩
/-- the greatest generation of all blocks, at either end -/
def gm (bl : List Bk) : BitVec 32 := bl.foldl (fun m b => mx (mx m (markIn b).1) (markIn (b.drop 54)).1) 0
theorem gm_at {bl : List Bk} {p : Nat} (h : p < bl.length) : gm (bl.take (p + 1)) = mx (mx (gm (bl.take p)) (markIn (old bl p)).1) (markIn ((old bl p).drop 54)).1 := by
  have : bl.take (p + 1) = bl.take p ++ [old bl p] := by
    rw [List.take_add_one]
    simp [old, List.getD_eq_getElem?_getD, h]
  rw [this, gm, List.foldl_append]
  rfl
theorem goes_newGen : Goes Try.prog 57 := ⟨_, Try.func57, rfl, by kernel_rfl⟩
def newG (bl : List Bk) : Value := if gm bl = 4294967295#32 then .tuple #[U32 0, N 6] else .tuple #[U32 (gm bl + 1#32), N 0]
set_option maxHeartbeats 16000000 in
theorem newGen_any (x : Dp) (bl : List Bk) (pd : List (Nat × Bk)) (ok : Ok bl pd) (hn : bl.length ≤ 65536) (w : World) (h0 : Holds w [] (dkR x bl pd) w) :
    Calls Try.prog 57 [ifD x].toArray w fun e w' => e = .returned (newG bl) ∧ Ext w w' := by
  refine enter (n := 32) Try.func57 rfl rfl rfl h0 ?_
  repeat (first | refine JL.q (by first | (apply OQ.inv (xs := []); exact (isSize x); exact rfl; exact (OQ.callx (vs := [Pt x.p 0]) goes_dsizej rfl (fun w' hw' => dsizeR x bl pd w' (dkR_front (A := []) (M := []) hw')))) | (apply OQ.move; exact rfl) | (apply OQ.assign; exact rfl)) rfl ?_ | refine JC.seq ?_ | refine JC.region ?_ | refine JC.block ?_ | refine JL.nil ?_ | refine JE.next ?_)
  refine JC.loop (fun z : Nat => [(0, ifD x), (4, U32 (gm (bl.take z))), (9, N bl.length), (10, N z)]) (fun _ => dkR x bl pd) (fun z => bl.length - z) (fun z => z ≤ bl.length) 0 (Nat.zero_le _) (by repeat (first | exact SubE.nil | refine SubE.cons _ _ _ rfl ?_)) (Less.refl _) ?_
  intro p hp
  repeat (first | refine JL.q (by (apply OQ.lssN; exact rfl; exact rfl)) rfl ?_ | refine JC.seq ?_ | refine JC.region ?_ | refine JL.nil ?_ | refine JE.next ?_)
  refine JC.cond rfl (fun hc => ?_) (fun hc => ?_)
  · have hp' : p < bl.length := by have := of_decide_eq_true hc; omega
    clear hc
    have hg := gm_at hp'
    have hb : (old bl p).length = 64 := ok.old hp'
    have cR := fun {u w' : World} {S : List Nat} {A : List Ent} (hw' : Holds u S (A ++ (dkR x bl pd ++ [])) w') => dreadR x bl pd p hp' ok w' (dkR_front hw')
    generalize old bl p = b at hb cR hg
    repeat (first | refine JL.q (by first | (apply OQ.inv (xs := [_]); exact (isRead x); exact rfl; exact (OQ.callx (vs := [Pt x.p 0, N p]) goes_dread rfl (fun w' hw' => cR (A := []) hw'))) | (apply OQ.extract; exact rfl; exact rfl) | (apply OQ.move; exact rfl) | (apply OQ.assign; exact rfl)) rfl ?_ | refine JC.seq ?_ | refine JC.region ?_ | refine JC.block ?_ | refine JC.skip ?_ | refine JL.nil ?_ | refine JE.next ?_)
    refine JL.alloc dkZ rfl fun b6 _ => ?_
    refine JL.store_all (cs := bc b) dkB rfl rfl (bc_len hb) (bc_cell _) .here rfl ?_
    repeat (first | refine JL.q (by (apply OQ.assign; exact rfl)) rfl ?_ | refine JL.nil ?_ | refine JE.next ?_)
    have cA := fun {u w' : World} {S : List Nat} {M : List Ent} (hw' : Holds u S M w') (hM : Has M b6 (Row 51 (bc b)) true) => markIn_any ⟨some ⟨b6, 0, none⟩, 64, b⟩ w' (row_ok hw' hM rfl (by omega)) (by show 10 ≤ b.length; omega) (by show b.length ≤ 64; omega)
    have cE := fun {u w' : World} {S : List Nat} {M : List Ent} (hw' : Holds u S M w') (hM : Has M b6 (Row 51 (bc b)) true) => markIn_any ⟨some ⟨b6, 0 + 54, none⟩, 64 - 54, b.drop 54⟩ w' (end_ok hw' hM hb (by decide)) (by show 10 ≤ (b.drop 54).length; rw [List.length_drop]; omega) (by show (b.drop 54).length ≤ 64; rw [List.length_drop]; omega)
    refine JC.tail 8 mixT (by kernel_rfl) ?_
    simp only [List.take_succ_cons, List.take_zero, List.drop_succ_cons, List.drop_zero]
    repeat (first | refine JL.q (by first | (apply OQ.slAll; exact hb; exact Try.underlying51; exact u8s; exact rfl) | (apply OQ.slEnd (lo := 54); exact hb; exact Try.underlying51; exact u8s; exact rfl; exact rfl; exact (by decide)) | (apply OQ.callx (vs := [(⟨some ⟨b6, 0, none⟩, 64, b⟩ : Sl8).v]); exact goes_markIn; exact rfl; exact (fun w' hw' => cA hw' .here)) | (apply OQ.callx (vs := [(⟨some ⟨b6, 0 + 54, none⟩, 64 - 54, b.drop 54⟩ : Sl8).v]); exact goes_markIn; exact rfl; exact (fun w' hw' => cE hw' .here)) | (apply OQ.fieldM0; exact rfl) | (apply OQ.max32; exact rfl; exact rfl; exact rfl) | (apply OQ.move; exact rfl) | (apply OQ.assign; exact rfl) | (apply OQ.addN; exact rfl; exact rfl; exact (by (try simp only []); omega))) rfl ?_ | refine JQ.q (by first | (apply OQ.slAll; exact hb; exact Try.underlying51; exact u8s; exact rfl) | (apply OQ.slEnd (lo := 54); exact hb; exact Try.underlying51; exact u8s; exact rfl; exact rfl; exact (by decide)) | (apply OQ.callx (vs := [(⟨some ⟨b6, 0, none⟩, 64, b⟩ : Sl8).v]); exact goes_markIn; exact rfl; exact (fun w' hw' => cA hw' .here)) | (apply OQ.callx (vs := [(⟨some ⟨b6, 0 + 54, none⟩, 64 - 54, b.drop 54⟩ : Sl8).v]); exact goes_markIn; exact rfl; exact (fun w' hw' => cE hw' .here)) | (apply OQ.fieldM0; exact rfl) | (apply OQ.max32; exact rfl; exact rfl; exact rfl) | (apply OQ.move; exact rfl) | (apply OQ.assign; exact rfl) | (apply OQ.addN; exact rfl; exact rfl; exact (by (try simp only []); omega))) rfl ?_ | refine JC.region ?_ | refine JL.nil ?_ | refine JQ.nil_tail ?_ | refine JE.next ?_ | refine JE.blk_normal ?_)
    rw [← hg]
    exact JE.again (i := p) (p + 1) hp' (by omega) (by repeat (first | exact SubE.nil | refine SubE.cons _ _ _ rfl ?_)) (.drop _ _ _ (Less.refl _))
  · have hp' : p = bl.length := by have := of_decide_eq_false hc; omega
    rw [List.take_of_length_le (by omega : bl.length ≤ p)]
    unfold newG
    cases hm : decide (((gm bl).toNat : Int) = 4294967295)
    · have hne : ¬ gm bl = 4294967295#32 := fun e => by rw [e] at hm; cases hm
      rw [if_neg hne]
      repeat (first | refine JL.q (by first | (apply OQ.eqB (b := 4294967295); exact rfl; exact rfl; exact hm) | (apply OQ.move; exact rfl)) rfl ?_ | refine JC.seq ?_ | refine JC.region ?_ | refine JC.exit ?_ | refine JL.nil ?_ | refine JE.next ?_ | refine JE.then_exit ?_ | refine JE.blk_hit ?_)
      refine JC.cond_false rfl rfl ?_
      repeat (first | refine JL.q (by first | (apply OQ.add32 (b := 1#32); exact rfl; exact rfl) | (apply OQ.move; exact rfl) | (apply OQ.assign; exact rfl)) rfl ?_ | refine JC.seq ?_ | refine JC.region ?_ | refine JC.skip ?_ | refine JL.nil ?_ | refine JE.next ?_)
      refine JC.ret ?_
      skip
      exact JE.ret2 rfl (RV.tmp rfl) (RV.tmp rfl) fun w' hw => ⟨rfl, hw.chg⟩
    · have he : gm bl = 4294967295#32 := BitVec.eq_of_toNat_eq (by have := of_decide_eq_true hm; show (gm bl).toNat = 4294967295; omega)
      rw [if_pos he]
      repeat (first | refine JL.q (by first | (apply OQ.eqB (b := 4294967295); exact rfl; exact rfl; exact hm) | (apply OQ.move; exact rfl)) rfl ?_ | refine JC.seq ?_ | refine JC.region ?_ | refine JC.exit ?_ | refine JL.nil ?_ | refine JE.next ?_ | refine JE.then_exit ?_ | refine JE.blk_hit ?_)
      refine JC.cond_true rfl rfl ?_
      repeat (first | refine JL.q (by (apply OQ.assign; exact rfl)) rfl ?_ | refine JC.seq ?_ | refine JC.region ?_ | refine JL.nil ?_ | refine JE.next ?_)
      refine JC.ret ?_
      repeat (refine JE.then_ret ?_)
      exact JE.ret2 rfl (RV.tmp rfl) (RV.tmp rfl) fun w' hw => ⟨rfl, hw.chg⟩
end Go.Proofs.Ytjkncnbpaejamaa

/-
  Of no statement by itself: the landed journal's current, other, Records, Fits.
  Conditions: each theorem's own.
-/
namespace Go.Proofs.Ytjkncnbpaejamaa
set_option maxRecDepth 10000
open Sl Dsk Jrn
/-- the records at a half, and its generation -/
def recH (bl : List Bk) (first : Nat) : List Bk := toldH bl first (bl.length / 2) (markIn (old bl first)).1
def genH (bl : List Bk) (first : Nat) : BitVec 32 := if (recH bl first).length = 0 then 0 else (markIn (old bl first)).1
def curF (bl : List Bk) : Nat × BitVec 32 × List Bk :=
  if (0 : Int) < ((genH bl 0).toNat : Int) ∧ ((genH bl (bl.length / 2)).toNat : Int) ≤ ((genH bl 0).toNat : Int) then (0, genH bl 0, recH bl 0)
  else if (0 : Int) < ((genH bl (bl.length / 2)).toNat : Int) then (bl.length / 2, genH bl (bl.length / 2), recH bl (bl.length / 2)) else (bl.length / 2, genH bl (bl.length / 2), [[]])
theorem halfAt_c (x : Dp) (bl : List Bk) (pd : List (Nat × Bk)) (first : Nat) (ok : Ok bl pd) (hn : bl.length ≤ 65536) (hf : first < bl.length) (hs : first + bl.length / 2 ≤ bl.length) (w : World) (h0 : Holds w [] (dkR x bl pd) w) :
    Calls Try.prog 71 [ifD x, N first].toArray w fun e w' => ∃ z : {z : Gr // z.l = recH bl first ∧ z.rs.length ≤ bl.length / 2}, e = .returned (.tuple #[.agg (hfc ⟨x, first, bl.length / 2, genH bl first, 0, 0⟩).toArray, z.1.v]) ∧ Holds w [] z.1.E w' :=
  (halfAt_any x bl pd first ok hn hf hs w h0).mono fun e w' ⟨⟨z, hz⟩, h1, h2⟩ => ⟨⟨z, hz⟩, by
    rw [h1]
    have : z.rs.length = (recH bl first).length := by
      have := congrArg List.length hz.1
      rw [Gr.l, List.length_map] at this
      exact this
    unfold genH
    rw [← this], h2⟩
theorem goes_cur : Goes Try.prog 58 := ⟨_, Try.func58, rfl, by kernel_rfl⟩
abbrev GrOf (A : List Bk) (m : Nat) := {z : Gr // z.l = A ∧ z.rs.length ≤ m}
theorem JL.halfAt {n : Nat} {w0 : World} {S : List Nat} {ops : Array Oper} {Q : Exit → Act → World → Prop} {l : List Oper} {E : Env} {M A : List Ent} {d : Nat} {ty : TypeId} {pos : String} {aft : Array Edge} {x1 x2 : Operand} {ats : Array TypeId} {x : Dp} {bl : List Bk} {pd : List (Nat × Bk)} {first : Nat}
    (ok : Ok bl pd) (hn : bl.length ≤ 65536) (hf : first < bl.length) (hs : first + bl.length / 2 ≤ bl.length) (e1 : ev E x1 = some (ifD x)) (e2 : ev E x2 = some (N first)) (hd : Nat.blt d n = true) (hM : M = A ++ (dkR x bl pd ++ []))
    (kk : ∀ z : GrOf (recH bl first) (bl.length / 2), JL Try.prog n w0 S ops Q l ((d, .tuple #[.agg (hfc ⟨x, first, bl.length / 2, genH bl first, 0, 0⟩).toArray, z.1.v]) :: E) (z.1.E ++ M)) : JL Try.prog n w0 S ops Q (⟨some d, .call ⟨.value (.func 71), #[x1, x2], ats⟩, ty, pos, aft, none⟩ :: l) E M :=
  JL.callg (xs := [x1, x2]) (ι := GrOf (recH bl first) (bl.length / 2)) (vs := [ifD x, N first]) (fun z => .tuple #[.agg (hfc ⟨x, first, bl.length / 2, genH bl first, 0, 0⟩).toArray, z.1.v]) (fun z => z.1.E) goes_halfAt (by simp [evs, e1, e2]) hd (fun z => z.1.wr) (fun w' hw' => halfAt_c x bl pd first ok hn hf hs w' (dkR_front (A := A) (by rw [← hM]; exact hw'))) kk
def gr0 (b : Nat) : Gr := ⟨some (b, 1), [nilS], nofun, fun x hx _ => by rw [List.mem_singleton.1 hx]; rfl⟩
set_option maxHeartbeats 16000000 in
theorem cur_any (x : Dp) (bl : List Bk) (pd : List (Nat × Bk)) (ok : Ok bl pd) (hn : bl.length ≤ 65536) (h4 : 4 ≤ bl.length) (w : World) (h0 : Holds w [] (dkR x bl pd) w) :
    Calls Try.prog 58 [ifD x].toArray w fun e w' => ∃ z : GrOf (curF bl).2.2 (bl.length / 2), e = .returned (.tuple #[.agg (hfc ⟨x, (curF bl).1, bl.length / 2, (curF bl).2.1, 0, 0⟩).toArray, z.1.v]) ∧ Holds w [] z.1.E w' := by
  refine enter (n := 40) Try.func58 rfl rfl rfl h0 ?_
  repeat (first | refine JC.seq ?_ | refine JC.region ?_)
  refine JL.alloc (r := hfc0) hfZ rfl fun b2 _ => ?_
  repeat (first | refine JL.q (by first | (apply OQ.move; exact rfl) | (apply OQ.assign; exact rfl)) rfl ?_ | refine JC.seq ?_ | refine JC.region ?_ | refine JL.nil ?_ | refine JE.next ?_)
  refine JL.halfAt (A := [_]) (first := 0) ok hn (by omega) (by omega) rfl rfl rfl rfl fun z1 => ?_
  repeat (refine JL.q (by first | (apply OQ.extract; exact rfl; exact rfl) | (apply OQ.move; exact rfl)) rfl ?_)
  generalize hh1 : (⟨x, 0, bl.length / 2, genH bl 0, 0, 0⟩ : Hf) = h1
  refine JL.alloc (r := hfc0) hfZ rfl fun b4 _ => ?_
  refine JL.store_all (cs := hfc h1) hf6 rfl rfl rfl rfl .here rfl ?_
  refine JL.perm (M' := ([⟨b4, Row 102 (hfc h1), true⟩, ⟨b2, Row 102 hfc0, true⟩] ++ z1.1.E) ++ (dkR x bl pd ++ [])) ?_ (by
    rw [List.append_nil, List.append_assoc]
    exact List.Perm.cons _ (List.perm_append_comm_assoc z1.1.E [_] _))
  repeat (first | refine JL.q (by first | (apply OQ.inv (xs := []); exact (isSize x); exact rfl; exact (OQ.callx (vs := [Pt x.p 0]) goes_dsizej rfl (fun w' hw' => dsizeR x bl pd w' (dkR_front (A := [⟨b4, Row 102 (hfc h1), true⟩, ⟨b2, Row 102 hfc0, true⟩] ++ z1.1.E) (M := []) hw')))) | (apply OQ.quoN (b := 2); exact rfl; exact rfl; exact (by decide); exact (by omega)) | (apply OQ.move; exact rfl) | (apply OQ.assign; exact rfl)) rfl ?_ | refine JC.seq ?_ | refine JC.region ?_ | refine JL.nil ?_ | refine JE.next ?_)
  refine JL.halfAt (A := [_, _] ++ z1.1.E) (first := bl.length / 2) ok hn (by omega) (by omega) rfl rfl rfl rfl fun z2 => ?_
  repeat (refine JL.q (by first | (apply OQ.extract; exact rfl; exact rfl) | (apply OQ.move; exact rfl)) rfl ?_)
  generalize hh2 : (⟨x, bl.length / 2, bl.length / 2, genH bl (bl.length / 2), 0, 0⟩ : Hf) = h2
  refine JL.alloc (r := hfc0) hfZ rfl fun b6 _ => ?_
  refine JL.store_all (cs := hfc h2) hf6 rfl rfl rfl rfl .here rfl ?_
  refine JL.perm (M' := [⟨b6, Row 102 (hfc h2), true⟩, ⟨b4, Row 102 (hfc h1), true⟩, ⟨b2, Row 102 hfc0, true⟩] ++ (z1.1.E ++ (z2.1.E ++ dkR x bl pd))) ?_ (by
    rw [List.append_nil]
    refine List.Perm.cons _ ((List.perm_append_comm_assoc z2.1.E ([_, _] ++ z1.1.E) _).trans ?_)
    rw [List.append_assoc]
    exact List.Perm.refl _)
  have hcur : curF bl = if (0 : Int) < (h1.g.toNat : Int) ∧ (h2.g.toNat : Int) ≤ (h1.g.toNat : Int) then (0, h1.g, recH bl 0) else if (0 : Int) < (h2.g.toNat : Int) then (bl.length / 2, h2.g, recH bl (bl.length / 2)) else (bl.length / 2, h2.g, [[]]) := by rw [← hh1, ← hh2]; rfl
  rw [hcur]
  cases c0 : decide ((0 : Int) < (h1.g.toNat : Int) ∧ (h2.g.toNat : Int) ≤ (h1.g.toNat : Int))
  case true =>
    have hc0 := of_decide_eq_true c0
    rw [if_pos hc0]
    repeat (first | refine JL.q (by first | (apply OQ.load; exact u32C; exact rfl; exact (.there .here); exact (Row.cell (v := U32 h1.g) rfl)) | (apply OQ.load; exact u32C; exact rfl; exact .here; exact (Row.cell (v := U32 h2.g) rfl)) | (apply OQ.gtrB (b := 0); exact rfl; exact rfl; exact (decide_eq_true hc0.1)) | (apply OQ.geqB; exact rfl; exact rfl; exact (decide_eq_true hc0.2)) | (apply OQ.pick_t; exact rfl; exact rfl) | (apply OQ.move; exact rfl) | (apply OQ.assign; exact rfl) | (apply OQ.fld; exact rfl; exact rfl; exact rfl; exact (by decide); exact rfl)) rfl ?_ | refine JC.seq ?_ | refine JC.region ?_ | refine JL.nil ?_ | refine JE.next ?_ | refine JL.gon rfl rfl ?_)
    refine JC.cond_true rfl rfl ?_
    repeat (first | refine JL.q (by first | (apply OQ.load_agg (cs := hfc h1); exact hfAg; exact hf6; exact rfl; exact (.there .here); exact rfl; exact Row.all) | (apply OQ.move; exact rfl)) rfl ?_ | refine JC.seq ?_ | refine JC.region ?_)
    refine JL.store_all (cs := hfc h1) hf6 rfl rfl rfl rfl (.there (.there .here)) rfl ?_
    repeat (first | refine JL.q (by (apply OQ.assign; exact rfl)) rfl ?_ | refine JL.nil ?_ | refine JE.next ?_)
    refine JC.ret ?_
    repeat (refine JE.then_ret ?_)
    exact JE.ret2 rfl (RV.cell_agg hfAg hf6 rfl (.there (.there .here)) rfl Row.all) (RV.tmp rfl) fun w' hw => ⟨z1, by rw [← hh1]; rfl, hw.weak (.drop _ _ _ (.drop _ _ _ (.drop _ _ _ (less_pre _ _))))⟩
  case false =>
    have hc0 := of_decide_eq_false c0
    rw [if_neg hc0]
    cases c1 : decide ((0 : Int) < (h1.g.toNat : Int))
    case false =>
      repeat (first | refine JL.q (by first | (apply OQ.load; exact u32C; exact rfl; exact (.there .here); exact (Row.cell (v := U32 h1.g) rfl)) | (apply OQ.gtrB (b := 0); exact rfl; exact rfl; exact c1) | (apply OQ.pick_f; exact rfl; exact rfl) | (apply OQ.move; exact rfl) | (apply OQ.assign; exact rfl) | (apply OQ.fld; exact rfl; exact rfl; exact rfl; exact (by decide); exact rfl)) rfl ?_ | refine JC.seq ?_ | refine JC.region ?_ | refine JL.nil ?_ | refine JE.next ?_ | refine JL.gskip rfl rfl rfl rfl ?_)
      refine JC.cond_false rfl rfl ?_
      cases c3 : decide ((0 : Int) < (h2.g.toNat : Int))
      case true =>
        have hc3 := of_decide_eq_true c3
        rw [if_pos hc3]
        repeat (first | refine JL.q (by first | (apply OQ.load; exact u32C; exact rfl; exact .here; exact (Row.cell (v := U32 h2.g) rfl)) | (apply OQ.gtrB (b := 0); exact rfl; exact rfl; exact c3) | (apply OQ.fld; exact rfl; exact rfl; exact rfl; exact (by decide); exact rfl)) rfl ?_ | refine JC.seq ?_ | refine JC.region ?_ | refine JC.skip ?_ | refine JL.nil ?_ | refine JE.next ?_)
        refine JC.cond_true rfl rfl ?_
        repeat (first | refine JL.q (by first | (apply OQ.load_agg (cs := hfc h2); exact hfAg; exact hf6; exact rfl; exact .here; exact rfl; exact Row.all) | (apply OQ.move; exact rfl)) rfl ?_ | refine JC.seq ?_ | refine JC.region ?_)
        refine JL.store_all (cs := hfc h2) hf6 rfl rfl rfl rfl (.there (.there .here)) rfl ?_
        repeat (first | refine JL.q (by (apply OQ.assign; exact rfl)) rfl ?_ | refine JL.nil ?_ | refine JE.next ?_)
        refine JC.ret ?_
        repeat (refine JE.then_ret ?_)
        exact JE.ret2 rfl (RV.cell_agg hfAg hf6 rfl (.there (.there .here)) rfl Row.all) (RV.tmp rfl) fun w' hw => ⟨z2, by rw [← hh2]; rfl, hw.weak (.drop _ _ _ (.drop _ _ _ (.drop _ _ _ (less_app z1.1.E (less_pre z2.1.E _)))))⟩
      case false =>
        have hc3 := of_decide_eq_false c3
        rw [if_neg hc3]
        repeat (first | refine JL.q (by first | (apply OQ.load; exact u32C; exact rfl; exact .here; exact (Row.cell (v := U32 h2.g) rfl)) | (apply OQ.gtrB (b := 0); exact rfl; exact rfl; exact c3) | (apply OQ.fld; exact rfl; exact rfl; exact rfl; exact (by decide); exact rfl)) rfl ?_ | refine JC.seq ?_ | refine JC.region ?_ | refine JC.skip ?_ | refine JL.nil ?_ | refine JE.next ?_)
        refine JC.cond_false rfl rfl ?_
        repeat (first | refine JL.q (by (apply OQ.load_agg (cs := hfc h2); exact hfAg; exact hf6; exact rfl; exact .here; exact rfl; exact Row.all)) rfl ?_ | refine JC.seq ?_ | refine JC.region ?_ | refine JC.skip ?_ | refine JE.next ?_)
        refine JL.lit1 (v := .slice none 0 0) Try.underlying34 slEj rfl rfl rfl rfl fun bl2 _ => ?_
        refine JL.store_all (cs := hfc h2) hf6 rfl rfl rfl rfl (.there (.there (.there .here))) rfl ?_
        repeat (first | refine JL.q (by (apply OQ.assign; exact rfl)) rfl ?_ | refine JL.nil ?_ | refine JE.next ?_)
        refine JC.ret ?_
        skip
        exact JE.ret2 rfl (RV.cell_agg hfAg hf6 rfl (.there (.there (.there .here))) rfl Row.all) (RV.tmp rfl) fun w' hw => ⟨⟨gr0 bl2, rfl, by show 1 ≤ _; omega⟩, by rw [← hh2]; rfl, hw.weak (.keep _ _ _ _ _ _ (row_ownG rfl) (.nil _))⟩
    case true =>
      have c2 : decide ((h2.g.toNat : Int) ≤ (h1.g.toNat : Int)) = false := decide_eq_false fun h => hc0 ⟨of_decide_eq_true c1, h⟩
      repeat (first | refine JL.q (by first | (apply OQ.load; exact u32C; exact rfl; exact (.there .here); exact (Row.cell (v := U32 h1.g) rfl)) | (apply OQ.load; exact u32C; exact rfl; exact .here; exact (Row.cell (v := U32 h2.g) rfl)) | (apply OQ.gtrB (b := 0); exact rfl; exact rfl; exact c1) | (apply OQ.geqB; exact rfl; exact rfl; exact c2) | (apply OQ.pick_t; exact rfl; exact rfl) | (apply OQ.move; exact rfl) | (apply OQ.assign; exact rfl) | (apply OQ.fld; exact rfl; exact rfl; exact rfl; exact (by decide); exact rfl)) rfl ?_ | refine JC.seq ?_ | refine JC.region ?_ | refine JL.nil ?_ | refine JE.next ?_ | refine JL.gon rfl rfl ?_)
      refine JC.cond_false rfl rfl ?_
      cases c3 : decide ((0 : Int) < (h2.g.toNat : Int))
      case true =>
        have hc3 := of_decide_eq_true c3
        rw [if_pos hc3]
        repeat (first | refine JL.q (by first | (apply OQ.load; exact u32C; exact rfl; exact .here; exact (Row.cell (v := U32 h2.g) rfl)) | (apply OQ.gtrB (b := 0); exact rfl; exact rfl; exact c3) | (apply OQ.fld; exact rfl; exact rfl; exact rfl; exact (by decide); exact rfl)) rfl ?_ | refine JC.seq ?_ | refine JC.region ?_ | refine JC.skip ?_ | refine JL.nil ?_ | refine JE.next ?_)
        refine JC.cond_true rfl rfl ?_
        repeat (first | refine JL.q (by first | (apply OQ.load_agg (cs := hfc h2); exact hfAg; exact hf6; exact rfl; exact .here; exact rfl; exact Row.all) | (apply OQ.move; exact rfl)) rfl ?_ | refine JC.seq ?_ | refine JC.region ?_)
        refine JL.store_all (cs := hfc h2) hf6 rfl rfl rfl rfl (.there (.there .here)) rfl ?_
        repeat (first | refine JL.q (by (apply OQ.assign; exact rfl)) rfl ?_ | refine JL.nil ?_ | refine JE.next ?_)
        refine JC.ret ?_
        repeat (refine JE.then_ret ?_)
        exact JE.ret2 rfl (RV.cell_agg hfAg hf6 rfl (.there (.there .here)) rfl Row.all) (RV.tmp rfl) fun w' hw => ⟨z2, by rw [← hh2]; rfl, hw.weak (.drop _ _ _ (.drop _ _ _ (.drop _ _ _ (less_app z1.1.E (less_pre z2.1.E _)))))⟩
      case false =>
        have hc3 := of_decide_eq_false c3
        rw [if_neg hc3]
        repeat (first | refine JL.q (by first | (apply OQ.load; exact u32C; exact rfl; exact .here; exact (Row.cell (v := U32 h2.g) rfl)) | (apply OQ.gtrB (b := 0); exact rfl; exact rfl; exact c3) | (apply OQ.fld; exact rfl; exact rfl; exact rfl; exact (by decide); exact rfl)) rfl ?_ | refine JC.seq ?_ | refine JC.region ?_ | refine JC.skip ?_ | refine JL.nil ?_ | refine JE.next ?_)
        refine JC.cond_false rfl rfl ?_
        repeat (first | refine JL.q (by (apply OQ.load_agg (cs := hfc h2); exact hfAg; exact hf6; exact rfl; exact .here; exact rfl; exact Row.all)) rfl ?_ | refine JC.seq ?_ | refine JC.region ?_ | refine JC.skip ?_ | refine JE.next ?_)
        refine JL.lit1 (v := .slice none 0 0) Try.underlying34 slEj rfl rfl rfl rfl fun bl2 _ => ?_
        refine JL.store_all (cs := hfc h2) hf6 rfl rfl rfl rfl (.there (.there (.there .here))) rfl ?_
        repeat (first | refine JL.q (by (apply OQ.assign; exact rfl)) rfl ?_ | refine JL.nil ?_ | refine JE.next ?_)
        refine JC.ret ?_
        skip
        exact JE.ret2 rfl (RV.cell_agg hfAg hf6 rfl (.there (.there (.there .here))) rfl Row.all) (RV.tmp rfl) fun w' hw => ⟨⟨gr0 bl2, rfl, by show 1 ≤ _; omega⟩, by rw [← hh2]; rfl, hw.weak (.keep _ _ _ _ _ _ (row_ownG rfl) (.nil _))⟩
theorem goes_other : Goes Try.prog 59 := ⟨_, Try.func59, rfl, by kernel_rfl⟩
set_option maxHeartbeats 4000000 in
theorem other_any (h : Hf) (hf : h.first ≤ h.size) (hb : h.size < 4611686018427387904) (w : World) : Calls Try.prog 59 [.agg (hfc h).toArray].toArray w fun e w' => e = .returned (.agg (hfc ⟨h.x, h.size - h.first, h.size, 0, 0, 0⟩).toArray) ∧ Ext w w' := by
  refine enter (n := 13) Try.func59 rfl rfl rfl (Holds.start w []) ?_
  repeat (first | refine JC.seq ?_ | refine JC.region ?_)
  refine JL.box (r := hfc h) rfl rfl rfl fun b1 _ => ?_
  refine JL.alloc (r := hfc0) hfZ rfl fun b2 _ => ?_
  repeat (first | refine JL.q (by first | (apply OQ.load; exact jbC; exact rfl; exact (.there .here); exact (Row.cell (v := ifD h.x) rfl)) | (apply OQ.load; exact intC; exact rfl; exact (.there .here); exact (Row.cell (v := N h.first) rfl)) | (apply OQ.load; exact intC; exact rfl; exact (.there .here); exact (Row.cell (v := N h.size) rfl)) | (apply OQ.subN (a := h.size); exact rfl; exact rfl; exact hf; exact (by omega)) | (apply OQ.buildH3 (h := ⟨h.x, h.size - h.first, h.size, 0, 0, 0⟩); exact rfl; exact rfl; exact rfl) | (apply OQ.fld; exact rfl; exact rfl; exact rfl; exact (by decide); exact rfl)) rfl ?_ | refine JC.seq ?_ | refine JC.region ?_ | refine JL.nil ?_ | refine JE.next ?_)
  refine JL.store_all (cs := hfc ⟨h.x, h.size - h.first, h.size, 0, 0, 0⟩) hf6 rfl rfl rfl rfl .here rfl ?_
  repeat (first | refine JL.nil ?_ | refine JE.next ?_)
  exact JC.ret (JE.ret1 rfl (RV.cell_agg hfAg hf6 rfl .here rfl Row.all) fun w' hw => ⟨rfl, hw.chg⟩)
theorem goes_recs : Goes Try.prog 43 := ⟨_, Try.func43, rfl, by kernel_rfl⟩
/-- a journal and its disk, that are only read -/
def jnR (j : Nat) (h : Hf) (bl : List Bk) (pd : List (Nat × Bk)) : List Ent := ⟨j, Row 104 (hfc h), false⟩ :: dkR h.x bl pd
set_option maxHeartbeats 4000000 in
theorem recs_any (j : Nat) (h : Hf) (bl : List Bk) (pd : List (Nat × Bk)) (ok : Ok bl pd) (hn : bl.length ≤ 65536) (hs : h.first + h.size ≤ bl.length) (w : World) (h0 : Holds w [] (jnR j h bl pd) w) :
    Calls Try.prog 43 [Pt j 0].toArray w fun e w' => ∃ z : GrOf (toldH bl h.first h.size h.g) h.size, e = .returned z.1.v ∧ Holds w [] z.1.E w' := by
  refine enter (n := 8) Try.func43 rfl rfl rfl h0 ?_
  repeat (first | refine JL.q (by first | (apply OQ.load_agg (cs := hfc h); exact hfAg; exact hf6; exact rfl; exact .here; exact rfl; exact Row.all) | (apply OQ.move; exact rfl) | (apply OQ.assign; exact rfl) | (apply OQ.nilc; exact rfl) | (apply OQ.fld; exact rfl; exact rfl; exact rfl; exact (by decide); exact rfl)) rfl ?_ | refine JC.seq ?_ | refine JC.region ?_ | refine JL.nil ?_ | refine JE.next ?_)
  refine JL.callg (ι := GrOf (toldH bl h.first h.size h.g) h.size) (vs := [.agg (hfc h).toArray]) (fun z => z.1.v) (fun z => z.1.E) goes_told rfl rfl (fun z => z.1.wr) (fun w' hw' => told_any h bl pd ok hn hs w' (dkR_front (A := [_]) (M := []) (by rw [List.append_nil]; exact hw'))) fun z => ?_
  repeat (first | refine JL.q (by (apply OQ.assign; exact rfl)) rfl ?_ | refine JL.nil ?_ | refine JE.next ?_)
  exact JC.ret (JE.ret1 rfl (RV.tmp rfl) fun w' hw => ⟨z, rfl, hw.weak (less_pre _ _)⟩)
theorem goes_fits : Goes Try.prog 30 := ⟨_, Try.func30, rfl, by kernel_rfl⟩
set_option maxHeartbeats 4000000 in
theorem fits_any (j : Nat) (h : Hf) (n : Int) (hu : h.used ≤ h.size) (hb : h.size < 4611686018427387904) (hn : n < 4611686018427387904) (w : World) (h0 : Holds w [] [⟨j, Row 104 (hfc h), false⟩] w) :
    Calls Try.prog 30 [Pt j 0, .int .i64 n].toArray w fun e w' => e = .returned (.bool (decide (0 ≤ n ∧ nb n.toNat ≤ h.size - h.used))) ∧ Ext w w' := by
  refine enter (n := 23) Try.func30 rfl rfl rfl h0 ?_
  repeat (first | refine JL.q (by (apply OQ.assign; exact rfl)) rfl ?_ | refine JC.seq ?_ | refine JC.region ?_ | refine JL.nil ?_ | refine JE.next ?_)
  refine JC.tail 18 mixT (by kernel_rfl) ?_
  simp only [List.take_succ_cons, List.take_zero, List.drop_succ_cons, List.drop_zero]
  cases h1 : decide ((0 : Int) ≤ n)
  · repeat (first | refine JL.q (by first | (apply OQ.geqB (b := 0); exact rfl; exact rfl; exact h1) | (apply OQ.pick_f; exact rfl; exact rfl) | (apply OQ.move; exact rfl) | (apply OQ.assign; exact rfl)) rfl ?_ | refine JQ.q (by first | (apply OQ.geqB (b := 0); exact rfl; exact rfl; exact h1) | (apply OQ.pick_f; exact rfl; exact rfl) | (apply OQ.move; exact rfl) | (apply OQ.assign; exact rfl)) rfl ?_ | refine JL.nil ?_ | refine JQ.nil_tail ?_ | refine JE.next ?_ | refine JQ.gskip rfl rfl rfl rfl ?_)
    refine JC.ret (JE.ret1 rfl (RV.tmp rfl) fun w' hw => ⟨?_, hw.chg⟩)
    rw [decide_eq_false fun hh => of_decide_eq_false h1 hh.1]
  · obtain ⟨m, rfl⟩ := Int.eq_ofNat_of_zero_le (of_decide_eq_true h1)
    have hm : m < 4611686018427387904 := by omega
    have e2 : decide ((0 : Int) ≤ (m : Int) ∧ nb (m : Int).toNat ≤ h.size - h.used) = decide (nb m ≤ h.size - h.used) := decide_eq_decide.2 (by simp)
    rw [e2]
    repeat (first | refine JL.q (by first | (apply OQ.geqB (b := 0); exact rfl; exact rfl; exact h1) | (apply OQ.callx (vs := [N m]); exact goes_bfor; exact rfl; exact (fun w' _ => bfor_any m hm w')) | (apply OQ.load; exact intC; exact rfl; exact .here; exact (Row.cell (v := N h.size) rfl)) | (apply OQ.load; exact intC; exact rfl; exact .here; exact (Row.cell (v := N h.used) rfl)) | (apply OQ.subN (a := h.size); exact rfl; exact rfl; exact hu; exact (by omega)) | (apply OQ.leqN; exact rfl; exact rfl) | (apply OQ.pick_t; exact rfl; exact rfl) | (apply OQ.move; exact rfl) | (apply OQ.assign; exact rfl) | (apply OQ.nilc; exact rfl) | (apply OQ.fld; exact rfl; exact rfl; exact rfl; exact (by decide); exact rfl)) rfl ?_ | refine JQ.q (by first | (apply OQ.geqB (b := 0); exact rfl; exact rfl; exact h1) | (apply OQ.callx (vs := [N m]); exact goes_bfor; exact rfl; exact (fun w' _ => bfor_any m hm w')) | (apply OQ.load; exact intC; exact rfl; exact .here; exact (Row.cell (v := N h.size) rfl)) | (apply OQ.load; exact intC; exact rfl; exact .here; exact (Row.cell (v := N h.used) rfl)) | (apply OQ.subN (a := h.size); exact rfl; exact rfl; exact hu; exact (by omega)) | (apply OQ.leqN; exact rfl; exact rfl) | (apply OQ.pick_t; exact rfl; exact rfl) | (apply OQ.move; exact rfl) | (apply OQ.assign; exact rfl) | (apply OQ.nilc; exact rfl) | (apply OQ.fld; exact rfl; exact rfl; exact rfl; exact (by decide); exact rfl)) rfl ?_ | refine JL.nil ?_ | refine JQ.nil_tail ?_ | refine JE.next ?_ | refine JQ.gon rfl rfl ?_)
    exact JC.ret (JE.ret1 rfl (RV.tmp rfl) fun w' hw => ⟨rfl, hw.chg⟩)
end Go.Proofs.Ytjkncnbpaejamaa

/-
  Of no statement by itself: the landed journal's write: a record's blocks are written.
  Conditions: each theorem's own.
-/
namespace Go.Proofs.Ytjkncnbpaejamaa
set_option maxRecDepth 10000
open Sl Dsk Jrn
theorem Sl8.ok.away {w0 w : World} {S : List Nat} {M : List Ent} {s : Sl8} (h : s.ok w0) (hw : Holds w0 S M w) (ha : Away s S) : s.ok w :=
  ⟨h.len, hw.reads h.reads fun h0 a e => ha (fun h1 => h0 (by rw [h1]; rfl)) a e⟩
/-- blocks put over others -/
def putAt (bl : List Bk) (k : Nat) (l : List Bk) : List Bk := bl.take k ++ l ++ bl.drop (k + l.length)
theorem putAt_nil (bl : List Bk) (k : Nat) : putAt bl k [] = bl := by simp [putAt]
theorem putAt_len {bl : List Bk} {k : Nat} {l : List Bk} (h : k + l.length ≤ bl.length) : (putAt bl k l).length = bl.length := by
  simp only [putAt, List.length_append, List.length_take, List.length_drop]
  omega
theorem putAt_snoc {bl : List Bk} {k : Nat} {l : List Bk} {b : Bk} (h : k + l.length < bl.length) : (putAt bl k l).set (k + l.length) b = putAt bl k (l ++ [b]) := by
  have h1 : (bl.take k ++ l).length = k + l.length := by rw [List.length_append, List.length_take]; omega
  unfold putAt
  rw [List.set_append_right _ _ (by rw [h1]; exact Nat.le_refl _), h1, Nat.sub_self, List.drop_eq_getElem_cons h, List.set_cons_zero, List.length_append, List.length_singleton]
  simp [List.append_assoc]
  congr 1
theorem isWrite (x : Dp) : IsMeth Try.prog 25 (Pt x.p 0) "Write" 19 := by unfold IsMeth; kernel_rfl
theorem isSync (x : Dp) : IsMeth Try.prog 25 (Pt x.p 0) "Sync" 23 := by unfold IsMeth; kernel_rfl
section
variable {n : Nat} {w0 : World} {S : List Nat} {ops : Array Oper} {Q : Exit → Act → World → Prop} {l : List Oper} {E : Env} {M : List Ent}
variable {d : Nat} {ty : TypeId} {pos : String} {aft : Array Edge} {x1 x2 x3 : Operand} {ats : Array TypeId} {x : Dp} {bl : List Bk} {pd : List (Nat × Bk)}
theorem JL.iwrite {k : Nat} {b : Bk} (h : DkOk x bl pd) (hn : k < bl.length) (hb : b.length = 64) (e1 : ev E x1 = some (ifD x)) (e2 : ev E x2 = some (N k)) (e3 : ev E x3 = some (.agg (bc b).toArray)) (hd : Nat.blt d n = true)
    (kk : ∀ y, JL Try.prog n w0 S ops Q l ((d, N 0) :: E) (dkE ⟨x.p, x.q, x.cap, some y⟩ (bl.set k b) (wrote bl pd k) ++ M)) : JL Try.prog n w0 S ops Q (⟨some d, .call ⟨.invoke x1 "Write", #[x2, x3], ats⟩, ty, pos, aft, none⟩ :: l) E (dkE x bl pd ++ M) :=
  JL.callE (ι := Nat × Nat) (vs := [Pt x.p 0, N k, .agg (bc b).toArray]) (fun _ => N 0) (fun y => dkE ⟨x.p, x.q, x.cap, some y⟩ (bl.set k b) (wrote bl pd k)) (fun a ha w => exec_callI (xs := [x2, x3]) (isWrite x) goes_dwrite ha e1 (by simp [evs, e2, e3]) w) hd (dkE_wr _ _ _) (fun _ => dkE_wr _ _ _)
    (fun w _ hw => dwrite_ok x bl pd k b hn hb h w hw) kk
theorem JL.isync (e1 : ev E x1 = some (ifD x)) (hd : Nat.blt d n = true)
    (kk : JL Try.prog n w0 S ops Q l ((d, .tuple #[]) :: E) (dkE ⟨x.p, x.q, x.cap, none⟩ bl [] ++ M)) : JL Try.prog n w0 S ops Q (⟨some d, .call ⟨.invoke x1 "Sync", #[], ats⟩, ty, pos, aft, none⟩ :: l) E (dkE x bl pd ++ M) :=
  JL.callE (ι := Unit) (vs := [Pt x.p 0]) (fun _ => .tuple #[]) (fun _ => dkE ⟨x.p, x.q, x.cap, none⟩ bl []) (fun a ha w => exec_callI (xs := []) (isSync x) goes_dsync ha e1 rfl w) hd (dkE_wr _ _ _) (fun _ => dkE_wr _ _ _)
    (fun w _ hw => (dsync_any x bl pd w hw).mono fun e w' ⟨g1, g2⟩ => ⟨(), g1, g2⟩) fun _ => kk
theorem OQ.nilcI {C : World → Prop} {dst : Option Tmp} {g : Option (Nat × Bool)} {t : TypeId} {v : Value} (hx : ev E x1 = some (.iface t v)) : OQ Try.prog n E C ⟨dst, .nilCheck x1, ty, pos, aft, g⟩ (.iface t v) :=
  OQ.run fun a ha w _ => by
    have h1 := ha.eval hx
    simp [execOp, h1]
end
/-- a disk behind writes: the same, where it stands too; not synced -/
structure Dw (x : Dp) (bl : List Bk) (m : Nat) where
  a : Acc
  pd : List (Nat × Bk)
  ok : DkOk ⟨x.p, x.q, x.cap, a⟩ bl pd
  n : pd.length ≤ m
def Dw.E {x : Dp} {bl : List Bk} {m : Nat} (z : Dw x bl m) : List Ent := dkE ⟨x.p, x.q, x.cap, z.a⟩ bl z.pd
theorem Dw.wr {x : Dp} {bl : List Bk} {m : Nat} (z : Dw x bl m) : ∀ e ∈ z.E, e.wr = true := dkE_wr _ _ _
theorem sub_chunk {l : Bk} {i : Nat} (h : i * 42 ≤ l.length) : (l.take (min ((i + 1) * 42) l.length)).drop (i * 42) = chunk l i := by
  unfold chunk
  rw [List.drop_take]
  by_cases hh : (i + 1) * 42 ≤ l.length
  · rw [Nat.min_eq_left hh]
    congr 1
    omega
  · rw [Nat.min_eq_right (by omega), List.take_of_length_le (by rw [List.length_drop]; exact Nat.le_refl _), List.take_of_length_le (by rw [List.length_drop]; omega)]
theorem nb_at {n i : Nat} (h : i < nb n) : i * 42 ≤ n := by unfold nb at h; omega
theorem blks_take {g : BitVec 32} {r : Nat} {rec : Bk} {i : Nat} (h : i < nb rec.length) : (blks g r rec).take (i + 1) = (blks g r rec).take i ++ [blk g r rec i] := by
  rw [List.take_add_one]
  congr 1
  simp [blks, h]
theorem goes_jwrite : Goes Try.prog 63 := ⟨_, Try.func63, rfl, by kernel_rfl⟩
set_option maxHeartbeats 32000000 in
theorem write_any (h : Hf) (bl : List Bk) (pd : List (Nat × Bk)) (at' num : Nat) (s : Sl8) (hd : DkOk h.x bl pd) (hs : h.first + h.size ≤ bl.length) (ha : at' + nb s.l.length ≤ h.size) (hm : pd.length + h.size ≤ 1000000) (w : World) (hok : s.ok w) (hap : Away s (keys (dkE h.x bl pd))) (h0 : Holds w (keys (dkE h.x bl pd)) (dkE h.x bl pd) w) :
    Calls Try.prog 63 [.agg (hfc h).toArray, N at', N num, s.v].toArray w fun e w' => ∃ z : Dw h.x (putAt bl (h.first + at') (blks h.g num s.l)) (pd.length + nb s.l.length), e = .returned (.tuple #[]) ∧ Holds w (keys (dkE h.x bl pd)) z.E w' := by
  have hcl := hok.len
  have hn1 := hd.n1
  have hnl : s.l.length ≤ nb s.l.length * 42 := nb_le _
  have hnp := nb_pos s.l.length
  generalize hS : keys (dkE h.x bl pd) = S at hap h0 ⊢
  refine enter (n := 55) Try.func63 rfl rfl rfl h0 ?_
  repeat (first | refine JC.seq ?_ | refine JC.region ?_)
  refine JL.box (r := hfc h) rfl rfl rfl fun b4 _ => ?_
  repeat (first | refine JL.q (by first | (apply OQ.len (k := s.l.length) (ad := s.ad) (cap := s.cap); exact Try.underlying33; exact rfl) | (apply OQ.callx (vs := [N s.l.length]); exact goes_bfor; exact rfl; exact (fun w' _ => bfor_any s.l.length (by omega) w')) | (apply OQ.move; exact rfl) | (apply OQ.assign; exact rfl)) rfl ?_ | refine JC.seq ?_ | refine JC.region ?_ | refine JC.block ?_ | refine JL.nil ?_ | refine JE.next ?_)
  refine JC.loop (fun z : Nat × Acc × List (Nat × Bk) => [(1, N at'), (2, N num), (3, s.v), (4, Pt b4 0), (8, N (nb s.l.length)), (15, N (nb s.l.length)), (16, N z.1)]) (fun z => ⟨b4, Row 102 (hfc h), true⟩ :: dkE ⟨h.x.p, h.x.q, h.x.cap, z.2.1⟩ (putAt bl (h.first + at') ((blks h.g num s.l).take z.1)) z.2.2) (fun z => nb s.l.length - z.1) (fun z => z.1 ≤ nb s.l.length ∧ DkOk ⟨h.x.p, h.x.q, h.x.cap, z.2.1⟩ (putAt bl (h.first + at') ((blks h.g num s.l).take z.1)) z.2.2 ∧ z.2.2.length ≤ pd.length + z.1) (0, h.x.a, pd) ⟨Nat.zero_le _, by rw [List.take_zero, putAt_nil]; exact hd, Nat.le_refl _⟩ (by repeat (first | exact SubE.nil | refine SubE.cons _ _ _ rfl ?_)) (by rw [List.take_zero, putAt_nil]; exact Less.refl _) ?_
  rintro ⟨i, qa, ps⟩ ⟨hi, hdi, hpi⟩
  dsimp only at hi hdi hpi ⊢
  repeat (first | refine JL.q (by (apply OQ.lssN; exact rfl; exact rfl)) rfl ?_ | refine JC.seq ?_ | refine JC.region ?_ | refine JL.nil ?_ | refine JE.next ?_)
  refine JC.cond rfl (fun hc => ?_) (fun hc => ?_)
  · have hi' : i < nb s.l.length := by have := of_decide_eq_true hc; omega
    clear hc
    have hlo := nb_at hi'
    have hch := sub_chunk hlo
    have htk := blks_take (g := h.g) (r := num) hi'
    have hkl : (blks h.g num s.l).length = nb s.l.length := blks_len _ _ _
    have hps := putAt_snoc (bl := bl) (k := h.first + at') (l := (blks h.g num s.l).take i) (b := blk h.g num s.l i) (by rw [List.length_take, hkl]; omega)
    rw [← htk, List.length_take, hkl, Nat.min_eq_left hi] at hps
    have hln : (putAt bl (h.first + at') ((blks h.g num s.l).take i)).length = bl.length := putAt_len (by rw [List.length_take, hkl]; omega)
    have hmk : mk1 h.g num (nb s.l.length) i = (h.g, BitVec.ofNat 32 num, BitVec.ofNat 16 i, decide (i = nb s.l.length - 1)) := by
      unfold mk1
      congr 3
      exact decide_eq_decide.2 (by omega)
    have hbk : blk h.g num s.l i = blockOf (mk1 h.g num (nb s.l.length) i) (chunk s.l i) := rfl
    have hcl2 : (chunk s.l i).length ≤ 42 := by rw [Jrn.chunk_len]; omega
    have hb64 : (blk h.g num s.l i).length = 64 := by rw [hbk]; exact block_len hcl2
    rw [hmk] at hbk
    generalize putAt bl (h.first + at') ((blks h.g num s.l).take i) = bi at hdi hps hln ⊢
    have cB := fun {M : List Ent} w' (hw' : Holds w S M w') => blockOf_any (h.g, BitVec.ofNat 32 num, BitVec.ofNat 16 i, decide (i = nb s.l.length - 1)) (s.sub (i * 42) (min ((i + 1) * 42) s.l.length)) w' ((hok.away hw' hap).sub (by omega) (by omega)) (by show ((s.l.take _).drop _).length ≤ 42; rw [hch]; exact hcl2)
    rw [show (s.sub (i * 42) (min ((i + 1) * 42) s.l.length)).l = chunk s.l i from hch, ← hbk] at cB
    repeat (first | refine JL.q (by first | (apply OQ.mulN (a := i) (b := 42); exact rfl; exact rfl; exact (by omega)) | (apply OQ.mulN (a := i + 1) (b := 42); exact rfl; exact rfl; exact (by omega)) | (apply OQ.len (k := s.l.length) (ad := s.ad) (cap := s.cap); exact Try.underlying33; exact rfl) | (apply OQ.minN; exact rfl; exact rfl) | (apply OQ.sub8 (s := s) (lo := i * 42) (hi := min ((i + 1) * 42) s.l.length); exact Try.underlying33; exact u8s; exact rfl; exact rfl; exact rfl; exact (by omega); exact (by omega); exact hcl) | (apply OQ.load; exact u32C; exact rfl; exact .here; exact (Row.cell (v := U32 h.g) rfl)) | (apply OQ.convN_32; exact Try.underlying3; exact Try.underlying100; exact rfl) | (apply OQ.convN_16; exact Try.underlying3; exact Try.underlying129; exact rfl) | (apply OQ.eqN; exact rfl; exact rfl) | (apply OQ.buildM (m := (h.g, BitVec.ofNat 32 num, BitVec.ofNat 16 i, decide (i = nb s.l.length - 1))); exact rfl; exact rfl; exact rfl; exact rfl) | (apply OQ.move; exact rfl) | (apply OQ.assign; exact rfl) | (apply OQ.addN; exact rfl; exact rfl; exact (by (try simp only []); omega)) | (apply OQ.subN; exact rfl; exact rfl; exact (by (try simp only []); omega); exact (by (try simp only []); omega)) | (apply OQ.fld; exact rfl; exact rfl; exact rfl; exact (by decide); exact rfl)) rfl ?_ | refine JC.seq ?_ | refine JC.region ?_ | refine JC.block ?_ | refine JC.skip ?_ | refine JL.nil ?_ | refine JE.next ?_)
    refine JL.alloc mkZ rfl fun b11 _ => ?_
    refine JL.store_all (cs := mkc (h.g, BitVec.ofNat 32 num, BitVec.ofNat 16 i, decide (i = nb s.l.length - 1))) mk4 rfl rfl rfl rfl .here rfl ?_
    repeat (first | refine JL.nil ?_ | refine JE.next ?_)
    refine JC.tail 13 mixT (by kernel_rfl) ?_
    simp only [List.take_succ_cons, List.take_zero, List.drop_succ_cons, List.drop_zero]
    repeat (first | refine JQ.q (by first | (apply OQ.load; exact jbC; exact rfl; exact (.there .here); exact (Row.cell (v := ifD h.x) rfl)) | (apply OQ.load; exact intC; exact rfl; exact (.there .here); exact (Row.cell (v := N h.first) rfl)) | (apply OQ.load_agg (cs := mkc (h.g, BitVec.ofNat 32 num, BitVec.ofNat 16 i, decide (i = nb s.l.length - 1))); exact mkAg; exact mk4; exact rfl; exact .here; exact rfl; exact Row.all) | (apply OQ.callx (vs := [.agg (mkc (h.g, BitVec.ofNat 32 num, BitVec.ofNat 16 i, decide (i = nb s.l.length - 1))).toArray, (s.sub (i * 42) (min ((i + 1) * 42) s.l.length)).v]); exact goes_blockOf; exact rfl; exact (fun w' hw' => cB w' hw')) | (apply OQ.nilcI; exact rfl) | (apply OQ.move; exact rfl) | (apply OQ.addN; exact rfl; exact rfl; exact (by (try simp only []); omega)) | (apply OQ.fld; exact rfl; exact rfl; exact rfl; exact (by decide); exact rfl)) rfl ?_ | refine JQ.nil_tail ?_)
    refine JL.perm (M' := dkE ⟨h.x.p, h.x.q, h.x.cap, qa⟩ bi ps ++ [⟨b11, Row 131 (mkc (h.g, BitVec.ofNat 32 num, BitVec.ofNat 16 i, decide (i = nb s.l.length - 1))), true⟩, ⟨b4, Row 102 (hfc h), true⟩]) ?_ (by exact List.perm_append_comm (l₁ := [_, _]))
    refine JL.iwrite (k := h.first + at' + i) (b := blk h.g num s.l i) hdi (by omega) hb64 rfl rfl rfl rfl fun y => ?_
    rw [hps]
    repeat (first | refine JL.q (by first | (apply OQ.move; exact rfl) | (apply OQ.addN; exact rfl; exact rfl; exact (by (try simp only []); omega))) rfl ?_ | refine JC.region ?_ | refine JL.nil ?_ | refine JE.next ?_ | refine JE.blk_normal ?_)
    refine JE.perm (M' := ⟨b4, Row 102 (hfc h), true⟩ :: ⟨b11, Row 131 (mkc (h.g, BitVec.ofNat 32 num, BitVec.ofNat 16 i, decide (i = nb s.l.length - 1))), true⟩ :: dkE ⟨h.x.p, h.x.q, h.x.cap, some y⟩ (putAt bl (h.first + at') ((blks h.g num s.l).take (i + 1))) (wrote bi ps (h.first + at' + i))) (by exact (List.perm_append_comm (l₂ := [_, _])).trans (List.Perm.swap _ _ _)) ?_
    have hw := hdi.write (n := h.first + at' + i) (b := blk h.g num s.l i) (by omega) hb64 (by omega) y
    rw [hps] at hw
    refine JE.again (i := (i, qa, ps)) (i + 1, some y, wrote bi ps (h.first + at' + i)) ⟨hi', hw, by dsimp only; rw [wrote, List.length_append, List.length_singleton]; omega⟩ (by dsimp only; omega) (by repeat (first | exact SubE.nil | refine SubE.cons _ _ _ rfl ?_)) ?_
    exact .keep _ _ _ _ _ _ (fun _ h => h) (.drop _ _ _ (Less.refl _))
  · have hi' : i = nb s.l.length := by have := of_decide_eq_false hc; omega
    subst hi'
    have ht : (blks h.g num s.l).take (nb s.l.length) = blks h.g num s.l := List.take_of_length_le (by rw [blks_len]; exact Nat.le_refl _)
    rw [ht] at hdi ⊢
    repeat (first | refine JC.exit ?_ | refine JE.then_exit ?_ | refine JE.blk_hit ?_)
    exact JE.end0 rfl fun w' hw => ⟨⟨qa, ps, hdi, hpi⟩, rfl, hw.weak (.drop _ _ _ (Less.refl _))⟩
end Go.Proofs.Ytjkncnbpaejamaa

/-
  Of no statement by itself: the landed journal's put.
  Conditions: each theorem's own.
-/
namespace Go.Proofs.Ytjkncnbpaejamaa
set_option maxRecDepth 10000
open Sl Dsk Jrn
theorem away_mid {w0 w : World} {S : List Nat} {X M : List Ent} {s : Sl8} (hw : Holds w0 S (X ++ M) w) (hX : ∀ e ∈ X, e.wr = true) (hs : s.ok w0) (ha : Away s S) : Away s (keys X) := by
  intro h0 a e hm
  obtain ⟨y, he, hb⟩ := List.mem_map.1 hm
  have h1 := hs.lt h0 a e
  rcases (hw.all y (List.mem_append_left _ he)).2 (hX y he) with h | h
  · exact ha h0 a e (hb ▸ h)
  · omega
/-- a journal: its own block, and its disk -/
def jnE (j : Nat) (h : Hf) (bl : List Bk) (pd : List (Nat × Bk)) : List Ent := ⟨j, Row 104 (hfc h), true⟩ :: dkE h.x bl pd
theorem jnE_wr (j : Nat) (h : Hf) (bl : List Bk) (pd : List (Nat × Bk)) : ∀ e ∈ jnE j h bl pd, e.wr = true := by
  intro e he
  rcases List.mem_cons.1 he with rfl | he
  · rfl
  · exact dkE_wr _ _ _ e he
/-- a half with a record more -/
def putH (h : Hf) (n : Nat) : Hf := ⟨h.x, h.first, h.size, h.g, h.count + 1, h.used + nb n⟩
def Dw.J {x : Dp} {bl : List Bk} {m : Nat} (z : Dw x bl m) (j : Nat) (h : Hf) : List Ent := ⟨j, Row 104 (hfc h), true⟩ :: z.E
theorem Dw.Jwr {x : Dp} {bl : List Bk} {m : Nat} (z : Dw x bl m) (j : Nat) (h : Hf) : ∀ e ∈ z.J j h, e.wr = true := by
  intro e he
  rcases List.mem_cons.1 he with rfl | he
  · rfl
  · exact z.wr e he
theorem is1j : szT Try.prog 3 = some 1 := by kernel_rfl
theorem goes_put : Goes Try.prog 49 := ⟨_, Try.func49, rfl, by kernel_rfl⟩
set_option maxHeartbeats 32000000 in
theorem put_any (j : Nat) (h : Hf) (bl : List Bk) (pd : List (Nat × Bk)) (s : Sl8) (hd : DkOk h.x bl pd) (hs : h.first + h.size ≤ bl.length) (ha : h.used + nb s.l.length ≤ h.size) (hc : h.count ≤ h.size) (hm : pd.length + h.size ≤ 1000000) (w : World) (hok : s.ok w) (hap : Away s (keys (jnE j h bl pd))) (h0 : Holds w (keys (jnE j h bl pd)) (jnE j h bl pd) w) :
    Calls Try.prog 49 [Pt j 0, s.v].toArray w fun e w' => ∃ z : Dw h.x (putAt bl (h.first + h.used) (blks h.g h.count s.l)) (pd.length + nb s.l.length), e = .returned (.tuple #[]) ∧ Holds w (keys (jnE j h bl pd)) (z.J j (putH h s.l.length)) w' := by
  have hcl := hok.len
  have hn1 := hd.n1
  have hnl : s.l.length ≤ nb s.l.length * 42 := nb_le _
  generalize hS : keys (jnE j h bl pd) = S at hap h0 ⊢
  refine enter (n := 34) Try.func49 rfl rfl rfl h0 ?_
  repeat (refine JC.seq ?_)
  refine JC.tail 12 mixT (by kernel_rfl) ?_
  simp only [List.take_succ_cons, List.take_zero, List.drop_succ_cons, List.drop_zero]
  repeat (first | refine JQ.q (by first | (apply OQ.load_agg (cs := hfc h); exact hfAg; exact hf6; exact rfl; exact .here; exact rfl; exact Row.all) | (apply OQ.load; exact intC; exact rfl; exact .here; exact (Row.cell (v := N h.used) rfl)) | (apply OQ.load; exact intC; exact rfl; exact .here; exact (Row.cell (v := N h.count) rfl)) | (apply OQ.move; exact rfl) | (apply OQ.nilc; exact rfl) | (apply OQ.fld; exact rfl; exact rfl; exact rfl; exact (by decide); exact rfl)) rfl ?_ | refine JQ.nil_tail ?_)
  refine JL.perm (M' := dkE h.x bl pd ++ [⟨j, Row 104 (hfc h), true⟩]) ?_ (by exact List.perm_append_comm (l₁ := [_]))
  refine JL.callV (ι := Dw h.x (putAt bl (h.first + h.used) (blks h.g h.count s.l)) (pd.length + nb s.l.length)) (vs := [.agg (hfc h).toArray, N h.used, N h.count, s.v]) (fun _ => .tuple #[]) (fun z => z.E) goes_jwrite rfl rfl (dkE_wr _ _ _) (fun z => z.wr) (fun w' hw' hx' => write_any h bl pd h.used h.count s hd hs ha hm w' (hok.away hw' hap) (away_mid hw' (dkE_wr _ _ _) hok hap) hx') fun z => ?_
  refine JL.perm (M' := ⟨j, Row 104 (hfc h), true⟩ :: z.E) ?_ (by exact List.perm_append_comm (l₂ := [_]))
  repeat (first | refine JC.seq ?_ | refine JL.nil ?_ | refine JE.next ?_)
  refine JC.tail 10 mixT (by kernel_rfl) ?_
  simp only [List.take_succ_cons, List.take_zero, List.drop_succ_cons, List.drop_zero]
  repeat (first | refine JQ.q (by first | (apply OQ.load; exact intC; exact rfl; exact .here; exact (Row.cell (v := N h.used) rfl)) | (apply OQ.len (k := s.l.length) (ad := s.ad) (cap := s.cap); exact Try.underlying33; exact rfl) | (apply OQ.callx (vs := [N s.l.length]); exact goes_bfor; exact rfl; exact (fun w' _ => bfor_any s.l.length (by omega) w')) | (apply OQ.move; exact rfl) | (apply OQ.nilc; exact rfl) | (apply OQ.addN; exact rfl; exact rfl; exact (by (try simp only []); omega)) | (apply OQ.fld; exact rfl; exact rfl; exact rfl; exact (by decide); exact rfl)) rfl ?_ | refine JQ.nil_tail ?_)
  refine JL.store_eq (b := j) (r := hfc h) (r' := hfc ⟨h.x, h.first, h.size, h.g, h.count, h.used + nb s.l.length⟩) is1j rfl rfl rfl rfl .here (show 5 < 6 by decide) rfl ?_
  repeat (first | refine JL.q (by first | (apply OQ.load; exact intC; exact rfl; exact .here; exact (Row.cell (v := N h.count) rfl)) | (apply OQ.move; exact rfl) | (apply OQ.nilc; exact rfl) | (apply OQ.addN; exact rfl; exact rfl; exact (by (try simp only []); omega)) | (apply OQ.fld; exact rfl; exact rfl; exact rfl; exact (by decide); exact rfl)) rfl ?_ | refine JC.region ?_ | refine JL.nil ?_ | refine JE.next ?_)
  refine JL.store_eq (b := j) (r := hfc ⟨h.x, h.first, h.size, h.g, h.count, h.used + nb s.l.length⟩) (r' := hfc (putH h s.l.length)) is1j rfl rfl rfl rfl .here (show 4 < 6 by decide) rfl ?_
  repeat (refine JL.nil ?_)
  exact JE.end0 rfl fun w' hw => ⟨z, rfl, hw⟩
end Go.Proofs.Ytjkncnbpaejamaa

/-
  Of no statement by itself: the landed journal's begin.
  Conditions: each theorem's own.
-/
namespace Go.Proofs.Ytjkncnbpaejamaa
set_option maxRecDepth 10000
open Sl Dsk Jrn
theorem slLj_at {w : World} {s : SlL} (h : s.ok w) (h0 : 0 < s.rs.length) : ∃ b j, s.ad = some ⟨b, j, none⟩ ∧ b < w.heap.size ∧ ∀ i, i < s.rs.length → w.cell? ⟨b, j + i, none⟩ = some (s.rs.getD i nilS).v := by
  obtain ⟨b, j, e1, c1⟩ := h.reads.at (by rw [List.length_map]; exact h0)
  exact ⟨b, j, e1, block_lt_of_cell (c1 0 _ (map_at Sl8.v nilS h0)), fun i hi => c1 i _ (map_at Sl8.v nilS hi)⟩
structure AwayL (s : SlL) (S : List Nat) : Prop where
  a : s.rs ≠ [] → ∀ a, s.ad = some a → a.block ∉ S
  all : ∀ y ∈ s.rs, Away y S
theorem getD_mem' {rs : List Sl8} {i : Nat} (h : i < rs.length) : rs.getD i nilS ∈ rs := by
  rw [List.getD_eq_getElem?_getD, List.getElem?_eq_getElem h]
  exact List.getElem_mem h
theorem putAt_app {bl : List Bk} {k : Nat} {a b : List Bk} (h : k + a.length + b.length ≤ bl.length) : putAt (putAt bl k a) (k + a.length) b = putAt bl k (a ++ b) := by
  have h1 : (bl.take k ++ a).length = k + a.length := by rw [List.length_append, List.length_take]; omega
  have e1 : (bl.take k ++ a ++ bl.drop (k + a.length)).take (k + a.length) = bl.take k ++ a := List.take_left' h1
  have e2 : (bl.take k ++ a ++ bl.drop (k + a.length)).drop (k + a.length + b.length) = bl.drop (k + (a ++ b).length) := by
    rw [← List.drop_drop, List.drop_left' h1, List.drop_drop, List.length_append, Nat.add_assoc]
  unfold putAt
  rw [e1, e2]
  simp [List.append_assoc]
theorem putAt_two {bl : List Bk} {k : Nat} {a b : List Bk} (h : k + a.length + b.length ≤ bl.length) : putAt (putAt bl (k + a.length) b) k a = putAt bl k (a ++ b) := by
  have h1 : (bl.take (k + a.length)).length = k + a.length := by rw [List.length_take]; omega
  have e1 : (bl.take (k + a.length) ++ b ++ bl.drop (k + a.length + b.length)).take k = bl.take k := by
    rw [List.append_assoc, List.take_append_of_le_length (by rw [h1]; omega), List.take_take, Nat.min_eq_left (by omega)]
  have e2 : (bl.take (k + a.length) ++ b ++ bl.drop (k + a.length + b.length)).drop (k + a.length) = b ++ bl.drop (k + a.length + b.length) := by
    rw [List.append_assoc, List.drop_left' h1]
  unfold putAt
  rw [e1, e2]
  simp [List.append_assoc, Nat.add_assoc]
theorem slCj : scal Try.prog 33 = true := by kernel_rfl
theorem sleJ : szT Try.prog 33 = some 1 := by kernel_rfl
theorem goes_begin : Goes Try.prog 60 := ⟨_, Try.func60, rfl, by kernel_rfl⟩
/-- a half that begins with a generation and records -/
def begH (h : Hf) (g : BitVec 32) (recs : List Bk) : Hf := ⟨h.x, h.first, h.size, g, recs.length, room recs⟩
def sync0 (x : Dp) : Dp := ⟨x.p, x.q, x.cap, none⟩
theorem room_cons (r : Bk) (rs : List Bk) : room (r :: rs) = nb r.length + room rs := rfl
theorem room_take_le (rs : List Bk) (i : Nat) : room (rs.take i) ≤ room rs := by
  have := room_append (rs.take i) (rs.drop i)
  rw [List.take_append_drop] at this
  omega
/-- the half while its records are put, behind so many of those behind the base -/
def midH (h : Hf) (g : BitVec 32) (n0 : Nat) (rt : List Bk) (i : Nat) (qa : Acc) : Hf := ⟨⟨h.x.p, h.x.q, h.x.cap, qa⟩, h.first, h.size, g, 1 + i, n0 + room (rt.take i)⟩
def midB (h : Hf) (g : BitVec 32) (bl : List Bk) (n0 : Nat) (rt : List Bk) (i : Nat) : List Bk := putAt bl (h.first + n0) (allB g 1 (rt.take i))
theorem take_snoc {rt : List Bk} {i : Nat} (h : i < rt.length) : rt.take (i + 1) = rt.take i ++ [rt.getD i []] := by
  rw [List.take_add_one]
  simp [List.getD_eq_getElem?_getD, h]
theorem mid_snoc {h : Hf} {g : BitVec 32} {bl : List Bk} {n0 : Nat} {rt : List Bk} {i : Nat} (hi : i < rt.length) (hb : h.first + n0 + room rt ≤ bl.length) :
    putAt (midB h g bl n0 rt i) (h.first + (n0 + room (rt.take i))) (blks g (1 + i) (rt.getD i [])) = midB h g bl n0 rt (i + 1) := by
  have e := take_snoc hi
  have hr := room_take_le rt (i + 1)
  rw [e, room_append] at hr
  have hr1 : room [rt.getD i []] = nb (rt.getD i []).length := by simp [room]
  have ea : allB g 1 (rt.take (i + 1)) = allB g 1 (rt.take i) ++ blks g (1 + i) (rt.getD i []) := by
    rw [e, allB_append, List.length_take, Nat.min_eq_left (by omega)]
    congr 1
    rw [allB, allB, List.append_nil]
  unfold midB
  rw [ea, ← putAt_app (by rw [allB_len, blks_len]; omega), allB_len]
  congr 1
  omega
set_option maxHeartbeats 64000000 in
theorem begin_any (j : Nat) (h : Hf) (bl : List Bk) (pd : List (Nat × Bk)) (g : BitVec 32) (s : SlL) (hd : DkOk h.x bl pd) (hs : h.first + h.size ≤ bl.length) (hne : 0 < s.rs.length) (ha : room (s.rs.map Sl8.l) ≤ h.size) (hm : pd.length + (h.size + h.size) ≤ 1000000) (w : World) (hok : s.ok w) (hap : AwayL s (keys (jnE j h bl pd))) (h0 : Holds w (keys (jnE j h bl pd)) (jnE j h bl pd) w) :
    Calls Try.prog 60 [Pt j 0, U32 g, s.v].toArray w fun e w' => e = .returned (.tuple #[]) ∧ Holds w (keys (jnE j h bl pd)) (⟨j, Row 104 (hfc (begH h g (s.rs.map Sl8.l))), true⟩ :: dkE (sync0 h.x) (putAt bl h.first (allB g 0 (s.rs.map Sl8.l))) []) w' := by
  obtain ⟨b, jj, ead, lb, cb⟩ := slLj_at hok hne
  have hcap := hok.len
  have hall := hok.all
  have hbS := hap.a (fun e => by rw [e] at hne; cases hne) _ ead
  have haw := hap.all
  have hn1 := hd.n1
  obtain ⟨ad, cap, rs⟩ := s
  dsimp only at ead hcap hall hbS haw hne ha cb ⊢
  subst ead
  obtain ⟨ls, hls⟩ : ∃ ls, rs.map Sl8.l = ls := ⟨_, rfl⟩
  have hll : ls.length = rs.length := by rw [← hls, List.length_map]
  have hat : ∀ i, i < rs.length → ls.getD i [] = (rs.getD i nilS).l := fun i hi => by rw [← hls]; simp [List.getD_eq_getElem?_getD, hi]
  rw [hls] at ha ⊢
  obtain ⟨r0, rt, hrt⟩ : ∃ r0 rt, ls = r0 :: rt := by
    cases ls with
    | nil => rw [List.length_nil] at hll; omega
    | cons a l => exact ⟨a, l, rfl⟩
  have hr0 : (rs.getD 0 nilS).l = r0 := by rw [← hat 0 hne, hrt]; rfl
  have hrl : rt.length + 1 = rs.length := by rw [← hll, hrt]; rfl
  have hrt' : ∀ i, i < rt.length → rt.getD i [] = (rs.getD (i + 1) nilS).l := fun i hi => by rw [← hat (i + 1) (by omega), hrt]; rfl
  have hroom : nb r0.length + room rt ≤ h.size := by rw [hrt, room_cons] at ha; exact ha
  have hge := room_ge rt
  have hnl : r0.length ≤ nb r0.length * 42 := nb_le _
  obtain ⟨j1, hj1, hj2⟩ : ∃ j1, (if cap = 1 then some (⟨b, jj, none⟩ : Addr) else (some (⟨b, jj, none⟩ : Addr)).map (·.add (1 * 1))) = some ⟨b, j1, none⟩ ∧ (2 ≤ rs.length → j1 = jj + 1) := by
    by_cases hc : cap = 1
    · exact ⟨jj, by rw [if_pos hc], fun h2 => by omega⟩
    · exact ⟨jj + 1, by rw [if_neg hc]; rfl, fun _ => rfl⟩
  have hv1 : (Value.slice (if cap = 1 then some (⟨b, jj, none⟩ : Addr) else (some (⟨b, jj, none⟩ : Addr)).map (·.add (1 * 1))) (rs.length - 1) (cap - 1)) = .slice (some ⟨b, j1, none⟩) rt.length (cap - 1) := by rw [hj1, show rs.length - 1 = rt.length by omega]
  have c0 := cb 0 hne
  have ok0 := hall _ (getD_mem' hne)
  have aw0 := haw _ (getD_mem' hne)
  generalize rs.getD 0 nilS = s0 at c0 ok0 aw0 hr0
  subst hr0
  generalize hS : keys (jnE j h bl pd) = S at hbS haw h0 aw0 ⊢
  refine enter (n := 54) Try.func60 rfl rfl rfl h0 ?_
  repeat (first | refine JL.q (by first | (apply OQ.idxS1 (i := 0); exact Try.underlying34; exact sleJ; exact rfl; exact rfl; exact hne) | (apply OQ.load_old; exact slCj; exact rfl; exact lb; exact hbS; exact c0) | (apply OQ.len (k := s0.l.length) (ad := s0.ad) (cap := s0.cap); exact Try.underlying33; exact rfl) | (apply OQ.callx (vs := [N s0.l.length]); exact goes_bfor; exact rfl; exact (fun w' _ => bfor_any s0.l.length (by omega) w')) | (apply OQ.move; exact rfl) | (apply OQ.nilc; exact rfl) | (apply OQ.fld; exact rfl; exact rfl; exact rfl; exact (by decide); exact rfl)) rfl ?_ | refine JC.seq ?_ | refine JC.region ?_)
  refine JL.store_eq (b := j) (r := hfc h) (r' := hfc ⟨h.x, h.first, h.size, g, h.count, h.used⟩) u321 rfl rfl rfl rfl .here (show 3 < 6 by decide) rfl ?_
  repeat (refine JL.q (by first | (apply OQ.nilc; exact rfl) | (apply OQ.fld; exact rfl; exact rfl; exact rfl; exact (by decide); exact rfl)) rfl ?_)
  refine JL.store_eq (b := j) (r := hfc ⟨h.x, h.first, h.size, g, h.count, h.used⟩) (r' := hfc ⟨h.x, h.first, h.size, g, 1, h.used⟩) is1j rfl rfl rfl rfl .here (show 4 < 6 by decide) rfl ?_
  repeat (refine JL.q (by first | (apply OQ.nilc; exact rfl) | (apply OQ.fld; exact rfl; exact rfl; exact rfl; exact (by decide); exact rfl)) rfl ?_)
  refine JL.store_eq (b := j) (r := hfc ⟨h.x, h.first, h.size, g, 1, h.used⟩) (r' := hfc ⟨h.x, h.first, h.size, g, 1, nb s0.l.length⟩) is1j rfl rfl rfl rfl .here (show 5 < 6 by decide) rfl ?_
  repeat (first | refine JL.q (by first | (apply OQ.to; exact (OQ.slS_lo (lo := 1) (len := rs.length) (cap := cap) (ad := some ⟨b, jj, none⟩) Try.underlying34 sleJ rfl rfl (by omega)); exact hv1) | (apply OQ.len (k := rt.length) (ad := some ⟨b, j1, none⟩) (cap := cap - 1); exact Try.underlying34; exact rfl) | (apply OQ.move; exact rfl)) rfl ?_ | refine JC.seq ?_ | refine JC.region ?_ | refine JC.block ?_ | refine JL.nil ?_ | refine JE.next ?_)
  refine JC.loop (fun z : Nat × Acc × List (Nat × Bk) => [(0, Pt j 0), (1, U32 g), (2, .slice (some ⟨b, jj, none⟩) rs.length cap), (24, .slice (some ⟨b, j1, none⟩) rt.length (cap - 1)), (25, N rt.length), (26, N z.1)]) (fun z => jnE j (midH h g (nb s0.l.length) rt z.1 z.2.1) (midB h g bl (nb s0.l.length) rt z.1) z.2.2) (fun z => rt.length - z.1) (fun z => z.1 ≤ rt.length ∧ DkOk ⟨h.x.p, h.x.q, h.x.cap, z.2.1⟩ (midB h g bl (nb s0.l.length) rt z.1) z.2.2 ∧ z.2.2.length ≤ pd.length + room (rt.take z.1)) (0, h.x.a, pd) ⟨Nat.zero_le _, by unfold midB; rw [List.take_zero, allB, putAt_nil]; exact hd, Nat.le_refl _⟩ (by repeat (first | exact SubE.nil | refine SubE.cons _ _ _ rfl ?_)) (by unfold midB; rw [List.take_zero, allB, putAt_nil]; exact Less.refl _) ?_
  rintro ⟨i, qa, ps⟩ ⟨hi, hdi, hpi⟩
  dsimp only at hi hdi hpi ⊢
  have hmbl : (midB h g bl (nb s0.l.length) rt i).length = bl.length := putAt_len (by rw [allB_len]; have := room_take_le rt i; omega)
  repeat (first | refine JL.q (by (apply OQ.lssN; exact rfl; exact rfl)) rfl ?_ | refine JC.seq ?_ | refine JC.region ?_ | refine JL.nil ?_ | refine JE.next ?_)
  refine JC.cond rfl (fun hc => ?_) (fun hc => ?_)
  · have hi' : i < rt.length := by have := of_decide_eq_true hc; omega
    clear hc
    have hi2 : i + 1 < rs.length := by omega
    have ci : w.cell? ⟨b, j1 + i, none⟩ = some (rs.getD (i + 1) nilS).v := by
      rw [hj2 (by omega), show jj + 1 + i = jj + (i + 1) by omega]
      exact cb (i + 1) hi2
    have hri := hrt' i hi'
    have oki := hall _ (getD_mem' hi2)
    have awi := haw _ (getD_mem' hi2)
    have hsn := mid_snoc (h := h) (g := g) (bl := bl) (n0 := nb s0.l.length) hi' (by omega)
    have hrr := room_take_le rt (i + 1)
    rw [take_snoc hi', room_append] at hrr
    have hr1 : room [rt.getD i []] = nb (rt.getD i []).length := by simp [room]
    have hts := take_snoc hi'
    rw [hr1] at hrr
    generalize rs.getD (i + 1) nilS = si at ci oki awi hri
    rw [hri] at hsn hrr hts
    have hrge := room_ge (rt.take i)
    rw [List.length_take, Nat.min_eq_left hi] at hrge
    have cP := fun w' (hw' : Holds w S (jnE j (midH h g (nb s0.l.length) rt i qa) (midB h g bl (nb s0.l.length) rt i) ps ++ []) w') hx' => put_any j (midH h g (nb s0.l.length) rt i qa) (midB h g bl (nb s0.l.length) rt i) ps si hdi (by rw [hmbl]; exact hs) (by show nb s0.l.length + room (rt.take i) + nb si.l.length ≤ h.size; omega) (by show 1 + i ≤ h.size; have := nb_pos s0.l.length; omega) (by show ps.length + h.size ≤ _; omega) w' (oki.away hw' awi) (away_mid hw' (jnE_wr _ _ _ _) oki awi) hx'
    have hsn2 : putAt (midB h g bl (nb s0.l.length) rt i) ((midH h g (nb s0.l.length) rt i qa).first + (midH h g (nb s0.l.length) rt i qa).used) (blks (midH h g (nb s0.l.length) rt i qa).g (midH h g (nb s0.l.length) rt i qa).count si.l) = midB h g bl (nb s0.l.length) rt (i + 1) := hsn
    rw [hsn2] at cP
    repeat (first | refine JL.q (by first | (apply OQ.idxS1 (i := i); exact Try.underlying34; exact sleJ; exact rfl; exact rfl; exact hi') | (apply OQ.load_old; exact slCj; exact rfl; exact lb; exact hbS; exact ci) | (apply OQ.move; exact rfl) | (apply OQ.assign; exact rfl)) rfl ?_ | refine JC.seq ?_ | refine JC.region ?_ | refine JC.block ?_ | refine JC.skip ?_ | refine JL.nil ?_ | refine JE.next ?_)
    refine JL.perm ?_ (List.Perm.of_eq (List.append_nil _).symm)
    refine JL.callV (ι := Dw (midH h g (nb s0.l.length) rt i qa).x (midB h g bl (nb s0.l.length) rt (i + 1)) (ps.length + nb si.l.length)) (vs := [Pt j 0, si.v]) (fun _ => .tuple #[]) (fun z => z.J j (putH (midH h g (nb s0.l.length) rt i qa) si.l.length)) goes_put rfl rfl (jnE_wr _ _ _ _) (fun z => z.Jwr _ _) cP fun z => ?_
    repeat (first | refine JL.q (by first | (apply OQ.move; exact rfl) | (apply OQ.addN; exact rfl; exact rfl; exact (by (try simp only []); omega))) rfl ?_ | refine JC.region ?_ | refine JL.nil ?_ | refine JE.next ?_ | refine JE.blk_normal ?_)
    have hrs : room (rt.take (i + 1)) = room (rt.take i) + nb si.l.length := by rw [hts, room_append]; simp [room]
    have eH : hfc (putH (midH h g (nb s0.l.length) rt i qa) si.l.length) = hfc (midH h g (nb s0.l.length) rt (i + 1) z.a) := by
      unfold putH midH
      rw [hrs]
      simp only [hfc, Nat.add_assoc]
      rfl
    obtain ⟨za, zp, zo, zn⟩ := z
    dsimp only at eH
    refine JE.again (i := (i, qa, ps)) (i + 1, za, zp) ⟨hi', zo, by dsimp only; omega⟩ (by dsimp only; omega) (by repeat (first | exact SubE.nil | refine SubE.cons _ _ _ rfl ?_)) ?_
    rw [List.append_nil]
    show Less (⟨j, Row 104 (hfc (midH h g (nb s0.l.length) rt (i + 1) za)), true⟩ :: dkE ⟨h.x.p, h.x.q, h.x.cap, za⟩ (midB h g bl (nb s0.l.length) rt (i + 1)) zp) (⟨j, Row 104 (hfc (putH (midH h g (nb s0.l.length) rt i qa) si.l.length)), true⟩ :: _)
    rw [eH]
    exact Less.refl _
  · have hi' : i = rt.length := by have := of_decide_eq_false hc; omega
    subst hi'
    have eT : midB h g bl (nb s0.l.length) rt rt.length = putAt bl (h.first + nb s0.l.length) (allB g 1 rt) := by unfold midB; rw [List.take_length]
    have eH : hfc (midH h g (nb s0.l.length) rt rt.length qa) = hfc (begH h g ls) := by
      unfold midH begH
      rw [List.take_length, hll, hrt, room_cons, ← hrl, Nat.add_comm 1]
      rfl
    rw [List.take_length] at hpi
    rw [eT] at hdi hmbl ⊢
    unfold jnE
    rw [eH]
    have hgl : ((rs.length : Nat) : Int) = rt.length + 1 := by omega
    repeat (first | refine JL.q (by first | (apply OQ.len (k := rs.length) (ad := some ⟨b, jj, none⟩) (cap := cap); exact Try.underlying34; exact rfl) | (apply OQ.move; exact rfl) | (apply OQ.gtrN; exact rfl; exact rfl)) rfl ?_ | refine JC.seq ?_ | refine JC.region ?_ | refine JC.exit ?_ | refine JL.nil ?_ | refine JE.next ?_ | refine JE.then_exit ?_ | refine JE.blk_hit ?_)
    refine JC.join (ι := Acc × List (Nat × Bk)) (fun _ => [(0, Pt j 0), (2, .slice (some ⟨b, jj, none⟩) rs.length cap)]) (fun z => ⟨j, Row 104 (hfc (begH h g ls)), true⟩ :: dkE ⟨h.x.p, h.x.q, h.x.cap, z.1⟩ (putAt bl (h.first + nb s0.l.length) (allB g 1 rt)) z.2) (fun z => DkOk ⟨h.x.p, h.x.q, h.x.cap, z.1⟩ (putAt bl (h.first + nb s0.l.length) (allB g 1 rt)) z.2 ∧ z.2.length ≤ pd.length + room rt) ?_ ?_
    · refine JC.cond rfl (fun hg => ?_) (fun hg => ?_)
      · repeat (first | refine JL.q (by first | (apply OQ.load; exact jbC; exact rfl; exact .here; exact (Row.cell (v := ifD h.x) rfl)) | (apply OQ.move; exact rfl) | (apply OQ.nilc; exact rfl) | (apply OQ.fld; exact rfl; exact rfl; exact rfl; exact (by decide); exact rfl)) rfl ?_ | refine JC.region ?_)
        refine JL.perm (M' := dkE ⟨h.x.p, h.x.q, h.x.cap, qa⟩ (putAt bl (h.first + nb s0.l.length) (allB g 1 rt)) ps ++ [⟨j, Row 104 (hfc (begH h g ls)), true⟩]) ?_ (by exact List.perm_append_comm (l₁ := [_]))
        refine JL.isync rfl rfl ?_
        repeat (refine JL.nil ?_)
        refine JE.perm (M' := ⟨j, Row 104 (hfc (begH h g ls)), true⟩ :: dkE ⟨h.x.p, h.x.q, h.x.cap, none⟩ (putAt bl (h.first + nb s0.l.length) (allB g 1 rt)) []) (by exact List.perm_append_comm (l₂ := [_])) ?_
        exact JE.mid (none, []) ⟨hdi.sync, Nat.zero_le _⟩ (by repeat (first | exact SubE.nil | refine SubE.cons _ _ _ rfl ?_)) (Less.refl _)
      · repeat (refine JC.skip ?_)
        exact JE.mid (qa, ps) ⟨hdi, hpi⟩ (by repeat (first | exact SubE.nil | refine SubE.cons _ _ _ rfl ?_)) (Less.refl _)
    clear hdi hpi
    rintro ⟨qa, ps⟩ ⟨hdi, hpi⟩
    dsimp only at hdi hpi ⊢
    have hfin : putAt (putAt bl (h.first + nb s0.l.length) (allB g 1 rt)) (h.first + 0) (blks g 0 s0.l) = putAt bl h.first (allB g 0 ls) := by
      have := putAt_two (bl := bl) (k := h.first) (a := blks g 0 s0.l) (b := allB g 1 rt) (by rw [blks_len, allB_len]; omega)
      rw [blks_len] at this
      rw [Nat.add_zero, this, hrt]
      rfl
    have cW := fun w' (hw' : Holds w S (dkE ⟨h.x.p, h.x.q, h.x.cap, qa⟩ (putAt bl (h.first + nb s0.l.length) (allB g 1 rt)) ps ++ [⟨j, Row 104 (hfc (begH h g ls)), true⟩]) w') hx' => write_any ⟨⟨h.x.p, h.x.q, h.x.cap, qa⟩, h.first, h.size, g, ls.length, room ls⟩ (putAt bl (h.first + nb s0.l.length) (allB g 1 rt)) ps 0 0 s0 hdi (by rw [hmbl]; exact hs) (by show 0 + nb s0.l.length ≤ h.size; omega) (by show ps.length + h.size ≤ _; omega) w' (ok0.away hw' aw0) (away_mid hw' (dkE_wr _ _ _) ok0 aw0) hx'
    dsimp only at cW
    rw [hfin] at cW
    repeat (refine JC.seq ?_)
    refine JC.tail 6 mixT (by kernel_rfl) ?_
    simp only [List.take_succ_cons, List.take_zero, List.drop_succ_cons, List.drop_zero]
    repeat (first | refine JQ.q (by first | (apply OQ.load_agg (cs := hfc (begH h g ls)); exact hfAg; exact hf6; exact rfl; exact .here; exact rfl; exact Row.all) | (apply OQ.idxS1 (i := 0); exact Try.underlying34; exact sleJ; exact rfl; exact rfl; exact hne) | (apply OQ.load_old; exact slCj; exact rfl; exact lb; exact hbS; exact c0) | (apply OQ.move; exact rfl) | (apply OQ.nilc; exact rfl)) rfl ?_ | refine JQ.nil_tail ?_)
    refine JL.perm (M' := dkE ⟨h.x.p, h.x.q, h.x.cap, qa⟩ (putAt bl (h.first + nb s0.l.length) (allB g 1 rt)) ps ++ [⟨j, Row 104 (hfc (begH h g ls)), true⟩]) ?_ (by exact List.perm_append_comm (l₁ := [_]))
    refine JL.callV (ι := Dw ⟨h.x.p, h.x.q, h.x.cap, qa⟩ (putAt bl h.first (allB g 0 ls)) (ps.length + nb s0.l.length)) (vs := [.agg (hfc (begH h g ls)).toArray, N 0, N 0, s0.v]) (fun _ => .tuple #[]) (fun z => z.E) goes_jwrite rfl rfl (dkE_wr _ _ _) (fun z => z.wr) cW fun z => ?_
    refine JL.perm (M' := ⟨j, Row 104 (hfc (begH h g ls)), true⟩ :: z.E) ?_ (by exact List.perm_append_comm (l₂ := [_]))
    repeat (first | refine JL.q (by first | (apply OQ.load; exact jbC; exact rfl; exact .here; exact (Row.cell (v := ifD h.x) rfl)) | (apply OQ.move; exact rfl) | (apply OQ.nilc; exact rfl) | (apply OQ.fld; exact rfl; exact rfl; exact rfl; exact (by decide); exact rfl)) rfl ?_ | refine JC.region ?_ | refine JL.nil ?_ | refine JE.next ?_)
    refine JL.perm (M' := dkE ⟨h.x.p, h.x.q, h.x.cap, z.a⟩ (putAt bl h.first (allB g 0 ls)) z.pd ++ [⟨j, Row 104 (hfc (begH h g ls)), true⟩]) ?_ (by exact List.perm_append_comm (l₁ := [_]))
    refine JL.isync rfl rfl ?_
    repeat (refine JL.nil ?_)
    refine JE.perm (M' := ⟨j, Row 104 (hfc (begH h g ls)), true⟩ :: dkE (sync0 h.x) (putAt bl h.first (allB g 0 ls)) []) (by exact List.perm_append_comm (l₂ := [_])) ?_
    exact JE.end0 rfl fun w' hw => ⟨rfl, hw⟩
end Go.Proofs.Ytjkncnbpaejamaa

/-
  Of no statement by itself: the landed journal's open, Open.
  Conditions: each theorem's own.
-/
namespace Go.Proofs.Ytjkncnbpaejamaa
set_option maxRecDepth 10000
open Sl Dsk Jrn
theorem rd_room {g : BitVec 32} {r : Nat} : ∀ {bs : List Bk} {p : Nat} {acc rec : Bk} {k : Nat}, rd g r bs p acc = some (rec, k) → (∀ b ∈ bs, b.length = 64) → acc.length ≤ p * 42 → rec.length ≤ k * 42
  | [], _, _, _, _, h, _, _ => by simp [rd] at h
  | b :: bs, p, acc, rec, k, h, hb, ha => by
    unfold rd at h
    split at h
    case isTrue hw =>
      have ⟨h1, h2⟩ := part_len (hb b (by simp)) hw.1
      split at h
      · simp only [Option.some.injEq, Prod.mk.injEq] at h
        rw [← h.1, ← h.2, List.length_append, h1]
        omega
      · exact rd_room h (fun x hx => hb x (by simp [hx])) (by rw [List.length_append, h1]; omega)
    · cases h
theorem toldN_room {g : BitVec 32} : ∀ (f : Nat) (bs : List Bk) (n : Nat), (∀ b ∈ bs, b.length = 64) → room (toldN g f bs n) ≤ bs.length
  | 0, bs, n, _ => Nat.zero_le _
  | f + 1, bs, n, hb => by
    rw [toldN]
    cases h : rd g n bs 0 [] with
    | none => exact Nat.zero_le _
    | some rk =>
      obtain ⟨rec, k⟩ := rk
      have h1 := rd_room h hb (Nat.zero_le _)
      have h2 := rd_le h
      have ih := toldN_room (g := g) f (bs.drop k) (n + 1) (fun b hx => hb b (List.mem_of_mem_drop hx))
      rw [List.length_drop] at ih
      rw [room_cons]
      have : nb rec.length ≤ k := by unfold nb; omega
      omega
theorem recH_room {bl : List Bk} {first : Nat} (hb : ∀ b ∈ bl, b.length = 64) (h : first + bl.length / 2 ≤ bl.length) : room (recH bl first) ≤ bl.length / 2 := by
  unfold recH toldH told
  refine Nat.le_trans (toldN_room _ _ _ ?_) (by rw [bsOf_len h]; omega)
  intro b hx
  unfold bsOf at hx
  exact hb b (List.mem_of_mem_drop (List.mem_of_mem_take (List.mem_of_mem_drop hx)))
theorem curF_room {bl : List Bk} (hb : ∀ b ∈ bl, b.length = 64) (h4 : 4 ≤ bl.length) : room (curF bl).2.2 ≤ bl.length / 2 ∧ 0 < (curF bl).2.2.length ∧ (curF bl).1 ≤ bl.length / 2 := by
  have h0 : ∀ f, (0 : Int) < ((genH bl f).toNat : Int) → 0 < (recH bl f).length := fun f h => by
    unfold genH at h
    split at h
    · simp at h
    · omega
  unfold curF
  split
  case isTrue h => exact ⟨recH_room hb (by omega), h0 _ h.1, Nat.zero_le _⟩
  · split
    case isTrue h => exact ⟨recH_room hb (by omega), h0 _ h, Nat.le_refl _⟩
    · exact ⟨by show 1 + 0 ≤ _; omega, Nat.zero_lt_one, Nat.le_refl _⟩
theorem away_gr {w0 w : World} {S : List Nat} {X M : List Ent} {z : Gr} (hw : Holds w0 S (X ++ (z.E ++ M)) w) : AwayL z.s (keys X) := by
  have key : ∀ b, b ∈ z.E.map Ent.b → b ∉ keys X := fun b hb hm => by
    have hn := hw.nodup
    rw [List.map_append, List.nodup_append] at hn
    exact hn.2.2 b hm b (by rw [List.map_append]; exact List.mem_append_left _ hb) rfl
  obtain ⟨q, rs, hq, hr⟩ := z
  refine ⟨fun _ a ha => ?_, fun y hy h0 a ha => ?_⟩
  · cases q with
    | none => cases ha
    | some p =>
      have : a = ⟨p.1, 0, none⟩ := by cases ha; rfl
      rw [this]
      exact key p.1 (by unfold Gr.E; rw [List.map_append]; exact List.mem_append_left _ (by simp [accE]))
  · have hy' : y ∈ rs := by
      have := accL_rs hq
      unfold Gr.s at hy
      rwa [this] at hy
    refine key a.block ?_
    unfold Gr.E
    rw [List.map_append]
    refine List.mem_append_right _ ?_
    unfold flatE
    rw [List.map_flatMap, List.mem_flatMap]
    exact ⟨y, hy', by unfold Sl8.ents; rw [ha]; simp⟩
theorem goes_jopen : Goes Try.prog 44 := ⟨_, Try.func44, rfl, by kernel_rfl⟩
theorem goes_jOpen : Goes Try.prog 26 := ⟨_, Try.func26, rfl, by kernel_rfl⟩
/-- why a journal isn't opened -/
def noOpen (bl : List Bk) : Nat := if bl.length < 4 then 2 else if gm bl = 4294967295#32 then 6 else 0
/-- the half that a journal that is opened begins in -/
def opnH (x : Dp) (bl : List Bk) : Hf := ⟨x, bl.length / 2 - (curF bl).1, bl.length / 2, 0, 0, 0⟩
def opnD (bl : List Bk) : List Bk := putAt bl (bl.length / 2 - (curF bl).1) (allB (gm bl + 1#32) 0 (curF bl).2.2)
def syH (h : Hf) : Hf := ⟨sync0 h.x, h.first, h.size, h.g, h.count, h.used⟩
def opnJ (x : Dp) (bl : List Bk) : Hf := syH (begH (opnH x bl) (gm bl + 1#32) (curF bl).2.2)
set_option maxHeartbeats 32000000 in
theorem open_yes (x : Dp) (bl : List Bk) (pd : List (Nat × Bk)) (hd : DkOk x bl pd) (hp : pd.length ≤ 900000) (hno : noOpen bl = 0) (w : World) (h0 : Holds w (keys (dkE x bl pd)) (dkE x bl pd) w) :
    Calls Try.prog 44 [ifD x].toArray w fun e w' => ∃ j : Nat, e = .returned (.tuple #[Pt j 0, N 0]) ∧ Holds w (keys (dkE x bl pd)) (jnE j (opnJ x bl) (opnD bl) []) w' := by
  have hn := hd.n1
  have h4 : ¬ bl.length < 4 := fun h => by unfold noOpen at hno; rw [if_pos h] at hno; cases hno
  have hg : ¬ gm bl = 4294967295#32 := fun h => by unfold noOpen at hno; rw [if_neg h4, if_pos h] at hno; cases hno
  have cN := fun {u w' : World} {S : List Nat} {M : List Ent} (hw' : Holds u S (dkE x bl pd ++ M) w') => newGen_any x bl pd hd.ok hn w' (dkR_of hw')
  have eG : newG bl = .tuple #[U32 (gm bl + 1#32), N 0] := by unfold newG; rw [if_neg hg]
  rw [eG] at cN
  have ⟨hr1, hr2, hr3⟩ := curF_room (bl := bl) hd.ok.b (by omega)
  generalize hS : keys (dkE x bl pd) = S at h0 ⊢
  refine enter (n := 36) Try.func44 rfl rfl rfl h0 ?_
  repeat (first | refine JL.q (by first | (apply OQ.inv (xs := []); exact (isSize x); exact rfl; exact (OQ.callx (vs := [Pt x.p 0]) goes_dsizej rfl (fun w' hw' => dsizeR x bl pd w' (dkR_of (M := []) (by rw [List.append_nil]; exact hw'))))) | (apply OQ.move; exact rfl) | (apply OQ.assign; exact rfl) | (apply OQ.lssN; exact rfl; exact rfl)) rfl ?_ | refine JC.seq ?_ | refine JC.region ?_ | refine JL.nil ?_ | refine JE.next ?_)
  refine JC.cond rfl (fun hc => absurd (of_decide_eq_true hc) (by omega)) (fun _ => ?_)
  repeat (first | refine JL.q (by first | (apply OQ.callx (vs := [ifD x]); exact goes_newGen; exact rfl; exact (fun w' hw' => cN (M := []) (by rw [List.append_nil]; exact hw'))) | (apply OQ.extract; exact rfl; exact rfl) | (apply OQ.neB (a := 0) (b := 0) (c := true); exact rfl; exact rfl; exact rfl) | (apply OQ.move; exact rfl) | (apply OQ.assign; exact rfl)) rfl ?_ | refine JC.seq ?_ | refine JC.region ?_ | refine JC.skip ?_ | refine JL.nil ?_ | refine JE.next ?_)
  refine JC.cond_false rfl rfl ?_
  repeat (first | refine JL.q (by (apply OQ.move; exact rfl)) rfl ?_ | refine JC.seq ?_ | refine JC.region ?_ | refine JC.skip ?_ | refine JE.next ?_)
  refine JL.callg (ι := GrOf (curF bl).2.2 (bl.length / 2)) (vs := [ifD x]) (fun z => .tuple #[.agg (hfc ⟨x, (curF bl).1, bl.length / 2, (curF bl).2.1, 0, 0⟩).toArray, z.1.v]) (fun z => z.1.E) goes_cur rfl rfl (fun z => z.1.wr) (fun w' hw' => cur_any x bl pd hd.ok hn (by omega) w' (dkR_of (M := []) (by rw [List.append_nil]; exact hw'))) fun z => ?_
  repeat (refine JL.q (by first | (apply OQ.extract; exact rfl; exact rfl) | (apply OQ.move; exact rfl)) rfl ?_)
  refine JL.alloc (r := hfc0) hfZ rfl fun b6 _ => ?_
  refine JL.store_all (cs := hfc ⟨x, (curF bl).1, bl.length / 2, (curF bl).2.1, 0, 0⟩) hf6 rfl rfl rfl rfl .here rfl ?_
  have cO := fun w' => other_any ⟨x, (curF bl).1, bl.length / 2, (curF bl).2.1, 0, 0⟩ hr3 (by show bl.length / 2 < _; omega) w'
  repeat (first | refine JL.q (by first | (apply OQ.load_agg (cs := hfc ⟨x, (curF bl).1, bl.length / 2, (curF bl).2.1, 0, 0⟩); exact hfAg; exact hf6; exact rfl; exact .here; exact rfl; exact Row.all) | (apply OQ.callx (vs := [.agg (hfc ⟨x, (curF bl).1, bl.length / 2, (curF bl).2.1, 0, 0⟩).toArray]); exact goes_other; exact rfl; exact (fun w' _ => cO w')) | (apply OQ.buildJ (h := opnH x bl); exact rfl) | (apply OQ.assign; exact rfl)) rfl ?_ | refine JC.seq ?_ | refine JC.region ?_ | refine JL.nil ?_ | refine JE.next ?_)
  refine JL.box (r := hfc (opnH x bl)) rfl rfl rfl fun j _ => ?_
  obtain ⟨z, hz1, hz2⟩ := z
  have hzl : z.s.rs.map Sl8.l = (curF bl).2.2 := by rw [z.rs_eq]; exact hz1
  have hzn : 0 < z.s.rs.length := by rw [← hzl, List.length_map] at hr2; exact hr2
  refine JL.perm (M' := jnE j (opnH x bl) bl pd ++ (z.E ++ [⟨b6, Row 102 (hfc ⟨x, (curF bl).1, bl.length / 2, (curF bl).2.1, 0, 0⟩), true⟩])) ?_ (by
    refine List.Perm.cons _ ?_
    refine (List.perm_append_singleton _ _).symm.trans ?_
    rw [List.append_assoc]
    exact List.perm_append_comm_assoc _ _ _)
  have cB := fun w' (hw' : Holds w S (jnE j (opnH x bl) bl pd ++ (z.E ++ [⟨b6, Row 102 (hfc ⟨x, (curF bl).1, bl.length / 2, (curF bl).2.1, 0, 0⟩), true⟩])) w') hx' => begin_any j (opnH x bl) bl pd (gm bl + 1#32) z.s hd (by show bl.length / 2 - (curF bl).1 + bl.length / 2 ≤ bl.length; omega) hzn (by rw [hzl]; exact hr1) (by show pd.length + (bl.length / 2 + bl.length / 2) ≤ _; omega) w' (z.ok (hw'.weak (less_app (jnE j (opnH x bl) bl pd) (less_pre _ _)))) (away_gr hw') hx'
  rw [hzl, z.v_eq] at cB
  repeat (first | refine JL.q (by first | (apply OQ.move; exact rfl) | (apply OQ.assign; exact rfl) | (apply OQ.nilc; exact rfl) | (apply OQ.fld; exact rfl; exact rfl; exact rfl; exact (by decide); exact rfl)) rfl ?_ | refine JC.seq ?_ | refine JC.region ?_ | refine JL.nil ?_ | refine JE.next ?_)
  refine JL.callV (ι := Unit) (vs := [Pt j 0, U32 (gm bl + 1#32), z.v]) (fun _ => .tuple #[]) (fun _ => jnE j (opnJ x bl) (opnD bl) []) goes_begin rfl rfl (jnE_wr _ _ _ _) (fun _ => jnE_wr _ _ _ _) (fun w' hw' hx' => (cB w' hw' hx').mono fun e w2 ⟨h1, h2⟩ => ⟨(), h1, h2⟩) fun _ => ?_
  repeat (first | refine JL.q (by first | (apply OQ.move; exact rfl) | (apply OQ.assign; exact rfl)) rfl ?_ | refine JC.seq ?_ | refine JC.region ?_ | refine JL.nil ?_ | refine JE.next ?_)
  refine JC.ret ?_
  skip
  exact JE.ret2 rfl (RV.tmp rfl) (RV.tmp rfl) fun w' hw => ⟨j, rfl, hw.weak (less_pre _ _)⟩
theorem Open_yes (x : Dp) (bl : List Bk) (pd : List (Nat × Bk)) (hd : DkOk x bl pd) (hp : pd.length ≤ 900000) (hno : noOpen bl = 0) (w : World) (h0 : Holds w (keys (dkE x bl pd)) (dkE x bl pd) w) :
    Calls Try.prog 26 [Pt x.p 0].toArray w fun e w' => ∃ j : Nat, e = .returned (.tuple #[Pt j 0, N 0]) ∧ Holds w (keys (dkE x bl pd)) (jnE j (opnJ x bl) (opnD bl) []) w' := by
  refine enter (n := 9) Try.func26 rfl rfl rfl h0 ?_
  repeat (first | refine JL.q (by first | (apply OQ.ifaceD (x := x); exact rfl) | (apply OQ.move; exact rfl) | (apply OQ.assign; exact rfl)) rfl ?_ | refine JC.seq ?_ | refine JC.region ?_ | refine JL.nil ?_ | refine JE.next ?_)
  refine JL.perm ?_ (List.Perm.of_eq (List.append_nil _).symm)
  refine JL.callV (ι := Nat) (vs := [ifD x]) (fun j => .tuple #[Pt j 0, N 0]) (fun j => jnE j (opnJ x bl) (opnD bl) []) goes_jopen rfl rfl (dkE_wr _ _ _) (fun j => jnE_wr _ _ _ _) (fun w' hw' hx' => open_yes x bl pd hd hp hno w' hx') fun j => ?_
  rw [List.append_nil]
  repeat (first | refine JL.q (by first | (apply OQ.extract; exact rfl; exact rfl) | (apply OQ.assign; exact rfl)) rfl ?_ | refine JL.nil ?_ | refine JE.next ?_)
  exact JC.ret (JE.ret2 rfl (RV.tmp rfl) (RV.tmp rfl) fun w' hw => ⟨j, rfl, hw⟩)
end Go.Proofs.Ytjkncnbpaejamaa

/-
  Of no statement by itself: the landed journal's Append, Restart.
  Conditions: each theorem's own.
-/
namespace Go.Proofs.Ytjkncnbpaejamaa
set_option maxRecDepth 10000
open Sl Dsk Jrn
theorem jnR_of {j : Nat} {h : Hf} {bl : List Bk} {pd : List (Nat × Bk)} {u w : World} {S : List Nat} {M : List Ent} (hw : Holds u S (jnE j h bl pd ++ M) w) : Holds w [] (jnR j h bl pd) w :=
  (ro_holds hw).weak (.keep _ _ _ _ _ _ (fun _ h => h) (.keep _ _ _ _ _ _ (fun _ h => h) (.keep _ _ _ _ _ _ (fun _ h => h) (.nil _))))
theorem dkR_jn {j : Nat} {h : Hf} {bl : List Bk} {pd : List (Nat × Bk)} {u w : World} {S : List Nat} {M : List Ent} (hw : Holds u S (jnE j h bl pd ++ M) w) : Holds w [] (dkR h.x bl pd) w :=
  (jnR_of hw).weak (.drop _ _ _ (Less.refl _))
theorem dkR_jr {j : Nat} {h : Hf} {bl : List Bk} {pd : List (Nat × Bk)} {u w : World} {S : List Nat} {M : List Ent} (hw : Holds u S (jnR j h bl pd ++ M) w) : Holds w [] (dkR h.x bl pd) w :=
  dkR_front (A := [⟨j, Row 104 (hfc h), false⟩]) (M := M) hw
theorem fits_nat (j : Nat) (h : Hf) (n : Nat) (hu : h.used ≤ h.size) (hb : h.size < 4611686018427387904) (hn : n < 4611686018427387904) (w : World) (h0 : Holds w [] [⟨j, Row 104 (hfc h), false⟩] w) :
    Calls Try.prog 30 [Pt j 0, N n].toArray w fun e w' => e = .returned (.bool (decide (nb n ≤ h.size - h.used))) ∧ Ext w w' := by
  have := fits_any j h (n : Int) hu hb (by omega) w h0
  rwa [show decide ((0 : Int) ≤ (n : Int) ∧ nb (n : Int).toNat ≤ h.size - h.used) = decide (nb n ≤ h.size - h.used) from decide_eq_decide.2 (by simp)] at this
theorem ro_one {j : Nat} {h : Hf} {u w : World} {S : List Nat} {M : List Ent} {wr : Bool} (hw : Holds u S (⟨j, Row 104 (hfc h), wr⟩ :: M) w) : Holds w [] [⟨j, Row 104 (hfc h), false⟩] w :=
  (ro_holds hw).weak (.keep _ _ _ _ _ _ (fun _ h => h) (.nil _))
theorem goes_app : Goes Try.prog 31 := ⟨_, Try.func31, rfl, by kernel_rfl⟩
theorem goes_rst : Goes Try.prog 52 := ⟨_, Try.func52, rfl, by kernel_rfl⟩
/-- the journal behind one more record, and its disk's blocks -/
def appJ (h : Hf) (l : Bk) : Hf := syH (putH h l.length)
def appD (h : Hf) (bl : List Bk) (l : Bk) : List Bk := putAt bl (h.first + h.used) (blks h.g h.count l)
set_option maxHeartbeats 16000000 in
theorem app_yes (j : Nat) (h : Hf) (bl : List Bk) (pd : List (Nat × Bk)) (s : Sl8) (hd : DkOk h.x bl pd) (hs : h.first + h.size ≤ bl.length) (hc : h.count ≤ h.size) (hp : pd.length ≤ 900000) (hu : h.used ≤ h.size) (hyes : nb s.l.length ≤ h.size - h.used) (w : World) (hok : s.ok w) (hap : Away s (keys (jnE j h bl pd))) (h0 : Holds w (keys (jnE j h bl pd)) (jnE j h bl pd) w) :
    Calls Try.prog 31 [Pt j 0, s.v].toArray w fun e w' => e = .returned (N 0) ∧ Holds w (keys (jnE j h bl pd)) (jnE j (appJ h s.l) (appD h bl s.l) []) w' := by
  have hn1 := hd.n1
  have hl : s.l.length < 4611686018427387904 := by have := nb_le s.l.length; omega
  have cF := fun {u w' : World} {S : List Nat} {M : List Ent} (hw' : Holds u S (jnE j h bl pd ++ M) w') => fits_nat j h s.l.length hu (by omega) hl w' (ro_one hw')
  rw [decide_eq_true hyes] at cF
  generalize hS : keys (jnE j h bl pd) = S at hap h0 ⊢
  refine enter (n := 21) Try.func31 rfl rfl rfl h0 ?_
  repeat (first | refine JL.q (by first | (apply OQ.len (k := s.l.length) (ad := s.ad) (cap := s.cap); exact Try.underlying33; exact rfl) | (apply OQ.callx (vs := [Pt j 0, N s.l.length]); exact goes_fits; exact rfl; exact (fun w' hw' => cF (M := []) (by rw [List.append_nil]; exact hw'))) | (apply OQ.not; exact rfl) | (apply OQ.move; exact rfl) | (apply OQ.assign; exact rfl)) rfl ?_ | refine JC.seq ?_ | refine JC.region ?_ | refine JL.nil ?_ | refine JE.next ?_)
  refine JC.cond_false rfl rfl ?_
  repeat (first | refine JL.q (by first | (apply OQ.move; exact rfl) | (apply OQ.nilc; exact rfl) | (apply OQ.fld; exact rfl; exact rfl; exact rfl; exact (by decide); exact rfl)) rfl ?_ | refine JC.seq ?_ | refine JC.region ?_ | refine JC.skip ?_ | refine JE.next ?_)
  refine JL.perm ?_ (List.Perm.of_eq (List.append_nil _).symm)
  refine JL.callV (ι := Dw h.x (appD h bl s.l) (pd.length + nb s.l.length)) (vs := [Pt j 0, s.v]) (fun _ => .tuple #[]) (fun z => z.J j (putH h s.l.length)) goes_put rfl rfl (jnE_wr _ _ _ _) (fun z => z.Jwr _ _) (fun w' hw' hx' => put_any j h bl pd s hd hs (by omega) hc (by omega) w' (hok.away hw' hap) (away_mid hw' (jnE_wr _ _ _ _) hok hap) hx') fun z => ?_
  rw [List.append_nil]
  repeat (first | refine JL.q (by first | (apply OQ.load; exact jbC; exact rfl; exact .here; exact (Row.cell (v := ifD h.x) rfl)) | (apply OQ.move; exact rfl) | (apply OQ.nilc; exact rfl) | (apply OQ.fld; exact rfl; exact rfl; exact rfl; exact (by decide); exact rfl)) rfl ?_ | refine JC.seq ?_ | refine JC.region ?_ | refine JL.nil ?_ | refine JE.next ?_)
  refine JL.perm (M' := dkE ⟨h.x.p, h.x.q, h.x.cap, z.a⟩ (appD h bl s.l) z.pd ++ [⟨j, Row 104 (hfc (putH h s.l.length)), true⟩]) ?_ (by exact List.perm_append_comm (l₁ := [_]))
  refine JL.isync rfl rfl ?_
  repeat (first | refine JL.q (by (apply OQ.assign; exact rfl)) rfl ?_ | refine JC.seq ?_ | refine JC.region ?_ | refine JL.nil ?_ | refine JE.next ?_)
  refine JC.ret ?_
  skip
  exact JE.ret1 rfl (RV.tmp rfl) fun w' hw => ⟨rfl, hw.perm' (by exact List.perm_append_comm (l₂ := [_]))⟩
/-- why a journal doesn't begin anew -/
def noRst (h : Hf) (bl : List Bk) (n : Nat) : Prop := h.size < nb n ∨ gm bl = 4294967295#32
def rstH (h : Hf) : Hf := ⟨h.x, h.size - h.first, h.size, 0, 0, 0⟩
def rstJ (h : Hf) (bl : List Bk) (l : Bk) : Hf := syH (begH (rstH h) (gm bl + 1#32) [l])
def rstD (h : Hf) (bl : List Bk) (l : Bk) : List Bk := putAt bl (h.size - h.first) (allB (gm bl + 1#32) 0 [l])
set_option maxHeartbeats 16000000 in
theorem rst_no (j : Nat) (h : Hf) (bl : List Bk) (pd : List (Nat × Bk)) (s : Sl8) (ok : Ok bl pd) (hn : bl.length ≤ 65536) (hb : h.size ≤ 65536) (hl : s.l.length < 4611686018427387904) (hno : noRst h bl s.l.length) (w : World) (h0 : Holds w [] (jnR j h bl pd) w) :
    Calls Try.prog 52 [Pt j 0, s.v].toArray w fun e w' => e = .returned (N 6) ∧ Ext w w' := by
  refine enter (n := 43) Try.func52 rfl rfl rfl h0 ?_
  repeat (first | refine JL.q (by (apply OQ.assign; exact rfl)) rfl ?_ | refine JC.seq ?_ | refine JC.region ?_ | refine JL.nil ?_ | refine JE.next ?_)
  refine JC.quiet mixT (by kernel_rfl) ?_
  cases c1 : decide ((h.size : Int) < (nb s.l.length : Nat))
  case true =>
    repeat (first | refine JQ.q (by first | (apply OQ.len (k := s.l.length) (ad := s.ad) (cap := s.cap); exact Try.underlying33; exact rfl) | (apply OQ.callx (vs := [N s.l.length]); exact goes_bfor; exact rfl; exact (fun w' _ => bfor_any s.l.length hl w')) | (apply OQ.load; exact intC; exact rfl; exact .here; exact (Row.cell (v := N h.size) rfl)) | (apply OQ.gtrB; exact rfl; exact rfl; exact c1) | (apply OQ.move; exact rfl) | (apply OQ.nilc; exact rfl) | (apply OQ.fld; exact rfl; exact rfl; exact rfl; exact (by decide); exact rfl)) rfl ?_ | refine JQ.nil ?_ | refine JE.next ?_)
    refine JC.cond_true rfl rfl ?_
    repeat (first | refine JL.q (by (apply OQ.assign; exact rfl)) rfl ?_ | refine JC.seq ?_ | refine JC.region ?_ | refine JL.nil ?_ | refine JE.next ?_)
    refine JC.ret ?_
    repeat (refine JE.then_ret ?_)
    exact JE.ret1 rfl (RV.tmp rfl) fun w' hw => ⟨rfl, hw.chg⟩
  case false =>
    have hg : gm bl = 4294967295#32 := by
      rcases hno with h | h
      · exact absurd (by exact_mod_cast h) (of_decide_eq_false c1)
      · exact h
    have eG : newG bl = .tuple #[U32 0, N 6] := by unfold newG; rw [if_pos hg]
    have cN := fun {u w' : World} {S : List Nat} {M : List Ent} (hw' : Holds u S (jnR j h bl pd ++ M) w') => newGen_any h.x bl pd ok hn w' (dkR_jr hw')
    rw [eG] at cN
    repeat (first | refine JQ.q (by first | (apply OQ.len (k := s.l.length) (ad := s.ad) (cap := s.cap); exact Try.underlying33; exact rfl) | (apply OQ.callx (vs := [N s.l.length]); exact goes_bfor; exact rfl; exact (fun w' _ => bfor_any s.l.length hl w')) | (apply OQ.load; exact intC; exact rfl; exact .here; exact (Row.cell (v := N h.size) rfl)) | (apply OQ.gtrB; exact rfl; exact rfl; exact c1) | (apply OQ.move; exact rfl) | (apply OQ.nilc; exact rfl) | (apply OQ.fld; exact rfl; exact rfl; exact rfl; exact (by decide); exact rfl)) rfl ?_ | refine JQ.nil ?_ | refine JE.next ?_)
    refine JC.cond_false rfl rfl ?_
    repeat (first | refine JL.q (by first | (apply OQ.load; exact jbC; exact rfl; exact .here; exact (Row.cell (v := ifD h.x) rfl)) | (apply OQ.callx (vs := [ifD h.x]); exact goes_newGen; exact rfl; exact (fun w' hw' => cN (M := []) (by rw [List.append_nil]; exact hw'))) | (apply OQ.extract; exact rfl; exact rfl) | (apply OQ.neB (a := 6) (b := 0) (c := false); exact rfl; exact rfl; exact rfl) | (apply OQ.move; exact rfl) | (apply OQ.assign; exact rfl) | (apply OQ.nilc; exact rfl) | (apply OQ.fld; exact rfl; exact rfl; exact rfl; exact (by decide); exact rfl)) rfl ?_ | refine JC.seq ?_ | refine JC.region ?_ | refine JC.skip ?_ | refine JL.nil ?_ | refine JE.next ?_)
    refine JC.cond_true rfl rfl ?_
    repeat (first | refine JL.q (by first | (apply OQ.move; exact rfl) | (apply OQ.assign; exact rfl)) rfl ?_ | refine JC.seq ?_ | refine JC.region ?_ | refine JL.nil ?_ | refine JE.next ?_)
    refine JC.ret ?_
    repeat (refine JE.then_ret ?_)
    exact JE.ret1 rfl (RV.tmp rfl) fun w' hw => ⟨rfl, hw.chg⟩
set_option maxHeartbeats 32000000 in
theorem rst_yes (j : Nat) (h : Hf) (bl : List Bk) (pd : List (Nat × Bk)) (s : Sl8) (hd : DkOk h.x bl pd) (hs : h.size + h.size ≤ bl.length) (hf : h.first ≤ h.size) (hp : pd.length ≤ 900000) (hyes : ¬ noRst h bl s.l.length) (w : World) (hok : s.ok w) (hap : Away s (keys (jnE j h bl pd))) (h0 : Holds w (keys (jnE j h bl pd)) (jnE j h bl pd) w) :
    Calls Try.prog 52 [Pt j 0, s.v].toArray w fun e w' => e = .returned (N 0) ∧ Holds w (keys (jnE j h bl pd)) (jnE j (rstJ h bl s.l) (rstD h bl s.l) []) w' := by
  have hn1 := hd.n1
  have hfit : nb s.l.length ≤ h.size := Nat.le_of_not_lt fun e => hyes (.inl e)
  have hg : ¬ gm bl = 4294967295#32 := fun e => hyes (.inr e)
  have hl : s.l.length < 4611686018427387904 := by have := nb_le s.l.length; omega
  have eG : newG bl = .tuple #[U32 (gm bl + 1#32), N 0] := by unfold newG; rw [if_neg hg]
  have cN := fun {u w' : World} {S : List Nat} {M : List Ent} (hw' : Holds u S (jnE j h bl pd ++ M) w') => newGen_any h.x bl pd hd.ok hn1 w' (dkR_jn hw')
  rw [eG] at cN
  have cO := fun w' => other_any h hf (by omega) w'
  have c1 : decide ((h.size : Int) < (nb s.l.length : Nat)) = false := decide_eq_false (by omega)
  generalize hS : keys (jnE j h bl pd) = S at hap h0 ⊢
  refine enter (n := 43) Try.func52 rfl rfl rfl h0 ?_
  repeat (first | refine JL.q (by (apply OQ.assign; exact rfl)) rfl ?_ | refine JC.seq ?_ | refine JC.region ?_ | refine JL.nil ?_ | refine JE.next ?_)
  refine JC.quiet mixT (by kernel_rfl) ?_
  repeat (first | refine JQ.q (by first | (apply OQ.len (k := s.l.length) (ad := s.ad) (cap := s.cap); exact Try.underlying33; exact rfl) | (apply OQ.callx (vs := [N s.l.length]); exact goes_bfor; exact rfl; exact (fun w' _ => bfor_any s.l.length hl w')) | (apply OQ.load; exact intC; exact rfl; exact .here; exact (Row.cell (v := N h.size) rfl)) | (apply OQ.gtrB; exact rfl; exact rfl; exact c1) | (apply OQ.move; exact rfl) | (apply OQ.nilc; exact rfl) | (apply OQ.fld; exact rfl; exact rfl; exact rfl; exact (by decide); exact rfl)) rfl ?_ | refine JQ.nil ?_ | refine JE.next ?_)
  refine JC.cond_false rfl rfl ?_
  repeat (first | refine JL.q (by first | (apply OQ.load; exact jbC; exact rfl; exact .here; exact (Row.cell (v := ifD h.x) rfl)) | (apply OQ.callx (vs := [ifD h.x]); exact goes_newGen; exact rfl; exact (fun w' hw' => cN (M := []) (by rw [List.append_nil]; exact hw'))) | (apply OQ.extract; exact rfl; exact rfl) | (apply OQ.neB (a := 0) (b := 0) (c := true); exact rfl; exact rfl; exact rfl) | (apply OQ.move; exact rfl) | (apply OQ.assign; exact rfl) | (apply OQ.nilc; exact rfl) | (apply OQ.fld; exact rfl; exact rfl; exact rfl; exact (by decide); exact rfl)) rfl ?_ | refine JC.seq ?_ | refine JC.region ?_ | refine JC.skip ?_ | refine JL.nil ?_ | refine JE.next ?_)
  refine JC.cond_false rfl rfl ?_
  repeat (first | refine JL.q (by first | (apply OQ.load_agg (cs := hfc h); exact hfAg; exact hf6; exact rfl; exact .here; exact rfl; exact Row.all) | (apply OQ.callx (vs := [.agg (hfc h).toArray]); exact goes_other; exact rfl; exact (fun w' _ => cO w')) | (apply OQ.move; exact rfl) | (apply OQ.nilc; exact rfl) | (apply OQ.fld; exact rfl; exact rfl; exact rfl; exact (by decide); exact rfl)) rfl ?_ | refine JC.seq ?_ | refine JC.region ?_ | refine JC.skip ?_ | refine JE.next ?_)
  refine JL.store_all (cs := hfc (rstH h)) hf6 rfl rfl rfl rfl .here rfl ?_
  repeat (first | refine JL.q (by first | (apply OQ.move; exact rfl) | (apply OQ.nilc; exact rfl) | (apply OQ.fld; exact rfl; exact rfl; exact rfl; exact (by decide); exact rfl)) rfl ?_ | refine JC.seq ?_ | refine JC.region ?_ | refine JL.nil ?_ | refine JE.next ?_)
  refine JL.lit1 (v := s.v) Try.underlying34 slEj rfl rfl rfl rfl fun bl2 _ => ?_
  refine JL.perm (M' := jnE j (rstH h) bl pd ++ [⟨bl2, Row 33 [s.v], true⟩]) ?_ (by exact List.perm_append_comm (l₁ := [_]))
  have cB := fun w' (hw' : Holds w S (jnE j (rstH h) bl pd ++ [⟨bl2, Row 33 [s.v], true⟩]) w') hx' => begin_any j (rstH h) bl pd (gm bl + 1#32) ⟨some ⟨bl2, 0, none⟩, 1, [s]⟩ hd (by show h.size - h.first + h.size ≤ bl.length; omega) (by show 0 < 1; decide) (by show nb s.l.length + 0 ≤ h.size; omega) (by show pd.length + (h.size + h.size) ≤ _; omega) w' ⟨Nat.le_refl _, (by
      obtain ⟨o, ho, hA⟩ := hw'.get (b := bl2) (A := Row 33 [s.v]) (wr := true) (hasR (N := jnE j (rstH h) bl pd) .here)
      exact Reads.block ho (Row.all _ hA)), fun y hy => by rw [List.mem_singleton.1 hy]; exact hok.away hw' hap⟩ ⟨fun _ a ha => by cases ha; exact away_has (b := bl2) hw' .here, fun y hy => by rw [List.mem_singleton.1 hy]; exact away_mid hw' (jnE_wr _ _ _ _) hok hap⟩ hx'
  skip
  refine JL.callV (ι := Unit) (vs := [Pt j 0, U32 (gm bl + 1#32), .slice (some ⟨bl2, 0, none⟩) 1 1]) (fun _ => .tuple #[]) (fun _ => jnE j (rstJ h bl s.l) (rstD h bl s.l) []) goes_begin rfl rfl (jnE_wr _ _ _ _) (fun _ => jnE_wr _ _ _ _) (fun w' hw' hx' => (cB w' hw' hx').mono fun e w2 ⟨h1, h2⟩ => ⟨(), h1, h2⟩) fun _ => ?_
  repeat (first | refine JL.q (by (apply OQ.assign; exact rfl)) rfl ?_ | refine JC.seq ?_ | refine JC.region ?_ | refine JL.nil ?_ | refine JE.next ?_)
  refine JC.ret ?_
  skip
  exact JE.ret1 rfl (RV.tmp rfl) fun w' hw => ⟨rfl, hw.weak (less_pre _ _)⟩
end Go.Proofs.Ytjkncnbpaejamaa

/-
  Of no statement by itself: what holds of a journal and its disk between the calls, by definition.
  Conditions: each theorem's own.
-/
namespace Go.Proofs.Ytjkncnbpaejamaa
open Sl Dsk Jrn
theorem mx_toNat (a b : BitVec 32) : (mx a b).toNat = max a.toNat b.toNat := by
  unfold mx
  split <;> omega
/-- both ends of a block tell generations below a number -/
def Below (m : Nat) (b : Bk) : Prop := (markIn b).1.toNat < m ∧ (markIn (b.drop 54)).1.toNat < m
theorem gm_fold (m : Nat) : ∀ (bl : List Bk) (a : BitVec 32), a.toNat < m → (∀ b ∈ bl, Below m b) → (bl.foldl (fun m b => mx (mx m (markIn b).1) (markIn (b.drop 54)).1) a).toNat < m
  | [], a, h, _ => h
  | b :: bl, a, h, hb => by
    have h1 := hb b (by simp)
    refine gm_fold m bl _ ?_ fun x hx => hb x (by simp [hx])
    rw [mx_toNat, mx_toNat]
    have := h1.1
    have := h1.2
    omega
theorem gm_lt {m : Nat} {bl : List Bk} (h0 : 0 < m) (h : ∀ b ∈ bl, Below m b) : (gm bl).toNat < m := gm_fold m bl 0 h0 h
theorem gm_up : ∀ (bl : List Bk) (a : BitVec 32), a.toNat ≤ (bl.foldl (fun m b => mx (mx m (markIn b).1) (markIn (b.drop 54)).1) a).toNat ∧ ∀ b ∈ bl, Below ((bl.foldl (fun m b => mx (mx m (markIn b).1) (markIn (b.drop 54)).1) a).toNat + 1) b
  | [], a => ⟨Nat.le_refl _, nofun⟩
  | b :: bl, a => by
    have ⟨h1, h2⟩ := gm_up bl (mx (mx a (markIn b).1) (markIn (b.drop 54)).1)
    have hm := mx_toNat (mx a (markIn b).1) (markIn (b.drop 54)).1
    rw [mx_toNat a] at hm
    refine ⟨?_, fun x hx => ?_⟩
    · simp only [List.foldl_cons]
      omega
    · simp only [List.foldl_cons]
      rcases List.mem_cons.1 hx with rfl | hx
      · exact ⟨by omega, by omega⟩
      · exact h2 x hx
theorem gm_below {bl : List Bk} : ∀ b ∈ bl, Below ((gm bl).toNat + 1) b := (gm_up bl 0).2
theorem mk1_ok {g : BitVec 32} {r n i : Nat} (h : i < n) (hn : n ≤ 32768) : okM (mk1 g r n i) := by
  show (BitVec.ofNat 16 i).toNat < 32768
  rw [BitVec.toNat_ofNat]
  omega
theorem blk_mark {g : BitVec 32} {r : Nat} {rec : Bk} {i : Nat} (h : i < nb rec.length) (hn : nb rec.length ≤ 32768) : (markIn (blk g r rec i)).1 = g ∧ (markIn ((blk g r rec i).drop 54)).1 = g ∧ (blk g r rec i).length = 64 := by
  have hc : (chunk rec i).length ≤ 42 := by rw [Jrn.chunk_len]; omega
  have hk := mk1_ok (g := g) (r := r) h hn
  refine ⟨?_, ?_, block_len hc⟩
  · rw [show blk g r rec i = blockOf (mk1 g r (nb rec.length) i) (chunk rec i) from rfl, block_mark hk]; rfl
  · rw [show blk g r rec i = blockOf (mk1 g r (nb rec.length) i) (chunk rec i) from rfl, block_back hk hc]; rfl
theorem blks_mark {g : BitVec 32} {r : Nat} {rec : Bk} (hn : nb rec.length ≤ 32768) : ∀ b ∈ blks g r rec, (markIn b).1 = g ∧ (markIn (b.drop 54)).1 = g ∧ b.length = 64 := by
  intro b hb
  unfold blks at hb
  obtain ⟨i, hi, rfl⟩ := List.mem_map.1 hb
  exact blk_mark (List.mem_range.1 hi) hn
theorem allB_mark {g : BitVec 32} : ∀ (recs : List Bk) (n : Nat), room recs ≤ 32768 → ∀ b ∈ allB g n recs, (markIn b).1 = g ∧ (markIn (b.drop 54)).1 = g ∧ b.length = 64
  | [], _, _, b, hb => by simp [allB] at hb
  | r :: rs, n, h, b, hb => by
    rw [room_cons] at h
    rw [allB] at hb
    rcases List.mem_append.1 hb with hb | hb
    · exact blks_mark (by omega) b hb
    · exact allB_mark rs (n + 1) (by omega) b hb
theorem old_get {bl : List Bk} {i : Nat} (h : i < bl.length) : old bl i = bl[i] := by simp [old, List.getD_eq_getElem?_getD, h]
theorem old_putAt {bl : List Bk} {k : Nat} {l : List Bk} {i : Nat} (hk : k + l.length ≤ bl.length) (hi : i < bl.length) (ho : ¬ (k ≤ i ∧ i < k + l.length)) : old (putAt bl k l) i = old bl i := by
  have hl := putAt_len hk
  have h1 : (bl.take k ++ l).length = k + l.length := by rw [List.length_append, List.length_take]; omega
  rw [old_get (by omega), old_get hi]
  simp only [putAt]
  by_cases h : i < k
  · rw [List.getElem_append_left (by rw [h1]; omega), List.getElem_append_left (by rw [List.length_take]; omega), List.getElem_take]
  · rw [List.getElem_append_right (by rw [h1]; omega), List.getElem_drop]
    congr 1
    omega
theorem putAt_at {bl : List Bk} {k : Nat} {l : List Bk} (hk : k + l.length ≤ bl.length) : ((putAt bl k l).drop k).take l.length = l := by
  have h1 : (bl.take k).length = k := by rw [List.length_take]; omega
  unfold putAt
  rw [List.append_assoc, List.drop_left' h1, List.take_left' rfl]
theorem putAt_mem {bl : List Bk} {k : Nat} {l : List Bk} {P : Bk → Prop} (h : ∀ b ∈ bl, P b) (hl : ∀ b ∈ l, P b) : ∀ b ∈ putAt bl k l, P b := by
  intro b hb
  unfold putAt at hb
  rcases List.mem_append.1 hb with hb | hb
  · rcases List.mem_append.1 hb with hb | hb
    · exact h b (List.mem_of_mem_take hb)
    · exact hl b hb
  · exact h b (List.mem_of_mem_drop hb)
theorem DkOk.put {x : Dp} {bl : List Bk} {pd : List (Nat × Bk)} (h : DkOk x bl pd) {k : Nat} {l : List Bk} (hk : k + l.length ≤ bl.length) (hl : ∀ b ∈ l, b.length = 64) : DkOk (sync0 x) (putAt bl k l) [] where
  ok := ⟨putAt_mem h.ok.b hl, by simp⟩
  n0 := by rw [putAt_len hk]; exact h.n0
  n1 := by rw [putAt_len hk]; exact h.n1
  m := by simp
  a := fun _ => rfl
/-- what holds of a journal between calls -/
structure Jv (h : Hf) (bl : List Bk) (recs : List Bk) : Prop where
  n4 : 4 ≤ bl.length
  n5 : bl.length ≤ 65536
  n : h.size = bl.length / 2
  f : h.first = 0 ∨ h.first = h.size
  c : h.count = recs.length
  u : h.used = room recs
  r : room recs ≤ h.size
  ne : recs ≠ []
  at' : (bl.drop h.first).take (room recs) = allB h.g 0 recs
  o : ∀ i, i < bl.length → ¬ (h.first ≤ i ∧ i < h.first + room recs) → Below h.g.toNat (old bl i)
theorem room_pos {recs : List Bk} (h : recs ≠ []) : 0 < room recs := by
  cases recs with
  | nil => exact absurd rfl h
  | cons r rs => rw [room_cons]; have := nb_pos r.length; omega
namespace Jv
variable {h : Hf} {bl recs : List Bk}
theorem fs (v : Jv h bl recs) : h.first + h.size ≤ bl.length ∧ h.first ≤ h.size ∧ h.size + h.size ≤ bl.length ∧ h.size ≤ 32768 := by
  have := v.n; have := v.n5
  rcases v.f with e | e <;> omega
theorem inn (v : Jv h bl recs) {k : Nat} (hk : k < room recs) : old bl (h.first + k) ∈ allB h.g 0 recs := by
  have h1 := v.fs; have h2 := v.r
  rw [← v.at', old_get (by omega)]
  have : ((bl.drop h.first).take (room recs))[k]'(by rw [List.length_take, List.length_drop]; omega) = bl[h.first + k]'(by omega) := by simp
  rw [← this]
  exact List.getElem_mem _
theorem all (v : Jv h bl recs) : ∀ b ∈ bl, Below (h.g.toNat + 1) b := by
  intro b hb
  have h1 := v.fs; have h2 := v.r
  obtain ⟨i, hi, rfl⟩ := List.mem_iff_getElem.1 hb
  rw [← old_get hi]
  by_cases ho : h.first ≤ i ∧ i < h.first + room recs
  · have := allB_mark recs 0 (by omega) _ (v.inn (k := i - h.first) (by omega))
    rw [show h.first + (i - h.first) = i by omega] at this
    exact ⟨by rw [this.1]; omega, by rw [this.2.1]; omega⟩
  · have := v.o i hi ho
    exact ⟨Nat.lt_succ_of_lt this.1, Nat.lt_succ_of_lt this.2⟩
theorem gm_le (v : Jv h bl recs) : (gm bl).toNat ≤ h.g.toNat := Nat.le_of_lt_succ (gm_lt (Nat.succ_pos _) v.all)
theorem g0 (v : Jv h bl recs) : 0 < h.g.toNat := by
  have h1 := v.fs; have h2 := v.r; have h3 := v.n4; have h4 := v.n
  have := v.o (h.size - h.first) (by omega) (by rcases v.f with e | e <;> omega)
  have := this.1
  omega
theorem told (v : Jv h bl recs) : toldH bl h.first h.size h.g = recs := by
  have h1 := v.fs; have h2 := v.r
  have e : bsOf bl h.first h.size 0 = allB h.g 0 recs ++ ((bl.drop h.first).take h.size).drop (room recs) := by
    rw [← v.at']
    conv => lhs; rw [bsOf, List.drop_zero, ← List.take_append_drop (room recs) ((bl.drop h.first).take h.size), List.take_take, Nat.min_eq_left h2]
  unfold toldH
  rw [e]
  refine told_all (fun b hb => ?_) (by omega)
  obtain ⟨k, hk, rfl⟩ := List.mem_iff_getElem.1 hb
  have hk' := hk
  rw [List.length_drop, List.length_take, List.length_drop] at hk'
  have : (((bl.drop h.first).take h.size).drop (room recs))[k] = old bl (h.first + (room recs + k)) := by
    rw [old_get (by omega)]
    simp
  rw [this]
  intro hg
  have := (v.o (h.first + (room recs + k)) (by omega) (by omega)).1
  rw [hg] at this
  omega
theorem recH (v : Jv h bl recs) : recH bl h.first = recs ∧ genH bl h.first = h.g := by
  have h0 := v.inn (k := 0) (room_pos v.ne)
  have h1 := v.fs; have h2 := v.r
  rw [Nat.add_zero] at h0
  have hm := (allB_mark recs 0 (by omega) _ h0).1
  have e : Go.Proofs.Ytjkncnbpaejamaa.recH bl h.first = recs := by
    unfold Go.Proofs.Ytjkncnbpaejamaa.recH
    rw [hm, ← v.n]
    exact v.told
  refine ⟨e, ?_⟩
  unfold genH
  rw [e, hm, if_neg]
  intro h
  exact v.ne (List.length_eq_zero_iff.1 h)
theorem other (v : Jv h bl recs) : (genH bl (h.size - h.first)).toNat < h.g.toNat := by
  have h1 := v.fs; have h2 := v.r; have h3 := v.n4; have h4 := v.n
  have := (v.o (h.size - h.first) (by omega) (by rcases v.f with e | e <;> omega)).1
  have h5 := v.g0
  unfold genH
  split
  · exact h5
  · exact this
theorem cur (v : Jv h bl recs) : curF bl = (h.first, h.g, recs) := by
  have h5 := v.g0
  have ⟨e1, e2⟩ := v.recH
  have e3 := v.other
  have hn := v.n
  unfold curF
  rcases v.f with e | e
  · rw [e] at e1 e2 e3
    rw [e, ← hn]
    rw [Nat.sub_zero] at e3
    rw [e1, e2, if_pos ⟨by omega, by omega⟩]
  · rw [e] at e1 e2 e3
    rw [Nat.sub_self] at e3
    rw [e, ← hn, e1, e2, if_neg (fun hh => by have := hh.2; omega), if_pos (by omega)]
end Jv
/-- a journal that begins with a generation behind all others -/
theorem Jv.beg {x : Dp} {bl recs : List Bk} {first size : Nat} (n4 : 4 ≤ bl.length) (n5 : bl.length ≤ 65536) (n : size = bl.length / 2) (f : first = 0 ∨ first = size) (r : room recs ≤ size) (ne : recs ≠ []) (hg : gm bl ≠ 4294967295#32) :
    Jv ⟨x, first, size, gm bl + 1#32, recs.length, room recs⟩ (putAt bl first (allB (gm bl + 1#32) 0 recs)) recs := by
  have hs : first + size ≤ bl.length := by rcases f with e | e <;> omega
  have hk : first + (allB (gm bl + 1#32) 0 recs).length ≤ bl.length := by rw [allB_len]; omega
  have hl := putAt_len hk
  have hgl : (gm bl).toNat ≠ 4294967295 := fun e => hg (BitVec.eq_of_toNat_eq e)
  have hg1 : (gm bl + 1#32).toNat = (gm bl).toNat + 1 := by
    rw [BitVec.toNat_add, show (1#32).toNat = 1 from rfl]
    have := (gm bl).isLt
    omega
  refine ⟨by rw [hl]; exact n4, by rw [hl]; exact n5, by rw [hl]; exact n, f, rfl, rfl, r, ne, ?_, fun i hi ho => ?_⟩
  · have := putAt_at hk
    rw [allB_len] at this
    exact this
  · dsimp only at ho ⊢
    rw [hl] at hi
    rw [old_putAt hk hi (by rw [allB_len]; exact ho), hg1]
    exact gm_below _ (old_mem hi)
theorem Jv.app {h : Hf} {bl recs : List Bk} (v : Jv h bl recs) {l : Bk} (hf : nb l.length ≤ h.size - h.used) : Jv (appJ h l) (appD h bl l) (recs ++ [l]) := by
  have h1 := v.fs; have h2 := v.r; have h3 := v.u; have h4 := v.c; have hn := v.n
  have hr : room (recs ++ [l]) = room recs + nb l.length := by rw [room_append]; simp [room]
  have hk : h.first + h.used + (blks h.g h.count l).length ≤ bl.length := by rw [blks_len]; omega
  have hl := putAt_len hk
  refine ⟨by unfold appD; rw [hl]; exact v.n4, by unfold appD; rw [hl]; exact v.n5, by unfold appD; rw [hl]; exact hn, v.f, by show h.count + 1 = _; rw [h4, List.length_append]; rfl, by show h.used + nb l.length = _; rw [hr, h3], by rw [hr]; show _ ≤ h.size; omega, by simp, ?_, fun i hi ho => ?_⟩
  · show ((appD h bl l).drop h.first).take _ = allB h.g 0 _
    have e1 : bl.take (h.first + h.used) = bl.take h.first ++ allB h.g 0 recs := by rw [← v.at', h3, List.take_add]
    have e2 : (bl.take h.first).length = h.first := by rw [List.length_take]; omega
    unfold appD putAt
    rw [e1, List.append_assoc, List.append_assoc, List.drop_left' e2, ← List.append_assoc, allB_append, Nat.zero_add, ← h4, List.take_left' (by rw [List.length_append, allB_len, blks_len, hr])]
    congr 1
    rw [allB, allB, List.append_nil]
  · unfold appD at hi ⊢
    rw [hl] at hi
    rw [hr] at ho
    have ho' : ¬ (h.first ≤ i ∧ i < h.first + (room recs + nb l.length)) := ho
    rw [old_putAt hk hi (by rw [blks_len]; omega)]
    exact v.o i hi (by omega)
end Go.Proofs.Ytjkncnbpaejamaa

/-
  Of no statement by itself: what the reference's Same gives.
  Conditions: each theorem's own.
-/
namespace Go.Proofs.Ytjkncnbpaejamaa
set_option maxRecDepth 10000
open Sl

section
variable {P : Program} {n : Nat} {E : Env} {C : World → Prop} {dst : Option Tmp} {t t' ty : TypeId} {pos : String} {aft : Array Edge} {g : Option (Nat × Bool)} {x y : Operand}
end
theorem goes_same : Goes Try.prog 34 := ⟨_, Try.func34, rfl, by kernel_rfl⟩

set_option maxHeartbeats 8000000 in
theorem same_any (a b : Sl8) (w : World) (ha : a.ok w) (hb : b.ok w) (hal : a.l.length < 4611686018427387904) : Calls Try.prog 34 [a.v, b.v].toArray w fun e w' => e = .returned (.bool (decide (a.l = b.l))) ∧ Ext w w' := by
  refine enter (n := 26) Try.func34 rfl rfl rfl (Holds.start w []) ?_
  repeat (first | refine JL.q (by first | (apply OQ.move; exact rfl) | (apply OQ.assign; exact rfl) | (apply OQ.len; exact rfl; exact rfl) | (apply OQ.neN; exact rfl; exact rfl)) rfl ?_ | refine JC.seq ?_ | refine JC.region ?_ | refine JL.nil ?_ | refine JE.next ?_)
  refine JC.cond rfl (fun h => ?_) (fun h => ?_)
  · have h : ¬ a.l.length = b.l.length := by simpa using h
    repeat (first | refine JL.q (by (apply OQ.assign; exact rfl)) rfl ?_ | refine JC.seq ?_ | refine JC.region ?_ | refine JL.nil ?_ | refine JE.next ?_)
    refine JC.ret ?_
    repeat (refine JE.then_ret ?_)
    refine JE.ret1 rfl (RV.tmp rfl) fun w' hw => ⟨?_, hw.chg⟩
    rw [decide_eq_false (fun e => h (by rw [e]))]
  · have h : a.l.length = b.l.length := by simpa using h
    repeat (first | refine JL.q (by (apply OQ.assign; exact rfl)) rfl ?_ | refine JC.seq ?_ | refine JC.region ?_ | refine JC.block ?_ | refine JC.skip ?_ | refine JL.nil ?_ | refine JE.next ?_)
    refine JC.loop (fun i : Nat => [(0, a.v), (1, b.v), (5, N i)]) (fun _ => []) (fun i => a.l.length - i) (fun i => i ≤ a.l.length ∧ a.l.take i = b.l.take i) 0 ⟨by omega, by simp⟩ (by repeat (first | exact SubE.nil | refine SubE.cons _ _ _ rfl ?_)) (Less.refl _) ?_
    rintro i ⟨hi, hI⟩
    repeat (first | refine JL.q (by first | (apply OQ.move; exact rfl) | (apply OQ.len; exact rfl; exact rfl) | (apply OQ.lssN; exact rfl; exact rfl)) rfl ?_ | refine JC.seq ?_ | refine JC.region ?_ | refine JL.nil ?_ | refine JE.next ?_)
    refine JC.cond rfl (fun h2 => ?_) (fun h2 => ?_)
    · have hi' : i < a.l.length := of_decide_eq_true h2
      clear h2
      obtain ⟨ba, ja, hae, hca⟩ := ha.reads.at (by simp; omega)
      obtain ⟨bb, jb, hbe, hcb⟩ := hb.reads.at (by simp; omega)
      have hca := hca i _ (map_at U8 0 hi')
      have hcb := hcb i _ (map_at U8 0 (show i < b.l.length by omega))
      have hav : a.v = .slice (some ⟨ba, ja, none⟩) a.l.length a.cap := by rw [← hae]; rfl
      have hbv : b.v = .slice (some ⟨bb, jb, none⟩) b.l.length b.cap := by rw [← hbe]; rfl
      rw [hav, hbv]
      repeat (first | refine JC.seq ?_ | refine JC.block ?_ | refine JC.skip ?_ | refine JE.next ?_)
      refine JC.quiet mixT (by kernel_rfl) ?_
      repeat (first | refine JQ.q (by first | (apply OQ.idxS1; exact Try.underlying33; exact u8s; exact rfl; exact rfl; exact hi') | (apply OQ.idxS1; exact Try.underlying33; exact u8s; exact rfl; exact rfl; exact (show i < b.l.length by omega)) | (apply OQ.load_old; exact u8c; exact rfl; exact (block_lt_of_cell hca); exact (by simp); exact hca) | (apply OQ.load_old; exact u8c; exact rfl; exact (block_lt_of_cell hcb); exact (by simp); exact hcb) | (apply OQ.ne8; exact rfl; exact rfl) | (apply OQ.move; exact rfl)) rfl ?_ | refine JQ.nil ?_ | refine JE.next ?_)
      refine JC.cond rfl (fun h3 => ?_) (fun h3 => ?_)
      · have h3 : ¬ a.l.getD i 0 = b.l.getD i 0 := by simpa using h3
        repeat (first | refine JL.q (by (apply OQ.assign; exact rfl)) rfl ?_ | refine JC.seq ?_ | refine JC.region ?_ | refine JL.nil ?_ | refine JE.next ?_)
        refine JC.ret ?_
        repeat (first | refine JE.then_ret ?_ | refine JE.blk_ret ?_)
        refine JE.ret1 rfl (RV.tmp rfl) fun w' hw => ⟨?_, hw.chg⟩
        rw [decide_eq_false (fun e => h3 (by rw [e]))]
      · have h3 : a.l.getD i 0 = b.l.getD i 0 := by simpa using h3
        rw [← hav, ← hbv]
        repeat (first | refine JL.q (by first | (apply OQ.move; exact rfl) | (apply OQ.assign; exact rfl) | (apply OQ.addN; exact rfl; exact rfl; exact (by (try simp only []); omega))) rfl ?_ | refine JC.region ?_ | refine JC.skip ?_ | refine JL.nil ?_ | refine JE.next ?_ | refine JE.blk_normal ?_)
        refine JE.again (i := i) (i + 1) ⟨by omega, ?_⟩ (by omega) (by repeat (first | exact SubE.nil | refine SubE.cons _ _ _ rfl ?_)) (Less.refl _)
        have e1 : a.l[i]'hi' = b.l[i]'(by omega) := by
          simpa [List.getD, hi', show i < b.l.length by omega] using h3
        rw [List.take_succ_eq_append_getElem hi', List.take_succ_eq_append_getElem (show i < b.l.length by omega), hI, e1]
    · have hi' : ¬ i < a.l.length := of_decide_eq_false h2
      obtain rfl : i = a.l.length := by omega
      rw [List.take_length, h, List.take_length] at hI
      repeat (first | refine JL.q (by (apply OQ.assign; exact rfl)) rfl ?_ | refine JC.seq ?_ | refine JC.region ?_ | refine JC.exit ?_ | refine JL.nil ?_ | refine JE.next ?_ | refine JE.then_exit ?_ | refine JE.blk_hit ?_)
      refine JC.ret ?_
      skip
      refine JE.ret1 rfl (RV.tmp rfl) fun w' hw => ⟨?_, hw.chg⟩
      rw [decide_eq_true hI]

end Go.Proofs.Ytjkncnbpaejamaa

/-
  Of no statement by itself: rules for calls of a journal; the law's speaks, SameList.
  Conditions: each theorem's own.
-/
namespace Go.Proofs.Ytjkncnbpaejamaa
set_option maxRecDepth 10000
open Sl Dsk Jrn
section
variable {n : Nat} {w0 : World} {S : List Nat} {ops : Array Oper} {Q : Exit → Act → World → Prop} {l : List Oper} {E : Env} {M : List Ent}
variable {d : Nat} {ty : TypeId} {pos : String} {aft : Array Edge} {x1 x2 x3 : Operand} {ats : Array TypeId} {x : Dp} {bl recs : List Bk} {pd : List (Nat × Bk)} {j : Nat} {h : Hf} {s : Sl8}
theorem JL.jopen (hd : DkOk x bl pd) (hp : pd.length ≤ 900000) (hno : noOpen bl = 0) (e1 : ev E x1 = some (Pt x.p 0)) (hn : Nat.blt d n = true)
    (kk : ∀ j, JL Try.prog n w0 S ops Q l ((d, .tuple #[Pt j 0, N 0]) :: E) (jnE j (opnJ x bl) (opnD bl) [] ++ M)) : JL Try.prog n w0 S ops Q (⟨some d, .call ⟨.value (.func 26), #[x1], ats⟩, ty, pos, aft, none⟩ :: l) E (dkE x bl pd ++ M) :=
  JL.callV (ι := Nat) (xs := [x1]) (vs := [Pt x.p 0]) (fun j => .tuple #[Pt j 0, N 0]) (fun j => jnE j (opnJ x bl) (opnD bl) []) goes_jOpen (by simp [evs, e1]) hn (dkE_wr _ _ _) (fun _ => jnE_wr _ _ _ _)
    (fun w _ hw => Open_yes x bl pd hd hp hno w hw) kk
theorem JL.japp (v : Jv h bl recs) (hd : DkOk h.x bl pd) (hp : pd.length ≤ 900000) (hyes : nb s.l.length ≤ h.size - h.used) (hs : ∀ w, Holds w0 S (jnE j h bl pd ++ M) w → s.ok w ∧ Away s (keys (jnE j h bl pd))) (e1 : ev E x1 = some (Pt j 0)) (e2 : ev E x2 = some s.v) (hn : Nat.blt d n = true)
    (kk : JL Try.prog n w0 S ops Q l ((d, N 0) :: E) (jnE j (appJ h s.l) (appD h bl s.l) [] ++ M)) : JL Try.prog n w0 S ops Q (⟨some d, .call ⟨.value (.func 31), #[x1, x2], ats⟩, ty, pos, aft, none⟩ :: l) E (jnE j h bl pd ++ M) :=
  have h1 := v.fs; have h2 := v.u; have h3 := v.r; have h4 := v.c; have h5 := room_ge recs
  JL.callV (ι := Unit) (xs := [x1, x2]) (vs := [Pt j 0, s.v]) (fun _ => N 0) (fun _ => jnE j (appJ h s.l) (appD h bl s.l) []) goes_app (by simp [evs, e1, e2]) hn (jnE_wr _ _ _ _) (fun _ => jnE_wr _ _ _ _)
    (fun w h0 hw => (app_yes j h bl pd s hd h1.1 (by omega) hp (by omega) hyes w (hs w h0).1 (hs w h0).2 hw).mono fun e w' ⟨g1, g2⟩ => ⟨(), g1, g2⟩) fun _ => kk
theorem JL.jrst (v : Jv h bl recs) (hd : DkOk h.x bl pd) (hp : pd.length ≤ 900000) (hyes : ¬ noRst h bl s.l.length) (hs : ∀ w, Holds w0 S (jnE j h bl pd ++ M) w → s.ok w ∧ Away s (keys (jnE j h bl pd))) (e1 : ev E x1 = some (Pt j 0)) (e2 : ev E x2 = some s.v) (hn : Nat.blt d n = true)
    (kk : JL Try.prog n w0 S ops Q l ((d, N 0) :: E) (jnE j (rstJ h bl s.l) (rstD h bl s.l) [] ++ M)) : JL Try.prog n w0 S ops Q (⟨some d, .call ⟨.value (.func 52), #[x1, x2], ats⟩, ty, pos, aft, none⟩ :: l) E (jnE j h bl pd ++ M) :=
  have h1 := v.fs
  JL.callV (ι := Unit) (xs := [x1, x2]) (vs := [Pt j 0, s.v]) (fun _ => N 0) (fun _ => jnE j (rstJ h bl s.l) (rstD h bl s.l) []) goes_rst (by simp [evs, e1, e2]) hn (jnE_wr _ _ _ _) (fun _ => jnE_wr _ _ _ _)
    (fun w h0 hw => (rst_yes j h bl pd s hd h1.2.2.1 h1.2.1 hp hyes w (hs w h0).1 (hs w h0).2 hw).mono fun e w' ⟨g1, g2⟩ => ⟨(), g1, g2⟩) fun _ => kk
theorem JL.jrecs (v : Jv h bl recs) (hd : DkOk h.x bl pd) (e1 : ev E x1 = some (Pt j 0)) (hn : Nat.blt d n = true)
    (kk : ∀ z : GrOf recs h.size, JL Try.prog n w0 S ops Q l ((d, z.1.v) :: E) (z.1.E ++ (jnE j h bl pd ++ M))) : JL Try.prog n w0 S ops Q (⟨some d, .call ⟨.value (.func 43), #[x1], ats⟩, ty, pos, aft, none⟩ :: l) E (jnE j h bl pd ++ M) :=
  JL.callg (xs := [x1]) (ι := GrOf recs h.size) (vs := [Pt j 0]) (fun z => z.1.v) (fun z => z.1.E) goes_recs (by simp [evs, e1]) hn (fun z => z.1.wr)
    (fun w hw => by have := recs_any j h bl pd hd.ok hd.n1 v.fs.1 w (jnR_of hw); rwa [v.told] at this) kk
end
/-- what a journal is that is opened -/
theorem Jv.opn {x : Dp} {bl : List Bk} (hb : ∀ b ∈ bl, b.length = 64) (n5 : bl.length ≤ 65536) (hno : noOpen bl = 0) : Jv (opnJ x bl) (opnD bl) (curF bl).2.2 := by
  have h4 : ¬ bl.length < 4 := fun h => by unfold noOpen at hno; rw [if_pos h] at hno; cases hno
  have hg : ¬ gm bl = 4294967295#32 := fun h => by unfold noOpen at hno; rw [if_neg h4, if_pos h] at hno; cases hno
  have ⟨h1, h2, h3⟩ := curF_room (bl := bl) hb (by omega)
  have hf : bl.length / 2 - (curF bl).1 = 0 ∨ bl.length / 2 - (curF bl).1 = bl.length / 2 := by
    unfold curF
    split
    · right; rfl
    · split
      · left; exact Nat.sub_self _
      · left; exact Nat.sub_self _
  exact Jv.beg (x := sync0 x) (by omega) n5 rfl hf h1 (fun e => by rw [e] at h2; cases h2) hg
theorem Jv.no (h : Hf) (bl recs : List Bk) (v : Jv h bl recs) (hg : h.g.toNat < 4294967295) : noOpen bl = 0 := by
  have := v.gm_le
  have h4 := v.n4
  unfold noOpen
  rw [if_neg (by omega), if_neg (fun e => by rw [e] at this; rw [show (4294967295#32).toNat = 4294967295 from rfl] at this; omega)]
theorem gm_succ {bl : List Bk} {m : Nat} (h : (gm bl).toNat ≤ m) (hm : m < 4294967295) : (gm bl + 1#32).toNat ≤ m + 1 := by
  rw [BitVec.toNat_add, show (1#32).toNat = 1 from rfl]
  omega
theorem told_none {g : BitVec 32} {bs : List Bk} (h : ∀ b ∈ bs, wholeB b = false) : told g bs = [] := by
  unfold told toldN
  have : rd g 0 bs 0 [] = none := by
    cases bs with
    | nil => rfl
    | cons b bs => rw [rd, if_neg (fun hh => by rw [h b (by simp)] at hh; cases hh.1)]
  rw [this]
theorem zero_whole : wholeB zero = false := by kernel_rfl
theorem zero_below : Below 1 zero := ⟨by decide, by decide⟩
theorem newB_mem {n : Nat} : ∀ b ∈ newB n, b = zero := fun b hb => List.eq_of_mem_replicate hb
theorem newB_cur (n : Nat) : (curF (newB n)).2.2 = [[]] ∧ (gm (newB n)).toNat = 0 := by
  have h0 : ∀ f, genH (newB n) f = 0 := fun f => by
    unfold genH
    rw [if_pos]
    unfold recH toldH
    rw [told_none]
    · rfl
    · intro b hb
      unfold bsOf at hb
      rw [newB_mem b (List.mem_of_mem_drop (List.mem_of_mem_take (List.mem_of_mem_drop hb)))]
      exact zero_whole
  refine ⟨?_, ?_⟩
  · unfold curF
    rw [h0, h0, if_neg (by decide), if_neg (by decide)]
  · have := gm_lt (m := 1) (bl := newB n) (by decide) fun b hb => by rw [newB_mem b hb]; exact zero_below
    omega
theorem newB_no {n : Nat} (h : 4 ≤ n) : noOpen (newB n) = 0 := by
  have := (newB_cur n).2
  unfold noOpen
  rw [if_neg (by rw [newB_len]; omega), if_neg (fun e => by rw [e] at this; cases this)]
theorem DkOk.opn {x : Dp} {bl : List Bk} {pd : List (Nat × Bk)} (hd : DkOk x bl pd) (hno : noOpen bl = 0) : DkOk (opnJ x bl).x (opnD bl) [] := by
  have h4 : ¬ bl.length < 4 := fun h => by unfold noOpen at hno; rw [if_pos h] at hno; cases hno
  have ⟨h1, h2, h3⟩ := curF_room (bl := bl) hd.ok.b (by omega)
  have := hd.n1
  exact hd.put (by rw [allB_len]; omega) fun b hb => (allB_mark _ _ (by omega) b hb).2.2
theorem DkOk.app {h : Hf} {bl recs : List Bk} {pd : List (Nat × Bk)} (hd : DkOk h.x bl pd) (v : Jv h bl recs) {l : Bk} (hf : nb l.length ≤ h.size - h.used) : DkOk (appJ h l).x (appD h bl l) [] := by
  have h1 := v.fs; have h2 := v.r; have h3 := v.u
  exact hd.put (by rw [blks_len]; omega) fun b hb => (blks_mark (by omega) b hb).2.2
theorem DkOk.rst {h : Hf} {bl recs : List Bk} {pd : List (Nat × Bk)} (hd : DkOk h.x bl pd) (v : Jv h bl recs) {l : Bk} (hf : ¬ noRst h bl l.length) : DkOk (rstJ h bl l).x (rstD h bl l) [] := by
  have h1 := v.fs
  have hfit : nb l.length ≤ h.size := Nat.le_of_not_lt fun e => hf (.inl e)
  have hr : room [l] = nb l.length := by simp [room]
  exact hd.put (by rw [allB_len, hr]; omega) fun b hb => (allB_mark _ _ (by omega) b hb).2.2
theorem Jv.rst {h : Hf} {bl recs : List Bk} (v : Jv h bl recs) {l : Bk} (hf : ¬ noRst h bl l.length) : Jv (rstJ h bl l) (rstD h bl l) [l] := by
  have h1 := v.fs
  have hfit : nb l.length ≤ h.size := Nat.le_of_not_lt fun e => hf (.inl e)
  have hr : room [l] = nb l.length := by simp [room]
  exact Jv.beg (x := sync0 h.x) v.n4 v.n5 v.n (by show h.size - h.first = 0 ∨ h.size - h.first = h.size; rcases v.f with e | e <;> omega) (by rw [hr]; exact hfit) (by simp) (fun e => hf (.inr e))
end Go.Proofs.Ytjkncnbpaejamaa

/-
  Of no statement by itself: the reference's Blocks (how many), Room.
  Conditions: each theorem's own.
-/
namespace Go.Proofs.Ytjkncnbpaejamaa
set_option maxRecDepth 10000
open Sl Dsk Jrn
section
variable {P : Program} {n : Nat} {E : Env} {C : World → Prop} {dst : Option Tmp} {t t' ty : TypeId} {pos : String} {aft : Array Edge} {g : Option (Nat × Bool)} {x y : Operand}
end
end Go.Proofs.Ytjkncnbpaejamaa

/-
  Of no statement by itself: the reference's number, Gen, Record, Place, Whole: they tell what the landed journal's marks tell.
  Conditions: each theorem's own.
-/
namespace Go.Proofs.Ytjkncnbpaejamaa
set_option maxRecDepth 10000
open Sl Dsk Jrn
/-! ### marks and bytes are one -/
theorem be_num4 {l : Bk} (h : l.length = 4) : be (num32 l) 4 = l := by
  have hn := num_toNat (l := l) (by omega)
  match l, h with
  | [a, b, c, d], _ =>
    have e : be (num32 [a, b, c, d]) 4 = [((num32 [a, b, c, d]) >>> 24).setWidth 8, ((num32 [a, b, c, d]) >>> 16).setWidth 8, ((num32 [a, b, c, d]) >>> 8).setWidth 8, ((num32 [a, b, c, d]) >>> 0).setWidth 8] := rfl
    rw [e]
    simp only [numB, List.foldl_cons, List.foldl_nil] at hn
    generalize num32 [a, b, c, d] = m at hn ⊢
    have ha := a.isLt; have hb := b.isLt; have hc := c.isLt; have hd := d.isLt
    have k1 : (m >>> 24).setWidth 8 = a := BitVec.eq_of_toNat_eq (by simp only [BitVec.toNat_setWidth, BitVec.toNat_ushiftRight, Nat.shiftRight_eq_div_pow]; omega)
    have k2 : (m >>> 16).setWidth 8 = b := BitVec.eq_of_toNat_eq (by simp only [BitVec.toNat_setWidth, BitVec.toNat_ushiftRight, Nat.shiftRight_eq_div_pow]; omega)
    have k3 : (m >>> 8).setWidth 8 = c := BitVec.eq_of_toNat_eq (by simp only [BitVec.toNat_setWidth, BitVec.toNat_ushiftRight, Nat.shiftRight_eq_div_pow]; omega)
    have k4 : (m >>> 0).setWidth 8 = d := BitVec.eq_of_toNat_eq (by simp only [BitVec.toNat_setWidth, BitVec.toNat_ushiftRight, Nat.shiftRight_eq_div_pow]; omega)
    rw [k1, k2, k3, k4]
theorem be_num2 {l : Bk} (h : l.length = 2) : be (num32 l) 2 = l := by
  have hn := num_toNat (l := l) (by omega)
  match l, h with
  | [a, b], _ =>
    have e : be (num32 [a, b]) 2 = [((num32 [a, b]) >>> 8).setWidth 8, ((num32 [a, b]) >>> 0).setWidth 8] := rfl
    rw [e]
    simp only [numB, List.foldl_cons, List.foldl_nil] at hn
    generalize num32 [a, b] = m at hn ⊢
    have ha := a.isLt; have hb := b.isLt
    have k1 : (m >>> 8).setWidth 8 = a := BitVec.eq_of_toNat_eq (by simp only [BitVec.toNat_setWidth, BitVec.toNat_ushiftRight, Nat.shiftRight_eq_div_pow]; omega)
    have k2 : (m >>> 0).setWidth 8 = b := BitVec.eq_of_toNat_eq (by simp only [BitVec.toNat_setWidth, BitVec.toNat_ushiftRight, Nat.shiftRight_eq_div_pow]; omega)
    rw [k1, k2]
/-- what the two bytes of a place tell -/
def plN (b : Bk) : Nat := numB ((b.drop 8).take 2)
theorem plN_lt (b : Bk) : plN b < 65536 := by
  have := numB_lt (l := (b.drop 8).take 2) (by rw [List.length_take]; omega)
  have h2 : 256 ^ ((b.drop 8).take 2).length ≤ 256 ^ 2 := Nat.pow_le_pow_right (by decide) (by rw [List.length_take]; omega)
  unfold plN
  omega
theorem place_toNat (b : Bk) : (placeIn b).toNat = plN b := by
  have h := plN_lt b
  unfold placeIn
  rw [BitVec.toNat_setWidth, num_toNat (by rw [List.length_take]; omega)]
  unfold plN at h ⊢
  omega
theorem mark_place (b : Bk) : (markIn b).2.2.1.toNat = plN b % 32768 := by
  show (placeIn b % 32768#16).toNat = _
  rw [BitVec.toNat_umod, place_toNat]
  rfl
theorem mark_last (b : Bk) : (markIn b).2.2.2 = decide (32768 ≤ plN b) := by
  show decide (32768 ≤ (placeIn b).toNat) = _
  rw [place_toNat]
theorem mb_mark {l : Bk} (h : 10 ≤ l.length) : mb (markIn l) = l.take 10 := by
  have e3 : plc (markIn l) = num32 ((l.drop 8).take 2) := by
    apply BitVec.eq_of_toNat_eq
    have h1 := mark_place l
    have h2 := mark_last l
    have h3 := plN_lt l
    have h4 : (num32 ((l.drop 8).take 2)).toNat = plN l := num_toNat (by rw [List.length_take]; omega)
    unfold plc
    rw [h2, h4]
    by_cases hh : 32768 ≤ plN l
    · rw [if_pos (decide_eq_true hh), BitVec.toNat_add, BitVec.toNat_setWidth, h1, show (32768#32).toNat = 32768 from rfl]
      omega
    · rw [if_neg (by simpa using hh), BitVec.toNat_setWidth, h1]
      omega
  unfold mb
  rw [e3, be_num2 (by rw [List.length_take, List.length_drop]; omega)]
  show be (num32 (l.take 4)) 4 ++ be (num32 ((l.drop 4).take 4)) 4 ++ (l.drop 8).take 2 = _
  rw [be_num4 (by rw [List.length_take]; omega), be_num4 (by rw [List.length_take, List.length_drop]; omega)]
  rw [show 10 = 4 + (4 + 2) from rfl, List.take_add, List.take_add, List.drop_drop, List.append_assoc]
theorem mark_inj {l l' : Bk} (h : 10 ≤ l.length) (h' : 10 ≤ l'.length) : markIn l = markIn l' ↔ l.take 10 = l'.take 10 := by
  constructor
  · intro e
    rw [← mb_mark h, ← mb_mark h', e]
  · intro e
    have k : ∀ x : Bk, 10 ≤ x.length → markIn x = markIn (x.take 10) := fun x hx => by
      have a1 : (x.take 10).take 4 = x.take 4 := by rw [List.take_take]; rfl
      have a2 : ((x.take 10).drop 4).take 4 = (x.drop 4).take 4 := by rw [List.drop_take, List.take_take]; rfl
      have a3 : ((x.take 10).drop 8).take 2 = (x.drop 8).take 2 := by rw [List.drop_take, List.take_take]; rfl
      unfold markIn placeIn
      rw [a1, a2, a3]
    rw [k l h, k l' h', e]
/-! ### walks -/
end Go.Proofs.Ytjkncnbpaejamaa

/-
  Of no statement by itself: a disk on which some of a journal's writes were torn: what it tells.
  Conditions: each theorem's own.
-/
namespace Go.Proofs.Ytjkncnbpaejamaa
open Sl Dsk Jrn
/-- what is ahead is new, what is behind is old -/
def torn (x y : Bk) (n : Nat) : Bk := x.take n ++ y.drop n
theorem torn_len {x y : Bk} {n m : Nat} (hx : x.length = m) (hy : y.length = m) : (torn x y n).length = m := by
  simp only [torn, List.length_append, List.length_take, List.length_drop]
  omega
theorem torn_self (x : Bk) (n : Nat) : torn x x n = x := List.take_append_drop n x
theorem torn_drop {x y : Bk} {n k : Nat} (hx : x.length = 64) (hy : y.length = 64) (h : n ≤ k) : (torn x y n).drop k = y.drop k := by
  by_cases hn : n ≤ 64
  · rw [torn, List.drop_append, List.drop_of_length_le (by rw [List.length_take]; omega), List.nil_append, List.length_take, Nat.min_eq_left (by omega), List.drop_drop]
    congr 1
    omega
  · have h1 : y.drop n = [] := List.drop_of_length_le (by omega)
    rw [torn, h1, List.take_of_length_le (by omega), List.append_nil, List.drop_of_length_le (by omega), List.drop_of_length_le (by omega)]
theorem torn_take {x y : Bk} {n k : Nat} (hx : x.length = 64) (h : k ≤ n) (hk : k ≤ 64) : (torn x y n).take k = x.take k := by
  rw [torn, List.take_append_of_le_length (by rw [List.length_take]; omega), List.take_take, Nat.min_eq_left h]
theorem whole_mark {b : Bk} (h : wholeB b = true) : markIn b = markIn (b.drop 54) := by
  unfold wholeB at h
  rw [Bool.and_eq_true] at h
  exact of_decide_eq_true h.1
theorem torn_whole {x y : Bk} {n : Nat} (hx : x.length = 64) (hy : y.length = 64) (hm : markIn x = markIn (x.drop 54)) (hw : wholeB (torn x y n) = true) : torn x y n = x ∨ (markIn (torn x y n)).1 = (markIn (y.drop 54)).1 := by
  have hc := whole_mark hw
  have hl := torn_len (n := n) hx hy
  by_cases h : n ≤ 54
  · right
    rw [hc, torn_drop hx hy h]
  · left
    have h1 : (torn x y n).take 54 = x.take 54 := torn_take hx (by omega) (by decide)
    have h2 : (torn x y n).take 10 = x.take 10 := torn_take hx (by omega) (by decide)
    have h3 : markIn (torn x y n) = markIn x := (mark_inj (by omega) (by omega)).2 h2
    rw [h3, hm] at hc
    have h4 := (mark_inj (by rw [List.length_drop]; omega) (by rw [List.length_drop]; omega)).1 hc
    rw [List.take_of_length_le (by rw [List.length_drop]; omega), List.take_of_length_le (by rw [List.length_drop]; omega)] at h4
    rw [← List.take_append_drop 54 (torn x y n), h1, ← h4, List.take_append_drop]
theorem num_top {l : Bk} (hl : l.length = 4) (h : (num32 l).toNat < 256) : l.take 3 = [0, 0, 0] := by
  rw [num_toNat (by omega)] at h
  match l, hl with
  | [p, q, r, s], _ =>
    simp only [numB, List.foldl_cons, List.foldl_nil] at h
    have hp : p.toNat = 0 := by omega
    have hq : q.toNat = 0 := by omega
    have hr : r.toNat = 0 := by omega
    have e : ∀ z : BitVec 8, z.toNat = 0 → z = 0 := fun z hz => BitVec.eq_of_toNat_eq hz
    rw [e p hp, e q hq, e r hr]
    rfl
theorem gen_torn {x y : Bk} {n : Nat} (hx : 4 ≤ x.length) (hy : 4 ≤ y.length) (gx : (num32 (x.take 4)).toNat < 256) (gy : (num32 (y.take 4)).toNat < 256) : (torn x y n).take 4 = x.take 4 ∨ (torn x y n).take 4 = y.take 4 := by
  by_cases h : n ≤ 3
  · right
    have e1 := num_top (l := x.take 4) (by rw [List.length_take]; omega) gx
    have e2 := num_top (l := y.take 4) (by rw [List.length_take]; omega) gy
    rw [List.take_take] at e1 e2
    have e : x.take n = y.take n := by
      have h1 : (x.take (min 3 4)).take n = (y.take (min 3 4)).take n := by rw [e1, e2]
      rwa [List.take_take, List.take_take, show min n (min 3 4) = n by omega] at h1
    rw [torn, e, List.take_append_drop]
  · left
    rw [torn, List.take_append_of_le_length (by rw [List.length_take]; omega), List.take_take, Nat.min_eq_left (by omega)]
theorem torn_below {x y : Bk} {n m : Nat} (hx : x.length = 64) (hy : y.length = 64) (hm : m ≤ 256) (bx : Below m x) (by' : Below m y) : Below m (torn x y n) := by
  have g : ∀ b : Bk, (markIn b).1 = num32 (b.take 4) := fun _ => rfl
  unfold Below at bx by' ⊢
  simp only [g] at bx by' ⊢
  constructor
  · rcases gen_torn (n := n) (by omega) (by omega) (Nat.lt_of_lt_of_le bx.1 hm) (Nat.lt_of_lt_of_le by'.1 hm) with e | e
    · rw [e]; exact bx.1
    · rw [e]; exact by'.1
  · by_cases h : n ≤ 54
    · rw [torn_drop hx hy h]; exact by'.2
    · have e : (torn x y n).drop 54 = torn (x.drop 54) (y.drop 54) (n - 54) := by
        by_cases hn : n ≤ 64
        · rw [torn, torn, List.drop_append_of_le_length (by rw [List.length_take]; omega), List.drop_take, List.drop_drop]
          congr 2
          omega
        · have h1 : y.drop n = [] := List.drop_of_length_le (by omega)
          have h2 : (y.drop 54).drop (n - 54) = [] := List.drop_of_length_le (by rw [List.length_drop]; omega)
          rw [torn, torn, h1, h2, List.take_of_length_le (by omega), List.take_of_length_le (by rw [List.length_drop]; omega), List.append_nil, List.append_nil]
      rw [e]
      rcases gen_torn (n := n - 54) (x := x.drop 54) (y := y.drop 54) (by rw [List.length_drop]; omega) (by rw [List.length_drop]; omega) (Nat.lt_of_lt_of_le bx.2 hm) (Nat.lt_of_lt_of_le by'.2 hm) with e | e
      · rw [e]; exact bx.2
      · rw [e]; exact by'.2
/-- each block is torn somewhere -/
structure Mix (a b c : List Bk) : Prop where
  len : c.length = a.length
  at' : ∀ j, j < a.length → ∃ n, old c j = torn (old b j) (old a j) n
theorem old_ext {a c : List Bk} (h : c.length = a.length) (k : ∀ j, j < a.length → old c j = old a j) : c = a := by
  apply List.ext_getElem h
  intro j h1 h2
  rw [← old_get h1, ← old_get h2]
  exact k j h2
theorem slice_ext {a c : List Bk} {f k : Nat} (h1 : f + k ≤ a.length) (h2 : f + k ≤ c.length) (h : ∀ i, i < k → old c (f + i) = old a (f + i)) : (c.drop f).take k = (a.drop f).take k := by
  apply List.ext_getElem
  · rw [List.length_take, List.length_take, List.length_drop, List.length_drop]; omega
  · intro i h3 h4
    have hi : i < k := by rw [List.length_take] at h3; omega
    have := h i hi
    rw [old_get (by omega), old_get (by omega)] at this
    simpa using this
theorem least {n : Nat} {P : Nat → Prop} (h : ¬ ∀ i, i < n → P i) : ∃ k, k < n ∧ ¬ P k ∧ ∀ i, i < k → P i := by
  induction n with
  | zero => exact absurd (fun i hi => absurd hi (Nat.not_lt_zero i)) h
  | succ n ih =>
    by_cases h1 : ∀ i, i < n → P i
    · refine ⟨n, Nat.lt_succ_self n, fun hp => h fun i hi => ?_, h1⟩
      rcases Nat.lt_succ_iff_lt_or_eq.1 hi with hi | rfl
      · exact h1 i hi
      · exact hp
    · obtain ⟨k, hk, h2, h3⟩ := ih h1
      exact ⟨k, by omega, h2, h3⟩
theorem blk_mark2 {g : BitVec 32} {r : Nat} {l : Bk} {i : Nat} (hn : nb l.length ≤ 32768) (hi : i < nb l.length) : markIn (blk g r l i) = mk1 g r (nb l.length) i ∧ markIn ((blk g r l i).drop 54) = mk1 g r (nb l.length) i ∧ (blk g r l i).length = 64 := by
  have hok : okM (mk1 g r (nb l.length) i) := by
    show (BitVec.ofNat 16 i).toNat < 32768
    rw [BitVec.toNat_ofNat]
    omega
  have hc : (chunk l i).length ≤ 42 := by rw [Jrn.chunk_len]; omega
  exact ⟨block_mark hok _, block_back hok hc, block_len hc⟩
/-- a record that breaks off isn't told -/
theorem rd_stop {g : BitVec 32} {r : Nat} {l : Bk} (hn : nb l.length ≤ 32768) : ∀ (bs : List Bk) (p k : Nat) (acc c : Bk), p + k < nb l.length → (∀ i, i < k → bs[i]? = some (blk g r l (p + i))) → bs[k]? = some c → ¬ (wholeB c = true ∧ (markIn c).1 = g) → rd g r bs p acc = none
  | [], _, _, _, _, _, _, h, _ => by simp at h
  | b :: bs, p, 0, acc, c, _, _, h, hc => by
    obtain rfl : b = c := by simpa using h
    unfold rd
    rw [if_neg fun hh => hc ⟨hh.1, by rw [hh.2]⟩]
  | b :: bs, p, k + 1, acc, c, hp, h1, h, hc => by
    have hb : b = blk g r l p := by simpa using h1 0 (Nat.succ_pos k)
    have hm := (blk_mark2 (g := g) (r := r) hn (i := p) (by omega)).1
    have hl : (markIn b).2.2.2 = false := by rw [hb, hm]; exact decide_eq_false (by omega)
    unfold rd
    split
    · rw [hl, if_neg (by decide)]
      exact rd_stop hn bs (p + 1) k _ c (by omega) (fun i hi => by have := h1 (i + 1) (by omega); rw [show p + 1 + i = p + (i + 1) by omega]; simpa using this) (by simpa using h) hc
    · rfl
theorem toldN_stop {g : BitVec 32} : ∀ (recs : List Bk) (f n : Nat) (rest : List Bk), recs.length < f → rd g (n + recs.length) rest 0 [] = none → room recs ≤ 32768 → toldN g f (allB g n recs ++ rest) n = recs
  | [], f + 1, n, rest, _, h, _ => by
    show (match rd g n ([] ++ rest) 0 [] with | some (rec, k) => _ | none => _) = _
    rw [List.nil_append, show rd g n rest 0 [] = none from h]
  | rec :: recs, f + 1, n, rest, hf, h, hr => by
    have hr' : nb rec.length + room recs ≤ 32768 := by simpa [room] using hr
    show (match rd g n (blks g n rec ++ allB g (n + 1) recs ++ rest) 0 [] with | some (rec, k) => _ | none => _) = _
    rw [List.append_assoc, rd_blks (by omega)]
    show rec :: toldN g f ((blks g n rec ++ allB g (n + 1) recs ++ rest).drop (nb rec.length)) (n + 1) = _
    rw [List.append_assoc, List.drop_left' (blks_len _ _ _), toldN_stop recs f (n + 1) rest (by simpa using hf) (by rw [show n + 1 + recs.length = n + (rec :: recs).length by rw [List.length_cons]; omega]; exact h) (by omega)]
theorem cur_of {c recs : List Bk} {first size : Nat} {g : BitVec 32} (hn : size = c.length / 2) (f : first = 0 ∨ first = size) (h5 : 0 < g.toNat) (e1 : recH c first = recs) (e2 : genH c first = g) (e3 : (genH c (size - first)).toNat < g.toNat) : (curF c).2.2 = recs := by
  unfold curF
  rcases f with e | e
  · rw [e] at e1 e2 e3
    rw [← hn]
    rw [Nat.sub_zero] at e3
    rw [e1, e2, if_pos ⟨by omega, by omega⟩]
  · rw [e] at e1 e2 e3
    rw [Nat.sub_self] at e3
    rw [← hn, e1, e2, if_neg (fun hh => by have := hh.2; omega), if_pos (by omega)]
/-- what is torn of blocks that were put somewhere -/
theorem mix_put {a c : List Bk} {pos r : Nat} {G : BitVec 32} {l : Bk} (ha : ∀ x ∈ a, x.length = 64) (hk : pos + nb l.length ≤ a.length) (hn : nb l.length ≤ 32768) (m : Mix a (putAt a pos (blks G r l)) c) (hbel : ∀ i, i < nb l.length → (markIn ((old a (pos + i)).drop 54)).1.toNat < G.toNat) :
    (∀ j, j < a.length → ¬ (pos ≤ j ∧ j < pos + nb l.length) → old c j = old a j) ∧
    (c = putAt a pos (blks G r l) ∨ ∃ k, k < nb l.length ∧ (∀ i, i < k → old c (pos + i) = blk G r l i) ∧ ¬ (wholeB (old c (pos + k)) = true ∧ (markIn (old c (pos + k))).1 = G) ∧ (wholeB (old c (pos + k)) = true → (markIn (old c (pos + k))).1 = (markIn ((old a (pos + k)).drop 54)).1)) := by
  have hk2 : pos + (blks G r l).length ≤ a.length := by rw [blks_len]; exact hk
  have hout : ∀ j, j < a.length → ¬ (pos ≤ j ∧ j < pos + nb l.length) → old (putAt a pos (blks G r l)) j = old a j := fun j hj ho => old_putAt hk2 hj (by rw [blks_len]; exact ho)
  have hin : ∀ i, i < nb l.length → old (putAt a pos (blks G r l)) (pos + i) = blk G r l i := fun i hi => by
    have h1 := putAt_at hk2
    rw [blks_len] at h1
    have hl2 := putAt_len hk2
    rw [old_get (by omega)]
    have h2 : (((putAt a pos (blks G r l)).drop pos).take (nb l.length))[i]? = (blks G r l)[i]? := by rw [h1]
    have h3 : (blks G r l)[i]? = some (blk G r l i) := by unfold blks; rw [List.getElem?_map, List.getElem?_range hi]; rfl
    rw [h3, List.getElem?_take, if_pos hi, List.getElem?_drop, List.getElem?_eq_getElem (by omega)] at h2
    exact Option.some.inj h2
  refine ⟨fun j hj ho => ?_, ?_⟩
  · obtain ⟨n, e⟩ := m.at' j hj
    rw [e, hout j hj ho, torn_self]
  · by_cases hall : ∀ i, i < nb l.length → old c (pos + i) = blk G r l i
    · left
      refine old_ext (by rw [m.len, putAt_len hk2]) fun j hj => ?_
      rw [putAt_len hk2] at hj
      by_cases ho : pos ≤ j ∧ j < pos + nb l.length
      · have h1 := hall (j - pos) (by omega)
        have h2 := hin (j - pos) (by omega)
        rw [show pos + (j - pos) = j by omega] at h1 h2
        rw [h1, h2]
      · obtain ⟨n, e⟩ := m.at' j hj
        rw [e, hout j hj ho, torn_self]
    · right
      obtain ⟨k, hk1, h2, h3⟩ := least hall
      obtain ⟨n, e⟩ := m.at' (pos + k) (by omega)
      rw [hin k hk1] at e
      have bm := blk_mark2 (g := G) (r := r) hn hk1
      have hy : (old a (pos + k)).length = 64 := ha _ (old_mem (by omega))
      have key : wholeB (old c (pos + k)) = true → (markIn (old c (pos + k))).1 = (markIn ((old a (pos + k)).drop 54)).1 := fun hw => by
        rw [e] at hw ⊢
        rcases torn_whole bm.2.2 hy (by rw [bm.1, bm.2.1]) hw with h4 | h4
        · exact absurd (e.trans h4) h2
        · exact h4
      refine ⟨k, hk1, h3, fun hh => ?_, key⟩
      have h5 := hbel k hk1
      rw [← key hh.1, hh.2] at h5
      omega
theorem mix_no {h h' : Hf} {a b c recs recs' : List Bk} (v : Jv h a recs) (v' : Jv h' b recs') (ha : ∀ x ∈ a, x.length = 64) (hb : ∀ x ∈ b, x.length = 64) (hl : b.length = a.length) (m : Mix a b c) (hg : h.g.toNat < 255) (hg' : h'.g.toNat < 255) : noOpen c = 0 ∧ ∀ x ∈ c, x.length = 64 := by
  have hall : ∀ x ∈ c, Below 256 x ∧ x.length = 64 := fun x hx => by
    obtain ⟨j, hj, rfl⟩ := List.mem_iff_getElem.1 hx
    rw [← old_get hj]
    have hj' : j < a.length := by rw [← m.len]; exact hj
    obtain ⟨n, e⟩ := m.at' j hj'
    have h1 := v.all _ (old_mem hj')
    have h2 := v'.all _ (old_mem (show j < b.length by omega))
    rw [e]
    exact ⟨torn_below (hb _ (old_mem (by omega))) (ha _ (old_mem hj')) (Nat.le_refl _) ⟨by have := h2.1; omega, by have := h2.2; omega⟩ ⟨by have := h1.1; omega, by have := h1.2; omega⟩, torn_len (hb _ (old_mem (by omega))) (ha _ (old_mem hj'))⟩
  have hgm : (gm c).toNat < 256 := gm_lt (by decide) fun x hx => (hall x hx).1
  have h4 := v.n4
  refine ⟨?_, fun x hx => (hall x hx).2⟩
  unfold noOpen
  rw [if_neg (by rw [m.len]; omega), if_neg fun e => by rw [e, show (4294967295#32).toNat = 4294967295 from rfl] at hgm; omega]
/-- an Append that is torn -/
theorem mix_app {h : Hf} {a c recs : List Bk} {l : Bk} (v : Jv h a recs) (hf : nb l.length ≤ h.size - h.used) (ha : ∀ x ∈ a, x.length = 64) (m : Mix a (appD h a l) c) : (curF c).2.2 = recs ∨ (curF c).2.2 = recs ++ [l] := by
  have h1 := v.fs; have h2 := v.r; have h3 := v.u; have h4 := v.c; have hn := v.n
  have v' := v.app hf
  unfold appD at m
  have hpos : h.first + h.used + nb l.length ≤ a.length := by omega
  obtain ⟨hout, hin⟩ := mix_put ha hpos (by omega) m fun i hi => (v.o (h.first + h.used + i) (by omega) (by omega)).2
  rcases hin with e | ⟨k, hk, hb1, hb2, _⟩
  · right
    rw [e]
    show (curF (appD h a l)).2.2 = _
    rw [v'.cur]
  · left
    have hcl := m.len
    have hrp := room_pos v.ne
    have h0 : old c h.first = old a h.first := hout h.first (by omega) (by omega)
    have hrec := v.recH
    have hm0 : (markIn (old a h.first)).1 = h.g := by
      have := v.inn (k := 0) hrp
      rw [Nat.add_zero] at this
      exact (allB_mark recs 0 (by omega) _ this).1
    have htold : toldH c h.first h.size h.g = recs := by
      have e1 : (c.drop h.first).take (room recs) = allB h.g 0 recs := by
        rw [← v.at']
        exact slice_ext (by omega) (by omega) fun i hi => hout _ (by omega) (by omega)
      have e : bsOf c h.first h.size 0 = allB h.g 0 recs ++ ((c.drop h.first).take h.size).drop (room recs) := by
        rw [← e1]
        conv => lhs; rw [bsOf, List.drop_zero, ← List.take_append_drop (room recs) ((c.drop h.first).take h.size), List.take_take, Nat.min_eq_left h2]
      have hat : ∀ i, room recs + i < h.size → (((c.drop h.first).take h.size).drop (room recs))[i]? = some (old c (h.first + h.used + i)) := fun i hi => by
        rw [List.getElem?_drop, List.getElem?_take, if_pos hi, List.getElem?_drop, show h.first + (room recs + i) = h.first + h.used + i by omega, List.getElem?_eq_getElem (by omega), old_get (by omega)]
      unfold toldH told
      rw [e]
      refine toldN_stop recs _ 0 _ (by have := room_ge recs; rw [List.length_append, allB_len]; omega) ?_ (by omega)
      rw [Nat.zero_add, ← h4]
      exact rd_stop (l := l) (by omega) _ 0 k [] _ (by omega) (fun i hi => by rw [hat i (by omega), hb1 i hi, Nat.zero_add]) (hat k (by omega)) hb2
    have hrH : recH c h.first = recs := by
      unfold recH
      rw [h0, hm0, hcl, ← hn]
      exact htold
    refine cur_of (g := h.g) (first := h.first) (size := h.size) (by rw [hcl]; exact hn) v.f v.g0 hrH ?_ ?_
    · unfold genH
      rw [hrH, h0, hm0, if_neg fun e => v.ne (List.length_eq_zero_iff.1 e)]
    · unfold genH
      split
      · exact v.g0
      · rw [hout (h.size - h.first) (by have := v.n4; omega) (by rcases v.f with e | e <;> omega)]
        exact (v.o (h.size - h.first) (by have := v.n4; omega) (by rcases v.f with e | e <;> omega)).1
/-- a Restart that is torn -/
theorem mix_rst {h : Hf} {a c recs : List Bk} {l : Bk} (v : Jv h a recs) (hf : ¬ noRst h a l.length) (ha : ∀ x ∈ a, x.length = 64) (m : Mix a (rstD h a l) c) : (curF c).2.2 = recs ∨ (curF c).2.2 = [l] := by
  have h1 := v.fs; have h2 := v.r; have hn := v.n
  have hfit : nb l.length ≤ h.size := Nat.le_of_not_lt fun e => hf (.inl e)
  have v' := v.rst hf
  have hgl : (gm a).toNat ≠ 4294967295 := fun e => hf (.inr (BitVec.eq_of_toNat_eq e))
  have hg1 : (gm a + 1#32).toNat = (gm a).toNat + 1 := by
    rw [BitVec.toNat_add, show (1#32).toNat = 1 from rfl]
    have := (gm a).isLt
    omega
  have ea : allB (gm a + 1#32) 0 [l] = blks (gm a + 1#32) 0 l := by simp [allB]
  have m0 := m
  unfold rstD at m
  rw [ea] at m
  have hpos : (h.size - h.first) + nb l.length ≤ a.length := by omega
  obtain ⟨hout, hin⟩ := mix_put ha hpos (by omega) m fun i hi => by rw [hg1]; exact (gm_below _ (old_mem (by omega))).2
  rcases hin with e | ⟨k, hk, hb1, hb2, hb3⟩
  · right
    rw [← ea] at e
    rw [e]
    show (curF (rstD h a l)).2.2 = _
    rw [v'.cur]
  · left
    have hcl := m.len
    have hrp := room_pos v.ne
    have hhalf : ∀ i, i < h.size → old c (h.first + i) = old a (h.first + i) := fun i hi => hout _ (by omega) (by rcases v.f with e | e <;> omega)
    have h0 : old c h.first = old a h.first := hhalf 0 (by have := v.n4; omega)
    have ebs : bsOf c h.first h.size 0 = bsOf a h.first h.size 0 := by
      unfold bsOf
      rw [slice_ext (by omega) (by omega) hhalf]
    have hrH : recH c h.first = recs := by
      have := v.recH.1
      unfold recH toldH at this ⊢
      rw [h0, hcl, ← hn, ebs, hn]
      exact this
    have hgH : genH c h.first = h.g := by
      have := v.recH.2
      unfold genH at this ⊢
      rw [hrH, h0]
      rwa [v.recH.1] at this
    refine cur_of (g := h.g) (first := h.first) (size := h.size) (by rw [hcl]; exact hn) v.f v.g0 hrH hgH ?_
    unfold genH
    split
    · exact v.g0
    · next hne =>
      have hsz : 0 < h.size := by have := v.n4; omega
      have hat : ∀ i, i < h.size → (bsOf c (h.size - h.first) h.size 0)[i]? = some (old c (h.size - h.first + i)) := fun i hi => by
        unfold bsOf
        rw [List.drop_zero, List.getElem?_take, if_pos hi, List.getElem?_drop, List.getElem?_eq_getElem (by omega), old_get (by omega)]
      have hrd : rd (markIn (old c (h.size - h.first))).1 0 (bsOf c (h.size - h.first) h.size 0) 0 [] ≠ none := fun e => hne (by
        unfold recH toldH told
        rw [hcl, ← hn, toldN, e]
        rfl)
      by_cases hk0 : k = 0
      · subst hk0
        rw [Nat.add_zero] at hb3
        have hw : wholeB (old c (h.size - h.first)) = true := by
          have h3 := hat 0 hsz
          cases hbs : bsOf c (h.size - h.first) h.size 0 with
          | nil => rw [hbs] at h3; simp at h3
          | cons b bs =>
            rw [hbs] at h3 hrd
            have h3 : b = old c (h.size - h.first) := by simpa using h3
            unfold rd at hrd
            split at hrd
            · next hh => rw [← h3]; exact hh.1
            · exact absurd rfl hrd
        rw [hb3 hw]
        exact (v.o (h.size - h.first) (by have := v.n4; omega) (by rcases v.f with e | e <;> omega)).2
      · have h3 : old c (h.size - h.first) = blk (gm a + 1#32) 0 l 0 := by have := hb1 0 (by omega); rwa [Nat.add_zero] at this
        have h4 : (markIn (old c (h.size - h.first))).1 = gm a + 1#32 := by rw [h3, (blk_mark2 (by omega) (by omega)).1]; rfl
        rw [h4] at hrd
        exact absurd (rd_stop (l := l) (by omega) _ 0 k [] _ (by omega) (fun i hi => by rw [hat i (by omega), hb1 i hi, Nat.zero_add]) (hat k (by omega)) hb2) hrd
end Go.Proofs.Ytjkncnbpaejamaa

/-
  Of no statement by itself: package bytes: Equal, HasPrefix, HasSuffix, TrimPrefix, Clone.
  Conditions: each theorem's own.
-/
namespace Go.Proofs.Ytjkncnbpaejamaa
set_option maxRecDepth 10000
open Sl
theorem OQ.isNil {P : Program} {n : Nat} {E : Env} {C : World → Prop} {dst : Option Tmp} {t t' ty e : TypeId} {pos : String} {aft : Array Edge} {g : Option (Nat × Bool)} {x y : Operand} {ad : Option Addr} {k cap : Nat} (hu : P.underlying t = some (.slice e)) (hx : ev E x = some (.slice ad k cap)) (hy : ev E y = some (.slice none 0 0)) :
    OQ P n E C ⟨dst, .binOp .eql t x y t', ty, pos, aft, g⟩ (.bool ad.isNone) :=
  OQ.run fun c ha w _ => by
    have h1 := ha.eval hx
    have h2 := ha.eval hy
    have h4 : (binOp .eql t (.slice ad k cap) (.slice none 0 0)).run P w = .ok (.bool ad.isNone) w := by
      show (do pure (.bool (← Op.equal t (.slice ad k cap) (.slice none 0 0))) : Sem Value).run P w = _
      simp [Sem.run_bind, run_equal_slice_nil w t e ad k cap hu]
    simp [execOp, h1, h2, eqGuard, h4]
theorem goes_clone : Goes Try.prog 42 := ⟨_, Try.func42, rfl, by kernel_rfl⟩
set_option maxHeartbeats 4000000 in
theorem clone_any (s : Sl8) (w : World) (hs : s.ok w) (hl : s.l.length ≤ 4294967296) : Calls Try.prog 42 [s.v].toArray w fun e w' => ∃ q : Acc, e = .returned (accV q s.l.length) ∧ (q = none → s.l = []) ∧ Holds w [] (accE 5 q (s.l.map U8)) w' := by
  refine enter (n := 8) Try.func42 rfl rfl rfl (Holds.start w []) ?_
  obtain ⟨ad, cap, l⟩ := s
  cases ad with
  | none =>
    have h0 : l = [] := by
      cases l with
      | nil => rfl
      | cons c l =>
        obtain ⟨b, j, h1, _⟩ := hs.reads.at (by simp)
        cases h1
    repeat (first | refine JL.q (by first | (apply OQ.isNil; exact Try.underlying33; exact rfl; exact rfl) | (apply OQ.move; exact rfl) | (apply OQ.assign; exact rfl)) rfl ?_ | refine JC.seq ?_ | refine JC.region ?_ | refine JL.nil ?_ | refine JE.next ?_)
    refine JC.cond_true rfl rfl ?_
    repeat (first | refine JL.q (by (apply OQ.assign; exact rfl)) rfl ?_ | refine JC.seq ?_ | refine JC.region ?_ | refine JL.nil ?_ | refine JE.next ?_)
    refine JC.ret ?_
    repeat (refine JE.then_ret ?_)
    exact JE.ret1 rfl (RV.tmp rfl) fun w' hw => ⟨none, rfl, fun _ => h0, hw⟩
  | some ad =>
    repeat (first | refine JL.q (by first | (apply OQ.isNil; exact Try.underlying33; exact rfl; exact rfl) | (apply OQ.move; exact rfl) | (apply OQ.assign; exact rfl)) rfl ?_ | refine JC.seq ?_ | refine JC.region ?_ | refine JL.nil ?_ | refine JE.next ?_)
    refine JC.cond_false rfl rfl ?_
    repeat (first | refine JC.seq ?_ | refine JC.region ?_ | refine JC.skip ?_ | refine JE.next ?_)
    refine JL.lit0O Try.underlying33 u8e rfl fun b0 _ => ?_
    repeat (refine JL.q (by (apply OQ.move; exact rfl)) rfl ?_)
    refine JL.append (cs := l.map U8) (m := l.length) (ad := some ad) (sc := cap) (xs := []) (fun b' cap' => [⟨b', Sl.Own 5 1 (0 + l.length) cap' ([] ++ l.map U8), true⟩]) Try.underlying33 u8e rfl rfl (by intro _ _; repeat (first | exact Repl.here | apply Repl.there)) (by simp) (fun w' hw' => (hs.holds hw' rfl).reads) (all8U _) rfl (by decide) (by simp only [] at hl; omega) (by simp only [] at hl; omega) rfl fun b1 cap1 => ?_
    rw [Nat.zero_add, List.nil_append]
    repeat (first | refine JL.q (by (apply OQ.assign; exact rfl)) rfl ?_ | refine JL.nil ?_ | refine JE.next ?_)
    refine JC.ret (JE.ret1 rfl (RV.tmp rfl) fun w' hw => ⟨some (b1, cap1), rfl, (fun h => by cases h), ?_⟩)
    show Holds w [] [⟨b1, Sl.Own 5 1 (l.map U8).length cap1 (l.map U8), true⟩] w'
    rw [List.length_map]
    exact hw
end Go.Proofs.Ytjkncnbpaejamaa

/-
  Of no statement by itself: pairs as bytes, values by rising keys, by definition; what is written is read.
  Conditions: each theorem's own.
-/
namespace Go.Proofs.Ytjkncnbpaejamaa
namespace Sto
open Dsk Jrn
structure Pq where
  key : Bk
  val : Bk
  gone : Bool
def okP (p : Pq) : Bool := decide (1 ≤ p.key.length) && (decide (p.key.length ≤ 1000) && !(p.gone && decide (0 < p.val.length)))
def okL (l : List Pq) : Bool := l.all okP
def encP (p : Pq) : Bk := (if p.gone then 1#8 else 0#8) :: (be (BitVec.ofNat 32 p.key.length) 2 ++ p.key ++ be (BitVec.ofNat 32 p.val.length) 4 ++ p.val)
def encL (l : List Pq) : Bk := l.flatMap encP
def cntd (b : Bk) (size : Nat) : Option (Bk × Bk) :=
  if b.length < size then none else if (b.drop size).length < numB (b.take size) then none else some ((b.drop size).take (numB (b.take size)), (b.drop size).drop (numB (b.take size)))
def fstP : Bk → Option (Pq × Bk)
  | [] => none
  | s :: b => match cntd b 2 with
    | none => none
    | some (k, r) => match cntd r 4 with
      | none => none
      | some (v, r') => if s.toNat ≤ 1 ∧ okP ⟨k, v, decide (s.toNat = 1)⟩ = true then some (⟨k, v, decide (s.toNat = 1)⟩, r') else none
def decF : Nat → Bk → Option (List Pq)
  | _, [] => some []
  | 0, _ :: _ => none
  | f + 1, b :: bs => match fstP (b :: bs) with
    | none => none
    | some (p, r) => (decF f r).map (p :: ·)
def dec (b : Bk) : Option (List Pq) := decF b.length b
theorem cntd_len {b k r : Bk} {s : Nat} (h : cntd b s = some (k, r)) : b.length = s + k.length + r.length ∧ b = b.take s ++ k ++ r := by
  unfold cntd at h
  split at h
  · cases h
  · split at h
    · cases h
    · cases h
      refine ⟨?_, ?_⟩
      · simp only [List.length_take, List.length_drop] at *
        omega
      · rw [List.append_assoc, List.take_append_drop, List.take_append_drop]
theorem fstP_some {b r : Bk} {p : Pq} (h : fstP b = some (p, r)) : okP p = true ∧ p.key.length + p.val.length + 7 + r.length = b.length := by
  cases b with
  | nil => cases h
  | cons s b =>
    rw [fstP] at h
    split at h
    · cases h
    · next k r1 h1 =>
      split at h
      · cases h
      · next v r2 h2 =>
        split at h
        · next h3 =>
          cases h
          have := (cntd_len h1).1
          have := (cntd_len h2).1
          refine ⟨h3.2, ?_⟩
          simp only [List.length_cons]
          omega
        · cases h
theorem decF_more : ∀ (f g : Nat) (b : Bk), b.length ≤ f → b.length ≤ g → decF f b = decF g b
  | _, _, [], _, _ => by simp [decF]
  | 0, _, _ :: _, h, _ => by simp at h
  | _, 0, _ :: _, _, h => by simp at h
  | f + 1, g + 1, b :: bs, h1, h2 => by
    rw [decF, decF]
    cases h : fstP (b :: bs) with
    | none => rfl
    | some pr =>
      obtain ⟨p, r⟩ := pr
      have := (fstP_some h).2
      simp only [List.length_cons] at this h1 h2
      dsimp only
      rw [decF_more f g r (by omega) (by omega)]
theorem dec_nil : dec [] = some [] := rfl
theorem dec_step {b : Bk} (h : b ≠ []) : dec b = match fstP b with | none => none | some (p, r) => (dec r).map (p :: ·) := by
  cases b with
  | nil => exact absurd rfl h
  | cons c bs =>
    unfold dec
    rw [List.length_cons, decF]
    cases h : fstP (c :: bs) with
    | none => rfl
    | some pr =>
      obtain ⟨p, r⟩ := pr
      have := (fstP_some h).2
      simp only [List.length_cons] at this
      dsimp only
      rw [decF_more bs.length r.length r (by omega) (Nat.le_refl _)]
theorem cntd_be2 {k r : Bk} (h : k.length < 65536) : cntd (be (BitVec.ofNat 32 k.length) 2 ++ k ++ r) 2 = some (k, r) := by
  have e1 : (be (BitVec.ofNat 32 k.length) 2 ++ k ++ r).take 2 = be (BitVec.ofNat 32 k.length) 2 := by rw [List.append_assoc, List.take_left' (be_len _ _)]
  have e2 : (be (BitVec.ofNat 32 k.length) 2 ++ k ++ r).drop 2 = k ++ r := by rw [List.append_assoc, List.drop_left' (be_len _ _)]
  unfold cntd
  rw [if_neg (by simp only [List.length_append, be_len]; omega), e1, e2, numB_be2 h, if_neg (by simp), List.take_left' rfl, List.drop_left' rfl]
theorem cntd_be4 {k r : Bk} (h : k.length < 4294967296) : cntd (be (BitVec.ofNat 32 k.length) 4 ++ k ++ r) 4 = some (k, r) := by
  have e1 : (be (BitVec.ofNat 32 k.length) 4 ++ k ++ r).take 4 = be (BitVec.ofNat 32 k.length) 4 := by rw [List.append_assoc, List.take_left' (be_len _ _)]
  have e2 : (be (BitVec.ofNat 32 k.length) 4 ++ k ++ r).drop 4 = k ++ r := by rw [List.append_assoc, List.drop_left' (be_len _ _)]
  unfold cntd
  rw [if_neg (by simp only [List.length_append, be_len]; omega), e1, e2, numB_be4 h, if_neg (by simp), List.take_left' rfl, List.drop_left' rfl]
theorem okP_len {p : Pq} (h : okP p = true) : 1 ≤ p.key.length ∧ p.key.length ≤ 1000 ∧ (p.gone = true → p.val = []) := by
  unfold okP at h
  simp only [Bool.and_eq_true, decide_eq_true_eq, Bool.not_eq_true', Bool.and_eq_false_iff, decide_eq_false_iff_not] at h
  refine ⟨h.1, h.2.1, fun hg => ?_⟩
  rcases h.2.2 with h2 | h2
  · rw [hg] at h2; cases h2
  · exact List.length_eq_zero_iff.1 (by omega)
theorem fstP_enc {p : Pq} {r : Bk} (h : okP p = true) (hv : p.val.length < 4294967296) : fstP (encP p ++ r) = some (p, r) := by
  obtain ⟨key, val, gone⟩ := p
  have h1 := okP_len h
  unfold encP
  dsimp only at *
  rw [List.cons_append, fstP]
  rw [show be (BitVec.ofNat 32 key.length) 2 ++ key ++ be (BitVec.ofNat 32 val.length) 4 ++ val ++ r = be (BitVec.ofNat 32 key.length) 2 ++ key ++ (be (BitVec.ofNat 32 val.length) 4 ++ val ++ r) by simp [List.append_assoc], cntd_be2 (by omega)]
  dsimp only
  rw [cntd_be4 hv]
  dsimp only
  cases gone
  · simp only [Bool.false_eq_true, if_false]
    rw [show decide ((0#8).toNat = 1) = false from rfl, if_pos ⟨by decide, h⟩]
  · simp only [if_true]
    rw [show decide ((1#8).toNat = 1) = true from rfl, if_pos ⟨by decide, h⟩]
theorem encP_ne (p : Pq) (r : Bk) : encP p ++ r ≠ [] := by unfold encP; simp
theorem dec_enc : ∀ {l : List Pq}, okL l = true → (∀ p ∈ l, p.val.length < 4294967296) → dec (encL l) = some l
  | [], _, _ => rfl
  | p :: l, h, hv => by
    unfold okL at h
    rw [List.all_cons, Bool.and_eq_true] at h
    have ih := dec_enc (l := l) h.2 fun q hq => hv q (by simp [hq])
    have e : encL (p :: l) = encP p ++ encL l := rfl
    rw [e, dec_step (encP_ne p _), fstP_enc h.1 (hv p (by simp))]
    dsimp only
    rw [ih]
    rfl
theorem encP_len (p : Pq) : (encP p).length = 7 + p.key.length + p.val.length := by
  unfold encP
  simp only [List.length_cons, List.length_append, be_len]
  omega
theorem dec_ok : ∀ {l : List Pq} {b : Bk}, dec b = some l → okL l = true ∧ (l.map fun p => 7 + p.key.length + p.val.length).sum = b.length
  | l, [], h => by
    rw [dec_nil, Option.some.injEq] at h
    subst h
    exact ⟨rfl, rfl⟩
  | l, c :: bs, h => by
    rw [dec_step (by simp)] at h
    cases hf : fstP (c :: bs) with
    | none => rw [hf] at h; cases h
    | some pr =>
      obtain ⟨p, r⟩ := pr
      rw [hf] at h
      dsimp only at h
      have h1 := fstP_some hf
      have hlt : r.length < (c :: bs).length := by omega
      cases hd : dec r with
      | none => rw [hd] at h; cases h
      | some l' =>
        rw [hd] at h
        cases h
        have ih := dec_ok (b := r) hd
        refine ⟨?_, ?_⟩
        · unfold okL
          rw [List.all_cons, h1.1, Bool.true_and]
          exact ih.1
        · simp only [List.map_cons, List.sum_cons]
          omega
termination_by _ b => b.length
/-! ### values by rising keys -/
abbrev VL := List (Bk × Bk)
/-- of two rows of bytes the first one stands ahead -/
def klt : Bk → Bk → Bool
  | [], [] => false
  | [], _ :: _ => true
  | _ :: _, [] => false
  | a :: l, b :: r => if a.toNat < b.toNat then true else if b.toNat < a.toNat then false else klt l r
theorem klt_irrefl : ∀ (a : Bk), klt a a = false
  | [] => rfl
  | a :: l => by rw [klt, if_neg (Nat.lt_irrefl _), if_neg (Nat.lt_irrefl _), klt_irrefl l]
theorem klt_trans : ∀ {a b c : Bk}, klt a b = true → klt b c = true → klt a c = true
  | [], [], _, h, _ => by cases h
  | [], _ :: _, [], _, h => by cases h
  | [], _ :: _, _ :: _, _, _ => rfl
  | _ :: _, [], _, h, _ => by cases h
  | _ :: _, _ :: _, [], _, h => by cases h
  | a :: l, b :: r, c :: t, h1, h2 => by
    rw [klt] at h1 h2 ⊢
    split at h1
    · split at h2
      · rw [if_pos (by omega)]
      · split at h2
        · cases h2
        · rw [if_pos (by omega)]
    · split at h1
      · cases h1
      · split at h2
        · rw [if_pos (by omega)]
        · split at h2
          · cases h2
          · rw [if_neg (by omega), if_neg (by omega)]
            exact klt_trans h1 h2
theorem klt_total : ∀ (a b : Bk), a ≠ b → klt a b = false → klt b a = true
  | [], [], h, _ => absurd rfl h
  | [], _ :: _, _, h => by cases h
  | _ :: _, [], _, _ => rfl
  | a :: l, b :: r, h, h1 => by
    rw [klt] at h1 ⊢
    split at h1
    · cases h1
    · split at h1
      · rw [if_pos (by omega)]
      · have e : a = b := BitVec.eq_of_toNat_eq (by omega)
        rw [if_neg (by omega), if_neg (by omega)]
        exact klt_total l r (fun hh => h (by rw [e, hh])) h1
theorem klt_asymm {a b : Bk} (h : klt a b = true) : klt b a = false := by
  cases h2 : klt b a with
  | false => rfl
  | true => have := klt_trans h h2; rw [klt_irrefl] at this; cases this
theorem klt_ne {a b : Bk} (h : klt a b = true) : a ≠ b := fun e => by rw [e, klt_irrefl] at h; cases h
def insV (k v : Bk) : VL → VL
  | [] => [(k, v)]
  | p :: vs => if klt p.1 k then p :: insV k v vs else if p.1 = k then (k, v) :: vs else (k, v) :: p :: vs
def delV (k : Bk) : VL → VL
  | [] => []
  | p :: vs => if klt p.1 k then p :: delV k vs else if p.1 = k then vs else p :: vs
def doV (vs : VL) (p : Pq) : VL := if p.gone then delV p.key vs else insV p.key p.val vs
def doL (vs : VL) (l : List Pq) : VL := l.foldl doV vs
def Srt (vs : VL) : Prop := vs.Pairwise fun p q => klt p.1 q.1 = true
theorem Srt.keys {vs : VL} (h : Srt vs) : (vs.map Prod.fst).Nodup := by
  unfold List.Nodup
  rw [List.pairwise_map]
  exact h.imp fun h => klt_ne h
theorem insV_mem {k v : Bk} {q : Bk × Bk} : ∀ {vs : VL}, q ∈ insV k v vs → q = (k, v) ∨ q ∈ vs
  | [], h => by simpa [insV] using h
  | p :: vs, h => by
    rw [insV] at h
    split at h
    · rcases List.mem_cons.1 h with rfl | h
      · simp
      · rcases insV_mem h with h | h <;> simp [h]
    · split at h
      · rcases List.mem_cons.1 h with h | h <;> simp [h]
      · rcases List.mem_cons.1 h with h | h
        · simp [h]
        · exact .inr h
theorem insV_srt {k v : Bk} : ∀ {vs : VL}, Srt vs → Srt (insV k v vs)
  | [], _ => by simp [insV, Srt]
  | p :: vs, h => by
    obtain ⟨h1, h2⟩ := List.pairwise_cons.1 h
    rw [insV]
    split
    · next hk =>
      refine List.pairwise_cons.2 ⟨fun q hq => ?_, insV_srt h2⟩
      rcases insV_mem hq with rfl | hq
      · exact hk
      · exact h1 q hq
    · next hk =>
      split
      · next he =>
        refine List.pairwise_cons.2 ⟨fun q hq => ?_, h2⟩
        have := h1 q hq
        rw [he] at this
        exact this
      · next he =>
        have hlt := klt_total _ _ he (by simpa using hk)
        refine List.pairwise_cons.2 ⟨fun q hq => ?_, h⟩
        rcases List.mem_cons.1 hq with rfl | hq
        · exact hlt
        · exact klt_trans hlt (h1 q hq)
theorem delV_sub (k : Bk) : ∀ (vs : VL), (delV k vs).Sublist vs
  | [] => .slnil
  | p :: vs => by
    rw [delV]
    split
    · exact (delV_sub k vs).cons_cons _
    · split
      · exact List.sublist_cons_self _ _
      · exact List.Sublist.refl _
theorem delV_srt {k : Bk} {vs : VL} (h : Srt vs) : Srt (delV k vs) := h.sublist (delV_sub k vs)
theorem doV_srt {vs : VL} {p : Pq} (h : Srt vs) : Srt (doV vs p) := by
  unfold doV
  split
  · exact delV_srt h
  · exact insV_srt h
theorem doL_srt : ∀ {l : List Pq} {vs : VL}, Srt vs → Srt (doL vs l)
  | [], _, h => h
  | p :: l, vs, h => doL_srt (l := l) (doV_srt (p := p) h)
theorem filter_off {k : Bk} {vs : VL} (h : ∀ q ∈ vs, q.1 ≠ k) : vs.filter (fun q => decide (q.1 ≠ k)) = vs := List.filter_eq_self.2 fun q hq => decide_eq_true (h q hq)
theorem srt_off {k : Bk} {p : Bk × Bk} {vs : VL} (h : Srt (p :: vs)) (hk : klt p.1 k = false) : ∀ q ∈ vs, q.1 ≠ k := fun q hq e => by
  have h1 := (List.pairwise_cons.1 h).1 q hq
  rw [e, hk] at h1
  cases h1
theorem insV_perm {k v : Bk} : ∀ {vs : VL}, Srt vs → (insV k v vs).Perm ((k, v) :: vs.filter fun q => decide (q.1 ≠ k))
  | [], _ => .refl _
  | p :: vs, h => by
    obtain ⟨h1, h2⟩ := List.pairwise_cons.1 h
    rw [insV]
    split
    · next hk =>
      rw [List.filter_cons_of_pos (by simpa using klt_ne hk)]
      exact (List.Perm.cons _ (insV_perm h2)).trans (List.Perm.swap _ _ _)
    · next hk =>
      split
      · next he =>
        rw [List.filter_cons_of_neg (by simp [he]), filter_off (srt_off h (by simpa using hk))]
      · next he =>
        rw [List.filter_cons_of_pos (by simpa using he), filter_off (srt_off h (by simpa using hk))]
theorem delV_filter {k : Bk} : ∀ {vs : VL}, Srt vs → delV k vs = vs.filter fun q => decide (q.1 ≠ k)
  | [], _ => rfl
  | p :: vs, h => by
    obtain ⟨h1, h2⟩ := List.pairwise_cons.1 h
    rw [delV]
    split
    · next hk => rw [List.filter_cons_of_pos (by simpa using klt_ne hk), delV_filter h2]
    · next hk =>
      split
      · next he => rw [List.filter_cons_of_neg (by simp [he]), filter_off (srt_off h (by simpa using hk))]
      · next he => rw [List.filter_cons_of_pos (by simpa using he), filter_off (srt_off h (by simpa using hk))]
/-- what stands at a key -/
def getV (vs : VL) (k : Bk) : Option Bk := (vs.find? fun q => decide (q.1 = k)).map Prod.snd
theorem getV_mem {vs : VL} (h : (vs.map Prod.fst).Nodup) {k v : Bk} : getV vs k = some v ↔ (k, v) ∈ vs := by
  induction vs with
  | nil => simp [getV]
  | cons p vs ih =>
    obtain ⟨h1, h2⟩ := List.nodup_cons.1 (by simpa using h : (p.1 :: vs.map Prod.fst).Nodup)
    unfold getV at ih ⊢
    rw [List.find?_cons]
    by_cases hp : p.1 = k
    · rw [decide_eq_true hp]
      simp only [Option.map_some, Option.some.injEq, List.mem_cons]
      constructor
      · intro e; left; rw [← hp, ← e]
      · rintro (e | e)
        · rw [← e]
        · exact absurd (hp ▸ List.mem_map_of_mem (f := Prod.fst) e) h1
    · rw [decide_eq_false hp]
      simp only
      rw [ih h2, List.mem_cons]
      constructor
      · exact .inr
      · rintro (e | e)
        · exact absurd (by rw [← e]) hp
        · exact e
/-- the pairs that make values of nothing -/
def pairsV (vs : VL) : List Pq := vs.map fun p => ⟨p.1, p.2, false⟩
theorem insV_last {k v : Bk} : ∀ {vs : VL}, (∀ q ∈ vs, klt q.1 k = true) → insV k v vs = vs ++ [(k, v)]
  | [], _ => rfl
  | p :: vs, h => by rw [insV, if_pos (h p (by simp)), insV_last fun q hq => h q (by simp [hq])]; rfl
theorem doL_pairs : ∀ (vs ws : VL), Srt (ws ++ vs) → doL ws (pairsV vs) = ws ++ vs
  | [], ws, _ => by simp [doL, pairsV]
  | p :: vs, ws, h => by
    have e : doL ws (pairsV (p :: vs)) = doL (doV ws ⟨p.1, p.2, false⟩) (pairsV vs) := rfl
    have h' : Srt (ws ++ [p] ++ vs) := by simpa using h
    have hl : ∀ q ∈ ws, klt q.1 p.1 = true := fun q hq => (List.pairwise_append.1 h).2.2 q hq p (by simp)
    rw [e, show doV ws ⟨p.1, p.2, false⟩ = ws ++ [p] from insV_last hl, doL_pairs vs (ws ++ [p]) h']
    simp
theorem doL_nil {vs : VL} (h : Srt vs) : doL [] (pairsV vs) = vs := by simpa using doL_pairs vs [] (by simpa using h)
theorem doL_append (vs : VL) (a b : List Pq) : doL vs (a ++ b) = doL (doL vs a) b := by simp [doL]
/-- the values that records come to; none: one isn't pairs -/
def decAll : List Bk → Option (List Pq)
  | [] => some []
  | r :: rs => match dec r, decAll rs with
    | some l, some ls => some (l ++ ls)
    | _, _ => none
def valsOf (recs : List Bk) : Option VL := (decAll recs).map (doL [])
theorem decAll_append : ∀ (a b : List Bk), decAll (a ++ b) = match decAll a, decAll b with | some l, some m => some (l ++ m) | _, _ => none
  | [], b => by
    rw [List.nil_append, decAll]
    cases decAll b <;> rfl
  | r :: a, b => by
    rw [List.cons_append, decAll, decAll, decAll_append a b]
    cases dec r <;> cases decAll a <;> cases decAll b <;> simp
theorem decAll_one (r : Bk) : decAll [r] = dec r := by
  rw [decAll, decAll]
  cases dec r <;> simp
end Sto
end Go.Proofs.Ytjkncnbpaejamaa
