/-
  Of no statement by itself: the texts MibB, Slf, Slfi, Slgr, Slfr, Slwi, RfA, FieE, RfB, ArmH, MibC, Slal, MimU, MimW, MimX, Slwb, MimY, MibD, MibQ, RfC, LetW, RfD, MimG, TokV, QuoS, RfE, FibB, FibC, FibD, LtR, LtS, LtA, LtB, LtC, LetL in one.
  Conditions: each theorem's own.
-/
import Derived.Test.YtdabhneehconeaaGreatDoorCc
import Derived.RangeFuncWrites
import Derived.RangeFuncLeaves
import Derived.TacticsIn
import Derived.Shelf.Abstract
import Derived.OrdersIn
import Derived.Lib.Overlaps
import Derived.Laws.Tables
set_option linter.unusedSimpArgs false
set_option linter.unusedVariables false
/-
  Of no statement by itself: what bytes.TrimRight gives at the two blanks, bytes.CutSuffix at one byte, and the landed mime's withoutEnd.
  Conditions: each theorem's own.
-/
namespace Go.Proofs.YtdabhneehconeaaGreatDoor
set_option maxRecDepth 10000
open Sl Fld Mim
/-- a slice's beginning -/
def Sl8.hd (s : Sl8) (l : List Bt) : Sl8 := ⟨s.ad, s.cap, l⟩
theorem Sl8.fst_hd (s : Sl8) (m : Nat) : s.fst m = s.hd (s.l.take m) := by
  unfold Sl8.fst Sl8.hd
  congr 1
  split
  · rfl
  · cases s.ad <;> simp [Addr.add]
theorem Sl8.hd_ok {s : Sl8} {w : World} (h : s.ok w) (m : Nat) : (s.hd (s.l.take m)).ok w := Sl8.fst_hd s m ▸ h.fst m
theorem OQ.idxA8 {P : Program} {n : Nat} {E : Env} {C : World → Prop} {dst : Option Tmp} {t ty e : TypeId} {pos : String} {aft : Array Edge} {g : Option (Nat × Bool)} {x y : Operand} {len b j : Nat} {c : Bt} (hu : P.underlying t = some (.array len e)) (hz : szT P e = some 1) (hx : ev E x = some (.pointer (some ⟨b, j, none⟩))) (hy : ev E y = some (U8 c)) (hi : c.toNat < len) :
    OQ P n E C ⟨dst, .indexAddr t x y, ty, pos, aft, g⟩ (.pointer (some ⟨b, j + c.toNat, none⟩)) :=
  OQ.run fun a ha w _ => by
    have h1 := ha.eval hx
    have h2 := ha.eval hy
    have h3 : (underlying t).run P w = .ok (.array len e) w := run_underlying hu w
    have h4 : (0 : Int) ≤ (c.toNat : Int) ∧ (c.toNat : Int) < (len : Int) := by omega
    simp [execOp, h1, h2, Instr.indexAt, asIntOf, Sem.run_bind, h3, Instr.sureAddr, hi, sizeOf_run hz, add_off]
theorem goes_bmset : Goes Tryz.prog 231 := ⟨_, Tryz.func231, rfl, by kernel_rfl⟩
theorem goes_bhas : Goes Tryz.prog 254 := ⟨_, Tryz.func254, rfl, by kernel_rfl⟩
theorem goes_btra : Goes Tryz.prog 232 := ⟨_, Tryz.func232, rfl, by kernel_rfl⟩
theorem goes_btr : Goes Tryz.prog 191 := ⟨_, Tryz.func191, rfl, by kernel_rfl⟩
theorem goes_bcs : Goes Tryz.prog 234 := ⟨_, Tryz.func234, rfl, by kernel_rfl⟩
theorem goes_mwend : Goes Tryz.prog 192 := ⟨_, Tryz.func192, rfl, by kernel_rfl⟩
def asr : Nat → List Value
  | 0 => List.replicate 256 (.bool false)
  | 1 => (List.replicate 256 (.bool false)).set 32 (.bool true)
  | _ + 2 => ((List.replicate 256 (.bool false)).set 32 (.bool true)).set 9 (.bool true)
theorem asr_len : ∀ k, (asr k).length = 256
  | 0 => by simp [asr]
  | 1 => by simp [asr]
  | _ + 2 => by simp [asr]
theorem asr_one : ∀ k, (asr k).all Value.oneCell' = true
  | 0 => by decide +kernel
  | 1 => by decide +kernel
  | _ + 2 => by
    have h : (asr 2).all Value.oneCell' = true := by decide +kernel
    exact h
theorem asr_bl (c : Bt) : (asr 2)[c.toNat]? = some (.bool (bl c)) := by
  have h : ∀ c : Fin 256, (match (asr 2)[c.val]? with | some (.bool b) => b == bl (BitVec.ofNat 8 c.val) | _ => false) = true := by decide +kernel
  have h2 := h ⟨c.toNat, c.isLt⟩
  have e : BitVec.ofNat 8 c.toNat = c := by simp
  dsimp only at h2
  rw [e] at h2
  split at h2
  · next b hb => rw [hb, eq_of_beq h2]
  · cases h2
theorem asZ : zc Tryz.prog 234 = some (asr 0) := by kernel_rfl
theorem asS : szT Tryz.prog 234 = some 256 := by kernel_rfl
theorem asA : aggT Tryz.prog 234 = true := by kernel_rfl
theorem boS : szT Tryz.prog 4 = some 1 := by kernel_rfl
theorem boC : scal Tryz.prog 4 = true := by kernel_rfl
def bl2 (k : Nat) : Bt := ([32, 9] : List Bt).getD k 0
set_option maxHeartbeats 8000000 in
theorem bmset_any (w : World) : Calls Tryz.prog 231 [Z [32, 9]].toArray w fun e w' => e = .returned (.tuple #[.agg (asr 2).toArray, .bool true]) ∧ Ext w w' := by
  refine enter (n := 21) Tryz.func231 rfl rfl rfl (Holds.start w []) ?_
  refine JC.seq (JC.region (JL.alloc asZ rfl fun b _ => ?_))
  repeat (first | refine JL.q (by (apply OQ.assign; exact rfl)) rfl ?_ | refine JC.seq ?_ | refine JC.region ?_ | refine JC.block ?_ | refine JL.nil ?_ | refine JE.next ?_)
  refine JC.loop (fun k : Nat => [(0, Z [32, 9]), (2, Pt b 0), (3, .bool false), (4, N k)]) (fun k => [⟨b, Row 234 (asr k), true⟩]) (fun k => 2 - k) (fun k => k ≤ 2) 0 (by decide) (by repeat (first | exact SubE.nil | refine SubE.cons _ _ _ rfl ?_)) (Less.refl _) ?_
  intro k hk
  repeat (first | refine JL.q (by first | (apply OQ.lenS; exact Tryz.underlying9; exact rfl) | (apply OQ.move; exact rfl) | (apply OQ.lssN; exact rfl; exact rfl)) rfl ?_ | refine JC.seq ?_ | refine JC.region ?_ | refine JL.nil ?_ | refine JE.next ?_)
  refine JC.cond rfl (fun h => ?_) (fun h => ?_)
  · have hk' : k < 2 := of_decide_eq_true h
    clear h hk
    have hlt : k < ([32, 9] : List Bt).length := hk'
    have h128 : decide ((128 : Int) ≤ ((([32, 9] : List Bt).getD k 0).toNat : Int)) = false := by
      have : k = 0 ∨ k = 1 := by omega
      rcases this with rfl | rfl <;> rfl
    have h256 : (([32, 9] : List Bt).getD k 0).toNat < 256 := BitVec.isLt _
    have hset : (asr k).set (0 + (([32, 9] : List Bt).getD k 0).toNat) (.bool true) = asr (k + 1) := by
      have : k = 0 ∨ k = 1 := by omega
      rcases this with rfl | rfl
      · rw [Nat.zero_add]; rfl
      · rw [Nat.zero_add]; rfl
    have i0 := fun {n : Nat} {E : Env} {C : World → Prop} {dst : Option Tmp} {ty : TypeId} {pos : String} {aft : Array Edge} {g : Option (Nat × Bool)} {x y : Operand} => OQ.idxZ (P := Tryz.prog) (n := n) (E := E) (C := C) (dst := dst) (t := 9) (ty := ty) (pos := pos) (aft := aft) (g := g) (x := x) (y := y) (l := [32, 9]) (k := .i64) (i := k) Tryz.underlying9 (hi := hlt)
    generalize ([32, 9] : List Bt).getD k 0 = c at h128 h256 hset i0
    repeat (first | refine JL.q (by first | (apply i0; exact rfl; exact rfl) | (apply OQ.geqB (b := 128); exact rfl; exact rfl; exact h128) | (apply OQ.move; exact rfl) | (apply OQ.assign; exact rfl)) rfl ?_ | refine JC.seq ?_ | refine JC.region ?_ | refine JC.block ?_ | refine JC.skip ?_ | refine JL.nil ?_ | refine JE.next ?_)
    refine JC.cond rfl (fun h => by cases h) (fun _ => ?_)
    repeat (first | refine JL.q (by first | (apply OQ.idxA8 (c := c); exact Tryz.underlying234; exact boS; exact rfl; exact rfl; exact h256) | (apply OQ.move; exact rfl)) rfl ?_ | refine JC.region ?_ | refine JC.skip ?_ | refine JE.next ?_)
    refine JL.store_eq (r' := asr (k + 1)) boS rfl rfl rfl rfl .here (by rw [asr_len]; omega) hset ?_
    repeat (first | refine JL.q (by first | (apply OQ.move; exact rfl) | (apply OQ.assign; exact rfl) | (apply OQ.addN; exact rfl; exact rfl; exact (by (try simp only []); omega))) rfl ?_ | refine JC.region ?_ | refine JL.nil ?_ | refine JE.next ?_ | refine JE.blk_normal ?_)
    exact JE.again (i := k) (k + 1) hk' (by omega) (by repeat (first | exact SubE.nil | refine SubE.cons _ _ _ rfl ?_)) (Less.refl _)
  · have hk' : ¬ k < 2 := of_decide_eq_false h
    obtain rfl : k = 2 := by omega
    repeat (first | refine JL.q (by (apply OQ.load_agg; exact asA; exact asS; exact rfl; exact .here; exact (asr_len 2); exact Row.all)) rfl ?_ | refine JC.seq ?_ | refine JC.region ?_ | refine JC.exit ?_ | refine JE.next ?_ | refine JE.then_exit ?_ | refine JE.blk_hit ?_)
    refine JL.store_all asS rfl rfl (asr_len 2) (asr_one 2) .here rfl ?_
    repeat (first | refine JL.q (by (apply OQ.assign; exact rfl)) rfl ?_ | refine JL.nil ?_ | refine JE.next ?_)
    refine JC.ret (JE.ret2 rfl (RV.cell_agg asA asS rfl .here (asr_len 2) Row.all) (RV.tmp rfl) fun w' hw => ⟨rfl, hw.chg⟩)
/-- the set lies there -/
def SetAt (b : Nat) (w : World) : Prop := ∀ c : Bt, w.cell? ⟨b, c.toNat, none⟩ = some (.bool (bl c))
theorem SetAt.holds {b : Nat} {w0 w : World} {M : List Ent} (h : SetAt b w0) (hw : Holds w0 [] M w) : SetAt b w := fun c => by
  have := h c
  exact (hw.reads (ad := some ⟨b, 0, none⟩) (cs := asr 2) (fun i v hv => ⟨b, 0, rfl, by
    have hi : i < 256 := by have := (List.getElem?_eq_some_iff.1 hv).1; rwa [asr_len] at this
    have h1 := h (BitVec.ofNat 8 i)
    have h2 := asr_bl (BitVec.ofNat 8 i)
    have e : (BitVec.ofNat 8 i).toNat = i := by rw [BitVec.toNat_ofNat]; omega
    rw [e] at h1 h2
    rw [Nat.zero_add, h1, ← h2, hv]⟩) (fun _ a _ => by simp)) c.toNat _ (asr_bl c) |> fun ⟨b', j', e', c'⟩ => by
      cases e'
      rwa [Nat.zero_add] at c'
theorem bhas_any (b : Nat) (c : Bt) (w : World) (h : SetAt b w) : Calls Tryz.prog 254 [Pt b 0, U8 c].toArray w fun e w' => e = .returned (.bool (bl c)) ∧ Ext w w' := by
  refine enter (n := 10) Tryz.func254 rfl rfl rfl (Holds.start w []) ?_
  have hc : w.cell? ⟨b, 0 + c.toNat, none⟩ = some (.bool (bl c)) := by rw [Nat.zero_add]; exact h c
  repeat (first | refine JL.q (by first | (apply OQ.nilc; exact rfl) | (apply OQ.idxA8 (c := c); exact Tryz.underlying234; exact boS; exact rfl; exact rfl; exact c.isLt) | (apply OQ.load_old; exact boC; exact rfl; exact (block_lt_of_cell hc); exact (by simp); exact hc) | (apply OQ.move; exact rfl) | (apply OQ.assign; exact rfl)) rfl ?_ | refine JC.seq ?_ | refine JC.region ?_ | refine JL.nil ?_ | refine JE.next ?_)
  exact JC.ret (JE.ret1 rfl (RV.tmp rfl) fun w' hw => ⟨rfl, hw.chg⟩)
set_option maxHeartbeats 8000000 in
theorem btra_any (s : Sl8) (b : Nat) (w : World) (hs : s.ok w) (hl : s.l.length < 9223372036854775808) (hb : SetAt b w) : Calls Tryz.prog 232 [s.v, Pt b 0].toArray w fun e w' => e = .returned (s.hd (cutR s.l)).v ∧ Ext w w' := by
  refine enter (n := 23) Tryz.func232 rfl rfl rfl (Holds.start w []) ?_
  repeat (first | refine JL.q (by (apply OQ.assign; exact rfl)) rfl ?_ | refine JC.seq ?_ | refine JC.region ?_ | refine JC.block ?_ | refine JL.nil ?_ | refine JE.next ?_)
  refine JC.loop (fun m : Nat => [(0, (s.hd (s.l.take m)).v), (1, Pt b 0)]) (fun _ => []) (fun m => m) (fun m => m ≤ s.l.length ∧ cutR (s.l.take m) = cutR s.l) s.l.length ⟨Nat.le_refl _, by rw [List.take_length]⟩ ?_ (Less.refl _) ?_
  · rw [List.take_length]
    exact (by repeat (first | exact SubE.nil | refine SubE.cons _ _ _ rfl ?_))
  rintro m ⟨hm, hc⟩
  have hy : (s.hd (s.l.take m)).ok w := Sl8.hd_ok hs m
  have hyl : (s.hd (s.l.take m)).l = s.l.take m := rfl
  have hyn : (s.hd (s.l.take m)).l.length = m := by rw [hyl, List.length_take]; omega
  have hcap := hy.len
  cases h0 : decide ((0 : Int) < ((s.hd (s.l.take m)).l.length : Int))
  · have hm0 : m = 0 := by have := of_decide_eq_false h0; omega
    subst hm0
    repeat (first | refine JL.q (by first | (apply OQ.gtrB (b := 0); exact rfl; exact rfl; exact h0) | (apply OQ.move; exact rfl) | (apply OQ.len; exact rfl; exact rfl)) rfl ?_ | refine JC.seq ?_ | refine JC.region ?_ | refine JL.nil ?_ | refine JE.next ?_)
    refine JC.cond rfl (fun h => by cases h) (fun _ => ?_)
    repeat (first | refine JL.q (by first | (apply OQ.move; exact rfl) | (apply OQ.assign; exact rfl)) rfl ?_ | refine JC.seq ?_ | refine JC.region ?_ | refine JC.exit ?_ | refine JL.nil ?_ | refine JE.next ?_ | refine JE.then_exit ?_ | refine JE.blk_hit ?_)
    refine JC.ret (JE.ret1 rfl (RV.tmp rfl) fun w' hw => ⟨?_, hw.chg⟩)
    rw [← hc]
    rfl
  · have hpos : 0 < m := by have := of_decide_eq_true h0; omega
    obtain ⟨k, rfl⟩ : ∃ k, m = k + 1 := ⟨m - 1, by omega⟩
    repeat (first | refine JL.q (by first | (apply OQ.gtrB (b := 0); exact rfl; exact rfl; exact h0) | (apply OQ.move; exact rfl) | (apply OQ.len; exact rfl; exact rfl)) rfl ?_ | refine JC.seq ?_ | refine JC.region ?_ | refine JL.nil ?_ | refine JE.next ?_)
    refine JC.cond rfl (fun _ => ?_) (fun h => by cases h)
    have hk : k < (s.hd (s.l.take (k + 1))).l.length := by omega
    have eg : (s.hd (s.l.take (k + 1))).l.getD k 0 = s.l.getD k 0 := by
      rw [hyl, List.getD_eq_getElem?_getD, List.getD_eq_getElem?_getD, List.getElem?_take, if_pos (by omega)]
    obtain ⟨ba, ja, hae, hca⟩ := hy.reads.at (by simp; omega)
    have hcc := hca k _ (map_at U8 0 hk)
    have hav : (s.hd (s.l.take (k + 1))).v = .slice (some ⟨ba, ja, none⟩) (k + 1) (s.hd (s.l.take (k + 1))).cap := by
      show Value.slice (s.hd (s.l.take (k + 1))).ad (s.hd (s.l.take (k + 1))).l.length _ = _
      rw [hae, hyn]
    rw [eg] at hcc
    have hgo := cut_go (s := s.l) (n := k) hm
    have hst := cut_stop (s := s.l) (n := k) hm
    have ef : (s.hd (s.l.take (k + 1))).fst k = s.hd (s.l.take k) := by
      rw [Sl8.fst_hd]
      unfold Sl8.hd
      rw [List.take_take, Nat.min_eq_left (by omega)]
    have cb := fun w' (hw' : Holds w [] [] w') => bhas_any b (s.l.getD k 0) w' (hb.holds hw')
    have e1 : k + 1 - 1 = k := rfl
    generalize s.l.getD k 0 = c at hcc hgo hst cb
    have hsz : k + 1 < 9223372036854775808 := by omega
    cases hbl : bl c
    · rw [hbl] at cb
      rw [hav]
      repeat (first | refine JL.q (by first | (apply OQ.subN (a := k + 1) (b := 1); exact rfl; exact rfl; exact (Nat.le_add_left _ _); exact hsz) | (apply OQ.idxS1 (i := k); exact Tryz.underlying22; exact u8s; exact rfl; exact rfl; exact (Nat.lt_succ_self k)) | (apply OQ.load_old; exact u8c; exact rfl; exact (block_lt_of_cell hcc); exact (by simp); exact hcc) | (apply OQ.callx (vs := [Pt b 0, U8 c]); exact goes_bhas; exact rfl; exact (fun w' hw' => cb w' hw')) | (apply OQ.not; exact rfl) | (apply OQ.move; exact rfl) | (apply OQ.len; exact rfl; exact rfl)) rfl ?_ | refine JC.seq ?_ | refine JC.region ?_ | refine JC.block ?_ | refine JC.skip ?_ | refine JL.nil ?_ | refine JE.next ?_)
      refine JC.cond rfl (fun _ => ?_) (fun h => by cases h)
      repeat (first | refine JL.q (by first | (apply OQ.move; exact rfl) | (apply OQ.assign; exact rfl)) rfl ?_ | refine JC.seq ?_ | refine JC.region ?_ | refine JC.exit ?_ | refine JL.nil ?_ | refine JE.next ?_ | refine JE.then_exit ?_ | refine JE.blk_hit ?_ | refine JE.blk_miss rfl ?_)
      refine JC.ret (JE.ret1 rfl (RV.tmp rfl) fun w' hw => ⟨?_, hw.chg⟩)
      rw [← hav, ← hc, hst hbl]
    · rw [hbl] at cb
      have hle : k ≤ (s.hd (s.l.take (k + 1))).l.length := by omega
      rw [hav]
      repeat (first | refine JL.q (by first | (apply OQ.subN (a := k + 1) (b := 1); exact rfl; exact rfl; exact (Nat.le_add_left _ _); exact hsz) | (apply OQ.idxS1 (i := k); exact Tryz.underlying22; exact u8s; exact rfl; exact rfl; exact (Nat.lt_succ_self k)) | (apply OQ.load_old; exact u8c; exact rfl; exact (block_lt_of_cell hcc); exact (by simp); exact hcc) | (apply OQ.callx (vs := [Pt b 0, U8 c]); exact goes_bhas; exact rfl; exact (fun w' hw' => cb w' hw')) | (apply OQ.not; exact rfl) | (apply OQ.move; exact rfl) | (apply OQ.len; exact rfl; exact rfl)) rfl ?_ | refine JC.seq ?_ | refine JC.region ?_ | refine JC.block ?_ | refine JC.skip ?_ | refine JL.nil ?_ | refine JE.next ?_)
      refine JC.cond rfl (fun h => by cases h) (fun _ => ?_)
      repeat (first | refine JL.q (by first | (apply OQ.subN (a := k + 1) (b := 1); exact rfl; exact rfl; exact (Nat.le_add_left _ _); exact hsz) | (apply OQ.fst (s := s.hd (s.l.take (k + 1))) (m := k); exact Tryz.underlying22; exact u8s; exact (congrArg some hav.symm); exact rfl; exact hle; exact hcap) | (apply OQ.move; exact rfl) | (apply OQ.assign; exact rfl) | (apply OQ.len; exact rfl; exact rfl)) rfl ?_ | refine JC.region ?_ | refine JC.skip ?_ | refine JL.nil ?_ | refine JE.next ?_ | refine JE.blk_normal ?_)
      rw [ef]
      exact JE.again (i := k + 1) k ⟨by omega, by rw [← hc, hgo hbl]⟩ (Nat.lt_succ_self k) (by repeat (first | exact SubE.nil | refine SubE.cons _ _ _ rfl ?_)) (Less.refl _)
set_option maxHeartbeats 8000000 in
theorem btr_any (s : Sl8) (w : World) (hs : s.ok w) (hl : s.l.length < 9223372036854775808) : Calls Tryz.prog 191 [s.v, Z [32, 9]].toArray w fun e w' => e = .returned (s.hd (cutR s.l)).v ∧ Ext w w' := by
  refine enter (n := 38) Tryz.func191 rfl rfl rfl (Holds.start w []) ?_
  have e2 : ([32, 9] : List Bt).length = 2 := rfl
  cases h0 : decide ((s.l.length : Int) = 0)
  · repeat (first | refine JL.q (by first | (apply OQ.eqB (a := (s.l.length : Int)) (b := 0); exact rfl; exact rfl; exact h0) | (apply OQ.eqSB (l := [32, 9]) (r := []); exact rfl; exact rfl; exact rfl) | (apply OQ.pick_f; exact rfl; exact rfl) | (apply OQ.move; exact rfl) | (apply OQ.assign; exact rfl) | (apply OQ.len; exact rfl; exact rfl)) rfl ?_ | refine JC.seq ?_ | refine JC.region ?_ | refine JL.nil ?_ | refine JE.next ?_ | refine JL.gon rfl rfl ?_)
    refine JC.cond rfl (fun h => by cases h) (fun _ => ?_)
    repeat (first | refine JL.q (by first | (apply OQ.lenS; exact Tryz.underlying9; exact rfl) | (apply OQ.eqB (a := 2) (b := 1); exact rfl; exact rfl; exact rfl) | (apply OQ.pick_f; exact rfl; exact rfl) | (apply OQ.move; exact rfl)) rfl ?_ | refine JC.seq ?_ | refine JC.region ?_ | refine JC.skip ?_ | refine JL.nil ?_ | refine JE.next ?_ | refine JL.gskip rfl rfl rfl rfl ?_)
    refine JC.cond rfl (fun h => by cases h) (fun _ => ?_)
    repeat (first | refine JL.q (by first | (apply OQ.callx (vs := [Z [32, 9]]); exact goes_bmset; exact rfl; exact (fun w' _ => bmset_any w')) | (apply OQ.extract; exact rfl; exact rfl) | (apply OQ.move; exact rfl)) rfl ?_ | refine JC.seq ?_ | refine JC.region ?_ | refine JC.skip ?_ | refine JE.next ?_)
    refine JL.alloc asZ rfl fun b _ => ?_
    refine JL.store_all asS rfl rfl (asr_len 2) (asr_one 2) .here rfl ?_
    repeat (first | refine JL.q (by first | (apply OQ.move; exact rfl) | (apply OQ.assign; exact rfl)) rfl ?_ | refine JC.seq ?_ | refine JC.region ?_ | refine JL.nil ?_ | refine JE.next ?_)
    refine JC.cond rfl (fun _ => ?_) (fun h => by cases h)
    have ct := fun w' (hw' : Holds w [] [⟨b, Row 234 (asr 2), true⟩] w') => btra_any s b w' (hs.holds hw' rfl) hl (fun c => by
      obtain ⟨o, ho, hA⟩ := hw'.get (b := b) (A := Row 234 (asr 2)) (wr := true) .here
      exact cell_of ho (Row.cell (asr_bl c) o hA))
    repeat (first | refine JL.q (by first | (apply OQ.callx (vs := [s.v, Pt b 0]); exact goes_btra; exact rfl; exact (fun w' hw' => ct w' hw')) | (apply OQ.move; exact rfl) | (apply OQ.assign; exact rfl)) rfl ?_ | refine JC.seq ?_ | refine JC.region ?_ | refine JL.nil ?_ | refine JE.next ?_)
    refine JC.ret ?_
    repeat (refine JE.then_ret ?_)
    exact JE.ret1 rfl (RV.tmp rfl) fun w' hw => ⟨rfl, hw.chg⟩
  · have hn : s.l = [] := List.eq_nil_of_length_eq_zero (by have := of_decide_eq_true h0; omega)
    repeat (first | refine JL.q (by first | (apply OQ.eqB (a := (s.l.length : Int)) (b := 0); exact rfl; exact rfl; exact h0) | (apply OQ.pick_t; exact rfl; exact rfl) | (apply OQ.move; exact rfl) | (apply OQ.assign; exact rfl) | (apply OQ.len; exact rfl; exact rfl)) rfl ?_ | refine JC.seq ?_ | refine JC.region ?_ | refine JL.nil ?_ | refine JE.next ?_ | refine JL.gskip rfl rfl rfl rfl ?_)
    refine JC.cond rfl (fun _ => ?_) (fun h => by cases h)
    repeat (first | refine JL.q (by first | (apply OQ.move; exact rfl) | (apply OQ.assign; exact rfl)) rfl ?_ | refine JC.seq ?_ | refine JC.region ?_ | refine JL.nil ?_ | refine JE.next ?_)
    refine JC.ret ?_
    repeat (refine JE.then_ret ?_)
    refine JE.ret1 rfl (RV.tmp rfl) fun w' hw => ⟨?_, hw.chg⟩
    rw [hn, show s.hd (cutR []) = s by rw [show cutR [] = s.l by rw [hn]; rfl]; rfl]
/-- what a cut of a byte at the end tells -/
theorem bcs_any (s : Sl8) (b cap : Nat) (c : Bt) (w : World) (hl : s.l.length ≤ 4611686018427387904) (hs : s.ok w) (hd : (⟨some ⟨b, 0, none⟩, cap, [c]⟩ : Sl8).ok w) : Calls Tryz.prog 234 [s.v, .slice (some ⟨b, 0, none⟩) 1 cap].toArray w fun e w' => e = .returned (.tuple #[(trimS1 c s).v, .bool (decide (s.l.getLast? = some c))]) ∧ Ext w w' := by
  refine enter (n := 18) Tryz.func234 rfl rfl rfl (Holds.start w []) ?_
  have hcap := hs.len
  have hq := fun w' (hw' : Holds w [] [] w') => suf_any s ⟨some ⟨b, 0, none⟩, cap, [c]⟩ w' (hs.holds hw' rfl) (hd.holds hw' rfl) hl
  rw [show sufB s.l (Sl8.l ⟨some ⟨b, 0, none⟩, cap, [c]⟩) = _ from suf_last s.l c] at hq
  unfold trimS1
  by_cases h : s.l.getLast? = some c
  · rw [if_pos h]
    simp only [h, decide_true] at hq ⊢
    have hpos : 1 ≤ s.l.length := by
      cases hh : s.l with
      | nil => rw [hh] at h; cases h
      | cons x r => simp
    have hle : s.l.length - 1 ≤ s.l.length := by omega
    repeat (first | refine JL.q (by first | (apply OQ.callx (vs := [s.v, .slice (some ⟨b, 0, none⟩) 1 cap]); exact goes_suf; exact rfl; exact (fun w' hw' => hq w' hw')) | (apply OQ.not; exact rfl) | (apply OQ.move; exact rfl) | (apply OQ.assign; exact rfl)) rfl ?_ | refine JC.seq ?_ | refine JC.region ?_ | refine JL.nil ?_ | refine JE.next ?_)
    refine JC.cond rfl (fun h => by cases h) (fun _ => ?_)
    repeat (first | refine JL.q (by first | (apply OQ.subN (a := s.l.length) (b := 1); exact rfl; exact rfl; exact hpos; exact (by omega)) | (apply OQ.fst (s := s) (m := s.l.length - 1); exact Tryz.underlying22; exact u8s; exact rfl; exact rfl; exact hle; exact hcap) | (apply OQ.move; exact rfl) | (apply OQ.assign; exact rfl) | (apply OQ.len; exact rfl; exact rfl)) rfl ?_ | refine JC.seq ?_ | refine JC.region ?_ | refine JC.skip ?_ | refine JL.nil ?_ | refine JE.next ?_)
    exact JC.ret (JE.ret2 rfl (RV.tmp rfl) (RV.tmp rfl) fun w' hw => ⟨rfl, hw.chg⟩)
  · rw [if_neg h]
    simp only [h, decide_false] at hq ⊢
    repeat (first | refine JL.q (by first | (apply OQ.callx (vs := [s.v, .slice (some ⟨b, 0, none⟩) 1 cap]); exact goes_suf; exact rfl; exact (fun w' hw' => hq w' hw')) | (apply OQ.not; exact rfl) | (apply OQ.move; exact rfl) | (apply OQ.assign; exact rfl)) rfl ?_ | refine JC.seq ?_ | refine JC.region ?_ | refine JL.nil ?_ | refine JE.next ?_)
    refine JC.cond rfl (fun _ => ?_) (fun h => by cases h)
    repeat (first | refine JL.q (by first | (apply OQ.move; exact rfl) | (apply OQ.assign; exact rfl)) rfl ?_ | refine JC.seq ?_ | refine JC.region ?_ | refine JL.nil ?_ | refine JE.next ?_)
    refine JC.ret ?_
    repeat (refine JE.then_ret ?_)
    exact JE.ret2 rfl (RV.tmp rfl) (RV.tmp rfl) fun w' hw => ⟨rfl, hw.chg⟩
theorem trimS1_hd (c : Bt) (s : Sl8) : trimS1 c s = s.hd (if s.l.getLast? = some c then s.l.dropLast else s.l) := by
  unfold trimS1
  split
  · rw [Sl8.fst_hd, List.dropLast_eq_take]
  · rfl
theorem wend_is (l : List Fld.By) : wendB l = if l.getLast? = some 10 then (if l.dropLast.getLast? = some 13 then l.dropLast.dropLast else l.dropLast) else l := rfl
theorem wend_take (l : List Fld.By) : ∃ m, m ≤ l.length ∧ wendB l = l.take m := by
  rw [wend_is]
  split
  · split
    · refine ⟨l.length - 1 - 1, by omega, ?_⟩
      rw [List.dropLast_eq_take, List.dropLast_eq_take, List.take_take, List.length_take, Nat.min_eq_left (by omega)]
      congr 1
      omega
    · exact ⟨l.length - 1, by omega, List.dropLast_eq_take⟩
  · exact ⟨l.length, Nat.le_refl _, List.take_length.symm⟩
theorem cutR_take (l : List Fld.By) : ∃ m, m ≤ l.length ∧ cutR l = l.take m := by
  have h : ∀ (r : List Fld.By), ∃ m, m ≤ r.length ∧ r.dropWhile bl = r.drop m := by
    intro r
    induction r with
    | nil => exact ⟨0, Nat.le_refl _, rfl⟩
    | cons c r ih =>
      obtain ⟨m, h1, h2⟩ := ih
      rw [List.dropWhile_cons]
      split
      · exact ⟨m + 1, by simp only [List.length_cons]; omega, h2⟩
      · exact ⟨0, by omega, rfl⟩
  obtain ⟨m, h1, h2⟩ := h l.reverse
  refine ⟨l.length - m, by omega, ?_⟩
  unfold cutR
  rw [h2, List.drop_reverse, List.reverse_reverse]
theorem wend_ok {s : Sl8} {w : World} (h : s.ok w) : (s.hd (wendB s.l)).ok w := by
  obtain ⟨m, _, e⟩ := wend_take s.l
  rw [e]
  exact Sl8.hd_ok h m
set_option maxHeartbeats 8000000 in
theorem mwend_any (s : Sl8) (w : World) (hs : s.ok w) (hl : s.l.length ≤ 4611686018427387904) : Calls Tryz.prog 192 [s.v].toArray w fun e w' => e = .returned (s.hd (wendB s.l)).v ∧ Ext w w' := by
  refine enter (n := 17) Tryz.func192 rfl rfl rfl (Holds.start w []) ?_
  repeat (first | refine JL.q (by first | (apply OQ.move; exact rfl) | (apply OQ.assign; exact rfl)) rfl ?_ | refine JC.seq ?_ | refine JC.region ?_ | refine JL.nil ?_ | refine JE.next ?_)
  refine JL.lit1 (v := U8 10) Tryz.underlying22 u8e rfl rfl rfl rfl fun bl _ => ?_
  have hq := fun w' (hw' : Holds w [] [⟨bl, Row 5 [U8 10], true⟩] w') => bcs_any s bl 1 10 w' hl (hs.holds hw' rfl) (row_ok (l := [10]) hw' .here rfl (Nat.le_refl _))
  rw [wend_is]
  by_cases h : s.l.getLast? = some 10
  · simp only [h, decide_true] at hq
    rw [if_pos h]
    have e1 : trimS1 10 s = s.hd s.l.dropLast := by rw [trimS1_hd, if_pos h]
    rw [e1] at hq
    have hy : (s.hd s.l.dropLast).ok w := by rw [List.dropLast_eq_take]; exact Sl8.hd_ok hs _
    have hyl : (s.hd s.l.dropLast).l.length ≤ 4611686018427387904 := by show s.l.dropLast.length ≤ _; rw [List.length_dropLast]; omega
    have e2 : trimS1 13 (s.hd s.l.dropLast) = s.hd (if s.l.dropLast.getLast? = some 13 then s.l.dropLast.dropLast else s.l.dropLast) := trimS1_hd 13 _
    rw [← e2]
    repeat (first | refine JL.q (by first | (apply OQ.callx (vs := [s.v, .slice (some ⟨bl, 0, none⟩) 1 1]); exact goes_bcs; exact rfl; exact hq) | (apply OQ.extract; exact rfl; exact rfl) | (apply OQ.not; exact rfl) | (apply OQ.move; exact rfl) | (apply OQ.assign; exact rfl)) rfl ?_ | refine JC.seq ?_ | refine JC.region ?_ | refine JL.nil ?_ | refine JE.next ?_)
    refine JC.cond rfl (fun h => by cases h) (fun _ => ?_)
    repeat (first | refine JL.q (by (apply OQ.move; exact rfl)) rfl ?_ | refine JC.seq ?_ | refine JC.region ?_ | refine JC.skip ?_ | refine JE.next ?_)
    refine JL.lit1 (v := U8 13) Tryz.underlying22 u8e rfl rfl rfl rfl fun bl2 _ => ?_
    repeat (first | refine JL.q (by first | (apply OQ.callx (vs := [(s.hd s.l.dropLast).v, .slice (some ⟨bl2, 0, none⟩) 1 1]); exact goes_btrims; exact rfl; exact (fun w' hw' => btrims_any (s.hd s.l.dropLast) bl2 1 13 w' hyl (hy.holds hw' rfl) (row_ok (l := [13]) hw' .here rfl (Nat.le_refl _)))) | (apply OQ.assign; exact rfl)) rfl ?_ | refine JL.nil ?_ | refine JE.next ?_)
    exact JC.ret (JE.ret1 rfl (RV.tmp rfl) fun w' hw => ⟨rfl, hw.chg⟩)
  · simp only [h, decide_false] at hq
    rw [if_neg h]
    repeat (first | refine JL.q (by first | (apply OQ.callx (vs := [s.v, .slice (some ⟨bl, 0, none⟩) 1 1]); exact goes_bcs; exact rfl; exact hq) | (apply OQ.extract; exact rfl; exact rfl) | (apply OQ.not; exact rfl) | (apply OQ.move; exact rfl) | (apply OQ.assign; exact rfl)) rfl ?_ | refine JC.seq ?_ | refine JC.region ?_ | refine JL.nil ?_ | refine JE.next ?_)
    refine JC.cond rfl (fun _ => ?_) (fun h => by cases h)
    repeat (first | refine JL.q (by first | (apply OQ.move; exact rfl) | (apply OQ.assign; exact rfl)) rfl ?_ | refine JC.seq ?_ | refine JC.region ?_ | refine JL.nil ?_ | refine JE.next ?_)
    refine JC.ret ?_
    repeat (refine JE.then_ret ?_)
    exact JE.ret1 rfl (RV.tmp rfl) fun w' hw => ⟨rfl, hw.chg⟩
end Go.Proofs.YtdabhneehconeaaGreatDoor

/-
  Of no statement by itself: ranges over functions ('for x := range seq'): a round's body walked with the rules for lists of operations; what the caller of the iterator owes; a function that leaves with such a loop's mark among its deferred calls; for any program P.
  Conditions: each rule's own hypotheses.
-/
namespace Go.Proofs.YtdabhneehconeaaGreatDoor
namespace Sl

/-! ### entries, less than known -/
inductive Less2 : List Ent → List Ent → Prop where
  | nil (N : List Ent) : Less2 [] N
  | keep (b : Nat) (A A' : Obj → Prop) (wr wr' : Bool) (N N' : List Ent) : (∀ o, A o → A' o) → (wr' = true → wr = true) → Less2 N' N → Less2 (⟨b, A', wr'⟩ :: N') (⟨b, A, wr⟩ :: N)
  | drop (e : Ent) (N N' : List Ent) : Less2 N' N → Less2 N' (e :: N)
theorem Less2.keys {M M' : List Ent} (h : Less2 M' M) : (M'.map Ent.b).Sublist (M.map Ent.b) := by
  induction h with
  | nil => exact List.nil_sublist _
  | keep _ _ _ _ _ _ _ _ _ _ ih => exact ih.cons_cons _
  | drop _ _ _ _ ih => exact ih.cons _
theorem Less2.old {M M' : List Ent} (h : Less2 M' M) : ∀ e ∈ M', ∃ e' ∈ M, e'.b = e.b ∧ (e.wr = true → e'.wr = true) ∧ ∀ o, e'.A o → e.A o := by
  induction h with
  | nil => simp
  | keep b A A' wr wr' M M' hA hw _ ih =>
    intro e he
    simp only [List.mem_cons] at he
    rcases he with rfl | he
    · exact ⟨⟨b, A, wr⟩, by simp, rfl, hw, hA⟩
    · obtain ⟨e', h1, h2⟩ := ih e he
      exact ⟨e', by simp [h1], h2⟩
  | drop _ _ _ _ ih =>
    intro e he
    obtain ⟨e', h1, h2⟩ := ih e he
    exact ⟨e', by simp [h1], h2⟩
theorem Holds.weak2 {w0 w : World} {S : List Nat} {M M' : List Ent} (h : Holds w0 S M w) (hs : Less2 M' M) : Holds w0 S M' w := by
  refine ⟨h.chg, h.nodup.sublist hs.keys, fun e he => ?_⟩
  obtain ⟨e', h1, h2, h3, h4⟩ := hs.old e he
  obtain ⟨⟨o, ho, hA⟩, h5⟩ := h.all e' h1
  exact ⟨⟨o, h2 ▸ ho, h4 o hA⟩, fun hw => h2 ▸ h5 (h3 hw)⟩
theorem Holds.perm {w0 w : World} {S : List Nat} {M M' : List Ent} (h : Holds w0 S M w) (hp : M.Perm M') : Holds w0 S M' w :=
  ⟨h.chg, (hp.map Ent.b).nodup_iff.1 h.nodup, fun e he => h.all e (hp.mem_iff.2 he)⟩
/-- the blocks that may be written -/
def wrs (M : List Ent) : List Nat := (M.filter (·.wr)).map Ent.b
theorem mem_wrs {M : List Ent} {k : Nat} : k ∈ wrs M ↔ ∃ e ∈ M, e.wr = true ∧ e.b = k := by
  simp [wrs, and_assoc]
/-- the same knowledge, from this world on -/
theorem Holds.rebase {w0 w : World} {S : List Nat} {M : List Ent} (h : Holds w0 S M w) : Holds w (wrs M) M w :=
  ⟨Chg.refl _ _, h.nodup, fun e he => ⟨(h.all e he).1, fun hw => .inl (mem_wrs.2 ⟨e, he, hw, rfl⟩)⟩⟩
theorem Holds.wrs_ge {w0 w : World} {M : List Ent} (h : Holds w0 [] M w) : ∀ k ∈ wrs M, w0.heap.size ≤ k := fun k hk => by
  obtain ⟨e, he, hw, rfl⟩ := mem_wrs.1 hk
  rcases (h.all e he).2 hw with h | h
  · cases h
  · exact h
theorem Holds.unbase {w0 w w' : World} {M M' : List Ent} (h : Holds w0 [] M w) (h' : Holds w (wrs M) M' w') : Holds w0 [] M' w' := by
  refine ⟨⟨h'.chg.os.trans h.chg.os, h'.chg.tape.trans h.chg.tape, h'.chg.output.trans h.chg.output, Nat.le_trans h.chg.size h'.chg.size, fun k hk _ => ?_⟩, h'.nodup, fun e he => ⟨(h'.all e he).1, fun hw => .inr ?_⟩⟩
  · refine (h'.chg.block k (Nat.lt_of_lt_of_le hk h.chg.size) fun hm => ?_).trans (h.chg.block k hk (by simp))
    have := h.wrs_ge k hm
    omega
  · rcases (h'.all e he).2 hw with h1 | h1
    · exact h.wrs_ge _ h1
    · exact Nat.le_trans h.chg.size h1
theorem Holds.rebound {w0 w1 w : World} {M M' : List Ent} (h : Holds w1 (wrs M) M' w) (hx : Ext w0 w1) (hge : ∀ k ∈ wrs M, w0.heap.size ≤ k) : Ext w0 w :=
  ⟨h.chg.os.trans hx.os, h.chg.tape.trans hx.tape, h.chg.output.trans hx.output, Nat.le_trans hx.size h.chg.size, fun k hk _ => (h.chg.block k (Nat.lt_of_lt_of_le hk hx.size) fun hm => by have := hge k hm; omega).trans (hx.block k hk (by simp))⟩
theorem nodup_inj {M : List Ent} (h : (M.map Ent.b).Nodup) : ∀ {e1 e2 : Ent}, e1 ∈ M → e2 ∈ M → e1.b = e2.b → e1 = e2 := by
  induction M with
  | nil => intro e1 e2 h1; cases h1
  | cons x M ih =>
    simp only [List.map_cons, List.nodup_cons] at h
    intro e1 e2 h1 h2 he
    rcases List.mem_cons.1 h1 with rfl | h1'
    · rcases List.mem_cons.1 h2 with rfl | h2'
      · rfl
      · exact absurd (he ▸ List.mem_map_of_mem (f := Ent.b) h2') h.1
    · rcases List.mem_cons.1 h2 with rfl | h2'
      · exact absurd (he ▸ List.mem_map_of_mem (f := Ent.b) h1') h.1
      · exact ih h.2 h1' h2' he
theorem Repl.other {M M' : List Ent} {b b' : Nat} {A A' : Obj → Prop} (h : Repl M b A b' A' M') (hn : (M.map Ent.b).Nodup) : ∀ e ∈ M', e = ⟨b', A', true⟩ ∨ (e ∈ M ∧ e.b ≠ b) := by
  induction h with
  | @here b A b' A' M =>
    intro e he
    simp only [List.map_cons, List.nodup_cons] at hn
    simp only [List.mem_cons] at he
    rcases he with rfl | he
    · exact .inl rfl
    · exact .inr ⟨by simp [he], fun h => hn.1 (h ▸ List.mem_map_of_mem he)⟩
  | @there x M b A b' A' M' hu ih =>
    intro e he
    simp only [List.map_cons, List.nodup_cons] at hn
    simp only [List.mem_cons] at he
    rcases he with rfl | he
    · refine .inr ⟨by simp, fun h => hn.1 ?_⟩
      rw [h]
      exact List.mem_map_of_mem hu.has.mem (f := Ent.b)
    · rcases ih hn.2 e he with h | ⟨h1, h2⟩
      · exact .inl h
      · exact .inr ⟨by simp [h1], h2⟩
/-- A call was handed a block of one's own, wrote it, or handed back a new one in its place. -/
theorem Holds.relay {w0 w w' : World} {S : List Nat} {M M' : List Ent} {b b' : Nat} {A A' : Obj → Prop} (h : Holds w0 S M w) (hr : Repl M b A b' A' M') (hc : Holds w [b] [⟨b', A', true⟩] w') : Holds w0 S M' w' := by
  have hin := (h.all _ hr.has.mem).2 rfl
  obtain ⟨⟨o, ho, hA⟩, hb'⟩ := hc.all ⟨b', A', true⟩ (by simp)
  have hb' := hb' rfl
  simp only [List.mem_singleton] at hb' hin ho
  have hlt : b < w.heap.size := h.lt hr.has.mem
  refine ⟨⟨hc.chg.os.trans h.chg.os, hc.chg.tape.trans h.chg.tape, hc.chg.output.trans h.chg.output, Nat.le_trans h.chg.size hc.chg.size, fun k hk hS => ?_⟩, ?_, fun e he => ?_⟩
  · refine (hc.chg.block k (Nat.lt_of_lt_of_le hk h.chg.size) ?_).trans (h.chg.block k hk hS)
    intro hkb
    have hkb : k = b := by simpa using hkb
    subst hkb
    rcases hin with h4 | h4
    · exact hS h4
    · omega
  · rcases hb' with rfl | hb'
    · rw [hr.upd.keys]; exact h.nodup
    · refine hr.nodup h.nodup fun hm => ?_
      obtain ⟨e, he, hb⟩ := List.mem_map.1 hm
      have := h.lt he
      omega
  · rcases hr.other h.nodup e he with rfl | ⟨h4, h5⟩
    · refine ⟨⟨o, ho, hA⟩, fun _ => ?_⟩
      rcases hb' with rfl | hb'
      · exact hin
      · exact .inr (Nat.le_trans h.chg.size hb')
    · obtain ⟨⟨o2, ho2, hA2⟩, h6⟩ := h.all e h4
      exact ⟨⟨o2, (hc.chg.block _ (h.lt h4) (by simpa using h5)).trans ho2, hA2⟩, h6⟩

/-! ### operations in a round -/
section
variable {P : Program} {m l : Nat}
def noDef (o : Oper) : Bool := match o.op with
  | .defer _ => false
  | _ => true
abbrev Rd (l : Nat) : Fence := Fence.wide.inRound l
theorem wpIn_of_wp {o : Oper} {a : Act} {w : World} {K K' : Act → World → Prop} {Q : Exit → Act → World → Prop} (hd : noDef o = true) (hQ : ¬ LetsOut Q) (hK : ∀ a w, K a w → K' a w) (h : o.wp P a w K Q) : o.wpIn (Rd l) m P a w K' Q := by
  refine ⟨fun _ _ => trivial, ?_⟩
  have e : Oper.semAt (Rd l).round a.eval o = execOp a.eval o := Oper.semAt_some l _ _ fun c hc => by
    unfold noDef at hd
    rw [hc] at hd
    cases hd
  rw [e]
  unfold Oper.wp at h
  have hdep : (Rd l).depth.isSome = true → 1 ≤ m := fun h => by cases h
  cases hr : (execOp a.eval o).run P w with
  | ok nx w' =>
    rw [hr] at h
    cases nx with
    | value v => exact hK _ _ h
    | skip => exact hK _ _ h
    | defer d => exact hK _ _ h
    | enter f args =>
      have h' : Calls P f args w' fun
        | .returned v, w'' => K (a.put o.dst v) w''
        | .panicked chain, w'' => Q (.panic chain) a w''
        | .outgrown, _ => LetsOut Q := h
      refine ⟨hdep, (callsIn_wide (n := m - 1)).2 (h'.mono fun e w2 h2 => ?_)⟩
      cases e with
      | returned v => exact hK _ _ h2
      | panicked ch => exact h2
      | outgrown => exact h2
    | row r args =>
      have h' : Rows P r args w' fun v w'' => K (a.put o.dst v) w'' := h
      refine ⟨hdep, fun c cs _ => ?_⟩
      obtain ⟨v, w2, h2, hs⟩ := h' c cs
      exact ⟨v, w2, hK _ _ h2, stepsIn_wide.2 hs⟩
    | round => exact h.elim
    | _ => exact h.elim
  | halt x w' =>
    rw [hr] at h
    cases x with
    | panic v => exact h
    | _ => exact h.elim
theorem wpListIn_of_wpList {ops : Array Oper} {Q : Exit → Act → World → Prop} (hQ : ¬ LetsOut Q) : ∀ (os : List Oper), os.all noDef = true → ∀ a w, wpList P ops Q os a w → wpListIn (Rd l) m P ops Q os a w
  | [], _, a, w, h => h
  | o :: os, hd, a, w, h => by
    simp only [List.all_cons, Bool.and_eq_true] at hd
    have ih := wpListIn_of_wpList (ops := ops) hQ os hd.2
    unfold wpList at h
    unfold wpListIn
    by_cases hw : Region.wanted o (yielded ops a.tmps) = true
    · simp only [hw, if_true] at h ⊢
      rcases h with h | h
      · exact wpIn_of_wp hd.1 hQ ih h
      · exact absurd h.2 hQ
    · simp only [hw, if_false] at h ⊢
      exact ⟨fun _ _ => trivial, ih _ _ h⟩
end

section
variable {P : Program} {n : Nat} {w0 : World} {S : List Nat} {Q Q' : Exit → Act → World → Prop} {E : Env} {M : List Ent} {m l : Nat}
structure JR (P : Program) (n : Nat) (w0 : World) (S : List Nat) (l m : Nat) (Q : Exit → Act → World → Prop) (c : Code) (E : Env) (M : List Ent) : Prop where
  go : ∀ a w, Knows n E a → Holds w0 S M w → c.wpIn (Rd l) m P Q a w
theorem JR.region {id : Nat} {os : List Oper} (hd : os.all noDef = true) (hQ : ¬ LetsOut Q) (h : JL P n w0 S os.toArray Q os E M) : JR P n w0 S l m Q (.region id os.toArray false) E M :=
  ⟨fun a w ha hw => wpIn_region_lit (wpListIn_of_wpList hQ os hd a w (h.go a w ha hw))⟩
theorem JR.seq {x y : Code} (h : JR P n w0 S l m (Exit.then (y.wpIn (Rd l) m P Q) Q) x E M) : JR P n w0 S l m Q (.seq x y) E M := ⟨fun a w ha hw => wpIn_seq (h.go a w ha hw)⟩
theorem JR.block {id : Nat} {c : Code} (h : JR P n w0 S l m (Exit.inBlock id Q) c E M) : JR P n w0 S l m Q (.block id c) E M := ⟨fun a w ha hw => wpIn_block (h.go a w ha hw)⟩
theorem JE.nextR {y : Code} (h : JR P n w0 S l m Q' y E M) : JE n w0 S (Exit.then (y.wpIn (Rd l) m P Q') Q) .normal E M := ⟨h.go⟩
theorem lo_then {K : Act → World → Prop} (h : ¬ LetsOut Q) : ¬ LetsOut (Exit.then K Q) := fun ⟨a, w, x⟩ => h ⟨a, w, x⟩
theorem lo_blk {id : Nat} (h : ¬ LetsOut Q) : ¬ LetsOut (Exit.inBlock id Q) := fun ⟨a, w, x⟩ => h ⟨a, w, x⟩
end

/-! ### behind the loop: the mark among the deferred calls -/
def mk (D : Nat) : Deferred := { target := .collected D, args := #[] }
def Dead : Obj → Prop := fun o => o = .deferred (some [])
structure KnowsM (D n : Nat) (E : Env) (a : Act) : Prop where
  defers : a.defers = [mk D]
  base : Knows n E { a with defers := [] }
section
variable {P : Program} {D n : Nat} {w0 : World} {S : List Nat} {ops : Array Oper} {Q Q' : Exit → Act → World → Prop} {os : List Oper} {E : Env} {M : List Ent} {d : Nat} {op : Op} {ty : TypeId} {pos : String} {aft : Array Edge} {v : Value}
theorem bare_eval (a : Act) : ({ a with defers := [] } : Act).eval = a.eval := funext fun x => by cases x <;> rfl
theorem KnowsM.put {a : Act} (h : KnowsM D n E a) (d : Nat) (v : Value) (hd : Nat.blt d n = true) : KnowsM D n ((d, v) :: E) (a.put (some d) v) := ⟨h.defers, h.base.put d v hd⟩
theorem KnowsM.eval {a : Act} (h : KnowsM D n E a) {x : Operand} {v : Value} (hx : ev E x = some v) : a.eval x = v := by
  rw [← bare_eval]; exact h.base.eval hx
structure KL (P : Program) (D n : Nat) (w0 : World) (S : List Nat) (ops : Array Oper) (Q : Exit → Act → World → Prop) (os : List Oper) (E : Env) (M : List Ent) : Prop where
  go : ∀ a w, KnowsM D n E a → Holds w0 S M w → wpList P ops Q os a w
structure KE (D n : Nat) (w0 : World) (S : List Nat) (Q : Exit → Act → World → Prop) (e : Exit) (E : Env) (M : List Ent) : Prop where
  go : ∀ a w, KnowsM D n E a → Holds w0 S M w → Q e a w
structure KC (P : Program) (D n : Nat) (w0 : World) (S : List Nat) (Q : Exit → Act → World → Prop) (c : Code) (E : Env) (M : List Ent) : Prop where
  go : ∀ a w, KnowsM D n E a → Holds w0 S M w → c.wp P Q a w
theorem KC.seq {x y : Code} (h : KC P D n w0 S (Exit.then (y.wp P Q) Q) x E M) : KC P D n w0 S Q (.seq x y) E M := ⟨fun a w ha hw => wp_seq (h.go a w ha hw)⟩
theorem KC.skip (h : KE D n w0 S Q .normal E M) : KC P D n w0 S Q .skip E M := ⟨fun a w ha hw => wp_skip (h.go a w ha hw)⟩
theorem KC.ret (h : KE D n w0 S Q .ret E M) : KC P D n w0 S Q .ret E M := ⟨fun a w ha hw => wp_ret (h.go a w ha hw)⟩
theorem KC.cond {c : Operand} {x y : Code} {t : Bool} (hc : ev E c = some (.bool t)) (ht : t = true → KC P D n w0 S Q x E M) (hf : t = false → KC P D n w0 S Q y E M) : KC P D n w0 S Q (.cond c x y) E M :=
  ⟨fun a w ha hw => wp_cond_split (ha.eval hc) (fun h => (ht h).go a w ha hw) (fun h => (hf h).go a w ha hw)⟩
theorem KC.region {id : Nat} {os : List Oper} (h : KL P D n w0 S os.toArray Q os E M) : KC P D n w0 S Q (.region id os.toArray false) E M := ⟨fun a w ha hw => wp_region_lit (h.go a w ha hw)⟩
theorem KE.next {y : Code} (h : KC P D n w0 S Q' y E M) : KE D n w0 S (Exit.then (y.wp P Q') Q) .normal E M := ⟨h.go⟩
theorem KE.then_ret {K : Act → World → Prop} (h : KE D n w0 S Q .ret E M) : KE D n w0 S (Exit.then K Q) .ret E M := ⟨h.go⟩
theorem KE.blk_normal {id : Nat} (h : KE D n w0 S Q .normal E M) : KE D n w0 S (Exit.inBlock id Q) .normal E M := ⟨h.go⟩
theorem KL.nil (h : KE D n w0 S Q .normal E M) : KL P D n w0 S ops Q [] E M := ⟨h.go⟩
theorem KL.q (h : OQ P n E (Holds w0 S M) ⟨some d, op, ty, pos, aft, none⟩ v) (hd : Nat.blt d n = true) (k : KL P D n w0 S ops Q os ((d, v) :: E) M) : KL P D n w0 S ops Q (⟨some d, op, ty, pos, aft, none⟩ :: os) E M :=
  ⟨fun a _ ha hw => wpList_plain rfl fun _ hK => Oper.wp_of_quiet (C := Holds w0 S M) (K := fun a' => a' = a.put (some d) v) hw (fun _ _ hw' e => hK _ _ (e ▸ k.go _ _ (ha.put d v hd) hw')) ⟨v, fun w hw => by
    have := h.go _ ha.base w hw
    unfold Oper.quietAt at this ⊢
    rwa [bare_eval] at this, rfl⟩⟩
theorem KC.weak {c : Code} {M' : List Ent} (hM : Less M' M) (h : KC P D n w0 S Q c E M') : KC P D n w0 S Q c E M := ⟨fun a w ha hw => h.go a w ha (hw.weak hM)⟩
/-- the way out: the block of the rounds' deferred calls is shut -/
theorem leaves_mark {m : Nat} {fn : Func} {R : Ending → World → Prop} {a : Act} {w : World} {v : Value} (ha : KnowsM D n E a) (hw : Holds w0 S (⟨D, Dead, true⟩ :: M) w)
    (hv : ∀ w', Holds w0 S M w' → (results fn a.tmps).run P w' = .ok v w') (hR : ∀ w', Holds w0 S M w' → R (.returned v) w') : bodyPostM Fence.wide m P fn R .ret a w := by
  obtain ⟨o, ho, hA⟩ := hw.get (b := D) (A := Dead) (wr := true) .here
  cases hA
  have hlt : D < w.heap.size := (Array.getElem?_eq_some_iff.1 ho).1
  have h2 : Holds w0 S (⟨D, fun o => o = .deferred none, true⟩ :: M) (w.putObj D (.deferred none)) :=
    hw.write (A' := fun o => o = .deferred none) .here rfl (World.putObj_heap_same hlt) World.putObj_size (fun k hk => World.putObj_heap_other hk) rfl rfl rfl
  have h3 : Holds w0 S M (w.putObj D (.deferred none)) := h2.weak (.drop _ _ _ (Less.refl _))
  show LeavesInM Fence.wide m P fn a.tmps R a.defers .returning w
  rw [ha.defers]
  exact ⟨by simp, .inl ⟨D, _, rfl, run_takeDeferred ho, v, hv _ h3, hR _ h3⟩⟩
theorem KE.ret1 {m : Nat} {fn : Func} {R : Ending → World → Prop} {r1 : Tmp} {v1 : Value} (hr : fn.results = #[.tmp r1]) (h1 : lk E r1 = some v1) (hR : ∀ w, Holds w0 S M w → R (.returned v1) w) : KE D n w0 S (bodyPostM Fence.wide m P fn R) .ret E (⟨D, Dead, true⟩ :: M) := by
  refine ⟨fun a w ha hw => leaves_mark (v := v1) ha hw (fun w' _ => ?_) hR⟩
  have e1 : a.tmps.getD r1 undef = v1 := ha.base.all r1 v1 h1
  rw [results_eq, hr]
  simp [rvRun, e1]
theorem KE.ret2 {m : Nat} {fn : Func} {R : Ending → World → Prop} {r1 r2 : Tmp} {v1 v2 : Value} (hr : fn.results = #[.tmp r1, .tmp r2]) (h1 : lk E r1 = some v1) (h2 : lk E r2 = some v2) (hR : ∀ w, Holds w0 S M w → R (.returned (.tuple #[v1, v2])) w) : KE D n w0 S (bodyPostM Fence.wide m P fn R) .ret E (⟨D, Dead, true⟩ :: M) := by
  refine ⟨fun a w ha hw => leaves_mark (v := .tuple #[v1, v2]) ha hw (fun w' _ => ?_) hR⟩
  have e1 : a.tmps.getD r1 undef = v1 := ha.base.all r1 v1 h1
  have e2 : a.tmps.getD r2 undef = v2 := ha.base.all r2 v2 h2
  rw [results_eq, hr]
  simp [rvRun, e1, e2, Sem.run_bind]
theorem KE.less {e : Exit} {M' : List Ent} (hM : Less M' M) (h : KE D n w0 S Q e E M') : KE D n w0 S Q e E M := ⟨fun a w ha hw => h.go a w ha (hw.weak hM)⟩
/-- a function that holds a range over a function -/
theorem enterM {f : FuncId} {fn : Func} {c : Code} {vs : List Value} {w : World} {R : Ending → World → Prop} (hf : P.funcs[f]? = some fn) (hb : fn.body = some c) (hn : fn.ntmps = n) (hl : Nat.ble vs.length n = true)
    (hM : Holds w S M w) (h : JC P n w S (bodyPostM Fence.wide 3 P fn R) c (enum 0 vs) M) : Calls P f vs.toArray w R := by
  refine callsIn_wide.1 (callsIn_of_wp_marks (n := 3) hf hb trivial (wpIn_wide.2 (h.go _ _ ?_ hM)))
  rw [hn]
  exact Knows.enter vs (by simpa using hl)
end

/-! ### the statement -/
structure KeepL (L : List Nat) (W W' : World) : Prop where
  os : W'.os = W.os
  tape : W'.tape = W.tape
  output : W'.output = W.output
  size : W.heap.size ≤ W'.heap.size
  same : ∀ k ∈ L, W'.heap[k]? = W.heap[k]?
theorem KeepL.trans {L : List Nat} {X Y Z : World} (h : KeepL L X Y) (k : KeepL L Y Z) : KeepL L X Z :=
  ⟨k.os.trans h.os, k.tape.trans h.tape, k.output.trans h.output, Nat.le_trans h.size k.size, fun i hi => (k.same i hi).trans (h.same i hi)⟩
/-- how a round's body is left -/
def roundQ {α ι : Type} (Mi : ι → List Ent) (Inv : List α → ι → Prop) (xs : List α) (w1 : World) (S1 : List Nat) : Exit → Act → World → Prop
  | .normal, _, W' => ∃ j, Inv xs j ∧ Holds w1 S1 (Mi j) W'
  | _, _, _ => False
theorem lo_roundQ {α ι : Type} {Mi : ι → List Ent} {Inv : List α → ι → Prop} {xs : List α} {w1 : World} {S1 : List Nat} : ¬ LetsOut (roundQ Mi Inv xs w1 S1) := fun ⟨_, _, h⟩ => h
theorem JE.round {α ι : Type} {n : Nat} {w1 : World} {S1 : List Nat} {E : Env} {M : List Ent} {Mi : ι → List Ent} {Inv : List α → ι → Prop} {xs : List α} (j : ι) (hj : Inv xs j) (hM : Less (Mi j) M) : JE n w1 S1 (roundQ Mi Inv xs w1 S1) .normal E M :=
  ⟨fun _ _ _ hw => ⟨j, hj, hw.weak hM⟩⟩
theorem JC.range {P : Program} {n : Nat} {w0 : World} {Q : Exit → Act → World → Prop} {E : Env} {M : List Ent} {α ι : Type} {g : Operand} {p d rid : Nat} {ty : TypeId} {pos : String} {body : Code} {gf : Nat} {lb : Array Value} (enc : α → Value) (L : List Nat) (Sd Sp : List α → Prop) (N : Nat)
    (Mi : ι → List Ent) (Inv : List α → ι → Prop) (hg : ev E g = some (.func (.func gf) #[] lb)) (eg : ∀ args w, (callFunc gf args).run P w = .ok (.enter gf args) w)
    (hseq : ∀ W, Holds w0 [] M W → SeqStopsK Fence.wide 2 P gf lb (fun x => #[enc x]) (KeepL L) Sd Sp N W)
    (hcell : ∀ i, ∀ e ∈ Mi i, ∀ o, e.A o → o.isCells = true) (hL : ∀ i, ∀ k ∈ L, k < w0.heap.size ∨ ∃ A, Has (Mi i) k A false)
    (i0 : ι) (h0 : Inv [] i0) (hM : ∀ w, Holds w0 [] M w → Holds w0 [] (Mi i0) w) (hp : Nat.blt p n = true) (hd : Nat.blt d n = true)
    (hbody : ∀ l pre x i w1, Inv pre i → pre.length < N → Ext w0 w1 → (∀ k ∈ wrs (Mi i), w0.heap.size ≤ k) → JR P n w1 (wrs (Mi i)) l 1 (roundQ Mi Inv (pre ++ [x]) w1 (wrs (Mi i))) body ((d, enc x) :: (p, enc x) :: E) (Mi i))
    (hdone : ∀ D xs i, Sd xs → Inv xs i → KE D n w0 [] Q .normal E (⟨D, Dead, true⟩ :: Mi i)) :
    JC P n w0 [] Q (.rangeFunc g #[p] (.region rid #[⟨some d, .assign (.tmp p), ty, pos, #[], none⟩] false) body) E M := by
  refine ⟨fun a w ha hw => (wpIn_wide (n := 3)).1 ?_⟩
  have hLw : ∀ k ∈ L, k < w.heap.size := fun k hk => by
    rcases hL i0 k hk with h | ⟨A, h⟩
    · exact Nat.lt_of_lt_of_le h hw.chg.size
    · exact (hM w hw).lt h.mem
  have hI : OwnFrom w.heap.size (fun pre W => ∃ i, Inv pre i ∧ Holds w0 [] (Mi i) W) := by
    rintro pre W W' row ⟨i, hi, h⟩ hgr hrow
    refine ⟨i, hi, ⟨hgr.os.trans h.chg.os, hgr.tape.trans h.chg.tape, hgr.output.trans h.chg.output, Nat.le_trans h.chg.size hgr.size, fun k hk _ => ?_⟩, h.nodup, fun e he => ⟨?_, (h.all e he).2⟩⟩
    · refine (hgr.block k (Nat.lt_of_lt_of_le hk h.chg.size) fun hr => ?_).trans (h.chg.block k hk (by simp))
      have := (hrow k hr.symm).1
      have := hw.chg.size
      omega
    · obtain ⟨o, ho, hA⟩ := (h.all e he).1
      refine ⟨o, (hgr.block e.b (h.lt he) fun hr => ?_).trans ho, hA⟩
      obtain ⟨_, o2, ho2, hc⟩ := hrow _ hr.symm
      rw [ho] at ho2
      cases ho2
      rw [hcell i e he o hA] at hc
      cases hc
  have hpn : p < n := by simpa using hp
  have hdn : d < n := by simpa using hd
  refine wpIn_rangeFunc_ownG (n := 3) rfl (by omega) (gf := gf) (lb := lb) (ha.eval hg) trivial eg (w0 := w) (hseq w hw) (fun h k => h.trans k) (fun W l o o' hl _ _ _ => ?_) (RowKit.Below.refl _ _) (fun _ => rfl)
    (fun pre W => ∃ i, Inv pre i ∧ Holds w0 [] (Mi i) W) (fun _ _ _ => False) hI (fun _ _ _ _ _ h _ _ => h) ⟨i0, h0, hM w hw⟩ (fun x => (a.put (some p) (enc x)).put (some d) (enc x)) ?_ ?_ ?_ (fun _ _ _ _ _ _ h _ => h.elim)
  · exact ⟨rfl, rfl, rfl, by simp, fun k hk => World.putObj_heap_other (by have := hLw k hk; omega)⟩
  · intro l x W K hK
    refine wpIn_region_lit (wpListIn_plain rfl fun K' hK' => ⟨fun _ _ => trivial, ?_⟩)
    have he : ((#[p].zip #[enc x]).foldl (fun t (x : Nat × Value) => t.setIfInBounds x.1 x.2) a.tmps).getD p undef = enc x := by
      have : p < a.tmps.size := by rw [ha.size]; exact hpn
      simp [this]
    have hs : Oper.semAt (Rd l).round ({ tmps := (#[p].zip #[enc x]).foldl (fun t (x : Nat × Value) => t.setIfInBounds x.1 x.2) a.tmps, defers := [] } : Act).eval ⟨some d, .assign (.tmp p), ty, pos, #[], none⟩ = .pure (.value (enc x)) := by
      refine (Oper.semAt_some l _ _ ?_).trans ?_
      · intro c h; cases h
      show Sem.pure (Next.value (_ : Value)) = _
      exact congrArg (fun v => Sem.pure (Next.value v)) he
    show Oper.uponIn _ _ _ _ _ _ _ ((Oper.semAt (Rd l).round _ _).run P W)
    rw [hs]
    refine hK' _ _ (wpListIn_nil ?_)
    show K _ W
    have e : ({ tmps := (#[p].zip #[enc x]).foldl (fun t (x : Nat × Value) => t.setIfInBounds x.1 x.2) a.tmps, defers := [] } : Act).put (some d) (enc x) = (a.put (some p) (enc x)).put (some d) (enc x) := by
      obtain ⟨tm, df⟩ := a
      have := ha.defers
      simp only at this
      subst this
      simp [Act.put]
    rw [e]
    exact hK
  · rintro l pre x W ⟨i, hi, h⟩ hlen
    refine wpIn_mono ((hbody l pre x i W hi hlen h.chg h.wrs_ge).go _ W ((ha.put p _ hp).put d _ hd) h.rebase) ?_
    · rintro e a2 W2 hq
      cases e with
      | normal =>
        obtain ⟨j, hj, h2⟩ := hq
        refine ⟨⟨h2.chg.size, fun k o _ hk ho => ?_⟩, ⟨h2.chg.os, h2.chg.tape, h2.chg.output, h2.chg.size, fun k hk => ?_⟩, j, hj, h.unbase h2⟩
        · refine (h2.chg.block k (Array.getElem?_eq_some_iff.1 hk).1 fun hm => ?_).trans hk
          obtain ⟨e, he, _, rfl⟩ := mem_wrs.1 hm
          obtain ⟨o', ho', hA⟩ := (h.all e he).1
          rw [hk] at ho'
          cases ho'
          rw [hcell i e he _ hA] at ho
          cases ho
        · rcases hL i k hk with hlt | ⟨A, hA⟩
          · exact h2.chg.block k (Nat.lt_of_lt_of_le hlt h.chg.size) fun hm => by have := h.wrs_ge k hm; omega
          · refine h2.chg.block k (h.lt hA.mem) fun hm => ?_
            obtain ⟨e, he, hwr, hb⟩ := mem_wrs.1 hm
            have := nodup_inj h.nodup he hA.mem hb
            subst this
            cases hwr
      | ret => exact hq.elim
      | exit id => exact hq.elim
      | goto t => exact hq.elim
      | panic ch => exact hq.elim
      | outgrown => exact hq.elim
  · rintro D xs W hD hS ⟨i, hi, h⟩ hk
    refine (hdone D xs i hS hi).go _ W ⟨?_, ?_⟩ ?_
    · show _ :: a.defers = _
      rw [ha.defers]; rfl
    · exact ⟨ha.size, rfl, ha.all⟩
    · refine ⟨h.chg, ?_, fun e he => ?_⟩
      · simp only [List.map_cons, List.nodup_cons, h.nodup, and_true]
        intro hm
        obtain ⟨e, he, hb⟩ := List.mem_map.1 hm
        obtain ⟨o, ho, hA⟩ := (h.all e he).1
        rw [hb] at ho
        rw [hk] at ho
        cases ho
        have := hcell i e he _ hA
        cases this
      · simp only [List.mem_cons] at he
        rcases he with rfl | he
        · exact ⟨⟨_, hk, rfl⟩, fun _ => .inr (Nat.le_trans hw.chg.size hD)⟩
        · exact h.all e he
end Sl
end Go.Proofs.YtdabhneehconeaaGreatDoor

/-
  Of no statement by itself: rules by which an iterator's own text is walked (a function that calls yield): the world is fixed between two rounds; for any program P.
  Conditions: each rule's own hypotheses.
-/
namespace Go.Proofs.YtdabhneehconeaaGreatDoor
namespace Sl
section
variable {P : Program} {n : Nat} {W : World} {ops : Array Oper} {Q Q' : Exit → Act → World → Prop} {os : List Oper} {E E' : Env} {d : Nat} {op : Op} {ty : TypeId} {pos : String} {aft : Array Edge} {v : Value} {m : Nat}
structure FL (P : Program) (n m : Nat) (W : World) (ops : Array Oper) (Q : Exit → Act → World → Prop) (os : List Oper) (E : Env) : Prop where
  go : ∀ a, Knows n E a → wpListIn Fence.wide m P ops Q os a W
structure FE (n : Nat) (W : World) (Q : Exit → Act → World → Prop) (e : Exit) (E : Env) : Prop where
  go : ∀ a, Knows n E a → Q e a W
structure FC (P : Program) (n : Nat) (W : World) (Q : Exit → Act → World → Prop) (c : Code) (E : Env) : Prop where
  go : ∀ a, Knows n E a → c.wp P Q a W
theorem FC.seq {x y : Code} (h : FC P n W (Exit.then (y.wp P Q) Q) x E) : FC P n W Q (.seq x y) E := ⟨fun a ha => wp_seq (h.go a ha)⟩
theorem FC.skip (h : FE n W Q .normal E) : FC P n W Q .skip E := ⟨fun a ha => wp_skip (h.go a ha)⟩
theorem FC.ret (h : FE n W Q .ret E) : FC P n W Q .ret E := ⟨fun a ha => wp_ret (h.go a ha)⟩
theorem FC.exit {id : Nat} (h : FE n W Q (.exit id) E) : FC P n W Q (.exit id) E := ⟨fun a ha => wp_exit (h.go a ha)⟩
theorem FC.block {id : Nat} {c : Code} (h : FC P n W (Exit.inBlock id Q) c E) : FC P n W Q (.block id c) E := ⟨fun a ha => wp_block (h.go a ha)⟩
theorem FC.cond {c : Operand} {x y : Code} {t : Bool} (hc : ev E c = some (.bool t)) (ht : t = true → FC P n W Q x E) (hf : t = false → FC P n W Q y E) : FC P n W Q (.cond c x y) E :=
  ⟨fun a ha => wp_cond_split (ha.eval hc) (fun h => (ht h).go a ha) (fun h => (hf h).go a ha)⟩
theorem FC.region {id : Nat} {os : List Oper} (h : FL P n 2 W os.toArray Q os E) : FC P n W Q (.region id os.toArray false) E := ⟨fun a ha => (wpIn_wide (n := 2)).1 (wpIn_region_lit (h.go a ha))⟩
theorem FE.next {y : Code} (h : FC P n W Q' y E) : FE n W (Exit.then (y.wp P Q') Q) .normal E := ⟨h.go⟩
theorem FE.then_exit {K : Act → World → Prop} {id : Nat} (h : FE n W Q (.exit id) E) : FE n W (Exit.then K Q) (.exit id) E := ⟨h.go⟩
theorem FE.then_ret {K : Act → World → Prop} (h : FE n W Q .ret E) : FE n W (Exit.then K Q) .ret E := ⟨h.go⟩
theorem FE.blk_normal {id : Nat} (h : FE n W Q .normal E) : FE n W (Exit.inBlock id Q) .normal E := ⟨h.go⟩
theorem FE.blk_ret {id : Nat} (h : FE n W Q .ret E) : FE n W (Exit.inBlock id Q) .ret E := ⟨h.go⟩
theorem FE.blk_hit {id : Nat} (h : FE n W Q .normal E) : FE n W (Exit.inBlock id Q) (.exit id) E := ⟨fun a ha => by
  show (if id = id then Q .normal a W else _)
  rw [if_pos rfl]; exact h.go a ha⟩
theorem FL.nil (h : FE n W Q .normal E) : FL P n m W ops Q [] E := ⟨h.go⟩
theorem FL.q (h : OQ P n E (fun w => w = W) ⟨some d, op, ty, pos, aft, none⟩ v) (hdf : noDef ⟨some d, op, ty, pos, aft, none⟩ = true) (hd : Nat.blt d n = true) (k : FL P n m W ops Q os ((d, v) :: E)) : FL P n m W ops Q (⟨some d, op, ty, pos, aft, none⟩ :: os) E :=
  ⟨fun a ha => wpListIn_plain rfl fun K hK => by
    have hk := hK _ _ (k.go _ (ha.put d v hd))
    have hq := h.go a ha W rfl
    refine ⟨fun _ _ => trivial, ?_⟩
    have e : Oper.semAt Fence.wide.round a.eval ⟨some d, op, ty, pos, aft, none⟩ = execOp a.eval ⟨some d, op, ty, pos, aft, none⟩ := rfl
    rw [e]
    unfold Oper.quietAt at hq
    cases hr : (execOp a.eval ⟨some d, op, ty, pos, aft, none⟩).run P W with
    | ok nx w' =>
      rw [hr] at hq
      cases nx with
      | value u =>
        obtain ⟨rfl, rfl⟩ := hq
        exact hk
      | skip =>
        obtain ⟨rfl, rfl⟩ := hq
        exact hk
      | enter f args =>
        obtain ⟨rfl, hc⟩ := hq
        refine ⟨fun h => (by cases h), (callsIn_wide (n := m - 1)).2 (hc.mono ?_)⟩
        rintro e w2 ⟨rfl, rfl⟩
        exact hk
      | _ => exact hq.elim
    | halt x w' =>
      rw [hr] at hq
      exact hq.elim⟩
/-- a call of yield -/
theorem FL.yield {l : Nat} {x y : Operand} {t : TypeId} {R : Ending → World → Prop} (hx : ev E x = some (.func (.yield l) #[] #[])) (hy : ev E y = some v) (hd : Nat.blt d n = true) (h : YieldAt Fence.wide 1 P l #[v] W R)
    (hR : ∀ e W', R e W' → ∃ b, e = .returned (.bool b) ∧ FL P n 2 W' ops Q os ((d, .bool b) :: E)) : FL P n 2 W ops Q (⟨some d, .call ⟨.value x, #[y], #[t]⟩, ty, pos, aft, none⟩ :: os) E :=
  ⟨fun a ha => wpListIn_plain rfl fun K hK => by
    obtain ⟨fn, tmps, assign, body, hrun, hro⟩ := h
    refine ⟨fun _ _ => trivial, ?_⟩
    have e : (Oper.semAt Fence.wide.round a.eval ⟨some d, .call ⟨.value x, #[y], #[t]⟩, ty, pos, aft, none⟩).run P W = .ok (.round l fn tmps assign body) W := by
      have e0 : Oper.semAt Fence.wide.round a.eval ⟨some d, .call ⟨.value x, #[y], #[t]⟩, ty, pos, aft, none⟩ = execOp a.eval ⟨some d, .call ⟨.value x, #[y], #[t]⟩, ty, pos, aft, none⟩ := rfl
      rw [e0]
      simp only [execOp, resolve, Sem.run_bind, ha.eval hx, List.map_toArray, List.map_cons, List.map_nil, ha.eval hy, Deferred.ofValue, Sem.run_pure, Result.andThen_ok, invoke]
      simpa using hrun
    rw [e]
    refine ⟨fun h => (by cases h), hro.mono fun e W' hr => ?_⟩
    obtain ⟨b, rfl, hl⟩ := hR e W' hr
    exact hK _ _ (hl.go _ (ha.put d _ hd))⟩
/-- a loop whose rounds leave other worlds -/
theorem FC.loop {ι : Type} (Ei : ι → Env) (Ci : ι → World → Prop) (μ : ι → Nat) {c : Code} (i : ι) (hi : Ci i W) (hE : SubE E (Ei i))
    (h : ∀ i w, Ci i w → FC P n w (Exit.then (fun a' w' => ∃ j, Ci j w' ∧ μ j < μ i ∧ Knows n (Ei j) a') Q) c (Ei i)) : FC P n W Q (.loop c) E := by
  refine ⟨fun a ha => ?_⟩
  have ha' := ha.sub hE
  clear ha hE
  have key : ∀ m i, μ i = m → ∀ a w, Ci i w → Knows n (Ei i) a → ∀ (b : Frame) (k : List Item) (cs : List Frame),
      ∃ e a' w', Q e a' w' ∧ Arrives P (lone (b.at a (.code c :: .inLoop c :: k)) cs w) b k cs e a' w' := by
    intro m
    induction m using Nat.strongRecOn with
    | _ m ih =>
      intro i hm a w hw ha b k cs
      obtain ⟨e, a₁, w₁, hq, harr⟩ := (h i w hw).go a ha b (.inLoop c :: k) cs
      cases e with
      | normal =>
        obtain ⟨j, hw₁, hlt, ha₁⟩ := hq
        obtain ⟨e₂, a₂, w₂, hq₂, harr₂⟩ := ih (μ j) (hm ▸ hlt) j rfl a₁ w₁ hw₁ ha₁ b k cs
        exact ⟨e₂, a₂, w₂, hq₂, .of_steps (Steps.trans harr (.one step_inLoop)) harr₂⟩
      | exit id => exact ⟨_, a₁, w₁, hq, .pass (x := .inLoop c) rfl (fun _ _ => .inl (by simp)) harr⟩
      | goto l => exact ⟨_, a₁, w₁, hq, .pass (x := .inLoop c) rfl (fun _ _ => .inl (by simp)) harr⟩
      | ret => exact ⟨_, a₁, w₁, hq, .pass (x := .inLoop c) rfl (fun _ _ => .inl (by simp)) harr⟩
      | panic ch => exact ⟨_, a₁, w₁, hq, .pass (x := .inLoop c) rfl (fun _ _ => .inl (by simp)) harr⟩
      | outgrown => exact ⟨_, a₁, w₁, hq, .pass (x := .inLoop c) rfl (fun _ _ => .inl (by simp)) harr⟩
  intro b k cs
  obtain ⟨e, a', w', hq, harr⟩ := key _ i rfl a W hi ha' b k cs
  exact ⟨e, a', w', hq, .of_steps (.one step_loop) harr⟩
theorem FE.again {ι : Type} {Ei : ι → Env} {Ci : ι → World → Prop} {μ : ι → Nat} {i : ι} (j : ι) (hj : Ci j W) (hμ : μ j < μ i) (hE : SubE E (Ei j)) :
    FE n W (Exit.then (fun a' w' => ∃ j, Ci j w' ∧ μ j < μ i ∧ Knows n (Ei j) a') Q) .normal E := ⟨fun _ ha => ⟨j, hj, hμ, ha.sub hE⟩⟩
theorem FE.ret0 {fn : Func} {R : Ending → World → Prop} (hr : fn.results = #[]) (hR : R (.returned (.tuple #[])) W) : FE n W (bodyPost P fn R) .ret E := ⟨fun a ha => ⟨ha.defers, .tuple #[], by simp [results, hr], hR⟩⟩
theorem FE.end0 {fn : Func} {R : Ending → World → Prop} (hr : fn.results = #[]) (hR : R (.returned (.tuple #[])) W) : FE n W (bodyPost P fn R) .normal E := ⟨fun a ha => ⟨ha.defers, .tuple #[], by simp [results, hr], hR⟩⟩
theorem enterF {f : FuncId} {fn : Func} {c : Code} {vs : List Value} {R : Ending → World → Prop} (hf : P.funcs[f]? = some fn) (hb : fn.body = some c) (hn : fn.ntmps = n) (hl : Nat.ble vs.length n = true)
    (h : FC P n W (bodyPost P fn R) c (enum 0 vs)) : Calls P f vs.toArray W R := by
  refine calls_of_wp hf hb (h.go _ ?_)
  rw [hn]
  exact Knows.enter vs (by simpa using hl)
end
end Sl
end Go.Proofs.YtdabhneehconeaaGreatDoor

/-
  Of no statement by itself: Slg's rule for regions whose order is open, with any relation between what an operation makes and what the one it stems from made.
  Conditions: the rule's own hypotheses.
-/
namespace Go.Proofs.YtdabhneehconeaaGreatDoor
namespace Sl
variable {Y : Type}
structure GrowR (Y : Type) where
  E0 : Env
  N : Nat
  v : Nat → Y → Value
  M : Nat → Y → List Ent
  need : Nat → List (Nat × Nat)
  inp : Nat → List Nat
  eat : Nat → List Nat
  src : Nat → Option Nat
  E1 : Nat → Env
  R : Nat → Y → Y → Prop
/-- what is known at first of a slot that a later operation writes -/
def GrowR.okE1 (g : GrowR Y) (l : List Oper) (i : Nat) : Bool :=
  (g.E1 i).all fun p => (List.range l.length).all fun k => dstOf l k != some p.1 || (k != i && behindOf l k i)
def GrowR.okOp (g : GrowR Y) (l : List Oper) (i : Nat) (o : Oper) : Bool :=
  (((g.need i).all (fun p => behind o p.1 && dstOf l p.1 == some p.2) && srcOk o (g.src i)) && g.okE1 l i) &&
  ((g.inp i).all (fun j => decide (j < g.N) && (decide (l.length ≤ j) || behind o j)) &&
  ((g.eat i).all (fun j => (g.inp i).contains j) &&
  ((List.range l.length).all (fun k => k == i || (g.eat k).all fun j => !(g.inp i).contains j || behindOf l k i) &&
  (noDup (g.inp i) && (o.after.toList.all (fun e => !Region.binds .any e || decide (e.on < i)) && apartD l g.E0 i o.dst)))))
def GrowR.okFrom (g : GrowR Y) (l : List Oper) : Nat → List Oper → Bool
  | _, [] => true
  | i, o :: r => g.okOp l i o && g.okFrom l (i + 1) r
theorem GrowR.okFrom_at {g : GrowR Y} {l : List Oper} : ∀ {r : List Oper} {i : Nat}, g.okFrom l i r = true → ∀ {j o}, r[j]? = some o → g.okOp l (i + j) o = true
  | [], _, _, j, o, h => by simp at h
  | q :: r, i, hk, j, o, h => by
    simp only [GrowR.okFrom, Bool.and_eq_true] at hk
    cases j with
    | zero =>
      simp only [List.getElem?_cons_zero, Option.some.injEq] at h
      subst h
      exact hk.1
    | succ j =>
      have := GrowR.okFrom_at hk.2 (j := j) (o := o) (by simpa using h)
      rwa [show i + 1 + j = i + (j + 1) by omega] at this
def GrowR.Job (g : GrowR Y) (P : Program) (n : Nat) (w0 : World) (S : List Nat) (l : List Oper) (i : Nat) (o : Oper) : Prop :=
  ∀ (x : Nat → Y) (EF : Env) (MF : List Ent) (Q : Exit → Act → World → Prop),
    (∀ xi : Y, (∀ k, g.src i = some k → g.R i xi (x k)) → JE n w0 S Q .normal (slot o.dst (g.v i xi) ++ ((g.need i).map (fun p => (p.2, g.v p.1 (x p.1))) ++ (g.E0 ++ (g.E1 i ++ EF)))) (g.M i xi ++ (((g.inp i).filter fun j => !(g.eat i).contains j).flatMap (fun j => g.M j (x j)) ++ MF))) →
    JL P n w0 S l.toArray Q [o] ((g.need i).map (fun p => (p.2, g.v p.1 (x p.1))) ++ (g.E0 ++ (g.E1 i ++ EF))) ((g.inp i).flatMap (fun j => g.M j (x j)) ++ MF)
def GrowR.Jobs (g : GrowR Y) (P : Program) (n : Nat) (w0 : World) (S : List Nat) (l : List Oper) : Nat → List Oper → Prop
  | _, [] => True
  | i, o :: r => g.Job P n w0 S l i o ∧ g.Jobs P n w0 S l (i + 1) r
theorem GrowR.Jobs_at {g : GrowR Y} {P : Program} {n : Nat} {w0 : World} {S : List Nat} {l : List Oper} : ∀ {r : List Oper} {i : Nat}, g.Jobs P n w0 S l i r → ∀ {j o}, r[j]? = some o → g.Job P n w0 S l (i + j) o
  | [], _, _, j, o, h => by simp at h
  | q :: r, i, hk, j, o, h => by
    cases j with
    | zero =>
      simp only [List.getElem?_cons_zero, Option.some.injEq] at h
      subst h
      exact hk.1
    | succ j =>
      have := GrowR.Jobs_at hk.2 (j := j) (o := o) (by simpa using h)
      rwa [show i + 1 + j = i + (j + 1) by omega] at this

/-- which makings stand -/
def GrowR.live (g : GrowR Y) (m : Nat) (done : Array Bool) (j : Nat) : Prop := j < g.N ∧ (m ≤ j ∨ done.getD j false = true) ∧ ∀ k, done.getD k false = true → j ∉ g.eat k
structure GrowR.Inv (g : GrowR Y) (n : Nat) (w0 : World) (S : List Nat) (l : List Oper) (done : Array Bool) (x : Nat → Y) (a : Act) (w : World) : Prop where
  size : a.tmps.size = n
  defers : a.defers = []
  dsize : done.size = l.length
  base : ∀ p ∈ g.E0, a.tmps.getD p.1 undef = p.2
  first : ∀ j, j < l.length → done.getD j false = false → ∀ p ∈ g.E1 j, a.tmps.getD p.1 undef = p.2
  vals : ∀ j d, done.getD j false = true → dstOf l j = some d → a.tmps.getD d undef = g.v j (x j)
  rel : ∀ j k, done.getD j false = true → g.src j = some k → g.R j (x j) (x k)
  down : ∀ j i, done.getD j false = true → behindOf l j i = true → done.getD i false = true
  mem : HoldsI w0 S (g.live l.length done) (fun j => g.M j (x j)) w

section
variable {P : Program} {n : Nat} {w0 : World} {S : List Nat} {Q : Exit → Act → World → Prop} {E : Env} {M : List Ent} {g : GrowR Y} {l : List Oper}
theorem GrowR.run (hok : g.okFrom l 0 l = true) (hj : g.Jobs P n w0 S l 0 l)
    (hend : ∀ done x a w, g.Inv n w0 S l done x a w → (∀ j, j < l.length → done.getD j false = true) → Q .normal a w) :
    ∀ (f : Nat) (done : Array Bool) (x : Nat → Y) (a : Act) (w : World), f = (List.range l.length).countP (fun j => !done.getD j false) → g.Inv n w0 S l done x a w → wpAny P .any l.toArray Q f done a w := by
  have hrdy : ∀ done : Array Bool, done.size = l.length → Region.ready .any l.toArray done = [] → ∀ j, j < l.length → done.getD j false = true := by
    intro done hds hr j
    induction j using Nat.strongRecOn with
    | _ j ih =>
      intro hjl
      cases hd : done.getD j false with
      | true => rfl
      | false =>
        obtain ⟨o, ho⟩ : ∃ o, l[j]? = some o := ⟨_, List.getElem?_eq_getElem hjl⟩
        have hk := GrowR.okFrom_at hok ho
        simp only [GrowR.okOp, Bool.and_eq_true, Nat.zero_add] at hk
        have hkk := hk.2.2.2.2.2.1
        have : j ∈ Region.ready .any l.toArray done := by
          rw [mem_ready]
          refine ⟨?_, o, by simpa using ho, fun e he hb => ?_⟩
          · rw [Array.getD_eq_getD_getElem?, Array.getElem?_eq_getElem (by omega)] at hd ⊢
            simpa using hd
          · have := List.all_eq_true.1 hkk e (by simpa using he)
            simp only [hb, Bool.not_true, Bool.false_or, decide_eq_true_eq] at this
            exact ih e.on this (by omega)
        rw [hr] at this
        cases this
  intro f
  induction f with
  | zero =>
    intro done x a w hf hI
    have hall : ∀ j, j < l.length → done.getD j false = true := fun j hjl => by
      have := List.countP_eq_zero.1 hf.symm j (List.mem_range.2 hjl)
      simpa using this
    refine ⟨?_, hend done x a w hI hall⟩
    refine List.eq_nil_iff_forall_not_mem.2 fun i hi => ?_
    obtain ⟨hu, o, ho, _⟩ := mem_ready.1 hi
    have hil : i < l.length := by
      have := (Array.getElem?_eq_some_iff.1 ho).1
      simpa using this
    have := hall i hil
    rw [Array.getD_eq_getD_getElem?, Array.getElem?_eq_getElem (by have := hI.dsize; omega)] at hu this
    simp only [Option.getD_some] at hu this
    rw [hu] at this
    cases this
  | succ f ih =>
    intro done x a w hf hI
    have hds := hI.dsize
    refine ⟨fun h0 => hend done x a w hI (hrdy done hds h0), fun i hi => ?_⟩
    obtain ⟨hu, o, ho, hbe⟩ := mem_ready.1 hi
    have hil : i < l.length := by
      have := (Array.getElem?_eq_some_iff.1 ho).1
      simpa using this
    have ho' : l[i]? = some o := by simpa using ho
    have hu' : done.getD i false = false := by
      rw [Array.getD_eq_getD_getElem?, Array.getElem?_eq_getElem (by omega)] at hu ⊢
      simpa using hu
    have hk := GrowR.okFrom_at hok ho'
    simp only [GrowR.okOp, Bool.and_eq_true, Nat.zero_add] at hk
    obtain ⟨⟨⟨k1, k8⟩, k9⟩, k2, k3, k4, k5, _, k7⟩ := hk
    have hbeh : ∀ j, behind o j = true → done.getD j false = true := fun j hj => by
      simp only [behind, List.any_eq_true, Bool.and_eq_true, beq_iff_eq] at hj
      obtain ⟨e, he, rfl, hb⟩ := hj
      exact hbe e (by simpa using he) hb
    have hbi : ∀ k, behindOf l k i = true → done.getD k false = false := fun k hk => by
      cases h : done.getD k false with
      | false => rfl
      | true => have := hI.down k i h hk; rw [hu'] at this; cases this
    have hinp : ∀ j ∈ g.inp i, g.live l.length done j := by
      intro j hj
      have h2 := List.all_eq_true.1 k2 j hj
      simp only [Bool.and_eq_true, Bool.or_eq_true, decide_eq_true_eq] at h2
      refine ⟨h2.1, h2.2.imp id (hbeh j), fun k hkd hjk => ?_⟩
      have hkl : k < l.length := by
        by_cases h : k < l.length
        · exact h
        · rw [Array.getD_eq_getD_getElem?, Array.getElem?_eq_none (by omega)] at hkd
          cases hkd
      have h4 := List.all_eq_true.1 k4 k (List.mem_range.2 hkl)
      have hki : k ≠ i := fun e => by rw [e, hu'] at hkd; cases hkd
      simp only [Bool.or_eq_true, beq_iff_eq, hki, false_or] at h4
      have h5 := List.all_eq_true.1 h4 j hjk
      simp only [Bool.or_eq_true, Bool.not_eq_true', List.contains_eq_mem, decide_eq_false_iff_not, hj, not_true, false_or] at h5
      rw [hbi k h5] at hkd
      cases hkd
    have hdone_ne : ∀ j, done.getD j false = true → j ≠ i := fun j hj e => by rw [e, hu'] at hj; cases hj
    have hlen : ∀ k, done.getD k false = true → k < l.length := fun k hkd => by
      by_cases h : k < l.length
      · exact h
      · rw [Array.getD_eq_getD_getElem?, Array.getElem?_eq_none (by omega)] at hkd
        cases hkd
    have hdi : dstOf l i = o.dst := by simp [dstOf, ho']
    have hne : ∀ j d, done.getD j false = true → dstOf l j = some d → o.dst ≠ some d := by
      intro j d hjd hd he
      rw [he] at k7
      simp only [apartD, Bool.and_eq_true] at k7
      have := List.all_eq_true.1 k7.1 j (List.mem_range.2 (hlen j hjd))
      simp [hdone_ne j hjd, hd] at this
    have hne0 : ∀ p ∈ g.E0, o.dst ≠ some p.1 := by
      intro p hp he
      rw [he] at k7
      simp only [apartD, Bool.and_eq_true] at k7
      have := List.all_eq_true.1 k7.2 p hp
      simp at this
    let rest : List Nat := (List.range g.N).filter fun j => @decide (g.live l.length done j) (Classical.propDecidable _) && !(g.inp i).contains j
    have hrest : ∀ j, j ∈ rest ↔ g.live l.length done j ∧ j ∉ g.inp i := by
      intro j
      simp only [rest, List.mem_filter, List.mem_range, Bool.and_eq_true, Bool.not_eq_true', List.contains_eq_mem, decide_eq_false_iff_not]
      refine ⟨fun ⟨_, h2, h3⟩ => ⟨@of_decide_eq_true _ (Classical.propDecidable _) h2, h3⟩, fun ⟨h2, h3⟩ => ⟨h2.1, @decide_eq_true _ (Classical.propDecidable _) h2, h3⟩⟩
    have hnd : (g.inp i ++ rest).Nodup := by
      rw [List.nodup_append]
      refine ⟨noDup_spec k5, List.nodup_range.filter _, fun a ha b hb e => ?_⟩
      exact ((hrest b).1 hb).2 (e ▸ ha)
    have H1 := hI.mem.to (g.inp i ++ rest) hnd (fun j hj => by
      rcases List.mem_append.1 hj with h | h
      · exact hinp j h
      · exact ((hrest j).1 h).1)
    rw [List.flatMap_append] at H1
    let EF0 : Env := (List.range l.length).filterMap fun j => if done.getD j false = true then (dstOf l j).map (fun d => (d, g.v j (x j))) else none
    let EF1 : Env := (List.range l.length).flatMap fun j => if done.getD j false = true then [] else g.E1 j
    let EF : Env := EF0 ++ EF1
    have hEF : ∀ p, p ∈ EF0 ↔ ∃ j d, done.getD j false = true ∧ dstOf l j = some d ∧ p = (d, g.v j (x j)) := by
      intro p
      simp only [EF0, List.mem_filterMap, List.mem_range]
      constructor
      · rintro ⟨j, _, hp⟩
        split at hp
        · rename_i hjd
          obtain ⟨d, hd, rfl⟩ := Option.map_eq_some_iff.1 hp
          exact ⟨j, d, hjd, hd, rfl⟩
        · cases hp
      · rintro ⟨j, d, hjd, hd, rfl⟩
        exact ⟨j, hlen j hjd, by rw [if_pos hjd, hd]; rfl⟩
    have hEF1 : ∀ j, j < l.length → done.getD j false = false → ∀ p ∈ g.E1 j, p ∈ EF1 := by
      intro j hjl hjd p hp
      simp only [EF1, List.mem_flatMap, List.mem_range]
      exact ⟨j, hjl, by rw [if_neg (by rw [hjd]; decide)]; exact hp⟩
    have hne1 : ∀ j, j < l.length → done.getD j false = false → ∀ p ∈ g.E1 j, o.dst ≠ some p.1 := by
      intro j hjl hjd p hp he
      have hjo : l[j]? = some (l[j]'hjl) := List.getElem?_eq_getElem hjl
      have hkj := GrowR.okFrom_at hok hjo
      simp only [GrowR.okOp, Bool.and_eq_true, Nat.zero_add] at hkj
      have h9 := List.all_eq_true.1 hkj.1.2 p hp
      have h10 := List.all_eq_true.1 h9 i (List.mem_range.2 hil)
      simp only [hdi, he, bne_self_eq_false, Bool.false_or, Bool.and_eq_true] at h10
      have h11 : behind o j = true := by simpa [behindOf, ho'] using h10.2
      rw [hbeh j h11] at hjd
      cases hjd
    have hneed : ∀ p ∈ g.need i, done.getD p.1 false = true ∧ dstOf l p.1 = some p.2 := by
      intro p hp
      have h1 := List.all_eq_true.1 k1 p hp
      simp only [Bool.and_eq_true, beq_iff_eq] at h1
      exact ⟨hbeh _ h1.1, h1.2⟩
    have hK : ∀ p ∈ ((g.need i).map (fun p => (p.2, g.v p.1 (x p.1))) ++ (g.E0 ++ (g.E1 i ++ EF))), a.tmps.getD p.1 undef = p.2 ∧ o.dst ≠ some p.1 := by
      intro p hp
      rcases List.mem_append.1 hp with h | h
      · obtain ⟨q, hq, rfl⟩ := List.mem_map.1 h
        obtain ⟨h1, h2⟩ := hneed q hq
        exact ⟨hI.vals _ _ h1 h2, hne _ _ h1 h2⟩
      · rcases List.mem_append.1 h with h | h
        · exact ⟨hI.base p h, hne0 p h⟩
        · rcases List.mem_append.1 h with h | h
          · exact ⟨hI.first i hil hu' p h, hne1 i hil hu' p h⟩
          · rcases List.mem_append.1 h with h | h
            · obtain ⟨j, d, h1, h2, rfl⟩ := (hEF p).1 h
              exact ⟨hI.vals _ _ h1 h2, hne _ _ h1 h2⟩
            · simp only [EF1, List.mem_flatMap, List.mem_range] at h
              obtain ⟨j, hjl, h⟩ := h
              cases hjd : done.getD j false with
              | true => rw [hjd] at h; simp at h
              | false =>
                rw [hjd] at h
                simp only [Bool.false_eq_true, if_false] at h
                exact ⟨hI.first j hjl hjd p h, hne1 j hjl hjd p h⟩
    have job := GrowR.Jobs_at hj ho'
    rw [Nat.zero_add] at job
    refine wpOp_of_list ho ((job x EF (rest.flatMap fun j => g.M j (x j)) _ fun xi hxi => ⟨fun a' w' hK' hH' => ?_⟩).go a w (Knows.of hI.size hI.defers fun p hp => (hK p hp).1) H1)
    have hd' : ∀ j, (done.setIfInBounds i true).getD j false = (decide (j = i) || done.getD j false) := fun j => getD_set (by omega)
    refine ih _ (fun j => if j = i then xi else x j) a' w' ?_ ?_
    · have := count_drop (l := List.range l.length) (p := fun j => !done.getD j false) (q := fun j => !(done.setIfInBounds i true).getD j false) (i := i) List.nodup_range (List.mem_range.2 hil) (by simp only [hu']; rfl) (by simp only [hd']; simp) (fun j hj => by simp only [hd']; simp [hj])
      omega
    · have hmem : ∀ p ∈ (slot o.dst (g.v i xi) ++ ((g.need i).map (fun p => (p.2, g.v p.1 (x p.1))) ++ (g.E0 ++ (g.E1 i ++ EF)))), a'.tmps.getD p.1 undef = p.2 := by
        intro p hp
        refine hK'.mem (f := fun t => if o.dst = some t then g.v i xi else a.tmps.getD t undef) (fun q hq => ?_) hp
        rcases List.mem_append.1 hq with h | h
        · cases hod : o.dst with
          | none => rw [hod] at h; cases h
          | some d =>
            rw [hod] at h
            simp only [slot, List.mem_singleton] at h
            subst h
            simp
        · have := hK q h
          simp only [this.2, if_false]
          exact this.1
      refine ⟨hK'.size, hK'.defers, by simp [hds], fun p hp => hmem p (by simp [hp]), fun j hjl hjd p hp => ?_, ?_, ?_, ?_, ?_⟩
      · rw [hd'] at hjd
        simp only [Bool.or_eq_false_iff] at hjd
        exact hmem p (List.mem_append_right _ (List.mem_append_right _ (List.mem_append_right _ (List.mem_append_right _ (List.mem_append_right _ (hEF1 j hjl hjd.2 p hp))))))
      · intro j d hjd hd
        by_cases e : j = i
        · subst e
          rw [hdi] at hd
          have := hmem (d, g.v j xi) (by simp [hd, slot])
          simpa using this
        · rw [hd'] at hjd
          simp only [e, decide_false, Bool.false_or] at hjd
          have := hmem (d, g.v j (x j)) (List.mem_append_right _ (List.mem_append_right _ (List.mem_append_right _ (List.mem_append_right _ (List.mem_append_left _ ((hEF _).2 ⟨j, d, hjd, hd, rfl⟩))))))
          simpa [e] using this
      · intro j k hjd hs
        rw [hd'] at hjd
        by_cases e : j = i
        · subst e
          rw [hs] at k8
          simp only [if_true, hdone_ne k (hbeh k k8), if_false]
          exact hxi k hs
        · simp only [e, decide_false, Bool.false_or] at hjd
          have hjo : l[j]? = some (l[j]'(hlen j hjd)) := List.getElem?_eq_getElem (hlen j hjd)
          have hkj := GrowR.okFrom_at hok hjo
          simp only [GrowR.okOp, Bool.and_eq_true, Nat.zero_add] at hkj
          have h8 := hkj.1.1.2
          rw [hs] at h8
          have hkd := hI.down j k hjd (by simpa [behindOf, hjo, srcOk] using h8)
          simp only [e, hdone_ne k hkd, if_false]
          exact hI.rel j k hjd hs
      · intro j i' hjd hb
        rw [hd'] at hjd ⊢
        by_cases e : j = i
        · subst e
          have : behind o i' = true := by simpa [behindOf, ho'] using hb
          simp [hbeh i' this]
        · simp only [e, decide_false, Bool.false_or] at hjd
          simp [hI.down j i' hjd hb]
      · have hnl : ¬ g.live l.length done i := fun h => by
          rcases h.2.1 with h | h
          · omega
          · rw [hu'] at h; cases h
        have hcg : ∀ L : List Nat, (∀ j ∈ L, g.live l.length done j) → L.flatMap (fun j => g.M j (if j = i then xi else x j)) = L.flatMap fun j => g.M j (x j) := by
          intro L
          induction L with
          | nil => simp
          | cons j L ih =>
            intro h
            have hji : j ≠ i := fun e => hnl (e ▸ h j (by simp))
            simp only [List.flatMap_cons, hji, if_false, ih fun k hk => h k (by simp [hk])]
        refine HoldsI.of (Js := i :: (((g.inp i).filter fun j => !(g.eat i).contains j) ++ rest)) ?_ ?_
        · rw [List.flatMap_cons, List.flatMap_append, hcg _ (fun j hj => hinp j (List.mem_filter.1 hj).1), hcg rest (fun j hj => ((hrest j).1 hj).1)]
          simpa using hH'
        · intro j hj
          by_cases e : j = i
          · simp [e]
          · have hl : g.live l.length done j := by
              refine ⟨hj.1, hj.2.1.imp id (fun h => ?_), fun k hk => hj.2.2 k (by rw [hd']; simp [hk])⟩
              rw [hd'] at h
              simpa [e] using h
            have hne : j ∉ g.eat i := hj.2.2 i (by rw [hd']; simp)
            by_cases hji : j ∈ g.inp i
            · simp [e, hji, hne]
            · have := (hrest j).2 ⟨hl, hji⟩
              simp [e, this]
/-- a region whose order is open, each operation told once; g.E1: what is known of slots until the region writes them -/
theorem growR_any [Inhabited Y] (g : GrowR Y) (outs : List (Nat × Nat)) (ends : List Nat) (hE : SubE E g.E0) (hE1 : ∀ i, i < l.length → SubE E (g.E1 i)) (hM : Less (((List.range g.N).filter fun j => decide (l.length ≤ j)).flatMap fun j => g.M j default) M)
    (hok : g.okFrom l 0 l = true) (ho : (outs.all fun p => decide (p.1 < l.length) && dstOf l p.1 == some p.2) = true)
    (he : (noDup ends && ends.all fun j => decide (j < g.N) && (List.range l.length).all fun k => !(g.eat k).contains j) = true)
    (hj : g.Jobs P n w0 S l 0 l)
    (k : ∀ x : Nat → Y, (∀ j k, j < l.length → g.src j = some k → g.R j (x j) (x k)) → JE n w0 S Q .normal (outs.map (fun p => (p.2, g.v p.1 (x p.1))) ++ g.E0) (ends.flatMap fun j => g.M j (x j))) {a : Act} {w : World} (ha : Knows n E a) (hw : Holds w0 S M w) : wpAny P .any l.toArray Q l.toArray.size (Array.replicate l.toArray.size false) a { w with drawn := w.drawn + 1 } := by
    have hw' := (hw.drawn (w.drawn + 1)).weak hM
    simp only [Bool.and_eq_true] at he
    refine GrowR.run hok hj (fun done x a w hI hall => ?_) _ _ (fun _ => default) a _ ?_ ?_
    · refine (k x fun j k hj hs => hI.rel j k (hall j hj) hs).go a w (Knows.of hI.size hI.defers fun p hp => ?_) (hI.mem.to ends (noDup_spec he.1) fun j hj => ?_)
      · rcases List.mem_append.1 hp with h | h
        · obtain ⟨q, hq, rfl⟩ := List.mem_map.1 h
          have := List.all_eq_true.1 ho q hq
          simp only [Bool.and_eq_true, decide_eq_true_eq, beq_iff_eq] at this
          exact hI.vals _ _ (hall _ this.1) this.2
        · exact hI.base p h
      · have := List.all_eq_true.1 he.2 j hj
        simp only [Bool.and_eq_true, decide_eq_true_eq] at this
        refine ⟨this.1, ?_, fun k hk hjk => ?_⟩
        · by_cases h : l.length ≤ j
          · exact .inl h
          · exact .inr (hall j (by omega))
        · have hkl : k < l.length := by
            by_cases h : k < l.length
            · exact h
            · have := hI.dsize
              rw [Array.getD_eq_getD_getElem?, Array.getElem?_eq_none (by omega)] at hk
              cases hk
          have := List.all_eq_true.1 this.2 k (List.mem_range.2 hkl)
          simp [hjk] at this
    · have : ∀ j, (Array.replicate l.toArray.size false).getD j false = false := fun j => by
        simp only [Array.getD_eq_getD_getElem?, Array.getElem?_replicate]
        split <;> rfl
      rw [List.countP_eq_length.2 (fun j _ => by simp only [this]; rfl)]
      simp
    · have hf : ∀ j, (Array.replicate l.toArray.size false).getD j false = false := fun j => by
        simp only [Array.getD_eq_getD_getElem?, Array.getElem?_replicate]
        split <;> rfl
      refine ⟨ha.size, ha.defers, by simp, fun p hp => ha.all _ _ (hE.all p hp), fun j hj _ p hp => ha.all _ _ ((hE1 j hj).all p hp), fun j d h => ?_, fun j k h => ?_, fun j i h => ?_, ?_⟩
      · rw [hf] at h; cases h
      · rw [hf] at h; cases h
      · rw [hf] at h; cases h
      · refine HoldsI.of hw' fun j hj => ?_
        rw [List.mem_filter]
        refine ⟨List.mem_range.2 hj.1, ?_⟩
        rcases hj.2.1 with h | h
        · simpa using h
        · rw [hf] at h; cases h
theorem JC.growR [Inhabited Y] (g : GrowR Y) (outs : List (Nat × Nat)) (ends : List Nat) {id : Nat} (hm : P.follows .mixedOrders = true) (hE : SubE E g.E0) (hE1 : ∀ i, i < l.length → SubE E (g.E1 i)) (hM : Less (((List.range g.N).filter fun j => decide (l.length ≤ j)).flatMap fun j => g.M j default) M)
    (hok : g.okFrom l 0 l = true) (ho : (outs.all fun p => decide (p.1 < l.length) && dstOf l p.1 == some p.2) = true)
    (he : (noDup ends && ends.all fun j => decide (j < g.N) && (List.range l.length).all fun k => !(g.eat k).contains j) = true)
    (hj : g.Jobs P n w0 S l 0 l)
    (k : ∀ x : Nat → Y, (∀ j k, j < l.length → g.src j = some k → g.R j (x j) (x k)) → JE n w0 S Q .normal (outs.map (fun p => (p.2, g.v p.1 (x p.1))) ++ g.E0) (ends.flatMap fun j => g.M j (x j))) : JC P n w0 S Q (.region id l.toArray true) E M :=
  ⟨fun a w ha hw => wp_region_any hm (growR_any g outs ends hE hE1 hM hok ho he hj k ha hw)⟩

end
end Sl
end Go.Proofs.YtdabhneehconeaaGreatDoor

/-
  Of no statement by itself: ranges over functions whose rounds come in an order that is told ahead (round k gets the k-th two values), and may leave the function; a round's body with regions whose order is open; for any program P.
  Conditions: each rule's own hypotheses.
-/
namespace Go.Proofs.YtdabhneehconeaaGreatDoor
namespace Sl
/-! ### more steps of a round -/
section
variable {P : Program} {m l : Nat}
theorem wpOpIn_of_wpOp {ops : Array Oper} {Q : Exit → Act → World → Prop} {i : Nat} {K K' : Act → World → Prop} {a : Act} {w : World} (hd : ops.toList.all noDef = true) (hQ : ¬ LetsOut Q) (hK : ∀ a w, K a w → K' a w) (h : wpOp P ops Q i K a w) : wpOpIn (Rd l) m P ops Q i K' a w := by
  unfold wpOp at h
  unfold wpOpIn
  cases ho : ops[i]? with
  | none => rw [ho] at h; exact hK _ _ h
  | some o =>
    rw [ho] at h
    have hno : noDef o = true := List.all_eq_true.1 hd o (by
      have := Array.mem_of_getElem? ho
      exact Array.mem_toList_iff.2 this)
    dsimp only at h ⊢
    by_cases hw : Region.wanted o (yielded ops a.tmps) = true
    · rw [if_pos hw] at h ⊢
      rcases h with h | h
      · exact wpIn_of_wp hno hQ hK h
      · exact absurd h.2 hQ
    · rw [if_neg hw] at h ⊢
      exact ⟨fun _ _ => trivial, hK _ _ h⟩
theorem wpAnyIn_of_wpAny {md : Region.Mode} {ops : Array Oper} {Q : Exit → Act → World → Prop} (hd : ops.toList.all noDef = true) (hQ : ¬ LetsOut Q) : ∀ (fuel : Nat) (listed : Array Bool) (a : Act) (w : World), wpAny P md ops Q fuel listed a w → wpAnyIn (Rd l) m P md ops Q fuel listed a w
  | 0, _, _, _, h => h
  | fuel + 1, listed, a, w, h => ⟨h.1, fun i hi => wpOpIn_of_wpOp hd hQ (fun a w => wpAnyIn_of_wpAny hd hQ fuel _ a w) (h.2 i hi)⟩
end
section
variable {P : Program} {n : Nat} {w0 : World} {S : List Nat} {Q Q' : Exit → Act → World → Prop} {E : Env} {M : List Ent} {m r : Nat}
theorem JR.growR {Y : Type} {l : List Oper} [Inhabited Y] (g : GrowR Y) (outs : List (Nat × Nat)) (ends : List Nat) {id : Nat} (hd : l.all noDef = true) (hQ : ¬ LetsOut Q) (hm : P.follows .mixedOrders = true) (hE : SubE E g.E0) (hE1 : ∀ i, i < l.length → SubE E (g.E1 i)) (hM : Less (((List.range g.N).filter fun j => decide (l.length ≤ j)).flatMap fun j => g.M j default) M)
    (hok : g.okFrom l 0 l = true) (ho : (outs.all fun p => decide (p.1 < l.length) && dstOf l p.1 == some p.2) = true)
    (he : (noDup ends && ends.all fun j => decide (j < g.N) && (List.range l.length).all fun k => !(g.eat k).contains j) = true)
    (hj : g.Jobs P n w0 S l 0 l)
    (k : ∀ x : Nat → Y, (∀ j k, j < l.length → g.src j = some k → g.R j (x j) (x k)) → JE n w0 S Q .normal (outs.map (fun p => (p.2, g.v p.1 (x p.1))) ++ g.E0) (ends.flatMap fun j => g.M j (x j))) : JR P n w0 S r m Q (.region id l.toArray true) E M :=
  ⟨fun a w ha hw => wpIn_region_any hm (wpAnyIn_of_wpAny (by simpa using hd) hQ _ _ _ _ (growR_any g outs ends hE hE1 hM hok ho he hj k ha hw))⟩
theorem JR.cond {c : Operand} {x y : Code} {t : Bool} (hc : ev E c = some (.bool t)) (ht : t = true → JR P n w0 S r m Q x E M) (hf : t = false → JR P n w0 S r m Q y E M) : JR P n w0 S r m Q (.cond c x y) E M :=
  ⟨fun a w ha hw => wpIn_cond_split (ha.eval hc) (fun h => (ht h).go a w ha hw) (fun h => (hf h).go a w ha hw)⟩
theorem JR.skip (h : JE n w0 S Q .normal E M) : JR P n w0 S r m Q .skip E M := ⟨fun a w ha hw => wpIn_skip (h.go a w ha hw)⟩
theorem JR.ret (h : JE n w0 S Q .ret E M) : JR P n w0 S r m Q .ret E M := ⟨fun a w ha hw => wpIn_ret (h.go a w ha hw)⟩
theorem JR.less {c : Code} {M' : List Ent} (hM : Less M' M) (h : JR P n w0 S r m Q c E M') : JR P n w0 S r m Q c E M := ⟨fun a w ha hw => h.go a w ha (hw.weak hM)⟩
theorem JR.perm {c : Code} {M' : List Ent} (hp : M.Perm M') (h : JR P n w0 S r m Q c E M') : JR P n w0 S r m Q c E M := ⟨fun a w ha hw => h.go a w ha (hw.perm hp)⟩
end
/-- a call out of an iterator's own text -/
theorem FL.callx {P : Program} {n m : Nat} {W : World} {ops : Array Oper} {Q : Exit → Act → World → Prop} {os : List Oper} {E : Env} {d : Nat} {ty : TypeId} {pos : String} {aft : Array Edge} {v : Value} {f : FuncId} {xs : List Operand} {ats : Array TypeId} {vs : List Value} (hg : Goes P f) (hx : evs E xs = some vs) (hd : Nat.blt d n = true)
    (hc : Calls P f vs.toArray W fun e w' => e = .returned v ∧ Ext W w') (k : ∀ W', Ext W W' → FL P n m W' ops Q os ((d, v) :: E)) : FL P n m W ops Q (⟨some d, .call ⟨.value (.func f), xs.toArray, ats⟩, ty, pos, aft, none⟩ :: os) E :=
  ⟨fun a ha => wpListIn_plain rfl fun K hK => by
    refine ⟨fun _ _ => trivial, ?_⟩
    have e : Oper.semAt Fence.wide.round a.eval ⟨some d, .call ⟨.value (.func f), xs.toArray, ats⟩, ty, pos, aft, none⟩ = execOp a.eval ⟨some d, .call ⟨.value (.func f), xs.toArray, ats⟩, ty, pos, aft, none⟩ := rfl
    rw [e, exec_call hg ha hx W]
    refine ⟨fun h => (by cases h), (callsIn_wide (n := m - 1)).2 (hc.mono ?_)⟩
    rintro e w2 ⟨rfl, h2⟩
    exact hK _ _ ((k w2 h2).go _ (ha.put d v hd))⟩
/-- a call of yield with two values -/
theorem FL.yield2 {P : Program} {n : Nat} {W : World} {ops : Array Oper} {Q : Exit → Act → World → Prop} {os : List Oper} {E : Env} {d : Nat} {ty : TypeId} {pos : String} {aft : Array Edge} {v v' : Value} {l : Nat} {x y y' : Operand} {t t' : TypeId} {R : Ending → World → Prop} (hx : ev E x = some (.func (.yield l) #[] #[])) (hy : ev E y = some v) (hy' : ev E y' = some v') (hd : Nat.blt d n = true) (h : YieldAt Fence.wide 1 P l #[v, v'] W R)
    (hR : ∀ e W', R e W' → ∃ b, e = .returned (.bool b) ∧ FL P n 2 W' ops Q os ((d, .bool b) :: E)) : FL P n 2 W ops Q (⟨some d, .call ⟨.value x, #[y, y'], #[t, t']⟩, ty, pos, aft, none⟩ :: os) E :=
  ⟨fun a ha => wpListIn_plain rfl fun K hK => by
    obtain ⟨fn, tmps, assign, body, hrun, hro⟩ := h
    refine ⟨fun _ _ => trivial, ?_⟩
    have e : (Oper.semAt Fence.wide.round a.eval ⟨some d, .call ⟨.value x, #[y, y'], #[t, t']⟩, ty, pos, aft, none⟩).run P W = .ok (.round l fn tmps assign body) W := by
      have e0 : Oper.semAt Fence.wide.round a.eval ⟨some d, .call ⟨.value x, #[y, y'], #[t, t']⟩, ty, pos, aft, none⟩ = execOp a.eval ⟨some d, .call ⟨.value x, #[y, y'], #[t, t']⟩, ty, pos, aft, none⟩ := rfl
      rw [e0]
      simp only [execOp, resolve, Sem.run_bind, ha.eval hx, List.map_toArray, List.map_cons, List.map_nil, ha.eval hy, ha.eval hy', Deferred.ofValue, Sem.run_pure, Result.andThen_ok, invoke]
      simpa using hrun
    rw [e]
    refine ⟨fun h => (by cases h), hro.mono fun e W' hr => ?_⟩
    obtain ⟨b, rfl, hl⟩ := hR e W' hr
    exact hK _ _ (hl.go _ (ha.put d _ hd))⟩
/-- two ways that meet again, in an iterator's own text -/
theorem FC.mid {P : Program} {n : Nat} {W : World} {Q : Exit → Act → World → Prop} {E : Env} {x y : Code} (Em : Env) (h : FC P n W (Exit.then (fun a w => Knows n Em a ∧ w = W) Q) x E) (k : FC P n W Q y Em) : FC P n W Q (.seq x y) E :=
  ⟨fun a ha => wp_seq (wp_mono (h.go a ha) fun e a' w' he => by
    cases e with
    | normal => obtain ⟨h1, rfl⟩ := he; exact k.go a' h1
    | exit _ => exact he
    | goto _ => exact he
    | ret => exact he
    | panic _ => exact he
    | outgrown => exact he)⟩
theorem FE.mid {n : Nat} {W : World} {Q : Exit → Act → World → Prop} {E Em : Env} (hE : SubE E Em) : FE n W (Exit.then (fun a w => Knows n Em a ∧ w = W) Q) .normal E := ⟨fun _ ha => ⟨ha.sub hE, rfl⟩⟩
/-! ### behind the loop -/
section
variable {P : Program} {D n : Nat} {w0 : World} {S : List Nat} {ops : Array Oper} {Q Q' : Exit → Act → World → Prop} {os : List Oper} {E : Env} {M : List Ent} {d : Nat} {op : Op} {ty : TypeId} {pos : String} {aft : Array Edge} {v : Value}
theorem KL.store_eq {M' : List Ent} {r r' : List Value} {e t : TypeId} {x y : Operand} {b j : Nat} (hz : szT P t = some 1) (hx : ev E x = some (.pointer (some ⟨b, j, none⟩))) (hy : ev E y = some v) (hv : v.oneCell' = true) (hcl : v.cells = #[v]) (hu : Upd M b (Row e r) (Row e r') M') (hj : j < r.length) (he : r.set j v = r')
    (k : KL P D n w0 S ops Q os E M') : KL P D n w0 S ops Q (⟨none, .store t x y, ty, pos, aft, none⟩ :: os) E M :=
  ⟨fun a w ha hw => wpList_plain rfl fun K hK => by
    obtain ⟨o, ho, hAo⟩ := hw.get hu.has
    cases hAo
    have hA' : Row e r' (.cells (r.toArray.setIfInBounds j v) e (0, 0)) := by simp [Row, he]
    have hs : (storeCells ⟨b, j, none⟩ [v] 0).run P w = .ok () (w.setCell ⟨b, j, none⟩ v) := by
      simp only [storeCells, Sem.run_bind, add_off, Nat.add_zero]
      rw [store_run hv ho (by simpa using hj)]; rfl
    have h1 : (execOp a.eval ⟨none, .store t x y, ty, pos, aft, none⟩).run P w = .ok .skip (w.setCell ⟨b, j, none⟩ v) := by
      simp [execOp, ha.eval hx, ha.eval hy, Instr.storeAt, Instr.sureAddr, Sem.run_bind, storeVar, sizeOf_run hz, hcl, hs]
    unfold Oper.wp
    rw [h1]
    exact hK _ _ (k.go _ _ ⟨ha.defers, ha.base⟩ (hw.write hu hA' (setCell_heap ho) setCell_size (fun _ h => setCell_other h) rfl rfl rfl))⟩
theorem KE.blk_ret {id : Nat} (h : KE D n w0 S Q .ret E M) : KE D n w0 S (Exit.inBlock id Q) .ret E M := ⟨h.go⟩
theorem KE.ret2x {m : Nat} {fn : Func} {R : Ending → World → Prop} {r1 r2 : ResultVar} {v1 v2 : Value} (hr : fn.results = #[r1, r2]) (h1 : RV P n w0 S E M r1 v1) (h2 : RV P n w0 S E M r2 v2) (hR : ∀ w, Holds w0 S M w → R (.returned (.tuple #[v1, v2])) w) : KE D n w0 S (bodyPostM Fence.wide m P fn R) .ret E (⟨D, Dead, true⟩ :: M) := by
  refine ⟨fun a w ha hw => leaves_mark (v := .tuple #[v1, v2]) ha hw (fun w' hw' => ?_) hR⟩
  have e1 := h1 _ w' ha.base hw'
  have e2 := h2 _ w' ha.base hw'
  dsimp only at e1 e2
  rw [results_eq, hr]
  simp [e1, e2, Sem.run_bind]
end
/-- out of such a function ahead of its loop -/
theorem JE.ret2M {P : Program} {n m : Nat} {w0 : World} {S : List Nat} {E : Env} {M : List Ent} {fn : Func} {R : Ending → World → Prop} {r1 r2 : ResultVar} {v1 v2 : Value} (hr : fn.results = #[r1, r2]) (h1 : RV P n w0 S E M r1 v1) (h2 : RV P n w0 S E M r2 v2) (hR : ∀ w, Holds w0 S M w → R (.returned (.tuple #[v1, v2])) w) : JE n w0 S (bodyPostM Fence.wide m P fn R) .ret E M := by
  refine ⟨fun a w ha hw => ?_⟩
  show LeavesInM Fence.wide m P fn a.tmps R a.defers .returning w
  rw [ha.defers]
  refine ⟨.tuple #[v1, v2], ?_, hR w hw⟩
  have e1 := h1 a w ha hw
  have e2 := h2 a w ha hw
  rw [results_eq, hr]
  simp [Sem.run_bind, e1, e2]
/-! ### the statement -/
theorem Holds.still {w0 W W' : World} {M : List Ent} {row : Option Nat} (h : Holds w0 [] M W) (hc : ∀ e ∈ M, ∀ o, e.A o → o.isCells = true) (hg : W.grownBy W' row) (hr : ∀ k, row = some k → w0.heap.size ≤ k ∧ ∃ o : Obj, W.heap[k]? = some o ∧ o.isCells = false) : Holds w0 [] M W' := by
  refine ⟨⟨hg.os.trans h.chg.os, hg.tape.trans h.chg.tape, hg.output.trans h.chg.output, Nat.le_trans h.chg.size hg.size, fun k hk _ => ?_⟩, h.nodup, fun e he => ⟨?_, (h.all e he).2⟩⟩
  · refine (hg.block k (Nat.lt_of_lt_of_le hk h.chg.size) fun e => ?_).trans (h.chg.block k hk (by simp))
    have := (hr k e.symm).1
    omega
  · obtain ⟨o, ho, hA⟩ := (h.all e he).1
    refine ⟨o, (hg.block e.b (h.lt he) fun e' => ?_).trans ho, hA⟩
    obtain ⟨_, o2, ho2, hc2⟩ := hr _ e'.symm
    rw [ho] at ho2
    cases ho2
    rw [hc e he o hA] at hc2
    cases hc2
/-- an iterator that hands out N times two values, in this order, and stops where it is told to -/
def SeqN (P : Program) (gf : Nat) (lb : Array Value) (enc : Nat → Value × Value) (L : List Nat) (N : Nat) (W0 : World) : Prop :=
  ∀ (l : Nat) (J : Nat → World → Prop) (X : World → Prop) (W : World), RowKit.Below W0.heap.size W0 W → (∀ k W1 W2, J k W1 → Ext W1 W2 → J k W2) →
    (∀ k W1, k < N → J k W1 → YieldAt Fence.wide 1 P l #[(enc k).1, (enc k).2] W1 fun e W' => (e = .returned (.bool true) ∧ J (k + 1) W' ∧ KeepL L W1 W') ∨ (e = .returned (.bool false) ∧ X W')) →
    J 0 W → CallsIn Fence.wide 2 P gf (#[.func (.yield l) #[] #[]] ++ lb) W fun e W' => (∃ v, e = .returned v) ∧ (J N W' ∨ X W')
/-- how a round's body is left: at its end, or out of the function -/
def roundX {ι κ : Type} (Mi : ι → List Ent) (Inv : Nat → ι → Prop) (Mx : κ → List Ent) (Fin : κ → Prop) (k : Nat) (w1 : World) (S1 : List Nat) : Exit → Act → World → Prop
  | .normal, _, W' => ∃ j, Inv (k + 1) j ∧ Holds w1 S1 (Mi j) W'
  | .ret, _, W' => ∃ x, Fin x ∧ Holds w1 S1 (Mx x) W'
  | _, _, _ => False
theorem lo_roundX {ι κ : Type} {Mi : ι → List Ent} {Inv : Nat → ι → Prop} {Mx : κ → List Ent} {Fin : κ → Prop} {k : Nat} {w1 : World} {S1 : List Nat} : ¬ LetsOut (roundX Mi Inv Mx Fin k w1 S1) := fun ⟨_, _, h⟩ => h
section
variable {ι κ : Type} {Mi : ι → List Ent} {Inv : Nat → ι → Prop} {Mx : κ → List Ent} {Fin : κ → Prop} {k n : Nat} {w1 : World} {S1 : List Nat} {E : Env} {M : List Ent}
theorem JE.roundN (j : ι) (hj : Inv (k + 1) j) (hM : Less (Mi j) M) : JE n w1 S1 (roundX Mi Inv Mx Fin k w1 S1) .normal E M := ⟨fun _ _ _ hw => ⟨j, hj, hw.weak hM⟩⟩
theorem JE.roundX (x : κ) (hx : Fin x) (hM : Less (Mx x) M) : JE n w1 S1 (roundX Mi Inv Mx Fin k w1 S1) .ret E M := ⟨fun _ _ _ hw => ⟨x, hx, hw.weak hM⟩⟩
end
theorem put_zip (a : Act) (p1 p2 : Nat) (v1 v2 : Value) (hd : a.defers = []) : ({ tmps := (#[p1, p2].zip #[v1, v2]).foldl (fun t (x : Nat × Value) => t.setIfInBounds x.1 x.2) a.tmps, defers := [] } : Act) = (a.put (some p1) v1).put (some p2) v2 := by
  obtain ⟨tm, df⟩ := a
  simp only at hd
  subst hd
  simp [Act.put]
theorem Holds.mark {w0 W : World} {M : List Ent} {D : Nat} (h : Holds w0 [] M W) (hc : ∀ e ∈ M, ∀ o, e.A o → o.isCells = true) (hD : w0.heap.size ≤ D) (hk : W.heap[D]? = some (.deferred (some []))) : Holds w0 [] (⟨D, Dead, true⟩ :: M) W := by
  refine ⟨h.chg, ?_, fun e he => ?_⟩
  · simp only [List.map_cons, List.nodup_cons, h.nodup, and_true]
    intro hm
    obtain ⟨e, he, hb⟩ := List.mem_map.1 hm
    obtain ⟨o, ho, hA⟩ := (h.all e he).1
    rw [hb, hk] at ho
    cases ho
    have := hc e he _ hA
    cases this
  · rcases List.mem_cons.1 he with rfl | he
    · exact ⟨⟨_, hk, rfl⟩, fun _ => .inr hD⟩
    · exact h.all e he
theorem region_assign {P : Program} {n l m : Nat} {Q : Exit → Act → World → Prop} {E : Env} {a : Act} {W : World} {id p d : Nat} {ty : TypeId} {pos : String} {v : Value} (hx : lk E p = some v) (ha : Knows n E a) (hK : Q .normal (a.put (some d) v) W) :
    (Code.region id #[⟨some d, .assign (.tmp p), ty, pos, #[], none⟩] false).wpIn (Rd l) m P Q a W := by
  refine wpIn_region_lit (wpListIn_plain rfl fun K' hK' => ⟨fun _ _ => trivial, ?_⟩)
  have he : a.eval (.tmp p) = v := ha.eval (x := .tmp p) hx
  have hs : Oper.semAt (Rd l).round a.eval ⟨some d, .assign (.tmp p), ty, pos, #[], none⟩ = .pure (.value v) := by
    refine (Oper.semAt_some l _ _ ?_).trans ?_
    · intro c h; cases h
    show Sem.pure (Next.value (_ : Value)) = _
    exact congrArg (fun v => Sem.pure (Next.value v)) he
  show Oper.uponIn _ _ _ _ _ _ _ ((Oper.semAt (Rd l).round _ _).run P W)
  rw [hs]
  exact hK' _ _ (wpListIn_nil hK)
theorem JC.rangeN {P : Program} {n : Nat} {w0 : World} {Q : Exit → Act → World → Prop} {E : Env} {M : List Ent} {ι κ : Type} {g : Operand} {p1 p2 d1 d2 i1 i2 : Nat} {t1 t2 : TypeId} {s1 s2 : String} {body : Code} {gf : Nat} {lb : Array Value} (enc : Nat → Value × Value) (L : List Nat) (N : Nat)
    (Mi : ι → List Ent) (Inv : Nat → ι → Prop) (Mx : κ → List Ent) (Fin : κ → Prop) (hg : ev E g = some (.func (.func gf) #[] lb)) (eg : ∀ args w, (callFunc gf args).run P w = .ok (.enter gf args) w)
    (hseq : ∀ W, Holds w0 [] M W → SeqN P gf lb enc L N W)
    (hcell : ∀ i, ∀ e ∈ Mi i, ∀ o, e.A o → o.isCells = true) (hcelx : ∀ i, ∀ e ∈ Mx i, ∀ o, e.A o → o.isCells = true) (hL : ∀ i, ∀ k ∈ L, k < w0.heap.size ∨ ∃ A, Has (Mi i) k A false)
    (i0 : ι) (h0 : Inv 0 i0) (hM : ∀ w, Holds w0 [] M w → Holds w0 [] (Mi i0) w) (hp1 : Nat.blt p1 n = true) (hp2 : Nat.blt p2 n = true) (hd1 : Nat.blt d1 n = true) (hd2 : Nat.blt d2 n = true)
    (he1 : ∀ v1 v2, lk ((p2, v2) :: (p1, v1) :: E) p1 = some v1) (he2 : ∀ v1 v2, lk ((d1, v1) :: (p2, v2) :: (p1, v1) :: E) p2 = some v2)
    (hbody : ∀ l k i w1, Inv k i → k < N → Ext w0 w1 → (∀ b ∈ wrs (Mi i), w0.heap.size ≤ b) → JR P n w1 (wrs (Mi i)) l 1 (roundX Mi Inv Mx Fin k w1 (wrs (Mi i))) body ((d2, (enc k).2) :: (d1, (enc k).1) :: (p2, (enc k).2) :: (p1, (enc k).1) :: E) (Mi i))
    (hdone : ∀ D i, Inv N i → KE D n w0 [] Q .normal E (⟨D, Dead, true⟩ :: Mi i))
    (hstop : ∀ D x, Fin x → KE D n w0 [] Q .ret E (⟨D, Dead, true⟩ :: Mx x)) :
    JC P n w0 [] Q (.rangeFunc g #[p1, p2] (.seq (.region i1 #[⟨some d1, .assign (.tmp p1), t1, s1, #[], none⟩] false) (.region i2 #[⟨some d2, .assign (.tmp p2), t2, s2, #[], none⟩] false)) body) E M := by
  refine ⟨fun a w ha hw => (wpIn_wide (n := 3)).1 (wpIn_rangeFunc fun fn hfn => ?_)⟩
  have hLw : ∀ k ∈ L, k < w.heap.size := fun k hk => by
    rcases hL i0 k hk with h | ⟨A, h⟩
    · exact Nat.lt_of_lt_of_le h hw.chg.size
    · exact (hM w hw).lt h.mem
  -- the loop's record, ready, busy or done
  obtain ⟨asg, hasg⟩ : ∃ c : Code, c = .seq (.region i1 #[⟨some d1, .assign (.tmp p1), t1, s1, #[], none⟩] false) (.region i2 #[⟨some d2, .assign (.tmp p2), t2, s2, #[], none⟩] false) := ⟨_, rfl⟩
  rw [← hasg]
  let R : LoopState → Option Code → Loop := fun st pe => { state := st, pending := pe, fn := fn, tmps := a.tmps, params := #[p1, p2], assign := asg, body := body, defers := w.heap.size }
  have hsw0 : w0.heap.size ≤ w.heap.size := hw.chg.size
  have gw := hM w hw
  have a1 : Holds w0 [] (Mi i0) (w.alloc (.deferred (some []))) := gw.still (hcell i0) (World.grownBy_alloc w _ none) nofun
  have a2 : Holds w0 [] (Mi i0) ((w.alloc (.deferred (some []))).alloc (.loop (R .ready none))) := a1.still (hcell i0) (World.grownBy_alloc _ _ none) nofun
  have hLp : ((w.alloc (.deferred (some []))).alloc (.loop (R .ready none))).heap[w.heap.size + 1]? = some (.loop (R .ready none)) := by
    have := World.alloc_heap_new (w.alloc (.deferred (some []))) (.loop (R .ready none))
    rwa [World.size_alloc] at this
  have hDp : ((w.alloc (.deferred (some []))).alloc (.loop (R .ready none))).heap[w.heap.size]? = some (.deferred (some [])) :=
    (RowKit.Below.heap_alloc _ _ _ (by simp)).trans (World.alloc_heap_new w _)
  have hB : RowKit.Below w.heap.size w ((w.alloc (.deferred (some []))).alloc (.loop (R .ready none))) := ((RowKit.Below.refl _ w).alloc (Nat.le_refl _) _).alloc (by simp) _
  obtain ⟨W1, hW1⟩ : ∃ W1, (w.alloc (.deferred (some []))).alloc (.loop (R .ready none)) = W1 := ⟨_, rfl⟩
  rw [hW1] at a2 hLp hDp hB
  have notin : ∀ {i : ι} {W : World} {b : Nat} {o : Obj}, Holds w0 [] (Mi i) W → W.heap[b]? = some o → o.isCells = false → b ∉ wrs (Mi i) := fun {i W b o} hH hb ho hm => by
    obtain ⟨e, he, _, rfl⟩ := mem_wrs.1 hm
    obtain ⟨o', ho', hA⟩ := (hH.all e he).1
    rw [hb] at ho'
    cases ho'
    rw [hcell i e he _ hA] at ho
    cases ho
  refine ⟨w.heap.size + 1, [Sl.mk w.heap.size], W1, { target := .fn (.func gf) lb, args := #[.func (.yield (w.heap.size + 1)) #[] #[]] }, W1, gf, #[.func (.yield (w.heap.size + 1)) #[] #[]] ++ lb, W1, ?_, ?_, fun _ _ => trivial, ?_, (fun h => by cases h), ?_⟩
  · rw [← hW1]
    exact run_enterLoop_outer _ _ _ _ _
  · simp only [resolve, ha.eval hg]
    simp [go_sem]
  · simp [invoke, go_sem, eg]
  refine (hseq w hw (w.heap.size + 1) (fun k W => (∃ i, Inv k i ∧ Holds w0 [] (Mi i) W) ∧ W.heap[w.heap.size + 1]? = some (.loop (R .ready none)) ∧ W.heap[w.heap.size]? = some (.deferred (some [])))
    (fun W => (∃ x, Fin x ∧ Holds w0 [] (Mx x) W) ∧ W.heap[w.heap.size + 1]? = some (.loop (R .done (some .ret))) ∧ W.heap[w.heap.size]? = some (.deferred (some []))) W1 hB ?_ ?_ ⟨⟨i0, h0, a2⟩, hLp, hDp⟩).mono ?_
  · rintro k Wa Wb ⟨⟨i, hi, hH⟩, hl, hd⟩ hx
    exact ⟨⟨i, hi, hH.ext hx⟩, (hx.block _ (Array.getElem?_eq_some_iff.1 hl).1 (by simp)).trans hl, (hx.block _ (Array.getElem?_eq_some_iff.1 hd).1 (by simp)).trans hd⟩
  · -- one round
    rintro k W hk ⟨⟨i, hi, hH⟩, hl, hd⟩
    refine ⟨fn, _, asg, body, run_yield (P := P) (args := #[(enc k).1, (enc k).2]) hl rfl, roundIn_of_wpIn hfn ?_⟩
    rw [hasg]
    show Code.wpIn (Rd (w.heap.size + 1)) 1 P _ _ ({ tmps := (#[p1, p2].zip #[(enc k).1, (enc k).2]).foldl (fun t (x : Nat × Value) => t.setIfInBounds x.1 x.2) a.tmps, defers := [] } : Act) W
    rw [put_zip a p1 p2 _ _ ha.defers]
    have k2 := (ha.put p1 (enc k).1 hp1).put p2 (enc k).2 hp2
    have k3 := k2.put d1 (enc k).1 hd1
    have k4 := k3.put d2 (enc k).2 hd2
    refine wpIn_seq (region_assign (he1 _ _) k2 (region_assign (he2 _ _) k3 ⟨_, run_beginRound hl rfl, ?_⟩))
    have hlt : w.heap.size + 1 < W.heap.size := (Array.getElem?_eq_some_iff.1 hl).1
    obtain ⟨W2, hW2⟩ : ∃ W2, W.putObj (w.heap.size + 1) (.loop { R .ready none with state := .busy }) = W2 := ⟨_, rfl⟩
    have hH2 : Holds w0 [] (Mi i) W2 := hW2 ▸ hH.still (hcell i) (grownBy_putObj' W _ _) (fun r e => by cases e; exact ⟨by omega, _, hl, rfl⟩)
    have hl2 : W2.heap[w.heap.size + 1]? = some (.loop (R .busy none)) := hW2 ▸ World.putObj_heap_same hlt
    have hd2' : W2.heap[w.heap.size]? = some (.deferred (some [])) := by rw [← hW2]; exact (World.putObj_heap_other (by omega)).trans hd
    have kp2 : ∀ b, b < w.heap.size → W2.heap[b]? = W.heap[b]? := fun b hb => by rw [← hW2]; exact World.putObj_heap_other (by omega)
    have g2 : W2.os = W.os ∧ W2.tape = W.tape ∧ W2.output = W.output ∧ W2.heap.size = W.heap.size := by rw [← hW2]; exact ⟨rfl, rfl, rfl, World.putObj_size⟩
    rw [hW2]
    refine wpIn_mono ((hbody (w.heap.size + 1) k i W2 hi hk hH2.chg hH2.wrs_ge).go _ W2 k4 hH2.rebase) ?_
    have nl := notin hH2 hl2 rfl
    have nd := notin hH2 hd2' rfl
    have hs2 : w.heap.size + 1 < W2.heap.size := by rw [g2.2.2.2]; exact hlt
    -- what is kept from the round's beginning on
    have kept : ∀ {Mj : List Ent} {W3 : World}, Holds W2 (wrs (Mi i)) Mj W3 → W3.heap[w.heap.size + 1]? = some (.loop (R .busy none)) ∧ W3.heap[w.heap.size]? = some (.deferred (some [])) := fun {Mj W3} h3 =>
      ⟨(h3.chg.block _ hs2 nl).trans hl2, (h3.chg.block _ (by omega) nd).trans hd2'⟩
    rintro e a3 W3 hq
    cases e with
    | normal =>
      obtain ⟨j, hj, h3⟩ := hq
      obtain ⟨hl3, hd3⟩ := kept h3
      have hu := hH2.unbase h3
      refine ⟨_, _, run_endRound (P := P) none hl3, .inl ⟨rfl, ⟨⟨j, hj, hu.still (hcell j) (grownBy_putObj' W3 _ _) (fun r e => by cases e; exact ⟨by omega, _, hl3, rfl⟩)⟩, World.putObj_heap_same (Array.getElem?_eq_some_iff.1 hl3).1, (World.putObj_heap_other (by omega)).trans hd3⟩, ⟨h3.chg.os.trans g2.1, h3.chg.tape.trans g2.2.1, h3.chg.output.trans g2.2.2.1, ?_, fun b hb => ?_⟩⟩⟩
      · rw [World.putObj_size, ← g2.2.2.2]; exact h3.chg.size
      · have hbw := hLw b hb
        refine (World.putObj_heap_other (by omega)).trans ((h3.chg.block b (by omega) fun hm => ?_).trans (kp2 b hbw))
        rcases hL i b hb with hlt' | ⟨A, hA⟩
        · have := hH2.wrs_ge b hm; omega
        · obtain ⟨e, he, hwr, hbe⟩ := mem_wrs.1 hm
          have := nodup_inj hH2.nodup he hA.mem hbe
          subst this
          cases hwr
    | ret =>
      obtain ⟨x, hx, h3⟩ := hq
      obtain ⟨hl3, hd3⟩ := kept h3
      have hu := hH2.unbase h3
      exact ⟨_, _, run_endRound (P := P) (some .ret) hl3, .inr ⟨rfl, ⟨x, hx, hu.still (hcelx x) (grownBy_putObj' W3 _ _) (fun r e => by cases e; exact ⟨by omega, _, hl3, rfl⟩)⟩, World.putObj_heap_same (Array.getElem?_eq_some_iff.1 hl3).1, (World.putObj_heap_other (by omega)).trans hd3⟩⟩
    | exit id => exact hq.elim
    | goto t => exact hq.elim
    | panic ch => exact hq.elim
    | outgrown => exact hq.elim
  · -- behind the iterator
    have know : KnowsM w.heap.size n E { a with defers := [Sl.mk w.heap.size] ++ a.defers } := ⟨by show _ ++ a.defers = _; rw [ha.defers]; rfl, ⟨ha.size, rfl, ha.all⟩⟩
    rintro e W2 ⟨⟨v, rfl⟩, (⟨⟨i, hi, hH⟩, hl, hd⟩ | ⟨⟨x, hx, hH⟩, hl, hd⟩)⟩
    · have h4 := hH.still (hcell i) (grownBy_putObj' W2 (w.heap.size + 1) (.loop { R .ready none with state := .exhausted })) (fun r e => by cases e; exact ⟨by omega, _, hl, rfl⟩)
      exact ⟨none, _, run_endLoop hl (by simp [R]), (hdone w.heap.size i hi).go _ _ know (h4.mark (hcell i) hsw0 ((World.putObj_heap_other (by omega)).trans hd))⟩
    · have h4 := hH.still (hcelx x) (grownBy_putObj' W2 (w.heap.size + 1) (.loop { R .done (some .ret) with state := .exhausted })) (fun r e => by cases e; exact ⟨by omega, _, hl, rfl⟩)
      exact ⟨some .ret, _, run_endLoop hl (by simp [R]), wpIn_ret ((hstop w.heap.size x hx).go _ _ know (h4.mark (hcelx x) hsw0 ((World.putObj_heap_other (by omega)).trans hd)))⟩
end Sl
end Go.Proofs.YtdabhneehconeaaGreatDoor

/-
  Of no statement by itself: rules for writes into a slice of the function's own (stores of whole elements, copy, clear), for calls that write what came in, for function values of a pair, and for slices.overlaps; over partial knowledge, for any program P.
  Conditions: each rule's own hypotheses.
-/
namespace Go.Proofs.YtdabhneehconeaaGreatDoor
set_option maxRecDepth 10000
namespace Sl
section
variable {w0 w w' : World} {S : List Nat} {X Y M M0 : List Ent}
def keys (X : List Ent) : List Nat := X.map Ent.b
/-- what came in writable is one's own from here on, all else is read -/
theorem Holds.own (h : Holds w0 S (X ++ M0) w) : Holds w (keys X) (X ++ cold M0) w := by
  refine ⟨Chg.refl _ _, ?_, fun e he => ?_⟩
  · have : (X ++ cold M0).map Ent.b = (X ++ M0).map Ent.b := by simp [cold, Function.comp_def]
    rw [this]; exact h.nodup
  · rcases List.mem_append.1 he with he | he
    · exact ⟨(h.all e (List.mem_append_left _ he)).1, fun _ => .inl (List.mem_map_of_mem he)⟩
    · obtain ⟨q, hq, rfl⟩ := List.mem_map.1 he
      exact ⟨(h.all q (List.mem_append_right _ hq)).1, nofun⟩
end
section
variable {P : Program} {n : Nat} {w0 : World} {S : List Nat} {ops : Array Oper} {Q : Exit → Act → World → Prop} {l : List Oper} {E : Env} {M M' : List Ent} {C : World → Prop}
variable {dst : Option Tmp} {d b j : Nat} {op : Op} {t t' ty e : TypeId} {pos : String} {aft : Array Edge} {g : Option (Nat × Bool)} {x y : Operand} {cs : List Value}
/-! ### function values of a pair -/
/-! ### slices.overlaps of two blocks -/
structure IsLap (P : Program) (f : FuncId) (tS tR : TypeId) : Prop where
  go : ∃ fn, P.funcs[f]? = some fn ∧ (fn.name == "runtime.NumGoroutine") = false ∧ fn.body.isNone = true ∧ Extern.findNext fn = none ∧ Extern.find fn = some (Extern.SlicesOverlaps.overlaps #[tS, tS] #[tR])
end
end Sl
end Go.Proofs.YtdabhneehconeaaGreatDoor

/-
  Of no statement by itself: what the reference's line and end (layer 9) give.
  Conditions: each theorem's own.
-/
namespace Go.Proofs.YtdabhneehconeaaGreatDoor
set_option maxRecDepth 10000
open Sl Fld
namespace Fld
end Fld
end Go.Proofs.YtdabhneehconeaaGreatDoor

/-
  Of no statement by itself: how one field of a head is read, and what is behind it (layer 9); pure; no program stands here.
  Conditions: none.
-/
namespace Go.Proofs.YtdabhneehconeaaGreatDoor
open Sl
namespace Fld
end Fld
def fieldsR : Except Nat (List Pr × List Bt) → List Pr
  | .ok q => q.1
  | .error _ => []
def restR : Except Nat (List Pr × List Bt) → List Bt
  | .ok q => q.2
  | .error _ => []
open Fld
/-- fields and what is behind them, as a function's answer -/
structure L9 (x : Except Nat (List Pr × List Bt)) where
  f : Sl2
  s : Sl8
  hf : f.l = fieldsR x
  hs : s.l = restR x
  nf : f.ad = none → f.l = []
  ns : s.ad = none → s.l = []
theorem L9.wr {x : Except Nat (List Pr × List Bt)} (q : L9 x) : ∀ e ∈ q.s.ents ++ q.f.ents, e.wr = true := fun e he => by
  rcases List.mem_append.1 he with h | h
  · exact q.s.ents_wr e h
  · exact q.f.ents_wr e h
theorem accLpents9 {e : TypeId} {q : Acc} {l : List Pr} : Less (accLp q l).ents (accP e q l) := by
  cases q with
  | none => exact .nil _
  | some p => exact own2_ents
end Go.Proofs.YtdabhneehconeaaGreatDoor

/-
  Of no statement by itself: what the reference's Read (layer 9) gives.
  Conditions: the theorem's own.
-/
namespace Go.Proofs.YtdabhneehconeaaGreatDoor
set_option maxRecDepth 10000
open Sl Fld
namespace Fld
theorem trimL_go {l : List By} (h0 : l ≠ []) (h : bl (l.getD 0 0) = true) : trimL l = trimL (l.drop 1) := by
  cases l with
  | nil => exact absurd rfl h0
  | cons c r =>
    unfold trimL
    rw [List.dropWhile_cons, show bl c = true from h]
    rfl
end Fld
/-- x[lo:hi] -/
def Sl8.mid (s : Sl8) (lo hi : Nat) : Sl8 := ⟨if s.cap = lo then s.ad else s.ad.map (·.add (lo * 1)), s.cap - lo, (s.l.take hi).drop lo⟩
theorem Sl8.ok.mid {s : Sl8} {w : World} (h : s.ok w) {lo hi : Nat} (h1 : lo ≤ hi) (h2 : hi ≤ s.l.length) : (s.mid lo hi).ok w := by
  have h3 := (h.snd lo (by omega)).reads.take (hi - lo)
  rw [← List.map_take] at h3
  refine ⟨?_, ?_⟩
  · show ((s.l.take hi).drop lo).length ≤ s.cap - lo
    have := h.len
    rw [List.length_drop, List.length_take]
    omega
  · show Reads w _ (((s.l.take hi).drop lo).map U8)
    rw [List.drop_take]
    exact h3
theorem OQ.mid8 {P : Program} {n : Nat} {E : Env} {C : World → Prop} {dst : Option Tmp} {t ty e : TypeId} {pos : String} {aft : Array Edge} {g : Option (Nat × Bool)} {x y z : Operand} {s : Sl8} {lo hi : Nat} (hu : P.underlying t = some (.slice e)) (hz : szT P e = some 1) (hx : ev E x = some s.v) (hl : ev E y = some (N lo)) (hh : ev E z = some (N hi)) (h : lo ≤ hi) (h' : hi ≤ s.l.length) (hc : s.l.length ≤ s.cap) :
    OQ P n E C ⟨dst, .slice t x (some y) (some z) none, ty, pos, aft, g⟩ (s.mid lo hi).v :=
  OQ.to (OQ.slS_lohi (ad := s.ad) (len := s.l.length) (cap := s.cap) hu hz hx hl hh h (Nat.le_trans h' hc)) (by simp [Sl8.v, Sl8.mid, Nat.min_eq_left h'])
/-- a slice that shows a stretch of a block of the function's own -/
def View (b : Nat) (D : List Bt) (z : Sl8) : Prop := z.l.length ≤ z.cap ∧ ∃ off, z.ad = some ⟨b, off, none⟩ ∧ ∀ i, i < z.l.length → (D.map U8)[off + i]? = (z.l.map U8)[i]?
theorem View.snd {b : Nat} {D : List Bt} {z : Sl8} (h : View b D z) (m : Nat) (hm : m ≤ z.l.length) : View b D (z.snd m) := by
  obtain ⟨h1, off, h2, h3⟩ := h
  have hl : (z.snd m).l.length = z.l.length - m := List.length_drop
  refine ⟨by rw [hl]; show _ ≤ z.cap - m; omega, ?_⟩
  by_cases hc : z.cap = m
  · refine ⟨off, ?_, fun i hi => by omega⟩
    show (if z.cap = m then z.ad else _) = _
    rw [if_pos hc, h2]
  · refine ⟨off + m, ?_, fun i hi => ?_⟩
    · show (if z.cap = m then z.ad else z.ad.map (·.add (m * 1))) = _
      rw [if_neg hc, h2]
      simp [Addr.add]
    · rw [Nat.add_assoc, h3 (m + i) (by omega)]
      show _ = ((z.l.drop m).map U8)[i]?
      rw [List.map_drop, List.getElem?_drop]
theorem View.fst {b : Nat} {D : List Bt} {z : Sl8} (h : View b D z) (m : Nat) : View b D (z.fst m) := by
  obtain ⟨h1, off, h2, h3⟩ := h
  have hl : (z.fst m).l.length = min m z.l.length := List.length_take
  refine ⟨by rw [hl]; show _ ≤ z.cap; omega, off, ?_, fun i hi => ?_⟩
  · show (if z.cap = 0 then z.ad else z.ad.map (·.add 0)) = _
    rw [h2]
    split <;> simp [Addr.add]
  · rw [h3 i (by omega)]
    show _ = ((z.l.take m).map U8)[i]?
    rw [List.map_take, List.getElem?_take, if_pos (by omega)]
theorem View.ok {b k cap : Nat} {e : TypeId} {D : List Bt} {z : Sl8} {w0 w : World} {S : List Nat} {M : List Ent} {wr : Bool} (h : View b D z) (hw : Holds w0 S M w) (hM : Has M b (Sl.Own e 1 k cap (D.map U8)) wr) : z.ok w := by
  obtain ⟨h1, off, h2, h3⟩ := h
  obtain ⟨o, ho, hA⟩ := hw.get hM
  obtain ⟨c, e', fr, rfl, hcc⟩ := Sl.Own.cells _ hA
  refine ⟨h1, ?_⟩
  rw [h2]
  refine Reads.block ho ⟨c, e', fr, rfl, fun i hi => ?_⟩
  have hi' : i < z.l.length := by simpa using hi
  rw [← h3 i hi']
  have hlt : off + i < (D.map U8).length := by
    have := h3 i hi'
    rw [List.getElem?_eq_getElem hi] at this
    exact (List.getElem?_eq_some_iff.1 this).1
  have := hcc (off + i) hlt
  rwa [Nat.zero_add] at this
theorem View.at {b : Nat} {D : List Bt} {z : Sl8} (h : View b D z) : ∃ off, z.v = .slice (some ⟨b, off, none⟩) z.l.length z.cap ∧ ∀ i, i < z.l.length → (D.map U8)[off + i]? = some (U8 (z.l.getD i 0)) := by
  obtain ⟨h1, off, h2, h3⟩ := h
  refine ⟨off, ?_, fun i hi => ?_⟩
  · unfold Sl8.v
    rw [h2]
  · rw [h3 i hi]
    exact map_at U8 0 hi
end Go.Proofs.YtdabhneehconeaaGreatDoor

/-
  Of no statement by itself: armor's groups: the iterator that hands out a slice's parts of k bytes.
  Conditions: each theorem's own.
-/
namespace Go.Proofs.YtdabhneehconeaaGreatDoor
set_option maxRecDepth 10000
open Sl
/-- the j-th part of k bytes -/
def Sl8.part (s : Sl8) (k j : Nat) : Sl8 := ⟨if s.cap = k * j then s.ad else s.ad.map (·.add (k * j * 1)), s.cap - k * j, (s.l.drop (k * j)).take k⟩
theorem part_v (s : Sl8) (k j : Nat) (h : k * j ≤ s.l.length) : (s.part k j).v = .slice (if s.cap = k * j then s.ad else s.ad.map (·.add (k * j * 1))) (min (k * j + k) s.l.length - k * j) (s.cap - k * j) := by
  show Value.slice _ ((s.l.drop (k * j)).take k).length _ = _
  rw [List.length_take, List.length_drop]
  congr 1
  omega
theorem part_ok {s : Sl8} {w : World} (h : s.ok w) (k j : Nat) : (s.part k j).ok w := by
  refine ⟨?_, ?_⟩
  · show ((s.l.drop (k * j)).take k).length ≤ s.cap - k * j
    have := h.len
    rw [List.length_take, List.length_drop]
    omega
  · show Reads w _ (((s.l.drop (k * j)).take k).map U8)
    by_cases h0 : s.l.length ≤ k * j
    · rw [List.drop_eq_nil_of_le h0]
      simpa using Reads.nil _ _
    · obtain ⟨b, i, hae, hc⟩ := h.reads.at (by simp; omega)
      have hcap : ¬ s.cap = k * j := by have := h.len; omega
      rw [show (s.part k j).ad = some ⟨b, i + k * j, none⟩ by
        show (if s.cap = k * j then s.ad else s.ad.map (·.add (k * j * 1))) = _
        rw [if_neg hcap, hae]
        simp [add_off]]
      intro t v hv
      refine ⟨b, i + k * j, rfl, ?_⟩
      have hv' : (s.l.map U8)[k * j + t]? = some v := by
        rw [List.getElem?_map] at hv ⊢
        rw [List.getElem?_take] at hv
        split at hv
        · rw [List.getElem?_drop] at hv; exact hv
        · simp at hv
      have := hc (k * j + t) v hv'
      rwa [← Nat.add_assoc] at this
def parts (s : Sl8) (k : Nat) : Nat := (s.l.length + k - 1) / k
theorem parts_lt {s : Sl8} {k j : Nat} (hk : 0 < k) : j < parts s k ↔ k * j < s.l.length := by
  unfold parts
  rw [Nat.lt_div_iff_mul_lt hk, Nat.mul_comm]
  omega
theorem OQ.slPart {P : Program} {n : Nat} {E : Env} {C : World → Prop} {dst : Option Tmp} {t ty e : TypeId} {pos : String} {aft : Array Edge} {g : Option (Nat × Bool)} {x y z : Operand} {s : Sl8} {k j : Nat} (hu : P.underlying t = some (.slice e)) (hz : szT P e = some 1) (hx : ev E x = some s.v) (hl : ev E y = some (N (k * j))) (hh : ev E z = some (N (min (k * j + k) s.l.length))) (h : k * j ≤ s.l.length) (hc : s.l.length ≤ s.cap) :
    OQ P n E C ⟨dst, .slice t x (some y) (some z) none, ty, pos, aft, g⟩ (s.part k j).v := by
  rw [part_v s k j h]
  exact OQ.slS_lohi hu hz hx hl hh (by omega) (by omega)
theorem OQ.clos2 {P : Program} {n : Nat} {E : Env} {C : World → Prop} {dst : Option Tmp} {ty : TypeId} {pos : String} {aft : Array Edge} {g : Option (Nat × Bool)} {f : FuncId} {x y : Operand} {vx vy : Value} (hx : ev E x = some vx) (hy : ev E y = some vy) : OQ P n E C ⟨dst, .makeFunc (.func f) #[] #[x, y], ty, pos, aft, g⟩ (.func (.func f) #[] #[vx, vy]) :=
  OQ.run fun a ha w _ => by simp [execOp, ha.eval hx, ha.eval hy, Instr.makeFunc]
theorem goes_groups : Goes Tryz.prog 142 := ⟨_, Tryz.func142, rfl, by kernel_rfl⟩
theorem groups_any (s : Sl8) (k : Nat) (w : World) : Calls Tryz.prog 142 [s.v, N k].toArray w fun e w' => ∃ q : Nat × Nat, e = .returned (.func (.func 197) #[] #[Pt q.1 0, Pt q.2 0]) ∧ Holds w [] [⟨q.2, Row 3 [N k], true⟩, ⟨q.1, Row 22 [s.v], true⟩] w' := by
  refine enter (n := 6) Tryz.func142 rfl rfl rfl (Holds.start w []) ?_
  repeat (first | refine JC.seq ?_ | refine JC.region ?_)
  refine JL.box rfl rfl rfl fun b1 _ => ?_
  refine JL.box rfl rfl rfl fun b2 _ => ?_
  repeat (first | refine JL.q (by first | (apply OQ.clos2; exact rfl; exact rfl) | (apply OQ.assign; exact rfl)) rfl ?_ | refine JC.seq ?_ | refine JC.region ?_ | refine JL.nil ?_ | refine JE.next ?_)
  refine JC.ret (JE.ret1 rfl (RV.tmp rfl) ?_)
  exact fun w' hw => ⟨(b1, b2), rfl, hw⟩
theorem load_fix {P : Program} {n : Nat} {E : Env} {dst : Option Tmp} {t ty : TypeId} {pos : String} {aft : Array Edge} {g : Option (Nat × Bool)} {x : Operand} {b j : Nat} {v : Value} {W : World} {o : Obj} (hs : scal P t = true) (hx : ev E x = some (.pointer (some ⟨b, j, none⟩))) (ho : W.heap[b]? = some o) (hA : cellAt o j = some v) : OQ P n E (fun w => w = W) ⟨dst, .load t x, ty, pos, aft, g⟩ v :=
  OQ.load_at (fun _ hw => by rw [hw]; exact loadVar_scal hs (cell_of ho hA)) hx
set_option maxHeartbeats 4000000 in
theorem groups_stops (s : Sl8) (k b1 b2 : Nat) (hk : 0 < k) (hc : s.l.length ≤ s.cap) (hl : s.l.length + k < 9223372036854775808) (W0 : World) {o1 o2 : Obj} (h1 : W0.heap[b1]? = some o1) (h1' : cellAt o1 0 = some s.v) (h2 : W0.heap[b2]? = some o2) (h2' : cellAt o2 0 = some (N k)) :
    SeqStopsK Fence.wide 2 Tryz.prog 197 #[Pt b1 0, Pt b2 0] (fun j => #[(s.part k j).v]) (KeepL [b1, b2]) (fun xs => xs = List.range (parts s k)) (fun _ => True) (parts s k) W0 := by
  intro l J Jx W hW hJ hJx hY h0
  have hb1 : b1 < W0.heap.size := (Array.getElem?_eq_some_iff.1 h1).1
  have hb2 : b2 < W0.heap.size := (Array.getElem?_eq_some_iff.1 h2).1
  refine callsIn_wide.2 ?_
  refine enterF (n := 24) (vs := [.func (.yield l) #[] #[], Pt b1 0, Pt b2 0]) Tryz.func197 rfl rfl rfl ?_
  refine FC.seq (FC.region (FL.q (OQ.assign rfl) rfl rfl (FL.nil (FE.next ?_))))
  refine FC.block (FC.loop (fun j : Nat => [(0, .func (.yield l) #[] #[]), (1, Pt b1 0), (2, Pt b2 0), (4, N (k * j))])
    (fun j w => j ≤ parts s k ∧ J (List.range j) w ∧ w.heap[b1]? = some o1 ∧ w.heap[b2]? = some o2) (fun j => parts s k - j) 0 ⟨Nat.zero_le _, h0, (hW.block b1 hb1).trans h1, (hW.block b2 hb2).trans h2⟩ (by repeat (first | exact SubE.nil | refine SubE.cons _ _ _ rfl ?_)) ?_)
  rintro j w ⟨hj, hJj, g1, g2⟩
  dsimp only
  repeat (first | refine FL.q (by first | (apply load_fix; exact rfl; exact rfl; exact g1; exact h1') | (apply OQ.len; exact Tryz.underlying22; exact rfl) | (apply OQ.move; exact rfl) | (apply OQ.lssN; exact rfl; exact rfl)) rfl rfl ?_ | refine FC.seq ?_ | refine FC.region ?_ | refine FL.nil ?_ | refine FE.next ?_)
  refine FC.cond rfl (fun h => ?_) (fun h => ?_)
  · have hjl : k * j < s.l.length := of_decide_eq_true h
    have hjp : j < parts s k := (parts_lt hk).2 hjl
    clear h
    repeat (first | refine FL.q (by first | (apply load_fix; exact rfl; exact rfl; exact g1; exact h1') | (apply load_fix; exact rfl; exact rfl; exact g2; exact h2') | (apply OQ.len; exact Tryz.underlying22; exact rfl) | (apply OQ.minN; exact rfl; exact rfl) | (apply OQ.slPart; exact Tryz.underlying22; exact u8s; exact rfl; exact rfl; exact rfl; exact (by omega); exact hc) | (apply OQ.move; exact rfl) | (apply OQ.addN; exact rfl; exact rfl; exact (by (try simp only []); omega))) rfl rfl ?_ | refine FC.seq ?_ | refine FC.region ?_ | refine FC.block ?_ | refine FC.skip ?_ | refine FE.next ?_)
    refine FL.yield (v := (s.part k j).v) ?_ ?_ ?_ (hY (List.range j) j w hJj (by simpa using hjp)) ?_
    · rfl
    · rfl
    · rfl
    rintro e W' (⟨rfl, hJ', hk'⟩ | ⟨rfl, hJx'⟩)
    · refine ⟨true, rfl, ?_⟩
      have g1' := (hk'.same b1 (by simp)).trans g1
      have g2' := (hk'.same b2 (by simp)).trans g2
      repeat (first | refine FL.q (by (apply OQ.not; exact rfl)) rfl rfl ?_ | refine FL.nil ?_ | refine FE.next ?_)
      refine FC.cond rfl (fun h => by cases h) (fun _ => ?_)
      repeat (first | refine FL.q (by first | (apply load_fix; exact rfl; exact rfl; exact g2'; exact h2') | (apply OQ.move; exact rfl) | (apply OQ.assign; exact rfl) | (apply OQ.addN; exact rfl; exact rfl; exact (by (try simp only []); omega))) rfl rfl ?_ | refine FC.region ?_ | refine FC.skip ?_ | refine FL.nil ?_ | refine FE.next ?_ | refine FE.blk_normal ?_)
      refine FE.again (i := j) (j + 1) ⟨by omega, by rw [List.range_succ]; exact hJ', g1', g2'⟩ (by show parts s k - (j + 1) < parts s k - j; omega) ?_
      rw [show k * (j + 1) = k * j + k from Nat.mul_succ k j]
      exact (by repeat (first | exact SubE.nil | refine SubE.cons _ _ _ rfl ?_))
    · refine ⟨false, rfl, ?_⟩
      repeat (first | refine FL.q (by (apply OQ.not; exact rfl)) rfl rfl ?_ | refine FL.nil ?_ | refine FE.next ?_)
      refine FC.cond rfl (fun _ => ?_) (fun h => by cases h)
      refine FC.ret ?_
      repeat (first | refine FE.then_ret ?_ | refine FE.blk_ret ?_)
      exact FE.ret0 rfl ⟨⟨_, rfl⟩, .inr ⟨_, trivial, hJx'⟩⟩
  · have hjp : j = parts s k := by
      have : ¬ k * j < s.l.length := of_decide_eq_false h
      have := mt (parts_lt (s := s) hk).1 this
      omega
    clear h
    subst hjp
    repeat (first | refine FC.exit ?_ | refine FE.then_exit ?_ | refine FE.blk_hit ?_)
    exact FE.end0 rfl ⟨⟨_, rfl⟩, .inl ⟨_, rfl, hJj⟩⟩
end Go.Proofs.YtdabhneehconeaaGreatDoor

/-
  Of no statement by itself: the landed mime's eachLine: the iterator that hands out where lines begin, and the lines.
  Conditions: each theorem's own.
-/
namespace Go.Proofs.YtdabhneehconeaaGreatDoor
set_option maxRecDepth 10000
open Sl Fld Mim
/-- where the k-th line begins -/
def atN (l : List Fld.By) : Nat → Nat
  | 0 => 0
  | k + 1 => atN l k + rawN (l.drop (atN l k))
theorem atN_le (l : List Fld.By) : ∀ k, atN l k ≤ l.length
  | 0 => Nat.zero_le _
  | k + 1 => by
    have := atN_le l k
    have h := rawN_le (l.drop (atN l k))
    rw [List.length_drop] at h
    show atN l k + _ ≤ _
    omega
theorem lin_nil {d : List Fld.By} : linB d = [] ↔ d = [] := by
  constructor
  · intro h
    by_cases hd : d = []
    · exact hd
    · obtain ⟨e, h1, _⟩ := lin_step hd
      rw [h1] at h
      cases h
  · rintro rfl; rfl
theorem lin_at (l : List Fld.By) : ∀ k, (linB (l.drop (atN l k))).length = (linB l).length - k
  | 0 => rfl
  | k + 1 => by
    have ih := lin_at l k
    by_cases hd : l.drop (atN l k) = []
    · have e : atN l (k + 1) = atN l k := by
        show atN l k + rawN (l.drop (atN l k)) = _
        rw [hd]
        rfl
      rw [e, ih]
      rw [hd] at ih
      have : (linB ([] : List Fld.By)).length = 0 := rfl
      omega
    · obtain ⟨e, h1, _⟩ := lin_step hd
      rw [h1, List.length_cons, List.drop_drop] at ih
      show (linB (l.drop (atN l k + rawN (l.drop (atN l k))))).length = _
      omega
theorem atN_lt (l : List Fld.By) (k : Nat) : k < (linB l).length ↔ atN l k < l.length := by
  have h := lin_at l k
  have h2 : (linB (l.drop (atN l k))).length = 0 ↔ l.length ≤ atN l k := by
    rw [List.length_eq_zero_iff, lin_nil, List.drop_eq_nil_iff]
  omega
theorem atN_end (l : List Fld.By) : atN l (linB l).length = l.length := by
  have := mt (atN_lt l (linB l).length).2 (by omega)
  have := atN_le l (linB l).length
  omega
/-- what round k is handed -/
def encL (s : Sl8) (k : Nat) : Value × Value := (N (atN s.l k), (s.mid (atN s.l k) (atN s.l (k + 1))).v)
theorem goes_each : Goes Tryz.prog 190 := ⟨_, Tryz.func190, rfl, by kernel_rfl⟩
def eachF (b : Nat) : Value := .func (.func 229) #[] #[Pt b 0]
theorem each_any (s : Sl8) (w : World) : Calls Tryz.prog 190 [s.v].toArray w fun e w' => ∃ b : Nat, e = .returned (eachF b) ∧ Holds w [] [⟨b, Row 22 [s.v], true⟩] w' := by
  refine enter (n := 4) Tryz.func190 rfl rfl rfl (Holds.start w []) ?_
  refine JC.seq (JC.region (JL.box (r := [s.v]) rfl rfl rfl fun b _ => ?_))
  repeat (first | refine JL.q (by first | (apply OQ.mkF (caps := [Pt b 0]); exact rfl) | (apply OQ.assign; exact rfl)) rfl ?_ | refine JC.seq ?_ | refine JC.region ?_ | refine JL.nil ?_ | refine JE.next ?_)
  refine JC.ret (JE.ret1 rfl (RV.tmp rfl) ?_)
  exact fun w' hw => ⟨b, rfl, hw⟩
/-- the block that a slice's bytes stand in -/
def blkS (s : Sl8) : List Nat := match s.l, s.ad with
  | _ :: _, some a => [a.block]
  | _, _ => []
theorem blkS_lt {s : Sl8} {w : World} (h : s.ok w) : ∀ k ∈ blkS s, k < w.heap.size := by
  obtain ⟨ad, cap, l⟩ := s
  intro k hk
  cases l with
  | nil => cases hk
  | cons c r =>
    cases ad with
    | none => cases hk
    | some a =>
      obtain rfl := List.mem_singleton.1 hk
      exact h.lt (by simp) a rfl
theorem ok_keep {s : Sl8} {w w' : World} (h : s.ok w) (hk : ∀ k ∈ blkS s, w'.heap[k]? = w.heap[k]?) : s.ok w' := by
  obtain ⟨ad, cap, l⟩ := s
  refine ⟨h.len, fun i v hv => ?_⟩
  obtain ⟨b, j, e, c⟩ := h.reads i v hv
  refine ⟨b, j, e, ?_⟩
  dsimp only at hv e
  subst e
  cases l with
  | nil => simp at hv
  | cons c' r =>
    have hb : w'.heap[b]? = w.heap[b]? := hk b (List.mem_singleton.2 rfl)
    unfold World.cell? at c ⊢
    rw [hb]
    exact c
theorem line_raw (s : Sl8) (k : Nat) : (s.mid (atN s.l k) (atN s.l (k + 1))).l = lineB s.l (atN s.l k) := by
  show (s.l.take (atN s.l k + rawN (s.l.drop (atN s.l k)))).drop (atN s.l k) = (s.l.drop (atN s.l k)).take (rawN (s.l.drop (atN s.l k)))
  rw [List.drop_take]
  congr 1
  omega
theorem fi_raw (d : List Fld.By) : rawN d = if fi 10 d < d.length then fi 10 d + 1 else d.length := rfl
set_option maxHeartbeats 8000000 in
theorem each_stops (s : Sl8) (b1 : Nat) (hl : s.l.length ≤ 4611686018427387904) (W0 : World) (hs : s.ok W0) {o1 : Obj} (h1 : W0.heap[b1]? = some o1) (h1' : cellAt o1 0 = some s.v) :
    SeqN Tryz.prog 229 #[Pt b1 0] (encL s) (b1 :: blkS s) (linB s.l).length W0 := by
  intro l J X W hW hJ hY h0
  have hb1 : b1 < W0.heap.size := (Array.getElem?_eq_some_iff.1 h1).1
  have hcap := hs.len
  refine callsIn_wide.2 ?_
  refine enterF (n := 33) (vs := [.func (.yield l) #[] #[], Pt b1 0]) Tryz.func229 rfl rfl rfl ?_
  refine FC.seq (FC.region (FL.q (OQ.assign rfl) rfl rfl (FL.nil (FE.next ?_))))
  refine FC.block (FC.loop (fun k : Nat => [(0, .func (.yield l) #[] #[]), (1, Pt b1 0), (3, N (atN s.l k))])
    (fun k w => k ≤ (linB s.l).length ∧ J k w ∧ w.heap[b1]? = some o1 ∧ s.ok w) (fun k => (linB s.l).length - k) 0 ⟨Nat.zero_le _, h0, (hW.block b1 hb1).trans h1, ok_keep hs fun k hk => hW.block k (blkS_lt hs k hk)⟩ (by repeat (first | exact SubE.nil | refine SubE.cons _ _ _ rfl ?_)) ?_)
  rintro k w ⟨hk, hJk, g1, ok⟩
  repeat (first | refine FL.q (by first | (apply load_fix; exact rfl; exact rfl; exact g1; exact h1') | (apply OQ.len; exact Tryz.underlying22; exact rfl) | (apply OQ.move; exact rfl) | (apply OQ.lssN; exact rfl; exact rfl)) rfl rfl ?_ | refine FC.seq ?_ | refine FC.region ?_ | refine FL.nil ?_ | refine FE.next ?_)
  refine FC.cond rfl (fun h => ?_) (fun h => ?_)
  · have hkl : atN s.l k < s.l.length := of_decide_eq_true h
    have hkp : k < (linB s.l).length := (atN_lt s.l k).2 hkl
    have hle : atN s.l k ≤ s.l.length := by omega
    clear h
    repeat (first | refine FL.q (by first | (apply load_fix; exact rfl; exact rfl; exact g1; exact h1') | (apply OQ.snd (s := s); exact Tryz.underlying22; exact u8s; exact rfl; exact rfl; exact hle) | (apply OQ.move; exact rfl)) rfl rfl ?_ | refine FC.seq ?_ | refine FC.region ?_ | refine FC.block ?_ | refine FC.skip ?_ | refine FE.next ?_)
    refine FL.callx (vs := [(s.snd (atN s.l k)).v, U8 10]) goes_bixb rfl rfl (bixb_any (s.snd (atN s.l k)) 10 w (ok.snd _ hle)) fun w' hx => ?_
    have hJk := hJ k w w' hJk hx
    have g1 := (hx.block _ (Array.getElem?_eq_some_iff.1 g1).1 (by simp)).trans g1
    have ok := ok.ext hx
    have hdl : (s.snd (atN s.l k)).l = s.l.drop (atN s.l k) := rfl
    have hn : atN s.l (k + 1) = atN s.l k + rawN (s.l.drop (atN s.l k)) := rfl
    have hle2 := atN_le s.l (k + 1)
    have hge : atN s.l k ≤ atN s.l (k + 1) := by omega
    have henc : encL s k = (N (atN s.l k), (s.mid (atN s.l k) (atN s.l (k + 1))).v) := rfl
    have hYk := hY k w' hkp hJk
    rw [henc] at hYk
    dsimp only at hYk
    have hdn : (s.l.drop (atN s.l k)).length = s.l.length - atN s.l k := List.length_drop
    have hraw := fi_raw (s.l.drop (atN s.l k))
    rw [hdl]
    refine FL.q (v := N (if fi 10 (s.l.drop (atN s.l k)) < (s.l.drop (atN s.l k)).length then fi 10 (s.l.drop (atN s.l k)) + 1 else 0)) ?_ rfl rfl ?_
    · by_cases hf : fi 10 (s.l.drop (atN s.l k)) < (s.l.drop (atN s.l k)).length
      · rw [if_pos hf]
        exact OQ.to (OQ.addI (a := ixC 10 (s.l.drop (atN s.l k))) (b := 1) rfl rfl (by unfold ixC; rw [if_pos hf]; omega) (by unfold ixC; rw [if_pos hf]; omega)) (by unfold ixC; rw [if_pos hf]; rfl)
      · rw [if_neg hf]
        exact OQ.to (OQ.addI (a := ixC 10 (s.l.drop (atN s.l k))) (b := 1) rfl rfl (by unfold ixC; rw [if_neg hf]; omega) (by unfold ixC; rw [if_neg hf]; omega)) (by unfold ixC; rw [if_neg hf]; rfl)
    refine FL.q (OQ.assign rfl) rfl rfl (FL.nil (FE.next ?_))
    refine FC.mid [(0, .func (.yield l) #[] #[]), (1, Pt b1 0), (3, N (atN s.l k)), (4, N (rawN (s.l.drop (atN s.l k))))] ?_ ?_
    · by_cases hf : fi 10 (s.l.drop (atN s.l k)) < (s.l.drop (atN s.l k)).length
      · rw [if_pos hf] at hraw ⊢
        rw [hraw]
        have h0 : decide (((fi 10 (s.l.drop (atN s.l k)) + 1 : Nat) : Int) = 0) = false := decide_eq_false (by omega)
        repeat (first | refine FL.q (by first | (apply OQ.eqB (b := 0); exact rfl; exact rfl; exact h0) | (apply OQ.move; exact rfl)) rfl rfl ?_ | refine FC.seq ?_ | refine FC.region ?_ | refine FL.nil ?_ | refine FE.next ?_)
        refine FC.cond rfl (fun h => by cases h) (fun _ => FC.skip (FE.mid (by repeat (first | exact SubE.nil | refine SubE.cons _ _ _ rfl ?_))))
      · rw [if_neg hf] at hraw ⊢
        rw [hraw, hdn]
        have h0 : decide (((0 : Nat) : Int) = 0) = true := rfl
        repeat (first | refine FL.q (by first | (apply OQ.eqB (b := 0); exact rfl; exact rfl; exact h0) | (apply OQ.move; exact rfl)) rfl rfl ?_ | refine FC.seq ?_ | refine FC.region ?_ | refine FL.nil ?_ | refine FE.next ?_)
        refine FC.cond rfl (fun _ => ?_) (fun h => by cases h)
        repeat (first | refine FL.q (by first | (apply load_fix; exact rfl; exact rfl; exact g1; exact h1') | (apply OQ.len; exact Tryz.underlying22; exact rfl) | (apply OQ.move; exact rfl) | (apply OQ.assign; exact rfl) | (apply OQ.subN; exact rfl; exact rfl; exact (by (try simp only []); omega); exact (by (try simp only []); omega))) rfl rfl ?_ | refine FC.region ?_ | refine FL.nil ?_)
        exact FE.mid (by repeat (first | exact SubE.nil | refine SubE.cons _ _ _ rfl ?_))
    rw [show rawN (s.l.drop (atN s.l k)) = atN s.l (k + 1) - atN s.l k by omega]
    have hsum : atN s.l k + (atN s.l (k + 1) - atN s.l k) = atN s.l (k + 1) := by omega
    refine FC.seq (FC.seq (FC.region ?_))
    refine FL.q (OQ.move rfl) rfl rfl ?_
    refine FL.q (OQ.move rfl) rfl rfl ?_
    refine FL.q (load_fix rfl rfl g1 h1') rfl rfl ?_
    refine FL.q (OQ.move rfl) rfl rfl ?_
    refine FL.q (OQ.move rfl) rfl rfl ?_
    refine FL.q (OQ.move rfl) rfl rfl ?_
    refine FL.q (OQ.to (OQ.addN (a := atN s.l k) (b := atN s.l (k + 1) - atN s.l k) rfl rfl (by omega)) (congrArg N hsum)) rfl rfl ?_
    refine FL.q (OQ.mid8 (s := s) (lo := atN s.l k) (hi := atN s.l (k + 1)) Tryz.underlying22 u8s rfl rfl rfl hge hle2 hcap) rfl rfl ?_
    refine FL.yield2 (v := N (atN s.l k)) (v' := (s.mid (atN s.l k) (atN s.l (k + 1))).v) rfl rfl rfl rfl hYk ?_
    rintro e W' (⟨rfl, hJ', hk'⟩ | ⟨rfl, hX'⟩)
    · refine ⟨true, rfl, ?_⟩
      have g1' := (hk'.same b1 (by simp)).trans g1
      have ok' := ok_keep ok fun b hb => hk'.same b (by simp [hb])
      repeat (first | refine FL.q (by (apply OQ.not; exact rfl)) rfl rfl ?_ | refine FL.nil ?_ | refine FE.next ?_)
      refine FC.cond rfl (fun h => by cases h) (fun _ => ?_)
      refine FC.skip (FE.next (FC.region ?_))
      refine FL.q (OQ.move rfl) rfl rfl ?_
      refine FL.q (OQ.move rfl) rfl rfl ?_
      refine FL.q (OQ.to (OQ.addN (a := atN s.l k) (b := atN s.l (k + 1) - atN s.l k) rfl rfl (by omega)) (congrArg N hsum)) rfl rfl ?_
      repeat (first | refine FL.q (by (apply OQ.assign; exact rfl)) rfl rfl ?_ | refine FL.nil ?_ | refine FE.blk_normal ?_)
      exact FE.again (i := k) (k + 1) ⟨hkp, hJ', g1', ok'⟩ (by omega) (by repeat (first | exact SubE.nil | refine SubE.cons _ _ _ rfl ?_))
    · refine ⟨false, rfl, ?_⟩
      repeat (first | refine FL.q (by (apply OQ.not; exact rfl)) rfl rfl ?_ | refine FL.nil ?_ | refine FE.next ?_)
      refine FC.cond rfl (fun _ => ?_) (fun h => by cases h)
      refine FC.ret ?_
      repeat (first | refine FE.then_ret ?_ | refine FE.blk_ret ?_)
      exact FE.ret0 rfl ⟨⟨_, rfl⟩, .inr hX'⟩
  · have hkp : k = (linB s.l).length := by
      have : ¬ atN s.l k < s.l.length := of_decide_eq_false h
      have := mt (atN_lt s.l k).1 this
      omega
    clear h
    subst hkp
    repeat (first | refine FC.exit ?_ | refine FE.then_exit ?_ | refine FE.blk_hit ?_)
    exact FE.end0 rfl ⟨⟨_, rfl⟩, .inl hJk⟩
end Go.Proofs.YtdabhneehconeaaGreatDoor

/-
  Of no statement by itself: slices of slices of bytes that begin as nil and are appended to; for any program P.
  Conditions: each rule's own hypotheses.
-/
namespace Go.Proofs.YtdabhneehconeaaGreatDoor
open Sl
theorem JL.less {P : Program} {n : Nat} {w0 : World} {S : List Nat} {ops : Array Oper} {Q : Exit → Act → World → Prop} {l : List Oper} {E : Env} {M M' : List Ent} (hM : Less M' M) (h : JL P n w0 S ops Q l E M') : JL P n w0 S ops Q l E M :=
  ⟨fun a w ha hw => h.go a w ha (hw.weak hM)⟩
theorem flat_snoc {e : TypeId} (rs : List Sl8) (q : Acc) (l : List Bt) : Less (flatE (rs ++ [accS q l])) (flatE rs ++ accE e q (l.map U8)) := by
  unfold flatE
  rw [List.flatMap_append]
  refine less_app2 ?_ _
  show Less ((accS q l).ents ++ []) _
  rw [List.append_nil]
  exact accS_ents q l
theorem accV_cells (q : Acc) (k : Nat) : (accV q k).cells = #[accV q k] := by cases q <;> rfl
theorem accV_one (q : Acc) (k : Nat) : (accV q k).oneCell' = true := by cases q <;> rfl
end Go.Proofs.YtdabhneehconeaaGreatDoor

/-
  Of no statement by itself: how long what stands between a boundary's lines may be; pure; no program stands here.
  Conditions: none.
-/
namespace Go.Proofs.YtdabhneehconeaaGreatDoor
namespace Mim
open Fld
def sumL : List (List By × List By) → Nat
  | [] => 0
  | q :: r => q.1.length + q.2.length + sumL r
theorem linR_sum : ∀ b x : List By, sumL (linR b x) ≤ b.length + x.length ∧ (linR b x).length ≤ b.length + 1
  | [], x => by
    unfold linR
    split
    · exact ⟨Nat.zero_le _, Nat.zero_le _⟩
    · simp [sumL]
  | c :: b, x => by
    unfold linR
    split
    · obtain ⟨i1, i2⟩ := linR_sum b []
      simp only [List.length_nil, Nat.add_zero] at i1
      constructor
      · unfold sumL
        split
        · next h13 =>
          have : 0 < x.length := by cases x with
            | nil => cases h13
            | cons y x => simp
          simp only [List.length_dropLast, List.length_cons, List.length_nil]; omega
        · simp only [List.length_cons, List.length_nil]; omega
      · simp only [List.length_cons]; omega
    · obtain ⟨i1, i2⟩ := linR_sum b (x ++ [c])
      simp only [List.length_append, List.length_cons, List.length_nil] at i1 i2 ⊢
      omega
theorem colR_sum (bd : List By) : ∀ (r : List (List By × List By)) (p o : List By), (colR bd r p o).1.length + sumL (colR bd r p o).2 ≤ sumL r + p.length + o.length
  | [], p, o => by simp only [colR, sumL]; omega
  | (l, e) :: r, p, o => by
    unfold colR
    split
    · have := colR_sum bd r e (o ++ p ++ l)
      simp only [List.length_append, sumL] at this ⊢
      omega
    · simp only [sumL]; omega
theorem splL_sum (bd : List By) : ∀ (n : Nat) (r : List (List By × List By)) (out o : List (List By)), r.length ≤ n → splL bd r out = some o → o.length ≤ out.length + r.length ∧ ∀ y ∈ o, y ∈ out ∨ y.length ≤ sumL r := by
  intro n
  induction n with
  | zero =>
    intro r out o hr h
    obtain rfl : r = [] := List.eq_nil_of_length_eq_zero (by omega)
    rw [splL] at h
    cases h
  | succ n ih =>
    intro r out o hr h
    cases r with
    | nil => rw [splL] at h; cases h
    | cons q r =>
      obtain ⟨l, e⟩ := q
      rw [splL] at h
      have k1 := colR_len bd r [] []
      have k2 := colR_sum bd r [] []
      simp only [List.length_nil, Nat.add_zero, List.length_cons] at k2 hr
      split at h
      · obtain ⟨i1, i2⟩ := ih _ _ _ (by omega) h
        rw [List.length_append] at i1
        simp only [List.length_cons, List.length_nil] at i1
        refine ⟨by simp only [List.length_cons]; omega, fun y hy => ?_⟩
        rcases i2 y hy with hy | hy
        · rcases List.mem_append.1 hy with hy | hy
          · exact .inl hy
          · rw [List.mem_singleton.1 hy]; exact .inr (by simp only [sumL]; omega)
        · exact .inr (by simp only [sumL]; omega)
      · split at h
        · cases h
          exact ⟨Nat.le_add_right _ _, fun y hy => .inl hy⟩
        · cases h
theorem sum_drop (f : List By × List By → Bool) : ∀ r : List (List By × List By), sumL (r.dropWhile f) ≤ sumL r ∧ (r.dropWhile f).length ≤ r.length
  | [] => ⟨Nat.le_refl _, Nat.le_refl _⟩
  | q :: r => by
    rw [List.dropWhile_cons]
    obtain ⟨i1, i2⟩ := sum_drop f r
    split
    · simp only [sumL, List.length_cons]; omega
    · exact ⟨Nat.le_refl _, Nat.le_refl _⟩
end Mim
end Go.Proofs.YtdabhneehconeaaGreatDoor

/-
  Of no statement by itself: what the reference's Boundary and mark (layer 12) give.
  Conditions: each theorem's own.
-/
namespace Go.Proofs.YtdabhneehconeaaGreatDoor
set_option maxRecDepth 10000
open Sl Fld Tok Mim
end Go.Proofs.YtdabhneehconeaaGreatDoor

/-
  Of no statement by itself: what the reference's Lines (layer 12) gives.
  Conditions: each theorem's own.
-/
namespace Go.Proofs.YtdabhneehconeaaGreatDoor
set_option maxRecDepth 10000
open Sl Fld Mim
namespace Mim
end Mim
structure LnT where
  i : Nat
  rs : List Sl8
  es : List Sl8
  zs : List Sl8
  b1 : Nat
  c1 : Nat
  b2 : Nat
  c2 : Nat
  b3 : Nat
  c3 : Nat
end Go.Proofs.YtdabhneehconeaaGreatDoor

/-
  Of no statement by itself: loops whose rounds leave worlds that are the new beginning; over X's partial knowledge, for any program P.
  Conditions: each rule's own hypotheses.
-/
namespace Go.Proofs.YtdabhneehconeaaGreatDoor
open Sl
end Go.Proofs.YtdabhneehconeaaGreatDoor

/-
  Of no statement by itself: what the reference's Split (layer 12) gives.
  Conditions: each theorem's own.
-/
namespace Go.Proofs.YtdabhneehconeaaGreatDoor
set_option maxRecDepth 10000
open Sl Fld Mim
theorem SlL.ok.at {w : World} {s : SlL} (h : s.ok w) {i : Nat} (hi : i < s.rs.length) : ∃ b j, s.ad = some ⟨b, j, none⟩ ∧ b < w.heap.size ∧ w.cell? ⟨b, j + i, none⟩ = some (s.rs.getD i nilS).v ∧ (s.rs.getD i nilS).ok w := by
  have h1 : (s.rs.map Sl8.v)[i]? = some (s.rs.getD i nilS).v := map_at Sl8.v nilS hi
  obtain ⟨b, j, e1, c1⟩ := h.reads _ _ h1
  refine ⟨b, j, e1, block_lt_of_cell c1, c1, h.all _ ?_⟩
  rw [List.getD_eq_getElem?_getD, List.getElem?_eq_getElem hi]
  exact List.getElem_mem hi
theorem drop_at {α : Type} {xs : List α} {i : Nat} (d : α) (h : i < xs.length) : xs.drop i = xs.getD i d :: xs.drop (i + 1) := by
  rw [List.drop_eq_getElem_cons h, List.getD_eq_getElem?_getD, List.getElem?_eq_getElem h]; rfl
theorem mark_le (bd s : List Fld.By) : markB bd s = 0 ∨ markB bd s = 1 ∨ markB bd s = 2 := by
  unfold markB
  split
  · exact .inr (.inl rfl)
  · split
    · exact .inr (.inr rfl)
    · exact .inl rfl
structure SpT where
  i : Nat
  os : List Sl8
  zs : List Sl8
  bo : Nat
  co : Nat
structure PtT where
  i : Nat
  o : List Bt
  b : Nat
  c : Nat
/-- lines' rows as an answer, in blocks of its own -/
structure SpN (out : List (List Bt)) where
  q : Acc
  rs : List Sl8
  zs : List Sl8
  hrs : rs.map Sl8.l = out
  hq : q = none → rs = []
  h0 : ∀ x ∈ zs, x.ad = none → x.l = []
  sub : ∀ x ∈ rs, x ∈ zs
def SpN.v {out : List (List Bt)} (z : SpN out) : Value := accV z.q (z.rs.map Sl8.v).length
def SpN.ents {out : List (List Bt)} (z : SpN out) : List Ent := accE 22 z.q (z.rs.map Sl8.v) ++ flatE z.zs
theorem SpN.wr {out : List (List Bt)} (z : SpN out) : ∀ e ∈ z.ents, e.wr = true := fun e he => by
  rcases List.mem_append.1 he with h | h
  · exact accE_wr _ _ _ e h
  · obtain ⟨x, _, hx⟩ := List.mem_flatMap.1 h
    exact x.ents_wr e hx
def SpN.nil : SpN [] := ⟨none, [], [], rfl, fun _ => rfl, nofun, nofun⟩
end Go.Proofs.YtdabhneehconeaaGreatDoor

/-
  Of no statement by itself: what the landed mime's Split gives.
  Conditions: each theorem's own.
-/
namespace Go.Proofs.YtdabhneehconeaaGreatDoor
set_option maxRecDepth 10000
open Sl Fld Mim
/-- slices of bytes as an answer: a slice of them, each one's bytes in memory of its own -/
structure SpA (out : List (List Bt)) where
  q : Acc
  rs : List Sl8
  hrs : rs.map Sl8.l = out
  hq : q = none → rs = []
  h0 : ∀ x ∈ rs, x.ad = none → x.l = []
def SpA.v {out : List (List Bt)} (z : SpA out) : Value := accV z.q (z.rs.map Sl8.v).length
def SpA.ents {out : List (List Bt)} (z : SpA out) : List Ent := accE 22 z.q (z.rs.map Sl8.v) ++ flatE z.rs
theorem SpA.wr {out : List (List Bt)} (z : SpA out) : ∀ e ∈ z.ents, e.wr = true := fun e he => by
  rcases List.mem_append.1 he with h | h
  · exact accE_wr _ _ _ e h
  · obtain ⟨x, _, hx⟩ := List.mem_flatMap.1 h
    exact x.ents_wr e hx
theorem goes_msplitL : Goes Tryz.prog 137 := ⟨_, Tryz.func137, rfl, by kernel_rfl⟩
theorem mixMi : Tryz.prog.follows .mixedOrders = true := by kernel_rfl
theorem lsZ : zc Tryz.prog 93 = some [.slice none 0 0] := by kernel_rfl
theorem erZ : zc Tryz.prog 30 = some [.int .i64 0] := by kernel_rfl
theorem stZ : zc Tryz.prog 9 = some [Z []] := by kernel_rfl
theorem boZ : zc Tryz.prog 4 = some [.bool false] := by kernel_rfl
theorem inZ : zc Tryz.prog 3 = some [.int .i64 0] := by kernel_rfl
theorem lsS : szT Tryz.prog 93 = some 1 := by kernel_rfl
theorem erS : szT Tryz.prog 30 = some 1 := by kernel_rfl
theorem stS12 : szT Tryz.prog 9 = some 1 := by kernel_rfl
theorem inS12 : szT Tryz.prog 3 = some 1 := by kernel_rfl
theorem bsS12 : szT Tryz.prog 22 = some 1 := by kernel_rfl
theorem lsC : scal Tryz.prog 93 = true := by kernel_rfl
theorem erC : scal Tryz.prog 30 = true := by kernel_rfl
theorem stC12 : scal Tryz.prog 9 = true := by kernel_rfl
theorem inC12 : scal Tryz.prog 3 = true := by kernel_rfl
theorem bsC8 : scal Tryz.prog 22 = true := by kernel_rfl
theorem slE12 : EI Tryz.prog 22 (.slice none 0 0) 1 24 := by unfold EI; kernel_rfl
/-- how far the loop is -/
structure SpZ where
  st : Option Nat
  q : Acc
  rs : List Sl8
section
variable (s : Sl8) (bd : List Bt) (be b2 b4 b5 b6 b7 b8 b9 b10 : Nat)
def spA (z : SpZ) : List Ent := [⟨be, Row 22 [s.v], false⟩, ⟨b10, Row 3 [N (z.st.getD 0)], true⟩, ⟨b9, Row 4 [.bool z.st.isSome], true⟩]
def spB : List Ent := [⟨b7, Row 9 [Z (45 :: 45 :: (bd ++ [45, 45]))], true⟩, ⟨b6, Row 9 [Z (45 :: 45 :: bd)], true⟩, ⟨b5, Row 30 [.int .i64 0], true⟩, ⟨b4, Row 93 [.slice none 0 0], true⟩, ⟨b2, Row 22 [s.v], true⟩]
def spM (z : SpZ) : List Ent := spA s be b9 b10 z ++ ⟨b8, Row 93 [accV z.q (z.rs.map Sl8.v).length], true⟩ :: (spB s bd b2 b4 b5 b6 b7 ++ (accE 22 z.q (z.rs.map Sl8.v) ++ flatE z.rs))
def spX (z : SpZ) : List Ent := ⟨b5, Row 30 [.int .i64 0], true⟩ :: ⟨b4, Row 93 [accV z.q (z.rs.map Sl8.v).length], true⟩ :: (accE 22 z.q (z.rs.map Sl8.v) ++ flatE z.rs)
end
def spI (s : Sl8) (bd : List Bt) (k : Nat) (z : SpZ) : Prop := ScanB bd s.l (atN s.l k) z.st (z.rs.map Sl8.l) ∧ (z.q = none → z.rs = []) ∧ (∀ x ∈ z.rs, x.ad = none → x.l = []) ∧ z.rs.length ≤ k
def spF (s : Sl8) (bd : List Bt) (z : SpZ) : Prop := goalB bd s.l = some (z.rs.map Sl8.l) ∧ (z.q = none → z.rs = []) ∧ (∀ x ∈ z.rs, x.ad = none → x.l = [])
theorem cells_row {e : TypeId} {l : List Value} : ∀ o, Row e l o → o.isCells = true := by rintro o rfl; rfl
theorem cells_own {e : TypeId} {k sz cap : Nat} {l : List Value} : ∀ o, Sl.Own e sz k cap l o → o.isCells = true := by rintro o ⟨_, rfl, _⟩; rfl
theorem cells_accE {e : TypeId} {q : Acc} {l : List Value} : ∀ x ∈ accE e q l, ∀ o, x.A o → o.isCells = true := by
  intro x hx o hA
  cases q with
  | none => cases hx
  | some p =>
    rw [List.mem_singleton.1 hx] at hA
    exact cells_own o hA
theorem cells_ents {x : Sl8} : ∀ e ∈ x.ents, ∀ o, e.A o → o.isCells = true := by
  intro e he o hA
  obtain ⟨ad, cap, l⟩ := x
  cases ad with
  | none => cases he
  | some a =>
    unfold Sl8.ents at he
    rw [List.mem_singleton.1 he] at hA
    obtain ⟨⟨c, e, fr, rfl, _⟩, _⟩ := hA
    rfl
theorem cells_flat {rs : List Sl8} : ∀ e ∈ flatE rs, ∀ o, e.A o → o.isCells = true := by
  intro e he o hA
  obtain ⟨x, _, hx⟩ := List.mem_flatMap.1 he
  exact cells_ents e hx o hA
theorem has_left {M N : List Ent} {b : Nat} {A : Obj → Prop} {wr : Bool} (h : Has M b A wr) : Has (M ++ N) b A wr := by
  induction h with
  | here => exact .here
  | there _ ih => exact .there ih
theorem has_right (N : List Ent) {M : List Ent} {b : Nat} {A : Obj → Prop} {wr : Bool} (h : Has M b A wr) : Has (N ++ M) b A wr := by
  induction N with
  | nil => exact h
  | cons e N ih => exact .there ih
theorem less_eq {M M' : List Ent} (h : M' = M) : Less M' M := h ▸ Less.refl _
theorem less_nilR (M : List Ent) : Less (M ++ []) M := by
  rw [List.append_nil]
  exact Less.refl _
theorem less_nilL (M : List Ent) : Less M (M ++ []) := by
  rw [List.append_nil]
  exact Less.refl _
theorem mark_1 {bd x : List Fld.By} : markB bd x = 1 ↔ cutR x = 45 :: 45 :: bd := by
  unfold markB
  by_cases h1 : cutR x = 45 :: 45 :: bd
  · rw [if_pos h1]; exact ⟨fun _ => h1, fun _ => rfl⟩
  · rw [if_neg h1]
    refine ⟨fun h => ?_, fun h => absurd h h1⟩
    split at h <;> cases h
theorem mark_2 {bd x : List Fld.By} : markB bd x = 2 ↔ cutR x = 45 :: 45 :: (bd ++ [45, 45]) := by
  unfold markB
  by_cases h1 : cutR x = 45 :: 45 :: bd
  · rw [if_pos h1, h1]
    refine ⟨fun h => absurd h (by decide), fun h => ?_⟩
    have := congrArg List.length h
    simp at this
  · rw [if_neg h1]
    by_cases h2 : cutR x = 45 :: 45 :: (bd ++ [45, 45])
    · rw [if_pos h2]; exact ⟨fun _ => h2, fun _ => rfl⟩
    · rw [if_neg h2]; exact ⟨fun h => absurd h (by decide), fun h => absurd h h2⟩
theorem scan_le {bd b : List Fld.By} {k bg : Nat} {out : List (List Fld.By)} (h : ScanB bd b k (some bg) out) : bg ≤ k := h.1
theorem mid_len (s : Sl8) (lo hi : Nat) : (s.mid lo hi).l.length ≤ s.l.length := by
  show ((s.l.take hi).drop lo).length ≤ _
  rw [List.length_drop, List.length_take]
  omega
set_option maxHeartbeats 64000000 in
theorem msplit_any (s : Sl8) (bd : List Bt) (w : World) (hs : s.ok w) (hl : s.l.length ≤ 1073741824) (hb : bd.length ≤ 1000) : Calls Tryz.prog 137 [s.v, Z bd].toArray w fun e w' => ∃ z : SpA (spltB s.l bd).1, e = .returned (.tuple #[z.v, N (spltB s.l bd).2]) ∧ Holds w [] z.ents w' := by
  have hN : (linB s.l).length ≤ s.l.length + 1 := (linR_sum s.l []).2
  refine enterM (n := 64) Tryz.func137 rfl rfl rfl (Holds.start w []) ?_
  refine JC.seq (JC.region (JL.box (r := [s.v]) rfl rfl rfl fun b2 _ => ?_))
  refine JL.alloc lsZ rfl fun b4 _ => ?_
  refine JL.alloc erZ rfl fun b5 _ => ?_
  have cb := fun w' => mbnd_any bd w' (by omega)
  cases hB : boundB bd
  · rw [hB] at cb
    have e1 : spltB s.l bd = ([], 1) := by
      unfold spltB
      rw [if_pos hB]
    rw [e1]
    repeat (first | refine JL.q (by first | (apply OQ.callx (vs := [Z bd]); exact goes_mbnd; exact rfl; exact (fun w' _ => cb w')) | (apply OQ.not; exact rfl) | (apply OQ.move; exact rfl)) rfl ?_ | refine JC.seq ?_ | refine JC.region ?_ | refine JL.nil ?_ | refine JE.next ?_)
    refine JC.cond rfl (fun _ => ?_) (fun h => by cases h)
    refine JC.seq (JC.region ?_)
    refine JL.store_eq (v := .slice none 0 0) (r' := [.slice none 0 0]) lsS rfl rfl rfl rfl (.there .here) (by decide) rfl ?_
    refine JL.store_eq (v := .int .i64 1) (r' := [.int .i64 1]) erS rfl rfl rfl rfl .here (by decide) rfl ?_
    refine JL.nil (JE.next ?_)
    refine JC.ret ?_
    refine JE.then_ret ?_
    refine JE.ret2M rfl (RV.cell rfl lsC (.there .here) (Row.cell (v := .slice none 0 0) rfl)) (RV.cell rfl erC .here (Row.cell (v := .int .i64 1) rfl)) fun w' hw => ?_
    exact ⟨⟨none, [], rfl, fun _ => rfl, by simp⟩, rfl, hw.weak (.nil _)⟩
  rw [hB] at cb
  have hsp := splt_goal (b := s.l) hB
  rw [hsp]
  clear hsp
  have e2 := fun w' => mbetw_any bd w' (by omega)
  have e3 := fun w' => mlastl_any bd w' (by omega)
  repeat (first | refine JL.q (by first | (apply OQ.callx (vs := [Z bd]); exact goes_mbnd; exact rfl; exact (fun w' _ => cb w')) | (apply OQ.not; exact rfl) | (apply OQ.move; exact rfl)) rfl ?_ | refine JC.seq ?_ | refine JC.region ?_ | refine JL.nil ?_ | refine JE.next ?_)
  refine JC.cond rfl (fun h => by cases h) (fun _ => ?_)
  repeat (first | refine JL.q (by first | (apply OQ.callx (vs := [Z bd]); exact goes_mbetw; exact rfl; exact (fun w' _ => e2 w')) | (apply OQ.callx (vs := [Z bd]); exact goes_mlastl; exact rfl; exact (fun w' _ => e3 w')) | (apply OQ.move; exact rfl)) rfl ?_ | refine JC.seq ?_ | refine JC.region ?_ | refine JC.skip ?_ | refine JE.next ?_)
  refine JL.alloc stZ rfl fun b6 _ => ?_
  refine JL.alloc stZ rfl fun b7 _ => ?_
  refine JL.store_eq (v := Z (45 :: 45 :: bd)) (r' := [Z (45 :: 45 :: bd)]) stS12 rfl rfl rfl rfl (.there .here) (by decide) rfl ?_
  refine JL.store_eq (v := Z (45 :: 45 :: (bd ++ [45, 45]))) (r' := [Z (45 :: 45 :: (bd ++ [45, 45]))]) stS12 rfl rfl rfl rfl .here (by decide) rfl ?_
  repeat (first | refine JC.seq ?_ | refine JC.region ?_ | refine JL.nil ?_ | refine JE.next ?_)
  refine JL.alloc lsZ rfl fun b8 _ => ?_
  repeat (first | refine JC.seq ?_ | refine JC.region ?_ | refine JL.nil ?_ | refine JE.next ?_)
  refine JL.alloc boZ rfl fun b9 _ => ?_
  refine JL.alloc inZ rfl fun b10 _ => ?_
  refine JL.store_eq (v := .bool false) (r' := [.bool false]) boS rfl rfl rfl rfl (.there .here) (by decide) rfl ?_
  refine JL.store_eq (v := .int .i64 0) (r' := [.int .i64 0]) inS12 rfl rfl rfl rfl .here (by decide) rfl ?_
  repeat (first | refine JL.q (by (apply OQ.load; exact bsC8; exact rfl; exact (by repeat (first | exact Has.here | apply Has.there)); exact (Row.cell (v := s.v) rfl))) rfl ?_ | refine JC.seq ?_ | refine JC.region ?_ | refine JL.nil ?_ | refine JE.next ?_)
  refine JL.callg (ι := Nat) (vs := [s.v]) (fun b => eachF b) (fun b => [⟨b, Row 22 [s.v], true⟩]) goes_each rfl rfl (fun b e he => by rw [List.mem_singleton.1 he]) (fun w' _ => each_any s w') fun be => ?_
  repeat (first | refine JC.block ?_ | refine JL.nil ?_ | refine JE.next ?_)
  refine JC.rangeN (ι := SpZ) (κ := SpZ) (encL s) (be :: blkS s) (linB s.l).length (spM s bd be b2 b4 b5 b6 b7 b8 b9 b10) (spI s bd) (spX b4 b5) (spF s bd) rfl (enters_of Tryz.func229 (by kernel_rfl) rfl) ?hseq ?hcell ?hcelx ?hL ⟨none, none, []⟩ ⟨scan_start bd s.l, fun _ => rfl, by simp, Nat.le_refl _⟩ ?hMz rfl rfl rfl rfl (fun _ _ => rfl) (fun _ _ => rfl) ?hbody ?hdone ?hstop
  case hseq =>
    intro W hW
    obtain ⟨o1, h1, h1'⟩ := hW.get (b := be) (A := Row 22 [s.v]) (wr := true) (by repeat (first | exact Has.here | apply Has.there))
    exact each_stops s be (by omega) W (hs.holds hW rfl) h1 (Row.cell rfl _ h1')
  case hcell =>
    intro z e he o hA
    unfold spM spA spB at he
    simp only [List.mem_cons, List.mem_append, List.not_mem_nil, or_false] at he
    rcases he with (rfl | rfl | rfl) | rfl | (rfl | rfl | rfl | rfl | rfl) | h | h
    all_goals first | exact cells_row o hA | skip
    · exact cells_accE e h o hA
    · exact cells_flat e h o hA
  case hcelx =>
    intro z e he o hA
    unfold spX at he
    simp only [List.mem_cons, List.mem_append] at he
    rcases he with rfl | rfl | h | h
    · exact cells_row o hA
    · exact cells_row o hA
    · exact cells_accE e h o hA
    · exact cells_flat e h o hA
  case hL =>
    intro z k hk
    rcases List.mem_cons.1 hk with rfl | hk
    · exact .inr ⟨_, by unfold spM spA spB; exact (by repeat (first | exact Has.here | apply Has.there))⟩
    · exact .inl (blkS_lt hs k hk)
  case hMz =>
    intro w' hw'
    exact hw'.weak2 (.keep _ _ _ _ _ _ _ (fun _ h => h) (by simp) (.keep _ _ _ _ _ _ _ (fun _ h => h) (by simp) (.keep _ _ _ _ _ _ _ (fun _ h => h) (by simp) (.keep _ _ _ _ _ _ _ (fun _ h => h) (by simp) (.keep _ _ _ _ _ _ _ (fun _ h => h) (by simp) (.keep _ _ _ _ _ _ _ (fun _ h => h) (by simp) (.keep _ _ _ _ _ _ _ (fun _ h => h) (by simp) (.keep _ _ _ _ _ _ _ (fun _ h => h) (by simp) (.keep _ _ _ _ _ _ _ (fun _ h => h) (by simp) (.nil _))))))))))
  case hbody =>
    rintro l k ⟨st, q, rs⟩ w1 ⟨hsc, hq, h0, hrl⟩ hk hx hge
    dsimp only at hsc hq h0 hrl
    have hat : atN s.l k < s.l.length := (atN_lt s.l k).1 hk
    have hle2 := atN_le s.l (k + 1)
    have hge2 : atN s.l k ≤ atN s.l (k + 1) := Nat.le_add_right _ _
    have hcap := hs.len
    have oks : ∀ {M'} w', Holds w1 (wrs (spM s bd be b2 b4 b5 b6 b7 b8 b9 b10 ⟨st, q, rs⟩)) M' w' → s.ok w' := fun w' hw' => hs.ext (hw'.rebound hx hge)
    generalize wrs (spM s bd be b2 b4 b5 b6 b7 b8 b9 b10 ⟨st, q, rs⟩) = S1 at oks ⊢
    have hyl : (s.mid (atN s.l k) (atN s.l (k + 1))).l = lineB s.l (atN s.l k) := line_raw s k
    have hyn := mid_len s (atN s.l k) (atN s.l (k + 1))
    have hyN : (s.mid (atN s.l k) (atN s.l (k + 1))).l.length = atN s.l (k + 1) - atN s.l k := by
      show ((s.l.take (atN s.l (k + 1))).drop (atN s.l k)).length = _
      rw [List.length_drop, List.length_take]
      omega
    have oky : ∀ {M'} w', Holds w1 S1 M' w' → (s.mid (atN s.l k) (atN s.l (k + 1))).ok w' := fun w' hw' => (oks w' hw').mid hge2 hle2
    show JR _ _ _ _ _ _ _ _ ((12, (s.mid (atN s.l k) (atN s.l (k + 1))).v) :: (11, N (atN s.l k)) :: _) _
    generalize (s.mid (atN s.l k) (atN s.l (k + 1))) = y at hyl hyn hyN oky ⊢
    have n1 : (wendB y.l).length ≤ y.l.length := by
      obtain ⟨m, _, e⟩ := wend_take y.l
      rw [e, List.length_take]
      omega
    have ok1 : ∀ {M'} w', Holds w1 S1 M' w' → (y.hd (wendB y.l)).ok w' := fun w' hw' => wend_ok (oky w' hw')
    have ok2 : ∀ {M'} w', Holds w1 S1 M' w' → ((y.hd (wendB y.l)).hd (cutR (wendB y.l))).ok w' := fun w' hw' => by
      obtain ⟨m, _, e⟩ := cutR_take (wendB y.l)
      rw [e]
      exact Sl8.hd_ok (ok1 w' hw') m
    have c28 : ∀ {M'} w', Holds w1 S1 M' w' → Calls Tryz.prog 192 [y.v].toArray w' fun e w2 => e = .returned (y.hd (wendB y.l)).v ∧ Ext w' w2 := fun w' hw' => mwend_any y w' (oky w' hw') (by omega)
    have c29 : ∀ {M'} w', Holds w1 S1 M' w' → Calls Tryz.prog 191 [(y.hd (wendB y.l)).v, Z [32, 9]].toArray w' fun e w2 => e = .returned ((y.hd (wendB y.l)).hd (cutR (wendB y.l))).v ∧ Ext w' w2 := fun w' hw' => btr_any (y.hd (wendB y.l)) w' (ok1 w' hw') (by show (wendB y.l).length < _; omega)
    refine JR.perm (M' := ⟨b8, Row 93 [accV q (rs.map Sl8.v).length], true⟩ :: ([⟨be, Row 22 [s.v], false⟩, ⟨b10, Row 3 [N (st.getD 0)], true⟩, ⟨b9, Row 4 [.bool st.isSome], true⟩, ⟨b7, Row 9 [Z (45 :: 45 :: (bd ++ [45, 45]))], true⟩, ⟨b6, Row 9 [Z (45 :: 45 :: bd)], true⟩, ⟨b5, Row 30 [.int .i64 0], true⟩, ⟨b4, Row 93 [.slice none 0 0], true⟩, ⟨b2, Row 22 [s.v], true⟩] ++ (accE 22 q (rs.map Sl8.v) ++ flatE rs))) List.perm_middle ?_
    repeat (first | refine JL.q (by first | (apply OQ.callx (vs := [y.v]); exact goes_mwend; exact rfl; exact c28) | (apply OQ.callx (vs := [(y.hd (wendB y.l)).v, Z [32, 9]]); exact goes_btr; exact rfl; exact c29) | (apply OQ.move; exact rfl) | (apply OQ.assign; exact rfl)) rfl ?_ | refine JR.seq ?_ | refine JR.block ?_ | refine JL.nil ?_ | with_reducible refine JE.nextR ?_ | refine JR.region rfl (by first | with_reducible exact lo_roundQ | with_reducible exact lo_then lo_roundQ | with_reducible exact lo_blk lo_roundQ | with_reducible exact lo_then (lo_blk lo_roundQ) | with_reducible exact lo_roundX | with_reducible exact lo_then lo_roundX | with_reducible exact lo_blk lo_roundX | with_reducible exact lo_then (lo_blk lo_roundX) | with_reducible exact lo_then (lo_then (lo_blk lo_roundX))) ?_)
    have hcut : ((y.hd (wendB y.l)).hd (cutR (wendB y.l))).l = cutR (wendB y.l) := rfl
    obtain ⟨p, hp⟩ : ∃ p, decide (cutR (wendB y.l) = 45 :: 45 :: bd) = p := ⟨_, rfl⟩
    obtain ⟨e, he⟩ : ∃ e, decide (cutR (wendB y.l) = 45 :: 45 :: (bd ++ [45, 45])) = e := ⟨_, rfl⟩
    have m1 := mark_1 (bd := bd) (x := wendB y.l)
    have m2 := mark_2 (bd := bd) (x := wendB y.l)
    have m0 := mark_le bd (wendB y.l)
    generalize (y.hd (wendB y.l)).hd (cutR (wendB y.l)) = y2 at hcut ok2 ⊢
    generalize cutR (wendB y.l) = cw at hcut hp he m1 m2
    obtain ⟨MM, hMM⟩ : ∃ MM, MM = ⟨b8, Row 93 [accV q (rs.map Sl8.v).length], true⟩ :: ([⟨be, Row 22 [s.v], false⟩, ⟨b10, Row 3 [N (st.getD 0)], true⟩, ⟨b9, Row 4 [.bool st.isSome], true⟩, ⟨b7, Row 9 [Z (45 :: 45 :: (bd ++ [45, 45]))], true⟩, ⟨b6, Row 9 [Z (45 :: 45 :: bd)], true⟩, ⟨b5, Row 30 [.int .i64 0], true⟩, ⟨b4, Row 93 [.slice none 0 0], true⟩, ⟨b2, Row 22 [s.v], true⟩] ++ (accE 22 q (rs.map Sl8.v) ++ flatE rs)) := ⟨_, rfl⟩
    have h6 : Has MM b6 (Row 9 [Z (45 :: 45 :: bd)]) true := hMM ▸ (by repeat (first | exact Has.here | apply Has.there))
    have h7 : Has MM b7 (Row 9 [Z (45 :: 45 :: (bd ++ [45, 45]))]) true := hMM ▸ (by repeat (first | exact Has.here | apply Has.there))
    have h9 : Has MM b9 (Row 4 [.bool st.isSome]) true := hMM ▸ (by repeat (first | exact Has.here | apply Has.there))
    rw [← hMM]
    let vs : Nat → Nat → Value := fun j _ => match j with
      | 0 => y2.v
      | 1 => Z cw
      | 2 => Z (45 :: 45 :: bd)
      | 3 => .bool p
      | 4 => y2.v
      | 5 => Z cw
      | 6 => Z (45 :: 45 :: (bd ++ [45, 45]))
      | 7 => .bool e
      | 8 => .bool p
      | _ => .bool e
    let Ms : Nat → Nat → List Ent := fun j _ => match j with
      | 10 => MM
      | _ => []
    have cv : ∀ {E : Env} {M' : List Ent} {x : Operand} {dst : Option Tmp} {ty : TypeId} {pos : String} {aft : Array Edge} {g : Option (Nat × Bool)}, ev E x = some y2.v → OQ Tryz.prog 64 E (Holds w1 S1 M') ⟨dst, .convert 22 9 x, ty, pos, aft, g⟩ (Z cw) := fun h => OQ.to (OQ.b2s Tryz.underlying22 Tryz.underlying5 Tryz.underlying9 h ok2) (congrArg Z hcut)
    refine JR.growR (g := ⟨[(13, y2.v), (11, N (atN s.l k)), (12, y.v), (2, Pt b2 0), (4, Pt b4 0), (5, Pt b5 0), (6, Pt b6 0), (7, Pt b7 0), (8, Pt b8 0), (9, Pt b9 0), (10, Pt b10 0)], 11, vs, Ms, (fun j => match j with | 1 => [(0, 30)] | 3 => [(1, 31), (2, 32)] | 5 => [(4, 34)] | 7 => [(5, 35), (6, 36)] | 8 => [(3, 33)] | 9 => [(7, 37)] | _ => []), (fun j => match j with | 2 => [10] | 6 => [10] | _ => []), (fun _ => []), (fun _ => none), fun _ => [], fun _ _ _ => True⟩) [(8, 14), (9, 15)] [10] rfl (by repeat (first | with_reducible exact lo_roundX | with_reducible apply lo_then | with_reducible apply lo_blk)) mixMi (by repeat (first | exact SubE.nil | refine SubE.cons _ _ _ rfl ?_)) (fun _ _ => .nil) (less_nilR _) (by kernel_rfl) (by kernel_rfl) (by kernel_rfl) ?_ ?_
    · refine ⟨?_, ?_, ?_, ?_, ?_, ?_, ?_, ?_, ?_, ?_, trivial⟩
      · (intro x EF MF Q kk; exact JL.q (OQ.move rfl) rfl (JL.nil (kk default nofun)))
      · (intro x EF MF Q kk; exact JL.q (cv rfl) rfl (JL.nil (kk default nofun)))
      · (intro x EF MF Q kk; exact JL.q (OQ.load stC12 rfl (has_left (has_left h6)) (Row.cell (v := Z (45 :: 45 :: bd)) rfl)) rfl (JL.nil (kk default nofun)))
      · (intro x EF MF Q kk; exact JL.q (OQ.eqSB (l := cw) (r := 45 :: 45 :: bd) rfl rfl hp) rfl (JL.nil (kk default nofun)))
      · (intro x EF MF Q kk; exact JL.q (OQ.move rfl) rfl (JL.nil (kk default nofun)))
      · (intro x EF MF Q kk; exact JL.q (cv rfl) rfl (JL.nil (kk default nofun)))
      · (intro x EF MF Q kk; exact JL.q (OQ.load stC12 rfl (has_left (has_left h7)) (Row.cell (v := Z (45 :: 45 :: (bd ++ [45, 45]))) rfl)) rfl (JL.nil (kk default nofun)))
      · (intro x EF MF Q kk; exact JL.q (OQ.eqSB (l := cw) (r := 45 :: 45 :: (bd ++ [45, 45])) rfl rfl he) rfl (JL.nil (kk default nofun)))
      · (intro x EF MF Q kk; exact JL.q (OQ.assign rfl) rfl (JL.nil (kk default nofun)))
      · (intro x EF MF Q kk; exact JL.q (OQ.assign rfl) rfl (JL.nil (kk default nofun)))
    intro x hxx
    refine JE.less (M' := MM) (less_nilL MM) ?_
    show JE _ _ _ _ _ [(14, .bool p), (15, .bool e), (13, y2.v), (11, N (atN s.l k)), (12, y.v), (2, Pt b2 0), (4, Pt b4 0), (5, Pt b5 0), (6, Pt b6 0), (7, Pt b7 0), (8, Pt b8 0), (9, Pt b9 0), (10, Pt b10 0)] MM
    clear hxx x vs Ms cv ok2 hcut c28 c29 ok1
    have hmk : (markB bd (wendB y.l) = 0 ∧ p = false ∧ e = false) ∨ (markB bd (wendB y.l) = 1 ∧ p = true ∧ e = false) ∨ (markB bd (wendB y.l) = 2 ∧ p = false ∧ e = true) := by
      rcases m0 with h | h | h
      · refine .inl ⟨h, hp ▸ decide_eq_false fun k => ?_, he ▸ decide_eq_false fun k => ?_⟩
        · rw [m1.2 k] at h; cases h
        · rw [m2.2 k] at h; cases h
      · refine .inr (.inl ⟨h, hp ▸ decide_eq_true (m1.1 h), he ▸ decide_eq_false fun k => ?_⟩)
        rw [m2.2 k] at h; cases h
      · refine .inr (.inr ⟨h, hp ▸ decide_eq_false fun k => ?_, he ▸ decide_eq_true (m2.1 h)⟩)
        rw [m1.2 k] at h; cases h
    rw [hyl] at hmk
    clear m1 m2 m0 hp he
    have hnext : atN s.l (k + 1) = atN s.l k + rawN (s.l.drop (atN s.l k)) := rfl
    have hsum : atN s.l k + y.l.length = atN s.l (k + 1) := by omega
    refine JE.nextR (JR.seq (JR.seq (JR.region rfl (by repeat (first | with_reducible exact lo_roundX | with_reducible apply lo_then | with_reducible apply lo_blk)) ?_)))
    cases st with
    | none =>
      obtain rfl : rs = [] := by simpa using hsc.1
      have hsc : ScanB bd s.l (atN s.l k) none [] := hsc
      rcases hmk with ⟨hm, rfl, rfl⟩ | ⟨hm, rfl, rfl⟩ | ⟨hm, rfl, rfl⟩
      · repeat (first | refine JL.q (by first | (apply OQ.load; exact boC; exact rfl; exact h9; exact (Row.cell (v := .bool false) rfl)) | (apply OQ.pick_f; exact rfl; exact rfl) | (apply OQ.move; exact rfl)) rfl ?_ | refine JL.nil ?_ | with_reducible refine JE.nextR ?_ | refine JL.gskip rfl rfl rfl rfl ?_ | refine JL.gskipU rfl rfl rfl rfl ?_)
        refine JR.cond rfl (fun h => by cases h) (fun _ => ?_)
        repeat (first | refine JL.q (by first | (apply OQ.load; exact boC; exact rfl; exact h9; exact (Row.cell (v := .bool false) rfl)) | (apply OQ.pick_f; exact rfl; exact rfl) | (apply OQ.move; exact rfl)) rfl ?_ | refine JR.seq ?_ | refine JL.nil ?_ | with_reducible refine JE.nextR ?_ | refine JR.skip ?_ | refine JL.gskip rfl rfl rfl rfl ?_ | refine JR.region rfl (by first | with_reducible exact lo_roundQ | with_reducible exact lo_then lo_roundQ | with_reducible exact lo_blk lo_roundQ | with_reducible exact lo_then (lo_blk lo_roundQ) | with_reducible exact lo_roundX | with_reducible exact lo_then lo_roundX | with_reducible exact lo_blk lo_roundX | with_reducible exact lo_then (lo_blk lo_roundX) | with_reducible exact lo_then (lo_then (lo_blk lo_roundX))) ?_)
        refine JR.cond rfl (fun h => by cases h) (fun _ => ?_)
        repeat (first | refine JL.q (by (apply OQ.move; exact rfl)) rfl ?_ | refine JR.seq ?_ | refine JL.nil ?_ | with_reducible refine JE.nextR ?_ | refine JR.skip ?_ | refine JR.region rfl (by first | with_reducible exact lo_roundQ | with_reducible exact lo_then lo_roundQ | with_reducible exact lo_blk lo_roundQ | with_reducible exact lo_then (lo_blk lo_roundQ) | with_reducible exact lo_roundX | with_reducible exact lo_then lo_roundX | with_reducible exact lo_blk lo_roundX | with_reducible exact lo_then (lo_blk lo_roundX) | with_reducible exact lo_then (lo_then (lo_blk lo_roundX))) ?_)
        refine JR.cond rfl (fun h => by cases h) (fun _ => ?_)
        repeat (first | with_reducible refine JE.blk_normal ?_ | refine JR.skip ?_)
        subst hMM
        refine JE.perm (M' := spM s bd be b2 b4 b5 b6 b7 b8 b9 b10 ⟨none, q, []⟩) (List.perm_middle (l₁ := spA s be b9 b10 ⟨none, q, []⟩)).symm ?_
        exact JE.roundN ⟨none, q, []⟩ ⟨scan_skip hat hsc (by rw [hm]; decide), fun _ => rfl, by simp, Nat.zero_le _⟩ (Less.refl _)
      · repeat (first | refine JL.q (by first | (apply OQ.load; exact boC; exact rfl; exact h9; exact (Row.cell (v := .bool false) rfl)) | (apply OQ.pick_f; exact rfl; exact rfl) | (apply OQ.move; exact rfl)) rfl ?_ | refine JL.nil ?_ | with_reducible refine JE.nextR ?_ | refine JL.gskip rfl rfl rfl rfl ?_ | refine JL.gskipU rfl rfl rfl rfl ?_)
        refine JR.cond rfl (fun h => by cases h) (fun _ => ?_)
        repeat (first | refine JL.q (by first | (apply OQ.load; exact boC; exact rfl; exact h9; exact (Row.cell (v := .bool false) rfl)) | (apply OQ.pick_f; exact rfl; exact rfl) | (apply OQ.move; exact rfl)) rfl ?_ | refine JR.seq ?_ | refine JL.nil ?_ | with_reducible refine JE.nextR ?_ | refine JR.skip ?_ | refine JL.gskip rfl rfl rfl rfl ?_ | refine JR.region rfl (by first | with_reducible exact lo_roundQ | with_reducible exact lo_then lo_roundQ | with_reducible exact lo_blk lo_roundQ | with_reducible exact lo_then (lo_blk lo_roundQ) | with_reducible exact lo_roundX | with_reducible exact lo_then lo_roundX | with_reducible exact lo_blk lo_roundX | with_reducible exact lo_then (lo_blk lo_roundX) | with_reducible exact lo_then (lo_then (lo_blk lo_roundX))) ?_)
        refine JR.cond rfl (fun h => by cases h) (fun _ => ?_)
        repeat (first | refine JL.q (by (apply OQ.move; exact rfl)) rfl ?_ | refine JR.seq ?_ | refine JL.nil ?_ | with_reducible refine JE.nextR ?_ | refine JR.skip ?_ | refine JR.region rfl (by first | with_reducible exact lo_roundQ | with_reducible exact lo_then lo_roundQ | with_reducible exact lo_blk lo_roundQ | with_reducible exact lo_then (lo_blk lo_roundQ) | with_reducible exact lo_roundX | with_reducible exact lo_then lo_roundX | with_reducible exact lo_blk lo_roundX | with_reducible exact lo_then (lo_blk lo_roundX) | with_reducible exact lo_then (lo_then (lo_blk lo_roundX))) ?_)
        refine JR.cond rfl (fun _ => ?_) (fun h => by cases h)
        repeat (first | refine JL.q (by first | (apply OQ.to; exact (OQ.addN (a := atN s.l k) (b := y.l.length) rfl rfl (by omega)); exact (congrArg N hsum)) | (apply OQ.move; exact rfl) | (apply OQ.len; exact rfl; exact rfl)) rfl ?_ | refine JR.region rfl (by first | with_reducible exact lo_roundQ | with_reducible exact lo_then lo_roundQ | with_reducible exact lo_blk lo_roundQ | with_reducible exact lo_then (lo_blk lo_roundQ) | with_reducible exact lo_roundX | with_reducible exact lo_then lo_roundX | with_reducible exact lo_blk lo_roundX | with_reducible exact lo_then (lo_blk lo_roundX) | with_reducible exact lo_then (lo_then (lo_blk lo_roundX))) ?_)
        subst hMM
        refine JL.store_eq (v := .bool true) (r' := [.bool true]) boS rfl rfl rfl rfl (by repeat (first | exact Upd.here | apply Upd.there)) (by decide) rfl ?_
        refine JL.store_eq (v := N (atN s.l (k + 1))) (r' := [N (atN s.l (k + 1))]) inS12 rfl rfl rfl rfl (by repeat (first | exact Upd.here | apply Upd.there)) (by simp) rfl ?_
        repeat (first | refine JL.nil ?_ | with_reducible refine JE.blk_normal ?_)
        refine JE.perm (M' := spM s bd be b2 b4 b5 b6 b7 b8 b9 b10 ⟨some (atN s.l (k + 1)), q, []⟩) (List.perm_middle (l₁ := spA s be b9 b10 ⟨some (atN s.l (k + 1)), q, []⟩)).symm ?_
        exact JE.roundN ⟨some (atN s.l (k + 1)), q, []⟩ ⟨scan_met hat hsc hm, fun _ => rfl, by simp, Nat.zero_le _⟩ (Less.refl _)
      · repeat (first | refine JL.q (by first | (apply OQ.load; exact boC; exact rfl; exact h9; exact (Row.cell (v := .bool false) rfl)) | (apply OQ.pick_f; exact rfl; exact rfl) | (apply OQ.move; exact rfl)) rfl ?_ | refine JL.nil ?_ | with_reducible refine JE.nextR ?_ | refine JL.gskip rfl rfl rfl rfl ?_ | refine JL.gskipU rfl rfl rfl rfl ?_)
        refine JR.cond rfl (fun h => by cases h) (fun _ => ?_)
        repeat (first | refine JL.q (by first | (apply OQ.load; exact boC; exact rfl; exact h9; exact (Row.cell (v := .bool false) rfl)) | (apply OQ.pick_f; exact rfl; exact rfl) | (apply OQ.move; exact rfl)) rfl ?_ | refine JR.seq ?_ | refine JL.nil ?_ | with_reducible refine JE.nextR ?_ | refine JR.skip ?_ | refine JL.gskip rfl rfl rfl rfl ?_ | refine JR.region rfl (by first | with_reducible exact lo_roundQ | with_reducible exact lo_then lo_roundQ | with_reducible exact lo_blk lo_roundQ | with_reducible exact lo_then (lo_blk lo_roundQ) | with_reducible exact lo_roundX | with_reducible exact lo_then lo_roundX | with_reducible exact lo_blk lo_roundX | with_reducible exact lo_then (lo_blk lo_roundX) | with_reducible exact lo_then (lo_then (lo_blk lo_roundX))) ?_)
        refine JR.cond rfl (fun h => by cases h) (fun _ => ?_)
        repeat (first | refine JL.q (by (apply OQ.move; exact rfl)) rfl ?_ | refine JR.seq ?_ | refine JL.nil ?_ | with_reducible refine JE.nextR ?_ | refine JR.skip ?_ | refine JR.region rfl (by first | with_reducible exact lo_roundQ | with_reducible exact lo_then lo_roundQ | with_reducible exact lo_blk lo_roundQ | with_reducible exact lo_then (lo_blk lo_roundQ) | with_reducible exact lo_roundX | with_reducible exact lo_then lo_roundX | with_reducible exact lo_blk lo_roundX | with_reducible exact lo_then (lo_blk lo_roundX) | with_reducible exact lo_then (lo_then (lo_blk lo_roundX))) ?_)
        refine JR.cond rfl (fun h => by cases h) (fun _ => ?_)
        repeat (first | with_reducible refine JE.blk_normal ?_ | refine JR.skip ?_)
        subst hMM
        refine JE.perm (M' := spM s bd be b2 b4 b5 b6 b7 b8 b9 b10 ⟨none, q, []⟩) (List.perm_middle (l₁ := spA s be b9 b10 ⟨none, q, []⟩)).symm ?_
        exact JE.roundN ⟨none, q, []⟩ ⟨scan_skip hat hsc (by rw [hm]; decide), fun _ => rfl, by simp, Nat.zero_le _⟩ (Less.refl _)
    | some bg =>
      have hble : bg ≤ atN s.l k := scan_le hsc
      by_cases hm0 : markB bd (wendB (lineB s.l (atN s.l k))) = 0
      · obtain ⟨hm, rfl, rfl⟩ : markB bd (wendB (lineB s.l (atN s.l k))) = 0 ∧ p = false ∧ e = false := by
          rcases hmk with h | h | h
          · exact h
          · rw [h.1] at hm0; cases hm0
          · rw [h.1] at hm0; cases hm0
        repeat (first | refine JL.q (by first | (apply OQ.load; exact boC; exact rfl; exact h9; exact (Row.cell (v := .bool true) rfl)) | (apply OQ.pick_t; exact rfl; exact rfl) | (apply OQ.pick_f; exact rfl; exact rfl) | (apply OQ.move; exact rfl)) rfl ?_ | refine JL.nil ?_ | with_reducible refine JE.nextR ?_ | refine JL.gon rfl rfl ?_)
        refine JR.cond rfl (fun h => by cases h) (fun _ => ?_)
        repeat (first | refine JL.q (by first | (apply OQ.load; exact boC; exact rfl; exact h9; exact (Row.cell (v := .bool true) rfl)) | (apply OQ.pick_t; exact rfl; exact rfl) | (apply OQ.move; exact rfl)) rfl ?_ | refine JR.seq ?_ | refine JL.nil ?_ | with_reducible refine JE.nextR ?_ | refine JR.skip ?_ | refine JL.gon rfl rfl ?_ | refine JR.region rfl (by first | with_reducible exact lo_roundQ | with_reducible exact lo_then lo_roundQ | with_reducible exact lo_blk lo_roundQ | with_reducible exact lo_then (lo_blk lo_roundQ) | with_reducible exact lo_roundX | with_reducible exact lo_then lo_roundX | with_reducible exact lo_blk lo_roundX | with_reducible exact lo_then (lo_blk lo_roundX) | with_reducible exact lo_then (lo_then (lo_blk lo_roundX))) ?_)
        refine JR.cond rfl (fun h => by cases h) (fun _ => ?_)
        repeat (first | refine JL.q (by (apply OQ.move; exact rfl)) rfl ?_ | refine JR.seq ?_ | refine JL.nil ?_ | with_reducible refine JE.nextR ?_ | refine JR.skip ?_ | refine JR.region rfl (by first | with_reducible exact lo_roundQ | with_reducible exact lo_then lo_roundQ | with_reducible exact lo_blk lo_roundQ | with_reducible exact lo_then (lo_blk lo_roundQ) | with_reducible exact lo_roundX | with_reducible exact lo_then lo_roundX | with_reducible exact lo_blk lo_roundX | with_reducible exact lo_then (lo_blk lo_roundX) | with_reducible exact lo_then (lo_then (lo_blk lo_roundX))) ?_)
        refine JR.cond rfl (fun h => by cases h) (fun _ => ?_)
        repeat (first | with_reducible refine JE.blk_normal ?_ | refine JR.skip ?_)
        subst hMM
        refine JE.perm (M' := spM s bd be b2 b4 b5 b6 b7 b8 b9 b10 ⟨some bg, q, rs⟩) (List.perm_middle (l₁ := spA s be b9 b10 ⟨some bg, q, rs⟩)).symm ?_
        exact JE.roundN ⟨some bg, q, rs⟩ ⟨scan_more hat hsc hm, hq, h0, by show rs.length ≤ k + 1; omega⟩ (Less.refl _)
      · have hmk : (markB bd (wendB (lineB s.l (atN s.l k))) = 1 ∧ p = true ∧ e = false) ∨ (markB bd (wendB (lineB s.l (atN s.l k))) = 2 ∧ p = false ∧ e = true) := by
          rcases hmk with h | h | h
          · exact absurd h.1 hm0
          · exact .inl h
          · exact .inr h
        -- what stands between
        have okx : ∀ {M'} w', Holds w1 S1 M' w' → (s.mid bg (atN s.l k)).ok w' := fun w' hw' => (oks w' hw').mid hble (by omega)
        have hxl : (s.mid bg (atN s.l k)).l = (s.l.take (atN s.l k)).drop bg := rfl
        have hxn := mid_len s bg (atN s.l k)
        have hmid : ∀ {E : Env} {M' : List Ent} {x y z : Operand} {dst : Option Tmp} {ty : TypeId} {pos : String} {aft : Array Edge} {g : Option (Nat × Bool)}, ev E x = some s.v → ev E y = some (N bg) → ev E z = some (N (atN s.l k)) → OQ Tryz.prog 64 E (Holds w1 S1 M') ⟨dst, .slice 22 x (some y) (some z) none, ty, pos, aft, g⟩ (s.mid bg (atN s.l k)).v := fun h1 h2 h3 => OQ.mid8 (s := s) (lo := bg) (hi := atN s.l k) Tryz.underlying22 u8s h1 h2 h3 hble (by omega) hcap
        generalize s.mid bg (atN s.l k) = x at okx hxl hxn hmid
        have hun : (wendB x.l).length ≤ x.l.length := by
          obtain ⟨m, _, e⟩ := wend_take x.l
          rw [e, List.length_take]
          omega
        have oku : ∀ {M'} w', Holds w1 S1 M' w' → (x.hd (wendB x.l)).ok w' := fun w' hw' => wend_ok (okx w' hw')
        have c50 : ∀ {M'} w', Holds w1 S1 M' w' → Calls Tryz.prog 192 [x.v].toArray w' fun e w2 => e = .returned (x.hd (wendB x.l)).v ∧ Ext w' w2 := fun w' hw' => mwend_any x w' (okx w' hw') (by omega)
        have hul : (x.hd (wendB x.l)).l = wendB x.l := rfl
        generalize x.hd (wendB x.l) = u at oku c50 hul
        have hulen : u.l.length ≤ 1073741824 := by rw [hul]; omega
        have c51 : ∀ {M'} w', Holds w1 S1 M' w' → Calls Tryz.prog 72 [u.v].toArray w' fun e w2 => ∃ z : { z : Acc // z = none → u.l = [] }, e = .returned (accV z.1 u.l.length) ∧ Holds w' [] (accE 5 z.1 (u.l.map U8)) w2 := fun w' hw' => (clone_any u w' (oku w' hw') (by omega)).mono fun e w2 ⟨z, h1, h2, h3⟩ => ⟨⟨z, h2⟩, h1, h3⟩
        have hrsl : (rs.map Sl8.v).length ≤ 1073741825 := by rw [List.length_map]; omega
        have hq1 : q = none → rs.map Sl8.v = [] := fun h => by rw [hq h]; rfl
        subst hMM
        have inh : Inhabited { z : Acc // z = none → u.l = [] } := ⟨⟨some (0, 0), nofun⟩⟩
        let vs : Nat → { z : Acc // z = none → u.l = [] } × Acc × Nat → Value := fun j y => match j with
          | 0 => accV q (rs.map Sl8.v).length
          | 1 => s.v
          | 2 => N bg
          | 3 => N (atN s.l k)
          | 4 => x.v
          | 5 => u.v
          | 6 => accV y.1.1 u.l.length
          | 7 => .slice (some ⟨y.2.2, 0, none⟩) 1 1
          | _ => accV y.2.1 (rs.map Sl8.v ++ [accV y.1.1 u.l.length]).length
        let Ms : Nat → { z : Acc // z = none → u.l = [] } × Acc × Nat → List Ent := fun j y => match j with
          | 6 => accE 5 y.1.1 (u.l.map U8)
          | 7 => [⟨y.2.2, Row 22 [accV y.1.1 u.l.length], true⟩]
          | 8 => accE 22 y.2.1 (rs.map Sl8.v ++ [accV y.1.1 u.l.length])
          | 9 => [⟨b8, Row 93 [accV y.2.1 (rs.map Sl8.v ++ [accV y.1.1 u.l.length]).length], true⟩]
          | 10 => [⟨b8, Row 93 [accV q (rs.map Sl8.v).length], true⟩]
          | 11 => [⟨be, Row 22 [s.v], false⟩, ⟨b10, Row 3 [N bg], true⟩, ⟨b9, Row 4 [.bool true], true⟩, ⟨b7, Row 9 [Z (45 :: 45 :: (bd ++ [45, 45]))], true⟩, ⟨b6, Row 9 [Z (45 :: 45 :: bd)], true⟩, ⟨b5, Row 30 [.int .i64 0], true⟩, ⟨b4, Row 93 [.slice none 0 0], true⟩, ⟨b2, Row 22 [s.v], true⟩]
          | 12 => accE 22 q (rs.map Sl8.v)
          | 13 => flatE rs
          | _ => []
        have h2 : Has ([⟨be, Row 22 [s.v], false⟩, ⟨b10, Row 3 [N bg], true⟩, ⟨b9, Row 4 [.bool true], true⟩, ⟨b7, Row 9 [Z (45 :: 45 :: (bd ++ [45, 45]))], true⟩, ⟨b6, Row 9 [Z (45 :: 45 :: bd)], true⟩, ⟨b5, Row 30 [.int .i64 0], true⟩, ⟨b4, Row 93 [.slice none 0 0], true⟩, ⟨b2, Row 22 [s.v], true⟩]) b2 (Row 22 [s.v]) true := (by repeat (first | exact Has.here | apply Has.there))
        have h10 : Has ([⟨be, Row 22 [s.v], false⟩, ⟨b10, Row 3 [N bg], true⟩, ⟨b9, Row 4 [.bool true], true⟩, ⟨b7, Row 9 [Z (45 :: 45 :: (bd ++ [45, 45]))], true⟩, ⟨b6, Row 9 [Z (45 :: 45 :: bd)], true⟩, ⟨b5, Row 30 [.int .i64 0], true⟩, ⟨b4, Row 93 [.slice none 0 0], true⟩, ⟨b2, Row 22 [s.v], true⟩]) b10 (Row 3 [N bg]) true := (by repeat (first | exact Has.here | apply Has.there))
        let Rl : Nat → { z : Acc // z = none → u.l = [] } × Acc × Nat → { z : Acc // z = none → u.l = [] } × Acc × Nat → Prop := fun i a b => match i with
          | 9 => a.1 = b.1 ∧ a.2.1 = b.2.1
          | 8 => a.1 = b.1 ∧ a.2.1 ≠ none
          | _ => a.1 = b.1
        rcases hmk with ⟨hm, rfl, rfl⟩ | ⟨hm, rfl, rfl⟩
        · repeat (first | refine JL.q (by first | (apply OQ.load; exact boC; exact rfl; exact h9; exact (Row.cell (v := .bool true) rfl)) | (apply OQ.pick_t; exact rfl; exact rfl) | (apply OQ.move; exact rfl)) rfl ?_ | refine JL.nil ?_ | with_reducible refine JE.nextR ?_ | refine JL.gon rfl rfl ?_ | refine JL.gskip rfl rfl rfl rfl ?_)
          refine JR.cond rfl (fun _ => ?_) (fun h => by cases h)
          refine JR.growR (g := ⟨[(11, N (atN s.l k)), (12, y.v), (2, Pt b2 0), (4, Pt b4 0), (5, Pt b5 0), (6, Pt b6 0), (7, Pt b7 0), (8, Pt b8 0), (9, Pt b9 0), (10, Pt b10 0), (14, .bool true), (15, .bool false)], 14, vs, Ms, (fun j => match j with | 4 => [(1, 46), (2, 47), (3, 48)] | 5 => [(4, 49)] | 6 => [(5, 50)] | 7 => [(6, 51)] | 8 => [(0, 45), (7, 52)] | 9 => [(8, 53)] | _ => []), (fun j => match j with | 0 => [10] | 1 => [11] | 2 => [11] | 8 => [12, 7] | 9 => [10] | _ => []), (fun j => match j with | 8 => [12, 7] | 9 => [10] | _ => []), (fun j => match j with | 7 => some 6 | 8 => some 7 | 9 => some 8 | _ => none), fun _ => [], Rl⟩) [] [9, 11, 8, 13, 6] rfl (by repeat (first | with_reducible exact lo_roundX | with_reducible apply lo_then | with_reducible apply lo_blk)) mixMi (by repeat (first | exact SubE.nil | refine SubE.cons _ _ _ rfl ?_)) (fun _ _ => .nil) ?_ (by kernel_rfl) (by kernel_rfl) (by kernel_rfl) ?_ ?_
          · exact less_eq (by show _ ++ (_ ++ (_ ++ (flatE rs ++ []))) = _; rw [List.append_nil]; rfl)
          · refine ⟨?_, ?_, ?_, ?_, ?_, ?_, ?_, ?_, ?_, ?_, trivial⟩
            · (intro z EF MF Q kk; exact JL.q (OQ.load lsC rfl .here (Row.cell (v := accV q (rs.map Sl8.v).length) rfl)) rfl (JL.nil (kk default nofun)))
            · (intro z EF MF Q kk; exact JL.q (OQ.load bsC8 rfl (has_left (has_left h2)) (Row.cell (v := s.v) rfl)) rfl (JL.nil (kk default nofun)))
            · (intro z EF MF Q kk; exact JL.q (OQ.load inC12 rfl (has_left (has_left h10)) (Row.cell (v := N bg) rfl)) rfl (JL.nil (kk default nofun)))
            · (intro z EF MF Q kk; exact JL.q (OQ.move rfl) rfl (JL.nil (kk default nofun)))
            · (intro z EF MF Q kk; exact JL.q (hmid rfl rfl rfl) rfl (JL.nil (kk default nofun)))
            · (intro z EF MF Q kk; exact JL.q (OQ.callx (vs := [x.v]) goes_mwend rfl c50) rfl (JL.nil (kk default nofun)))
            · (intro z EF MF Q kk; exact JL.callg (vs := [u.v]) (ι := { z : Acc // z = none → u.l = [] }) (fun z => accV z.1 u.l.length) (fun z => accE 5 z.1 (u.l.map U8)) goes_clone rfl rfl (fun z => accE_wr _ _ _) c51 fun z => JL.nil (kk (z, default, 0) nofun))
            · (intro z EF MF Q kk; exact JL.lit1 (v := accV (z 6).1.1 u.l.length) Tryz.underlying93 slE12 rfl rfl (accV_cells _ _) rfl fun bl _ => JL.nil (kk ((z 6).1, default, bl) (fun k h => by cases h; rfl)))
            · intro z EF MF Q kk
              show JL _ _ _ _ _ _ _ _ ((accE 22 q (rs.map Sl8.v) ++ ([⟨(z 7).2.2, Row 22 [accV (z 7).1.1 u.l.length], true⟩] ++ [])) ++ MF)
              rw [List.append_assoc]
              refine JL.appendQ (xs := rs.map Sl8.v) (cs := [accV (z 7).1.1 u.l.length]) (m := 1) (ad := some ⟨(z 7).2.2, 0, none⟩) (sc := 1) q Tryz.underlying93 slE12 hq1 rfl rfl rfl (fun w' hw' => ?_) (fun v hv => by rw [List.mem_singleton.1 hv]; exact accV_one _ _) rfl (by omega) (by omega) rfl fun q' hq' => ?_
              · obtain ⟨o, ho, hA⟩ := hw'.get (b := (z 7).2.2) (A := Row 22 [accV (z 7).1.1 u.l.length]) (wr := true) (has_right _ .here)
                exact Reads.block ho (Row.all _ hA)
              · exact JL.nil (JE.less (less_app2 (.drop _ _ _ (Less.refl _)) _) (kk ((z 7).1, q', 0) (fun k h => by cases h; exact ⟨rfl, fun h => by have := hq' h; simp at this⟩)))
            · (intro z EF MF Q kk; exact JL.store_eq (v := accV (z 8).2.1 (rs.map Sl8.v ++ [accV (z 8).1.1 u.l.length]).length) (r' := [accV (z 8).2.1 (rs.map Sl8.v ++ [accV (z 8).1.1 u.l.length]).length]) lsS rfl rfl (accV_one _ _) (accV_cells _ _) .here (by simp) rfl (JL.nil (kk ((z 8).1, (z 8).2.1, 0) (fun k h => by cases h; exact ⟨rfl, rfl⟩))))
          intro z hz
          have z7 : (z 7).1 = (z 6).1 := hz 7 6 (by decide) rfl
          have z8 : (z 8).1 = (z 7).1 ∧ (z 8).2.1 ≠ none := hz 8 7 (by decide) rfl
          have z9 : (z 9).1 = (z 8).1 ∧ (z 9).2.1 = (z 8).2.1 := hz 9 8 (by decide) rfl
          obtain ⟨c, hc⟩ : ∃ c, (z 6).1 = c := ⟨_, rfl⟩
          have e8 : (z 8).1 = c := z8.1.trans (z7.trans hc)
          have e9 : (z 9).1 = c := z9.1.trans e8
          obtain ⟨q', hq'⟩ : ∃ q', (z 8).2.1 = q' := ⟨_, rfl⟩
          have e9' : (z 9).2.1 = q' := z9.2.trans hq'
          have emap : (rs ++ [accS c.1 u.l]).map Sl8.v = rs.map Sl8.v ++ [accV c.1 u.l.length] := by rw [List.map_append, List.map_cons, List.map_nil, accS_v]
          show JE _ _ _ _ _ [(11, N (atN s.l k)), (12, y.v), (2, Pt b2 0), (4, Pt b4 0), (5, Pt b5 0), (6, Pt b6 0), (7, Pt b7 0), (8, Pt b8 0), (9, Pt b9 0), (10, Pt b10 0), (14, .bool true), (15, .bool false)] _
          refine JE.less (M' := ⟨b8, Row 93 [accV q' ((rs ++ [accS c.1 u.l]).map Sl8.v).length], true⟩ :: ([⟨be, Row 22 [s.v], false⟩, ⟨b10, Row 3 [N bg], true⟩, ⟨b9, Row 4 [.bool true], true⟩, ⟨b7, Row 9 [Z (45 :: 45 :: (bd ++ [45, 45]))], true⟩, ⟨b6, Row 9 [Z (45 :: 45 :: bd)], true⟩, ⟨b5, Row 30 [.int .i64 0], true⟩, ⟨b4, Row 93 [.slice none 0 0], true⟩, ⟨b2, Row 22 [s.v], true⟩] ++ (accE 22 q' ((rs ++ [accS c.1 u.l]).map Sl8.v) ++ flatE (rs ++ [accS c.1 u.l])))) ?_ ?_
          · show Less _ ([⟨b8, Row 93 [accV (z 9).2.1 (rs.map Sl8.v ++ [accV (z 9).1.1 u.l.length]).length], true⟩] ++ ([⟨be, Row 22 [s.v], false⟩, ⟨b10, Row 3 [N bg], true⟩, ⟨b9, Row 4 [.bool true], true⟩, ⟨b7, Row 9 [Z (45 :: 45 :: (bd ++ [45, 45]))], true⟩, ⟨b6, Row 9 [Z (45 :: 45 :: bd)], true⟩, ⟨b5, Row 30 [.int .i64 0], true⟩, ⟨b4, Row 93 [.slice none 0 0], true⟩, ⟨b2, Row 22 [s.v], true⟩] ++ (accE 22 (z 8).2.1 (rs.map Sl8.v ++ [accV (z 8).1.1 u.l.length]) ++ (flatE rs ++ (accE 5 (z 6).1.1 (u.l.map U8) ++ [])))))
            rw [e9, e9', e8, hq', hc, emap, List.append_nil]
            exact .keep _ _ _ _ _ _ (fun _ h => h) (less_app2 (less_app2 (flat_snoc rs c.1 u.l) _) _)
          have hq2 : q' = none → rs ++ [accS c.1 u.l] = [] := fun h => absurd (hq'.trans h) z8.2
          have h02 : ∀ y ∈ rs ++ [accS c.1 u.l], y.ad = none → y.l = [] := fun y hy => by
            rcases List.mem_append.1 hy with h | h
            · exact h0 y h
            · rw [List.mem_singleton.1 h]; exact accS_none
          have hmap : (rs ++ [accS c.1 u.l]).map Sl8.l = rs.map Sl8.l ++ [wendB ((s.l.take (atN s.l k)).drop bg)] := by
            rw [List.map_append, List.map_cons, List.map_nil, accS_l c.2, hul, hxl]
          have hlen2 : (rs ++ [accS c.1 u.l]).length = rs.length + 1 := List.length_append
          generalize rs ++ [accS c.1 u.l] = rs2 at hq2 h02 hmap hlen2 ⊢
          clear z7 z8 z9 e8 e9 hc hq' e9' emap hz z vs Ms Rl
          refine JE.nextR ?_
          repeat (first | refine JL.q (by first | (apply OQ.load; exact boC; exact rfl; exact (by repeat (first | exact Has.here | apply Has.there)); exact (Row.cell (v := .bool true) rfl)) | (apply OQ.pick_t; exact rfl; exact rfl) | (apply OQ.move; exact rfl)) rfl ?_ | refine JR.seq ?_ | refine JL.nil ?_ | with_reducible refine JE.nextR ?_ | refine JL.gon rfl rfl ?_ | refine JR.region rfl (by first | with_reducible exact lo_roundQ | with_reducible exact lo_then lo_roundQ | with_reducible exact lo_blk lo_roundQ | with_reducible exact lo_then (lo_blk lo_roundQ) | with_reducible exact lo_roundX | with_reducible exact lo_then lo_roundX | with_reducible exact lo_blk lo_roundX | with_reducible exact lo_then (lo_blk lo_roundX) | with_reducible exact lo_then (lo_then (lo_blk lo_roundX))) ?_)
          refine JR.cond rfl (fun h => by cases h) (fun _ => ?_)
          repeat (first | refine JL.q (by (apply OQ.move; exact rfl)) rfl ?_ | refine JR.seq ?_ | refine JL.nil ?_ | with_reducible refine JE.nextR ?_ | refine JR.skip ?_ | refine JR.region rfl (by first | with_reducible exact lo_roundQ | with_reducible exact lo_then lo_roundQ | with_reducible exact lo_blk lo_roundQ | with_reducible exact lo_then (lo_blk lo_roundQ) | with_reducible exact lo_roundX | with_reducible exact lo_then lo_roundX | with_reducible exact lo_blk lo_roundX | with_reducible exact lo_then (lo_blk lo_roundX) | with_reducible exact lo_then (lo_then (lo_blk lo_roundX))) ?_)
          refine JR.cond rfl (fun _ => ?_) (fun h => by cases h)
          repeat (first | refine JL.q (by first | (apply OQ.to; exact (OQ.addN (a := atN s.l k) (b := y.l.length) rfl rfl (by omega)); exact (congrArg N hsum)) | (apply OQ.move; exact rfl) | (apply OQ.len; exact rfl; exact rfl)) rfl ?_ | refine JR.region rfl (by first | with_reducible exact lo_roundQ | with_reducible exact lo_then lo_roundQ | with_reducible exact lo_blk lo_roundQ | with_reducible exact lo_then (lo_blk lo_roundQ) | with_reducible exact lo_roundX | with_reducible exact lo_then lo_roundX | with_reducible exact lo_blk lo_roundX | with_reducible exact lo_then (lo_blk lo_roundX) | with_reducible exact lo_then (lo_then (lo_blk lo_roundX))) ?_)
          refine JL.store_eq (v := .bool true) (r' := [.bool true]) boS rfl rfl rfl rfl (by repeat (first | exact Upd.here | apply Upd.there)) (by decide) rfl ?_
          refine JL.store_eq (v := N (atN s.l (k + 1))) (r' := [N (atN s.l (k + 1))]) inS12 rfl rfl rfl rfl (by repeat (first | exact Upd.here | apply Upd.there)) (by simp) rfl ?_
          refine JL.nil ?_
          refine JE.blk_normal ?_
          refine JE.perm (M' := spM s bd be b2 b4 b5 b6 b7 b8 b9 b10 ⟨some (atN s.l (k + 1)), q', rs2⟩) (List.perm_middle (l₁ := spA s be b9 b10 ⟨some (atN s.l (k + 1)), q', rs2⟩)).symm ?_
          refine JE.roundN ⟨some (atN s.l (k + 1)), q', rs2⟩ ⟨?_, hq2, h02, by show rs2.length ≤ k + 1; omega⟩ (Less.refl _)
          show ScanB bd s.l (atN s.l (k + 1)) (some (atN s.l (k + 1))) (rs2.map Sl8.l)
          rw [hmap]
          exact scan_part hat hsc hm
        · repeat (first | refine JL.q (by first | (apply OQ.load; exact boC; exact rfl; exact h9; exact (Row.cell (v := .bool true) rfl)) | (apply OQ.pick_t; exact rfl; exact rfl) | (apply OQ.pick_f; exact rfl; exact rfl) | (apply OQ.move; exact rfl)) rfl ?_ | refine JL.nil ?_ | with_reducible refine JE.nextR ?_ | refine JL.gon rfl rfl ?_)
          refine JR.cond rfl (fun _ => ?_) (fun h => by cases h)
          refine JR.growR (g := ⟨[(11, N (atN s.l k)), (12, y.v), (2, Pt b2 0), (4, Pt b4 0), (5, Pt b5 0), (6, Pt b6 0), (7, Pt b7 0), (8, Pt b8 0), (9, Pt b9 0), (10, Pt b10 0), (14, .bool false), (15, .bool true)], 14, vs, Ms, (fun j => match j with | 4 => [(1, 46), (2, 47), (3, 48)] | 5 => [(4, 49)] | 6 => [(5, 50)] | 7 => [(6, 51)] | 8 => [(0, 45), (7, 52)] | 9 => [(8, 53)] | _ => []), (fun j => match j with | 0 => [10] | 1 => [11] | 2 => [11] | 8 => [12, 7] | 9 => [10] | _ => []), (fun j => match j with | 8 => [12, 7] | 9 => [10] | _ => []), (fun j => match j with | 7 => some 6 | 8 => some 7 | 9 => some 8 | _ => none), fun _ => [], Rl⟩) [] [9, 11, 8, 13, 6] rfl (by repeat (first | with_reducible exact lo_roundX | with_reducible apply lo_then | with_reducible apply lo_blk)) mixMi (by repeat (first | exact SubE.nil | refine SubE.cons _ _ _ rfl ?_)) (fun _ _ => .nil) ?_ (by kernel_rfl) (by kernel_rfl) (by kernel_rfl) ?_ ?_
          · exact less_eq (by show _ ++ (_ ++ (_ ++ (flatE rs ++ []))) = _; rw [List.append_nil]; rfl)
          · refine ⟨?_, ?_, ?_, ?_, ?_, ?_, ?_, ?_, ?_, ?_, trivial⟩
            · (intro z EF MF Q kk; exact JL.q (OQ.load lsC rfl .here (Row.cell (v := accV q (rs.map Sl8.v).length) rfl)) rfl (JL.nil (kk default nofun)))
            · (intro z EF MF Q kk; exact JL.q (OQ.load bsC8 rfl (has_left (has_left h2)) (Row.cell (v := s.v) rfl)) rfl (JL.nil (kk default nofun)))
            · (intro z EF MF Q kk; exact JL.q (OQ.load inC12 rfl (has_left (has_left h10)) (Row.cell (v := N bg) rfl)) rfl (JL.nil (kk default nofun)))
            · (intro z EF MF Q kk; exact JL.q (OQ.move rfl) rfl (JL.nil (kk default nofun)))
            · (intro z EF MF Q kk; exact JL.q (hmid rfl rfl rfl) rfl (JL.nil (kk default nofun)))
            · (intro z EF MF Q kk; exact JL.q (OQ.callx (vs := [x.v]) goes_mwend rfl c50) rfl (JL.nil (kk default nofun)))
            · (intro z EF MF Q kk; exact JL.callg (vs := [u.v]) (ι := { z : Acc // z = none → u.l = [] }) (fun z => accV z.1 u.l.length) (fun z => accE 5 z.1 (u.l.map U8)) goes_clone rfl rfl (fun z => accE_wr _ _ _) c51 fun z => JL.nil (kk (z, default, 0) nofun))
            · (intro z EF MF Q kk; exact JL.lit1 (v := accV (z 6).1.1 u.l.length) Tryz.underlying93 slE12 rfl rfl (accV_cells _ _) rfl fun bl _ => JL.nil (kk ((z 6).1, default, bl) (fun k h => by cases h; rfl)))
            · intro z EF MF Q kk
              show JL _ _ _ _ _ _ _ _ ((accE 22 q (rs.map Sl8.v) ++ ([⟨(z 7).2.2, Row 22 [accV (z 7).1.1 u.l.length], true⟩] ++ [])) ++ MF)
              rw [List.append_assoc]
              refine JL.appendQ (xs := rs.map Sl8.v) (cs := [accV (z 7).1.1 u.l.length]) (m := 1) (ad := some ⟨(z 7).2.2, 0, none⟩) (sc := 1) q Tryz.underlying93 slE12 hq1 rfl rfl rfl (fun w' hw' => ?_) (fun v hv => by rw [List.mem_singleton.1 hv]; exact accV_one _ _) rfl (by omega) (by omega) rfl fun q' hq' => ?_
              · obtain ⟨o, ho, hA⟩ := hw'.get (b := (z 7).2.2) (A := Row 22 [accV (z 7).1.1 u.l.length]) (wr := true) (has_right _ .here)
                exact Reads.block ho (Row.all _ hA)
              · exact JL.nil (JE.less (less_app2 (.drop _ _ _ (Less.refl _)) _) (kk ((z 7).1, q', 0) (fun k h => by cases h; exact ⟨rfl, fun h => by have := hq' h; simp at this⟩)))
            · (intro z EF MF Q kk; exact JL.store_eq (v := accV (z 8).2.1 (rs.map Sl8.v ++ [accV (z 8).1.1 u.l.length]).length) (r' := [accV (z 8).2.1 (rs.map Sl8.v ++ [accV (z 8).1.1 u.l.length]).length]) lsS rfl rfl (accV_one _ _) (accV_cells _ _) .here (by simp) rfl (JL.nil (kk ((z 8).1, (z 8).2.1, 0) (fun k h => by cases h; exact ⟨rfl, rfl⟩))))
          intro z hz
          have z7 : (z 7).1 = (z 6).1 := hz 7 6 (by decide) rfl
          have z8 : (z 8).1 = (z 7).1 ∧ (z 8).2.1 ≠ none := hz 8 7 (by decide) rfl
          have z9 : (z 9).1 = (z 8).1 ∧ (z 9).2.1 = (z 8).2.1 := hz 9 8 (by decide) rfl
          obtain ⟨c, hc⟩ : ∃ c, (z 6).1 = c := ⟨_, rfl⟩
          have e8 : (z 8).1 = c := z8.1.trans (z7.trans hc)
          have e9 : (z 9).1 = c := z9.1.trans e8
          obtain ⟨q', hq'⟩ : ∃ q', (z 8).2.1 = q' := ⟨_, rfl⟩
          have e9' : (z 9).2.1 = q' := z9.2.trans hq'
          have emap : (rs ++ [accS c.1 u.l]).map Sl8.v = rs.map Sl8.v ++ [accV c.1 u.l.length] := by rw [List.map_append, List.map_cons, List.map_nil, accS_v]
          show JE _ _ _ _ _ [(11, N (atN s.l k)), (12, y.v), (2, Pt b2 0), (4, Pt b4 0), (5, Pt b5 0), (6, Pt b6 0), (7, Pt b7 0), (8, Pt b8 0), (9, Pt b9 0), (10, Pt b10 0), (14, .bool false), (15, .bool true)] _
          refine JE.less (M' := ⟨b8, Row 93 [accV q' ((rs ++ [accS c.1 u.l]).map Sl8.v).length], true⟩ :: ([⟨be, Row 22 [s.v], false⟩, ⟨b10, Row 3 [N bg], true⟩, ⟨b9, Row 4 [.bool true], true⟩, ⟨b7, Row 9 [Z (45 :: 45 :: (bd ++ [45, 45]))], true⟩, ⟨b6, Row 9 [Z (45 :: 45 :: bd)], true⟩, ⟨b5, Row 30 [.int .i64 0], true⟩, ⟨b4, Row 93 [.slice none 0 0], true⟩, ⟨b2, Row 22 [s.v], true⟩] ++ (accE 22 q' ((rs ++ [accS c.1 u.l]).map Sl8.v) ++ flatE (rs ++ [accS c.1 u.l])))) ?_ ?_
          · show Less _ ([⟨b8, Row 93 [accV (z 9).2.1 (rs.map Sl8.v ++ [accV (z 9).1.1 u.l.length]).length], true⟩] ++ ([⟨be, Row 22 [s.v], false⟩, ⟨b10, Row 3 [N bg], true⟩, ⟨b9, Row 4 [.bool true], true⟩, ⟨b7, Row 9 [Z (45 :: 45 :: (bd ++ [45, 45]))], true⟩, ⟨b6, Row 9 [Z (45 :: 45 :: bd)], true⟩, ⟨b5, Row 30 [.int .i64 0], true⟩, ⟨b4, Row 93 [.slice none 0 0], true⟩, ⟨b2, Row 22 [s.v], true⟩] ++ (accE 22 (z 8).2.1 (rs.map Sl8.v ++ [accV (z 8).1.1 u.l.length]) ++ (flatE rs ++ (accE 5 (z 6).1.1 (u.l.map U8) ++ [])))))
            rw [e9, e9', e8, hq', hc, emap, List.append_nil]
            exact .keep _ _ _ _ _ _ (fun _ h => h) (less_app2 (less_app2 (flat_snoc rs c.1 u.l) _) _)
          have hq2 : q' = none → rs ++ [accS c.1 u.l] = [] := fun h => absurd (hq'.trans h) z8.2
          have h02 : ∀ y ∈ rs ++ [accS c.1 u.l], y.ad = none → y.l = [] := fun y hy => by
            rcases List.mem_append.1 hy with h | h
            · exact h0 y h
            · rw [List.mem_singleton.1 h]; exact accS_none
          have hmap : (rs ++ [accS c.1 u.l]).map Sl8.l = rs.map Sl8.l ++ [wendB ((s.l.take (atN s.l k)).drop bg)] := by
            rw [List.map_append, List.map_cons, List.map_nil, accS_l c.2, hul, hxl]
          have hlen2 : (rs ++ [accS c.1 u.l]).length = rs.length + 1 := List.length_append
          generalize rs ++ [accS c.1 u.l] = rs2 at hq2 h02 hmap hlen2 ⊢
          clear z7 z8 z9 e8 e9 hc hq' e9' emap hz z vs Ms Rl
          refine JE.nextR ?_
          repeat (first | refine JL.q (by first | (apply OQ.load; exact boC; exact rfl; exact (by repeat (first | exact Has.here | apply Has.there)); exact (Row.cell (v := .bool true) rfl)) | (apply OQ.pick_t; exact rfl; exact rfl) | (apply OQ.move; exact rfl)) rfl ?_ | refine JR.seq ?_ | refine JL.nil ?_ | with_reducible refine JE.nextR ?_ | refine JL.gon rfl rfl ?_ | refine JR.region rfl (by first | with_reducible exact lo_roundQ | with_reducible exact lo_then lo_roundQ | with_reducible exact lo_blk lo_roundQ | with_reducible exact lo_then (lo_blk lo_roundQ) | with_reducible exact lo_roundX | with_reducible exact lo_then lo_roundX | with_reducible exact lo_blk lo_roundX | with_reducible exact lo_then (lo_blk lo_roundX) | with_reducible exact lo_then (lo_then (lo_blk lo_roundX))) ?_)
          refine JR.cond rfl (fun _ => ?_) (fun h => by cases h)
          refine JR.seq (JR.region rfl (by repeat (first | with_reducible exact lo_roundX | with_reducible apply lo_then | with_reducible apply lo_blk)) ?_)
          refine JL.q (OQ.load lsC rfl .here (Row.cell (v := accV q' (rs2.map Sl8.v).length) rfl)) rfl ?_
          refine JL.store_eq (v := accV q' (rs2.map Sl8.v).length) (r' := [accV q' (rs2.map Sl8.v).length]) lsS rfl rfl (accV_one _ _) (accV_cells _ _) (by repeat (first | exact Upd.here | apply Upd.there)) (by simp) rfl ?_
          refine JL.store_eq (v := .int .i64 0) (r' := [.int .i64 0]) erS rfl rfl rfl rfl (by repeat (first | exact Upd.here | apply Upd.there)) (by decide) rfl ?_
          refine JL.nil (JE.nextR (JR.ret ?_))
          refine JE.then_ret (JE.blk_ret ?_)
          refine JE.roundX ⟨none, q', rs2⟩ ⟨?_, hq2, h02⟩ (.drop _ _ _ (.drop _ _ _ (.drop _ _ _ (.drop _ _ _ (.drop _ _ _ (.drop _ _ _ (.keep _ _ _ _ _ _ (fun _ h => h) (.keep _ _ _ _ _ _ (fun _ h => h) (.drop _ _ _ (Less.refl _))))))))))
          show goalB bd s.l = some (rs2.map Sl8.l)
          rw [hmap]
          exact scan_last hat hsc hm
  case hdone =>
    rintro D z ⟨hsc, hq, h0, _⟩
    have hg : goalB bd s.l = none := by
      rw [atN_end] at hsc
      exact scan_end hsc
    rw [hg]
    unfold spM spA spB
    refine KE.blk_normal (KE.next (KC.seq (KC.region ?_)))
    refine KL.store_eq (v := .slice none 0 0) (r' := [.slice none 0 0]) lsS rfl rfl rfl rfl (by repeat (first | exact Upd.here | apply Upd.there)) (by decide) rfl ?_
    refine KL.store_eq (v := .int .i64 3) (r' := [.int .i64 3]) erS rfl rfl rfl rfl (by repeat (first | exact Upd.here | apply Upd.there)) (by decide) rfl ?_
    refine KL.nil (KE.next (KC.ret ?_))
    refine KE.ret2x rfl (RV.cell rfl lsC (b := b4) (by repeat (first | exact Has.here | apply Has.there)) (Row.cell (v := .slice none 0 0) rfl)) (RV.cell rfl erC (b := b5) (by repeat (first | exact Has.here | apply Has.there)) (Row.cell (v := .int .i64 3) rfl)) fun w' hw => ?_
    exact ⟨⟨none, [], rfl, fun _ => rfl, by simp⟩, rfl, hw.weak (.nil _)⟩
  case hstop =>
    rintro D z ⟨hg, hq, h0⟩
    rw [hg]
    unfold spX
    refine KE.blk_ret (KE.then_ret ?_)
    refine KE.ret2x rfl (RV.cell rfl lsC (b := b4) (by repeat (first | exact Has.here | apply Has.there)) (Row.cell rfl)) (RV.cell rfl erC (b := b5) (by repeat (first | exact Has.here | apply Has.there)) (Row.cell rfl)) fun w' hw => ?_
    exact ⟨⟨z.q, z.rs, rfl, hq, h0⟩, rfl, hw.weak (.drop _ _ _ (.drop _ _ _ (Less.refl _)))⟩
end Go.Proofs.YtdabhneehconeaaGreatDoor

/-
  Of no statement by itself: how long what is read of a mail may be; a multipart's parts by themselves; pure; no program stands here.
  Conditions: none but each lemma's own.
-/
namespace Go.Proofs.YtdabhneehconeaaGreatDoor
namespace Mim
open Fld Tok
section
variable (Qd : List By → Except Nat (List By))
end
theorem mapE_snoc {α β : Type} {f : α → Except Nat β} {l : List α} {xs : List β} {a : α} {y : β} (h : mapE f l = .ok xs) (ha : f a = .ok y) : mapE f (l ++ [a]) = .ok (xs ++ [y]) := by
  induction l generalizing xs with
  | nil =>
    cases h
    show mapE f [a] = _
    unfold mapE
    rw [ha]
    rfl
  | cons b l ih =>
    rw [List.cons_append]
    unfold mapE at h ⊢
    cases e1 : f b with
    | error e => rw [e1] at h; cases h
    | ok z =>
      rw [e1] at h
      cases e2 : mapE f l with
      | error e => rw [e2] at h; cases h
      | ok zs =>
        rw [e2] at h
        cases h
        rw [ih e2]
        rfl
theorem mapE_err {α β : Type} {f : α → Except Nat β} {l r : List α} {xs : List β} {a : α} {e : Nat} (h : mapE f l = .ok xs) (ha : f a = .error e) : mapE f (l ++ a :: r) = .error e := by
  induction l generalizing xs with
  | nil =>
    show mapE f (a :: r) = _
    unfold mapE
    rw [ha]
  | cons b l ih =>
    rw [List.cons_append]
    unfold mapE at h ⊢
    cases e1 : f b with
    | error e' => rw [e1] at h; cases h
    | ok z =>
      rw [e1] at h
      cases e2 : mapE f l with
      | error e' => rw [e2] at h; cases h
      | ok zs =>
        rw [ih e2]
theorem mapE_ne {α β : Type} {f : α → Except Nat β} (hf : ∀ a e, f a = .error e → e ≠ 0) : ∀ (l : List α) (e : Nat), mapE f l = .error e → e ≠ 0
  | [], e, h => by cases h
  | a :: l, e, h => by
    unfold mapE at h
    cases e1 : f a with
    | error e' => rw [e1] at h; cases h; exact hf _ _ e1
    | ok y =>
      rw [e1] at h
      cases e2 : mapE f l with
      | error e' => rw [e2] at h; cases h; exact mapE_ne hf l _ e2
      | ok ys => rw [e2] at h; cases h
end Mim
end Go.Proofs.YtdabhneehconeaaGreatDoor

/-
  Of no statement by itself: what the reference's Read (layer 9) gives.
  Conditions: the theorem's own.
-/
namespace Go.Proofs.YtdabhneehconeaaGreatDoor
set_option maxRecDepth 10000
open Sl Fld
structure R9 where
  i : Nat
  fs : List Pr
  b : Nat
  cap : Nat
structure V9 where
  t : Nat
  m : Nat
  v : List Bt
  b : Nat
  cap : Nat
end Go.Proofs.YtdabhneehconeaaGreatDoor

/-
  Of no statement by itself: what the reference's All, Drop and Set (layer 11) give.
  Conditions: each theorem's own.
-/
namespace Go.Proofs.YtdabhneehconeaaGreatDoor
set_option maxRecDepth 10000
open Sl Fld
theorem fieldI : EI Tryz.prog 65 (.agg (pc ([], [])).toArray) 2 32 := by unfold EI; kernel_rfl
theorem fsC : scal Tryz.prog 27 = true := by kernel_rfl
theorem drop_pr {l : List Pr} {i : Nat} (h : i < l.length) : l.drop i = l.getD i ([], []) :: l.drop (i + 1) := by
  rw [List.drop_eq_getElem_cons h, List.getD_eq_getElem?_getD, List.getElem?_eq_getElem h]; rfl
structure AT where
  i : Nat
  o : List (List Bt)
  b : Nat
  cap : Nat
theorem pc_one (p : Pr) : ∀ v ∈ pc p, v.oneCell' = true := by
  intro v hv
  simp only [pc, List.mem_cons, List.not_mem_nil, or_false] at hv
  rcases hv with rfl | rfl <;> rfl
structure DT where
  i : Nat
  o : List Pr
  b : Nat
  cap : Nat
theorem OQ.buildF {n : Nat} {E : Env} {C : World → Prop} {dst : Option Tmp} {ty : TypeId} {pos : String} {aft : Array Edge} {g : Option (Nat × Bool)} {x y : Operand} {a b : List Bt} (hx : ev E x = some (Z a)) (hy : ev E y = some (Z b)) : OQ Tryz.prog n E C ⟨dst, .build 65 #[(0, x), (1, y)], ty, pos, aft, g⟩ (.agg (pc (a, b)).toArray) := by
  refine OQ.run fun k hk w _ => ?_
  have h1 := hk.eval hx
  have h2 := hk.eval hy
  have h3 := run_build (P := Tryz.prog) w 65 #[(0, Z a), (1, Z b)] #[Z a, Z b] (by kernel_rfl)
  simp [execOp, h1, h2, Sem.run_bind, h3, pc]
structure ST where
  i : Nat
  o : List Pr
  d : Bool
  b : Nat
  cap : Nat
end Go.Proofs.YtdabhneehconeaaGreatDoor

/-
  Of no statement by itself: what the reference's Param and Multi (layer 12) and Read (layer 11) give.
  Conditions: each theorem's own.
-/
namespace Go.Proofs.YtdabhneehconeaaGreatDoor
set_option maxRecDepth 10000
open Sl Fld Mim
end Go.Proofs.YtdabhneehconeaaGreatDoor

/-
  Of no statement by itself: append of one element of many cells, that a literal holds, onto nil or onto a slice of the function's own; parts that some blocks hold.
  Conditions: each rule's own hypotheses.
-/
namespace Go.Proofs.YtdabhneehconeaaGreatDoor
set_option maxRecDepth 10000
open Sl Mim
namespace Sl
section
variable {P : Program} {n : Nat} {w0 : World} {S : List Nat} {ops : Array Oper} {Q : Exit → Act → World → Prop} {l : List Oper} {E : Env} {M M' M0 : List Ent} {d : Nat} {t e ty : TypeId} {pos : String} {aft : Array Edge} {x y : Operand}
def accC (e : TypeId) (sz : Nat) (q : Acc) (L : List (List Value)) : List Ent := match q with
  | none => []
  | some p => [⟨p.1, Sl.Own e sz L.length p.2 L.flatten, true⟩]
/-- one element more -/
theorem JL.appendC {z : Value} {by' bl sz : Nat} {c : List Value} {L : List (List Value)} (q : Acc) (hu : P.underlying t = some (.slice e)) (hi : EI P e z sz by') (hq : q = none → L = []) (hx : ev E x = some (accV q L.length)) (hy : ev E y = some (.slice (some ⟨bl, 0, none⟩) 1 1))
    (hcl : c.length = sz) (h1 : ∀ v ∈ c, v.oneCell' = true) (hzz : z.cells.size = sz) (h0 : 0 < sz) (hsm : (L.length + 1) * by' ≤ 140737488355328) (hsm2 : L.length + 1 < 9223372036854775808) (hd : Nat.blt d n = true)
    (kk : ∀ b' cap', JL P n w0 S ops Q l ((d, accV (some (b', cap')) (L ++ [c]).length) :: E) (accC e sz (some (b', cap')) (L ++ [c]) ++ M0)) :
    JL P n w0 S ops Q (⟨some d, .call ⟨.builtin .append, #[x, y], #[t, t]⟩, ty, pos, aft, none⟩ :: l) E (⟨bl, Row e c, true⟩ :: (accC e sz q L ++ M0)) := by
  have hr : ∀ w, Holds w0 S (⟨bl, Row e c, true⟩ :: (accC e sz q L ++ M0)) w → Reads w (some ⟨bl, 0, none⟩) c := fun w hw => by
    obtain ⟨o, ho, hA⟩ := hw.get (b := bl) (A := Row e c) (wr := true) .here
    exact Reads.block ho (Row.all _ hA)
  have eN : (L ++ [c]).length = L.length + 1 := List.length_append
  have eF : (L ++ [c]).flatten = L.flatten ++ c := by rw [List.flatten_append]; simp
  cases q with
  | none =>
    obtain rfl := hq rfl
    refine JL.append_nil (cs := c) (m := 1) hu hi hx hy (by rw [hcl, Nat.one_mul]) hr (by decide) hzz h0 (by simpa using hsm) (by decide) hd fun b' cap' _ => ?_
    refine (kk b' cap').lessM ?_
    refine .keep _ _ _ _ _ _ (fun o h => ?_) (.drop _ _ _ (Less.refl _))
    rw [eF]
    exact h
  | some r =>
    refine JL.append (cs := c) (m := 1) (b := r.1) (cap := r.2) (k := L.length) (xs := L.flatten) (fun b' cap' => ⟨bl, Row e c, true⟩ :: (accC e sz (some (b', cap')) (L ++ [c]) ++ M0)) hu hi hx hy (fun b' cap' => ?_) (by rw [hcl, Nat.one_mul]) hr h1 hzz h0 hsm hsm2 hd fun b' cap' => ?_
    · show Repl (_ :: ⟨r.1, Sl.Own e sz L.length r.2 L.flatten, true⟩ :: M0) _ _ _ _ (_ :: ⟨b', Sl.Own e sz (L ++ [c]).length cap' (L ++ [c]).flatten, true⟩ :: M0)
      rw [eN, eF]
      exact .there .here
    · have := kk b' cap'
      rw [show accV (some (b', cap')) (L ++ [c]).length = Value.slice (some ⟨b', 0, none⟩) (L.length + 1) cap' by rw [eN]; rfl] at this
      exact this.lessM (.drop _ _ _ (Less.refl _))
end
end Sl
/-- what is known of some blocks makes five cells a part -/
structure PartE (d : Nat) (p : Part) (cs : List Value) (M : List Ent) : Prop where
  len : cs.length = 5
  one : cs.all Value.oneCell' = true
  wr : ∀ e ∈ M, e.wr = true
  is : ∀ (w0 : World) (S : List Nat) (w' : World), Holds w0 S M w' → IsPart d w' p cs
theorem PartE.less {d : Nat} {p : Part} {cs : List Value} {M M' : List Ent} (h : PartE d p cs M) (hM : Less M M') (hw : ∀ e ∈ M', e.wr = true) : PartE d p cs M' := ⟨h.len, h.one, hw, fun w0 S w' hw' => h.is w0 S w' (Sl.Holds.weak hw' hM)⟩
end Go.Proofs.YtdabhneehconeaaGreatDoor

/-
  Of no statement by itself: what the reference's Params (layer 10) gives.
  Conditions: each theorem's own.
-/
namespace Go.Proofs.YtdabhneehconeaaGreatDoor
set_option maxRecDepth 10000
open Sl Fld Tok
theorem semV_cons (c : Fld.By) (r : List Fld.By) (q : Bool) (x : List Fld.By) (h : ¬ (q = true ∧ c = 92)) : semR (c :: r) q x = if c = 34 then semR r (!q) (x ++ [c]) else if c = 59 ∧ q = false then x :: semR r q [] else semR r q (x ++ [c]) := by
  conv => lhs; rw [semR.eq_def]
  dsimp only
  rw [if_neg h]
theorem semV_92 (c2 : Fld.By) (r x : List Fld.By) : semR (92 :: c2 :: r) true x = semR r true (x ++ [92, c2]) := by
  conv => lhs; rw [semR.eq_def]
  rfl
theorem semV_92e (x : List Fld.By) : semR [92] true x = [x ++ [92]] := by
  conv => lhs; rw [semR.eq_def]
  rfl
theorem semV_e (q : Bool) (x : List Fld.By) : semR [] q x = [x] := by rw [semR.eq_def]
structure QS where
  i : Nat
  fr : Nat
  q : Bool
  o : List (List Fld.By)
  b : Nat
  cap : Nat
structure QT where
  i : Nat
  o : List Pr
  b : Nat
  cap : Nat
end Go.Proofs.YtdabhneehconeaaGreatDoor

/-
  Of no statement by itself: what lines of printed signs tell (quoted-printable), step by step; pure; no program stands here.
  Conditions: none.
-/
namespace Go.Proofs.YtdabhneehconeaaGreatDoor
namespace Quo
open Fld
def hexV (c : By) : Int := if 48 ≤ c.toNat ∧ c.toNat ≤ 57 then (c.toNat : Int) - 48 else if 65 ≤ c.toNat ∧ c.toNat ≤ 70 then (c.toNat : Int) - 55 else if 97 ≤ c.toNat ∧ c.toNat ≤ 102 then (c.toNat : Int) - 87 else -1
/-- how many blanks stand at the beginning -/
def bkn (b : List By) : Nat := (b.takeWhile bl).length
/-- how many bytes of a line's end, or of a LF alone, stand there -/
def enq : List By → Nat
  | [] => 0
  | c :: r => if c = 10 then 1 else if c = 13 ∧ r.head? = some 10 then 2 else 0
def endsq (b : List By) : Bool := decide (b = []) || decide (0 < enq b)
/-- the byte that two digits tell -/
def hexs (b : List By) : Option By := if 3 ≤ b.length ∧ 0 ≤ hexV (b.getD 1 0) ∧ 0 ≤ hexV (b.getD 2 0) then some (BitVec.ofInt 8 (16 * hexV (b.getD 1 0) + hexV (b.getD 2 0))) else none
/-- behind =, that two digits don't follow: how much is read -/
def softQ (b : List By) : Option Nat := if endsq (b.drop (1 + bkn (b.drop 1))) then some (1 + bkn (b.drop 1) + enq (b.drop (1 + bkn (b.drop 1)))) else none
/-- what is made first, and how much is read of it; none: there is nothing that may stand there -/
def stepQ (b : List By) : Option (List By × Nat) :=
  if b.getD 0 0 = 61 then
    match hexs b with
    | some c => some ([c], 3)
    | none => (softQ b).map fun k => ([], k)
  else if 0 < bkn b then some (if endsq (b.drop (bkn b)) then [] else b.take (bkn b), bkn b)
  else if 0 < enq b then some ([13, 10], enq b)
  else some ([b.getD 0 0], 1)
def accQ (o : List By) : Option (List By) → Option (List By)
  | none => none
  | some x => some (o ++ x)
def decF : Nat → List By → Option (List By)
  | 0, _ => some []
  | n + 1, b => if b = [] then some [] else match stepQ b with
    | none => none
    | some p => accQ p.1 (decF n (b.drop p.2))
def decQ (b : List By) : Option (List By) := decF b.length b
def Qd (b : List By) : Except Nat (List By) := match decQ b with
  | none => .error 3
  | some x => .ok x
end Quo
end Go.Proofs.YtdabhneehconeaaGreatDoor

/-
  Of no statement by itself: rules for the walk of the reference's Read (layer 12): answers that are parts, the first text of an answer, what holds in all worlds of a piece of code.
  Conditions: each theorem's own.
-/
namespace Go.Proofs.YtdabhneehconeaaGreatDoor
set_option maxRecDepth 10000
open Sl Fld Mim Tok
theorem ptA9 : aggT Tryz.prog 59 = true := by kernel_rfl
theorem ptZ9 : zc Tryz.prog 59 = some [Z [], nil2.v, .int .i64 0, nilS.v, .slice none 0 0] := by kernel_rfl
/-- a part as a function's answer -/
structure PA (d : Nat) (r : Except Nat Part) where
  cs : List Value
  M : List Ent
  len : cs.length = 5
  one : cs.all Value.oneCell' = true
  wr : ∀ e ∈ M, e.wr = true
  is : ∀ p, r = .ok p → PartE d p cs M
def pz : List Value := [Z [], nil2.v, .int .i64 0, nilS.v, .slice none 0 0]
theorem JC.known {P : Program} {n : Nat} {w0 : World} {S : List Nat} {Q : Exit → Act → World → Prop} {E : Env} {M : List Ent} {F : Prop} {c : Code} (h : ∀ w, Holds w0 S M w → F) (k : F → JC P n w0 S Q c E M) : JC P n w0 S Q c E M := ⟨fun a w ha hw => (k (h w hw)).go a w ha hw⟩
theorem JL.known {P : Program} {n : Nat} {w0 : World} {S : List Nat} {ops : Array Oper} {Q : Exit → Act → World → Prop} {l : List Oper} {E : Env} {M : List Ent} {F : Prop} (h : ∀ w, Holds w0 S M w → F) (k : F → JL P n w0 S ops Q l E M) : JL P n w0 S ops Q l E M := ⟨fun a w ha hw => (k (h w hw)).go a w ha hw⟩
/-- the first text of an answer -/
theorem Gz.first {A : List (List Bt)} (y : Gz A) (h : A ≠ []) (hs : ∀ a, y.z.ad = some a → a.spot = none) : ∃ b off cap X, y.z.v = .slice (some ⟨b, off, none⟩) A.length cap ∧ y.z.ents = [⟨b, X, true⟩] ∧ ∀ o, X o → cellAt o (off + 0) = some (Z (A.getD 0 [])) := by
  obtain ⟨⟨ad, cap, l⟩, h1, h2⟩ := y
  dsimp only at h1 h2
  subst h1
  cases ad with
  | none => exact absurd (h2 rfl) h
  | some a =>
    obtain ⟨b, j, sp⟩ := a
    cases sp with
    | none =>
      refine ⟨b, j, cap, _, rfl, rfl, fun o hX => ?_⟩
      obtain ⟨⟨c, e, fr, rfl, hc⟩, _⟩ := hX
      have hp : 0 < l.length := List.length_pos_iff.2 h
      have := hc 0 (by show 0 < (l.map Z).length; rw [List.length_map]; exact hp)
      show c[j + 0]? = _
      rw [this]
      exact map_at Z [] hp
    | some s => cases hs _ rfl
end Go.Proofs.YtdabhneehconeaaGreatDoor

/-
  Of no statement by itself: what the landed field's Fold gives.
  Conditions: each theorem's own.
-/
namespace Go.Proofs.YtdabhneehconeaaGreatDoor
set_option maxRecDepth 10000
open Sl Fld
theorem nil_ans {w0 w : World} {M : List Ent} {S : List Nat} (h : Holds w0 S M w) : Holds w0 S nilS.ents w := h.weak (.nil _)
theorem sok_low {c : Fld.By} (h : sok c = true) : c.toNat < 128 := by
  rw [sokA_is] at h
  simp only [Bool.or_eq_true, Bool.and_eq_true, decide_eq_true_eq] at h
  rcases h with ⟨_, h⟩ | h
  · omega
  · subst h; decide
set_option maxHeartbeats 16000000 in
theorem ffold_any (n v : List Fld.By) (w : World) (hn : n.length < 9223372036854775808) (hv : v.length < 9223372036854775808) : Calls Tryz.prog 61 [.agg (pc (n, v)).toArray].toArray w fun e w' =>
    ∃ x : { x : Sl8 // Ans x (foldR n v) }, e = .returned (.tuple #[x.1.v, N (codeF n v)]) ∧ Holds w [] x.1.ents w' := by
  refine enter (n := 59) Tryz.func61 rfl rfl rfl (Holds.start w []) ?_
  refine JC.seq (JC.region (JL.box (r := pc (n, v)) rfl rfl rfl fun b1 _ => ?_))
  have cN := fun w' => fname_any n w' hn
  have cV := fun w' => fvalue_any v w'
  cases h1 : nameB n <;> cases h2 : valB v
  all_goals (repeat (first | refine JL.q (by first | (apply OQ.load; exact strC; exact rfl; exact .here; exact (Row.cell (v := Z v) rfl)) | (apply OQ.load; exact strC; exact rfl; exact .here; exact (Row.cell (v := Z n) rfl)) | (apply OQ.callb (vs := [Z n]); exact goes_fname; exact rfl; exact cN; exact h1) | (apply OQ.callb (vs := [Z v]); exact goes_fvalue; exact rfl; exact cV; exact h2) | (apply OQ.not; exact rfl) | (apply OQ.pick_t; exact rfl; exact rfl) | (apply OQ.pick_f; exact rfl; exact rfl) | (apply OQ.move; exact rfl) | (apply OQ.assign; exact rfl) | (apply OQ.fld; exact rfl; exact rfl; exact rfl; exact (by decide); exact rfl)) rfl ?_ | refine JC.seq ?_ | refine JC.region ?_ | refine JL.nil ?_ | refine JE.next ?_ | refine JL.gon rfl rfl ?_ | refine JL.gskip rfl rfl rfl rfl ?_))
  all_goals refine JC.cond rfl (fun h => ?_) (fun h => ?_)
  all_goals first | (exfalso; revert h; decide) | skip
  all_goals clear h
  all_goals first
    | (have hg : goodF n v = false := by rw [goodF, h1, h2]; rfl
       have hx : Ans nilS (foldR n v) := ⟨by rw [foldR, hg]; rfl, fun _ => rfl⟩
       have hc : codeF n v = 3 := by rw [codeF, hg]; rfl
       (repeat (first | refine JL.q (by (apply OQ.assign; exact rfl)) rfl ?_ | refine JC.seq ?_ | refine JC.region ?_ | refine JL.nil ?_ | refine JE.next ?_))
       refine JC.ret ?_
       (repeat (refine JE.then_ret ?_))
       refine JE.ret2 rfl (RV.tmp rfl) (RV.tmp rfl) fun w' hw => ⟨⟨nilS, hx⟩, ?_, nil_ans hw⟩
       rw [hc]
       rfl)
    | skip
  have hg : goodF n v = true := by rw [goodF, h1, h2]; rfl
  have hc : codeF n v = 0 := by rw [codeF, hg]; rfl
  have hR : foldR n v = foldB n v := by rw [foldR, hg]; rfl
  have l1 := nameB_len h1
  have l2 := valB_len h2
  have hsok : v.all sok = true := (valB_parts h2).1
  rw [hc, hR]
  clear cN cV hg hc hR
  repeat (first | refine JL.q (by first | (apply OQ.load; exact strC; exact rfl; exact .here; exact (Row.cell (v := Z n) rfl)) | (apply OQ.addS (l := n) (r := [58]); exact rfl; exact rfl; exact (by simp only [List.length_cons, List.length_nil]; omega)) | (apply OQ.addS (l := n ++ [58]) (r := [32]); exact rfl; exact rfl; exact (by simp only [List.length_append, List.length_cons, List.length_nil]; omega)) | (apply OQ.move; exact rfl) | (apply OQ.assign; exact rfl) | (apply OQ.fld; exact rfl; exact rfl; exact rfl; exact (by decide); exact rfl)) rfl ?_ | refine JC.seq ?_ | refine JC.region ?_ | refine JC.skip ?_ | refine JL.nil ?_ | refine JE.next ?_)
  refine JL.s2o (r := n ++ [58] ++ [32]) Tryz.underlying9 rfl Tryz.underlying22 Tryz.underlying5 rfl rfl fun b cap _ => ?_
  repeat (first | refine JL.q (by first | (apply OQ.load; exact strC; exact rfl; exact (.there .here); exact (Row.cell (v := Z v) rfl)) | (apply OQ.move; exact rfl) | (apply OQ.assign; exact rfl) | (apply OQ.len; exact rfl; exact rfl) | (apply OQ.fld; exact rfl; exact rfl; exact rfl; exact (by decide); exact rfl)) rfl ?_ | refine JC.seq ?_ | refine JC.region ?_ | refine JC.block ?_ | refine JL.nil ?_ | refine JE.next ?_)
  have hB0 : (n ++ [58] ++ [32]).length = n.length + 2 := by simp
  have e0 : (st n v 0).1 = n ++ [58] ++ [32] := by simp [st]
  have hsl := st_len n v
  refine JC.loop (fun q : Nat × Nat × Nat => [(4, Z (n ++ [58] ++ [32])), (5, .slice (some ⟨q.2.1, 0, none⟩) (st n v q.1).1.length q.2.2), (6, N (st n v q.1).2), (7, Z (v.drop q.1))])
    (fun q => [⟨q.2.1, OwnF 5 (st n v q.1).1.length q.2.2 ((st n v q.1).1.map U8), true⟩]) (fun q => v.length - q.1) (fun q => q.1 ≤ v.length ∧ (q.1 = 0 ∨ q.1 = v.length ∨ tn v q.1 = true)) (0, b, cap) ⟨Nat.zero_le _, .inl rfl⟩ ?_ (.keep _ _ _ _ _ _ ?_ (.nil _)) ?_
  · show SubE _ [(4, Z (n ++ [58] ++ [32])), (5, .slice (some ⟨b, 0, none⟩) (st n v 0).1.length cap), (6, N (n.length + 2)), (7, Z v)]
    rw [e0, ← hB0]
    exact (by repeat (first | exact SubE.nil | refine SubE.cons _ _ _ rfl ?_))
  · intro o h
    show OwnF _ (st n v 0).1.length _ ((st n v 0).1.map U8) o
    rw [e0]
    exact h
  clear hB0 e0
  rintro ⟨i, b, cap⟩ ⟨hi, hat⟩
  simp only at hi hat
  dsimp only
  obtain ⟨hl1, hl2⟩ := hsl i
  have hlow := st_low n v i
  by_cases hend : i = v.length
  · have hd : decide (v.drop i = []) = true := decide_eq_true (by rw [hend]; simp)
    repeat (first | refine JL.q (by first | (apply OQ.neSB (r := []); exact rfl; exact rfl; exact hd) | (apply OQ.move; exact rfl)) rfl ?_ | refine JC.seq ?_ | refine JC.region ?_ | refine JL.nil ?_ | refine JE.next ?_)
    refine JC.cond rfl (fun h => by cases h) (fun _ => ?_)
    subst hend
    clear hd hat hi
    repeat (first | refine JL.q (by (apply OQ.move; exact rfl)) rfl ?_ | refine JC.seq ?_ | refine JC.region ?_ | refine JC.exit ?_ | refine JE.next ?_ | refine JE.then_exit ?_ | refine JE.blk_hit ?_)
    refine JL.appendX (v := Z [13, 10]) (m := 2) (xs := (st n v v.length).1.map U8) (news := ([13, 10] : List Bt).map U8) (fun b' cap' => [⟨b', OwnF 5 ((st n v v.length).1.length + 2) cap' ((st n v v.length).1.map U8 ++ ([13, 10] : List Bt).map U8), true⟩]) Tryz.underlying22 u8e rfl rfl (fun _ _ => src_str Tryz.underlying9) (by intro _ _; repeat (first | exact Repl.here | apply Repl.there)) (by omega) rfl fun b' cap' => ?_
    repeat (first | refine JL.q (by (apply OQ.assign; exact rfl)) rfl ?_ | refine JL.nil ?_ | refine JE.next ?_)
    refine JC.ret ?_
    skip
    refine JE.ret2 rfl (RV.tmp rfl) (RV.tmp rfl) ?_
    intro w' hw
    refine ⟨⟨⟨some ⟨b', 0, none⟩, cap', foldB n v⟩, ⟨rfl, by simp⟩⟩, ?_, hw.weak ?_⟩
    · show _ = Ending.returned (.tuple #[Value.slice _ (foldB n v).length _, N 0])
      rw [foldB, List.length_append]; rfl
    · have hl : (foldB n v).length = (st n v v.length).1.length + 2 := by rw [foldB, List.length_append]; rfl
      have := ownF_ents (e := 5) (b := b') (cap := cap') hl
      rw [foldB, List.map_append] at this
      exact this
  have hi' : i < v.length := by omega
  have hat' : i = 0 ∨ tn v i = true := by
    rcases hat with h | h | h
    · exact .inl h
    · exact absurd h hend
    · exact .inr h
  clear hat hi
  have hd : decide (v.drop i = []) = false := decide_eq_false (by
    intro h
    have := congrArg List.length h
    rw [List.length_drop, List.length_nil] at this
    omega)
  have hps := piece_scan hi'
  have hse := scan_ge v (i + 1) hi'
  have hsl2 := Fld.scan_le v (i + 1)
  have hpc := st_piece n v hi'
  have htn : scan v (i + 1) = v.length ∨ tn v (scan v (i + 1)) = true := by
    by_cases h : scan v (i + 1) = v.length
    · exact .inl h
    · exact .inr (scan_tn v (i + 1) hi' (by omega))
  have cP := fun w' => fpiece_any (v.drop i) w' (by rw [List.length_drop]; omega) (fun c hc => sok_low (List.all_eq_true.1 hsok c (List.mem_of_mem_drop hc)))
  have hdl : (v.drop i).length = v.length - i := List.length_drop
  generalize hsz : pieceB (v.drop i) = sz at hps cP
  have hszl : sz ≤ (v.drop i).length := by omega
  rw [← hps] at hse hsl2 hpc htn
  have hpart : (v.take (i + sz)).drop i = (v.drop i).take sz := by
    rw [List.drop_take, Nat.add_sub_cancel_left]
  rw [hpart, Nat.add_sub_cancel_left] at hpc
  have hbA : brkA n v i = (decide ((76 : Int) < (((st n v i).2 + sz : Nat) : Int)) && decide (((n ++ [58] ++ [32]).length : Int) < ((st n v i).1.length : Int))) := by
    unfold brkA
    rw [show scan v (i + 1) - i = sz by rw [← hps]; omega, Bool.and_comm]
    congr 1
    · exact decide_eq_decide.2 (by omega)
    · rw [Bool.eq_iff_iff, decide_eq_true_eq]
      have hB0 : (n ++ [58] ++ [32]).length = n.length + 2 := by simp
      rw [hB0]
      constructor
      · intro h
        have : 0 < i := by
          rw [tn, Bool.and_eq_true, decide_eq_true_eq] at h
          exact h.1
        omega
      · intro h
        rcases hat' with h0 | h0
        · subst h0
          simp only [st, List.length_append, List.length_cons, List.length_nil] at h
          omega
        · exact h0
  clear hat'
  generalize brkA n v i = B at hpc hbA
  have hdrop : (v.drop i).drop sz = v.drop (i + sz) := by rw [List.drop_drop]
  generalize hO : (st n v i).1 = O at hl1 hlow hpc hbA ⊢
  generalize hL : (st n v i).2 = L at hl2 hpc hbA ⊢
  generalize hD : v.drop i = D at hd hdrop hpc cP hdl hszl ⊢
  have hB0 : (n ++ [58] ++ [32]).length = n.length + 2 := by simp
  generalize n ++ [58] ++ [32] = begins at hbA hB0 ⊢
  repeat (first | refine JL.q (by first | (apply OQ.neSB (r := []); exact rfl; exact rfl; exact hd) | (apply OQ.move; exact rfl)) rfl ?_ | refine JC.seq ?_ | refine JC.region ?_ | refine JL.nil ?_ | refine JE.next ?_)
  refine JC.cond rfl (fun _ => ?_) (fun h => by cases h)
  cases g1 : decide ((76 : Int) < ((L + sz : Nat) : Int)) <;> cases g2 : decide ((begins.length : Int) < (O.length : Int))
  all_goals rw [g1, g2] at hbA
  all_goals (repeat (first | refine JL.q (by first | (apply OQ.callx (vs := [Z D]); exact goes_fpiece; exact rfl; exact (fun w' _ => cP w')) | (apply OQ.gtrB (b := 76); exact rfl; exact rfl; exact g1) | (apply OQ.lenS; exact Tryz.underlying9; exact rfl) | (apply OQ.len; exact Tryz.underlying22; exact rfl) | (apply OQ.gtrB; exact rfl; exact rfl; exact g2) | (apply OQ.pick_t; exact rfl; exact rfl) | (apply OQ.pick_f; exact rfl; exact rfl) | (apply OQ.move; exact rfl) | (apply OQ.assign; exact rfl) | (apply OQ.addN; exact rfl; exact rfl; exact (by (try simp only []); omega))) rfl ?_ | refine JC.seq ?_ | refine JC.region ?_ | refine JC.block ?_ | refine JC.skip ?_ | refine JL.nil ?_ | refine JE.next ?_ | refine JL.gon rfl rfl ?_ | refine JL.gskip rfl rfl rfl rfl ?_))
  all_goals (
    refine JC.join (ι := Nat × Nat) (fun q => [(4, Z begins), (5, .slice (some ⟨q.1, 0, none⟩) (O ++ if B then [13, 10] else []).length q.2), (6, N (if B then 0 else L)), (7, Z D), (8, N sz)]) (fun q => [⟨q.1, OwnF 5 (O ++ if B then [13, 10] else []).length q.2 ((O ++ if B then [13, 10] else []).map U8), true⟩]) (fun _ => True) ?_ ?_
    · refine JC.cond rfl (fun h => ?_) (fun h => ?_)
      all_goals first | (exfalso; revert h; decide) | skip
      all_goals clear h
      all_goals first
        | (have hB : B = false := hbA
           subst hB
           (repeat (refine JC.skip ?_))
           refine JE.mid (b, cap) trivial ?_ ?_
           · simp only [Bool.false_eq_true, if_false, List.append_nil]
             exact (by repeat (first | exact SubE.nil | refine SubE.cons _ _ _ rfl ?_))
           · simp only [Bool.false_eq_true, if_false, List.append_nil]
             exact Less.refl _)
        | (have hB : B = true := hbA
           subst hB
           (repeat (first | refine JL.q (by (apply OQ.move; exact rfl)) rfl ?_ | refine JC.region ?_))
           refine JL.appendX (v := Z [13, 10]) (m := 2) (xs := O.map U8) (news := ([13, 10] : List Bt).map U8) (fun b' cap' => [⟨b', OwnF 5 (O.length + 2) cap' (O.map U8 ++ ([13, 10] : List Bt).map U8), true⟩]) Tryz.underlying22 u8e rfl rfl (fun _ _ => src_str Tryz.underlying9) (by intro _ _; repeat (first | exact Repl.here | apply Repl.there)) (by omega) rfl fun b' cap' => ?_
           (repeat (first | refine JL.q (by (apply OQ.assign; exact rfl)) rfl ?_ | refine JL.nil ?_))
           refine JE.mid (b', cap') trivial ?_ ?_
           · simp only [if_true, List.length_append]
             exact (by repeat (first | exact SubE.nil | refine SubE.cons _ _ _ rfl ?_))
           · simp only [if_true, List.length_append, List.map_append]
             exact Less.refl _)
    · rintro ⟨b2, cap2⟩ _
      dsimp only
      have hX : (O ++ if B then [13, 10] else []).length ≤ n.length + 4 + 3 * i := by
        rw [List.length_append]
        have : (if B then ([13, 10] : List Fld.By) else []).length ≤ 2 := by cases B <;> simp
        omega
      have hW : (if B then 0 else L) ≤ L := by cases B <;> simp
      generalize (O ++ if B then [13, 10] else []) = X at hX hpc ⊢
      generalize (if B then 0 else L) = W at hW hpc ⊢
      (repeat (first | refine JL.q (by first | (apply OQ.subS_hi; exact Tryz.underlying9; exact rfl; exact rfl; exact hszl) | (apply OQ.move; exact rfl)) rfl ?_ | refine JC.seq ?_ | refine JC.region ?_))
      have hDl : (D.take sz).length = sz := by rw [List.length_take]; omega
      refine JL.appendX (v := Z (D.take sz)) (m := (D.take sz).length) (xs := X.map U8) (news := (D.take sz).map U8) (fun b' cap' => [⟨b', OwnF 5 (X.length + (D.take sz).length) cap' (X.map U8 ++ (D.take sz).map U8), true⟩]) Tryz.underlying22 u8e rfl rfl (fun _ _ => src_str Tryz.underlying9) (by intro _ _; repeat (first | exact Repl.here | apply Repl.there)) (by omega) rfl fun b' cap' => ?_
      (repeat (first | refine JL.q (by first | (apply OQ.subS_lo; exact Tryz.underlying9; exact rfl; exact rfl; exact hszl) | (apply OQ.move; exact rfl) | (apply OQ.assign; exact rfl) | (apply OQ.addN; exact rfl; exact rfl; exact (by (try simp only []); omega))) rfl ?_ | refine JC.seq ?_ | refine JC.region ?_ | refine JL.nil ?_ | refine JE.next ?_ | refine JE.blk_normal ?_))
      refine JE.again (i := (i, b, cap)) (i + sz, b', cap') ⟨hsl2, ?_⟩ (by show v.length - (i + sz) < v.length - i; omega) ?_ ?_
      · exact .inr htn
      · dsimp only
        rw [hpc]
        dsimp only
        rw [List.length_append, ← hdrop]
        exact (by repeat (first | exact SubE.nil | refine SubE.cons _ _ _ rfl ?_))
      · dsimp only
        rw [hpc]
        dsimp only
        rw [List.length_append, List.map_append]
        exact Less.refl _)
end Go.Proofs.YtdabhneehconeaaGreatDoor

/-
  Of no statement by itself: what the landed field's cutLine, tooLong and goOn give.
  Conditions: each theorem's own.
-/
namespace Go.Proofs.YtdabhneehconeaaGreatDoor
set_option maxRecDepth 10000
open Sl Fld
/-! ### heads that are too long -/
/-! ### lines that go on -/
structure GS where
  x : Sl8
  a : List Fld.By
  q : Acc
end Go.Proofs.YtdabhneehconeaaGreatDoor

/-
  Of no statement by itself: what the landed field's readField and Read give.
  Conditions: each theorem's own.
-/
namespace Go.Proofs.YtdabhneehconeaaGreatDoor
set_option maxRecDepth 10000
open Sl Fld
section
variable {n : Nat} {E : Env} {C : World → Prop} {dst : Option Tmp} {ty : TypeId} {pos : String} {aft : Array Edge} {g : Option (Nat × Bool)} {x y : Operand}
end
structure RS where
  x : Sl8
  fs : List Pr
  q : Acc
end Go.Proofs.YtdabhneehconeaaGreatDoor

/-
  Of no statement by itself: what the landed letter's Read gives.
  Conditions: the theorem's own.
-/
namespace Go.Proofs.YtdabhneehconeaaGreatDoor
set_option maxRecDepth 10000
open Sl Fld
end Go.Proofs.YtdabhneehconeaaGreatDoor

/-
  Of no statement by itself: the first of a list's pairs for which something holds, and a list without those for which it does, pair by pair; no program.
  Conditions: none.
-/
namespace Go.Proofs.YtdabhneehconeaaGreatDoor
open Sl
namespace Fld
def ixP (p : Pr → Bool) (l : List Pr) : Nat := (l.takeWhile fun c => !p c).length
theorem ixP_cons (p : Pr → Bool) (c : Pr) (l : List Pr) : ixP p (c :: l) = if p c then 0 else ixP p l + 1 := by
  unfold ixP
  rw [List.takeWhile_cons]
  cases p c <;> simp
theorem ixP_no {p : Pr → Bool} {c : Pr} (h : p c = false) (l : List Pr) : ixP p (c :: l) = ixP p l + 1 := by rw [ixP_cons, h]; rfl
theorem ixP_hit {p : Pr → Bool} {c : Pr} (h : p c = true) (l : List Pr) : ixP p (c :: l) = 0 := by rw [ixP_cons, h]; rfl
/-! ### a mail's fields -/
theorem head_all (n : List By) (l : List Pr) : (allB n l).headD [] = if ixP (fun c => sameB c.1 n) l < l.length then (l.getD (ixP (fun c => sameB c.1 n) l) ([], [])).2 else [] := by
  induction l with
  | nil => rfl
  | cons c l ih =>
    rw [all_cons]
    cases h : sameB c.1 n
    · rw [if_neg (by decide), ixP_no (p := fun c : Pr => sameB c.1 n) h, ih]
      simp
    · rw [if_pos rfl, ixP_hit (p := fun c : Pr => sameB c.1 n) h]
      simp
end Fld
end Go.Proofs.YtdabhneehconeaaGreatDoor

/-
  Of no statement by itself: letter's closure named, and package slices at fields: IndexFunc, Clone, DeleteFunc, Insert (where there is room, or at the end).
  Conditions: each theorem's own.
-/
namespace Go.Proofs.YtdabhneehconeaaGreatDoor
set_option maxRecDepth 10000
open Sl Fld
/-- a name lies in a block -/
def NameAt (bn : Nat) (nm : List Bt) (w : World) : Prop := ∃ o, w.heap[bn]? = some o ∧ Row 9 [Z nm] o
theorem NameAt.ext {bn : Nat} {nm : List Bt} {w w' : World} (h : NameAt bn nm w) (hx : Ext w w') : NameAt bn nm w' := by
  obtain ⟨o, ho, hA⟩ := h
  exact ⟨o, (hx.block bn (Array.getElem?_eq_some_iff.1 ho).1 (by simp)).trans ho, hA⟩
end Go.Proofs.YtdabhneehconeaaGreatDoor

/-
  Of no statement by itself: package slices at fields: DeleteFunc; Insert of one field at the end, or where there is room.
  Conditions: each theorem's own.
-/
namespace Go.Proofs.YtdabhneehconeaaGreatDoor
set_option maxRecDepth 10000
open Sl Fld
theorem fieldZb : zc Tryz.prog 65 = some [Z [], Z []] := by kernel_rfl
structure DelT where
  j : Nat
  o : List Pr
  X : List Pr
end Go.Proofs.YtdabhneehconeaaGreatDoor

/-
  Of no statement by itself: package slices at fields: Insert of one field at the end, or where there is room.
  Conditions: each theorem's own.
-/
namespace Go.Proofs.YtdabhneehconeaaGreatDoor
set_option maxRecDepth 10000
open Sl Fld
end Go.Proofs.YtdabhneehconeaaGreatDoor

/-
  Of no statement by itself: what despatchlaw11's great gives; what letter's Write owes for speaks (letWrite), and what speaks then gives.
  Conditions: each theorem's own.
-/
namespace Go.Proofs.YtdabhneehconeaaGreatDoor
set_option maxRecDepth 10000
open Sl Fld
theorem bsC : scal Tryz.prog 22 = true := by kernel_rfl
def low (p : Pr) : Bool := decide (p.2.length ≤ 9000)
end Go.Proofs.YtdabhneehconeaaGreatDoor
