/-
  Of no statement by itself: the texts RatR, RatT, RatY, RatU, RatV, Slgm, RatW, Plain, Elm, RatX, FraR, CatA in one.
  Conditions: each theorem's own.
-/
import Derived.Test.YtbhlcnimjoppeaaDoorFe
import Derived.Laws.StructEq
import Derived.Test.YtbhlcnimjoppeaaDoorProg
import Derived.Test.YtbhlcnimjoppeaaDoorRows
import Derived.ProofKit
import Derived.OpenShut
import Derived.Below
import Derived.Stop.Joined
import Derived.ChangeMaps5
import Derived.Deep.Slices
import Derived.Deep.SlicePairs
import Derived.Test.YtbhlcnimjoppeaaDoorTie
import Derived.SevenTiedAt
import Derived.LaidMore
import Derived.Lay
import Derived.Lib.LaidTab
import Derived.Test.YtbhlcnimjoppeaaDoorCards
set_option linter.unusedSimpArgs false
set_option linter.unusedVariables false
/-
  Of no statement by itself: what the reference's Same, join, number, Header, Turn and First of layer 19 give.
  Conditions: each theorem's own.
-/
namespace Go.Proofs.YtbhlcnimjoppeaaDoor
set_option maxRecDepth 10000
open Sl Sha Str Crv Rtc
open Dsk (Bk)
/-! ### two structs of a key, a number, a key (or a number) -/
theorem kpU : Tryd.prog.underlying 57 = some (.struct (Tryd.prog.fieldsOf 57)) := by kernel_rfl
theorem kpHeld : Tryd.prog.stoodInHeld 57 = false := by kernel_rfl
theorem kpGd : Tryd.prog.eqGuardType Tryd.prog.depth 57 = false := by kernel_rfl
def threeK (P : Program) (t a b c : TypeId) (o : Nat) : Bool := match (P.fieldsOf t).toList with
  | [f0, f1, f2] => f0.type == a && f1.type == b && f2.type == c && f0.offset == 0 && f1.offset == 32 && f2.offset == o && f0.name != "_" && f1.name != "_" && f2.name != "_"
  | _ => false
theorem three_get {P : Program} {t a b c : TypeId} {o : Nat} (h : threeK P t a b c o = true) : ∃ f0 f1 f2, (P.fieldsOf t).toList = [f0, f1, f2] ∧ f0.type = a ∧ f1.type = b ∧ f2.type = c ∧ f0.offset = 0 ∧ f1.offset = 32 ∧ f2.offset = o ∧ ¬ f0.name = "_" ∧ ¬ f1.name = "_" ∧ ¬ f2.name = "_" := by
  unfold threeK at h
  split at h
  · next f0 f1 f2 e =>
    simp only [Bool.and_eq_true, beq_iff_eq, bne_iff_ne, ne_eq] at h
    obtain ⟨⟨⟨⟨⟨⟨⟨⟨h1, h2⟩, h3⟩, h4⟩, h5⟩, h6⟩, h7⟩, h8⟩, h9⟩ := h
    exact ⟨f0, f1, f2, e, h1, h2, h3, h4, h5, h6, h7, h8, h9⟩
  · cases h
theorem key_same (a : Bk) (w : World) (d : Nat) (ha : a.length = 32) : (Op.equalIn (d + 2) 23 (.agg (a.map U8).toArray) (.agg (a.map U8).toArray)).run Tryd.prog w = .ok true w := by
  rw [U8_cell, run_equalIn_bytes w d 23 5 32 Tryd.underlying23 Tryd.underlying5 (fun w => sizeOf_run u8s w) _ _ (by simpa using ha) (by simpa using ha)]
  simp
theorem kp_same (k : Kp) (hk : k.ok) (w : World) : (Op.equalIn 10000 57 (.agg (kpc k).toArray) (.agg (kpc k).toArray)).run Tryd.prog w = .ok true w := by
  obtain ⟨f0, f1, f2, hf, t0, t1, t2, o0, o1, o2, b0, b1, b2⟩ := three_get (show threeK Tryd.prog 57 23 3 23 33 = true by kernel_rfl)
  have p0 : ∀ w, (Go.part 23 (kpc k).toArray 0).run Tryd.prog w = .ok (.agg (k.chain.map U8).toArray) w := fun w => by
    have := kpc_chain hk
    rw [List.length_map, hk.c] at this
    simp [Go.part, isAgg_agg k32a, sizeOf_run k32s]
    simpa using this
  have p1 : ∀ w, (Go.part 3 (kpc k).toArray 32).run Tryd.prog w = .ok (N k.num) w := fun w => by
    have := kpc_num hk
    simp [Go.part, isAgg, run_underlying Tryd.underlying3, this]
  have p2 : ∀ w, (Go.part 23 (kpc k).toArray 33).run Tryd.prog w = .ok (.agg (k.key.map U8).toArray) w := fun w => by
    have := kpc_key hk
    rw [List.length_map, hk.k] at this
    simp [Go.part, isAgg_agg k32a, sizeOf_run k32s]
    simpa using this
  have q0 := fun w => key_same k.chain w 9997 hk.c
  have q2 := fun w => key_same k.key w 9997 hk.k
  have q1 := fun w => run_equalIn_int (P := Tryd.prog) w 9998 3 .i64 .i64 (k.num : Int) (k.num : Int) Tryd.underlying3
  rw [show (10000 : Nat) = 9999 + 1 from rfl, run_equalIn_struct w 9999 57 _ _ kpU kpHeld, hf]
  simp [Op.eqFields, t0, t1, t2, o0, o1, o2, b0, b1, b2, p0, p1, p2, q0, q1, q2]
section
variable {n : Nat} {E : Env} {C : World → Prop} {dst : Option Tmp} {t t' ty : TypeId} {pos : String} {aft : Array Edge} {g : Option (Nat × Bool)} {x y : Operand}
theorem OQ.neKp {k : Kp} (hk : k.ok) (hx : ev E x = some (.agg (kpc k).toArray)) (hy : ev E y = some (.agg (kpc k).toArray)) : OQ Tryd.prog n E C ⟨dst, .binOp .neq 57 x y t', ty, pos, aft, g⟩ (.bool false) :=
  OQ.run fun a ha w _ => by
    have h1 := ha.eval hx
    have h2 := ha.eval hy
    have h4 := fun w => run_eqGuard_agg (P := Tryd.prog) (w := w) .neq 57 x y (kpc k).toArray (kpc k).toArray kpGd
    have h5 := fun w => run_neq_struct (P := Tryd.prog) (w := w) 57 (kpc k).toArray (kpc k).toArray
    simp only [execOp, h1, h2, Sem.run_bind, h4, Result.andThen_ok, h5, kp_same k hk]
    rfl
end
/-! ### Same -/
theorem goes_rsames : Goes Tryd.prog 11 := ⟨_, Tryd.func11, rfl, by kernel_rfl⟩
set_option maxHeartbeats 32000000 in
theorem rsame19_any (s : Ses) (ka kb : SlK) (hs : s.ok) (w : World) (hka : ka.ok w) (hkb : kb.ok w) (ea : ka.l = s.kept) (eb : kb.l = s.kept) (hl : s.kept.length < 9223372036854775807) : Calls Tryd.prog 11 [.agg (sec s ka.v).toArray, .agg (sec s kb.v).toArray].toArray w fun e w' => e = .returned (.bool true) ∧ Ext w w' := by
  have l1 : (s.root.map U8).length = 32 := by rw [List.length_map]; exact hs.root
  have l2 : (s.own.map U8).length = 32 := by rw [List.length_map]; exact hs.own
  have l3 : (s.other.map U8).length = 32 := by rw [List.length_map]; exact hs.other
  have l4 : (s.send.map U8).length = 32 := by rw [List.length_map]; exact hs.send
  have l5 : (s.take.map U8).length = 32 := by rw [List.length_map]; exact hs.take
  have ha : ∀ o, Row 26 (sec s ka.v) o → cellAt o 165 = some ka.v := Row.cell (sec_kept hs _)
  have hb : ∀ o, Row 26 (sec s kb.v) o → cellAt o 165 = some kb.v := Row.cell (sec_kept hs _)
  refine enter (n := 101) Tryd.func11 rfl rfl rfl (Holds.start w []) ?_
  repeat (first | refine JC.seq ?_ | refine JC.region ?_)
  refine JL.box (r := sec s ka.v) rfl rfl rfl fun b2 _ => ?_
  refine JL.box (r := sec s kb.v) rfl rfl rfl fun b3 _ => ?_
  repeat (first | refine JL.q (by first | (apply OQ.assign; exact rfl) | (apply OQ.fld; exact rfl; exact rfl; exact rfl; exact (by decide); exact rfl)) rfl ?_ | refine JC.seq ?_ | refine JC.region ?_ | refine JL.nil ?_ | refine JE.next ?_)
  simp only [List.append]
  repeat (first | refine JL.q (by first | (apply OQ.load_agg (cs := s.root.map U8); exact k32a; exact k32s; exact rfl; exact (.there .here); exact l1; exact (Row.cells (sec_root hs _))) | (apply OQ.load_agg (cs := s.root.map U8); exact k32a; exact k32s; exact rfl; exact .here; exact l1; exact (Row.cells (sec_root hs _))) | (apply OQ.neA_f (r := s.root) (q := s.root); exact Tryd.underlying23; exact Tryd.underlying5; exact u8s; exact k32gR; exact rfl; exact rfl; exact hs.root; exact hs.root; exact rfl) | (apply OQ.load_agg (cs := s.own.map U8); exact k32a; exact k32s; exact rfl; exact (.there .here); exact l2; exact (Row.cells (sec_own hs _))) | (apply OQ.load_agg (cs := s.own.map U8); exact k32a; exact k32s; exact rfl; exact .here; exact l2; exact (Row.cells (sec_own hs _))) | (apply OQ.neA_f (r := s.own) (q := s.own); exact Tryd.underlying23; exact Tryd.underlying5; exact u8s; exact k32gR; exact rfl; exact rfl; exact hs.own; exact hs.own; exact rfl) | (apply OQ.load_agg (cs := s.other.map U8); exact k32a; exact k32s; exact rfl; exact (.there .here); exact l3; exact (Row.cells (sec_other hs _))) | (apply OQ.load_agg (cs := s.other.map U8); exact k32a; exact k32s; exact rfl; exact .here; exact l3; exact (Row.cells (sec_other hs _))) | (apply OQ.neA_f (r := s.other) (q := s.other); exact Tryd.underlying23; exact Tryd.underlying5; exact u8s; exact k32gR; exact rfl; exact rfl; exact hs.other; exact hs.other; exact rfl) | (apply OQ.load_agg (cs := s.send.map U8); exact k32a; exact k32s; exact rfl; exact (.there .here); exact l4; exact (Row.cells (sec_send hs _))) | (apply OQ.load_agg (cs := s.send.map U8); exact k32a; exact k32s; exact rfl; exact .here; exact l4; exact (Row.cells (sec_send hs _))) | (apply OQ.neA_f (r := s.send) (q := s.send); exact Tryd.underlying23; exact Tryd.underlying5; exact u8s; exact k32gR; exact rfl; exact rfl; exact hs.send; exact hs.send; exact rfl) | (apply OQ.load_agg (cs := s.take.map U8); exact k32a; exact k32s; exact rfl; exact (.there .here); exact l5; exact (Row.cells (sec_take hs _))) | (apply OQ.load_agg (cs := s.take.map U8); exact k32a; exact k32s; exact rfl; exact .here; exact l5; exact (Row.cells (sec_take hs _))) | (apply OQ.neA_f (r := s.take) (q := s.take); exact Tryd.underlying23; exact Tryd.underlying5; exact u8s; exact k32gR; exact rfl; exact rfl; exact hs.take; exact hs.take; exact rfl) | (apply OQ.load; exact boolCr; exact rfl; exact (.there .here); exact (Row.cell (sec_sends hs _))) | (apply OQ.load; exact boolCr; exact rfl; exact .here; exact (Row.cell (sec_sends hs _))) | (apply OQ.load; exact boolCr; exact rfl; exact (.there .here); exact (Row.cell (sec_takes hs _))) | (apply OQ.load; exact boolCr; exact rfl; exact .here; exact (Row.cell (sec_takes hs _))) | (apply OQ.neb_f; exact Tryd.underlying4; exact rfl; exact rfl) | (apply OQ.load; exact intCr; exact rfl; exact (.there .here); exact (Row.cell (sec_sent hs _))) | (apply OQ.load; exact intCr; exact rfl; exact .here; exact (Row.cell (sec_sent hs _))) | (apply OQ.load; exact intCr; exact rfl; exact (.there .here); exact (Row.cell (sec_taken hs _))) | (apply OQ.load; exact intCr; exact rfl; exact .here; exact (Row.cell (sec_taken hs _))) | (apply OQ.load; exact intCr; exact rfl; exact (.there .here); exact (Row.cell (sec_prev hs _))) | (apply OQ.load; exact intCr; exact rfl; exact .here; exact (Row.cell (sec_prev hs _))) | (apply OQ.nei_f; exact rfl; exact rfl; exact rfl) | (apply OQ.load; exact slkC; exact rfl; exact (.there .here); exact ha) | (apply OQ.load; exact slkC; exact rfl; exact .here; exact hb) | (apply OQ.len (k := ka.l.length) (ad := ka.ad) (cap := ka.cap); exact Tryd.underlying24; exact rfl) | (apply OQ.len (k := kb.l.length) (ad := kb.ad) (cap := kb.cap); exact Tryd.underlying24; exact rfl) | (apply OQ.nei_f (a := ((ka.l.length : Nat) : Int)) (b := ((kb.l.length : Nat) : Int)); exact rfl; exact rfl; exact (by rw [ea, eb])) | (apply OQ.pick_f; exact rfl; exact rfl) | (apply OQ.move; exact rfl) | (apply OQ.fld; exact rfl; exact rfl; exact rfl; exact (by decide); exact rfl)) rfl ?_ | refine JL.nil ?_ | refine JE.next ?_ | refine JL.gon rfl rfl ?_)
  refine JC.cond_false rfl rfl ?_
  repeat (first | refine JL.q (by (apply OQ.assign; exact rfl)) rfl ?_ | refine JC.seq ?_ | refine JC.region ?_ | refine JC.block ?_ | refine JC.skip ?_ | refine JL.nil ?_ | refine JE.next ?_)
  refine JC.loop (fun i : Nat => [(2, Pt b2 0), (3, Pt b3 0), (5, N i)]) (fun _ => [⟨b3, Row 26 (sec s kb.v), true⟩, ⟨b2, Row 26 (sec s ka.v), true⟩]) (fun i => s.kept.length - i) (fun i => i ≤ s.kept.length) 0 (Nat.zero_le _) (by repeat (first | exact SubE.nil | refine SubE.cons _ _ _ rfl ?_)) (Less.refl _) ?_
  intro i hi
  rw [← ea] at hi
  repeat (first | refine JL.q (by first | (apply OQ.load; exact slkC; exact rfl; exact (.there .here); exact ha) | (apply OQ.len (k := ka.l.length) (ad := ka.ad) (cap := ka.cap); exact Tryd.underlying24; exact rfl) | (apply OQ.lssN (a := i) (b := ka.l.length); exact rfl; exact rfl) | (apply OQ.move; exact rfl) | (apply OQ.fld; exact rfl; exact rfl; exact rfl; exact (by decide); exact rfl)) rfl ?_ | refine JC.seq ?_ | refine JC.region ?_ | refine JL.nil ?_ | refine JE.next ?_)
  refine JC.cond rfl (fun hc => ?_) (fun hc => ?_)
  · have hi' : i < ka.l.length := of_decide_eq_true hc
    clear hc
    have hi2 : i < kb.l.length := by rw [eb, ← ea]; exact hi'
    obtain ⟨ba, ja, eA, la, cA⟩ := hka.at hi'
    obtain ⟨bb, jb, eB, lb, cB⟩ := hkb.at hi2
    have hok := hka.all _ (SlK.mem hi')
    have hkk : kb.l.getD i noK = ka.l.getD i noK := by rw [ea, eb]
    rw [hkk] at cB
    have vA : ka.v = .slice (some ⟨ba, ja, none⟩) ka.l.length ka.cap := by rw [← eA]; rfl
    have vB : kb.v = .slice (some ⟨bb, jb, none⟩) kb.l.length kb.cap := by rw [← eB]; rfl
    generalize ka.l.getD i noK = c at cA cB hok
    have hl65 := kpc_len hok
    have ha2 := ha
    have hb2 := hb
    rw [vA] at ha2
    rw [vB] at hb2
    have ha3 : ∀ o, Row 26 (sec s ka.v) o → cellAt o 165 = some (.slice (some ⟨ba, ja, none⟩) ka.l.length ka.cap) := by rw [vA]; exact ha2
    have hb3 : ∀ o, Row 26 (sec s kb.v) o → cellAt o 165 = some (.slice (some ⟨bb, jb, none⟩) kb.l.length kb.cap) := by rw [vB]; exact hb2
    repeat (first | refine JC.seq ?_ | refine JC.block ?_ | refine JC.skip ?_ | refine JE.next ?_)
    refine JC.quiet mixT (by kernel_rfl) ?_
    repeat (first | refine JQ.q (by first | (apply OQ.load; exact slkC; exact rfl; exact (.there .here); exact ha3) | (apply OQ.load; exact slkC; exact rfl; exact .here; exact hb3) | (apply OQ.idxS (i := i) (len := ka.l.length) (cap := ka.cap) (b := ba) (j := ja); exact Tryd.underlying24; exact kpS; exact rfl; exact rfl; exact hi') | (apply OQ.idxS (i := i) (len := kb.l.length) (cap := kb.cap) (b := bb) (j := jb); exact Tryd.underlying24; exact kpS; exact rfl; exact rfl; exact hi2) | (apply OQ.load_agg_old (cs := kpc c); exact kpA; exact rfl; exact (hl65 ▸ kpS); exact la; exact (by simp); exact cA) | (apply OQ.load_agg_old (cs := kpc c); exact kpA; exact rfl; exact (hl65 ▸ kpS); exact lb; exact (by simp); exact cB) | (apply OQ.neKp; exact hok; exact rfl; exact rfl) | (apply OQ.move; exact rfl) | (apply OQ.fld; exact rfl; exact rfl; exact rfl; exact (by decide); exact rfl)) rfl ?_ | refine JQ.nil ?_ | refine JE.next ?_)
    refine JC.cond_false rfl rfl ?_
    repeat (first | refine JL.q (by first | (apply OQ.addN (a := i) (b := 1); exact rfl; exact rfl; exact (by rw [ea] at hi'; omega)) | (apply OQ.move; exact rfl) | (apply OQ.assign; exact rfl)) rfl ?_ | refine JC.region ?_ | refine JC.skip ?_ | refine JL.nil ?_ | refine JE.next ?_ | refine JE.blk_normal ?_)
    exact JE.again (i := i) (i + 1) (by rw [ea] at hi'; exact hi') (by rw [ea] at hi'; omega) (by repeat (first | exact SubE.nil | refine SubE.cons _ _ _ rfl ?_)) (Less.refl _)
  · repeat (first | refine JL.q (by (apply OQ.assign; exact rfl)) rfl ?_ | refine JC.seq ?_ | refine JC.region ?_ | refine JC.exit ?_ | refine JL.nil ?_ | refine JE.next ?_ | refine JE.then_exit ?_ | refine JE.blk_hit ?_)
    refine JC.ret ?_
    skip
    exact JE.ret1 rfl (RV.tmp rfl) fun w' hw => ⟨rfl, hw.chg⟩
end Go.Proofs.YtbhlcnimjoppeaaDoor

/-
  Of no statement by itself: what the reference's join, number, Header, Turn and First of layer 19 give.
  Conditions: each theorem's own.
-/
namespace Go.Proofs.YtbhlcnimjoppeaaDoor
set_option maxRecDepth 10000
open Sl Sha Str Crv Rtc
open Dsk (Bk)
/-! ### join -/
theorem goes_join : Goes Tryd.prog 32 := ⟨_, Tryd.func32, rfl, by kernel_rfl⟩
set_option maxHeartbeats 4000000 in
theorem join_any (a b : Sl8) (w : World) (ha : a.ok w) (hb : b.ok w) (hl : a.l.length + b.l.length ≤ 1000000000) :
    Calls Tryd.prog 32 [a.v, b.v].toArray w fun e w' => ∃ x : Nat × Nat, e = .returned (.slice (some ⟨x.1, 0, none⟩) (a.l ++ b.l).length x.2) ∧ Holds w [] [⟨x.1, Sl.Own 5 1 (a.l ++ b.l).length x.2 ((a.l ++ b.l).map U8), true⟩] w' := by
  refine enter (n := 12) Tryd.func32 rfl rfl rfl (Holds.start w []) ?_
  repeat (first | refine JL.q (by (apply OQ.assign; exact rfl)) rfl ?_ | refine JC.seq ?_ | refine JC.region ?_ | refine JL.nil ?_ | refine JE.next ?_)
  refine JL.lit0O Tryd.underlying27 u8e rfl fun b6 _ => ?_
  repeat (refine JL.q (by (apply OQ.move; exact rfl)) rfl ?_)
  refine JL.append (cs := a.l.map U8) (m := a.l.length) (ad := a.ad) (sc := a.cap) (fun b' cap' => [⟨b', Sl.Own 5 1 (0 + a.l.length) cap' ([] ++ a.l.map U8), true⟩]) Tryd.underlying27 u8e rfl rfl (by intro _ _; repeat (first | exact Repl.here | apply Repl.there)) (by rw [List.length_map, Nat.mul_one]) (fun w' hw' => (ha.holds hw' rfl).reads) (fun v hv => by obtain ⟨q, _, rfl⟩ := List.mem_map.1 hv; rfl) rfl (by decide) (by omega) (by omega) rfl fun b7 c7 => ?_
  rw [Nat.zero_add, List.nil_append]
  repeat (first | refine JL.q (by first | (apply OQ.move; exact rfl) | (apply OQ.assign; exact rfl)) rfl ?_ | refine JC.seq ?_ | refine JC.region ?_ | refine JL.nil ?_ | refine JE.next ?_)
  refine JL.append (cs := b.l.map U8) (m := b.l.length) (ad := b.ad) (sc := b.cap) (fun b' cap' => [⟨b', Sl.Own 5 1 (a.l.length + b.l.length) cap' (a.l.map U8 ++ b.l.map U8), true⟩]) Tryd.underlying27 u8e rfl rfl (by intro _ _; repeat (first | exact Repl.here | apply Repl.there)) (by rw [List.length_map, Nat.mul_one]) (fun w' hw' => (hb.holds hw' rfl).reads) (fun v hv => by obtain ⟨q, _, rfl⟩ := List.mem_map.1 hv; rfl) rfl (by decide) (by omega) (by omega) rfl fun b8 c8 => ?_
  rw [← List.map_append, ← List.length_append]
  repeat (first | refine JL.q (by (apply OQ.assign; exact rfl)) rfl ?_ | refine JL.nil ?_ | refine JE.next ?_)
  exact JC.ret (JE.ret1 rfl (RV.tmp rfl) fun w' hw => ⟨(b8, c8), rfl, hw⟩)
/-! ### number, Header -/
theorem b4_bytes (n : Nat) (h : n < 18446744073709551616) : b4 n = [BitVec.ofNat 8 (n / 16777216), BitVec.ofNat 8 (n / 65536), BitVec.ofNat 8 (n / 256), BitVec.ofNat 8 n] := by
  have e : ∀ k m, m = 2 ^ k → ((BitVec.ofNat 64 n) >>> k).setWidth 8 = BitVec.ofNat 8 (n / m) := fun k m hm => by
    apply BitVec.eq_of_toNat_eq
    rw [BitVec.toNat_setWidth, BitVec.toNat_ushiftRight, BitVec.toNat_ofNat, BitVec.toNat_ofNat, Nat.mod_eq_of_lt h, Nat.shiftRight_eq_div_pow, hm]
  have h0 := e 24 16777216 rfl
  have h1 := e 16 65536 rfl
  have h2 := e 8 256 rfl
  have h3 := e 0 1 rfl
  rw [Nat.div_one] at h3
  show [((BitVec.ofNat 64 n) >>> 24).setWidth 8, ((BitVec.ofNat 64 n) >>> 16).setWidth 8, ((BitVec.ofNat 64 n) >>> 8).setWidth 8, ((BitVec.ofNat 64 n) >>> 0).setWidth 8] = _
  rw [h0, h1, h2, h3]
theorem goes_rnum : Goes Tryd.prog 40 := ⟨_, Tryd.func40, rfl, by kernel_rfl⟩
set_option maxHeartbeats 4000000 in
theorem rnum_any (r : Nat × Nat) (xs : Bk) (m : Nat) (hl : xs.length ≤ 70000000000) (hm : m < 9223372036854775808) (w : World) (hw : Holds w (keys (accE 5 (some r) (xs.map U8))) (accE 5 (some r) (xs.map U8)) w) :
    Calls Tryd.prog 40 [accV (some r) xs.length, N m].toArray w fun e w' => ∃ r' : Nat × Nat, e = .returned (accV (some r') (xs ++ b4 m).length) ∧ Holds w (keys (accE 5 (some r) (xs.map U8))) (accE 5 (some r') ((xs ++ b4 m).map U8)) w' := by
  have hb := b4_bytes m (by omega)
  have hb4 := b4_len m
  generalize hS : keys (accE 5 (some r) (xs.map U8)) = S at hw ⊢
  refine enter (n := 19) Tryd.func40 rfl rfl rfl hw ?_
  repeat (first | refine JL.q (by first | (apply OQ.quoN (a := m) (b := 16777216); exact rfl; exact rfl; exact (by decide); exact (by omega)) | (apply OQ.quoN (a := m) (b := 65536); exact rfl; exact rfl; exact (by decide); exact (by omega)) | (apply OQ.quoN (a := m) (b := 256); exact rfl; exact rfl; exact (by decide); exact (by omega)) | (apply OQ.convN_8; exact Tryd.underlying3; exact Tryd.underlying5; exact rfl) | (apply OQ.move; exact rfl) | (apply OQ.assign; exact rfl)) rfl ?_ | refine JC.seq ?_ | refine JC.region ?_ | refine JL.nil ?_ | refine JE.next ?_)
  refine JL.litL (xs := [.tmp 8, .tmp 11, .tmp 14, .tmp 16]) (vs := (b4 m).map U8) Tryd.underlying27 u8e rfl rfl (by rw [hb]; rfl) (all8 _) (by intro v hv; obtain ⟨q, _, rfl⟩ := List.mem_map.1 hv; rfl) (by rw [List.length_map, hb4]) (by decide) (by decide) rfl fun bl _ => ?_
  refine JL.append (b := r.1) (cap := r.2) (k := xs.length) (xs := xs.map U8) (cs := (b4 m).map U8) (m := 4) (fun b' cap' => [⟨bl, Row 5 ((b4 m).map U8), true⟩, ⟨b', Sl.Own 5 1 (xs.length + 4) cap' (xs.map U8 ++ (b4 m).map U8), true⟩]) Tryd.underlying27 u8e rfl rfl (fun b' cap' => ?_) (by rw [List.length_map, hb4]) (fun w' hw' => ?_) (fun v hv => by obtain ⟨q, _, rfl⟩ := List.mem_map.1 hv; rfl) rfl (by decide) (by omega) (by omega) rfl fun b' cap' => ?_
  · show Repl (_ :: [⟨r.1, Sl.Own 5 1 (xs.map U8).length r.2 (xs.map U8), true⟩]) _ _ _ _ _
    rw [List.length_map]
    exact .there .here
  · obtain ⟨o, ho, hA⟩ := hw'.get .here
    exact Reads.block ho (Row.all _ hA)
  repeat (first | refine JL.q (by (apply OQ.assign; exact rfl)) rfl ?_ | refine JL.nil ?_ | refine JE.next ?_)
  refine JC.ret (JE.ret1 rfl (RV.tmp rfl) fun w' hw => ⟨(b', cap'), by rw [List.length_append, hb4]; rfl, ?_⟩)
  show Holds w S [⟨b', Sl.Own 5 1 ((xs ++ b4 m).map U8).length cap' ((xs ++ b4 m).map U8), true⟩] w'
  rw [List.length_map, List.length_append, hb4, List.map_append]
  exact hw.weak (.drop _ _ _ (Less.refl _))
theorem JL.rnum {n : Nat} {w0 : World} {S : List Nat} {ops : Array Oper} {Q : Exit → Act → World → Prop} {l : List Oper} {E : Env} {M : List Ent} {d : Nat} {ty : TypeId} {pos : String} {aft : Array Edge} {x1 x2 : Operand} {ats : Array TypeId} {q : Nat × Nat} {xs : Bk} {m : Nat} (hl : xs.length ≤ 70000000000) (hm : m < 9223372036854775808) (e1 : ev E x1 = some (accV (some q) xs.length)) (e2 : ev E x2 = some (N m)) (hd : Nat.blt d n = true)
    (kk : ∀ r : Nat × Nat, JL Tryd.prog n w0 S ops Q l ((d, accV (some r) (xs ++ b4 m).length) :: E) (accE 5 (some r) ((xs ++ b4 m).map U8) ++ M)) : JL Tryd.prog n w0 S ops Q (⟨some d, .call ⟨.value (.func 40), #[x1, x2], ats⟩, ty, pos, aft, none⟩ :: l) E (accE 5 (some q) (xs.map U8) ++ M) :=
  JL.callW (ι := Nat × Nat) (xs := [x1, x2]) (vs := [accV (some q) xs.length, N m]) (fun r => accV (some r) (xs ++ b4 m).length) (fun r => accE 5 (some r) ((xs ++ b4 m).map U8)) goes_rnum (by simp [evs, e1, e2]) hd (accE_wr _ _ _) (fun _ => accE_wr _ _ _)
    (fun w hw => rnum_any q xs m hl hm w (hw.weak (less_pre _ _))) kk
theorem accPre (r : Nat × Nat) (xs : List Value) (M : List Ent) : (accE 5 (some r) xs ++ []) ++ M = accE 5 (some r) xs ++ M := by rw [List.append_nil]
theorem goes_rhdr : Goes Tryd.prog 29 := ⟨_, Tryd.func29, rfl, by kernel_rfl⟩
set_option maxHeartbeats 8000000 in
theorem rhdr_any (h : Hd) (hl : h.chain.length = 32) (h1 : h.prev < 9223372036854775808) (h2 : h.num < 9223372036854775808) (w : World) :
    Calls Tryd.prog 29 [.agg (hdc h).toArray].toArray w fun e w' => ∃ x : Nat × Nat, e = .returned (.slice (some ⟨x.1, 0, none⟩) 40 x.2) ∧ Holds w [] [⟨x.1, Sl.Own 5 1 40 x.2 ((hdB h).map U8), true⟩] w' := by
  have hL := hdB_len hl
  have hcl : (h.chain.map U8).length = 32 := by rw [List.length_map]; exact hl
  refine enter (n := 15) Tryd.func29 rfl rfl rfl (Holds.start w []) ?_
  repeat (first | refine JC.seq ?_ | refine JC.region ?_)
  refine JL.box (r := hdc h) rfl rfl rfl fun b1 _ => ?_
  repeat (first | refine JL.q (by (apply OQ.assign; exact rfl)) rfl ?_ | refine JC.seq ?_ | refine JC.region ?_ | refine JL.nil ?_ | refine JE.next ?_)
  refine JL.lit0O Tryd.underlying27 u8e rfl fun b4' _ => ?_
  repeat (refine JL.q (by first | (apply OQ.slA; exact Tryd.underlying23; exact u8s; exact rfl) | (apply OQ.fld; exact rfl; exact rfl; exact rfl; exact (by decide); exact rfl)) rfl ?_)
  refine JL.append (cs := h.chain.map U8) (m := 32) (fun b' cap' => [⟨b', Sl.Own 5 1 (0 + 32) cap' ([] ++ h.chain.map U8), true⟩, ⟨b1, Row 62 (hdc h), true⟩]) Tryd.underlying27 u8e rfl rfl (by intro _ _; repeat (first | exact Repl.here | apply Repl.there)) hcl (fun w' hw' => ?_) (fun v hv => List.all_eq_true.1 (all8 h.chain) v hv) rfl (by decide) (by decide) (by decide) rfl fun bx cx => ?_
  · obtain ⟨o, ho, hA⟩ := hw'.get (.there .here)
    exact Reads.block ho (Row.cells (hdc_chain hl) _ hA)
  rw [List.nil_append, Nat.zero_add]
  have hp : ∀ o, Row 62 (hdc h) o → cellAt o 32 = some (N h.prev) := Row.cell (hdc_prev hl)
  have hn : ∀ o, Row 62 (hdc h) o → cellAt o 33 = some (N h.num) := Row.cell (hdc_num hl)
  have hb4 : (h.chain ++ b4 h.prev).length ≤ 70000000000 := by rw [List.length_append, b4_len]; omega
  have ev1 : Value.slice (some ⟨bx, 0, none⟩) 32 cx = accV (some (bx, cx)) h.chain.length := by rw [hl]; rfl
  rw [ev1]
  refine JL.lessS (M' := accE 5 (some (bx, cx)) (h.chain.map U8) ++ [⟨b1, Row 62 (hdc h), true⟩]) (.keep _ _ _ _ _ _ (fun o ho => by dsimp only; rw [hcl]; exact ho) (Less.refl _)) ?_
  repeat (first | refine JL.q (by (apply OQ.assign; exact rfl)) rfl ?_ | refine JC.seq ?_ | refine JL.nil ?_ | refine JE.next ?_)
  let vs : Nat → (Nat × Nat) → Value := fun j y => match j with
    | 0 => accV (some (bx, cx)) h.chain.length
    | 1 => Pt b1 32
    | 2 => N h.prev
    | 3 => accV (some y) (h.chain ++ b4 h.prev).length
    | 4 => Pt b1 33
    | 5 => N h.num
    | 6 => accV (some y) (h.chain ++ b4 h.prev ++ b4 h.num).length
    | 7 => accV (some y) (h.chain ++ b4 h.prev ++ b4 h.num).length
    | _ => N 0
  let Ms : Nat → (Nat × Nat) → List Ent := fun j y => match j with
    | 3 => accE 5 (some y) ((h.chain ++ b4 h.prev).map U8)
    | 6 => accE 5 (some y) ((h.chain ++ b4 h.prev ++ b4 h.num).map U8)
    | 8 => accE 5 (some (bx, cx)) (h.chain.map U8)
    | 9 => [⟨b1, Row 62 (hdc h), true⟩]
    | _ => []
  refine JC.grow (g := ⟨[(1, Pt b1 0), (3, accV (some (bx, cx)) h.chain.length)], 10, vs, Ms, (fun j => match j with | 2 => [(1, 9)] | 3 => [(0, 8), (2, 10)] | 5 => [(4, 12)] | 6 => [(3, 11), (5, 13)] | 7 => [(6, 14)] | _ => []), (fun j => match j with | 2 => [9] | 3 => [8] | 5 => [9] | 6 => [3] | _ => []), (fun j => match j with | 3 => [8] | 6 => [3] | _ => []), (fun j => match j with | 7 => some 6 | _ => none)⟩) [(7, 2)] [6] mixT (by repeat (first | exact SubE.nil | refine SubE.cons _ _ _ rfl ?_)) ?_ (by kernel_rfl) (by kernel_rfl) (by kernel_rfl) ?_ ?_
  · exact Less.refl _
  · refine ⟨?_, ?_, ?_, ?_, ?_, ?_, ?_, ?_, trivial⟩
    · (intro xx EF MF Q kk; (try refine JL.gon rfl rfl ?_); exact JL.q (OQ.move rfl) rfl (JL.nil (kk default nofun)))
    · (intro xx EF MF Q kk; (try refine JL.gon rfl rfl ?_); exact JL.q (OQ.fld rfl rfl rfl (by decide) rfl) rfl (JL.nil (kk default nofun)))
    · (intro xx EF MF Q kk; (try refine JL.gon rfl rfl ?_); exact JL.q (OQ.load intCr rfl .here hp) rfl (JL.nil (kk default nofun)))
    · (intro xx EF MF Q kk; refine JL.permS (M' := accE 5 (some (bx, cx)) (h.chain.map U8) ++ MF) (List.Perm.of_eq (accPre _ _ _)) ?_; exact JL.rnum (by omega) h1 rfl rfl rfl fun r => JL.nil (kk r nofun))
    · (intro xx EF MF Q kk; (try refine JL.gon rfl rfl ?_); exact JL.q (OQ.fld rfl rfl rfl (by decide) rfl) rfl (JL.nil (kk default nofun)))
    · (intro xx EF MF Q kk; (try refine JL.gon rfl rfl ?_); exact JL.q (OQ.load intCr rfl .here hn) rfl (JL.nil (kk default nofun)))
    · (intro xx EF MF Q kk; refine JL.permS (M' := accE 5 (some (xx 3)) ((h.chain ++ b4 h.prev).map U8) ++ MF) (List.Perm.of_eq (accPre _ _ _)) ?_; exact JL.rnum hb4 h2 rfl rfl rfl fun r => JL.nil (kk r nofun))
    · (intro xx EF MF Q kk; (try refine JL.gon rfl rfl ?_); exact JL.q (OQ.assign rfl) rfl (JL.nil (kk (xx 6) (fun k h => by cases h; rfl))))
  · intro xx hx
    have e1 := hx 7 6 (by decide) rfl
    have e2 : h.chain ++ b4 h.prev ++ b4 h.num = hdB h := rfl
    show JE _ _ _ _ _ [(2, accV (some (xx 7)) (h.chain ++ b4 h.prev ++ b4 h.num).length), (1, Pt b1 0), (3, accV (some (bx, cx)) h.chain.length)] (accE 5 (some (xx 6)) ((h.chain ++ b4 h.prev ++ b4 h.num).map U8) ++ [])
    rw [e1, List.append_nil, e2]
    generalize xx 6 = r
    clear hx e1 xx vs Ms
    repeat (refine JE.next ?_)
    refine JC.ret (JE.ret1 rfl (RV.tmp rfl) fun w' hw => ⟨r, by rw [hL]; rfl, hw.weak (.keep _ _ _ _ _ _ (fun o ho => ?_) (.nil _))⟩)
    rw [List.length_map, hL] at ho
    exact ho
/-! ### Turn, First -/
theorem goes_rtrn : Goes Tryd.prog 36 := ⟨_, Tryd.func36, rfl, by kernel_rfl⟩
set_option maxHeartbeats 8000000 in
theorem rtrn_any (root sh : Bk) (h1 : root.length = 32) (h2 : sh.length = 32) (w : World) :
    Calls Tryd.prog 36 [.agg (root.map U8).toArray, .agg (sh.map U8).toArray].toArray w fun e w' => e = .returned (.tuple #[.agg ((turnA root sh).map U8).toArray, .agg ((turnC root sh).map U8).toArray]) ∧ Ext w w' := by
  have hk : ∀ (b1 b2 : Nat) (w : World), Sl8.ok w ⟨some ⟨b1, 0, none⟩, 32, root⟩ → Sl8.ok w ⟨some ⟨b2, 0, none⟩, 32, sh⟩ → Calls Tryd.prog 60 [.slice (some ⟨b1, 0, none⟩) 32 32, .slice (some ⟨b2, 0, none⟩) 32 32, .string ratB, N 2].toArray w fun e w' => ∃ x : Nat × Nat, e = .returned (.slice (some ⟨x.1, 0, none⟩) 2 x.2) ∧ Holds w [] [⟨x.1, Sl.Own 23 32 2 x.2 ((turnB root sh).map U8), true⟩] w' := fun b1 b2 w ho1 ho2 => by
    have := rkeys_any ⟨some ⟨b1, 0, none⟩, 32, root⟩ ⟨some ⟨b2, 0, none⟩, 32, sh⟩ ratB 2 (by decide) w ho1 ho2 (by rw [h1]; decide) (by rw [h2]; decide) (by decide)
    rwa [show Sl8.v ⟨some ⟨b1, 0, none⟩, 32, root⟩ = .slice (some ⟨b1, 0, none⟩) 32 32 by simp [Sl8.v, h1], show Sl8.v ⟨some ⟨b2, 0, none⟩, 32, sh⟩ = .slice (some ⟨b2, 0, none⟩) 32 32 by simp [Sl8.v, h2]] at this
  have hlT := turnB_len root sh
  have hlA : ((turnA root sh).map U8).length = 32 := by rw [List.length_map]; exact turnA_len _ _
  have hlC : ((turnC root sh).map U8).length = 32 := by rw [List.length_map]; exact turnC_len _ _
  have r0 : (((turnB root sh).map U8).drop (0 + 0 * 32)).take ((turnA root sh).map U8).length = (turnA root sh).map U8 := row2 hlT
  have r1 : (((turnB root sh).map U8).drop (0 + 1 * 32)).take ((turnC root sh).map U8).length = (turnC root sh).map U8 := row2b hlT
  generalize turnA root sh = tA at *
  generalize turnC root sh = tC at *
  generalize turnB root sh = tB at *
  have hlB : (tB.map U8).length = 64 := by rw [List.length_map]; exact hlT
  refine enter (n := 16) Tryd.func36 rfl rfl rfl (Holds.start w []) ?_
  repeat (first | refine JC.seq ?_ | refine JC.region ?_)
  refine JL.box (r := root.map U8) rfl rfl rfl fun b2 _ => ?_
  refine JL.box (r := sh.map U8) rfl rfl rfl fun b3 _ => ?_
  refine JL.alloc k32z rfl fun b4 _ => ?_
  refine JL.alloc k32z rfl fun b5 _ => ?_
  repeat (first | refine JC.seq ?_ | refine JL.nil ?_ | refine JE.next ?_)
  let vs : Nat → (Nat × Nat) → Value := fun j y => match j with
    | 0 => .slice (some ⟨b2, 0, none⟩) 32 32
    | 1 => .slice (some ⟨b3, 0, none⟩) 32 32
    | 2 => .slice (some ⟨y.1, 0, none⟩) 2 y.2
    | 3 => .slice (some ⟨y.1, 0, none⟩) 2 y.2
    | _ => N 0
  let Ms : Nat → (Nat × Nat) → List Ent := fun j y => match j with
    | 2 => [⟨y.1, Sl.Own 23 32 2 y.2 (tB.map U8), true⟩]
    | 4 => [⟨b5, Row 23 ((List.replicate 32 (0 : B)).map U8), true⟩]
    | 5 => [⟨b4, Row 23 ((List.replicate 32 (0 : B)).map U8), true⟩]
    | 6 => [⟨b3, Row 23 (sh.map U8), true⟩]
    | 7 => [⟨b2, Row 23 (root.map U8), true⟩]
    | _ => []
  refine JC.grow (g := ⟨[(2, Pt b2 0), (3, Pt b3 0), (4, Pt b4 0), (5, Pt b5 0)], 8, vs, Ms, (fun j => match j with | 2 => [(0, 7), (1, 8)] | 3 => [(2, 9)] | _ => []), (fun j => match j with | 2 => [7, 6] | _ => []), (fun j => match j with | _ => []), (fun j => match j with | 3 => some 2 | _ => none)⟩) [(3, 6)] [2, 5, 4] mixT (by repeat (first | exact SubE.nil | refine SubE.cons _ _ _ rfl ?_)) ?_ (by kernel_rfl) (by kernel_rfl) (by kernel_rfl) ?_ ?_
  · exact Less.refl _
  · refine ⟨?_, ?_, ?_, ?_, trivial⟩
    · (intro xx EF MF Q kk; (try refine JL.gon rfl rfl ?_); exact JL.q (OQ.slA Tryd.underlying23 u8s rfl) rfl (JL.nil (kk default nofun)))
    · (intro xx EF MF Q kk; (try refine JL.gon rfl rfl ?_); exact JL.q (OQ.slA Tryd.underlying23 u8s rfl) rfl (JL.nil (kk default nofun)))
    · (intro xx EF MF Q kk; exact JL.callg (ι := Nat × Nat) (vs := [.slice (some ⟨b2, 0, none⟩) 32 32, .slice (some ⟨b3, 0, none⟩) 32 32, .string ratB, N 2]) (fun x => .slice (some ⟨x.1, 0, none⟩) 2 x.2) (fun x => [⟨x.1, Sl.Own 23 32 2 x.2 (tB.map U8), true⟩]) goes_rkeys rfl rfl (fun i => by simp) (fun w' hw' => hk b2 b3 w' (row_ok hw' .here rfl (Nat.le_of_eq h1)) (row_ok hw' (.there .here) rfl (Nat.le_of_eq h2))) fun b => JL.nil (kk b nofun))
    · (intro xx EF MF Q kk; (try refine JL.gon rfl rfl ?_); exact JL.q (OQ.assign rfl) rfl (JL.nil (kk (xx 2) (fun k h => by cases h; rfl))))
  · intro xx hx
    have e1 := hx 3 2 (by decide) rfl
    show JE _ _ _ _ _ [(6, .slice (some ⟨(xx 3).1, 0, none⟩) 2 (xx 3).2), (2, Pt b2 0), (3, Pt b3 0), (4, Pt b4 0), (5, Pt b5 0)] [⟨(xx 2).1, Sl.Own 23 32 2 (xx 2).2 (tB.map U8), true⟩, ⟨b4, Row 23 ((List.replicate 32 (0 : B)).map U8), true⟩, ⟨b5, Row 23 ((List.replicate 32 (0 : B)).map U8), true⟩]
    rw [e1]
    generalize xx 2 = xk
    obtain ⟨bk, ck⟩ := xk
    try dsimp only
    clear hx e1 xx vs Ms
    repeat (first | refine JC.seq ?_ | refine JE.next ?_)
    let vs : Nat → Nat → Value := fun j y => match j with
      | 0 => .slice (some ⟨bk, 0, none⟩) 2 ck
      | 1 => Pt bk 0
      | 2 => .agg (tA.map U8).toArray
      | 3 => .slice (some ⟨bk, 0, none⟩) 2 ck
      | 4 => Pt bk (0 + 1 * 32)
      | 5 => .agg (tC.map U8).toArray
      | _ => N 0
    let Ms : Nat → Nat → List Ent := fun j y => match j with
      | 6 => [⟨b4, Row 23 (tA.map U8), true⟩]
      | 7 => [⟨b5, Row 23 (tC.map U8), true⟩]
      | 8 => [⟨bk, Sl.Own 23 32 2 ck (tB.map U8), true⟩]
      | 9 => [⟨b4, Row 23 ((List.replicate 32 (0 : B)).map U8), true⟩]
      | 10 => [⟨b5, Row 23 ((List.replicate 32 (0 : B)).map U8), true⟩]
      | _ => []
    refine JC.grow (g := ⟨[(4, Pt b4 0), (5, Pt b5 0), (6, .slice (some ⟨bk, 0, none⟩) 2 ck)], 11, vs, Ms, (fun j => match j with | 1 => [(0, 10)] | 2 => [(1, 11)] | 4 => [(3, 13)] | 5 => [(4, 14)] | 6 => [(2, 12)] | 7 => [(5, 15)] | _ => []), (fun j => match j with | 2 => [8] | 5 => [8] | 6 => [9] | 7 => [10] | _ => []), (fun j => match j with | 6 => [9] | 7 => [10] | _ => []), (fun j => match j with | _ => none)⟩) [] [6, 7] mixT (by repeat (first | exact SubE.nil | refine SubE.cons _ _ _ rfl ?_)) ?_ (by kernel_rfl) (by kernel_rfl) (by kernel_rfl) ?_ ?_
    · exact Less.refl _
    · refine ⟨?_, ?_, ?_, ?_, ?_, ?_, ?_, ?_, trivial⟩
      · (intro xx EF MF Q kk; (try refine JL.gon rfl rfl ?_); exact JL.q (OQ.move rfl) rfl (JL.nil (kk default nofun)))
      · (intro xx EF MF Q kk; (try refine JL.gon rfl rfl ?_); exact JL.q (OQ.idxS (sz := 32) (i := 0) Tryd.underlying96 k32s rfl rfl (by decide)) rfl (JL.nil (kk default nofun)))
      · (intro xx EF MF Q kk; (try refine JL.gon rfl rfl ?_); exact JL.q (OQ.load_agg (cs := tA.map U8) k32a k32s rfl .here hlA (own_part r0 (by rw [hlA, hlB]; decide))) rfl (JL.nil (kk default nofun)))
      · (intro xx EF MF Q kk; (try refine JL.gon rfl rfl ?_); exact JL.q (OQ.move rfl) rfl (JL.nil (kk default nofun)))
      · (intro xx EF MF Q kk; (try refine JL.gon rfl rfl ?_); exact JL.q (OQ.idxS (sz := 32) (i := 1) Tryd.underlying96 k32s rfl rfl (by decide)) rfl (JL.nil (kk default nofun)))
      · (intro xx EF MF Q kk; (try refine JL.gon rfl rfl ?_); exact JL.q (OQ.load_agg (cs := tC.map U8) k32a k32s rfl .here hlC (own_part r1 (by rw [hlC, hlB]; decide))) rfl (JL.nil (kk default nofun)))
      · (intro xx EF MF Q kk; exact JL.store_all (cs := tA.map U8) k32s rfl rfl hlA (Y_cell _) .here (by simp) (JL.nil (kk default nofun)))
      · (intro xx EF MF Q kk; exact JL.store_all (cs := tC.map U8) k32s rfl rfl hlC (Y_cell _) .here (by simp) (JL.nil (kk default nofun)))
    · intro xx hx
      show JE _ _ _ _ _ [(4, Pt b4 0), (5, Pt b5 0), (6, .slice (some ⟨bk, 0, none⟩) 2 ck)] [⟨b4, Row 23 (tA.map U8), true⟩, ⟨b5, Row 23 (tC.map U8), true⟩]
      clear hx xx vs Ms
      repeat (refine JE.next ?_)
      refine JC.ret (JE.ret2 rfl (RV.cell_agg k32a k32s rfl .here hlA Row.all) (RV.cell_agg k32a k32s rfl (.there .here) hlC Row.all) ?_)
      exact fun w' hw => ⟨rfl, hw.chg⟩
theorem goes_rfirst : Goes Tryd.prog 14 := ⟨_, Tryd.func14, rfl, by kernel_rfl⟩
set_option maxHeartbeats 16000000 in
theorem rfirst_any (root own other : Bk) (h1 : root.length = 32) (h2 : own.length = 32) (h4 : other.length = 32) (w : World) : Calls Tryd.prog 14 [.agg (root.map U8).toArray, .agg (own.map U8).toArray, .agg (other.map U8).toArray].toArray w fun e w' => e = .returned (.agg (sec (firstS root own other) nilKV).toArray) ∧ Ext w w' := by
  have l1 : (root.map U8).length = 32 := by rw [List.length_map]; exact h1
  have l2 : (own.map U8).length = 32 := by rw [List.length_map]; exact h2
  have l4 : (other.map U8).length = 32 := by rw [List.length_map]; exact h4
  have hb := ses_built own other h2 h4
  have hok := firstS_ok root own other h2 h4
  have hn := sec_len hok nilKV
  have hm := multB_l own other
  have cS := fun (w' : World) => rmult_any own other h2 h4 w'
  have cT := fun (w' : World) => rtrn_any root (multB own other) h1 hm w'
  have hfd : firstS root own other = ⟨turnA root (multB own other), own, other, true, false, turnC root (multB own other), z32, 0, 0, 0, []⟩ := rfl
  have la := turnA_len root (multB own other)
  have lc := turnC_len root (multB own other)
  rw [hfd] at hn hok ⊢
  clear hfd
  generalize turnA root (multB own other) = tA at *
  generalize turnC root (multB own other) = tC at *
  generalize multB own other = m at *
  have lA : (tA.map U8).length = 32 := by rw [List.length_map]; exact la
  have lC : (tC.map U8).length = 32 := by rw [List.length_map]; exact lc
  have k0 : (⟨z32, own, other, true, false, z32, z32, 0, 0, 0, []⟩ : Ses).ok := ⟨rfl, h2, h4, rfl, rfl, nofun⟩
  have k1 : (⟨tA, own, other, true, false, z32, z32, 0, 0, 0, []⟩ : Ses).ok := ⟨la, h2, h4, rfl, rfl, nofun⟩
  have p0 := sec_put_root k0 nilKV tA la
  have p1 := sec_put_send k1 nilKV tC lc
  have n0 := sec_len k0 nilKV
  have n1 := sec_len k1 nilKV
  refine enter (n := 22) Tryd.func14 rfl rfl rfl (Holds.start w []) ?_
  repeat (first | refine JC.seq ?_ | refine JC.region ?_)
  refine JL.box (r := root.map U8) rfl rfl rfl fun b3 _ => ?_
  refine JL.box (r := own.map U8) rfl rfl rfl fun b4 _ => ?_
  refine JL.box (r := other.map U8) rfl rfl rfl fun b5 _ => ?_
  refine JL.alloc seZ rfl fun b6 _ => ?_
  repeat (first | refine JL.q (by first | (apply OQ.load_agg (cs := own.map U8); exact k32a; exact k32s; exact rfl; exact (.there (.there .here)); exact l2; exact Row.all) | (apply OQ.load_agg (cs := other.map U8); exact k32a; exact k32s; exact rfl; exact (.there .here); exact l4; exact Row.all)) rfl ?_ | refine JC.seq ?_ | refine JC.region ?_ | refine JL.nil ?_ | refine JE.next ?_)
  refine JL.q (OQ.buildK (cs := sec ⟨z32, own, other, true, false, z32, z32, 0, 0, 0, []⟩ nilKV) [1, 2, 3] [.tmp 8, .tmp 9, .const (.bool true)] (vs := [.agg (own.map U8).toArray, .agg (other.map U8).toArray, .bool true]) rfl rfl hb) rfl ?_
  refine JL.alloc seZ rfl fun b7 _ => ?_
  refine JL.store_all (cs := sec ⟨z32, own, other, true, false, z32, z32, 0, 0, 0, []⟩ nilKV) seS rfl rfl n0 (sec_one rfl) .here (sec_len zeroS_ok _) ?_
  repeat (first | refine JC.seq ?_ | refine JL.nil ?_ | refine JE.next ?_)
  let vs : Nat → Nat → Value := fun j y => match j with
    | 0 => .agg (root.map U8).toArray
    | 1 => .agg (own.map U8).toArray
    | 2 => .agg (other.map U8).toArray
    | 3 => .agg (m.map U8).toArray
    | 4 => .tuple #[.agg (tA.map U8).toArray, .agg (tC.map U8).toArray]
    | 5 => .tuple #[.agg (tA.map U8).toArray, .agg (tC.map U8).toArray]
    | 6 => .agg (tA.map U8).toArray
    | 7 => .agg (tC.map U8).toArray
    | 8 => Pt b7 0
    | 10 => Pt b7 98
    | _ => N 0
  let Ms : Nat → Nat → List Ent := fun j y => match j with
    | 9 => [⟨b7, Row 26 (sec ⟨tA, own, other, true, false, z32, z32, 0, 0, 0, []⟩ nilKV), true⟩]
    | 11 => [⟨b7, Row 26 (sec ⟨tA, own, other, true, false, tC, z32, 0, 0, 0, []⟩ nilKV), true⟩]
    | 12 => [⟨b7, Row 26 (sec ⟨z32, own, other, true, false, z32, z32, 0, 0, 0, []⟩ nilKV), true⟩]
    | 13 => [⟨b6, Row 26 (sec zeroS nilKV), true⟩]
    | 14 => [⟨b5, Row 23 (other.map U8), true⟩]
    | 15 => [⟨b4, Row 23 (own.map U8), true⟩]
    | 16 => [⟨b3, Row 23 (root.map U8), true⟩]
    | _ => []
  refine JC.grow (g := ⟨[(3, Pt b3 0), (4, Pt b4 0), (5, Pt b5 0), (6, Pt b6 0), (7, Pt b7 0)], 17, vs, Ms, (fun j => match j with | 3 => [(1, 13), (2, 14)] | 4 => [(0, 12), (3, 15)] | 5 => [(4, 16)] | 6 => [(5, 11)] | 7 => [(5, 11)] | 9 => [(8, 19), (6, 17)] | 11 => [(10, 20), (7, 18)] | _ => []), (fun j => match j with | 0 => [16] | 1 => [15] | 2 => [14] | 9 => [12] | 11 => [9] | _ => []), (fun j => match j with | 9 => [12] | 11 => [9] | _ => []), (fun j => match j with | _ => none)⟩) [] [11, 13] mixT (by repeat (first | exact SubE.nil | refine SubE.cons _ _ _ rfl ?_)) ?_ (by kernel_rfl) (by kernel_rfl) (by kernel_rfl) ?_ ?_
  · exact Less.refl _
  · refine ⟨?_, ?_, ?_, ?_, ?_, ?_, ?_, ?_, ?_, ?_, ?_, ?_, trivial⟩
    · (intro xx EF MF Q kk; (try refine JL.gon rfl rfl ?_); exact JL.q (OQ.load_agg (cs := root.map U8) k32a k32s rfl .here l1 Row.all) rfl (JL.nil (kk default nofun)))
    · (intro xx EF MF Q kk; (try refine JL.gon rfl rfl ?_); exact JL.q (OQ.load_agg (cs := own.map U8) k32a k32s rfl .here l2 Row.all) rfl (JL.nil (kk default nofun)))
    · (intro xx EF MF Q kk; (try refine JL.gon rfl rfl ?_); exact JL.q (OQ.load_agg (cs := other.map U8) k32a k32s rfl .here l4 Row.all) rfl (JL.nil (kk default nofun)))
    · (intro xx EF MF Q kk; (try refine JL.gon rfl rfl ?_); exact JL.q (OQ.callx (vs := [.agg (own.map U8).toArray, .agg (other.map U8).toArray]) goes_rmult rfl fun w' _ => cS w') rfl (JL.nil (kk default nofun)))
    · (intro xx EF MF Q kk; (try refine JL.gon rfl rfl ?_); exact JL.q (OQ.callx (vs := [.agg (root.map U8).toArray, .agg (m.map U8).toArray]) goes_rtrn rfl fun w' _ => cT w') rfl (JL.nil (kk default nofun)))
    · (intro xx EF MF Q kk; (try refine JL.gon rfl rfl ?_); exact JL.q (OQ.move rfl) rfl (JL.nil (kk default nofun)))
    · (intro xx EF MF Q kk; (try refine JL.gon rfl rfl ?_); exact JL.q (OQ.extract rfl rfl) rfl (JL.nil (kk default nofun)))
    · (intro xx EF MF Q kk; (try refine JL.gon rfl rfl ?_); exact JL.q (OQ.extract rfl rfl) rfl (JL.nil (kk default nofun)))
    · (intro xx EF MF Q kk; (try refine JL.gon rfl rfl ?_); exact JL.q (OQ.fld rfl rfl rfl (by decide) rfl) rfl (JL.nil (kk default nofun)))
    · (intro xx EF MF Q kk; exact JL.store_part (r := sec ⟨z32, own, other, true, false, z32, z32, 0, 0, 0, []⟩ nilKV) (r' := sec ⟨tA, own, other, true, false, z32, z32, 0, 0, 0, []⟩ nilKV) k32s rfl rfl lA (Y_cell _) .here (by rw [n0, lA]; decide) p0 (JL.nil (kk default nofun)))
    · (intro xx EF MF Q kk; (try refine JL.gon rfl rfl ?_); exact JL.q (OQ.fld rfl rfl rfl (by decide) rfl) rfl (JL.nil (kk default nofun)))
    · (intro xx EF MF Q kk; exact JL.store_part (r := sec ⟨tA, own, other, true, false, z32, z32, 0, 0, 0, []⟩ nilKV) (r' := sec ⟨tA, own, other, true, false, tC, z32, 0, 0, 0, []⟩ nilKV) k32s rfl rfl lC (Y_cell _) .here (by rw [n1, lC]; decide) p1 (JL.nil (kk default nofun)))
  · intro xx hx
    show JE _ _ _ _ _ [(3, Pt b3 0), (4, Pt b4 0), (5, Pt b5 0), (6, Pt b6 0), (7, Pt b7 0)] [⟨b7, Row 26 (sec ⟨tA, own, other, true, false, tC, z32, 0, 0, 0, []⟩ nilKV), true⟩, ⟨b6, Row 26 (sec zeroS nilKV), true⟩]
    clear hx xx vs Ms
    repeat (first | refine JL.q (by (apply OQ.load_agg (cs := sec ⟨tA, own, other, true, false, tC, z32, 0, 0, 0, []⟩ nilKV); exact seA; exact seS; exact rfl; exact .here; exact hn; exact Row.all)) rfl ?_ | refine JC.seq ?_ | refine JC.region ?_ | refine JE.next ?_)
    refine JL.store_all (cs := sec ⟨tA, own, other, true, false, tC, z32, 0, 0, 0, []⟩ nilKV) seS rfl rfl hn (sec_one rfl) (.there .here) (sec_len zeroS_ok _) ?_
    repeat (first | refine JL.nil ?_ | refine JE.next ?_)
    refine JC.ret (JE.ret1 rfl (RV.cell_agg seA seS rfl (.there .here) hn Row.all) ?_)
    exact fun w' hw => ⟨rfl, hw.chg⟩
/-! ### Encrypt -/
/-- what the reference's Encrypt gives -/
structure ErR (o : Ses × Bk × Nat) where
  x : Acc
  xn : x = none → o.2.1 = []
theorem goes_rencr : Goes Tryd.prog 10 := ⟨_, Tryd.func10, rfl, by kernel_rfl⟩
set_option maxHeartbeats 32000000 in
theorem rencr_any (s : Ses) (kv : Value) (hkv1 : kv.oneCell' = true) (hs : s.ok) (hst : s.sent ≤ 2147483647) (hpv : s.prev ≤ 2147483647) (side p : Sl8) (hsl : side.l.length ≤ 1000000) (hpl : p.l.length ≤ 1000000) (w : World) (hside : side.ok w) (hp : p.ok w) :
    Calls Tryd.prog 10 [.agg (sec s kv).toArray, side.v, p.v].toArray w fun e w' => ∃ r : ErR (encS s side.l p.l), e = .returned (.tuple #[.agg (sec (encS s side.l p.l).1 kv).toArray, accV r.x (encS s side.l p.l).2.1.length, N (encS s side.l p.l).2.2]) ∧ Holds w [] (accE 5 r.x ((encS s side.l p.l).2.1.map U8)) w' := by
  have hn := sec_len hs kv
  refine enter (n := 52) Tryd.func10 rfl rfl rfl (Holds.start w []) ?_
  repeat (first | refine JC.seq ?_ | refine JC.region ?_)
  refine JL.box (r := sec s kv) rfl rfl rfl fun b3 _ => ?_
  refine JL.alloc seZ rfl fun b6 _ => ?_
  cases hse : s.sends
  · have hd := enc_no hse side.l p.l
    have hld : ∀ o, Row 26 (sec s kv) o → cellAt o 96 = some (.bool false) := by rw [← hse]; exact Row.cell (sec_sends hs _)
    rw [hd]
    repeat (first | refine JL.q (by first | (apply OQ.load; exact boolCr; exact rfl; exact (.there .here); exact hld) | (apply OQ.not; exact rfl) | (apply OQ.assign; exact rfl) | (apply OQ.fld; exact rfl; exact rfl; exact rfl; exact (by decide); exact rfl)) rfl ?_ | refine JC.seq ?_ | refine JC.region ?_ | refine JL.nil ?_ | refine JE.next ?_)
    refine JC.cond_true rfl rfl ?_
    repeat (first | refine JL.q (by (apply OQ.load_agg (cs := sec s kv); exact seA; exact seS; exact rfl; exact (.there .here); exact hn; exact Row.all)) rfl ?_ | refine JC.seq ?_ | refine JC.region ?_)
    refine JL.store_all (cs := sec s kv) seS rfl rfl hn (sec_one hkv1) .here (sec_len zeroS_ok _) ?_
    repeat (first | refine JL.q (by (apply OQ.assign; exact rfl)) rfl ?_ | refine JL.nil ?_ | refine JE.next ?_)
    refine JC.ret ?_
    repeat (refine JE.then_ret ?_)
    exact JE.ret3 rfl (RV.cell_agg seA seS rfl .here hn Row.all) (RV.tmp rfl) (RV.tmp rfl) fun w' hw => ⟨⟨none, fun _ => rfl⟩, rfl, hw.weak (.nil _)⟩
  have hld : ∀ o, Row 26 (sec s kv) o → cellAt o 96 = some (.bool true) := by rw [← hse]; exact Row.cell (sec_sends hs _)
  have hsn : ∀ o, Row 26 (sec s kv) o → cellAt o 162 = some (N s.sent) := Row.cell (sec_sent hs _)
  by_cases hmx : 2147483647 ≤ s.sent
  · have hd := enc_far hse hmx side.l p.l
    have heq : decide (((s.sent : Nat) : Int) = 2147483647) = true := decide_eq_true (by omega)
    rw [hd]
    repeat (first | refine JL.q (by first | (apply OQ.load; exact boolCr; exact rfl; exact (.there .here); exact hld) | (apply OQ.not; exact rfl) | (apply OQ.assign; exact rfl) | (apply OQ.fld; exact rfl; exact rfl; exact rfl; exact (by decide); exact rfl)) rfl ?_ | refine JC.seq ?_ | refine JC.region ?_ | refine JL.nil ?_ | refine JE.next ?_)
    refine JC.cond_false rfl rfl ?_
    repeat (first | refine JL.q (by first | (apply OQ.load; exact intCr; exact rfl; exact (.there .here); exact hsn) | (apply OQ.eqB (a := ((s.sent : Nat) : Int)) (b := 2147483647); exact rfl; exact rfl; exact heq) | (apply OQ.fld; exact rfl; exact rfl; exact rfl; exact (by decide); exact rfl)) rfl ?_ | refine JC.seq ?_ | refine JC.region ?_ | refine JC.skip ?_ | refine JL.nil ?_ | refine JE.next ?_)
    refine JC.cond_true rfl rfl ?_
    repeat (first | refine JL.q (by (apply OQ.load_agg (cs := sec s kv); exact seA; exact seS; exact rfl; exact (.there .here); exact hn; exact Row.all)) rfl ?_ | refine JC.seq ?_ | refine JC.region ?_)
    refine JL.store_all (cs := sec s kv) seS rfl rfl hn (sec_one hkv1) .here (sec_len zeroS_ok _) ?_
    repeat (first | refine JL.q (by (apply OQ.assign; exact rfl)) rfl ?_ | refine JL.nil ?_ | refine JE.next ?_)
    refine JC.ret ?_
    repeat (refine JE.then_ret ?_)
    exact JE.ret3 rfl (RV.cell_agg seA seS rfl .here hn Row.all) (RV.tmp rfl) (RV.tmp rfl) fun w' hw => ⟨⟨none, fun _ => rfl⟩, rfl, hw.weak (.nil _)⟩
  have hd := enc_yes hse hmx side.l p.l
  have heq : decide (((s.sent : Nat) : Int) = 2147483647) = false := decide_eq_false (by omega)
  rw [hd]
  repeat (first | refine JL.q (by first | (apply OQ.load; exact boolCr; exact rfl; exact (.there .here); exact hld) | (apply OQ.not; exact rfl) | (apply OQ.assign; exact rfl) | (apply OQ.fld; exact rfl; exact rfl; exact rfl; exact (by decide); exact rfl)) rfl ?_ | refine JC.seq ?_ | refine JC.region ?_ | refine JL.nil ?_ | refine JE.next ?_)
  refine JC.cond_false rfl rfl ?_
  repeat (first | refine JL.q (by first | (apply OQ.load; exact intCr; exact rfl; exact (.there .here); exact hsn) | (apply OQ.eqB (a := ((s.sent : Nat) : Int)) (b := 2147483647); exact rfl; exact rfl; exact heq) | (apply OQ.fld; exact rfl; exact rfl; exact rfl; exact (by decide); exact rfl)) rfl ?_ | refine JC.seq ?_ | refine JC.region ?_ | refine JC.skip ?_ | refine JL.nil ?_ | refine JE.next ?_)
  refine JC.cond_false rfl rfl ?_
  have hlo : (s.own.map U8).length = 32 := by rw [List.length_map]; exact hs.own
  have hls : (s.send.map U8).length = 32 := by rw [List.length_map]; exact hs.send
  have hH := encH_chain s
  have hBl := hdB_len hH
  have hhb := hd_built (pubB s.own) s.prev s.sent (pubB_len _)
  have cP := fun (w' : World) => rmult_any s.own (keyN 9) hs.own rfl w'
  have cB := fun (w' : World) => rhdr_any (encH s) hH (show s.prev < _ by omega) (show s.sent < _ by omega) w'
  have hpr : ∀ o, Row 26 (sec s kv) o → cellAt o 164 = some (N s.prev) := Row.cell (sec_prev hs _)
  have cP2 : ∀ w', Calls Tryd.prog 30 [.agg (s.own.map U8).toArray, .agg ((keyN 9).map U8).toArray].toArray w' fun e w'' => e = .returned (.agg ((pubB s.own).map U8).toArray) ∧ Ext w' w'' := cP
  clear cP
  have hEe : encB s side.l p.l = hdB (encH s) ++ Rtc.sealB (msB s.send) (side.l ++ hdB (encH s)) p.l := rfl
  rw [hEe]
  have hEq : encH s = ⟨pubB s.own, s.prev, s.sent⟩ := rfl
  rw [← hEq] at hhb
  generalize pubB s.own = pk at *
  generalize hHe : encH s = h at *
  repeat (first | refine JC.seq ?_ | refine JC.skip ?_ | refine JE.next ?_)
  refine JC.tail 9 mixT (by kernel_rfl) ?_
  simp only [List.take_succ_cons, List.take_zero, List.drop_succ_cons, List.drop_zero]
  repeat (refine JQ.q (by first | (apply OQ.load_agg (cs := s.own.map U8); exact k32a; exact k32s; exact rfl; exact (.there .here); exact hlo; exact (Row.cells (sec_own hs _))) | (apply OQ.fld; exact rfl; exact rfl; exact rfl; exact (by decide); exact rfl)) rfl ?_)
  refine JQ.q (OQ.pure (v := .agg ((keyN 9).map U8).toArray) rfl rfl (by kernel_rfl)) rfl ?_
  repeat (refine JQ.q (by first | (apply OQ.callx (vs := [.agg (s.own.map U8).toArray, .agg ((keyN 9).map U8).toArray]); exact goes_rmult; exact rfl; exact (fun w' _ => cP2 w')) | (apply OQ.load; exact intCr; exact rfl; exact (.there .here); exact hpr) | (apply OQ.load; exact intCr; exact rfl; exact (.there .here); exact hsn) | (apply OQ.fld; exact rfl; exact rfl; exact rfl; exact (by decide); exact rfl)) rfl ?_)
  refine JQ.q (OQ.buildK (cs := hdc h) [0, 1, 2] [.tmp 23, .tmp 25, .tmp 27] (vs := [.agg (pk.map U8).toArray, N s.prev, N s.sent]) rfl rfl hhb) rfl ?_
  repeat (refine JQ.nil_tail ?_)
  refine JL.callg (ι := Nat × Nat) (vs := [.agg (hdc h).toArray]) (fun x => .slice (some ⟨x.1, 0, none⟩) 40 x.2) (fun x => [⟨x.1, Sl.Own 5 1 40 x.2 ((hdB h).map U8), true⟩]) goes_rhdr rfl rfl (fun i => by simp) (fun w' hw' => cB w') ?_
  rintro ⟨bh, ch⟩
  try dsimp only
  have hst2 : ∀ (w' : World), Calls Tryd.prog 31 [.agg (s.send.map U8).toArray].toArray w' fun e w'' => e = .returned (.tuple #[.agg ((nxB s.send).map U8).toArray, .agg ((msB s.send).map U8).toArray]) ∧ Ext w' w'' := fun w' => rkstep_any s.send hs.send w'
  have k1 : ({ s with send := nxB s.send } : Ses).ok := ⟨hs.root, hs.own, hs.other, rfl, hs.take, hs.kept⟩
  have p1 := sec_put_send hs kv (nxB s.send) rfl
  have k2 := encN_ok hs
  have p2 := sec_set_sent k1 kv (s.sent + 1)
  have hn3 := sec_len k1 kv
  have hn4 := sec_len k2 kv
  have hR : encN s = { s with send := nxB s.send, sent := s.sent + 1 } := rfl
  rw [hR] at hn4 ⊢
  have hl5 : ((nxB s.send).map U8).length = 32 := rfl
  have hl6 : ((msB s.send).map U8).length = 32 := rfl
  have hkm : (msB s.send).length = 32 := rfl
  clear hR k2
  generalize nxB s.send = nx at *
  generalize msB s.send = ms at *
  have hse2 : ∀ o, Row 26 (sec { s with send := nx } kv) o → cellAt o 162 = some (N s.sent) := Row.cell (sec_sent k1 _)
  repeat (first | refine JL.q (by first | (apply OQ.load_agg (cs := s.send.map U8); exact k32a; exact k32s; exact rfl; exact (.there (.there .here)); exact hls; exact (Row.cells (sec_send hs _))) | (apply OQ.callx (vs := [.agg (s.send.map U8).toArray]); exact goes_rkstep; exact rfl; exact (fun w' _ => hst2 w')) | (apply OQ.extract; exact rfl; exact rfl) | (apply OQ.move; exact rfl) | (apply OQ.assign; exact rfl) | (apply OQ.fld; exact rfl; exact rfl; exact rfl; exact (by decide); exact rfl)) rfl ?_ | refine JC.seq ?_ | refine JC.region ?_ | refine JL.nil ?_ | refine JE.next ?_)
  refine JL.alloc k32z rfl fun b10 _ => ?_
  refine JL.alloc k32z rfl fun b11 _ => ?_
  refine JL.store_all (cs := nx.map U8) k32s rfl rfl hl5 (Y_cell _) (.there .here) (by simp) ?_
  refine JL.store_all (cs := ms.map U8) k32s rfl rfl hl6 (Y_cell _) .here (by simp) ?_
  repeat (first | refine JL.q (by first | (apply OQ.load_agg (cs := nx.map U8); exact k32a; exact k32s; exact rfl; exact (.there .here); exact hl5; exact Row.all) | (apply OQ.fld; exact rfl; exact rfl; exact rfl; exact (by decide); exact rfl)) rfl ?_ | refine JC.seq ?_ | refine JC.region ?_ | refine JL.nil ?_ | refine JE.next ?_)
  refine JL.store_part (r := sec s kv) (r' := sec { s with send := nx } kv) k32s rfl rfl hl5 (Y_cell _) (.there (.there (.there (.there .here)))) (by rw [hn, hl5]; decide) p1 ?_
  repeat (first | refine JL.q (by first | (apply OQ.load; exact intCr; exact rfl; exact (.there (.there (.there (.there .here)))); exact hse2) | (apply OQ.addN (a := s.sent) (b := 1); exact rfl; exact rfl; exact (by omega)) | (apply OQ.fld; exact rfl; exact rfl; exact rfl; exact (by decide); exact rfl)) rfl ?_ | refine JC.seq ?_ | refine JC.region ?_ | refine JL.nil ?_ | refine JE.next ?_)
  refine JL.store_eq (r := sec { s with send := nx } kv) (r' := sec { s with send := nx, sent := s.sent + 1 } kv) intSr rfl rfl rfl rfl (.there (.there (.there (.there .here)))) (by rw [hn3]; decide) p2 ?_
  repeat (first | refine JC.seq ?_ | refine JL.nil ?_ | refine JE.next ?_)
  have hsK : sealK (Go.Proofs.YtbhlcnimjoppeaaDoor.k1 ms) (Go.Proofs.YtbhlcnimjoppeaaDoor.k2 ms) z12 (side.l ++ hdB h) p.l = Rtc.sealB ms (side.l ++ hdB h) p.l := rfl
  have hsKl : (Rtc.sealB ms (side.l ++ hdB h) p.l).length = p.l.length + 32 := sealK_length _ _ _ _ _
  have hWl : (side.l ++ hdB h).length = side.l.length + 40 := by rw [List.length_append, hBl]
  have hbv : Sl8.v ⟨some ⟨bh, 0, none⟩, ch, hdB h⟩ = .slice (some ⟨bh, 0, none⟩) 40 ch := by simp [Sl8.v, hBl]
  have cC := fun (w' : World) (M : List Ent) (hw' : Holds w [] M w') (hb : Sl8.ok w' ⟨some ⟨bh, 0, none⟩, ch, hdB h⟩) => join_any side ⟨some ⟨bh, 0, none⟩, ch, hdB h⟩ w' (hside.holds hw' rfl) hb (by show side.l.length + (hdB h).length ≤ _; omega)
  rw [hbv] at cC
  generalize Rtc.sealB ms (side.l ++ hdB h) p.l = Z at *
  have cD := fun (bz cz : Nat) (w' : World) (hb : Sl8.ok w' ⟨some ⟨bh, 0, none⟩, ch, hdB h⟩) (hb2 : Sl8.ok w' ⟨some ⟨bz, 0, none⟩, cz, Z⟩) => join_any ⟨some ⟨bh, 0, none⟩, ch, hdB h⟩ ⟨some ⟨bz, 0, none⟩, cz, Z⟩ w' hb hb2 (by show (hdB h).length + Z.length ≤ _; omega)
  have hzv : ∀ bz cz, Sl8.v ⟨some ⟨bz, 0, none⟩, cz, Z⟩ = .slice (some ⟨bz, 0, none⟩) (p.l.length + 32) cz := fun bz cz => by simp [Sl8.v, hsKl]
  simp only [hbv, hzv] at cD
  let vs : Nat → (Nat × Nat) → Value := fun j y => match j with
    | 0 => .agg (sec { s with send := nx, sent := s.sent + 1 } kv).toArray
    | 1 => .slice (some ⟨bh, 0, none⟩) 40 ch
    | 2 => .agg (ms.map U8).toArray
    | 3 => .agg (z12.map U8).toArray
    | 4 => side.v
    | 5 => .slice (some ⟨bh, 0, none⟩) 40 ch
    | 6 => .slice (some ⟨y.1, 0, none⟩) (side.l ++ hdB h).length y.2
    | 7 => p.v
    | 8 => .slice (some ⟨y.1, 0, none⟩) (p.l.length + 32) y.2
    | 9 => .slice (some ⟨y.1, 0, none⟩) (hdB h ++ Z).length y.2
    | 11 => .slice (some ⟨y.1, 0, none⟩) (hdB h ++ Z).length y.2
    | 12 => N 0
    | _ => N 0
  let Ms : Nat → (Nat × Nat) → List Ent := fun j y => match j with
    | 6 => [⟨y.1, Sl.Own 5 1 (side.l ++ hdB h).length y.2 ((side.l ++ hdB h).map U8), true⟩]
    | 8 => [⟨y.1, Sl.Own 5 1 (p.l.length + 32) y.2 (Z.map U8), true⟩]
    | 9 => [⟨y.1, Sl.Own 5 1 (hdB h ++ Z).length y.2 ((hdB h ++ Z).map U8), true⟩]
    | 10 => [⟨b6, Row 26 (sec { s with send := nx, sent := s.sent + 1 } kv), true⟩]
    | 13 => [⟨b11, Row 23 (ms.map U8), true⟩]
    | 14 => [⟨b10, Row 23 (nx.map U8), true⟩]
    | 15 => [⟨bh, Sl.Own 5 1 40 ch ((hdB h).map U8), true⟩]
    | 16 => [⟨b6, Row 26 (sec zeroS (.slice none 0 0)), true⟩]
    | 17 => [⟨b3, Row 26 (sec { s with send := nx, sent := s.sent + 1 } kv), true⟩]
    | _ => []
  refine JC.grow (g := ⟨[(1, side.v), (2, p.v), (3, Pt b3 0), (6, Pt b6 0), (9, .slice (some ⟨bh, 0, none⟩) 40 ch), (11, Pt b11 0)], 18, vs, Ms, (fun j => match j with | 6 => [(4, 46), (5, 47)] | 8 => [(2, 44), (3, 45), (6, 48), (7, 49)] | 9 => [(1, 43), (8, 50)] | 10 => [(0, 42)] | 11 => [(9, 51)] | _ => []), (fun j => match j with | 0 => [17] | 2 => [13] | 6 => [15] | 8 => [6] | 9 => [15, 8] | 10 => [16] | _ => []), (fun j => match j with | 10 => [16] | _ => []), (fun j => match j with | 11 => some 9 | _ => none)⟩) [(11, 7), (12, 8)] [10, 9] mixT (by repeat (first | exact SubE.nil | refine SubE.cons _ _ _ rfl ?_)) ?_ (by kernel_rfl) (by kernel_rfl) (by kernel_rfl) ?_ ?_
  · exact Less.refl _
  · refine ⟨?_, ?_, ?_, ?_, ?_, ?_, ?_, ?_, ?_, ?_, ?_, ?_, ?_, trivial⟩
    · (intro xx EF MF Q kk; (try refine JL.gon rfl rfl ?_); exact JL.q (OQ.load_agg (cs := sec { s with send := nx, sent := s.sent + 1 } kv) seA seS rfl .here hn4 Row.all) rfl (JL.nil (kk default nofun)))
    · (intro xx EF MF Q kk; (try refine JL.gon rfl rfl ?_); exact JL.q (OQ.move rfl) rfl (JL.nil (kk default nofun)))
    · (intro xx EF MF Q kk; (try refine JL.gon rfl rfl ?_); exact JL.q (OQ.load_agg (cs := ms.map U8) k32a k32s rfl .here hl6 Row.all) rfl (JL.nil (kk default nofun)))
    · (intro xx EF MF Q kk; exact JL.q (OQ.pure (v := .agg (z12.map U8).toArray) rfl rfl (by kernel_rfl)) rfl (JL.nil (kk default nofun)))
    · (intro xx EF MF Q kk; (try refine JL.gon rfl rfl ?_); exact JL.q (OQ.move rfl) rfl (JL.nil (kk default nofun)))
    · (intro xx EF MF Q kk; (try refine JL.gon rfl rfl ?_); exact JL.q (OQ.move rfl) rfl (JL.nil (kk default nofun)))
    · (intro xx EF MF Q kk; exact JL.callg (ι := Nat × Nat) (vs := [side.v, .slice (some ⟨bh, 0, none⟩) 40 ch]) (fun x => .slice (some ⟨x.1, 0, none⟩) (side.l ++ hdB h).length x.2) (fun x => [⟨x.1, Sl.Own 5 1 (side.l ++ hdB h).length x.2 ((side.l ++ hdB h).map U8), true⟩]) goes_join rfl rfl (fun i => by simp) (fun w' hw' => cC w' _ hw' (ownb_ok hw' .here)) fun x => JL.nil (kk (x.1, x.2) nofun))
    · (intro xx EF MF Q kk; (try refine JL.gon rfl rfl ?_); exact JL.q (OQ.move rfl) rfl (JL.nil (kk default nofun)))
    · (intro xx EF MF Q kk; exact JL.callg (ι := Nat × Nat) (vs := [.agg (ms.map U8).toArray, .agg (z12.map U8).toArray, .slice (some ⟨(xx 6).1, 0, none⟩) (side.l ++ hdB h).length (xx 6).2, p.v]) (fun x => .slice (some ⟨x.1, 0, none⟩) (p.l.length + 32) x.2) (fun x => [⟨x.1, Sl.Own 5 1 (p.l.length + 32) x.2 (Z.map U8), true⟩]) goes_rseal rfl rfl (fun i => by simp) (fun w' hw' => rsealO_any (s := ⟨some ⟨(xx 6).1, 0, none⟩, (xx 6).2, side.l ++ hdB h⟩) (p := p) hsK hkm rfl (ownb_ok hw' .here) (hp.holds hw' rfl) (by show (side.l ++ hdB h).length < _; omega) (by omega)) fun x => JL.nil (kk (x.1, x.2) nofun))
    · (intro xx EF MF Q kk; exact JL.callg (ι := Nat × Nat) (vs := [.slice (some ⟨bh, 0, none⟩) 40 ch, .slice (some ⟨(xx 8).1, 0, none⟩) (p.l.length + 32) (xx 8).2]) (fun x => .slice (some ⟨x.1, 0, none⟩) (hdB h ++ Z).length x.2) (fun x => [⟨x.1, Sl.Own 5 1 (hdB h ++ Z).length x.2 ((hdB h ++ Z).map U8), true⟩]) goes_join rfl rfl (fun i => by simp) (fun w' hw' => cD (xx 8).1 (xx 8).2 w' (ownb_ok hw' .here) (ownb_ok (k := p.l.length + 32) hw' (.there .here))) fun x => JL.nil (kk (x.1, x.2) nofun))
    · (intro xx EF MF Q kk; exact JL.store_all (cs := sec { s with send := nx, sent := s.sent + 1 } kv) seS rfl rfl hn4 (sec_one hkv1) .here (sec_len zeroS_ok _) (JL.nil (kk default nofun)))
    · (intro xx EF MF Q kk; (try refine JL.gon rfl rfl ?_); exact JL.q (OQ.assign rfl) rfl (JL.nil (kk (xx 9) (fun k h => by cases h; rfl))))
    · (intro xx EF MF Q kk; (try refine JL.gon rfl rfl ?_); exact JL.q (OQ.assign rfl) rfl (JL.nil (kk default nofun)))
  · intro xx hx
    have e1 := hx 11 9 (by decide) rfl
    show JE _ _ _ _ _ [(7, .slice (some ⟨(xx 11).1, 0, none⟩) (hdB h ++ Z).length (xx 11).2), (8, N 0), (1, side.v), (2, p.v), (3, Pt b3 0), (6, Pt b6 0), (9, .slice (some ⟨bh, 0, none⟩) 40 ch), (11, Pt b11 0)] [⟨b6, Row 26 (sec { s with send := nx, sent := s.sent + 1 } kv), true⟩, ⟨(xx 9).1, Sl.Own 5 1 (hdB h ++ Z).length (xx 9).2 ((hdB h ++ Z).map U8), true⟩]
    rw [e1]
    generalize xx 9 = xz
    obtain ⟨bx, cx⟩ := xz
    clear hx e1 xx vs Ms
    try dsimp only
    repeat (refine JE.next ?_)
    refine JC.ret ?_
    skip
    refine JE.ret3 rfl (RV.cell_agg seA seS rfl .here hn4 Row.all) (RV.tmp rfl) (RV.tmp rfl) fun w' hw => ⟨⟨some (bx, cx), nofun⟩, rfl, ?_⟩
    show Holds w [] [⟨bx, Sl.Own 5 1 ((hdB h ++ Z).map U8).length cx ((hdB h ++ Z).map U8), true⟩] w'
    rw [List.length_map]
    exact hw.weak (.drop _ _ _ (Less.refl _))
end Go.Proofs.YtbhlcnimjoppeaaDoor

/-
  Of no statement by itself: sessions whose numbers may be any, their cells; which are right, by definition.
  Conditions: each theorem's own.
-/
namespace Go.Proofs.YtbhlcnimjoppeaaDoor
open Sl
namespace Rtc
open Dsk Jrn
structure Kpz where
  chain : Bk
  num : Int
  key : Bk
def kpy (k : Kpz) : List Value := k.chain.map U8 ++ (I k.num :: k.key.map U8)
structure Kpz.ok (k : Kpz) : Prop where
  c : k.chain.length = 32
  k : k.key.length = 32
theorem kpy_len {k : Kpz} (h : k.ok) : (kpy k).length = 65 := by simp [kpy, h.c, h.k]
def kpys (l : List Kpz) : List (List Value) := l.map kpy
theorem kpys_len (l : List Kpz) : (kpys l).length = l.length := List.length_map ..
theorem kpys_all {l : List Kpz} (h : ∀ k ∈ l, k.ok) : ∀ c ∈ kpys l, c.length = 65 := by
  intro c hc
  obtain ⟨k, hk, rfl⟩ := List.mem_map.1 hc
  exact kpy_len (h k hk)
def noKz : Kpz := ⟨List.replicate 32 0, 0, List.replicate 32 0⟩
theorem kpys_at (l : List Kpz) {i : Nat} (hi : i < l.length) : (kpys l).getD i [] = kpy (l.getD i noKz) := by
  simp [kpys, List.getD_eq_getElem?_getD, hi]
/-- a session -/
structure Sez where
  root : Bk
  own : Bk
  other : Bk
  sends : Bool
  takes : Bool
  send : Bk
  take : Bk
  sent : Int
  taken : Int
  prev : Int
  kept : List Kpz
structure Sez.ok (s : Sez) : Prop where
  root : s.root.length = 32
  own : s.own.length = 32
  other : s.other.length = 32
  send : s.send.length = 32
  take : s.take.length = 32
  kept : ∀ k ∈ s.kept, k.ok
def sey (s : Sez) (kv : Value) : List Value := s.root.map U8 ++ (s.own.map U8 ++ (s.other.map U8 ++ ([.bool s.sends] ++ ([.bool s.takes] ++ (s.send.map U8 ++ (s.take.map U8 ++ ([I s.sent] ++ ([I s.taken] ++ ([I s.prev] ++ [kv])))))))))
theorem sey_len {s : Sez} (h : s.ok) (kv : Value) : (sey s kv).length = 166 := by simp [sey, h.root, h.own, h.other, h.send, h.take]
theorem sey_other {s : Sez} (h : s.ok) (kv : Value) : ((sey s kv).drop 64).take (s.other.map U8).length = s.other.map U8 := by
  have := part3 (a := (s.root.map U8 ++ s.own.map U8)) (b := s.other.map U8) (c := [.bool s.sends] ++ ([.bool s.takes] ++ (s.send.map U8 ++ (s.take.map U8 ++ ([I s.sent] ++ ([I s.taken] ++ ([I s.prev] ++ ([kv])))))))) (j := 64) (k := 32) (by simp [h.root, h.own, h.other, h.send, h.take]) (by simp [h.other])
  rw [List.length_map, h.other]
  simpa only [sey, List.append_assoc, List.nil_append] using this
theorem sey_sends {s : Sez} (h : s.ok) (kv : Value) : (sey s kv)[96]? = some (.bool s.sends) := by
  have := at3 (a := s.root.map U8 ++ s.own.map U8 ++ s.other.map U8) (c := [.bool s.takes] ++ (s.send.map U8 ++ (s.take.map U8 ++ ([I s.sent] ++ ([I s.taken] ++ ([I s.prev] ++ ([kv]))))))) (x := .bool s.sends) (j := 96) (by simp [h.root, h.own, h.other, h.send, h.take])
  simpa only [sey, List.append_assoc] using this
theorem sey_takes {s : Sez} (h : s.ok) (kv : Value) : (sey s kv)[97]? = some (.bool s.takes) := by
  have := at3 (a := s.root.map U8 ++ s.own.map U8 ++ s.other.map U8 ++ [.bool s.sends]) (c := s.send.map U8 ++ (s.take.map U8 ++ ([I s.sent] ++ ([I s.taken] ++ ([I s.prev] ++ ([kv])))))) (x := .bool s.takes) (j := 97) (by simp [h.root, h.own, h.other, h.send, h.take])
  simpa only [sey, List.append_assoc] using this
theorem sey_send {s : Sez} (h : s.ok) (kv : Value) : ((sey s kv).drop 98).take (s.send.map U8).length = s.send.map U8 := by
  have := part3 (a := (s.root.map U8 ++ s.own.map U8 ++ s.other.map U8 ++ [.bool s.sends] ++ [.bool s.takes])) (b := s.send.map U8) (c := s.take.map U8 ++ ([I s.sent] ++ ([I s.taken] ++ ([I s.prev] ++ ([kv]))))) (j := 98) (k := 32) (by simp [h.root, h.own, h.other, h.send, h.take]) (by simp [h.send])
  rw [List.length_map, h.send]
  simpa only [sey, List.append_assoc, List.nil_append] using this
theorem sey_take {s : Sez} (h : s.ok) (kv : Value) : ((sey s kv).drop 130).take (s.take.map U8).length = s.take.map U8 := by
  have := part3 (a := (s.root.map U8 ++ s.own.map U8 ++ s.other.map U8 ++ [.bool s.sends] ++ [.bool s.takes] ++ s.send.map U8)) (b := s.take.map U8) (c := [I s.sent] ++ ([I s.taken] ++ ([I s.prev] ++ ([kv])))) (j := 130) (k := 32) (by simp [h.root, h.own, h.other, h.send, h.take]) (by simp [h.take])
  rw [List.length_map, h.take]
  simpa only [sey, List.append_assoc, List.nil_append] using this
theorem sey_sent {s : Sez} (h : s.ok) (kv : Value) : (sey s kv)[162]? = some (I s.sent) := by
  have := at3 (a := s.root.map U8 ++ s.own.map U8 ++ s.other.map U8 ++ [.bool s.sends] ++ [.bool s.takes] ++ s.send.map U8 ++ s.take.map U8) (c := [I s.taken] ++ ([I s.prev] ++ ([kv]))) (x := I s.sent) (j := 162) (by simp [h.root, h.own, h.other, h.send, h.take])
  simpa only [sey, List.append_assoc] using this
theorem sey_taken {s : Sez} (h : s.ok) (kv : Value) : (sey s kv)[163]? = some (I s.taken) := by
  have := at3 (a := s.root.map U8 ++ s.own.map U8 ++ s.other.map U8 ++ [.bool s.sends] ++ [.bool s.takes] ++ s.send.map U8 ++ s.take.map U8 ++ [I s.sent]) (c := [I s.prev] ++ ([kv])) (x := I s.taken) (j := 163) (by simp [h.root, h.own, h.other, h.send, h.take])
  simpa only [sey, List.append_assoc] using this
theorem sey_prev {s : Sez} (h : s.ok) (kv : Value) : (sey s kv)[164]? = some (I s.prev) := by
  have := at3 (a := s.root.map U8 ++ s.own.map U8 ++ s.other.map U8 ++ [.bool s.sends] ++ [.bool s.takes] ++ s.send.map U8 ++ s.take.map U8 ++ [I s.sent] ++ [I s.taken]) (c := [kv]) (x := I s.prev) (j := 164) (by simp [h.root, h.own, h.other, h.send, h.take])
  simpa only [sey, List.append_assoc] using this
theorem sey_kept {s : Sez} (h : s.ok) (kv : Value) : (sey s kv)[165]? = some kv := by
  have := at3 (a := s.root.map U8 ++ s.own.map U8 ++ s.other.map U8 ++ [.bool s.sends] ++ [.bool s.takes] ++ s.send.map U8 ++ s.take.map U8 ++ [I s.sent] ++ [I s.taken] ++ [I s.prev]) (c := []) (x := kv) (j := 165) (by simp [h.root, h.own, h.other, h.send, h.take])
  simpa only [sey, List.append_assoc, List.append_nil] using this


def mayZ (a : Int) : Prop := 0 ≤ a ∧ a ≤ 2147483647
structure RightZ (s : Sez) : Prop where
  sent : mayZ s.sent
  taken : mayZ s.taken
  prev : mayZ s.prev
  len : s.kept.length ≤ 2000
  send : s.sends = false → s.send = z32
  take : s.takes = false → s.take = z32
  other : s.sends = false → s.takes = false → s.other = z32
  num : ∀ i, i < s.kept.length → mayZ (s.kept.getD i noKz).num
  one : ∀ i, i < s.kept.length → ∀ k, k < i → ¬ ((s.kept.getD k noKz).num = (s.kept.getD i noKz).num ∧ (s.kept.getD k noKz).chain = (s.kept.getD i noKz).chain)
def Kpz.nat (k : Kpz) : Kp := ⟨k.chain, k.num.toNat, k.key⟩
def Sez.nat (s : Sez) : Ses := ⟨s.root, s.own, s.other, s.sends, s.takes, s.send, s.take, s.sent.toNat, s.taken.toNat, s.prev.toNat, s.kept.map Kpz.nat⟩
theorem nat_I {a : Int} (h : mayZ a) : I a = N a.toNat := by
  unfold I N
  rw [Int.toNat_of_nonneg h.1]
theorem Kpz.nat_c {k : Kpz} (h : mayZ k.num) : kpy k = kpc k.nat := by
  unfold kpy kpc Kpz.nat
  rw [nat_I h]
theorem Sez.nat_ok {s : Sez} (h : s.ok) : s.nat.ok := ⟨h.root, h.own, h.other, h.send, h.take, fun x hx => by
  obtain ⟨k, hk, rfl⟩ := List.mem_map.1 hx
  exact ⟨(h.kept k hk).c, (h.kept k hk).k⟩⟩
theorem RightZ.cells {s : Sez} (h : RightZ s) (v : Value) : sey s v = sec s.nat v := by
  unfold sey sec Sez.nat
  dsimp only
  rw [nat_I h.sent, nat_I h.taken, nat_I h.prev]
theorem RightZ.kept {s : Sez} (h : RightZ s) : kpys s.kept = kpcs s.nat.kept := by
  unfold kpys kpcs Sez.nat
  dsimp only
  rw [List.map_map]
  apply List.map_congr_left
  intro k hk
  obtain ⟨i, hi, rfl⟩ := List.mem_iff_getElem.1 hk
  have := h.num i hi
  rw [List.getD_eq_getElem?_getD, List.getElem?_eq_getElem hi] at this
  exact Kpz.nat_c this
theorem Sez.nat_len (s : Sez) : s.nat.kept.length = s.kept.length := List.length_map ..
theorem RightZ.most {s : Sez} (h : RightZ s) : s.nat.sent ≤ 2147483647 ∧ s.nat.taken ≤ 2147483647 ∧ s.nat.prev ≤ 2147483647 := by
  have h1 := h.sent
  have h2 := h.taken
  have h3 := h.prev
  unfold mayZ at h1 h2 h3
  refine ⟨?_, ?_, ?_⟩
  · show s.sent.toNat ≤ _; omega
  · show s.taken.toNat ≤ _; omega
  · show s.prev.toNat ≤ _; omega
end Rtc
open Rtc
structure SlKz where
  ad : Option Addr
  cap : Nat
  l : List Kpz
def SlKz.v (s : SlKz) : Value := .slice s.ad s.l.length s.cap
structure SlKz.ok (w : World) (s : SlKz) : Prop where
  len : s.l.length ≤ s.cap
  reads : Reads w s.ad (kpys s.l).flatten
  all : ∀ k ∈ s.l, k.ok
/-- a session that comes in: its cells, its kept keys -/
structure SeA where
  s : Sez
  k : SlKz
def SeA.v (a : SeA) : Value := .agg (sey a.s a.k.v).toArray
structure SeA.ok (w : World) (a : SeA) : Prop where
  s : a.s.ok
  e : a.k.l = a.s.kept
  k : a.k.ok w
end Go.Proofs.YtbhlcnimjoppeaaDoor

/-
  Of no statement by itself: what the reference's may and Right, and the laws' great and speaks of layer 19 give.
  Conditions: each theorem's own.
-/
namespace Go.Proofs.YtbhlcnimjoppeaaDoor
set_option maxRecDepth 10000
open Sl Sha Str Crv Rtc
open Dsk (Bk)
/-! ### rows of kept keys of any numbers -/
theorem SlKz.ok.at {w : World} {s : SlKz} (h : s.ok w) {i : Nat} (hi : i < s.l.length) : ∃ b j, s.ad = some ⟨b, j, none⟩ ∧ b < w.heap.size ∧ ∀ k u, (kpy (s.l.getD i noKz))[k]? = some u → w.cell? ⟨b, j + i * 65 + k, none⟩ = some u := by
  have hl : (kpys s.l).flatten.length = s.l.length * 65 := by rw [chunk_len (kpys_all h.all), kpys_len]
  have h0 : 0 < (kpys s.l).flatten.length := by omega
  obtain ⟨b, j, e, hc⟩ := h.reads.at h0
  refine ⟨b, j, e, ?_, fun k u hu => ?_⟩
  · obtain ⟨v, hv⟩ : ∃ v, (kpys s.l).flatten[0]? = some v := ⟨_, List.getElem?_eq_getElem h0⟩
    exact block_lt_of_cell (hc 0 v hv)
  · have hat := chunk_at (i := i) (kpys_all h.all) (by rw [kpys_len]; exact hi)
    rw [kpys_at _ hi] at hat
    rw [← hat, List.getElem?_take] at hu
    split at hu
    · rw [List.getElem?_drop] at hu
      rw [Nat.add_assoc]
      exact hc _ u hu
    · cases hu
theorem SlKz.mem {s : SlKz} {i : Nat} (hi : i < s.l.length) : s.l.getD i noKz ∈ s.l := by
  rw [List.getD_eq_getElem?_getD, List.getElem?_eq_getElem hi]
  exact List.getElem_mem hi
/-- the same row, its numbers counts -/
def SlKz.nat (s : SlKz) : SlK := ⟨s.ad, s.cap, s.l.map Kpz.nat⟩
theorem SlKz.nat_v (s : SlKz) : s.nat.v = s.v := by simp [SlKz.nat, SlK.v, SlKz.v]
theorem SlKz.nat_ok {w : World} {s : SlKz} (h : s.ok w) {t : Sez} (ht : RightZ t) (hto : t.ok) (e : s.l = t.kept) : s.nat.ok w := by
  refine ⟨by simpa [SlKz.nat] using h.len, ?_, ?_⟩
  · have h1 := ht.kept
    have h2 := h.reads
    rw [e, h1] at h2
    show Reads w s.ad (kpcs (s.l.map Kpz.nat)).flatten
    rw [e]
    exact h2
  · show ∀ x ∈ s.l.map Kpz.nat, x.ok
    rw [e]
    exact (Sez.nat_ok hto).kept
/-! ### may, Right -/
theorem mayI_iff (a : Int) : mayI a = true ↔ mayZ a := by simp [mayI, mayZ]
theorem goes_rmay : Goes Tryd.prog 22 := ⟨_, Tryd.func22, rfl, by kernel_rfl⟩
set_option maxHeartbeats 4000000 in
theorem rmay_any (a : Int) (w : World) : Calls Tryd.prog 22 [I a].toArray w fun e w' => e = .returned (.bool (mayI a)) ∧ Ext w w' := by
  refine enter (n := 9) Tryd.func22 rfl rfl rfl (Holds.start w []) ?_
  unfold mayI
  obtain ⟨c1, h1⟩ : ∃ c, decide ((0 : Int) ≤ a) = c := ⟨_, rfl⟩
  obtain ⟨c2, h2⟩ : ∃ c, decide (a ≤ 2147483647) = c := ⟨_, rfl⟩
  rw [h1, h2]
  cases c1
  · repeat (first | refine JL.q (by first | (apply OQ.geqB (b := 0); exact rfl; exact rfl; exact h1) | (apply OQ.pick_f; exact rfl; exact rfl) | (apply OQ.move; exact rfl) | (apply OQ.assign; exact rfl)) rfl ?_ | refine JC.seq ?_ | refine JC.region ?_ | refine JL.nil ?_ | refine JE.next ?_ | refine JL.gskip rfl rfl rfl rfl ?_)
    exact JC.ret (JE.ret1 rfl (RV.tmp rfl) fun w' hw => ⟨rfl, hw.chg⟩)
  · repeat (first | refine JL.q (by first | (apply OQ.geqB (b := 0); exact rfl; exact rfl; exact h1) | (apply OQ.leqB (b := 2147483647); exact rfl; exact rfl; exact h2) | (apply OQ.pick_t; exact rfl; exact rfl) | (apply OQ.move; exact rfl) | (apply OQ.assign; exact rfl)) rfl ?_ | refine JC.seq ?_ | refine JC.region ?_ | refine JL.nil ?_ | refine JE.next ?_ | refine JL.gon rfl rfl ?_)
    exact JC.ret (JE.ret1 rfl (RV.tmp rfl) fun w' hw => ⟨rfl, hw.chg⟩)
section
variable {n : Nat} {E : Env} {C : World → Prop} {dst : Option Tmp} {t t' ty : TypeId} {pos : String} {aft : Array Edge} {g : Option (Nat × Bool)} {x y : Operand}
theorem OQ.zkey : OQ Tryd.prog n E C ⟨dst, .build 23 #[], ty, pos, aft, g⟩ (.agg (z32.map U8).toArray) := OQ.pure rfl rfl (by kernel_rfl)
theorem OQ.neKc {r q : Bk} {c : Bool} (hr : r.length = 32) (hq : q.length = 32) (hx : ev E x = some (.agg (r.map U8).toArray)) (hy : ev E y = some (.agg (q.map U8).toArray)) (h : decide (r = q) = c) : OQ Tryd.prog n E C ⟨dst, .binOp .neq 23 x y t', ty, pos, aft, g⟩ (.bool (!c)) :=
  h ▸ OQ.neA Tryd.underlying23 Tryd.underlying5 u8s k32gR hx hy hr hq
theorem OQ.eqKc {r q : Bk} {c : Bool} (hr : r.length = 32) (hq : q.length = 32) (hx : ev E x = some (.agg (r.map U8).toArray)) (hy : ev E y = some (.agg (q.map U8).toArray)) (h : decide (r = q) = c) : OQ Tryd.prog n E C ⟨dst, .binOp .eql 23 x y t', ty, pos, aft, g⟩ (.bool c) :=
  h ▸ OQ.eqA Tryd.underlying23 Tryd.underlying5 u8s k32gR hx hy hr hq
end
theorem kpy_num {k : Kpz} (h : k.ok) : (kpy k)[32]? = some (I k.num) := by simp [kpy, h.c]
theorem goes_rright : Goes Tryd.prog 8 := ⟨_, Tryd.func8, rfl, by kernel_rfl⟩
set_option maxHeartbeats 64000000 in
theorem rright_any (s : Sez) (k : SlKz) (hs : s.ok) (he : k.l = s.kept) (w : World) (hk : k.ok w) : Calls Tryd.prog 8 [.agg (sey s k.v).toArray].toArray w fun e w' => ∃ r : {b : Bool // b = true ↔ RightZ s}, e = .returned (.bool r.1) ∧ Ext w w' := by
  have l3 : (s.other.map U8).length = 32 := by rw [List.length_map]; exact hs.other
  have l4 : (s.send.map U8).length = 32 := by rw [List.length_map]; exact hs.send
  have l5 : (s.take.map U8).length = 32 := by rw [List.length_map]; exact hs.take
  have hkp : ∀ o, Row 26 (sey s k.v) o → cellAt o 165 = some k.v := Row.cell (sey_kept hs _)
  have hsn : ∀ o, Row 26 (sey s k.v) o → cellAt o 162 = some (I s.sent) := Row.cell (sey_sent hs _)
  have htk : ∀ o, Row 26 (sey s k.v) o → cellAt o 163 = some (I s.taken) := Row.cell (sey_taken hs _)
  have hpv : ∀ o, Row 26 (sey s k.v) o → cellAt o 164 = some (I s.prev) := Row.cell (sey_prev hs _)
  have c1 := fun w' => rmay_any s.sent w'
  have c2 := fun w' => rmay_any s.taken w'
  have c3 := fun w' => rmay_any s.prev w'
  have i1 := mayI_iff s.sent
  have i2 := mayI_iff s.taken
  have i3 := mayI_iff s.prev
  refine enter (n := 111) Tryd.func8 rfl rfl rfl (Holds.start w []) ?_
  repeat (first | refine JC.seq ?_ | refine JC.region ?_)
  refine JL.box (r := sey s k.v) rfl rfl rfl fun b1 _ => ?_
  obtain ⟨m1, hm1⟩ : ∃ m, mayI s.sent = m := ⟨_, rfl⟩
  obtain ⟨m2, hm2⟩ : ∃ m, mayI s.taken = m := ⟨_, rfl⟩
  obtain ⟨m3, hm3⟩ : ∃ m, mayI s.prev = m := ⟨_, rfl⟩
  obtain ⟨m4, hm4⟩ : ∃ m, decide ((2000 : Int) < ((k.l.length : Nat) : Int)) = m := ⟨_, rfl⟩
  rw [hm1] at c1 i1
  rw [hm2] at c2 i2
  rw [hm3] at c3 i3
  cases m1
  case' true => cases m2
  case' true.true => cases m3
  case' true.true.true => cases m4
  case false =>
    have hno : ¬ RightZ s := fun h => absurd (i1.2 h.sent) (by decide)
    repeat (first | refine JL.q (by first | (apply OQ.load; exact intCr; exact rfl; exact .here; exact hsn) | (apply OQ.callx (vs := [I s.sent]); exact goes_rmay; exact rfl; exact (fun w' _ => c1 w')) | (apply OQ.not; exact rfl) | (apply OQ.pick_t; exact rfl; exact rfl) | (apply OQ.move; exact rfl) | (apply OQ.assign; exact rfl) | (apply OQ.fld; exact rfl; exact rfl; exact rfl; exact (by decide); exact rfl)) rfl ?_ | refine JC.seq ?_ | refine JC.region ?_ | refine JL.nil ?_ | refine JE.next ?_ | refine JL.gskip rfl rfl rfl rfl ?_)
    refine JC.cond_true rfl rfl ?_
    repeat (first | refine JL.q (by (apply OQ.assign; exact rfl)) rfl ?_ | refine JC.seq ?_ | refine JC.region ?_ | refine JL.nil ?_ | refine JE.next ?_)
    refine JC.ret ?_
    repeat (refine JE.then_ret ?_)
    exact JE.ret1 rfl (RV.tmp rfl) fun w' hw => ⟨⟨false, ⟨nofun, fun h => absurd h hno⟩⟩, rfl, hw.chg⟩
  case true.false =>
    have hno : ¬ RightZ s := fun h => absurd (i2.2 h.taken) (by decide)
    repeat (first | refine JL.q (by first | (apply OQ.load; exact intCr; exact rfl; exact .here; exact hsn) | (apply OQ.load; exact intCr; exact rfl; exact .here; exact htk) | (apply OQ.callx (vs := [I s.sent]); exact goes_rmay; exact rfl; exact (fun w' _ => c1 w')) | (apply OQ.callx (vs := [I s.taken]); exact goes_rmay; exact rfl; exact (fun w' _ => c2 w')) | (apply OQ.not; exact rfl) | (apply OQ.pick_t; exact rfl; exact rfl) | (apply OQ.pick_f; exact rfl; exact rfl) | (apply OQ.move; exact rfl) | (apply OQ.assign; exact rfl) | (apply OQ.fld; exact rfl; exact rfl; exact rfl; exact (by decide); exact rfl)) rfl ?_ | refine JC.seq ?_ | refine JC.region ?_ | refine JL.nil ?_ | refine JE.next ?_ | refine JL.gon rfl rfl ?_ | refine JL.gskip rfl rfl rfl rfl ?_)
    refine JC.cond_true rfl rfl ?_
    repeat (first | refine JL.q (by (apply OQ.assign; exact rfl)) rfl ?_ | refine JC.seq ?_ | refine JC.region ?_ | refine JL.nil ?_ | refine JE.next ?_)
    refine JC.ret ?_
    repeat (refine JE.then_ret ?_)
    exact JE.ret1 rfl (RV.tmp rfl) fun w' hw => ⟨⟨false, ⟨nofun, fun h => absurd h hno⟩⟩, rfl, hw.chg⟩
  case true.true.false =>
    have hno : ¬ RightZ s := fun h => absurd (i3.2 h.prev) (by decide)
    repeat (first | refine JL.q (by first | (apply OQ.load; exact intCr; exact rfl; exact .here; exact hsn) | (apply OQ.load; exact intCr; exact rfl; exact .here; exact htk) | (apply OQ.load; exact intCr; exact rfl; exact .here; exact hpv) | (apply OQ.callx (vs := [I s.sent]); exact goes_rmay; exact rfl; exact (fun w' _ => c1 w')) | (apply OQ.callx (vs := [I s.taken]); exact goes_rmay; exact rfl; exact (fun w' _ => c2 w')) | (apply OQ.callx (vs := [I s.prev]); exact goes_rmay; exact rfl; exact (fun w' _ => c3 w')) | (apply OQ.not; exact rfl) | (apply OQ.pick_t; exact rfl; exact rfl) | (apply OQ.pick_f; exact rfl; exact rfl) | (apply OQ.move; exact rfl) | (apply OQ.assign; exact rfl) | (apply OQ.fld; exact rfl; exact rfl; exact rfl; exact (by decide); exact rfl)) rfl ?_ | refine JC.seq ?_ | refine JC.region ?_ | refine JL.nil ?_ | refine JE.next ?_ | refine JL.gon rfl rfl ?_ | refine JL.gskip rfl rfl rfl rfl ?_)
    refine JC.cond_true rfl rfl ?_
    repeat (first | refine JL.q (by (apply OQ.assign; exact rfl)) rfl ?_ | refine JC.seq ?_ | refine JC.region ?_ | refine JL.nil ?_ | refine JE.next ?_)
    refine JC.ret ?_
    repeat (refine JE.then_ret ?_)
    exact JE.ret1 rfl (RV.tmp rfl) fun w' hw => ⟨⟨false, ⟨nofun, fun h => absurd h hno⟩⟩, rfl, hw.chg⟩
  case true.true.true.true =>
    have hno : ¬ RightZ s := fun h => absurd h.len (by have := of_decide_eq_true hm4; rw [he] at this; omega)
    repeat (first | refine JL.q (by first | (apply OQ.load; exact intCr; exact rfl; exact .here; exact hsn) | (apply OQ.load; exact intCr; exact rfl; exact .here; exact htk) | (apply OQ.load; exact intCr; exact rfl; exact .here; exact hpv) | (apply OQ.load; exact slkC; exact rfl; exact .here; exact hkp) | (apply OQ.len (k := k.l.length) (ad := k.ad) (cap := k.cap); exact Tryd.underlying24; exact rfl) | (apply OQ.gtrB (b := 2000); exact rfl; exact rfl; exact hm4) | (apply OQ.callx (vs := [I s.sent]); exact goes_rmay; exact rfl; exact (fun w' _ => c1 w')) | (apply OQ.callx (vs := [I s.taken]); exact goes_rmay; exact rfl; exact (fun w' _ => c2 w')) | (apply OQ.callx (vs := [I s.prev]); exact goes_rmay; exact rfl; exact (fun w' _ => c3 w')) | (apply OQ.not; exact rfl) | (apply OQ.pick_f; exact rfl; exact rfl) | (apply OQ.move; exact rfl) | (apply OQ.assign; exact rfl) | (apply OQ.fld; exact rfl; exact rfl; exact rfl; exact (by decide); exact rfl)) rfl ?_ | refine JC.seq ?_ | refine JC.region ?_ | refine JL.nil ?_ | refine JE.next ?_ | refine JL.gon rfl rfl ?_)
    refine JC.cond_true rfl rfl ?_
    repeat (first | refine JL.q (by (apply OQ.assign; exact rfl)) rfl ?_ | refine JC.seq ?_ | refine JC.region ?_ | refine JL.nil ?_ | refine JE.next ?_)
    refine JC.ret ?_
    repeat (refine JE.then_ret ?_)
    exact JE.ret1 rfl (RV.tmp rfl) fun w' hw => ⟨⟨false, ⟨nofun, fun h => absurd h hno⟩⟩, rfl, hw.chg⟩
  have r1 := i1.1 rfl
  have r2 := i2.1 rfl
  have r3 := i3.1 rfl
  have r4 : s.kept.length ≤ 2000 := by have := of_decide_eq_false hm4; rw [he] at this; omega
  repeat (first | refine JL.q (by first | (apply OQ.load; exact intCr; exact rfl; exact .here; exact hsn) | (apply OQ.load; exact intCr; exact rfl; exact .here; exact htk) | (apply OQ.load; exact intCr; exact rfl; exact .here; exact hpv) | (apply OQ.load; exact slkC; exact rfl; exact .here; exact hkp) | (apply OQ.len (k := k.l.length) (ad := k.ad) (cap := k.cap); exact Tryd.underlying24; exact rfl) | (apply OQ.gtrB (b := 2000); exact rfl; exact rfl; exact hm4) | (apply OQ.callx (vs := [I s.sent]); exact goes_rmay; exact rfl; exact (fun w' _ => c1 w')) | (apply OQ.callx (vs := [I s.taken]); exact goes_rmay; exact rfl; exact (fun w' _ => c2 w')) | (apply OQ.callx (vs := [I s.prev]); exact goes_rmay; exact rfl; exact (fun w' _ => c3 w')) | (apply OQ.not; exact rfl) | (apply OQ.pick_f; exact rfl; exact rfl) | (apply OQ.move; exact rfl) | (apply OQ.assign; exact rfl) | (apply OQ.fld; exact rfl; exact rfl; exact rfl; exact (by decide); exact rfl)) rfl ?_ | refine JC.seq ?_ | refine JC.region ?_ | refine JL.nil ?_ | refine JE.next ?_ | refine JL.gon rfl rfl ?_)
  refine JC.cond_false rfl rfl ?_
  refine JC.skip (JE.next ?_)
  obtain ⟨t1, ht1⟩ : ∃ t, s.sends = t := ⟨_, rfl⟩
  obtain ⟨t2, ht2⟩ : ∃ t, s.takes = t := ⟨_, rfl⟩
  obtain ⟨d1, hd1⟩ : ∃ d, decide (s.send = z32) = d := ⟨_, rfl⟩
  obtain ⟨d2, hd2⟩ : ∃ d, decide (s.take = z32) = d := ⟨_, rfl⟩
  obtain ⟨d3, hd3⟩ : ∃ d, decide (s.other = z32) = d := ⟨_, rfl⟩
  have hse : ∀ o, Row 26 (sey s k.v) o → cellAt o 96 = some (.bool t1) := by rw [← ht1]; exact Row.cell (sey_sends hs _)
  have hta : ∀ o, Row 26 (sey s k.v) o → cellAt o 97 = some (.bool t2) := by rw [← ht2]; exact Row.cell (sey_takes hs _)
  obtain ⟨zb, hzb⟩ : ∃ zb, ((t1 || d1) && ((t2 || d2) && (t1 || (t2 || d3)))) = zb := ⟨_, rfl⟩
  have hiff : zb = true ↔ ((s.sends = false → s.send = z32) ∧ (s.takes = false → s.take = z32) ∧ (s.sends = false → s.takes = false → s.other = z32)) := by
    rw [← hzb, ← ht1, ← ht2, ← hd1, ← hd2, ← hd3]
    cases s.sends <;> cases s.takes <;> simp
  cases zb
  · have hno : ¬ RightZ s := fun h => absurd (hiff.2 ⟨h.send, h.take, h.other⟩) (by decide)
    clear hiff
    cases t1 <;> cases t2 <;> cases d1 <;> cases d2 <;> cases d3
    all_goals first
      | (exact absurd hzb (by decide))
      | skip
    all_goals
      repeat (first | refine JL.q (by first | (apply OQ.load; exact boolCr; exact rfl; exact .here; exact hse) | (apply OQ.load; exact boolCr; exact rfl; exact .here; exact hta) | (apply OQ.load_agg (cs := s.send.map U8); exact k32a; exact k32s; exact rfl; exact .here; exact l4; exact (Row.cells (sey_send hs _))) | (apply OQ.load_agg (cs := s.take.map U8); exact k32a; exact k32s; exact rfl; exact .here; exact l5; exact (Row.cells (sey_take hs _))) | (apply OQ.load_agg (cs := s.other.map U8); exact k32a; exact k32s; exact rfl; exact .here; exact l3; exact (Row.cells (sey_other hs _))) | (apply OQ.zkey) | (apply OQ.neKc (q := z32); exact hs.send; exact rfl; exact rfl; exact rfl; exact hd1) | (apply OQ.neKc (q := z32); exact hs.take; exact rfl; exact rfl; exact rfl; exact hd2) | (apply OQ.neKc (q := z32); exact hs.other; exact rfl; exact rfl; exact rfl; exact hd3) | (apply OQ.not; exact rfl) | (apply OQ.pick_t; exact rfl; exact rfl) | (apply OQ.pick_f; exact rfl; exact rfl) | (apply OQ.move; exact rfl) | (apply OQ.fld; exact rfl; exact rfl; exact rfl; exact (by decide); exact rfl)) rfl ?_ | refine JC.seq ?_ | refine JC.region ?_ | refine JL.nil ?_ | refine JE.next ?_ | refine JL.gon rfl rfl ?_ | refine JL.gskip rfl rfl rfl rfl ?_ | refine JL.gskipU rfl rfl rfl rfl ?_)
      refine JC.cond_true rfl rfl ?_
      repeat (first | refine JL.q (by (apply OQ.assign; exact rfl)) rfl ?_ | refine JC.seq ?_ | refine JC.region ?_ | refine JL.nil ?_ | refine JE.next ?_)
      refine JC.ret ?_
      repeat (refine JE.then_ret ?_)
      exact JE.ret1 rfl (RV.tmp rfl) fun w' hw => ⟨⟨false, ⟨nofun, fun h => absurd h hno⟩⟩, rfl, hw.chg⟩
  · have hz0 := hiff.1 rfl
    clear hiff
    refine JC.mid (ι := Unit) (fun _ => [(1, Pt b1 0)]) (fun _ => [⟨b1, Row 26 (sey s k.v), true⟩]) (fun _ => True) ?_ ?_
    · cases t1 <;> cases t2 <;> cases d1 <;> cases d2 <;> cases d3
      all_goals first
        | (exact absurd hzb (by decide))
        | skip
      all_goals
        repeat (first | refine JL.q (by first | (apply OQ.load; exact boolCr; exact rfl; exact .here; exact hse) | (apply OQ.load; exact boolCr; exact rfl; exact .here; exact hta) | (apply OQ.load_agg (cs := s.send.map U8); exact k32a; exact k32s; exact rfl; exact .here; exact l4; exact (Row.cells (sey_send hs _))) | (apply OQ.load_agg (cs := s.take.map U8); exact k32a; exact k32s; exact rfl; exact .here; exact l5; exact (Row.cells (sey_take hs _))) | (apply OQ.load_agg (cs := s.other.map U8); exact k32a; exact k32s; exact rfl; exact .here; exact l3; exact (Row.cells (sey_other hs _))) | (apply OQ.zkey) | (apply OQ.neKc (q := z32); exact hs.send; exact rfl; exact rfl; exact rfl; exact hd1) | (apply OQ.neKc (q := z32); exact hs.take; exact rfl; exact rfl; exact rfl; exact hd2) | (apply OQ.neKc (q := z32); exact hs.other; exact rfl; exact rfl; exact rfl; exact hd3) | (apply OQ.not; exact rfl) | (apply OQ.pick_t; exact rfl; exact rfl) | (apply OQ.pick_f; exact rfl; exact rfl) | (apply OQ.move; exact rfl) | (apply OQ.fld; exact rfl; exact rfl; exact rfl; exact (by decide); exact rfl)) rfl ?_ | refine JC.seq ?_ | refine JC.region ?_ | refine JL.nil ?_ | refine JE.next ?_ | refine JL.gon rfl rfl ?_ | refine JL.gskip rfl rfl rfl rfl ?_)
        refine JC.cond_false rfl rfl ?_
        repeat (refine JC.skip ?_)
        exact JE.mid () trivial (by repeat (first | exact SubE.nil | refine SubE.cons _ _ _ rfl ?_)) (Less.refl _)
    rintro _ _
    repeat (first | refine JL.q (by (apply OQ.assign; exact rfl)) rfl ?_ | refine JC.seq ?_ | refine JC.region ?_ | refine JC.block ?_ | refine JL.nil ?_ | refine JE.next ?_)
    refine JC.loop (fun i : Nat => [(1, Pt b1 0), (3, N i)]) (fun _ => [⟨b1, Row 26 (sey s k.v), true⟩]) (fun i => k.l.length - i) (fun i => i ≤ k.l.length ∧ ∀ j, j < i → mayZ (k.l.getD j noKz).num ∧ ∀ k', k' < j → ¬ ((k.l.getD k' noKz).num = (k.l.getD j noKz).num ∧ (k.l.getD k' noKz).chain = (k.l.getD j noKz).chain)) 0 ⟨Nat.zero_le _, fun j hj => absurd hj (Nat.not_lt_zero _)⟩ (by repeat (first | exact SubE.nil | refine SubE.cons _ _ _ rfl ?_)) (Less.refl _) ?_
    rintro i ⟨hi, hin⟩
    repeat (first | refine JL.q (by first | (apply OQ.load; exact slkC; exact rfl; exact .here; exact hkp) | (apply OQ.len (k := k.l.length) (ad := k.ad) (cap := k.cap); exact Tryd.underlying24; exact rfl) | (apply OQ.lssN (a := i) (b := k.l.length); exact rfl; exact rfl) | (apply OQ.move; exact rfl) | (apply OQ.fld; exact rfl; exact rfl; exact rfl; exact (by decide); exact rfl)) rfl ?_ | refine JC.seq ?_ | refine JC.region ?_ | refine JL.nil ?_ | refine JE.next ?_)
    refine JC.cond rfl (fun hc => ?_) (fun hc => ?_)
    · have hi' : i < k.l.length := of_decide_eq_true hc
      clear hc
      obtain ⟨ba, ja, eA, la, cA⟩ := hk.at hi'
      have hok := hk.all _ (SlKz.mem hi')
      have vA : k.v = .slice (some ⟨ba, ja, none⟩) k.l.length k.cap := by rw [← eA]; rfl
      have hkp2 : ∀ o, Row 26 (sey s k.v) o → cellAt o 165 = some (.slice (some ⟨ba, ja, none⟩) k.l.length k.cap) := by rw [← vA]; exact hkp
      have cN := cA 32 _ (kpy_num hok)
      have cM := fun w' => rmay_any (k.l.getD i noKz).num w'
      have iM := mayI_iff (k.l.getD i noKz).num
      have cC : ∀ m u, ((k.l.getD i noKz).chain.map U8)[m]? = some u → w.cell? ⟨ba, ja + i * 65 + m, none⟩ = some u := fun m u hu => by
        refine cA m u ?_
        have hm : m < ((k.l.getD i noKz).chain.map U8).length := (List.getElem?_eq_some_iff.1 hu).1
        rw [kpy, List.getElem?_append_left hm]
        exact hu
      have lC : ((k.l.getD i noKz).chain.map U8).length = 32 := by rw [List.length_map]; exact hok.c
      obtain ⟨mm, hmm⟩ : ∃ m, mayI (k.l.getD i noKz).num = m := ⟨_, rfl⟩
      rw [hmm] at cM iM
      cases mm
      · have hno : ¬ RightZ s := fun h => by
          have := h.num i (by rw [← he]; exact hi')
          rw [← he] at this
          exact absurd (iM.2 this) (by decide)
        repeat (first | refine JL.q (by first | (apply OQ.load; exact slkC; exact rfl; exact .here; exact hkp2) | (apply OQ.idxS (i := i) (len := k.l.length) (cap := k.cap) (b := ba) (j := ja); exact Tryd.underlying24; exact kpS; exact rfl; exact rfl; exact hi') | (apply OQ.load_old; exact intCr; exact rfl; exact la; exact (by simp); exact cN) | (apply OQ.callx (vs := [I (k.l.getD i noKz).num]); exact goes_rmay; exact rfl; exact (fun w' _ => cM w')) | (apply OQ.not; exact rfl) | (apply OQ.move; exact rfl) | (apply OQ.fld; exact rfl; exact rfl; exact rfl; exact (by decide); exact rfl)) rfl ?_ | refine JC.seq ?_ | refine JC.region ?_ | refine JC.block ?_ | refine JC.skip ?_ | refine JL.nil ?_ | refine JE.next ?_)
        refine JC.cond_true rfl rfl ?_
        repeat (first | refine JL.q (by (apply OQ.assign; exact rfl)) rfl ?_ | refine JC.seq ?_ | refine JC.region ?_ | refine JL.nil ?_ | refine JE.next ?_)
        refine JC.ret ?_
        repeat (first | refine JE.then_ret ?_ | refine JE.blk_ret ?_)
        exact JE.ret1 rfl (RV.tmp rfl) fun w' hw => ⟨⟨false, ⟨nofun, fun h => absurd h hno⟩⟩, rfl, hw.chg⟩
      have hmz := iM.1 rfl
      repeat (first | refine JL.q (by first | (apply OQ.load; exact slkC; exact rfl; exact .here; exact hkp2) | (apply OQ.idxS (i := i) (len := k.l.length) (cap := k.cap) (b := ba) (j := ja); exact Tryd.underlying24; exact kpS; exact rfl; exact rfl; exact hi') | (apply OQ.load_old; exact intCr; exact rfl; exact la; exact (by simp); exact cN) | (apply OQ.callx (vs := [I (k.l.getD i noKz).num]); exact goes_rmay; exact rfl; exact (fun w' _ => cM w')) | (apply OQ.not; exact rfl) | (apply OQ.move; exact rfl) | (apply OQ.fld; exact rfl; exact rfl; exact rfl; exact (by decide); exact rfl)) rfl ?_ | refine JC.seq ?_ | refine JC.region ?_ | refine JC.block ?_ | refine JC.skip ?_ | refine JL.nil ?_ | refine JE.next ?_)
      refine JC.cond_false rfl rfl ?_
      repeat (first | refine JL.q (by (apply OQ.assign; exact rfl)) rfl ?_ | refine JC.seq ?_ | refine JC.region ?_ | refine JC.block ?_ | refine JC.skip ?_ | refine JL.nil ?_ | refine JE.next ?_)
      refine JC.loop (fun j : Nat => [(1, Pt b1 0), (3, N i), (4, N j)]) (fun _ => [⟨b1, Row 26 (sey s k.v), true⟩]) (fun j => i - j) (fun j => j ≤ i ∧ ∀ k', k' < j → ¬ ((k.l.getD k' noKz).num = (k.l.getD i noKz).num ∧ (k.l.getD k' noKz).chain = (k.l.getD i noKz).chain)) 0 ⟨Nat.zero_le _, fun j hj => absurd hj (Nat.not_lt_zero _)⟩ (by repeat (first | exact SubE.nil | refine SubE.cons _ _ _ rfl ?_)) (Less.refl _) ?_
      rintro j ⟨hj, hjn⟩
      repeat (first | refine JL.q (by first | (apply OQ.lssN (a := j) (b := i); exact rfl; exact rfl) | (apply OQ.move; exact rfl)) rfl ?_ | refine JC.seq ?_ | refine JC.region ?_ | refine JL.nil ?_ | refine JE.next ?_)
      refine JC.cond rfl (fun hc => ?_) (fun hc => ?_)
      · have hj' : j < i := of_decide_eq_true hc
        clear hc
        have hj2 : j < k.l.length := by omega
        obtain ⟨bb, jb, eB, lb, cB⟩ := hk.at hj2
        have hokb := hk.all _ (SlKz.mem hj2)
        obtain ⟨rfl, rfl⟩ : bb = ba ∧ jb = ja := by rw [eA] at eB; cases eB; exact ⟨rfl, rfl⟩
        have cNb := cB 32 _ (kpy_num hokb)
        have cCb : ∀ m u, ((k.l.getD j noKz).chain.map U8)[m]? = some u → w.cell? ⟨bb, jb + j * 65 + m, none⟩ = some u := fun m u hu => by
          refine cB m u ?_
          have hm : m < ((k.l.getD j noKz).chain.map U8).length := (List.getElem?_eq_some_iff.1 hu).1
          rw [kpy, List.getElem?_append_left hm]
          exact hu
        have lCb : ((k.l.getD j noKz).chain.map U8).length = 32 := by rw [List.length_map]; exact hokb.c
        obtain ⟨e1, he1⟩ : ∃ e, decide ((k.l.getD j noKz).num = (k.l.getD i noKz).num) = e := ⟨_, rfl⟩
        obtain ⟨e2, he2⟩ : ∃ e, decide ((k.l.getD j noKz).chain = (k.l.getD i noKz).chain) = e := ⟨_, rfl⟩
        have hone : (e1 && e2) = true → ¬ RightZ s := fun h hr => by
          rw [Bool.and_eq_true] at h
          obtain ⟨rfl, rfl⟩ := h
          have := hr.one i (by rw [← he]; exact hi') j hj'
          rw [← he] at this
          exact this ⟨of_decide_eq_true he1, of_decide_eq_true he2⟩
        have hnot : (e1 && e2) = false → ¬ ((k.l.getD j noKz).num = (k.l.getD i noKz).num ∧ (k.l.getD j noKz).chain = (k.l.getD i noKz).chain) := fun h hr => by
          rw [← he1, ← he2, decide_eq_true hr.1, decide_eq_true hr.2] at h
          cases h
        generalize hnj : (k.l.getD j noKz).num = nj at *
        generalize hcj : (k.l.getD j noKz).chain = cj at *
        have hcl := hokb.c
        rw [hcj] at hcl
        refine JC.skip (JE.next ?_)
        refine JC.seq (JC.block ?_)
        refine JC.seq ?_
        refine JC.quiet mixT (by kernel_rfl) ?_
        cases e1
        case' true => cases e2
        case true.true =>
          have hno := hone rfl
          repeat (first | refine JQ.q (by first | (apply OQ.load; exact slkC; exact rfl; exact .here; exact hkp2) | (apply OQ.idxS (i := j) (len := k.l.length) (cap := k.cap) (b := bb) (j := jb); exact Tryd.underlying24; exact kpS; exact rfl; exact rfl; exact hj2) | (apply OQ.idxS (i := i) (len := k.l.length) (cap := k.cap) (b := bb) (j := jb); exact Tryd.underlying24; exact kpS; exact rfl; exact rfl; exact hi') | (apply OQ.load_old; exact intCr; exact rfl; exact lb; exact (by simp); exact cNb) | (apply OQ.load_old; exact intCr; exact rfl; exact la; exact (by simp); exact cN) | (apply OQ.load_agg_old (cs := cj.map U8); exact k32a; exact rfl; exact (lCb ▸ k32s); exact lb; exact (by simp); exact cCb) | (apply OQ.load_agg_old (cs := (k.l.getD i noKz).chain.map U8); exact k32a; exact rfl; exact (lC ▸ k32s); exact la; exact (by simp); exact cC) | (apply OQ.eqB; exact rfl; exact rfl; exact he1) | (apply OQ.eqKc; exact hcl; exact hok.c; exact rfl; exact rfl; exact he2) | (apply OQ.pick_t; exact rfl; exact rfl) | (apply OQ.move; exact rfl) | (apply OQ.fld; exact rfl; exact rfl; exact rfl; exact (by decide); exact rfl)) rfl ?_ | refine JQ.nil ?_ | refine JE.next ?_ | refine JQ.gon rfl rfl ?_)
          refine JC.cond_true rfl rfl ?_
          repeat (first | refine JL.q (by (apply OQ.assign; exact rfl)) rfl ?_ | refine JC.seq ?_ | refine JC.region ?_ | refine JL.nil ?_ | refine JE.next ?_)
          refine JC.ret ?_
          repeat (first | refine JE.then_ret ?_ | refine JE.blk_ret ?_)
          exact JE.ret1 rfl (RV.tmp rfl) fun w' hw => ⟨⟨false, ⟨nofun, fun h => absurd h hno⟩⟩, rfl, hw.chg⟩
        all_goals
          have hn := hnot rfl
          repeat (first | refine JQ.q (by first | (apply OQ.load; exact slkC; exact rfl; exact .here; exact hkp2) | (apply OQ.idxS (i := j) (len := k.l.length) (cap := k.cap) (b := bb) (j := jb); exact Tryd.underlying24; exact kpS; exact rfl; exact rfl; exact hj2) | (apply OQ.idxS (i := i) (len := k.l.length) (cap := k.cap) (b := bb) (j := jb); exact Tryd.underlying24; exact kpS; exact rfl; exact rfl; exact hi') | (apply OQ.load_old; exact intCr; exact rfl; exact lb; exact (by simp); exact cNb) | (apply OQ.load_old; exact intCr; exact rfl; exact la; exact (by simp); exact cN) | (apply OQ.load_agg_old (cs := cj.map U8); exact k32a; exact rfl; exact (lCb ▸ k32s); exact lb; exact (by simp); exact cCb) | (apply OQ.load_agg_old (cs := (k.l.getD i noKz).chain.map U8); exact k32a; exact rfl; exact (lC ▸ k32s); exact la; exact (by simp); exact cC) | (apply OQ.eqB; exact rfl; exact rfl; exact he1) | (apply OQ.eqKc; exact hcl; exact hok.c; exact rfl; exact rfl; exact he2) | (apply OQ.pick_t; exact rfl; exact rfl) | (apply OQ.pick_f; exact rfl; exact rfl) | (apply OQ.move; exact rfl) | (apply OQ.fld; exact rfl; exact rfl; exact rfl; exact (by decide); exact rfl)) rfl ?_ | refine JQ.nil ?_ | refine JE.next ?_ | refine JQ.gon rfl rfl ?_ | refine JQ.gskip rfl rfl rfl rfl ?_)
          refine JC.cond_false rfl rfl ?_
          repeat (first | refine JL.q (by first | (apply OQ.addN (a := j) (b := 1); exact rfl; exact rfl; exact (by have hjx := hj2; have hjr := r4; rw [he] at hjx; omega)) | (apply OQ.move; exact rfl) | (apply OQ.assign; exact rfl)) rfl ?_ | refine JC.region ?_ | refine JC.skip ?_ | refine JL.nil ?_ | refine JE.next ?_ | refine JE.blk_normal ?_)
          refine JE.again (i := j) (j + 1) ⟨by omega, fun k' hk' => ?_⟩ (by omega) (by repeat (first | exact SubE.nil | refine SubE.cons _ _ _ rfl ?_)) (Less.refl _)
          by_cases e : k' = j
          · rw [e]
            rw [hnj, hcj]
            exact hn
          · exact hjn k' (by omega)
      · have hj' : j = i := by have := of_decide_eq_false hc; omega
        subst hj'
        clear hc
        repeat (first | refine JL.q (by first | (apply OQ.addN (a := j) (b := 1); exact rfl; exact rfl; exact (by have hjx := hi'; have hjr := r4; rw [he] at hjx; omega)) | (apply OQ.move; exact rfl) | (apply OQ.assign; exact rfl)) rfl ?_ | refine JC.region ?_ | refine JC.exit ?_ | refine JL.nil ?_ | refine JE.next ?_ | refine JE.blk_normal ?_ | refine JE.then_exit ?_ | refine JE.blk_hit ?_)
        refine JE.again (i := j) (j + 1) ⟨hi', fun j2 hj2 => ?_⟩ (by omega) (by repeat (first | exact SubE.nil | refine SubE.cons _ _ _ rfl ?_)) (Less.refl _)
        by_cases e : j2 = j
        · subst e
          exact ⟨hmz, hjn⟩
        · exact hin j2 (by omega)
    · have hi' : i = k.l.length := by have := of_decide_eq_false hc; omega
      subst hi'
      clear hc
      have hyes : RightZ s := ⟨r1, r2, r3, r4, hz0.1, hz0.2.1, hz0.2.2, fun i hi => by rw [← he] at hi ⊢; exact (hin i hi).1, fun i hi k' hk' => by rw [← he] at hi ⊢; exact (hin i hi).2 k' hk'⟩
      repeat (first | refine JL.q (by (apply OQ.assign; exact rfl)) rfl ?_ | refine JC.seq ?_ | refine JC.region ?_ | refine JC.exit ?_ | refine JL.nil ?_ | refine JE.next ?_ | refine JE.then_exit ?_ | refine JE.blk_hit ?_)
      refine JC.ret ?_
      skip
      exact JE.ret1 rfl (RV.tmp rfl) fun w' hw => ⟨⟨true, ⟨fun _ => hyes, fun _ => rfl⟩⟩, rfl, hw.chg⟩
theorem goes_great19 : Goes Tryd.prog 7 := ⟨_, Tryd.func7, rfl, by kernel_rfl⟩
set_option maxHeartbeats 8000000 in
theorem great19_any (s : Sez) (k : SlKz) (hs : s.ok) (he : k.l = s.kept) (side p : Sl8) (w : World) : ∃ g : Bool, (g = false → s.kept.length ≤ 100 ∧ side.l.length ≤ 500 ∧ p.l.length ≤ 1000) ∧ ∀ w0, Calls Tryd.prog 7 [.agg (sey s k.v).toArray, side.v, p.v].toArray w0 fun e w' => e = .returned (.bool g) ∧ Ext w0 w' := by
  obtain ⟨g1, hg1⟩ : ∃ g, decide ((100 : Int) < ((k.l.length : Nat) : Int)) = g := ⟨_, rfl⟩
  obtain ⟨g2, hg2⟩ : ∃ g, decide ((500 : Int) < ((side.l.length : Nat) : Int)) = g := ⟨_, rfl⟩
  obtain ⟨g3, hg3⟩ : ∃ g, decide ((1000 : Int) < ((p.l.length : Nat) : Int)) = g := ⟨_, rfl⟩
  refine ⟨g1 || (g2 || g3), fun h => ?_, fun w0 => ?_⟩
  · simp only [Bool.or_eq_false_iff] at h
    obtain ⟨rfl, rfl, rfl⟩ := h
    have := of_decide_eq_false hg1
    have := of_decide_eq_false hg2
    have := of_decide_eq_false hg3
    rw [he] at *
    omega
  · refine enter (n := 21) Tryd.func7 rfl rfl rfl (Holds.start w0 []) ?_
    repeat (first | refine JC.seq ?_ | refine JC.region ?_)
    refine JL.box (r := sey s k.v) rfl rfl rfl fun b3 _ => ?_
    have hkp : ∀ o, Row 26 (sey s k.v) o → cellAt o 165 = some k.v := Row.cell (sey_kept hs _)
    cases g1
    case' false => cases g2
    all_goals
      repeat (first | refine JL.q (by first | (apply OQ.load; exact slkC; exact rfl; exact .here; exact hkp) | (apply OQ.len (k := k.l.length) (ad := k.ad) (cap := k.cap); exact Tryd.underlying24; exact rfl) | (apply OQ.gtrB (b := 100); exact rfl; exact rfl; exact hg1) | (apply OQ.len (k := side.l.length) (ad := side.ad) (cap := side.cap); exact Tryd.underlying27; exact rfl) | (apply OQ.gtrB (b := 500); exact rfl; exact rfl; exact hg2) | (apply OQ.len (k := p.l.length) (ad := p.ad) (cap := p.cap); exact Tryd.underlying27; exact rfl) | (apply OQ.gtrB (b := 1000); exact rfl; exact rfl; exact hg3) | (apply OQ.pick_t; exact rfl; exact rfl) | (apply OQ.pick_f; exact rfl; exact rfl) | (apply OQ.move; exact rfl) | (apply OQ.assign; exact rfl) | (apply OQ.fld; exact rfl; exact rfl; exact rfl; exact (by decide); exact rfl)) rfl ?_ | refine JC.seq ?_ | refine JC.region ?_ | refine JL.nil ?_ | refine JE.next ?_ | refine JL.gon rfl rfl ?_ | refine JL.gskip rfl rfl rfl rfl ?_)
      exact JC.ret (JE.ret1 rfl (RV.tmp rfl) fun w' hw => ⟨by simp only [Bool.false_or, Bool.true_or], hw.chg⟩)
end Go.Proofs.YtbhlcnimjoppeaaDoor

/-
  Of no statement by itself: what the laws' speaks of layer 19 gives.
  Conditions: the listed tables.
-/
namespace Go.Proofs.YtbhlcnimjoppeaaDoor
set_option maxRecDepth 10000
open Sl Sha Str Crv Rtc
open Dsk (Bk)
instance (o : Ses × Bk × Nat) : Inhabited (EcR o) := ⟨⟨some (0, 0), some (0, 0), nofun, nofun⟩⟩
instance (o : Ses × Bk × Nat) : Inhabited (ErR o) := ⟨⟨some (0, 0), nofun⟩⟩
theorem encr_low (s : Ses) (k : SlK) (hs : s.ok) (he : k.l = s.kept) (hk0 : s.kept.length ≤ 1000000) (hst : s.sent ≤ 2147483648) (hpv : s.prev ≤ 2147483648) (side p : Sl8) (hsl : side.l.length ≤ 1000000) (hpl : p.l.length ≤ 1000000) (w : World) (hG : GOk w) (hQ : GQ w) (hk : k.ok w) (hside : side.ok w) (hp : p.ok w) :
    Calls Tryd.prog 9 [.agg (sec s k.v).toArray, side.v, p.v].toArray w fun e w' => ∃ r : EcR (encS s side.l p.l), e = .returned (.tuple #[.agg (sec (encS s side.l p.l).1 (accV r.q (encS s side.l p.l).1.kept.length)).toArray, accV r.x (encS s side.l p.l).2.1.length, N (encS s side.l p.l).2.2]) ∧ Holds w [] [] w' :=
  (encr_any s k hs he hk0 hst hpv side p hsl hpl w hG hQ hk hside hp).mono fun _ _ ⟨r, e, h⟩ => ⟨r, e, h.weak (Less.nil _)⟩
def nilKk : SlK := ⟨none, 0, []⟩
theorem nilKk_ok (w : World) : nilKk.ok w := ⟨Nat.le_refl _, Reads.nil _ _, nofun⟩
def kk5 : Bk := 5 :: List.replicate 31 0
def kk1 : Bk := 1 :: List.replicate 31 0
theorem goes_speaks19 : Goes Tryd.prog 6 := ⟨_, Tryd.func6, rfl, by kernel_rfl⟩
set_option maxHeartbeats 16000000 in
theorem speaks19_any (w : World) (hG : GOk w) (hQ : GQ w) : Calls Tryd.prog 6 ([] : List Value).toArray w fun e w' => e = .returned (.bool true) ∧ Ext w w' := by
  have c1 := fun w' => cnew_any kk1 rfl w'
  have hY : (multB kk1 (keyN 9)).length = 32 := keyF_len _
  generalize multB kk1 (keyN 9) = Y at c1 hY
  have c2 := fun w' => second_any kk5 kk1 Y rfl rfl hY w'
  have c3 := fun (w' : World) (h1 : GOk w') => first_any kk5 kk1 Y Y rfl rfl hY hY w' h1
  have s2 := secondS_ok kk5 kk1 rfl rfl
  have s1 := firstS_ok kk5 kk1 Y rfl hY
  have e2 : encS (secondS kk5 kk1) [] [] = (secondS kk5 kk1, [], 13) := enc_no rfl _ _
  have e1 : encS (firstS kk5 kk1 Y) [] [1] = (encN (firstS kk5 kk1 Y), encB (firstS kk5 kk1 Y) [] [1], 0) := enc_yes rfl (by show ¬ 2147483647 ≤ 0; decide) _ _
  have hl1 : (encB (firstS kk5 kk1 Y) [] [1]).length = 73 := by
    rw [encB, List.length_append, hdB_len (show (encH (firstS kk5 kk1 Y)).chain.length = 32 from pubB_len _)]
    show 40 + (sealK _ _ z12 _ _).length = 73
    rw [sealK_length]
    rfl
  have s3 := encN_ok s1
  have d2 := fun (w' : World) (h1 : GOk w') (h2 : GQ w') => encr_low (secondS kk5 kk1) nilKk s2 rfl (by show (0 : Nat) ≤ _; decide) (by show (0 : Nat) ≤ _; decide) (by show (0 : Nat) ≤ _; decide) nilS nilS (by show (0 : Nat) ≤ _; decide) (by show (0 : Nat) ≤ _; decide) w' h1 h2 (nilKk_ok _) (nilS_ok _) (nilS_ok _)
  have d1 := fun (b : Nat) (w' : World) (h1 : GOk w') (h2 : GQ w') (h3 : Sl8.ok w' ⟨some ⟨b, 0, none⟩, 1, [1]⟩) => encr_low (firstS kk5 kk1 Y) nilKk s1 rfl (by show (0 : Nat) ≤ _; decide) (by show (0 : Nat) ≤ _; decide) (by show (0 : Nat) ≤ _; decide) nilS ⟨some ⟨b, 0, none⟩, 1, [1]⟩ (by show (0 : Nat) ≤ _; decide) (by show (1 : Nat) ≤ _; decide) w' h1 h2 (nilKk_ok _) (nilS_ok _) h3
  have n2 := fun (v : Value) => sec_len s2 v
  have n3 := fun (v : Value) => sec_len s3 v
  have n1 := sec_len s1 nilKV
  have i1 := half1 (a := kk1) (b := Y) rfl
  have lY : (Y.map U8).length = 32 := by rw [List.length_map, hY]
  rw [show nilS.l = [] from rfl, e2] at d2
  dsimp only at d1
  rw [show nilS.l = [] from rfl, e1] at d1
  clear e1 e2
  have k2 : (secondS kk5 kk1).kept.length = 0 := rfl
  have k3 : (encN (firstS kk5 kk1 Y)).kept.length = 0 := rfl
  simp only [k2] at d2
  simp only [k3, hl1] at d1
  generalize secondS kk5 kk1 = S2 at *
  generalize encN (firstS kk5 kk1 Y) = S3 at *
  generalize firstS kk5 kk1 Y = S1 at *
  generalize encB S1 [] [1] = Z at *
  refine enter (n := 47) Tryd.func6 rfl rfl rfl (Holds.start w []) ?_
  repeat (first | refine JL.q (by (apply OQ.assign; exact rfl)) rfl ?_ | refine JC.seq ?_ | refine JC.region ?_ | refine JL.nil ?_ | refine JE.next ?_)
  refine JL.q (OQ.pure (v := .agg (kk1.map U8).toArray) rfl rfl (by kernel_rfl)) rfl ?_
  repeat (refine JL.q (by (apply OQ.callx (vs := [.agg (kk1.map U8).toArray]); exact goes_cnew; exact rfl; exact (fun w' _ => c1 w'))) rfl ?_)
  refine JL.alloc p64z rfl fun b1 _ => ?_
  refine JL.store_all (cs := (kk1 ++ Y).map U8) p64s rfl rfl (by rw [List.length_map, List.length_append, hY]; rfl) (Y_cell _) .here rfl ?_
  repeat (first | refine JC.seq ?_ | refine JC.region ?_ | refine JL.nil ?_ | refine JE.next ?_)
  refine JL.q (OQ.pure (v := .agg (kk5.map U8).toArray) rfl rfl (by kernel_rfl)) rfl ?_
  have lP : ((kk1 ++ Y).map U8).length = 64 := by rw [List.length_map, List.length_append, hY]; rfl
  repeat (refine JL.q (by first | (apply OQ.load_agg (cs := (kk1 ++ Y).map U8); exact p64a; exact p64s; exact rfl; exact .here; exact lP; exact Row.all) | (apply OQ.callx (vs := [.agg (kk5.map U8).toArray, .agg ((kk1 ++ Y).map U8).toArray]); exact goes_second; exact rfl; exact (fun w' _ => c2 w'))) rfl ?_)
  refine JL.alloc seZ rfl fun b2 _ => ?_
  refine JL.store_all (cs := sec S2 nilKV) seS rfl rfl (n2 _) (sec_one rfl) .here (sec_len zeroS_ok _) ?_
  repeat (first | refine JL.q (by (apply OQ.load_agg (cs := sec S2 nilKV); exact seA; exact seS; exact rfl; exact .here; exact (n2 _); exact Row.all)) rfl ?_ | refine JC.seq ?_ | refine JC.region ?_ | refine JL.nil ?_ | refine JE.next ?_)
  refine JL.callg (ι := EcR (S2, [], 13)) (vs := [.agg (sec S2 nilKV).toArray, nilS.v, nilS.v]) (fun r => .tuple #[.agg (sec S2 (accV r.q 0)).toArray, accV r.x 0, N 13]) (fun _ => []) goes_encr rfl rfl (fun _ => nofun) (fun w' hw' => d2 w' (hG.chg hw'.chg (by simp)) (hQ.chg hw'.chg (by simp))) ?_
  rintro ⟨q2, x2, _, _⟩
  try dsimp only
  simp only [List.nil_append]
  obtain ⟨v2, hv2, hvo2⟩ : ∃ v, accV q2 0 = v ∧ v.oneCell' = true := ⟨_, rfl, by cases q2 <;> rfl⟩
  rw [hv2]
  repeat (refine JL.q (by first | (apply OQ.extract; exact rfl; exact rfl) | (apply OQ.move; exact rfl)) rfl ?_)
  refine JL.alloc seZ rfl fun b3 _ => ?_
  refine JL.store_all (cs := sec S2 v2) seS rfl rfl (n2 _) (sec_one hvo2) .here (sec_len zeroS_ok _) ?_
  repeat (first | refine JL.q (by (apply OQ.assign; exact rfl)) rfl ?_ | refine JC.seq ?_ | refine JC.region ?_ | refine JL.nil ?_ | refine JE.next ?_)
  refine JL.q (OQ.pure (v := .agg (kk5.map U8).toArray) rfl rfl (by kernel_rfl)) rfl ?_
  repeat (refine JL.q (by first | (apply OQ.load_agg (cs := (kk1 ++ Y).map U8); exact p64a; exact p64s; exact rfl; exact (.there (.there .here)); exact lP; exact Row.all) | (apply OQ.load_agg (cs := Y.map U8); exact k32a; exact k32s; exact rfl; exact (.there (.there .here)); exact lY; exact (Row.cells i1)) | (apply OQ.callx (vs := [.agg (kk5.map U8).toArray, .agg ((kk1 ++ Y).map U8).toArray, .agg (Y.map U8).toArray]); exact goes_first; exact rfl; exact (fun w' hw' => c3 w' (hG.chg hw'.chg (by simp)))) | (apply OQ.fld; exact rfl; exact rfl; exact rfl; exact (by decide); exact rfl)) rfl ?_)
  refine JL.lit1 (v := U8 (1 : BitVec 8)) Tryd.underlying27 u8e rfl rfl rfl rfl fun bl _ => ?_
  refine JL.callg (ι := EcR (S3, Z, 0)) (vs := [.agg (sec S1 nilKV).toArray, nilS.v, .slice (some ⟨bl, 0, none⟩) 1 1]) (fun r => .tuple #[.agg (sec S3 (accV r.q 0)).toArray, accV r.x 73, N 0]) (fun _ => []) goes_encr rfl rfl (fun _ => nofun) (fun w' hw' => d1 bl w' (hG.chg hw'.chg (by simp)) (hQ.chg hw'.chg (by simp)) (row_ok (l := [1]) hw' .here rfl (Nat.le_refl _))) ?_
  rintro ⟨q3, x3, _, hx3⟩
  try dsimp only
  simp only [List.nil_append]
  obtain ⟨v3, hv3, hvo3⟩ : ∃ v, accV q3 0 = v ∧ v.oneCell' = true := ⟨_, rfl, by cases q3 <;> rfl⟩
  rw [hv3]
  obtain ⟨a2, c2', hy2⟩ : ∃ a c, accV x2 0 = .slice a 0 c := by cases x2 <;> exact ⟨_, _, rfl⟩
  obtain ⟨a3, c3', hy3⟩ : ∃ a c, accV x3 73 = .slice a 73 c := by
    cases x3 with
    | none => exact absurd (hx3 rfl) (fun h => by have h' : Z = [] := h; rw [h'] at hl1; cases hl1)
    | some r => exact ⟨_, _, rfl⟩
  rw [hy2, hy3]
  repeat (refine JL.q (by first | (apply OQ.extract; exact rfl; exact rfl) | (apply OQ.move; exact rfl)) rfl ?_)
  refine JL.alloc seZ rfl fun b6 _ => ?_
  refine JL.store_all (cs := sec S3 v3) seS rfl rfl (n3 _) (sec_one hvo3) .here (sec_len zeroS_ok _) ?_
  repeat (first | refine JL.q (by first | (apply OQ.eqi_t; exact rfl; exact rfl; exact rfl) | (apply OQ.len (k := 0); exact Tryd.underlying27; exact rfl) | (apply OQ.len (k := 73); exact Tryd.underlying27; exact rfl) | (apply OQ.pick_t; exact rfl; exact rfl) | (apply OQ.move; exact rfl) | (apply OQ.assign; exact rfl)) rfl ?_ | refine JC.seq ?_ | refine JC.region ?_ | refine JL.nil ?_ | refine JE.next ?_ | refine JL.gon rfl rfl ?_)
  exact JC.ret (JE.ret1 rfl (RV.tmp rfl) fun w' hw => ⟨rfl, hw.chg⟩)
end Go.Proofs.YtbhlcnimjoppeaaDoor

/-
  Of no statement by itself: Slg's rule for regions whose order is open, with any relation between what an operation makes and what each of those that it stems from made.
  Conditions: the rule's own hypotheses.
-/
namespace Go.Proofs.YtbhlcnimjoppeaaDoor
namespace Sl
variable {Y : Type}
structure GrowM (Y : Type) where
  E0 : Env
  N : Nat
  v : Nat → Y → Value
  M : Nat → Y → List Ent
  need : Nat → List (Nat × Nat)
  inp : Nat → List Nat
  eat : Nat → List Nat
  src : Nat → List Nat
  E1 : Nat → Env
  R : Nat → Nat → Y → Y → Prop
/-- what is known at first of a slot that a later operation writes -/
def GrowM.okE1 (g : GrowM Y) (l : List Oper) (i : Nat) : Bool :=
  (g.E1 i).all fun p => (List.range l.length).all fun k => dstOf l k != some p.1 || (k != i && behindOf l k i)
def GrowM.okOp (g : GrowM Y) (l : List Oper) (i : Nat) (o : Oper) : Bool :=
  (((g.need i).all (fun p => behind o p.1 && dstOf l p.1 == some p.2) && (g.src i).all fun k => behind o k) && g.okE1 l i) &&
  ((g.inp i).all (fun j => decide (j < g.N) && (decide (l.length ≤ j) || behind o j)) &&
  ((g.eat i).all (fun j => (g.inp i).contains j) &&
  ((List.range l.length).all (fun k => k == i || (g.eat k).all fun j => !(g.inp i).contains j || behindOf l k i) &&
  (noDup (g.inp i) && (o.after.toList.all (fun e => !Region.binds .any e || decide (e.on < i)) && apartD l g.E0 i o.dst)))))
def GrowM.okFrom (g : GrowM Y) (l : List Oper) : Nat → List Oper → Bool
  | _, [] => true
  | i, o :: r => g.okOp l i o && g.okFrom l (i + 1) r
theorem GrowM.okFrom_at {g : GrowM Y} {l : List Oper} : ∀ {r : List Oper} {i : Nat}, g.okFrom l i r = true → ∀ {j o}, r[j]? = some o → g.okOp l (i + j) o = true
  | [], _, _, j, o, h => by simp at h
  | q :: r, i, hk, j, o, h => by
    simp only [GrowM.okFrom, Bool.and_eq_true] at hk
    cases j with
    | zero =>
      simp only [List.getElem?_cons_zero, Option.some.injEq] at h
      subst h
      exact hk.1
    | succ j =>
      have := GrowM.okFrom_at hk.2 (j := j) (o := o) (by simpa using h)
      rwa [show i + 1 + j = i + (j + 1) by omega] at this
def GrowM.Job (g : GrowM Y) (P : Program) (n : Nat) (w0 : World) (S : List Nat) (l : List Oper) (i : Nat) (o : Oper) : Prop :=
  ∀ (x : Nat → Y) (EF : Env) (MF : List Ent) (Q : Exit → Act → World → Prop),
    (∀ xi : Y, (∀ k, k ∈ g.src i → g.R i k xi (x k)) → JE n w0 S Q .normal (slot o.dst (g.v i xi) ++ ((g.need i).map (fun p => (p.2, g.v p.1 (x p.1))) ++ (g.E0 ++ (g.E1 i ++ EF)))) (g.M i xi ++ (((g.inp i).filter fun j => !(g.eat i).contains j).flatMap (fun j => g.M j (x j)) ++ MF))) →
    JL P n w0 S l.toArray Q [o] ((g.need i).map (fun p => (p.2, g.v p.1 (x p.1))) ++ (g.E0 ++ (g.E1 i ++ EF))) ((g.inp i).flatMap (fun j => g.M j (x j)) ++ MF)
def GrowM.Jobs (g : GrowM Y) (P : Program) (n : Nat) (w0 : World) (S : List Nat) (l : List Oper) : Nat → List Oper → Prop
  | _, [] => True
  | i, o :: r => g.Job P n w0 S l i o ∧ g.Jobs P n w0 S l (i + 1) r
theorem GrowM.Jobs_at {g : GrowM Y} {P : Program} {n : Nat} {w0 : World} {S : List Nat} {l : List Oper} : ∀ {r : List Oper} {i : Nat}, g.Jobs P n w0 S l i r → ∀ {j o}, r[j]? = some o → g.Job P n w0 S l (i + j) o
  | [], _, _, j, o, h => by simp at h
  | q :: r, i, hk, j, o, h => by
    cases j with
    | zero =>
      simp only [List.getElem?_cons_zero, Option.some.injEq] at h
      subst h
      exact hk.1
    | succ j =>
      have := GrowM.Jobs_at hk.2 (j := j) (o := o) (by simpa using h)
      rwa [show i + 1 + j = i + (j + 1) by omega] at this

/-- which makings stand -/
def GrowM.live (g : GrowM Y) (m : Nat) (done : Array Bool) (j : Nat) : Prop := j < g.N ∧ (m ≤ j ∨ done.getD j false = true) ∧ ∀ k, done.getD k false = true → j ∉ g.eat k
structure GrowM.Inv (g : GrowM Y) (n : Nat) (w0 : World) (S : List Nat) (l : List Oper) (done : Array Bool) (x : Nat → Y) (a : Act) (w : World) : Prop where
  size : a.tmps.size = n
  defers : a.defers = []
  dsize : done.size = l.length
  base : ∀ p ∈ g.E0, a.tmps.getD p.1 undef = p.2
  first : ∀ j, j < l.length → done.getD j false = false → ∀ p ∈ g.E1 j, a.tmps.getD p.1 undef = p.2
  vals : ∀ j d, done.getD j false = true → dstOf l j = some d → a.tmps.getD d undef = g.v j (x j)
  rel : ∀ j k, done.getD j false = true → k ∈ g.src j → g.R j k (x j) (x k)
  down : ∀ j i, done.getD j false = true → behindOf l j i = true → done.getD i false = true
  mem : HoldsI w0 S (g.live l.length done) (fun j => g.M j (x j)) w

section
variable {P : Program} {n : Nat} {w0 : World} {S : List Nat} {Q : Exit → Act → World → Prop} {E : Env} {M : List Ent} {g : GrowM Y} {l : List Oper}
theorem GrowM.run (hok : g.okFrom l 0 l = true) (hj : g.Jobs P n w0 S l 0 l)
    (hend : ∀ done x a w, g.Inv n w0 S l done x a w → (∀ j, j < l.length → done.getD j false = true) → Q .normal a w) :
    ∀ (f : Nat) (done : Array Bool) (x : Nat → Y) (a : Act) (w : World), f = (List.range l.length).countP (fun j => !done.getD j false) → g.Inv n w0 S l done x a w → wpAny P .any l.toArray Q f done a w := by
  have hrdy : ∀ done : Array Bool, done.size = l.length → Region.ready .any l.toArray done = [] → ∀ j, j < l.length → done.getD j false = true := by
    intro done hds hr j
    induction j using Nat.strongRecOn with
    | _ j ih =>
      intro hjl
      cases hd : done.getD j false with
      | true => rfl
      | false =>
        obtain ⟨o, ho⟩ : ∃ o, l[j]? = some o := ⟨_, List.getElem?_eq_getElem hjl⟩
        have hk := GrowM.okFrom_at hok ho
        simp only [GrowM.okOp, Bool.and_eq_true, Nat.zero_add] at hk
        have hkk := hk.2.2.2.2.2.1
        have : j ∈ Region.ready .any l.toArray done := by
          rw [mem_ready]
          refine ⟨?_, o, by simpa using ho, fun e he hb => ?_⟩
          · rw [Array.getD_eq_getD_getElem?, Array.getElem?_eq_getElem (by omega)] at hd ⊢
            simpa using hd
          · have := List.all_eq_true.1 hkk e (by simpa using he)
            simp only [hb, Bool.not_true, Bool.false_or, decide_eq_true_eq] at this
            exact ih e.on this (by omega)
        rw [hr] at this
        cases this
  intro f
  induction f with
  | zero =>
    intro done x a w hf hI
    have hall : ∀ j, j < l.length → done.getD j false = true := fun j hjl => by
      have := List.countP_eq_zero.1 hf.symm j (List.mem_range.2 hjl)
      simpa using this
    refine ⟨?_, hend done x a w hI hall⟩
    refine List.eq_nil_iff_forall_not_mem.2 fun i hi => ?_
    obtain ⟨hu, o, ho, _⟩ := mem_ready.1 hi
    have hil : i < l.length := by
      have := (Array.getElem?_eq_some_iff.1 ho).1
      simpa using this
    have := hall i hil
    rw [Array.getD_eq_getD_getElem?, Array.getElem?_eq_getElem (by have := hI.dsize; omega)] at hu this
    simp only [Option.getD_some] at hu this
    rw [hu] at this
    cases this
  | succ f ih =>
    intro done x a w hf hI
    have hds := hI.dsize
    refine ⟨fun h0 => hend done x a w hI (hrdy done hds h0), fun i hi => ?_⟩
    obtain ⟨hu, o, ho, hbe⟩ := mem_ready.1 hi
    have hil : i < l.length := by
      have := (Array.getElem?_eq_some_iff.1 ho).1
      simpa using this
    have ho' : l[i]? = some o := by simpa using ho
    have hu' : done.getD i false = false := by
      rw [Array.getD_eq_getD_getElem?, Array.getElem?_eq_getElem (by omega)] at hu ⊢
      simpa using hu
    have hk := GrowM.okFrom_at hok ho'
    simp only [GrowM.okOp, Bool.and_eq_true, Nat.zero_add] at hk
    obtain ⟨⟨⟨k1, k8⟩, k9⟩, k2, k3, k4, k5, _, k7⟩ := hk
    have hbeh : ∀ j, behind o j = true → done.getD j false = true := fun j hj => by
      simp only [behind, List.any_eq_true, Bool.and_eq_true, beq_iff_eq] at hj
      obtain ⟨e, he, rfl, hb⟩ := hj
      exact hbe e (by simpa using he) hb
    have hbi : ∀ k, behindOf l k i = true → done.getD k false = false := fun k hk => by
      cases h : done.getD k false with
      | false => rfl
      | true => have := hI.down k i h hk; rw [hu'] at this; cases this
    have hinp : ∀ j ∈ g.inp i, g.live l.length done j := by
      intro j hj
      have h2 := List.all_eq_true.1 k2 j hj
      simp only [Bool.and_eq_true, Bool.or_eq_true, decide_eq_true_eq] at h2
      refine ⟨h2.1, h2.2.imp id (hbeh j), fun k hkd hjk => ?_⟩
      have hkl : k < l.length := by
        by_cases h : k < l.length
        · exact h
        · rw [Array.getD_eq_getD_getElem?, Array.getElem?_eq_none (by omega)] at hkd
          cases hkd
      have h4 := List.all_eq_true.1 k4 k (List.mem_range.2 hkl)
      have hki : k ≠ i := fun e => by rw [e, hu'] at hkd; cases hkd
      simp only [Bool.or_eq_true, beq_iff_eq, hki, false_or] at h4
      have h5 := List.all_eq_true.1 h4 j hjk
      simp only [Bool.or_eq_true, Bool.not_eq_true', List.contains_eq_mem, decide_eq_false_iff_not, hj, not_true, false_or] at h5
      rw [hbi k h5] at hkd
      cases hkd
    have hdone_ne : ∀ j, done.getD j false = true → j ≠ i := fun j hj e => by rw [e, hu'] at hj; cases hj
    have hlen : ∀ k, done.getD k false = true → k < l.length := fun k hkd => by
      by_cases h : k < l.length
      · exact h
      · rw [Array.getD_eq_getD_getElem?, Array.getElem?_eq_none (by omega)] at hkd
        cases hkd
    have hdi : dstOf l i = o.dst := by simp [dstOf, ho']
    have hne : ∀ j d, done.getD j false = true → dstOf l j = some d → o.dst ≠ some d := by
      intro j d hjd hd he
      rw [he] at k7
      simp only [apartD, Bool.and_eq_true] at k7
      have := List.all_eq_true.1 k7.1 j (List.mem_range.2 (hlen j hjd))
      simp [hdone_ne j hjd, hd] at this
    have hne0 : ∀ p ∈ g.E0, o.dst ≠ some p.1 := by
      intro p hp he
      rw [he] at k7
      simp only [apartD, Bool.and_eq_true] at k7
      have := List.all_eq_true.1 k7.2 p hp
      simp at this
    let rest : List Nat := (List.range g.N).filter fun j => @decide (g.live l.length done j) (Classical.propDecidable _) && !(g.inp i).contains j
    have hrest : ∀ j, j ∈ rest ↔ g.live l.length done j ∧ j ∉ g.inp i := by
      intro j
      simp only [rest, List.mem_filter, List.mem_range, Bool.and_eq_true, Bool.not_eq_true', List.contains_eq_mem, decide_eq_false_iff_not]
      refine ⟨fun ⟨_, h2, h3⟩ => ⟨@of_decide_eq_true _ (Classical.propDecidable _) h2, h3⟩, fun ⟨h2, h3⟩ => ⟨h2.1, @decide_eq_true _ (Classical.propDecidable _) h2, h3⟩⟩
    have hnd : (g.inp i ++ rest).Nodup := by
      rw [List.nodup_append]
      refine ⟨noDup_spec k5, List.nodup_range.filter _, fun a ha b hb e => ?_⟩
      exact ((hrest b).1 hb).2 (e ▸ ha)
    have H1 := hI.mem.to (g.inp i ++ rest) hnd (fun j hj => by
      rcases List.mem_append.1 hj with h | h
      · exact hinp j h
      · exact ((hrest j).1 h).1)
    rw [List.flatMap_append] at H1
    let EF0 : Env := (List.range l.length).filterMap fun j => if done.getD j false = true then (dstOf l j).map (fun d => (d, g.v j (x j))) else none
    let EF1 : Env := (List.range l.length).flatMap fun j => if done.getD j false = true then [] else g.E1 j
    let EF : Env := EF0 ++ EF1
    have hEF : ∀ p, p ∈ EF0 ↔ ∃ j d, done.getD j false = true ∧ dstOf l j = some d ∧ p = (d, g.v j (x j)) := by
      intro p
      simp only [EF0, List.mem_filterMap, List.mem_range]
      constructor
      · rintro ⟨j, _, hp⟩
        split at hp
        · rename_i hjd
          obtain ⟨d, hd, rfl⟩ := Option.map_eq_some_iff.1 hp
          exact ⟨j, d, hjd, hd, rfl⟩
        · cases hp
      · rintro ⟨j, d, hjd, hd, rfl⟩
        exact ⟨j, hlen j hjd, by rw [if_pos hjd, hd]; rfl⟩
    have hEF1 : ∀ j, j < l.length → done.getD j false = false → ∀ p ∈ g.E1 j, p ∈ EF1 := by
      intro j hjl hjd p hp
      simp only [EF1, List.mem_flatMap, List.mem_range]
      exact ⟨j, hjl, by rw [if_neg (by rw [hjd]; decide)]; exact hp⟩
    have hne1 : ∀ j, j < l.length → done.getD j false = false → ∀ p ∈ g.E1 j, o.dst ≠ some p.1 := by
      intro j hjl hjd p hp he
      have hjo : l[j]? = some (l[j]'hjl) := List.getElem?_eq_getElem hjl
      have hkj := GrowM.okFrom_at hok hjo
      simp only [GrowM.okOp, Bool.and_eq_true, Nat.zero_add] at hkj
      have h9 := List.all_eq_true.1 hkj.1.2 p hp
      have h10 := List.all_eq_true.1 h9 i (List.mem_range.2 hil)
      simp only [hdi, he, bne_self_eq_false, Bool.false_or, Bool.and_eq_true] at h10
      have h11 : behind o j = true := by simpa [behindOf, ho'] using h10.2
      rw [hbeh j h11] at hjd
      cases hjd
    have hneed : ∀ p ∈ g.need i, done.getD p.1 false = true ∧ dstOf l p.1 = some p.2 := by
      intro p hp
      have h1 := List.all_eq_true.1 k1 p hp
      simp only [Bool.and_eq_true, beq_iff_eq] at h1
      exact ⟨hbeh _ h1.1, h1.2⟩
    have hK : ∀ p ∈ ((g.need i).map (fun p => (p.2, g.v p.1 (x p.1))) ++ (g.E0 ++ (g.E1 i ++ EF))), a.tmps.getD p.1 undef = p.2 ∧ o.dst ≠ some p.1 := by
      intro p hp
      rcases List.mem_append.1 hp with h | h
      · obtain ⟨q, hq, rfl⟩ := List.mem_map.1 h
        obtain ⟨h1, h2⟩ := hneed q hq
        exact ⟨hI.vals _ _ h1 h2, hne _ _ h1 h2⟩
      · rcases List.mem_append.1 h with h | h
        · exact ⟨hI.base p h, hne0 p h⟩
        · rcases List.mem_append.1 h with h | h
          · exact ⟨hI.first i hil hu' p h, hne1 i hil hu' p h⟩
          · rcases List.mem_append.1 h with h | h
            · obtain ⟨j, d, h1, h2, rfl⟩ := (hEF p).1 h
              exact ⟨hI.vals _ _ h1 h2, hne _ _ h1 h2⟩
            · simp only [EF1, List.mem_flatMap, List.mem_range] at h
              obtain ⟨j, hjl, h⟩ := h
              cases hjd : done.getD j false with
              | true => rw [hjd] at h; simp at h
              | false =>
                rw [hjd] at h
                simp only [Bool.false_eq_true, if_false] at h
                exact ⟨hI.first j hjl hjd p h, hne1 j hjl hjd p h⟩
    have job := GrowM.Jobs_at hj ho'
    rw [Nat.zero_add] at job
    refine wpOp_of_list ho ((job x EF (rest.flatMap fun j => g.M j (x j)) _ fun xi hxi => ⟨fun a' w' hK' hH' => ?_⟩).go a w (Knows.of hI.size hI.defers fun p hp => (hK p hp).1) H1)
    have hd' : ∀ j, (done.setIfInBounds i true).getD j false = (decide (j = i) || done.getD j false) := fun j => getD_set (by omega)
    refine ih _ (fun j => if j = i then xi else x j) a' w' ?_ ?_
    · have := count_drop (l := List.range l.length) (p := fun j => !done.getD j false) (q := fun j => !(done.setIfInBounds i true).getD j false) (i := i) List.nodup_range (List.mem_range.2 hil) (by simp only [hu']; rfl) (by simp only [hd']; simp) (fun j hj => by simp only [hd']; simp [hj])
      omega
    · have hmem : ∀ p ∈ (slot o.dst (g.v i xi) ++ ((g.need i).map (fun p => (p.2, g.v p.1 (x p.1))) ++ (g.E0 ++ (g.E1 i ++ EF)))), a'.tmps.getD p.1 undef = p.2 := by
        intro p hp
        refine hK'.mem (f := fun t => if o.dst = some t then g.v i xi else a.tmps.getD t undef) (fun q hq => ?_) hp
        rcases List.mem_append.1 hq with h | h
        · cases hod : o.dst with
          | none => rw [hod] at h; cases h
          | some d =>
            rw [hod] at h
            simp only [slot, List.mem_singleton] at h
            subst h
            simp
        · have := hK q h
          simp only [this.2, if_false]
          exact this.1
      refine ⟨hK'.size, hK'.defers, by simp [hds], fun p hp => hmem p (by simp [hp]), fun j hjl hjd p hp => ?_, ?_, ?_, ?_, ?_⟩
      · rw [hd'] at hjd
        simp only [Bool.or_eq_false_iff] at hjd
        exact hmem p (List.mem_append_right _ (List.mem_append_right _ (List.mem_append_right _ (List.mem_append_right _ (List.mem_append_right _ (hEF1 j hjl hjd.2 p hp))))))
      · intro j d hjd hd
        by_cases e : j = i
        · subst e
          rw [hdi] at hd
          have := hmem (d, g.v j xi) (by simp [hd, slot])
          simpa using this
        · rw [hd'] at hjd
          simp only [e, decide_false, Bool.false_or] at hjd
          have := hmem (d, g.v j (x j)) (List.mem_append_right _ (List.mem_append_right _ (List.mem_append_right _ (List.mem_append_right _ (List.mem_append_left _ ((hEF _).2 ⟨j, d, hjd, hd, rfl⟩))))))
          simpa [e] using this
      · intro j k hjd hs
        rw [hd'] at hjd
        by_cases e : j = i
        · subst e
          have k8 := List.all_eq_true.1 k8 k hs
          simp only [if_true, hdone_ne k (hbeh k k8), if_false]
          exact hxi k hs
        · simp only [e, decide_false, Bool.false_or] at hjd
          have hjo : l[j]? = some (l[j]'(hlen j hjd)) := List.getElem?_eq_getElem (hlen j hjd)
          have hkj := GrowM.okFrom_at hok hjo
          simp only [GrowM.okOp, Bool.and_eq_true, Nat.zero_add] at hkj
          have h8 := hkj.1.1.2
          have h8 := List.all_eq_true.1 h8 k hs
          have hkd := hI.down j k hjd (by simpa [behindOf, hjo] using h8)
          simp only [e, hdone_ne k hkd, if_false]
          exact hI.rel j k hjd hs
      · intro j i' hjd hb
        rw [hd'] at hjd ⊢
        by_cases e : j = i
        · subst e
          have : behind o i' = true := by simpa [behindOf, ho'] using hb
          simp [hbeh i' this]
        · simp only [e, decide_false, Bool.false_or] at hjd
          simp [hI.down j i' hjd hb]
      · have hnl : ¬ g.live l.length done i := fun h => by
          rcases h.2.1 with h | h
          · omega
          · rw [hu'] at h; cases h
        have hcg : ∀ L : List Nat, (∀ j ∈ L, g.live l.length done j) → L.flatMap (fun j => g.M j (if j = i then xi else x j)) = L.flatMap fun j => g.M j (x j) := by
          intro L
          induction L with
          | nil => simp
          | cons j L ih =>
            intro h
            have hji : j ≠ i := fun e => hnl (e ▸ h j (by simp))
            simp only [List.flatMap_cons, hji, if_false, ih fun k hk => h k (by simp [hk])]
        refine HoldsI.of (Js := i :: (((g.inp i).filter fun j => !(g.eat i).contains j) ++ rest)) ?_ ?_
        · rw [List.flatMap_cons, List.flatMap_append, hcg _ (fun j hj => hinp j (List.mem_filter.1 hj).1), hcg rest (fun j hj => ((hrest j).1 hj).1)]
          simpa using hH'
        · intro j hj
          by_cases e : j = i
          · simp [e]
          · have hl : g.live l.length done j := by
              refine ⟨hj.1, hj.2.1.imp id (fun h => ?_), fun k hk => hj.2.2 k (by rw [hd']; simp [hk])⟩
              rw [hd'] at h
              simpa [e] using h
            have hne : j ∉ g.eat i := hj.2.2 i (by rw [hd']; simp)
            by_cases hji : j ∈ g.inp i
            · simp [e, hji, hne]
            · have := (hrest j).2 ⟨hl, hji⟩
              simp [e, this]
/-- a region whose order is open, each operation told once; g.E1: what is known of slots until the region writes them -/
theorem growM_any [Inhabited Y] (g : GrowM Y) (outs : List (Nat × Nat)) (ends : List Nat) (hE : SubE E g.E0) (hE1 : ∀ i, i < l.length → SubE E (g.E1 i)) (hM : Less (((List.range g.N).filter fun j => decide (l.length ≤ j)).flatMap fun j => g.M j default) M)
    (hok : g.okFrom l 0 l = true) (ho : (outs.all fun p => decide (p.1 < l.length) && dstOf l p.1 == some p.2) = true)
    (he : (noDup ends && ends.all fun j => decide (j < g.N) && (List.range l.length).all fun k => !(g.eat k).contains j) = true)
    (hj : g.Jobs P n w0 S l 0 l)
    (k : ∀ x : Nat → Y, (∀ j k, j < l.length → k ∈ g.src j → g.R j k (x j) (x k)) → JE n w0 S Q .normal (outs.map (fun p => (p.2, g.v p.1 (x p.1))) ++ g.E0) (ends.flatMap fun j => g.M j (x j))) {a : Act} {w : World} (ha : Knows n E a) (hw : Holds w0 S M w) : wpAny P .any l.toArray Q l.toArray.size (Array.replicate l.toArray.size false) a { w with drawn := w.drawn + 1 } := by
    have hw' := (hw.drawn (w.drawn + 1)).weak hM
    simp only [Bool.and_eq_true] at he
    refine GrowM.run hok hj (fun done x a w hI hall => ?_) _ _ (fun _ => default) a _ ?_ ?_
    · refine (k x fun j k hj hs => hI.rel j k (hall j hj) hs).go a w (Knows.of hI.size hI.defers fun p hp => ?_) (hI.mem.to ends (noDup_spec he.1) fun j hj => ?_)
      · rcases List.mem_append.1 hp with h | h
        · obtain ⟨q, hq, rfl⟩ := List.mem_map.1 h
          have := List.all_eq_true.1 ho q hq
          simp only [Bool.and_eq_true, decide_eq_true_eq, beq_iff_eq] at this
          exact hI.vals _ _ (hall _ this.1) this.2
        · exact hI.base p h
      · have := List.all_eq_true.1 he.2 j hj
        simp only [Bool.and_eq_true, decide_eq_true_eq] at this
        refine ⟨this.1, ?_, fun k hk hjk => ?_⟩
        · by_cases h : l.length ≤ j
          · exact .inl h
          · exact .inr (hall j (by omega))
        · have hkl : k < l.length := by
            by_cases h : k < l.length
            · exact h
            · have := hI.dsize
              rw [Array.getD_eq_getD_getElem?, Array.getElem?_eq_none (by omega)] at hk
              cases hk
          have := List.all_eq_true.1 this.2 k (List.mem_range.2 hkl)
          simp [hjk] at this
    · have : ∀ j, (Array.replicate l.toArray.size false).getD j false = false := fun j => by
        simp only [Array.getD_eq_getD_getElem?, Array.getElem?_replicate]
        split <;> rfl
      rw [List.countP_eq_length.2 (fun j _ => by simp only [this]; rfl)]
      simp
    · have hf : ∀ j, (Array.replicate l.toArray.size false).getD j false = false := fun j => by
        simp only [Array.getD_eq_getD_getElem?, Array.getElem?_replicate]
        split <;> rfl
      refine ⟨ha.size, ha.defers, by simp, fun p hp => ha.all _ _ (hE.all p hp), fun j hj _ p hp => ha.all _ _ ((hE1 j hj).all p hp), fun j d h => ?_, fun j k h => ?_, fun j i h => ?_, ?_⟩
      · rw [hf] at h; cases h
      · rw [hf] at h; cases h
      · rw [hf] at h; cases h
      · refine HoldsI.of hw' fun j hj => ?_
        rw [List.mem_filter]
        refine ⟨List.mem_range.2 hj.1, ?_⟩
        rcases hj.2.1 with h | h
        · simpa using h
        · rw [hf] at h; cases h
theorem JC.growM [Inhabited Y] (g : GrowM Y) (outs : List (Nat × Nat)) (ends : List Nat) {id : Nat} (hm : P.follows .mixedOrders = true) (hE : SubE E g.E0) (hE1 : ∀ i, i < l.length → SubE E (g.E1 i)) (hM : Less (((List.range g.N).filter fun j => decide (l.length ≤ j)).flatMap fun j => g.M j default) M)
    (hok : g.okFrom l 0 l = true) (ho : (outs.all fun p => decide (p.1 < l.length) && dstOf l p.1 == some p.2) = true)
    (he : (noDup ends && ends.all fun j => decide (j < g.N) && (List.range l.length).all fun k => !(g.eat k).contains j) = true)
    (hj : g.Jobs P n w0 S l 0 l)
    (k : ∀ x : Nat → Y, (∀ j k, j < l.length → k ∈ g.src j → g.R j k (x j) (x k)) → JE n w0 S Q .normal (outs.map (fun p => (p.2, g.v p.1 (x p.1))) ++ g.E0) (ends.flatMap fun j => g.M j (x j))) : JC P n w0 S Q (.region id l.toArray true) E M :=
  ⟨fun a w ha hw => wp_region_any hm (growM_any g outs ends hE hE1 hM hok ho he hj k ha hw)⟩

end
end Sl
end Go.Proofs.YtbhlcnimjoppeaaDoor

/-
  RatchetEncrypts: the law's walk.
  Conditions: the listed tables.
-/
namespace Go.Proofs.YtbhlcnimjoppeaaDoor
set_option maxRecDepth 10000
open Sl Sha Str Crv Rtc
open Dsk (Bk)
theorem SlKz.ok.holds {w0 w : World} {S : List Nat} {M : List Ent} {s : SlKz} (h : s.ok w0) (hw : Holds w0 S M w) (hS : S = []) : s.ok w := ⟨h.len, hw.reads h.reads (fun _ a _ => by rw [hS]; simp), h.all⟩
theorem encS_kept (s : Ses) (side p : Bk) : (encS s side p).1.kept = s.kept := by
  unfold encS
  split
  · rfl
  · split <;> rfl
theorem encS_ok {s : Ses} (h : s.ok) (side p : Bk) : (encS s side p).1.ok := by
  unfold encS
  split
  · exact h
  · split
    · exact h
    · exact encN_ok h
theorem encS_len (s : Ses) (side p : Bk) : (encS s side p).2.1.length ≤ 2000 + p.length := by
  by_cases h : s.sends = false
  · rw [enc_no h]; exact Nat.zero_le _
  by_cases h2 : 2147483647 ≤ s.sent
  · rw [enc_far (by simpa using h) h2]; exact Nat.zero_le _
  · rw [enc_yes (by simpa using h) h2]
    show (encB s side p).length ≤ _
    rw [encB, List.length_append, hdB_len (show (encH s).chain.length = 32 from pubB_len _)]
    have : (Rtc.sealB (msB s.send) (side ++ hdB (encH s)) p).length = p.length + 32 := sealK_length _ _ _ _ _
    omega
theorem pair1_built (a : Bk) (ha : a.length = 32) : Tryd.prog.built 39 ([0].zip [.agg (a.map U8).toArray]) = some ((a ++ List.replicate 32 0).map U8).toArray := by
  have h : Tryd.prog.built 39 ([0].zip [.agg (a.map U8).toArray]) = Instr.fill (fun i => #[(0, 32), (32, 32)][i]?) (((List.replicate 64 (0 : BitVec 8)).map U8).toArray) [(0, .agg (a.map U8).toArray)] := by kernel_rfl
  rw [h, fill_one (off := 0) (sz := 32) (cs := a.map U8) rfl rfl (by simp [ha]) (by simp)]
  rw [List.map_append]
  simp only [List.take_zero, List.nil_append]
  rfl
theorem lessT2 {e1 e2 e3 e4 e5 e6 : Ent} (A C : List Ent) : Less C (e1 :: (A ++ (e2 :: e3 :: e4 :: e5 :: e6 :: C))) :=
  .drop _ _ _ (less_app _ (.drop _ _ _ (.drop _ _ _ (.drop _ _ _ (.drop _ _ _ (.drop _ _ _ (Less.refl _)))))))
theorem lessT1 {e1 e2 e3 e4 e5 e6 : Ent} (A B C : List Ent) : Less C (e1 :: (A ++ (e2 :: e3 :: e4 :: e5 :: e6 :: (B ++ C)))) :=
  .drop _ _ _ (less_app _ (.drop _ _ _ (.drop _ _ _ (.drop _ _ _ (.drop _ _ _ (.drop _ _ _ (less_app _ (Less.refl _))))))))
theorem acE_wr (x : Acc) (l : List Value) : ∀ e ∈ accE 5 x l, e.wr = true := fun e h => by
  cases x with
  | none => cases h
  | some p => simp only [accE, List.mem_singleton] at h; rw [h]
theorem ecE_wr (x q : Acc) (l : List Value) (ks : List Kp) : ∀ e ∈ accE 5 x l ++ kpE q ks, e.wr = true := fun e he => by
  rcases List.mem_append.1 he with h | h
  · cases x with
    | none => cases h
    | some p => simp only [accE, List.mem_singleton] at h; rw [h]
  · exact kpE_wr _ _ e h
set_option maxHeartbeats 64000000 in
theorem law_ratchetEncrypts (a : SeA) (side p : Sl8) (root own other : Bk) (w : World) (ha : a.ok w) (hside : side.ok w) (hp : p.ok w) (h1 : root.length = 32) (h2 : own.length = 32) (h3 : other.length = 32) (hG : GOk w) (hQ : GQ w) :
    Calls Tryd.prog 3 [a.v, side.v, p.v, .agg (root.map U8).toArray, .agg (own.map U8).toArray, .agg (other.map U8).toArray].toArray w fun e w' => e = .returned (.bool true) ∧ Ext w w' := by
  obtain ⟨s, k⟩ := a
  obtain ⟨hs, he, hk⟩ := ha
  dsimp only at hs he hk
  have hn := sey_len hs k.v
  have l1 : (root.map U8).length = 32 := by rw [List.length_map]; exact h1
  have l2 : (own.map U8).length = 32 := by rw [List.length_map]; exact h2
  have l3 : (other.map U8).length = 32 := by rw [List.length_map]; exact h3
  obtain ⟨g, hg, cg⟩ := great19_any s k hs he side p w
  obtain ⟨r, hr⟩ : ∃ r : Bool, r = true ↔ RightZ s := by
    by_cases h : RightZ s
    · exact ⟨true, fun _ => h, fun _ => rfl⟩
    · exact ⟨false, nofun, fun h' => absurd h' h⟩
  have cr : ∀ w' : World, k.ok w' → Calls Tryd.prog 8 [.agg (sey s k.v).toArray].toArray w' fun e w'' => e = .returned (.bool r) ∧ Ext w' w'' := fun w' hk' => (rright_any s k hs he w' hk').mono fun e w'' ⟨⟨b, hb⟩, e1, h⟩ => ⟨by rw [e1]; congr 2; exact Bool.eq_iff_iff.2 (hb.trans hr.symm), h⟩
  have csp := fun (w' : World) (hG' : GOk w') (hQ' : GQ w') => speaks19_any w' hG' hQ'
  refine enter (n := 86) Tryd.func3 rfl rfl rfl (Holds.start w []) ?_
  repeat (first | refine JC.seq ?_ | refine JC.region ?_)
  refine JL.box (r := sey s k.v) rfl rfl rfl fun b6 _ => ?_
  refine JL.box (r := root.map U8) rfl rfl rfl fun b9 _ => ?_
  refine JL.box (r := own.map U8) rfl rfl rfl fun b10 _ => ?_
  refine JL.box (r := other.map U8) rfl rfl rfl fun b11 _ => ?_
  repeat (first | refine JL.q (by first | (apply OQ.callx (vs := []); exact goes_speaks19; exact rfl; exact (fun w' hw' => csp w' (hG.chg hw'.chg (by simp)) (hQ.chg hw'.chg (by simp)))) | (apply OQ.not; exact rfl) | (apply OQ.assign; exact rfl)) rfl ?_ | refine JC.seq ?_ | refine JC.region ?_ | refine JL.nil ?_ | refine JE.next ?_)
  refine JC.cond_false rfl rfl ?_
  cases g
  case' false => cases r
  case true =>
    repeat (first | refine JL.q (by first | (apply OQ.load_agg (cs := sey s k.v); exact seA; exact seS; exact rfl; exact (.there (.there (.there .here))); exact hn; exact Row.all) | (apply OQ.callx (vs := [.agg (sey s k.v).toArray, side.v, p.v]); exact goes_great19; exact rfl; exact (fun w' _ => cg w')) | (apply OQ.pick_t; exact rfl; exact rfl) | (apply OQ.move; exact rfl)) rfl ?_ | refine JC.seq ?_ | refine JC.region ?_ | refine JC.skip ?_ | refine JL.nil ?_ | refine JE.next ?_ | refine JL.gskip rfl rfl rfl rfl ?_)
    refine JC.cond_true rfl rfl ?_
    repeat (first | refine JL.q (by (apply OQ.assign; exact rfl)) rfl ?_ | refine JC.seq ?_ | refine JC.region ?_ | refine JL.nil ?_ | refine JE.next ?_)
    refine JC.ret ?_
    repeat (refine JE.then_ret ?_)
    exact JE.ret1 rfl (RV.tmp rfl) fun w' hw => ⟨rfl, hw.chg⟩
  case false.false =>
    repeat (first | refine JL.q (by first | (apply OQ.load_agg (cs := sey s k.v); exact seA; exact seS; exact rfl; exact (.there (.there (.there .here))); exact hn; exact Row.all) | (apply OQ.callx (vs := [.agg (sey s k.v).toArray, side.v, p.v]); exact goes_great19; exact rfl; exact (fun w' _ => cg w')) | (apply OQ.callx (vs := [.agg (sey s k.v).toArray]); exact goes_rright; exact rfl; exact (fun w' hw' => cr w' (hk.holds hw' rfl))) | (apply OQ.not; exact rfl) | (apply OQ.pick_f; exact rfl; exact rfl) | (apply OQ.move; exact rfl)) rfl ?_ | refine JC.seq ?_ | refine JC.region ?_ | refine JC.skip ?_ | refine JL.nil ?_ | refine JE.next ?_ | refine JL.gon rfl rfl ?_)
    refine JC.cond_true rfl rfl ?_
    repeat (first | refine JL.q (by (apply OQ.assign; exact rfl)) rfl ?_ | refine JC.seq ?_ | refine JC.region ?_ | refine JL.nil ?_ | refine JE.next ?_)
    refine JC.ret ?_
    repeat (refine JE.then_ret ?_)
    exact JE.ret1 rfl (RV.tmp rfl) fun w' hw => ⟨rfl, hw.chg⟩
  obtain ⟨hb1, hb2, hb3⟩ := hg rfl
  have hz := hr.1 rfl
  repeat (first | refine JL.q (by first | (apply OQ.load_agg (cs := sey s k.v); exact seA; exact seS; exact rfl; exact (.there (.there (.there .here))); exact hn; exact Row.all) | (apply OQ.callx (vs := [.agg (sey s k.v).toArray, side.v, p.v]); exact goes_great19; exact rfl; exact (fun w' _ => cg w')) | (apply OQ.callx (vs := [.agg (sey s k.v).toArray]); exact goes_rright; exact rfl; exact (fun w' hw' => cr w' (hk.holds hw' rfl))) | (apply OQ.not; exact rfl) | (apply OQ.pick_f; exact rfl; exact rfl) | (apply OQ.move; exact rfl)) rfl ?_ | refine JC.seq ?_ | refine JC.region ?_ | refine JC.skip ?_ | refine JL.nil ?_ | refine JE.next ?_ | refine JL.gon rfl rfl ?_)
  refine JC.cond_false rfl rfl ?_
  refine JC.skip (JE.next ?_)
  clear cg cr csp hg hr
  have hcell := hz.cells k.v
  have hm := hz.most
  have hkk := SlKz.nat_ok hk hz hs he
  have hso := Sez.nat_ok hs
  have hke : k.nat.l = s.nat.kept := by show k.l.map Kpz.nat = s.kept.map Kpz.nat; rw [he]
  have hkl : s.nat.kept.length ≤ 100 := by rw [Sez.nat_len]; exact hb1
  rw [hcell, ← SlKz.nat_v] at hn
  rw [hcell, ← SlKz.nat_v]
  generalize k.nat = K at *
  generalize s.nat = t at *
  clear hcell hz he hs hk
  obtain ⟨m1, m2, m3⟩ := hm
  have cE := fun (x y : Sl8) (hx : x.l = side.l) (hy : y.l = p.l) (w' : World) (h1 : GOk w') (h2 : GQ w') (hK : K.ok w') (hxo : x.ok w') (hyo : y.ok w') => by
    have := encr_any t K hso hke (by omega) (by omega) (by omega) x y (by rw [hx]; omega) (by rw [hy]; omega) w' h1 h2 hK hxo hyo
    rw [hx, hy] at this
    exact this
  have cF := fun (w' : World) (hxo : side.ok w') (hyo : p.ok w') => rencr_any t K.v rfl hso (by omega) (by omega) side p (by omega) (by omega) w' hxo hyo
  have ok := encS_ok hso side.l p.l
  have okk := encS_kept t side.l p.l
  have okl := encS_len t side.l p.l
  have cEv := fun (b c b' c' : Nat) (w' : World) (h1 : GOk w') (h2 : GQ w') (hK : K.ok w') (hxo : Sl8.ok w' ⟨some ⟨b, 0, none⟩, c, side.l⟩) (hyo : Sl8.ok w' ⟨some ⟨b', 0, none⟩, c', p.l⟩) => cE ⟨some ⟨b, 0, none⟩, c, side.l⟩ ⟨some ⟨b', 0, none⟩, c', p.l⟩ rfl rfl w' h1 h2 hK hxo hyo
  generalize encS t side.l p.l = o at *
  obtain ⟨o1, o2, oc⟩ := o
  dsimp only at ok okk okl cE cF
  repeat (refine JC.seq ?_)
  let vs : Nat → ((Nat × Nat) × EcR (o1, o2, oc)) → Value := fun j y => match j with
    | 0 => .agg (sec t K.v).toArray
    | 1 => .slice (some ⟨y.1.1, 0, none⟩) 0 0
    | 2 => side.v
    | 3 => .slice (some ⟨y.1.1, 0, none⟩) side.l.length y.1.2
    | 4 => .slice (some ⟨y.1.1, 0, none⟩) 0 0
    | 5 => p.v
    | 6 => .slice (some ⟨y.1.1, 0, none⟩) p.l.length y.1.2
    | 7 => .tuple #[.agg (sec o1 (accV y.2.q o1.kept.length)).toArray, accV y.2.x o2.length, N oc]
    | 8 => .tuple #[.agg (sec o1 (accV y.2.q o1.kept.length)).toArray, accV y.2.x o2.length, N oc]
    | 9 => .agg (sec o1 (accV y.2.q o1.kept.length)).toArray
    | 10 => accV y.2.x o2.length
    | 11 => N oc
    | 12 => Pt y.1.1 0
    | 14 => accV y.2.x o2.length
    | 15 => N oc
    | _ => N 0
  let Ms : Nat → ((Nat × Nat) × EcR (o1, o2, oc)) → List Ent := fun j y => match j with
    | 1 => [⟨y.1.1, Sl.Own 5 1 0 0 [], true⟩]
    | 3 => [⟨y.1.1, Sl.Own 5 1 side.l.length y.1.2 (side.l.map U8), true⟩]
    | 4 => [⟨y.1.1, Sl.Own 5 1 0 0 [], true⟩]
    | 6 => [⟨y.1.1, Sl.Own 5 1 p.l.length y.1.2 (p.l.map U8), true⟩]
    | 7 => accE 5 y.2.x (o2.map U8) ++ kpE y.2.q o1.kept
    | 12 => [⟨y.1.1, Row 26 (sec zeroS nilKV), true⟩]
    | 13 => [⟨y.1.1, Row 26 (sec o1 (accV y.2.q o1.kept.length)), true⟩]
    | 16 => [⟨b11, Row 23 (other.map U8), true⟩]
    | 17 => [⟨b10, Row 23 (own.map U8), true⟩]
    | 18 => [⟨b9, Row 23 (root.map U8), true⟩]
    | 19 => [⟨b6, Row 26 (sec t K.v), true⟩]
    | _ => []
  refine JC.growM (g := ⟨[(1, side.v), (2, p.v), (6, Pt b6 0), (9, Pt b9 0), (10, Pt b10 0), (11, Pt b11 0)], 20, vs, Ms, (fun j => match j with | 3 => [(1, 33), (2, 34)] | 6 => [(4, 36), (5, 37)] | 7 => [(0, 32), (3, 35), (6, 38)] | 8 => [(7, 39)] | 9 => [(8, 31)] | 10 => [(8, 31)] | 11 => [(8, 31)] | 13 => [(12, 13), (9, 40)] | 14 => [(10, 41)] | 15 => [(11, 42)] | _ => []), (fun j => match j with | 0 => [19] | 3 => [1] | 6 => [4] | 7 => [3, 6] | 13 => [12] | _ => []), (fun j => match j with | 3 => [1] | 6 => [4] | 13 => [12] | _ => []), (fun j => match j with | 8 => [7] | 9 => [8] | 10 => [8] | 13 => [12, 9] | 14 => [10] | _ => []), fun _ => [], fun j k a b => match j, k with | 13, 12 => a.1 = b.1 | 13, 9 => a.2 = b.2 | _, _ => a = b⟩) [(12, 13), (14, 14), (15, 15)] [13, 16, 17, 18, 19, 7] mixT (by repeat (first | exact SubE.nil | refine SubE.cons _ _ _ rfl ?_)) (fun _ _ => .nil) ?_ (by kernel_rfl) (by kernel_rfl) (by kernel_rfl) ?_ ?_
  · exact Less.refl _
  · refine ⟨?_, ?_, ?_, ?_, ?_, ?_, ?_, ?_, ?_, ?_, ?_, ?_, ?_, ?_, ?_, ?_, trivial⟩
    · (intro xx EF MF Q kk; (try refine JL.gon rfl rfl ?_); exact JL.q (OQ.load_agg (cs := sec t K.v) seA seS rfl .here hn Row.all) rfl (JL.nil (kk default nofun)))
    · (intro xx EF MF Q kk; exact JL.lit0O Tryd.underlying27 u8e rfl fun b0 _ => JL.nil (kk ((b0, 0), default) nofun))
    · (intro xx EF MF Q kk; (try refine JL.gon rfl rfl ?_); exact JL.q (OQ.move rfl) rfl (JL.nil (kk default nofun)))
    · (intro xx EF MF Q kk; exact JL.append (cs := side.l.map U8) (m := side.l.length) (ad := side.ad) (sc := side.cap) (xs := []) (fun b' cap' => ⟨b', Sl.Own 5 1 (0 + side.l.length) cap' ([] ++ side.l.map U8), true⟩ :: MF) Tryd.underlying27 u8e rfl rfl (fun _ _ => .here) (by rw [List.length_map, Nat.mul_one]) (fun w' hw' => (hside.holds hw' rfl).reads) (fun v hv => by obtain ⟨q, _, rfl⟩ := List.mem_map.1 hv; rfl) rfl (by decide) (by omega) (by omega) rfl fun b' cap' => by simp only [Nat.zero_add]; exact JL.nil (kk ((b', cap'), default) nofun))
    · (intro xx EF MF Q kk; exact JL.lit0O Tryd.underlying27 u8e rfl fun b0 _ => JL.nil (kk ((b0, 0), default) nofun))
    · (intro xx EF MF Q kk; (try refine JL.gon rfl rfl ?_); exact JL.q (OQ.move rfl) rfl (JL.nil (kk default nofun)))
    · (intro xx EF MF Q kk; exact JL.append (cs := p.l.map U8) (m := p.l.length) (ad := p.ad) (sc := p.cap) (xs := []) (fun b' cap' => ⟨b', Sl.Own 5 1 (0 + p.l.length) cap' ([] ++ p.l.map U8), true⟩ :: MF) Tryd.underlying27 u8e rfl rfl (fun _ _ => .here) (by rw [List.length_map, Nat.mul_one]) (fun w' hw' => (hp.holds hw' rfl).reads) (fun v hv => by obtain ⟨q, _, rfl⟩ := List.mem_map.1 hv; rfl) rfl (by decide) (by omega) (by omega) rfl fun b' cap' => by simp only [Nat.zero_add]; exact JL.nil (kk ((b', cap'), default) nofun))
    · (intro xx EF MF Q kk; exact JL.callg (ι := EcR (o1, o2, oc)) (vs := [.agg (sec t K.v).toArray, .slice (some ⟨(xx 3).1.1, 0, none⟩) side.l.length (xx 3).1.2, .slice (some ⟨(xx 6).1.1, 0, none⟩) p.l.length (xx 6).1.2]) (fun r => .tuple #[.agg (sec o1 (accV r.q o1.kept.length)).toArray, accV r.x o2.length, N oc]) (fun r => accE 5 r.x (o2.map U8) ++ kpE r.q o1.kept) goes_encr rfl rfl (fun r => ecE_wr _ _ _ _) (fun w' hw' => cEv ((xx 3).1.1) ((xx 3).1.2) ((xx 6).1.1) ((xx 6).1.2) w' (hG.chg hw'.chg (by simp)) (hQ.chg hw'.chg (by simp)) (hkk.holds hw' rfl) (ownb_ok hw' .here) (ownb_ok hw' (.there .here))) fun r => JL.nil (kk ((0, 0), r) nofun))
    · (intro xx EF MF Q kk; (try refine JL.gon rfl rfl ?_); exact JL.q (OQ.move rfl) rfl (JL.nil (kk (xx 7) (fun k h => by have h := List.mem_singleton.1 h; subst h; rfl))))
    · (intro xx EF MF Q kk; (try refine JL.gon rfl rfl ?_); exact JL.q (OQ.extract rfl rfl) rfl (JL.nil (kk (xx 8) (fun k h => by have h := List.mem_singleton.1 h; subst h; rfl))))
    · (intro xx EF MF Q kk; (try refine JL.gon rfl rfl ?_); exact JL.q (OQ.extract rfl rfl) rfl (JL.nil (kk (xx 8) (fun k h => by have h := List.mem_singleton.1 h; subst h; rfl))))
    · (intro xx EF MF Q kk; (try refine JL.gon rfl rfl ?_); exact JL.q (OQ.extract rfl rfl) rfl (JL.nil (kk default nofun)))
    · (intro xx EF MF Q kk; exact JL.alloc seZ rfl fun b0 _ => JL.nil (kk ((b0, 0), default) nofun))
    · (intro xx EF MF Q kk; exact JL.store_all (cs := sec o1 (accV (xx 9).2.q o1.kept.length)) seS rfl rfl (sec_len ok _) (sec_one (accV_one _ _)) .here (sec_len zeroS_ok _) (JL.nil (kk ((xx 12).1, (xx 9).2) (fun k h => by have h : k ∈ [12, 9] := h; simp only [List.mem_cons, List.mem_nil_iff, or_false] at h; rcases h with rfl | rfl <;> rfl))))
    · (intro xx EF MF Q kk; (try refine JL.gon rfl rfl ?_); exact JL.q (OQ.assign rfl) rfl (JL.nil (kk (xx 10) (fun k h => by have h := List.mem_singleton.1 h; subst h; rfl))))
    · (intro xx EF MF Q kk; (try refine JL.gon rfl rfl ?_); exact JL.q (OQ.assign rfl) rfl (JL.nil (kk default nofun)))
  · intro xx hx
    have e14 : xx 14 = xx 10 := hx 14 10 (by decide) (.head _)
    have e10 : xx 10 = xx 8 := hx 10 8 (by decide) (.head _)
    have e9 : xx 9 = xx 8 := hx 9 8 (by decide) (.head _)
    have e8 : xx 8 = xx 7 := hx 8 7 (by decide) (.head _)
    have a13 : (xx 13).1 = (xx 12).1 := hx 13 12 (by decide) (.head _)
    have v13 : (xx 13).2 = (xx 9).2 := hx 13 9 (by decide) (.tail _ (.head _))
    show JE _ _ _ _ _ [(13, Pt (xx 12).1.1 0), (14, accV (xx 14).2.x o2.length), (15, N oc), (1, side.v), (2, p.v), (6, Pt b6 0), (9, Pt b9 0), (10, Pt b10 0), (11, Pt b11 0)] (⟨(xx 13).1.1, Row 26 (sec o1 (accV (xx 13).2.q o1.kept.length)), true⟩ :: ⟨b11, Row 23 (other.map U8), true⟩ :: ⟨b10, Row 23 (own.map U8), true⟩ :: ⟨b9, Row 23 (root.map U8), true⟩ :: ⟨b6, Row 26 (sec t K.v), true⟩ :: ((accE 5 (xx 7).2.x (o2.map U8) ++ kpE (xx 7).2.q o1.kept) ++ []))
    rw [v13, a13, e9, e14, e10, e8, List.append_nil]
    generalize (xx 12).1.1 = b13
    generalize (xx 7).2 = z
    clear hx e14 e10 e9 e8 a13 v13 xx vs Ms
    obtain ⟨q, x, hq, hx⟩ := z
    dsimp only at hq hx ⊢
    repeat (first | refine JL.q (by first | (apply OQ.load_agg (cs := sec t K.v); exact seA; exact seS; exact rfl; exact (.there (.there (.there (.there .here)))); exact hn; exact Row.all) | (apply OQ.move; exact rfl)) rfl ?_ | refine JC.seq ?_ | refine JC.region ?_ | refine JE.next ?_)
    refine JL.callg (ι := ErR (o1, o2, oc)) (vs := [.agg (sec t K.v).toArray, side.v, p.v]) (fun r => .tuple #[.agg (sec o1 K.v).toArray, accV r.x o2.length, N oc]) (fun r => accE 5 r.x (o2.map U8)) goes_rencr rfl rfl (fun r => acE_wr _ _) (fun w' hw' => cF w' (hside.holds hw' rfl) (hp.holds hw' rfl)) ?_
    rintro ⟨x2, hx2⟩
    dsimp only at hx2 ⊢
    have lo := fun v => sec_len ok v
    repeat (refine JL.q (by first | (apply OQ.extract; exact rfl; exact rfl) | (apply OQ.move; exact rfl)) rfl ?_)
    refine JL.alloc seZ rfl fun b16 _ => ?_
    refine JL.store_all (cs := sec o1 K.v) seS rfl rfl (lo _) (sec_one rfl) .here (sec_len zeroS_ok _) ?_
    have cS : ∀ w' : World, (accK q o1.kept).ok w' → K.ok w' → Calls Tryd.prog 11 [.agg (sec o1 (accV q o1.kept.length)).toArray, .agg (sec o1 K.v).toArray].toArray w' fun e w'' => e = .returned (.bool true) ∧ Ext w' w'' := fun w' h h' => by
      have := rsame19_any o1 (accK q o1.kept) K ok w' h h' (accK_l hq) (hke.trans okk.symm) (by rw [okk]; omega)
      rw [accK_v] at this
      exact this
    have cT : ∀ w' : World, (accS x o2).ok w' → (accS x2 o2).ok w' → Calls Tryd.prog 12 [accV x o2.length, accV x2 o2.length].toArray w' fun e w'' => e = .returned (.bool true) ∧ Ext w' w'' := fun w' h h' =>
      same_t (accS_v _ _) (accS_v _ _) h h' (by rw [accS_l hx]; omega) ((accS_l hx).trans (accS_l hx2).symm)
    have eoc : decide ((oc : Int) = (oc : Int)) = true := decide_eq_true rfl
    repeat (first | refine JL.q (by first | (apply OQ.neB (a := oc) (b := oc); exact rfl; exact rfl; exact eoc) | (apply OQ.load_agg (cs := sec o1 (accV q o1.kept.length)); exact seA; exact seS; exact rfl; exact (.there (hasApp _ .here)); exact (lo _); exact Row.all) | (apply OQ.load_agg (cs := sec o1 K.v); exact seA; exact seS; exact rfl; exact .here; exact (lo _); exact Row.all) | (apply OQ.callx (vs := [.agg (sec o1 (accV q o1.kept.length)).toArray, .agg (sec o1 K.v).toArray]); exact goes_rsames; exact rfl; exact (fun w' hw' => cS w' (accK_ok (M := []) ok.kept (by rw [List.append_nil]; exact hw'.weak (lessT1 _ _ _))) (hkk.holds hw' rfl))) | (apply OQ.not; exact rfl) | (apply OQ.pick_f; exact rfl; exact rfl) | (apply OQ.callx (vs := [accV x o2.length, accV x2 o2.length]); exact goes_same; exact rfl; exact (fun w' hw' => cT w' (acc_ok (e := 5) (M := kpE q o1.kept) (hw'.weak (lessT2 _ _))) (acc_ok (hw'.weak (.drop _ _ _ (Less.refl _)))))) | (apply OQ.move; exact rfl) | (apply OQ.assign; exact rfl)) rfl ?_ | refine JC.seq ?_ | refine JC.region ?_ | refine JL.nil ?_ | refine JE.next ?_ | refine JL.gon rfl rfl ?_)
    refine JC.cond_false rfl rfl ?_
    refine JC.skip (JE.next ?_)
    refine JC.weak (E' := [(9, Pt b9 0), (10, Pt b10 0), (11, Pt b11 0)]) (M' := [⟨b11, Row 23 (other.map U8), true⟩, ⟨b10, Row 23 (own.map U8), true⟩, ⟨b9, Row 23 (root.map U8), true⟩]) ?_ (by repeat (first | exact SubE.nil | refine SubE.cons _ _ _ rfl ?_)) (.drop _ _ _ (less_app _ (.drop _ _ _ (.keep _ _ _ _ _ _ (fun _ h => h) (.keep _ _ _ _ _ _ (fun _ h => h) (.keep _ _ _ _ _ _ (fun _ h => h) (Less.nil _)))))))
    clear cE cEv cF cS cT ok okk okl lo hn hkk hke hkl
    have hz : (List.replicate 32 (0 : BitVec 8)).length = 32 := rfl
    have hb := pair1_built own h2
    have hlP : ((own ++ List.replicate 32 0).map U8).length = 64 := by rw [List.length_map, List.length_append, h2]; rfl
    have c1 := fun (w' : World) (hG' : GOk w') => first_any root own (List.replicate 32 0) other h1 h2 hz h3 w' hG'
    have c2 := fun (w' : World) => rfirst_any root own other h1 h2 h3 w'
    have c3 := fun (w' : World) => second_any root own (List.replicate 32 0) h1 h2 hz w'
    have c4 := fun (w' : World) => rsame19_any (firstS root own other) nilKk nilKk (firstS_ok root own other h2 h3) w' (nilKk_ok _) (nilKk_ok _) rfl rfl (by show (0 : Nat) < _; decide)
    have c5 := fun (w' : World) => rsame19_any (secondS root own) nilKk nilKk (secondS_ok root own h1 h2) w' (nilKk_ok _) (nilKk_ok _) rfl rfl (by show (0 : Nat) < _; decide)
    have hb2 := ses_built2 root own h1 h2
    generalize own ++ List.replicate 32 0 = P at *
    generalize firstS root own other = F at *
    generalize secondS root own = S2 at *
    repeat (first | refine JL.q (by (apply OQ.load_agg (cs := own.map U8); exact k32a; exact k32s; exact rfl; exact (.there .here); exact l2; exact Row.all)) rfl ?_ | refine JC.seq ?_ | refine JC.region ?_)
    refine JL.q (OQ.buildK (cs := P.map U8) [0] [.tmp 66] (vs := [.agg (own.map U8).toArray]) rfl rfl hb) rfl ?_
    refine JL.alloc p64z rfl fun b19 _ => ?_
    refine JL.store_all (cs := P.map U8) p64s rfl rfl hlP (Y_cell _) .here rfl ?_
    repeat (first | refine JC.seq ?_ | refine JL.nil ?_ | refine JE.next ?_)
    let vs : Nat → Nat → Value := fun j y => match j with
      | 0 => .agg (root.map U8).toArray
      | 1 => .agg (P.map U8).toArray
      | 2 => .agg (other.map U8).toArray
      | 3 => .agg (sec F nilKV).toArray
      | 4 => .agg (root.map U8).toArray
      | 5 => .agg (own.map U8).toArray
      | 6 => .agg (other.map U8).toArray
      | 7 => .agg (sec F nilKV).toArray
      | 8 => .bool true
      | 9 => .bool true
      | 10 => .agg (root.map U8).toArray
      | 11 => .agg (P.map U8).toArray
      | 12 => .agg (sec S2 nilKV).toArray
      | 13 => .agg (root.map U8).toArray
      | 14 => .agg (own.map U8).toArray
      | 15 => .agg (sec S2 nilKV).toArray
      | 16 => .bool true
      | 17 => .bool true
      | 18 => .bool true
      | _ => N 0
    let Ms : Nat → Nat → List Ent := fun j y => match j with
      | 19 => [⟨b19, Row 39 (P.map U8), true⟩]
      | 20 => [⟨b11, Row 23 (other.map U8), true⟩]
      | 21 => [⟨b10, Row 23 (own.map U8), true⟩]
      | 22 => [⟨b9, Row 23 (root.map U8), true⟩]
      | _ => []
    refine JC.grow (g := ⟨[(9, Pt b9 0), (10, Pt b10 0), (11, Pt b11 0), (19, Pt b19 0)], 23, vs, Ms, (fun j => match j with | 3 => [(0, 68), (1, 69), (2, 70)] | 7 => [(4, 72), (5, 73), (6, 74)] | 8 => [(3, 71), (7, 75)] | 9 => [(8, 76)] | 10 => [(9, 77)] | 11 => [(9, 77)] | 12 => [(10, 78), (11, 79), (9, 77)] | 13 => [(9, 77)] | 14 => [(9, 77)] | 15 => [(13, 81), (14, 82), (9, 77)] | 16 => [(12, 80), (15, 83), (9, 77)] | 17 => [(9, 77), (16, 84)] | 18 => [(17, 85)] | _ => []), (fun j => match j with | 0 => [22] | 1 => [19] | 2 => [20] | 4 => [22] | 5 => [21] | 6 => [20] | 10 => [22] | 11 => [19] | 13 => [22] | 14 => [21] | _ => []), (fun j => match j with | _ => []), (fun j => match j with | _ => none)⟩) [(18, 12)] [] mixT (by repeat (first | exact SubE.nil | refine SubE.cons _ _ _ rfl ?_)) ?_ (by kernel_rfl) (by kernel_rfl) (by kernel_rfl) ?_ ?_
    · exact Less.refl _
    · refine ⟨?_, ?_, ?_, ?_, ?_, ?_, ?_, ?_, ?_, ?_, ?_, ?_, ?_, ?_, ?_, ?_, ?_, ?_, ?_, trivial⟩
      · (intro xx EF MF Q kk; (try refine JL.gon rfl rfl ?_); exact JL.q (OQ.load_agg (cs := root.map U8) k32a k32s rfl .here l1 Row.all) rfl (JL.nil (kk default nofun)))
      · (intro xx EF MF Q kk; (try refine JL.gon rfl rfl ?_); exact JL.q (OQ.load_agg (cs := P.map U8) p64a p64s rfl .here hlP Row.all) rfl (JL.nil (kk default nofun)))
      · (intro xx EF MF Q kk; (try refine JL.gon rfl rfl ?_); exact JL.q (OQ.load_agg (cs := other.map U8) k32a k32s rfl .here l3 Row.all) rfl (JL.nil (kk default nofun)))
      · (intro xx EF MF Q kk; (try refine JL.gon rfl rfl ?_); exact JL.q (OQ.callx (vs := [.agg (root.map U8).toArray, .agg (P.map U8).toArray, .agg (other.map U8).toArray]) goes_first rfl (fun w' hw' => c1 w' (hG.chg hw'.chg (by simp)))) rfl (JL.nil (kk default nofun)))
      · (intro xx EF MF Q kk; (try refine JL.gon rfl rfl ?_); exact JL.q (OQ.load_agg (cs := root.map U8) k32a k32s rfl .here l1 Row.all) rfl (JL.nil (kk default nofun)))
      · (intro xx EF MF Q kk; (try refine JL.gon rfl rfl ?_); exact JL.q (OQ.load_agg (cs := own.map U8) k32a k32s rfl .here l2 Row.all) rfl (JL.nil (kk default nofun)))
      · (intro xx EF MF Q kk; (try refine JL.gon rfl rfl ?_); exact JL.q (OQ.load_agg (cs := other.map U8) k32a k32s rfl .here l3 Row.all) rfl (JL.nil (kk default nofun)))
      · (intro xx EF MF Q kk; (try refine JL.gon rfl rfl ?_); exact JL.q (OQ.callx (vs := [.agg (root.map U8).toArray, .agg (own.map U8).toArray, .agg (other.map U8).toArray]) goes_rfirst rfl (fun w' _ => c2 w')) rfl (JL.nil (kk default nofun)))
      · (intro xx EF MF Q kk; (try refine JL.gon rfl rfl ?_); exact JL.q (OQ.callx (vs := [.agg (sec F nilKV).toArray, .agg (sec F nilKV).toArray]) goes_rsames rfl (fun w' _ => c4 w')) rfl (JL.nil (kk default nofun)))
      · (intro xx EF MF Q kk; (try refine JL.gon rfl rfl ?_); exact JL.q (OQ.move rfl) rfl (JL.nil (kk default nofun)))
      · (intro xx EF MF Q kk; (try refine JL.gon rfl rfl ?_); exact JL.q (OQ.load_agg (cs := root.map U8) k32a k32s rfl .here l1 Row.all) rfl (JL.nil (kk default nofun)))
      · (intro xx EF MF Q kk; (try refine JL.gon rfl rfl ?_); exact JL.q (OQ.load_agg (cs := P.map U8) p64a p64s rfl .here hlP Row.all) rfl (JL.nil (kk default nofun)))
      · (intro xx EF MF Q kk; (try refine JL.gon rfl rfl ?_); exact JL.q (OQ.callx (vs := [.agg (root.map U8).toArray, .agg (P.map U8).toArray]) goes_second rfl (fun w' _ => c3 w')) rfl (JL.nil (kk default nofun)))
      · (intro xx EF MF Q kk; (try refine JL.gon rfl rfl ?_); exact JL.q (OQ.load_agg (cs := root.map U8) k32a k32s rfl .here l1 Row.all) rfl (JL.nil (kk default nofun)))
      · (intro xx EF MF Q kk; (try refine JL.gon rfl rfl ?_); exact JL.q (OQ.load_agg (cs := own.map U8) k32a k32s rfl .here l2 Row.all) rfl (JL.nil (kk default nofun)))
      · (intro xx EF MF Q kk; (try refine JL.gon rfl rfl ?_); exact JL.q (OQ.buildK (cs := sec S2 nilKV) [0, 1] [.tmp 81, .tmp 82] (vs := [.agg (root.map U8).toArray, .agg (own.map U8).toArray]) rfl rfl hb2) rfl (JL.nil (kk default nofun)))
      · (intro xx EF MF Q kk; (try refine JL.gon rfl rfl ?_); exact JL.q (OQ.callx (vs := [.agg (sec S2 nilKV).toArray, .agg (sec S2 nilKV).toArray]) goes_rsames rfl (fun w' _ => c5 w')) rfl (JL.nil (kk default nofun)))
      · (intro xx EF MF Q kk; (try refine JL.gon rfl rfl ?_); exact JL.q (OQ.pick_t rfl rfl) rfl (JL.nil (kk default nofun)))
      · (intro xx EF MF Q kk; (try refine JL.gon rfl rfl ?_); exact JL.q (OQ.assign rfl) rfl (JL.nil (kk default nofun)))
    · intro xx hx
      clear hx
      show JE _ _ _ _ _ [(12, .bool true), (9, Pt b9 0), (10, Pt b10 0), (11, Pt b11 0), (19, Pt b19 0)] []
      clear xx vs Ms
      repeat (refine JE.next ?_)
      refine JC.ret ?_
      skip
      exact JE.ret1 rfl (RV.tmp rfl) fun w' hw => ⟨rfl, hw.chg⟩
end Go.Proofs.YtbhlcnimjoppeaaDoor

/-
  Of no statement by itself: what a plain row's proof opens its arguments with (keys, bytes, slices of bytes and of int).
  Conditions: each theorem's own.
-/
namespace Go.Proofs.YtbhlcnimjoppeaaDoor
set_option maxRecDepth 10000
open Go.ChangeShapes Go.WideShapes Go.ChangeAt Go.RowKit
open Sl
set_option linter.unusedVariables false
theorem ownQ : ownKnob Tryd.prog.godebug = none := by kernel_rfl
theorem laidOutQ : laidOutB Tryd.prog = true := by kernel_rfl
theorem u8_of {z : Int} (h : (Lit.int .u8 z).wf = true) : U8 (BitVec.ofInt 8 z) = .int .u8 z := by
  have h0 : 0 ≤ z ∧ z ≤ 255 := by
    have h1 : (decide (0 ≤ z) && decide (z ≤ 255)) = true := h
    simpa using h1
  have h2 : ((BitVec.ofInt 8 z).toNat : Int) = z := by
    rw [BitVec.toNat_ofInt]
    omega
  unfold U8
  rw [h2]
theorem arr8_of {H : Type} {enc : TypeId × Value → H} {W : World} {base fuel m : Nat} {t : TypeId} (hu : Tryd.prog.underlying t = some (.array m 5)) (hc : Tryd.prog.cellsOf t = m) {v : Value} {x : DataW H × List MemPlace} (hok : Value.okWide Tryd.prog W .any base t v) (h : DataW.trod enc Tryd.prog W 0 (fun _ => true) true fuel t v.cells.toList = some x) :
    ∃ r : List (BitVec 8), v = .agg (r.map U8).toArray ∧ r.length = m := by
  obtain ⟨xs, m', _, ex, _, hl, hel⟩ := DataW.trod_array hu h
  have c5 : Tryd.prog.cellsOf 5 = 1 := by kernel_rfl
  simp only [Value.okWide, hu] at hok
  obtain ⟨cs, rfl, hsz, _⟩ := hok
  rw [hc] at hsz
  have hk : ∀ i, ∃ k : BitVec 8, i < m → cs[i]? = some (U8 k) := by
    intro i
    by_cases hi : i < m
    · have h1 := hel i hi
      rw [c5, Nat.mul_one, List.getElem?_eq_getElem (by omega)] at h1
      obtain ⟨z, e1, e2, hw⟩ := DataW.trod_int (show Tryd.prog.underlying 5 = some (.int .u8) by kernel_rfl) h1
      refine ⟨BitVec.ofInt 8 z, fun _ => ?_⟩
      have h0 : ((cs.toList.drop i).take 1)[0]? = some (.int .u8 z) := by
        have : (Value.agg cs).cells = cs := rfl
        rw [this] at e1
        rw [e1]; rfl
      rw [u8_of hw]
      simpa using h0
    · exact ⟨0, fun h => absurd h hi⟩
  let f : Nat → BitVec 8 := fun i => Classical.choose (hk i)
  have hf : ∀ i, i < m → cs[i]? = some (U8 (f i)) := fun i => Classical.choose_spec (hk i)
  refine ⟨(List.range m).map f, ?_, by simp⟩
  congr 1
  apply Array.ext_getElem?
  intro i
  by_cases hi : i < m
  · rw [hf i hi]
    simp [hi]
  · rw [Array.getElem?_eq_none (by omega), Array.getElem?_eq_none (by simp; omega)]
theorem key_of {H : Type} {enc : TypeId × Value → H} {W : World} {base fuel : Nat} {v : Value} {x : DataW H × List MemPlace} (hok : Value.okWide Tryd.prog W .any base 23 v) (h : DataW.trod enc Tryd.prog W 0 (fun _ => true) true fuel 23 v.cells.toList = some x) :
    ∃ r : List (BitVec 8), v = .agg (r.map U8).toArray ∧ r.length = 32 := arr8_of (by kernel_rfl) (by kernel_rfl) hok h
def fldIs (P : Program) (t : TypeId) (i : Nat) (ty : TypeId) (off : Nat) : Bool := match (P.fieldsOf t)[i]? with
  | some f => f.type == ty && f.offset == off
  | none => false
theorem fldIs_get {P : Program} {t : TypeId} {i : Nat} {ty : TypeId} {off : Nat} (h : fldIs P t i ty off = true) : ∃ f, (P.fieldsOf t)[i]? = some f ∧ f.type = ty ∧ f.offset = off := by
  unfold fldIs at h
  split at h
  · next f e =>
    simp only [Bool.and_eq_true, beq_iff_eq] at h
    exact ⟨f, e, h.1, h.2⟩
  · cases h
def bits8 (zs : List Int) : List (BitVec 8) := zs.map (BitVec.ofInt 8)
theorem sl8_of {H : Type} {enc : TypeId × Value → H} {W : World} {fuel : Nat} {v : Value} {x : DataW H × List MemPlace} (h : DataW.trod enc Tryd.prog W 0 (fun _ => true) true fuel 27 [v] = some x) : ∃ k : Sl8, v = k.v ∧ k.ok W ∧ k.cap ≤ maxLen := by
  rcases open_ints (show Tryd.prog.underlying 27 = some (.slice 5) by kernel_rfl) (show Tryd.prog.underlying 5 = some (.int .u8) by kernel_rfl) (by kernel_rfl) h with ⟨hcs, _⟩ | ⟨x, l, c, zs, hcs, _, hl, hm, hz, _, hcell, hwz⟩
  · cases hcs
    exact ⟨⟨none, 0, []⟩, rfl, ⟨by simp, Reads.nil _ _⟩, by decide⟩
  · cases hcs
    simp only [if_true] at hz
    have hlen : (bits8 (zs.take l)).length = l := by simp [bits8]; omega
    refine ⟨⟨some x, c, bits8 (zs.take l)⟩, by simp [Sl8.v, hlen], ⟨by rw [hlen]; exact hl, ?_⟩, hm⟩
    intro i v hv
    have hi : i < l := by
      have := (List.getElem?_eq_some_iff.1 hv).1
      simpa [hlen] using this
    have hc := hcell i (by omega)
    obtain ⟨b, o, sp⟩ := x
    cases sp with
    | some s =>
      have hc := hcell 0 (by omega)
      simp only [World.cell?, Addr.add, if_true] at hc
      split at hc <;> simp at hc
    | none =>
      refine ⟨b, o, rfl, ?_⟩
      have e1 : zs.getD i 0 = zs[i]'(by omega) := by simp [List.getD, show i < zs.length by omega]
      have e2 := u8_of (hwz (zs[i]'(by omega)) (List.getElem_mem _))
      have e3 : v = .int .u8 (zs.getD i 0) := by
        simp only [bits8, List.map_map, List.getElem?_map, List.getElem?_take] at hv
        rw [if_pos hi, List.getElem?_eq_getElem (by omega)] at hv
        simp only [Option.map_some, Function.comp, Option.some.injEq] at hv
        rw [← hv, e2, e1]
      rw [e3]
      have e4 : (⟨b, o, none⟩ : Addr).add i = ⟨b, o + i, none⟩ := by
        unfold Addr.add
        split
        · subst i; rfl
        · rfl
      rw [e4] at hc
      exact hc
end Go.Proofs.YtbhlcnimjoppeaaDoor

/-
  Of no statement by itself: what a row's proof opens a slice of elements of many cells with, whatever they are.
  Conditions: each theorem's own.
-/
namespace Go.Proofs.YtbhlcnimjoppeaaDoor
set_option maxRecDepth 10000
open Go.ChangeShapes Go.WideShapes Go.ChangeAt Go.RowKit
open Sl
set_option linter.unusedVariables false
theorem elemsC_of {α : Type} {H : Type} {enc : TypeId × Value → H} {W : World} {fuel k : Nat} {t e : TypeId} {v : Value} {x : DataW H × List MemPlace} (cs : α → List Value) (P : α → Prop) (c0 : α) (hk0 : 0 < k)
    (hu : Tryd.prog.underlying t = some (.slice e)) (hc1 : Tryd.prog.cellsOf e = k) (hlen : ∀ c, P c → (cs c).length = k)
    (hel : ∀ (l : List Value) (fuel : Nat) (x : DataW H × List MemPlace), l.length = k → DataW.trod enc Tryd.prog W 0 (fun _ => true) true fuel e l = some x → ∃ c, l = cs c ∧ P c)
    (h : DataW.trod enc Tryd.prog W 0 (fun _ => true) true fuel t [v] = some x) :
    ∃ (ad : Option Addr) (cap : Nat) (l : List α), v = .slice ad l.length cap ∧ l.length ≤ cap ∧ Reads W ad (l.map cs).flatten ∧ ∀ c ∈ l, P c := by
  rcases Go.Deep.open_slice hu h with ⟨hcs, _⟩ | ⟨a', l, cap, m, n, D, Pl, hcs, _, hl, hm, hmm, hxx, hel'⟩
  · cases hcs
    exact ⟨none, 0, [], rfl, Nat.le_refl _, Reads.nil _ _, nofun⟩
  · cases hcs
    simp only [if_true] at hmm
    subst hmm
    simp only [hc1] at hel'
    have hk : ∀ i, ∃ c : α, i < l → (∀ j u, (cs c)[j]? = some u → W.cell? ((a'.add (i * k)).add j) = some u) ∧ P c := by
      intro i
      by_cases hi : i < l
      · obtain ⟨cs', h1, h2⟩ := hel' i (by omega)
        obtain ⟨_, hlen', hcell⟩ := World.cells?_some h1
        obtain ⟨c, rfl, hp⟩ := hel _ _ _ hlen' h2
        refine ⟨c, fun _ => ⟨fun j u hu => ?_, hp⟩⟩
        have hj : j < (cs c).length := (List.getElem?_eq_some_iff.1 hu).1
        rw [hcell j (by omega)]
        exact hu
      · exact ⟨c0, fun h => absurd h hi⟩
    let f : Nat → α := fun i => Classical.choose (hk i)
    have hf : ∀ i, i < l → (∀ j u, (cs (f i))[j]? = some u → W.cell? ((a'.add (i * k)).add j) = some u) ∧ P (f i) := fun i => Classical.choose_spec (hk i)
    refine ⟨some a', m, (List.range l).map f, by simp, by simpa using hl, ?_, ?_⟩
    · intro i u hu
      have hcss : ∀ q ∈ ((List.range l).map f).map cs, q.length = k := by
        intro q hq
        obtain ⟨d, hd, rfl⟩ := List.mem_map.1 hq
        obtain ⟨j, hj, rfl⟩ := List.mem_map.1 hd
        exact hlen _ (hf j (List.mem_range.1 hj)).2
      have hlen2 := chunk_len hcss
      have hi : i < (((List.range l).map f).map cs).flatten.length := (List.getElem?_eq_some_iff.1 hu).1
      rw [hlen2] at hi
      simp only [List.length_map, List.length_range] at hi
      have hq : i / k < l := Nat.div_lt_of_lt_mul (by rw [Nat.mul_comm]; exact hi)
      have hr : i % k < k := Nat.mod_lt _ hk0
      have hat := chunk_at (i := i / k) hcss (by simpa using hq)
      have e2 : (((List.range l).map f).map cs).getD (i / k) [] = cs (f (i / k)) := by simp [hq]
      rw [e2] at hat
      have hdm : i / k * k + i % k = i := by rw [Nat.mul_comm]; exact Nat.div_add_mod i k
      have hu2 : (cs (f (i / k)))[i % k]? = some u := by
        rw [← hat, List.getElem?_take, if_pos hr, List.getElem?_drop, hdm]
        exact hu
      have hc := (hf (i / k) hq).1 (i % k) u hu2
      obtain ⟨b, o, sp⟩ := a'
      cases sp with
      | some s =>
        exfalso
        have h0 := hf 0 (Nat.lt_of_le_of_lt (Nat.zero_le _) hq)
        have hl0 := hlen _ h0.2
        obtain ⟨u0, hu0⟩ : ∃ u0, (cs (f 0))[0]? = some u0 := ⟨_, List.getElem?_eq_getElem (by omega)⟩
        have h00 := h0.1 0 u0 hu0
        simp only [World.cell?, Addr.add, Nat.zero_mul, if_true] at h00
        split at h00 <;> simp at h00
      | none =>
        refine ⟨b, o, rfl, ?_⟩
        rw [add_off, add_off, Nat.add_assoc, hdm] at hc
        exact hc
    · intro d hd
      obtain ⟨j, hj, rfl⟩ := List.mem_map.1 hd
      exact (hf j (List.mem_range.1 hj)).2
theorem arr8c_of {H : Type} {enc : TypeId × Value → H} {W : World} {fuel m : Nat} {t : TypeId} (hu : Tryd.prog.underlying t = some (.array m 5)) {cs : List Value} (hl : cs.length = m) {x : DataW H × List MemPlace} (h : DataW.trod enc Tryd.prog W 0 (fun _ => true) true fuel t cs = some x) :
    ∃ r : List (BitVec 8), cs = r.map U8 ∧ r.length = m := by
  obtain ⟨xs, m', _, ex, _, _, hel⟩ := DataW.trod_array hu h
  have c5 : Tryd.prog.cellsOf 5 = 1 := by kernel_rfl
  have hk : ∀ i, ∃ k : BitVec 8, i < m → cs[i]? = some (U8 k) := by
    intro i
    by_cases hi : i < m
    · have h1 := hel i hi
      rw [c5, Nat.mul_one, List.getElem?_eq_getElem (by omega)] at h1
      obtain ⟨z, e1, e2, hw⟩ := DataW.trod_int (show Tryd.prog.underlying 5 = some (.int .u8) by kernel_rfl) h1
      refine ⟨BitVec.ofInt 8 z, fun _ => ?_⟩
      have h0 : ((cs.drop i).take 1)[0]? = some (.int .u8 z) := by rw [e1]; rfl
      rw [u8_of hw]
      simpa using h0
    · exact ⟨0, fun h => absurd h hi⟩
  let f : Nat → BitVec 8 := fun i => Classical.choose (hk i)
  have hf : ∀ i, i < m → cs[i]? = some (U8 (f i)) := fun i => Classical.choose_spec (hk i)
  refine ⟨(List.range m).map f, ?_, by simp⟩
  apply List.ext_getElem?
  intro i
  by_cases hi : i < m
  · rw [hf i hi]
    simp [hi]
  · rw [List.getElem?_eq_none (by omega), List.getElem?_eq_none (by simp; omega)]
/-- a field of a struct that is opened -/
theorem fieldsW {H : Type} {enc : TypeId × Value → H} {W : World} {fuel nf : Nat} {t : TypeId} {cs : List Value} {x : DataW H × List MemPlace} (ht : Tryd.prog.underlying t = some (.struct (Tryd.prog.fieldsOf t))) (hsz : (Tryd.prog.fieldsOf t).size = nf)
    (h : DataW.trod enc Tryd.prog W 0 (fun _ => true) true fuel t cs = some x) : ∃ n, ∀ {i ty off}, fldIs Tryd.prog t i ty off = true → i < nf → ∃ y, DataW.trod enc Tryd.prog W 0 (fun _ => true) true n ty ((cs.drop off).take (Tryd.prog.cellsOf ty)) = some y := by
  obtain ⟨xs, n, _, _, _, hlen, hf⟩ := DataW.trod_struct ht h
  rw [hsz] at hlen
  refine ⟨n, fun {i ty off} h1 h2 => ?_⟩
  obtain ⟨f, e1, rfl, rfl⟩ := fldIs_get h1
  exact ⟨xs[i], by rw [hf i f e1, List.getElem?_eq_getElem (by omega)]⟩
theorem one_of {cs : List Value} {off : Nat} (h : off < cs.length) : ∃ v, (cs.drop off).take 1 = [v] ∧ cs[off]? = some v :=
  ⟨cs[off], by rw [List.drop_eq_getElem_cons h, List.take_succ_cons, List.take_zero], List.getElem?_eq_getElem h⟩
end Go.Proofs.YtbhlcnimjoppeaaDoor

/-
  Of no statement by itself: what a row's proof opens a session with.
  Conditions: each theorem's own.
-/
namespace Go.Proofs.YtbhlcnimjoppeaaDoor
set_option maxRecDepth 10000
open Go.ChangeShapes Go.WideShapes Go.ChangeAt Go.RowKit
open Sl Rtc
set_option linter.unusedVariables false
theorem cutL {l : List Value} {x : List Value} {a b : Nat} (c : Nat) (hc : a + b = c) (h : (l.drop a).take b = x) : l.drop a = x ++ l.drop c := by
  subst hc
  rw [← h, ← List.drop_drop, List.take_append_drop]
theorem kept_of {H : Type} {enc : TypeId × Value → H} {W : World} {fuel : Nat} {v : Value} {x : DataW H × List MemPlace} (h : DataW.trod enc Tryd.prog W 0 (fun _ => true) true fuel 24 [v] = some x) :
    ∃ k : SlKz, v = k.v ∧ k.ok W := by
  obtain ⟨ad, cap, l, e, h1, h2, h3⟩ := elemsC_of (k := 65) (e := 57) kpy Kpz.ok noKz (by decide) (by kernel_rfl) (by kernel_rfl) (fun c h => kpy_len h)
    (fun l fuel x hl hx => by
      obtain ⟨n, g⟩ := fieldsW (nf := 3) (by kernel_rfl) (by kernel_rfl) hx
      have c0 : Tryd.prog.cellsOf 3 = 1 := by kernel_rfl
      have c1 : Tryd.prog.cellsOf 23 = 32 := by kernel_rfl
      have hi : Tryd.prog.underlying 3 = some (.int .i64) := by kernel_rfl
      have hk : Tryd.prog.underlying 23 = some (.array 32 5) := by kernel_rfl
      obtain ⟨y0, g0⟩ := g (i := 0) (ty := 23) (off := 0) (by kernel_rfl) (by decide)
      obtain ⟨y1, g1⟩ := g (i := 1) (ty := 3) (off := 32) (by kernel_rfl) (by decide)
      obtain ⟨y2, g2⟩ := g (i := 2) (ty := 23) (off := 33) (by kernel_rfl) (by decide)
      rw [c1] at g0 g2
      rw [c0] at g1
      obtain ⟨r0, q0, l0⟩ := arr8c_of hk (by rw [List.length_take, List.length_drop]; omega) g0
      obtain ⟨z1, q1, _, _⟩ := DataW.trod_int hi g1
      obtain ⟨r2, q2, l2⟩ := arr8c_of hk (by rw [List.length_take, List.length_drop]; omega) g2
      refine ⟨⟨r0, z1, r2⟩, ?_, l0, l2⟩
      have e : l.drop 0 = kpy ⟨r0, z1, r2⟩ := by
        rw [cutL 32 rfl q0, cutL 33 rfl q1, cutL 65 rfl q2, List.drop_of_length_le (by omega : l.length ≤ 65), List.append_nil]
        rfl
      exact e) h
  exact ⟨⟨ad, cap, l⟩, e, ⟨h1, h2, h3⟩⟩
theorem sess_of {H : Type} {enc : TypeId × Value → H} {W : World} {base fuel : Nat} {v : Value} {x : DataW H × List MemPlace} (hok : Value.okWide Tryd.prog W .any base 26 v) (h : DataW.trod enc Tryd.prog W 0 (fun _ => true) true fuel 26 v.cells.toList = some x) :
    ∃ k : SeA, v = k.v ∧ k.ok W := by
  have ht : Tryd.prog.underlying 26 = some (.struct (Tryd.prog.fieldsOf 26)) := by kernel_rfl
  have ct : Tryd.prog.cellsOf 26 = 166 := by kernel_rfl
  obtain ⟨n, g⟩ := fieldsW (nf := 11) ht (by kernel_rfl) h
  simp only [Value.okWide, ht] at hok
  obtain ⟨c, rfl, hcz, _⟩ := hok
  rw [ct] at hcz
  obtain ⟨l⟩ := c
  have hl : l.length = 166 := by simpa using hcz
  clear hcz
  have c0 : Tryd.prog.cellsOf 3 = 1 := by kernel_rfl
  have c1 : Tryd.prog.cellsOf 23 = 32 := by kernel_rfl
  have c2 : Tryd.prog.cellsOf 4 = 1 := by kernel_rfl
  have c3 : Tryd.prog.cellsOf 24 = 1 := by kernel_rfl
  have hi : Tryd.prog.underlying 3 = some (.int .i64) := by kernel_rfl
  have hb : Tryd.prog.underlying 4 = some .bool := by kernel_rfl
  have hk : Tryd.prog.underlying 23 = some (.array 32 5) := by kernel_rfl
  obtain ⟨y0, g0⟩ := g (i := 0) (ty := 23) (off := 0) (by kernel_rfl) (by decide)
  obtain ⟨y1, g1⟩ := g (i := 1) (ty := 23) (off := 32) (by kernel_rfl) (by decide)
  obtain ⟨y2, g2⟩ := g (i := 2) (ty := 23) (off := 64) (by kernel_rfl) (by decide)
  obtain ⟨y3, g3⟩ := g (i := 3) (ty := 4) (off := 96) (by kernel_rfl) (by decide)
  obtain ⟨y4, g4⟩ := g (i := 4) (ty := 4) (off := 97) (by kernel_rfl) (by decide)
  obtain ⟨y5, g5⟩ := g (i := 5) (ty := 23) (off := 98) (by kernel_rfl) (by decide)
  obtain ⟨y6, g6⟩ := g (i := 6) (ty := 23) (off := 130) (by kernel_rfl) (by decide)
  obtain ⟨y7, g7⟩ := g (i := 7) (ty := 3) (off := 162) (by kernel_rfl) (by decide)
  obtain ⟨y8, g8⟩ := g (i := 8) (ty := 3) (off := 163) (by kernel_rfl) (by decide)
  obtain ⟨y9, g9⟩ := g (i := 9) (ty := 3) (off := 164) (by kernel_rfl) (by decide)
  obtain ⟨y10, g10⟩ := g (i := 10) (ty := 24) (off := 165) (by kernel_rfl) (by decide)
  rw [show (Value.agg ⟨l⟩).cells.toList = l from rfl] at g0 g1 g2 g3 g4 g5 g6 g7 g8 g9 g10
  rw [c1] at g0 g1 g2 g5 g6
  rw [c2] at g3 g4
  rw [c0] at g7 g8 g9
  rw [c3] at g10
  obtain ⟨r0, q0, l0⟩ := arr8c_of hk (by rw [List.length_take, List.length_drop]; omega) g0
  obtain ⟨r1, q1, l1⟩ := arr8c_of hk (by rw [List.length_take, List.length_drop]; omega) g1
  obtain ⟨r2, q2, l2⟩ := arr8c_of hk (by rw [List.length_take, List.length_drop]; omega) g2
  obtain ⟨r5, q5, l5⟩ := arr8c_of hk (by rw [List.length_take, List.length_drop]; omega) g5
  obtain ⟨r6, q6, l6⟩ := arr8c_of hk (by rw [List.length_take, List.length_drop]; omega) g6
  obtain ⟨z3, q3, _⟩ := DataW.trod_bool hb g3
  obtain ⟨z4, q4, _⟩ := DataW.trod_bool hb g4
  obtain ⟨z7, q7, _, _⟩ := DataW.trod_int hi g7
  obtain ⟨z8, q8, _, _⟩ := DataW.trod_int hi g8
  obtain ⟨z9, q9, _, _⟩ := DataW.trod_int hi g9
  obtain ⟨v, q10, _⟩ := one_of (off := 165) (by omega : 165 < l.length)
  rw [q10] at g10
  obtain ⟨k, rfl, ok⟩ := kept_of g10
  refine ⟨⟨⟨r0, r1, r2, z3, z4, r5, r6, z7, z8, z9, k.l⟩, k⟩, ?_, ⟨⟨l0, l1, l2, l5, l6, ok.all⟩, rfl, ok⟩⟩
  have e : l.drop 0 = sey ⟨r0, r1, r2, z3, z4, r5, r6, z7, z8, z9, k.l⟩ k.v := by
    rw [cutL 32 rfl q0, cutL 64 rfl q1, cutL 96 rfl q2, cutL 97 rfl q3, cutL 98 rfl q4, cutL 130 rfl q5, cutL 162 rfl q6, cutL 163 rfl q7, cutL 164 rfl q8, cutL 165 rfl q9, cutL 166 rfl q10, List.drop_of_length_le (by omega : l.length ≤ 166)]
    rfl
  show Value.agg ⟨l⟩ = .agg ⟨_⟩
  rw [← e]
  rfl
end Go.Proofs.YtbhlcnimjoppeaaDoor

/-
  Of no statement by itself: the tables of rounds and quarters out of what a ratchet's card lists; the witness world.
  Conditions: none.
-/
namespace Go.Proofs.YtbhlcnimjoppeaaDoor
open Go.ChangeShapes Go.WideShapes Go.ChangeAt Go.RowKit
open Sl Sha Str
set_option linter.unusedVariables false
set_option maxRecDepth 100000
theorem laidVars_mem {P : Program} {w : World} {n : String} {d : DataW Unit} : ∀ {L : List (String × DataW Unit)} {ps : List MemPlace}, DataW.LaidVars P w L ps → (n, d) ∈ L →
    ∃ g t cs fuel p, P.globalNamed n = some g ∧ (P.globals[g]?).map (·.type) = some t ∧ w.var? P n = some cs ∧ DataW.trod (fun _ => ()) P w 0 (fun _ => true) false fuel t cs.toList = some (d, p)
  | [], _, _, h => by cases h
  | (n', d') :: L, ps, ⟨g, t, cs, fuel, p, q, h1, h2, h3, h4, h5, _⟩, h => by
    rcases List.mem_cons.1 h with h | h
    · cases h
      exact ⟨g, t, cs, fuel, p, h1, h2, h3, h4⟩
    · exact laidVars_mem h5 h
theorem eq_of_chunks {α : Type} {a b : List α} (n : Nat) (hl : a.length = n * 4) (hb : b.length = n * 4) (h : ∀ i < n, (a.drop (i * 4)).take 4 = (b.drop (i * 4)).take 4) : a = b := by
  apply List.ext_getElem?
  intro j
  by_cases hj : j < n * 4
  · have h1 := congrArg (·[j % 4]?) (h (j / 4) (by omega))
    simp only [List.getElem?_take, List.getElem?_drop, Nat.mod_lt j (by decide : 0 < 4), if_true] at h1
    rwa [show j / 4 * 4 + j % 4 = j by omega] at h1
  · rw [List.getElem?_eq_none (by omega), List.getElem?_eq_none (by omega)]
def qRow (i : Nat) : DataW Unit := Lib.tabData .i64 ((o4 i).map fun x : Nat => (x : Int))
def qDat : DataW Unit := .agg [qRow 0, qRow 1, qRow 2, qRow 3, qRow 4, qRow 5, qRow 6, qRow 7]
theorem gq_of {W : World} {ps : List MemPlace} {L : List (String × DataW Unit)} (h : DataW.LaidVars Tryd.prog W L ps) (hm : ("despatch/stream.quarters", qDat) ∈ L) : GQ W := by
  obtain ⟨g, t, cs, fuel, p, h1, h2, h3, h4⟩ := laidVars_mem h hm
  have hg : Tryd.prog.globalNamed "despatch/stream.quarters" = some 0 := by kernel_rfl
  obtain rfl := Option.some.inj (hg.symm.trans h1)
  obtain rfl := Option.some.inj ((show (Tryd.prog.globals[0]?).map (·.type) = some 163 by kernel_rfl).symm.trans h2)
  obtain ⟨xs, m, _, ex, hlen, hl, hel⟩ := DataW.trod_array (show Tryd.prog.underlying 163 = some (.array 8 74) by kernel_rfl) h4
  have c4 : Tryd.prog.cellsOf 74 = 4 := by kernel_rfl
  have c32 : Tryd.prog.cellsOf 163 = 32 := by kernel_rfl
  rw [c32] at hlen
  have hxs : xs.map (·.1) = [qRow 0, qRow 1, qRow 2, qRow 3, qRow 4, qRow 5, qRow 6, qRow 7] := by
    have := congrArg Prod.fst ex
    simpa [qDat] using this.symm
  have hcs : cs.toList = ordF.map N := by
    refine eq_of_chunks 8 hlen rfl fun i hi => ?_
    have h5 := hel i hi
    rw [c4] at h5
    have h6 : (xs.map (·.1))[i]? = some (qRow i) := by
      rw [hxs]
      have : i = 0 ∨ i = 1 ∨ i = 2 ∨ i = 3 ∨ i = 4 ∨ i = 5 ∨ i = 6 ∨ i = 7 := by omega
      rcases this with rfl | rfl | rfl | rfl | rfl | rfl | rfl | rfl <;> rfl
    rw [List.getElem?_map] at h6
    obtain ⟨y, hy, hy1⟩ := Option.map_eq_some_iff.1 h6
    rw [hy] at h5
    obtain ⟨y1, y2⟩ := y
    subst hy1
    have h7 := Lib.cells_of_tab (show Tryd.prog.underlying 74 = some (.array 4 3) by kernel_rfl) (show Tryd.prog.underlying 3 = some (.int .i64) by kernel_rfl) (by kernel_rfl) c4 h5
    rw [h7, o4_eq i hi, List.map_map]
    rfl
  unfold World.var? at h3
  rw [hg] at h3
  simp only [Option.bind_some] at h3
  split at h3
  · rename_i cs' e fr hb
    obtain rfl := Option.some.inj h3
    refine ⟨e, fr, ?_⟩
    rw [hb, ← hcs]
  · cases h3
theorem gok_of {W : World} {ps : List MemPlace} {L : List (String × DataW Unit)} (h : DataW.LaidVars Tryd.prog W L ps) (hm : ("despatch/hash.rounds", Lib.tabData .u32 (K.map fun x => (x.toNat : Int))) ∈ L) : GOk W := by
  obtain ⟨g, t, cs, fuel, p, h1, h2, h3, h4⟩ := laidVars_mem h hm
  have hg : Tryd.prog.globalNamed "despatch/hash.rounds" = some 1 := by kernel_rfl
  obtain rfl := Option.some.inj (hg.symm.trans h1)
  obtain rfl := Option.some.inj ((show (Tryd.prog.globals[1]?).map (·.type) = some 166 by kernel_rfl).symm.trans h2)
  have hcs := Lib.cells_of_tab (show Tryd.prog.underlying 166 = some (.array 64 86) by kernel_rfl) (show Tryd.prog.underlying 86 = some (.int .u32) by kernel_rfl) (by kernel_rfl) (by kernel_rfl) h4
  unfold World.var? at h3
  rw [hg] at h3
  simp only [Option.bind_some] at h3
  split at h3
  · rename_i cs' e fr hb
    obtain rfl := Option.some.inj h3
    refine ⟨e, fr, ?_⟩
    rw [hb]
    have : cs' = (cs'.toList).toArray := by simp
    rw [this, hcs, List.map_map]
    rfl
  · cases h3
theorem laid_plain : ((Rows.ratchetEncryptsRow.laid).all fun x => x.2.handleName?.isNone) = true := by kernel_rfl
theorem laid_is : Rows.ratchetEncryptsRow.laid = [("despatch/hash.rounds", Lib.tabData .u32 (K.map fun x => (x.toNat : Int))), ("despatch/stream.quarters", qDat)] := by kernel_rfl
theorem both_of_laid {W : World} (h : laidMetH Tryd.prog Rows.ratchetEncryptsRow.laid W) : GOk W ∧ GQ W := by
  rw [MakeChecks.laidMetH_plain _ _ _ laid_plain, laid_is] at h
  obtain ⟨ps, h, _⟩ := h
  exact ⟨gok_of h (by simp), gq_of h (by simp)⟩
theorem wit_met (os : Os) (args : Array Value) : laidMetH Tryd.prog Rows.ratchetEncryptsRow.laid ((World.laidAll Tryd.prog os Rows.ratchetEncryptsRow.laid).forCall (fun _ _ => 0) ⟨#[], args, []⟩).memory := by
  rw [MakeChecks.laidMetH_plain _ _ _ laid_plain]
  exact laidMet_laidAll _ (by kernel_rfl) (by kernel_rfl)
theorem wit_shape (os : Os) : (World.laidAll Tryd.prog os Rows.ratchetEncryptsRow.laid).Shaped Tryd.prog := World.shaped_of_ZipB (by kernel_rfl) (by kernel_rfl)
end Go.Proofs.YtbhlcnimjoppeaaDoor

/-
  THE TIED CARD OF RatchetEncrypts: whatever comes in, the law returns true, and what came in reads as it did.
  Condition: the listed tables, as the card ties them (of these the proof reads the project's own alone).
-/
namespace Go.Proofs.YtbhlcnimjoppeaaDoor
set_option maxRecDepth 10000
open Go.ChangeShapes Go.WideShapes Go.ChangeAt Go.RowKit
open Go.ChangeMaps (open_string shut_string)
open Sl
set_option linter.unusedVariables false

set_option maxHeartbeats 4000000 in
set_option maxRecDepth 100000 in
theorem ratchetEncrypts_lifted (os : Os) (started : os.Started) (H : Type) (enc : TypeId × Value → H) :
    ReturnsInHanded {} Tryd.checked os 3 .any (fun w args => (Rows.ratchetEncryptsSpec.pre enc Tryd.prog Tryd.f3 Rows.ratchetEncryptsRow.domain false w args ∧ laidMetH Tryd.prog Rows.ratchetEncryptsRow.laid w) ∧ sizedMet enc Tryd.prog Tryd.f3 (OpenSpec.ofChange Rows.ratchetEncryptsSpec) false w args) (Rows.ratchetEncryptsSpec.post enc Tryd.prog Tryd.f3 false true false false) := by
  refine returnsInHanded_of_change_and (C := Tryd.checked) (X := fun w _ => laidMetH Tryd.prog Rows.ratchetEncryptsRow.laid w) (fun _ _ _ hh h => h.of_heap hh) ownQ started (by kernel_rfl) Tryd.func3
    (ChangeSpec.witness_shaped (enc := enc) (C := Tryd.checked) (os := os) (X := fun w _ => laidMetH Tryd.prog Rows.ratchetEncryptsRow.laid w) false (World.laidAll Tryd.prog os Rows.ratchetEncryptsRow.laid) #[.agg (Array.replicate 96 (Value.int .u8 0) ++ #[Value.bool false, Value.bool false] ++ Array.replicate 64 (Value.int .u8 0) ++ #[Value.int .i64 0, Value.int .i64 0, Value.int .i64 0, Value.slice none 0 0]), .slice none 0 0, .slice none 0 0, .agg (Array.replicate 32 (.int .u8 0)), .agg (Array.replicate 32 (.int .u8 0)), .agg (Array.replicate 32 (.int .u8 0))] 8 (World.laidAll_os _ _ _)
      (wit_shape os) (by kernel_rfl) (by kernel_rfl) (by kernel_rfl) (wit_met os _)) ?_
  intro W base args ds gs before hval0 hW hcnd hsz hL _
  have hval : ∀ (j : Nat) t v, Tryd.f3.params[j]? = some t → args[j]? = some v → Value.okWide Tryd.prog W .any base t v := hval0
  have hW' := hW
  obtain ⟨p, q, hA0, hV, rfl, hfz, hnd⟩ := hW
  have hA : DataW.TrodAll enc Tryd.prog W 0 (fun _ => true) true Tryd.f3.params.toList args.toList ds p := hA0
  rw [Tryd.params3] at hA hval
  obtain ⟨v0, vs0, d0, ds0, p0, q0, hargs, rfl, rfl, h0, r0⟩ := trodAll_cons hA
  obtain ⟨v1, vs1, d1, ds1, p1, q1, rfl, rfl, rfl, h1, r1⟩ := trodAll_cons r0
  obtain ⟨v2, vs2, d2, ds2, p2, q2, rfl, rfl, rfl, h2, r2⟩ := trodAll_cons r1
  obtain ⟨v3, vs3, d3, ds3, p3, q3, rfl, rfl, rfl, h3, r3⟩ := trodAll_cons r2
  obtain ⟨v4, vs4, d4, ds4, p4, q4, rfl, rfl, rfl, h4, r4⟩ := trodAll_cons r3
  obtain ⟨v5, vs5, d5, ds5, p5, q5, rfl, rfl, rfl, h5, r5⟩ := trodAll_cons r4
  obtain ⟨rfl, rfl, rfl⟩ := trodAll_nil r5
  obtain rfl : args = #[v0, v1, v2, v3, v4, v5] := by cases args; simp_all
  obtain ⟨rfl, rfl⟩ := trodVars_none hV
  have k0 := h0
  have lt0 : ∀ x ∈ p0, x.block < W.heap.size := by obtain ⟨m, hm⟩ := k0; exact DataW.trod_lt m _ _ _ hm
  have k1 := h1
  have lt1 : ∀ x ∈ p1, x.block < W.heap.size := by obtain ⟨m, hm⟩ := k1; exact DataW.trod_lt m _ _ _ hm
  have k2 := h2
  have lt2 : ∀ x ∈ p2, x.block < W.heap.size := by obtain ⟨m, hm⟩ := k2; exact DataW.trod_lt m _ _ _ hm
  have k3 := h3
  have lt3 : ∀ x ∈ p3, x.block < W.heap.size := by obtain ⟨m, hm⟩ := k3; exact DataW.trod_lt m _ _ _ hm
  have k4 := h4
  have lt4 : ∀ x ∈ p4, x.block < W.heap.size := by obtain ⟨m, hm⟩ := k4; exact DataW.trod_lt m _ _ _ hm
  have k5 := h5
  have lt5 : ∀ x ∈ p5, x.block < W.heap.size := by obtain ⟨m, hm⟩ := k5; exact DataW.trod_lt m _ _ _ hm
  obtain ⟨s0, rfl, ok0⟩ : ∃ k : SeA, v0 = k.v ∧ k.ok W := by
    obtain ⟨fuel, hf⟩ := h0
    exact sess_of (hval 0 26 v0 rfl rfl) hf
  obtain ⟨s1, rfl, ok1, cap1⟩ : ∃ k : Sl8, v1 = k.v ∧ k.ok W ∧ k.cap ≤ maxLen := by
    obtain ⟨a, l, c, rfl⟩ := okWide_slice (show Tryd.prog.underlying 27 = some (.slice 5) by kernel_rfl) (hval 1 27 v1 rfl rfl)
    obtain ⟨fuel, hf⟩ := h1
    exact sl8_of hf
  obtain ⟨s2, rfl, ok2, cap2⟩ : ∃ k : Sl8, v2 = k.v ∧ k.ok W ∧ k.cap ≤ maxLen := by
    obtain ⟨a, l, c, rfl⟩ := okWide_slice (show Tryd.prog.underlying 27 = some (.slice 5) by kernel_rfl) (hval 2 27 v2 rfl rfl)
    obtain ⟨fuel, hf⟩ := h2
    exact sl8_of hf
  obtain ⟨s3, rfl, ok3⟩ : ∃ r : List (BitVec 8), v3 = .agg (r.map U8).toArray ∧ r.length = 32 := by
    obtain ⟨fuel, hf⟩ := h3
    exact key_of (hval 3 23 v3 rfl rfl) hf
  obtain ⟨s4, rfl, ok4⟩ : ∃ r : List (BitVec 8), v4 = .agg (r.map U8).toArray ∧ r.length = 32 := by
    obtain ⟨fuel, hf⟩ := h4
    exact key_of (hval 4 23 v4 rfl rfl) hf
  obtain ⟨s5, rfl, ok5⟩ : ∃ r : List (BitVec 8), v5 = .agg (r.map U8).toArray ∧ r.length = 32 := by
    obtain ⟨fuel, hf⟩ := h5
    exact key_of (hval 5 23 v5 rfl rfl) hf
  clear hA0 hval0
  refine (law_ratchetEncrypts s0 s1 s2 s3 s4 s5 W ok0 ok1 ok2 ok3 ok4 ok5 (both_of_laid hL).1 (both_of_laid hL).2).mono fun e W' ⟨he, hx⟩ => ?_
  have bel := Chg.below hx
  subst he
  exact ⟨_, rfl, _, _, _, [], _, [], hW', trodAll_mk1 (shut_bool (show Tryd.prog.underlying 4 = some .bool by kernel_rfl) _), (trodAll_cons_mk (Below.trod laidOutQ (by kernel_rfl) (of_decide_eq_true (by kernel_rfl)) k0 bel lt0) (trodAll_cons_mk (Below.trod laidOutQ (by kernel_rfl) (of_decide_eq_true (by kernel_rfl)) k1 bel lt1) (trodAll_cons_mk (Below.trod laidOutQ (by kernel_rfl) (of_decide_eq_true (by kernel_rfl)) k2 bel lt2) (trodAll_cons_mk (Below.trod laidOutQ (by kernel_rfl) (of_decide_eq_true (by kernel_rfl)) k3 bel lt3) (trodAll_cons_mk (Below.trod laidOutQ (by kernel_rfl) (of_decide_eq_true (by kernel_rfl)) k4 bel lt4) (trodAll_cons_mk (Below.trod laidOutQ (by kernel_rfl) (of_decide_eq_true (by kernel_rfl)) k5 bel lt5) trodAll_mk0)))))), rfl, bel.frame _, fun h => by cases h⟩

/-- THE STATEMENT. -/
theorem ratchetEncrypts_row : Rows.RatchetEncryptsSaid :=
  OpenClaim.holds_of_wide 3 Tryd.f3 rfl rfl rfl rfl rfl rfl rfl ⟨rfl, rfl, rfl, rfl, rfl⟩ rfl rfl rfl rfl rfl (by kernel_rfl) Tryd.func3 (by kernel_rfl)
    (of_decide_eq_true (by kernel_rfl)) (by unfold Func.isWrapper; first | (rw [if_pos (by decide +kernel)]; kernel_rfl) | (rw [if_neg (by decide +kernel)]; exact ⟨rfl, rfl⟩))
    (fun os started H enc _ => ratchetEncrypts_lifted os started H enc)

/-- THE TIED CARD. -/
theorem ratchetEncrypts_card : Rows.RatchetEncryptsCardSaid :=
  Claim7.holds_tied_plain_at .later [] [.data, .data] true (true, "79b932a14f4c48ae8c991ea5a1c0a01d57a93b7fa4768c73af16103f33de6f1f") false
    ratchetEncrypts_row (fun _ h => by cases h) (by kernel_rfl) (fun _ h => by cases h) ratchetEncrypts_row_tie rfl ⟨rfl, rfl⟩ (by kernel_rfl) rfl
    (fun f fn hf hfn => by
      obtain rfl : f = 3 := Option.some.inj ((show Tryd.prog.funcNamed "despatch/despatchlaw19.RatchetEncrypts" = some 3 by kernel_rfl).symm.trans hf) |>.symm
      obtain rfl : fn = Tryd.f3 := (Option.some.inj (Tryd.func3.symm.trans hfn)).symm
      exact ⟨by kernel_rfl, fun j t ht => by
        rw [Tryd.params3] at ht
        have hm : t ∈ [26, 27, 27, 23, 23, 23] := by simpa using Array.mem_of_getElem? ht
        have hall : ([26, 27, 27, 23, 23, 23].all fun u => !Tryd.prog.wantsStandIn u) = true := by kernel_rfl
        exact (show Tryd.prog.wantsStandIn t = false by simpa using List.all_eq_true.1 hall t hm)⟩)
    (by kernel_rfl)
#print axioms ratchetEncrypts_card
end Go.Proofs.YtbhlcnimjoppeaaDoor
