/-
  Of no statement by itself: rules for guarded operations, tests that are decided, equality of arrays of bytes, over X's partial knowledge of frame and memory, for any program P.
  Conditions: each rule's own hypotheses.
-/
import Derived.Test.YtbihfhkbkcplmaaSlz
import Derived.Stop.BytesEq
import Derived.Laws.StructEq
namespace Go.Proofs.Ytbihfhkbkcplmaa
namespace Sl
open Extern.Stop (cell)
section
variable {P : Program} {n : Nat} {w0 : World} {S : List Nat} {ops : Array Oper} {Q : Exit → Act → World → Prop} {l : List Oper} {E : Env} {M M' : List Ent} {C : World → Prop}
variable {dst : Option Tmp} {d b j : Nat} {op : Op} {t t' ty e : TypeId} {pos : String} {aft : Array Edge} {g : Option (Nat × Bool)} {v u : Value} {x y z : Operand} {want : Bool}

theorem wanted_any {o : Oper} {j : Nat} {want b : Bool} (ho : o.guard = some (j, want)) (h : guardIs ops E j = some b) (hf : guardFits ops n j = true) {a : Act} (ha : Knows n E a) : Region.wanted o (yielded ops a.tmps) = (b == want) := by
  simp only [Region.wanted, ho, guard_spec h ha (guardFits_spec hf)]
  cases b <;> cases want <;> rfl
/-- a guard that says yes is no guard -/
theorem JL.gon {dst : Option Nat} (hg : guardIs ops E j = some want) (hf : guardFits ops n j = true) (h : JL P n w0 S ops Q (⟨dst, op, ty, pos, aft, none⟩ :: l) E M) : JL P n w0 S ops Q (⟨dst, op, ty, pos, aft, some (j, want)⟩ :: l) E M :=
  ⟨fun a w ha hw => by
    have h1 := h.go a w ha hw
    unfold wpList at h1 ⊢
    rw [wanted_any rfl hg hf ha]
    simp only [beq_self_eq_true, if_true]
    rw [show Region.wanted ⟨dst, op, ty, pos, aft, none⟩ (yielded ops a.tmps) = true from rfl, if_pos rfl] at h1
    exact h1⟩
theorem JQ.gon {Φ : Act → Prop} {dst : Option Nat} (hg : guardIs ops E j = some want) (hf : guardFits ops n j = true) (h : JQ P n w0 S ops M Φ (⟨dst, op, ty, pos, aft, none⟩ :: l) E) : JQ P n w0 S ops M Φ (⟨dst, op, ty, pos, aft, some (j, want)⟩ :: l) E :=
  ⟨fun a ha => by
    have h1 := h.go a ha
    unfold wpQuiet at h1 ⊢
    rw [wanted_any rfl hg hf ha]
    simp only [beq_self_eq_true, if_true]
    rw [show Region.wanted ⟨dst, op, ty, pos, aft, none⟩ (yielded ops a.tmps) = true from rfl, if_pos rfl] at h1
    exact h1⟩

theorem OQ.pick_t (hc : ev E z = some (.bool true)) (hx : ev E x = some v) : OQ P n E C ⟨dst, .pick z x y, ty, pos, aft, g⟩ v :=
  OQ.run fun a ha w _ => by
    have h1 := ha.eval hc
    have h2 := ha.eval hx
    simp [execOp, h1, h2, asBool]
theorem OQ.pick_f (hc : ev E z = some (.bool false)) (hy : ev E y = some v) : OQ P n E C ⟨dst, .pick z x y, ty, pos, aft, g⟩ v :=
  OQ.run fun a ha w _ => by
    have h1 := ha.eval hc
    have h2 := ha.eval hy
    simp [execOp, h1, h2, asBool]
theorem OQ.not {c : Bool} (hx : ev E x = some (.bool c)) : OQ P n E C ⟨dst, .unOp .not t x, ty, pos, aft, g⟩ (.bool (!c)) :=
  OQ.run fun a ha w _ => by
    have h1 := ha.eval hx
    simp [execOp, h1, Op.unary]
theorem OQ.eqi_t {k : IntKind} {a b : Int} (hx : ev E x = some (.int k a)) (hy : ev E y = some (.int k b)) (h : a = b) : OQ P n E C ⟨dst, .binOp .eql t x y t', ty, pos, aft, g⟩ (.bool true) :=
  (decide_eq_true h : decide (a = b) = true) ▸ OQ.eqi hx hy
theorem OQ.eqi_f {k : IntKind} {a b : Int} (hx : ev E x = some (.int k a)) (hy : ev E y = some (.int k b)) (h : ¬ a = b) : OQ P n E C ⟨dst, .binOp .eql t x y t', ty, pos, aft, g⟩ (.bool false) :=
  (decide_eq_false h : decide (a = b) = false) ▸ OQ.eqi hx hy
theorem OQ.nei_f {k : IntKind} {a b : Int} (hx : ev E x = some (.int k a)) (hy : ev E y = some (.int k b)) (h : a = b) : OQ P n E C ⟨dst, .binOp .neq t x y t', ty, pos, aft, g⟩ (.bool false) := by
  have := OQ.nei (P := P) (n := n) (C := C) (dst := dst) (ty := ty) (t := t) (t' := t') (pos := pos) (aft := aft) (g := g) hx hy
  rwa [decide_eq_true h] at this
theorem OQ.gtrN_t {a b : Nat} (hx : ev E x = some (N a)) (hy : ev E y = some (N b)) (h : b < a) : OQ P n E C ⟨dst, .binOp .gtr t x y t', ty, pos, aft, g⟩ (.bool true) :=
  (decide_eq_true h : decide (b < a) = true) ▸ OQ.gtrN hx hy
theorem OQ.gtrN_f {a b : Nat} (hx : ev E x = some (N a)) (hy : ev E y = some (N b)) (h : ¬ b < a) : OQ P n E C ⟨dst, .binOp .gtr t x y t', ty, pos, aft, g⟩ (.bool false) :=
  (decide_eq_false h : decide (b < a) = false) ▸ OQ.gtrN hx hy
theorem OQ.lssN_t {a b : Nat} (hx : ev E x = some (N a)) (hy : ev E y = some (N b)) (h : a < b) : OQ P n E C ⟨dst, .binOp .lss t x y t', ty, pos, aft, g⟩ (.bool true) :=
  (decide_eq_true h : decide (a < b) = true) ▸ OQ.lssN hx hy
theorem OQ.lssN_f {a b : Nat} (hx : ev E x = some (N a)) (hy : ev E y = some (N b)) (h : ¬ a < b) : OQ P n E C ⟨dst, .binOp .lss t x y t', ty, pos, aft, g⟩ (.bool false) :=
  (decide_eq_false h : decide (a < b) = false) ▸ OQ.lssN hx hy
theorem OQ.lssI_t {a b : Int} (hx : ev E x = some (.int .i64 a)) (hy : ev E y = some (.int .i64 b)) (h : a < b) : OQ P n E C ⟨dst, .binOp .lss t x y t', ty, pos, aft, g⟩ (.bool true) :=
  (decide_eq_true h : decide (a < b) = true) ▸ OQ.lssI hx hy
theorem OQ.lssI_f {a b : Int} (hx : ev E x = some (.int .i64 a)) (hy : ev E y = some (.int .i64 b)) (h : ¬ a < b) : OQ P n E C ⟨dst, .binOp .lss t x y t', ty, pos, aft, g⟩ (.bool false) :=
  (decide_eq_false h : decide (a < b) = false) ▸ OQ.lssI hx hy
theorem OQ.gtrI_t {a b : Int} (hx : ev E x = some (.int .i64 a)) (hy : ev E y = some (.int .i64 b)) (h : b < a) : OQ P n E C ⟨dst, .binOp .gtr t x y t', ty, pos, aft, g⟩ (.bool true) :=
  (decide_eq_true h : decide (b < a) = true) ▸ OQ.gtrI hx hy
theorem OQ.gtrI_f {a b : Int} (hx : ev E x = some (.int .i64 a)) (hy : ev E y = some (.int .i64 b)) (h : ¬ b < a) : OQ P n E C ⟨dst, .binOp .gtr t x y t', ty, pos, aft, g⟩ (.bool false) :=
  (decide_eq_false h : decide (b < a) = false) ▸ OQ.gtrI hx hy
/-- the low bits of an int -/
theorem OQ.lowI {a : Int} {m : Nat} (hx : ev E x = some (.int .i64 a)) (hy : ev E y = some (.int .i64 m)) (hm : m < 9223372036854775808) : OQ P n E C ⟨dst, .binOp .and t x y t', ty, pos, aft, g⟩ (N (BitVec.ofInt 64 a &&& BitVec.ofNat 64 m).toNat) :=
  OQ.bin hx hy rfl fun _ => okInt (k := .i64) (show IntKind.i64.wrap ((BitVec.ofInt 64 a &&& BitVec.ofInt 64 (m : Int)).toNat : Int) = ((BitVec.ofInt 64 a &&& BitVec.ofNat 64 m).toNat : Int) from by
    have h1 : BitVec.ofInt 64 (m : Int) = BitVec.ofNat 64 m := by simp
    have h2 : (BitVec.ofInt 64 a &&& BitVec.ofNat 64 m).toNat ≤ m := by
      rw [BitVec.toNat_and]
      refine Nat.le_trans Nat.and_le_right ?_
      rw [BitVec.toNat_ofNat]; exact Nat.mod_le _ _
    rw [h1]
    exact wrapN (by omega) (by omega))
theorem eqb (b1 b2 : Bool) : ((b1 == b2) : Bool) = decide (b1 = b2) := by cases b1 <;> cases b2 <;> rfl
theorem OQ.eqb {a c : Bool} (hu : P.underlying t = some .bool) (hx : ev E x = some (.bool a)) (hy : ev E y = some (.bool c)) : OQ P n E C ⟨dst, .binOp .eql t x y t', ty, pos, aft, g⟩ (.bool (a == c)) :=
  OQ.run fun ac ha w _ => by
    have h1 := ha.eval hx
    have h2 := ha.eval hy
    have h3 := run_equalIn_bool (P := P) w 9999 t a c hu
    simp [execOp, h1, h2, eqGuard, binOp, Op.equal, Op.maxDepth, h3]

theorem U8_cell (r : List (BitVec 8)) : r.map U8 = (r.map UInt8.ofBitVec).map cell := by
  rw [List.map_map]
  rfl
theorem eq_list (r q : List (BitVec 8)) : (r.map UInt8.ofBitVec == q.map UInt8.ofBitVec) = decide (r = q) := by
  rw [Bool.eq_iff_iff]
  simp only [beq_iff_eq, decide_eq_true_eq]
  constructor
  · intro h
    have := congrArg (List.map UInt8.toBitVec) h
    rw [List.map_map, List.map_map] at this
    have hid : (UInt8.toBitVec ∘ UInt8.ofBitVec) = (id : BitVec 8 → BitVec 8) := rfl
    rwa [hid, List.map_id, List.map_id] at this
  · rintro rfl; rfl
/-- arrays of bytes -/
theorem OQ.eqA {m : Nat} {r q : List (BitVec 8)} (hu : P.underlying t = some (.array m e)) (he : P.underlying e = some (.int .u8)) (hz : szT P e = some 1) (hgd : P.eqGuardType P.depth t = false) (hx : ev E x = some (.agg (r.map U8).toArray)) (hy : ev E y = some (.agg (q.map U8).toArray)) (hr : r.length = m) (hq : q.length = m) :
    OQ P n E C ⟨dst, .binOp .eql t x y t', ty, pos, aft, g⟩ (.bool (decide (r = q))) :=
  OQ.run fun a ha w _ => by
    have h1 := ha.eval hx
    have h2 := ha.eval hy
    have h3 := fun w => run_eql_bytes (P := P) w t e m hu he (fun w => sizeOf_run hz w) (r.map UInt8.ofBitVec) (q.map UInt8.ofBitVec) (by simpa using hr) (by simpa using hq)
    rw [eq_list] at h3
    rw [U8_cell] at h1 h2
    have h4 := fun w => run_eqGuard_agg (P := P) (w := w) .eql t x y ((r.map UInt8.ofBitVec).map cell).toArray ((q.map UInt8.ofBitVec).map cell).toArray hgd
    simp only [execOp, h1, h2, Sem.run_bind, h4, Result.andThen_ok, h3]
    rfl
theorem OQ.eqA_t {m : Nat} {r q : List (BitVec 8)} (hu : P.underlying t = some (.array m e)) (he : P.underlying e = some (.int .u8)) (hz : szT P e = some 1) (hgd : P.eqGuardType P.depth t = false) (hx : ev E x = some (.agg (r.map U8).toArray)) (hy : ev E y = some (.agg (q.map U8).toArray)) (hr : r.length = m) (hq : q.length = m) (h : r = q) :
    OQ P n E C ⟨dst, .binOp .eql t x y t', ty, pos, aft, g⟩ (.bool true) := (decide_eq_true h : decide (r = q) = true) ▸ OQ.eqA hu he hz hgd hx hy hr hq
theorem OQ.neA {m : Nat} {r q : List (BitVec 8)} (hu : P.underlying t = some (.array m e)) (he : P.underlying e = some (.int .u8)) (hz : szT P e = some 1) (hgd : P.eqGuardType P.depth t = false) (hx : ev E x = some (.agg (r.map U8).toArray)) (hy : ev E y = some (.agg (q.map U8).toArray)) (hr : r.length = m) (hq : q.length = m) :
    OQ P n E C ⟨dst, .binOp .neq t x y t', ty, pos, aft, g⟩ (.bool (!decide (r = q))) :=
  OQ.run fun a ha w _ => by
    have h1 := ha.eval hx
    have h2 := ha.eval hy
    have h3 := fun w => run_equalIn_bytes (P := P) w 9998 t e m hu he (fun w => sizeOf_run hz w) (r.map UInt8.ofBitVec) (q.map UInt8.ofBitVec) (by simpa using hr) (by simpa using hq)
    rw [eq_list] at h3
    rw [U8_cell] at h1 h2
    have h4 := fun w => run_eqGuard_agg (P := P) (w := w) .neq t x y ((r.map UInt8.ofBitVec).map cell).toArray ((q.map UInt8.ofBitVec).map cell).toArray hgd
    have h5 := fun w => run_neq_struct (P := P) (w := w) t ((r.map UInt8.ofBitVec).map cell).toArray ((q.map UInt8.ofBitVec).map cell).toArray
    simp only [execOp, h1, h2, Sem.run_bind, h4, Result.andThen_ok, h5, h3]
    rfl

/-! ### a conversion between types of slices of bytes: its block is marked -/
def Frz (e : TypeId) (r : List Value) : Obj → Prop := fun o => ∃ fr, o = .cells r.toArray e fr
theorem Frz.all {r : List Value} : ∀ o, Frz e r o → hasCells o 0 r := by
  rintro o ⟨fr, rfl⟩
  exact ⟨_, _, _, rfl, fun i _ => by simp⟩
theorem JL.mark {r : List Value} {te : TypeId} {len cap : Nat} (hu : P.underlying t = some (.slice e)) (he : P.underlying e = some (.int .u8)) (hx : ev E x = some (.slice (some ⟨b, 0, none⟩) len cap)) (hup : Upd M b (Row te r) (Frz te r) M') (hd : Nat.blt d n = true)
    (k : JL P n w0 S ops Q l ((d, .slice (some ⟨b, 0, none⟩) len cap) :: E) M') : JL P n w0 S ops Q (⟨some d, .convert t t x, ty, pos, aft, none⟩ :: l) E M :=
  ⟨fun a w ha hw => wpList_plain rfl fun K hK => by
    obtain ⟨o, ho, hA⟩ := hw.get hup.has
    subst hA
    have h1 := ha.eval hx
    have h3 : ∀ w, (underlying t).run P w = .ok (.slice e) w := run_underlying hu
    have h4 : ∀ w, (underlying e).run P w = .ok (.int .u8) w := run_underlying he
    have hsh : w.shape? b = some (te, r.length) := by simp [World.shape?, ho]
    have hrun : (convert t t (.slice (some ⟨b, 0, none⟩) len cap)).run P w = .ok (.slice (some ⟨b, 0, none⟩) len cap) (w.freeze { block := b, off := r.length } 1) := by
      simp [convert, Sem.run_bind, h3, h4, markStringish, shape, freeze, Sem.run, hsh]
    unfold Oper.wp
    simp only [execOp, h1, Sem.run_bind, hrun, Result.andThen_ok]
    refine hK _ _ (k.go _ _ (ha.put d _ hd) (hw.write hup (o' := .cells r.toArray te (r.length, r.length + 1)) ⟨_, rfl⟩ ?_ (by simp [World.freeze]) (fun q hq => ?_) rfl rfl rfl))
    · simp [World.freeze, Array.getElem?_modify, ho]
    · simp [World.freeze, Array.getElem?_modify, Ne.symm hq]⟩
end
end Sl
end Go.Proofs.Ytbihfhkbkcplmaa
