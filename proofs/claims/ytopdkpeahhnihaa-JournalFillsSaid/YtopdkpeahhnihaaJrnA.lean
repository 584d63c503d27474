/-
  Of no statement by itself: the landed journal's numbers and marks: numberIn, withNumber, bytes, markIn, blocksFor.
  Conditions: each theorem's own.
-/
import Derived.Test.YtopdkpeahhnihaaDskE
import Derived.Test.YtopdkpeahhnihaaSliv
import Derived.Test.YtopdkpeahhnihaaSlgr
import Derived.Test.YtopdkpeahhnihaaSlm
import Derived.Test.YtopdkpeahhnihaaJrnP
namespace Go.Proofs.Ytopdkpeahhnihaa
set_option maxRecDepth 10000
open Sl Dsk Jrn
@[reducible] def U16 (a : BitVec 16) : Value := .int .u16 a.toNat
section
variable {P : Program} {n : Nat} {E : Env} {C : World → Prop} {dst : Option Tmp} {t t' e ty : TypeId} {pos : String} {aft : Array Edge} {g : Option (Nat × Bool)} {x y z : Operand}
theorem wrap16 (a : Nat) : IntKind.u16.wrap (a : Int) = ((a % 65536 : Nat) : Int) := by simp [IntKind.wrap, IntKind.bits, IntKind.signed]
theorem OQ.conv32_16 {d : TypeDesc} {a : BitVec 32} (hs : P.underlying t = some d) (hd : P.underlying t' = some (.int .u16)) (hx : ev E x = some (U32 a)) : OQ P n E C ⟨dst, .convert t t' x, ty, pos, aft, g⟩ (U16 (a.setWidth 16)) :=
  OQ.conv hs hd hx (by rw [wrap16]; simp [U16, BitVec.toNat_setWidth])
theorem OQ.conv16_32 {d : TypeDesc} {a : BitVec 16} (hs : P.underlying t = some d) (hd : P.underlying t' = some (.int .u32)) (hx : ev E x = some (U16 a)) : OQ P n E C ⟨dst, .convert t t' x, ty, pos, aft, g⟩ (U32 (a.setWidth 32)) :=
  OQ.conv hs hd hx (by rw [wrap32]; simp [U32, BitVec.toNat_setWidth])
theorem OQ.conv32_N {d : TypeDesc} {a : BitVec 32} (hs : P.underlying t = some d) (hd : P.underlying t' = some (.int .i64)) (hx : ev E x = some (U32 a)) : OQ P n E C ⟨dst, .convert t t' x, ty, pos, aft, g⟩ (N a.toNat) :=
  OQ.conv hs hd hx (by have := a.isLt; rw [wrapN (by omega) (by omega)])
theorem OQ.convN_16 {d : TypeDesc} {a : Nat} (hs : P.underlying t = some d) (hd : P.underlying t' = some (.int .u16)) (hx : ev E x = some (N a)) : OQ P n E C ⟨dst, .convert t t' x, ty, pos, aft, g⟩ (U16 (BitVec.ofNat 16 a)) :=
  OQ.conv hs hd hx (by rw [wrap16]; simp [U16])
theorem OQ.rem16 {a b : BitVec 16} (hx : ev E x = some (U16 a)) (hy : ev E y = some (U16 b)) (h : b.toNat ≠ 0) : OQ P n E C ⟨dst, .binOp .rem t x y t', ty, pos, aft, g⟩ (U16 (a % b)) :=
  OQ.bin hx hy rfl fun w => by
    have h4 : ((a.toNat : Int).tmod b.toNat) = ((a % b).toNat : Int) := by rw [Int.tmod_eq_emod_of_nonneg (by omega), BitVec.toNat_umod]; exact_mod_cast rfl
    have h5 : ¬ (b.toNat : Int) = 0 := by omega
    have h7 : Op.intDiv .rem .u16 (a.toNat : Int) b.toNat = (Pure.pure (.int .u16 ((a.toNat : Int).tmod b.toNat)) : Sem Value) := by simp only [Op.intDiv, if_neg h5]
    show Sem.run P (Op.intDiv .rem .u16 (a.toNat : Int) b.toNat) w = _
    rw [h7, h4]; rfl
theorem OQ.maxN {a c : Nat} (hx : ev E x = some (N a)) (hy : ev E y = some (N c)) : OQ P n E C ⟨dst, .call ⟨.builtin .max, #[x, y], #[t, t']⟩, ty, pos, aft, g⟩ (N (max a c)) :=
  OQ.run fun ac ha w _ => by
    have h1 := ha.eval hx
    have h2 := ha.eval hy
    have h3 : (if a < c then (c : Int) else (a : Int)) = ((max a c : Nat) : Int) := by split <;> omega
    simp [execOp, h1, h2, resolve, invoke, builtin, Builtin.max_, Builtin.max2, Sem.run_bind, N]
    exact h3
/-- x[lo:hi] of bytes -/
def Sl8.sub (s : Sl8) (lo hi : Nat) : Sl8 := ⟨if s.cap = lo then s.ad else s.ad.map (·.add (lo * 1)), s.cap - lo, (s.l.take hi).drop lo⟩
theorem Sl8.ok.sub {s : Sl8} {w : World} (h : s.ok w) {lo hi : Nat} (h1 : lo ≤ hi) (h2 : hi ≤ s.l.length) : (s.sub lo hi).ok w := by
  have hc := h.len
  refine ⟨by show ((s.l.take hi).drop lo).length ≤ s.cap - lo; rw [List.length_drop, List.length_take]; omega, ?_⟩
  have hr := h.reads.take hi
  rw [← List.map_take] at hr
  have := hr.drop (len := hi) (cap := s.cap) (lo := lo) (by rw [List.length_map, List.length_take]; omega) (by omega) h1
  rwa [← List.map_drop] at this
theorem OQ.sub8 {s : Sl8} {lo hi : Nat} (hu : P.underlying t = some (.slice e)) (hz : szT P e = some 1) (hx : ev E x = some s.v) (hl : ev E y = some (N lo)) (hh : ev E z = some (N hi)) (h1 : lo ≤ hi) (h2 : hi ≤ s.l.length) (hc : s.l.length ≤ s.cap) :
    OQ P n E C ⟨dst, .slice t x (some y) (some z) none, ty, pos, aft, g⟩ (s.sub lo hi).v :=
  OQ.to (OQ.slS_lohi (ad := s.ad) (len := s.l.length) (cap := s.cap) hu hz hx hl hh h1 (by omega)) (by
    have : ((s.l.take hi).drop lo).length = hi - lo := by rw [List.length_drop, List.length_take]; omega
    simp only [Sl8.v, Sl8.sub, this])
end
theorem u32C : scal Try.prog 84 = true := by kernel_rfl
theorem u321 : szT Try.prog 84 = some 1 := by kernel_rfl
theorem u16C : scal Try.prog 107 = true := by kernel_rfl
theorem boolC : scal Try.prog 4 = true := by kernel_rfl
def mkc (m : Mk) : List Value := [U32 m.1, U32 m.2.1, U16 m.2.2.1, .bool m.2.2.2]
theorem mk4 : szT Try.prog 109 = some 4 := by kernel_rfl
theorem mkAg : aggT Try.prog 109 = true := by kernel_rfl
theorem mkZ : zc Try.prog 109 = some (mkc (0, 0, 0, false)) := by kernel_rfl
theorem OQ.buildM {n : Nat} {E : Env} {C : World → Prop} {dst : Option Tmp} {ty : TypeId} {pos : String} {aft : Array Edge} {g : Option (Nat × Bool)} {x1 x2 x3 x4 : Operand} {m : Mk} (h1 : ev E x1 = some (U32 m.1)) (h2 : ev E x2 = some (U32 m.2.1)) (h3 : ev E x3 = some (U16 m.2.2.1)) (h4 : ev E x4 = some (.bool m.2.2.2)) :
    OQ Try.prog n E C ⟨dst, .build 109 #[(0, x1), (1, x2), (2, x3), (3, x4)], ty, pos, aft, g⟩ (.agg (mkc m).toArray) :=
  OQ.run fun a ha w _ => by
    have e1 := ha.eval h1
    have e2 := ha.eval h2
    have e3 := ha.eval h3
    have e4 := ha.eval h4
    have r := run_build (P := Try.prog) w 109 #[(0, U32 m.1), (1, U32 m.2.1), (2, U16 m.2.2.1), (3, .bool m.2.2.2)] (mkc m).toArray (by kernel_rfl)
    simp [execOp, e1, e2, e3, e4, r]
theorem goes_bfor : Goes Try.prog 45 := ⟨_, Try.func45, rfl, by kernel_rfl⟩
theorem bfor_any (n : Nat) (hn : n < 4611686018427387904) (w : World) : Calls Try.prog 45 [N n].toArray w fun e w' => e = .returned (N (nb n)) ∧ Ext w w' := by
  refine enter (n := 10) Try.func45 rfl rfl rfl (Holds.start w []) ?_
  repeat (first | refine JL.q (by first | (apply OQ.quoN (b := 42); exact rfl; exact rfl; exact (by decide); exact (by omega)) | (apply OQ.remN (b := 42); exact rfl; exact rfl; exact (by decide)) | (apply OQ.minN (a := 1); exact rfl; exact rfl) | (apply OQ.addN (a := n / 42); exact rfl; exact rfl; exact (by omega)) | (apply OQ.maxN (a := 1); exact rfl; exact rfl) | (apply OQ.move; exact rfl) | (apply OQ.assign; exact rfl) | (apply OQ.nilc; exact rfl) | (apply OQ.len; exact rfl; exact rfl) | (apply OQ.addN; exact rfl; exact rfl; exact (by (try simp only []); omega)) | (apply OQ.subN; exact rfl; exact rfl; exact (by (try simp only []); omega); exact (by (try simp only []); omega)) | (apply OQ.mulN; exact rfl; exact rfl; exact (by (try simp only []); omega)) | (apply OQ.remN; exact rfl; exact rfl; exact (by (try simp only []); omega)) | (apply OQ.quoN; exact rfl; exact rfl; exact (by (try simp only []); omega); exact (by (try simp only []); omega)) | (apply OQ.lssN; exact rfl; exact rfl) | (apply OQ.gtrN; exact rfl; exact rfl) | (apply OQ.idxS1; exact rfl; exact rfl; exact rfl; exact rfl; exact (by (try simp only []); omega)) | (apply OQ.fld; exact rfl; exact rfl; exact rfl; exact (by decide); exact rfl)) rfl ?_ | refine JC.seq ?_ | refine JC.region ?_ | refine JC.block ?_ | refine JC.skip ?_ | refine JC.exit ?_ | refine JL.nil ?_ | refine JE.next ?_ | refine JE.blk_normal ?_ | refine JE.then_exit ?_ | refine JE.blk_hit ?_ | refine JE.blk_miss rfl ?_ | refine JE.then_ret ?_ | refine JE.blk_ret ?_ | refine JC.label ?_ | refine JL.gon rfl rfl ?_ | refine JL.gskip rfl rfl rfl rfl ?_ | refine JL.gskipU rfl rfl rfl rfl ?_)
  exact JC.ret (JE.ret1 rfl (RV.tmp rfl) fun w' hw => ⟨rfl, hw.chg⟩)
theorem goes_numIn : Goes Try.prog 64 := ⟨_, Try.func64, rfl, by kernel_rfl⟩
set_option maxHeartbeats 4000000 in
theorem numIn_any (s : Sl8) (w : World) (hs : s.ok w) (hl : s.l.length ≤ 1000000) : Calls Try.prog 64 [s.v].toArray w fun e w' => e = .returned (U32 (num32 s.l)) ∧ Ext w w' := by
  refine enter (n := 19) Try.func64 rfl rfl rfl (Holds.start w []) ?_
  repeat (first | refine JL.q (by first | (apply OQ.len (k := s.l.length) (ad := s.ad) (cap := s.cap); exact Try.underlying33; exact rfl) | (apply OQ.move; exact rfl) | (apply OQ.assign; exact rfl) | (apply OQ.nilc; exact rfl) | (apply OQ.len; exact rfl; exact rfl) | (apply OQ.addN; exact rfl; exact rfl; exact (by (try simp only []); omega)) | (apply OQ.subN; exact rfl; exact rfl; exact (by (try simp only []); omega); exact (by (try simp only []); omega)) | (apply OQ.mulN; exact rfl; exact rfl; exact (by (try simp only []); omega)) | (apply OQ.remN; exact rfl; exact rfl; exact (by (try simp only []); omega)) | (apply OQ.quoN; exact rfl; exact rfl; exact (by (try simp only []); omega); exact (by (try simp only []); omega)) | (apply OQ.lssN; exact rfl; exact rfl) | (apply OQ.gtrN; exact rfl; exact rfl) | (apply OQ.idxS1; exact rfl; exact rfl; exact rfl; exact rfl; exact (by (try simp only []); omega)) | (apply OQ.fld; exact rfl; exact rfl; exact rfl; exact (by decide); exact rfl)) rfl ?_ | refine JC.seq ?_ | refine JC.region ?_ | refine JC.block ?_ | refine JC.skip ?_ | refine JC.exit ?_ | refine JL.nil ?_ | refine JE.next ?_ | refine JE.blk_normal ?_ | refine JE.then_exit ?_ | refine JE.blk_hit ?_ | refine JE.blk_miss rfl ?_ | refine JE.then_ret ?_ | refine JE.blk_ret ?_ | refine JC.label ?_ | refine JL.gon rfl rfl ?_ | refine JL.gskip rfl rfl rfl rfl ?_ | refine JL.gskipU rfl rfl rfl rfl ?_)
  refine JC.loop (fun i : Nat => [(6, s.v), (7, N s.l.length), (8, N i), (3, U32 (num32 (s.l.take i)))]) (fun _ => []) (fun i => s.l.length - i) (fun i => i ≤ s.l.length) 0 (Nat.zero_le _) (by repeat (first | exact SubE.nil | refine SubE.cons _ _ _ rfl ?_)) (Less.refl _) ?_
  intro i hi
  repeat (first | refine JL.q (by first | (apply OQ.move; exact rfl) | (apply OQ.assign; exact rfl) | (apply OQ.nilc; exact rfl) | (apply OQ.len; exact rfl; exact rfl) | (apply OQ.addN; exact rfl; exact rfl; exact (by (try simp only []); omega)) | (apply OQ.subN; exact rfl; exact rfl; exact (by (try simp only []); omega); exact (by (try simp only []); omega)) | (apply OQ.mulN; exact rfl; exact rfl; exact (by (try simp only []); omega)) | (apply OQ.remN; exact rfl; exact rfl; exact (by (try simp only []); omega)) | (apply OQ.quoN; exact rfl; exact rfl; exact (by (try simp only []); omega); exact (by (try simp only []); omega)) | (apply OQ.lssN; exact rfl; exact rfl) | (apply OQ.gtrN; exact rfl; exact rfl) | (apply OQ.idxS1; exact rfl; exact rfl; exact rfl; exact rfl; exact (by (try simp only []); omega)) | (apply OQ.fld; exact rfl; exact rfl; exact rfl; exact (by decide); exact rfl)) rfl ?_ | refine JC.seq ?_ | refine JC.region ?_ | refine JC.block ?_ | refine JC.skip ?_ | refine JC.exit ?_ | refine JL.nil ?_ | refine JE.next ?_ | refine JE.blk_normal ?_ | refine JE.then_exit ?_ | refine JE.blk_hit ?_ | refine JE.blk_miss rfl ?_ | refine JE.then_ret ?_ | refine JE.blk_ret ?_ | refine JC.label ?_ | refine JL.gon rfl rfl ?_ | refine JL.gskip rfl rfl rfl rfl ?_ | refine JL.gskipU rfl rfl rfl rfl ?_)
  refine JC.cond rfl (fun h => ?_) (fun h => ?_)
  · have hi' : i < s.l.length := by have := of_decide_eq_true h; omega
    clear h
    obtain ⟨b, j, hae, hca⟩ := hs.reads.at (by simp; omega)
    have hca := hca i _ (map_at U8 0 hi')
    have hsv : s.v = .slice (some ⟨b, j, none⟩) s.l.length s.cap := by rw [← hae]; rfl
    have e : num32 (s.l.take (i + 1)) = (num32 (s.l.take i) <<< 8) ||| (s.l.getD i 0).setWidth 32 := by
      rw [List.take_succ_eq_append_getElem hi']
      unfold num32
      rw [List.foldl_append]
      simp [hi']
    rw [hsv]
    repeat (first | refine JL.q (by first | (apply OQ.idxS1; exact Try.underlying33; exact u8s; exact rfl; exact rfl; exact hi') | (apply OQ.load_old; exact u8c; exact rfl; exact (block_lt_of_cell hca); exact (by simp); exact hca) | (apply OQ.shl32 (k := 8); exact rfl; exact rfl) | (apply OQ.conv8_32; exact Try.underlying5; exact Try.underlying84; exact rfl) | (apply OQ.or32; exact rfl; exact rfl) | (apply OQ.move; exact rfl) | (apply OQ.assign; exact rfl) | (apply OQ.nilc; exact rfl) | (apply OQ.len; exact rfl; exact rfl) | (apply OQ.addN; exact rfl; exact rfl; exact (by (try simp only []); omega)) | (apply OQ.subN; exact rfl; exact rfl; exact (by (try simp only []); omega); exact (by (try simp only []); omega)) | (apply OQ.mulN; exact rfl; exact rfl; exact (by (try simp only []); omega)) | (apply OQ.remN; exact rfl; exact rfl; exact (by (try simp only []); omega)) | (apply OQ.quoN; exact rfl; exact rfl; exact (by (try simp only []); omega); exact (by (try simp only []); omega)) | (apply OQ.lssN; exact rfl; exact rfl) | (apply OQ.gtrN; exact rfl; exact rfl) | (apply OQ.idxS1; exact rfl; exact rfl; exact rfl; exact rfl; exact (by (try simp only []); omega)) | (apply OQ.fld; exact rfl; exact rfl; exact rfl; exact (by decide); exact rfl)) rfl ?_ | refine JC.seq ?_ | refine JC.region ?_ | refine JC.block ?_ | refine JC.skip ?_ | refine JC.exit ?_ | refine JL.nil ?_ | refine JE.next ?_ | refine JE.blk_normal ?_ | refine JE.then_exit ?_ | refine JE.blk_hit ?_ | refine JE.blk_miss rfl ?_ | refine JE.then_ret ?_ | refine JE.blk_ret ?_ | refine JC.label ?_ | refine JL.gon rfl rfl ?_ | refine JL.gskip rfl rfl rfl rfl ?_ | refine JL.gskipU rfl rfl rfl rfl ?_)
    rw [← hsv, ← e]
    exact JE.again (i := i) (i + 1) hi' (by omega) (by repeat (first | exact SubE.nil | refine SubE.cons _ _ _ rfl ?_)) (Less.refl _)
  · have hi' : i = s.l.length := by have := of_decide_eq_false h; omega
    subst hi'
    rw [List.take_length]
    repeat (first | refine JL.q (by first | (apply OQ.move; exact rfl) | (apply OQ.assign; exact rfl) | (apply OQ.nilc; exact rfl) | (apply OQ.len; exact rfl; exact rfl) | (apply OQ.addN; exact rfl; exact rfl; exact (by (try simp only []); omega)) | (apply OQ.subN; exact rfl; exact rfl; exact (by (try simp only []); omega); exact (by (try simp only []); omega)) | (apply OQ.mulN; exact rfl; exact rfl; exact (by (try simp only []); omega)) | (apply OQ.remN; exact rfl; exact rfl; exact (by (try simp only []); omega)) | (apply OQ.quoN; exact rfl; exact rfl; exact (by (try simp only []); omega); exact (by (try simp only []); omega)) | (apply OQ.lssN; exact rfl; exact rfl) | (apply OQ.gtrN; exact rfl; exact rfl) | (apply OQ.idxS1; exact rfl; exact rfl; exact rfl; exact rfl; exact (by (try simp only []); omega)) | (apply OQ.fld; exact rfl; exact rfl; exact rfl; exact (by decide); exact rfl)) rfl ?_ | refine JC.seq ?_ | refine JC.region ?_ | refine JC.block ?_ | refine JC.skip ?_ | refine JC.exit ?_ | refine JL.nil ?_ | refine JE.next ?_ | refine JE.blk_normal ?_ | refine JE.then_exit ?_ | refine JE.blk_hit ?_ | refine JE.blk_miss rfl ?_ | refine JE.then_ret ?_ | refine JE.blk_ret ?_ | refine JC.label ?_ | refine JL.gon rfl rfl ?_ | refine JL.gskip rfl rfl rfl rfl ?_ | refine JL.gskipU rfl rfl rfl rfl ?_)
    exact JC.ret (JE.ret1 rfl (RV.tmp rfl) fun w' hw => ⟨rfl, hw.chg⟩)
theorem goes_wnum : Goes Try.prog 66 := ⟨_, Try.func66, rfl, by kernel_rfl⟩
theorem be_take (n : BitVec 32) {size i : Nat} (h : i < size) : (be n size).take (i + 1) = (be n size).take i ++ [(n >>> (8 * (size - 1 - i))).setWidth 8] := by
  rw [List.take_succ_eq_append_getElem (by rw [be_len]; exact h)]
  simp [be]
set_option maxHeartbeats 8000000 in
theorem wnum_any (q : Acc) (xs : Bk) (n : BitVec 32) (size : Nat) (h0 : 0 < size) (h4 : size ≤ 4) (hq : q = none → xs = []) (hl : xs.length ≤ 1000000) (w : World) (hw : Holds w (keys (accE 5 q (xs.map U8))) (accE 5 q (xs.map U8)) w) :
    Calls Try.prog 66 [accV q xs.length, U32 n, N size].toArray w fun e w' => ∃ r : Nat × Nat, e = .returned (accV (some r) (xs ++ be n size).length) ∧ Holds w (keys (accE 5 q (xs.map U8))) (accE 5 (some r) ((xs ++ be n size).map U8)) w' := by
  generalize keys (accE 5 q (xs.map U8)) = S at hw ⊢
  refine enter (n := 25) Try.func66 rfl rfl rfl hw ?_
  repeat (first | refine JL.q (by first | (apply OQ.move; exact rfl) | (apply OQ.assign; exact rfl) | (apply OQ.nilc; exact rfl) | (apply OQ.len; exact rfl; exact rfl) | (apply OQ.addN; exact rfl; exact rfl; exact (by (try simp only []); omega)) | (apply OQ.subN; exact rfl; exact rfl; exact (by (try simp only []); omega); exact (by (try simp only []); omega)) | (apply OQ.mulN; exact rfl; exact rfl; exact (by (try simp only []); omega)) | (apply OQ.remN; exact rfl; exact rfl; exact (by (try simp only []); omega)) | (apply OQ.quoN; exact rfl; exact rfl; exact (by (try simp only []); omega); exact (by (try simp only []); omega)) | (apply OQ.lssN; exact rfl; exact rfl) | (apply OQ.gtrN; exact rfl; exact rfl) | (apply OQ.idxS1; exact rfl; exact rfl; exact rfl; exact rfl; exact (by (try simp only []); omega)) | (apply OQ.fld; exact rfl; exact rfl; exact rfl; exact (by decide); exact rfl)) rfl ?_ | refine JC.seq ?_ | refine JC.region ?_ | refine JC.block ?_ | refine JC.skip ?_ | refine JC.exit ?_ | refine JL.nil ?_ | refine JE.next ?_ | refine JE.blk_normal ?_ | refine JE.then_exit ?_ | refine JE.blk_hit ?_ | refine JE.blk_miss rfl ?_ | refine JE.then_ret ?_ | refine JE.blk_ret ?_ | refine JC.label ?_ | refine JL.gon rfl rfl ?_ | refine JL.gskip rfl rfl rfl rfl ?_ | refine JL.gskipU rfl rfl rfl rfl ?_)
  refine JC.loop (fun z : Nat × Acc => [(0, accV z.2 (xs ++ (be n size).take z.1).length), (1, U32 n), (2, N size), (8, N size), (9, N z.1)]) (fun z => accE 5 z.2 ((xs ++ (be n size).take z.1).map U8)) (fun z => size - z.1) (fun z => z.1 ≤ size ∧ (z.2 = none → xs ++ (be n size).take z.1 = [] ∧ z.1 = 0)) (0, q) ⟨Nat.zero_le _, fun e => ⟨by rw [hq e]; rfl, rfl⟩⟩ (by rw [List.take_zero, List.append_nil]; exact (by repeat (first | exact SubE.nil | refine SubE.cons _ _ _ rfl ?_))) (by rw [List.take_zero, List.append_nil]; exact Less.refl _) ?_
  rintro ⟨i, q⟩ ⟨hi, hq2⟩
  dsimp only at hi hq2 ⊢
  repeat (first | refine JL.q (by first | (apply OQ.move; exact rfl) | (apply OQ.assign; exact rfl) | (apply OQ.nilc; exact rfl) | (apply OQ.len; exact rfl; exact rfl) | (apply OQ.addN; exact rfl; exact rfl; exact (by (try simp only []); omega)) | (apply OQ.subN; exact rfl; exact rfl; exact (by (try simp only []); omega); exact (by (try simp only []); omega)) | (apply OQ.mulN; exact rfl; exact rfl; exact (by (try simp only []); omega)) | (apply OQ.remN; exact rfl; exact rfl; exact (by (try simp only []); omega)) | (apply OQ.quoN; exact rfl; exact rfl; exact (by (try simp only []); omega); exact (by (try simp only []); omega)) | (apply OQ.lssN; exact rfl; exact rfl) | (apply OQ.gtrN; exact rfl; exact rfl) | (apply OQ.idxS1; exact rfl; exact rfl; exact rfl; exact rfl; exact (by (try simp only []); omega)) | (apply OQ.fld; exact rfl; exact rfl; exact rfl; exact (by decide); exact rfl)) rfl ?_ | refine JC.seq ?_ | refine JC.region ?_ | refine JC.block ?_ | refine JC.skip ?_ | refine JC.exit ?_ | refine JL.nil ?_ | refine JE.next ?_ | refine JE.blk_normal ?_ | refine JE.then_exit ?_ | refine JE.blk_hit ?_ | refine JE.blk_miss rfl ?_ | refine JE.then_ret ?_ | refine JE.blk_ret ?_ | refine JC.label ?_ | refine JL.gon rfl rfl ?_ | refine JL.gskip rfl rfl rfl rfl ?_ | refine JL.gskipU rfl rfl rfl rfl ?_)
  refine JC.cond rfl (fun h => ?_) (fun h => ?_)
  · have hi' : i < size := by have := of_decide_eq_true h; omega
    clear h
    have et := be_take n hi'
    generalize hys : xs ++ (be n size).take i = ys at hq2 ⊢
    have hy2 : xs ++ (be n size).take (i + 1) = ys ++ [(n >>> (8 * (size - 1 - i))).setWidth 8] := by rw [et, ← List.append_assoc, hys]
    have hyl : ys.length ≤ 1000004 := by rw [← hys, List.length_append, List.length_take, be_len]; omega
    repeat (first | refine JL.q (by first | (apply OQ.mulN (a := 8); exact rfl; exact rfl; exact (by omega)) | (apply OQ.shr32 (k := 8 * (size - 1 - i)); exact rfl; exact rfl) | (apply OQ.conv32_8; exact Try.underlying84; exact Try.underlying5; exact rfl) | (apply OQ.move; exact rfl) | (apply OQ.assign; exact rfl) | (apply OQ.nilc; exact rfl) | (apply OQ.len; exact rfl; exact rfl) | (apply OQ.addN; exact rfl; exact rfl; exact (by (try simp only []); omega)) | (apply OQ.subN; exact rfl; exact rfl; exact (by (try simp only []); omega); exact (by (try simp only []); omega)) | (apply OQ.mulN; exact rfl; exact rfl; exact (by (try simp only []); omega)) | (apply OQ.remN; exact rfl; exact rfl; exact (by (try simp only []); omega)) | (apply OQ.quoN; exact rfl; exact rfl; exact (by (try simp only []); omega); exact (by (try simp only []); omega)) | (apply OQ.lssN; exact rfl; exact rfl) | (apply OQ.gtrN; exact rfl; exact rfl) | (apply OQ.idxS1; exact rfl; exact rfl; exact rfl; exact rfl; exact (by (try simp only []); omega)) | (apply OQ.fld; exact rfl; exact rfl; exact rfl; exact (by decide); exact rfl)) rfl ?_ | refine JC.seq ?_ | refine JC.region ?_ | refine JC.block ?_ | refine JC.skip ?_ | refine JC.exit ?_ | refine JL.nil ?_ | refine JE.next ?_ | refine JE.blk_normal ?_ | refine JE.then_exit ?_ | refine JE.blk_hit ?_ | refine JE.blk_miss rfl ?_ | refine JE.then_ret ?_ | refine JE.blk_ret ?_ | refine JC.label ?_ | refine JL.gon rfl rfl ?_ | refine JL.gskip rfl rfl rfl rfl ?_ | refine JL.gskipU rfl rfl rfl rfl ?_)
    refine JL.lit1 Try.underlying33 u8e rfl rfl rfl rfl fun bl _ => ?_
    refine JL.perm (M' := accE 5 q (ys.map U8) ++ [⟨bl, Row 5 [U8 ((n >>> (8 * (size - 1 - i))).setWidth 8)], true⟩]) ?_ (by exact (List.perm_append_singleton _ _).symm)
    refine JL.appendQ (xs := ys.map U8) (cs := [U8 ((n >>> (8 * (size - 1 - i))).setWidth 8)]) (m := 1) (ad := some ⟨bl, 0, none⟩) (sc := 1) q Try.underlying33 u8e (fun e => by rw [(hq2 e).1]; rfl) (by rw [List.length_map]; rfl) rfl rfl (fun w' hw' => ?_) (by simp [Value.oneCell']) rfl (by rw [List.length_map]; omega) (by rw [List.length_map]; omega) rfl fun q' hq' => ?_
    · obtain ⟨o, ho, hA⟩ := hw'.get (b := bl) (A := Row 5 [U8 ((n >>> (8 * (size - 1 - i))).setWidth 8)]) (wr := true) (hasR .here)
      exact Reads.block ho (Row.all o hA)
    have e2 : ys.map U8 ++ [U8 ((n >>> (8 * (size - 1 - i))).setWidth 8)] = (xs ++ (be n size).take (i + 1)).map U8 := by rw [hy2]; simp
    rw [e2] at hq' ⊢
    rw [List.length_map]
    repeat (first | refine JL.q (by first | (apply OQ.move; exact rfl) | (apply OQ.assign; exact rfl) | (apply OQ.nilc; exact rfl) | (apply OQ.len; exact rfl; exact rfl) | (apply OQ.addN; exact rfl; exact rfl; exact (by (try simp only []); omega)) | (apply OQ.subN; exact rfl; exact rfl; exact (by (try simp only []); omega); exact (by (try simp only []); omega)) | (apply OQ.mulN; exact rfl; exact rfl; exact (by (try simp only []); omega)) | (apply OQ.remN; exact rfl; exact rfl; exact (by (try simp only []); omega)) | (apply OQ.quoN; exact rfl; exact rfl; exact (by (try simp only []); omega); exact (by (try simp only []); omega)) | (apply OQ.lssN; exact rfl; exact rfl) | (apply OQ.gtrN; exact rfl; exact rfl) | (apply OQ.idxS1; exact rfl; exact rfl; exact rfl; exact rfl; exact (by (try simp only []); omega)) | (apply OQ.fld; exact rfl; exact rfl; exact rfl; exact (by decide); exact rfl)) rfl ?_ | refine JC.seq ?_ | refine JC.region ?_ | refine JC.block ?_ | refine JC.skip ?_ | refine JC.exit ?_ | refine JL.nil ?_ | refine JE.next ?_ | refine JE.blk_normal ?_ | refine JE.then_exit ?_ | refine JE.blk_hit ?_ | refine JE.blk_miss rfl ?_ | refine JE.then_ret ?_ | refine JE.blk_ret ?_ | refine JC.label ?_ | refine JL.gon rfl rfl ?_ | refine JL.gskip rfl rfl rfl rfl ?_ | refine JL.gskipU rfl rfl rfl rfl ?_)
    refine JE.again (i := (i, q)) (i + 1, q') ⟨hi', fun e => absurd (hq' e) (by rw [hy2]; simp)⟩ (by dsimp only; omega) (by repeat (first | exact SubE.nil | refine SubE.cons _ _ _ rfl ?_)) (less_pre _ _)
  · have hi' : i = size := by have := of_decide_eq_false h; omega
    subst hi'
    cases q with
    | none => have := (hq2 rfl).2; omega
    | some r =>
      rw [List.take_of_length_le (by rw [be_len]; exact Nat.le_refl _)]
      repeat (first | refine JL.q (by first | (apply OQ.move; exact rfl) | (apply OQ.assign; exact rfl) | (apply OQ.nilc; exact rfl) | (apply OQ.len; exact rfl; exact rfl) | (apply OQ.addN; exact rfl; exact rfl; exact (by (try simp only []); omega)) | (apply OQ.subN; exact rfl; exact rfl; exact (by (try simp only []); omega); exact (by (try simp only []); omega)) | (apply OQ.mulN; exact rfl; exact rfl; exact (by (try simp only []); omega)) | (apply OQ.remN; exact rfl; exact rfl; exact (by (try simp only []); omega)) | (apply OQ.quoN; exact rfl; exact rfl; exact (by (try simp only []); omega); exact (by (try simp only []); omega)) | (apply OQ.lssN; exact rfl; exact rfl) | (apply OQ.gtrN; exact rfl; exact rfl) | (apply OQ.idxS1; exact rfl; exact rfl; exact rfl; exact rfl; exact (by (try simp only []); omega)) | (apply OQ.fld; exact rfl; exact rfl; exact rfl; exact (by decide); exact rfl)) rfl ?_ | refine JC.seq ?_ | refine JC.region ?_ | refine JC.block ?_ | refine JC.skip ?_ | refine JC.exit ?_ | refine JL.nil ?_ | refine JE.next ?_ | refine JE.blk_normal ?_ | refine JE.then_exit ?_ | refine JE.blk_hit ?_ | refine JE.blk_miss rfl ?_ | refine JE.then_ret ?_ | refine JE.blk_ret ?_ | refine JC.label ?_ | refine JL.gon rfl rfl ?_ | refine JL.gskip rfl rfl rfl rfl ?_ | refine JL.gskipU rfl rfl rfl rfl ?_)
      exact JC.ret (JE.ret1 rfl (RV.tmp rfl) fun w' hw => ⟨r, rfl, hw⟩)
end Go.Proofs.Ytopdkpeahhnihaa
