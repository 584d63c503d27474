/-
  Of no statement by itself: what the code's product gives: math/bits.Mul64, times, plus, rest, narrow, product.
  Conditions: each theorem's own.
-/
import Derived.Test.YtmbabkigjckaaaaCuvA
namespace Go.Proofs.Ytmbabkigjckaaaa
open Sl Crv

/-- what Mul64 lays -/
def mulC (a b : W64) : W64 :=
  (a >>> 32) * (b >>> 32) + ((a >>> 32) * (b &&& 4294967295#64) + ((a &&& 4294967295#64) * (b &&& 4294967295#64)) >>> 32) >>> 32 +
    ((((a >>> 32) * (b &&& 4294967295#64) + ((a &&& 4294967295#64) * (b &&& 4294967295#64)) >>> 32) &&& 4294967295#64) + (a &&& 4294967295#64) * (b >>> 32)) >>> 32
theorem mask32 (x : W64) : (x &&& 4294967295#64).toNat = x.toNat % 4294967296 := by
  rw [BitVec.toNat_and, show (4294967295#64).toNat = 2 ^ 32 - 1 from rfl, Nat.and_two_pow_sub_one_eq_mod]
theorem mul32s {x y : W64} (hx : x.toNat < 4294967296) (hy : y.toNat < 4294967296) : (x * y).toNat = x.toNat * y.toNat ∧ x.toNat * y.toNat ≤ 18446744065119617025 := by
  have h : x.toNat * y.toNat ≤ 4294967295 * 4294967295 := Nat.mul_le_mul (by omega) (by omega)
  refine ⟨?_, by omega⟩
  rw [BitVec.toNat_mul]
  exact Nat.mod_eq_of_lt (by omega)
theorem split4 (x1 x0 y1 y0 : Nat) : (x1 * 4294967296 + x0) * (y1 * 4294967296 + y0) = x1 * y1 * 18446744073709551616 + (x1 * y0 + x0 * y1) * 4294967296 + x0 * y0 := by
  grind
theorem mulC_is (a b : W64) : mulC a b = mulHi a b := by
  apply BitVec.eq_of_toNat_eq
  rw [mulHi_is]
  have ha := a.isLt
  have hb := b.isLt
  have a1 := toNat_shr a 32
  have b1 := toNat_shr b 32
  have a0 := mask32 a
  have b0 := mask32 b
  have ea : a.toNat = a.toNat / 4294967296 * 4294967296 + a.toNat % 4294967296 := by omega
  have eb : b.toNat = b.toNat / 4294967296 * 4294967296 + b.toNat % 4294967296 := by omega
  have e := split4 (a.toNat / 4294967296) (a.toNat % 4294967296) (b.toNat / 4294967296) (b.toNat % 4294967296)
  rw [← ea, ← eb] at e
  unfold mulC
  have h1 : (a >>> 32).toNat < 4294967296 := by omega
  have h2 : (b >>> 32).toNat < 4294967296 := by omega
  have h3 : (a &&& 4294967295#64).toNat < 4294967296 := by omega
  have h4 : (b &&& 4294967295#64).toNat < 4294967296 := by omega
  have p11 := mul32s h1 h2
  have p10 := mul32s h1 h4
  have p01 := mul32s h3 h2
  have p00 := mul32s h3 h4
  rw [a1, b1] at p11
  rw [a1, b0] at p10
  rw [a0, b1] at p01
  rw [a0, b0] at p00
  clear ha hb ea eb h1 h2 h3 h4 a1 b1 a0 b0
  rw [show (2 : Nat) ^ 32 = 4294967296 from rfl] at *
  generalize (a >>> 32) * (b >>> 32) = q11 at *
  generalize (a >>> 32) * (b &&& 4294967295#64) = q10 at *
  generalize (a &&& 4294967295#64) * (b >>> 32) = q01 at *
  generalize (a &&& 4294967295#64) * (b &&& 4294967295#64) = q00 at *
  generalize a.toNat * b.toNat = pr at *
  generalize a.toNat / 4294967296 * (b.toNat / 4294967296) = n11 at *
  generalize a.toNat / 4294967296 * (b.toNat % 4294967296) = n10 at *
  generalize a.toNat % 4294967296 * (b.toNat / 4294967296) = n01 at *
  generalize a.toNat % 4294967296 * (b.toNat % 4294967296) = n00 at *
  have s1 := toNat_shr q00 32
  have t1 := toNat_add (x := q10) (y := q00 >>> 32) (by omega)
  have s2 := toNat_shr (q10 + q00 >>> 32) 32
  have m1 := mask32 (q10 + q00 >>> 32)
  have t2 := toNat_add (x := (q10 + q00 >>> 32) &&& 4294967295#64) (y := q01) (by omega)
  have s3 := toNat_shr (((q10 + q00 >>> 32) &&& 4294967295#64) + q01) 32
  have hbd : pr < 18446744073709551616 * 18446744073709551616 := by omega
  have u1 := toNat_add (x := q11) (y := (q10 + q00 >>> 32) >>> 32) (by omega)
  have u2 := toNat_add (x := q11 + (q10 + q00 >>> 32) >>> 32) (y := (((q10 + q00 >>> 32) &&& 4294967295#64) + q01) >>> 32) (by omega)
  rw [u2, u1, s3, t2, m1, s2, t1, s1]
  omega
theorem goes_mul64 : Goes Try.prog 38 := ⟨_, Try.func38, rfl, by kernel_rfl⟩
theorem is_add : IsAdd Try.prog 39 := ⟨_, Try.func39, by kernel_rfl, by kernel_rfl, by kernel_rfl, by kernel_rfl⟩
set_option maxHeartbeats 8000000 in
theorem mul64_any (a b : W64) (w : World) : Calls Try.prog 38 [U64 a, U64 b].toArray w fun e w' => e = .returned (.tuple #[U64 (mulHi a b), U64 (a * b)]) ∧ Ext w w' := by
  rw [← mulC_is]
  refine enter (n := 51) Try.func38 rfl rfl rfl (Holds.start w []) ?_
  repeat (first | refine JL.q (by first | (apply OQ.and64 (b := 4294967295#64); exact rfl; exact rfl) | (apply OQ.mul64; exact rfl; exact rfl) | (apply OQ.move; exact rfl) | (apply OQ.assign; exact rfl) | (apply OQ.add64; exact rfl; exact rfl) | (apply OQ.shr64; exact rfl; exact rfl) | (apply OQ.addN; exact rfl; exact rfl; exact (by (try simp only []); omega)) | (apply OQ.lssN; exact rfl; exact rfl) | (apply OQ.idxA0; exact rfl; exact rfl; exact rfl; exact rfl; exact (by (try simp only []); omega)) | (apply OQ.fld; exact rfl; exact rfl; exact rfl; exact (by decide); exact rfl)) rfl ?_ | refine JC.seq ?_ | refine JC.region ?_ | refine JC.block ?_ | refine JC.skip ?_ | refine JC.exit ?_ | refine JL.nil ?_ | refine JE.next ?_ | refine JE.blk_normal ?_ | refine JE.then_exit ?_ | refine JE.blk_hit ?_ | refine JE.blk_miss rfl ?_ | refine JE.then_ret ?_ | refine JE.blk_ret ?_ | refine JC.label ?_ | refine JL.gon rfl rfl ?_ | refine JL.gskip rfl rfl rfl rfl ?_)
  refine JC.ret ?_
  refine JE.ret2 rfl (RV.tmp rfl) (RV.tmp rfl) ?_
  exact fun w' hw => ⟨rfl, hw.chg⟩

theorem w2s : szT Try.prog 56 = some 2 := by kernel_rfl
theorem w2a : aggT Try.prog 56 = true := by kernel_rfl
theorem w2z : zc Try.prog 56 = some ((⟨0, 0⟩ : W2).l.map U64) := by kernel_rfl
theorem goes_times64 : Goes Try.prog 31 := ⟨_, Try.func31, rfl, by kernel_rfl⟩
theorem goes_plus : Goes Try.prog 32 := ⟨_, Try.func32, rfl, by kernel_rfl⟩
theorem goes_rest : Goes Try.prog 37 := ⟨_, Try.func37, rfl, by kernel_rfl⟩
theorem goes_narrow : Goes Try.prog 30 := ⟨_, Try.func30, rfl, by kernel_rfl⟩
theorem goes_product : Goes Try.prog 17 := ⟨_, Try.func17, rfl, by kernel_rfl⟩
set_option maxHeartbeats 8000000 in
theorem times64_any (a b : W64) (w : World) : Calls Try.prog 31 [U64 a, U64 b].toArray w fun e w' => e = .returned (.agg ((tms a b).l.map U64).toArray) ∧ Ext w w' := by
  refine enter (n := 16) Try.func31 rfl rfl rfl (Holds.start w []) ?_
  repeat (first | refine JL.q (by first | (apply OQ.move; exact rfl) | (apply OQ.assign; exact rfl) | (apply OQ.add64; exact rfl; exact rfl) | (apply OQ.shr64; exact rfl; exact rfl) | (apply OQ.addN; exact rfl; exact rfl; exact (by (try simp only []); omega)) | (apply OQ.lssN; exact rfl; exact rfl) | (apply OQ.idxA0; exact rfl; exact rfl; exact rfl; exact rfl; exact (by (try simp only []); omega)) | (apply OQ.fld; exact rfl; exact rfl; exact rfl; exact (by decide); exact rfl)) rfl ?_ | refine JC.seq ?_ | refine JC.region ?_ | refine JC.block ?_ | refine JC.skip ?_ | refine JC.exit ?_ | refine JL.nil ?_ | refine JE.next ?_ | refine JE.blk_normal ?_ | refine JE.then_exit ?_ | refine JE.blk_hit ?_ | refine JE.blk_miss rfl ?_ | refine JE.then_ret ?_ | refine JE.blk_ret ?_ | refine JC.label ?_ | refine JL.gon rfl rfl ?_ | refine JL.gskip rfl rfl rfl rfl ?_)
  refine JL.alloc w2z rfl fun b4 _ => ?_
  repeat (first | refine JL.q (by first | (apply OQ.callx; exact goes_mul64; exact rfl; exact (fun w' _ => mul64_any a b w')) | (apply OQ.extract; exact rfl; exact rfl) | (apply OQ.move; exact rfl) | (apply OQ.assign; exact rfl) | (apply OQ.add64; exact rfl; exact rfl) | (apply OQ.shr64; exact rfl; exact rfl) | (apply OQ.addN; exact rfl; exact rfl; exact (by (try simp only []); omega)) | (apply OQ.lssN; exact rfl; exact rfl) | (apply OQ.idxA0; exact rfl; exact rfl; exact rfl; exact rfl; exact (by (try simp only []); omega)) | (apply OQ.fld; exact rfl; exact rfl; exact rfl; exact (by decide); exact rfl)) rfl ?_ | refine JC.seq ?_ | refine JC.region ?_ | refine JC.block ?_ | refine JC.skip ?_ | refine JC.exit ?_ | refine JL.nil ?_ | refine JE.next ?_ | refine JE.blk_normal ?_ | refine JE.then_exit ?_ | refine JE.blk_hit ?_ | refine JE.blk_miss rfl ?_ | refine JE.then_ret ?_ | refine JE.blk_ret ?_ | refine JC.label ?_ | refine JL.gon rfl rfl ?_ | refine JL.gskip rfl rfl rfl rfl ?_)
  refine JL.q (OQ.pure (v := .agg ((tms a b).l.map U64).toArray) rfl rfl (by kernel_rfl)) rfl ?_
  refine JL.store_all (cs := (tms a b).l.map U64) w2s rfl rfl rfl (W_cell _) .here rfl ?_
  repeat (first | refine JL.q (by first | (apply OQ.move; exact rfl) | (apply OQ.assign; exact rfl) | (apply OQ.add64; exact rfl; exact rfl) | (apply OQ.shr64; exact rfl; exact rfl) | (apply OQ.addN; exact rfl; exact rfl; exact (by (try simp only []); omega)) | (apply OQ.lssN; exact rfl; exact rfl) | (apply OQ.idxA0; exact rfl; exact rfl; exact rfl; exact rfl; exact (by (try simp only []); omega)) | (apply OQ.fld; exact rfl; exact rfl; exact rfl; exact (by decide); exact rfl)) rfl ?_ | refine JC.seq ?_ | refine JC.region ?_ | refine JC.block ?_ | refine JC.skip ?_ | refine JC.exit ?_ | refine JL.nil ?_ | refine JE.next ?_ | refine JE.blk_normal ?_ | refine JE.then_exit ?_ | refine JE.blk_hit ?_ | refine JE.blk_miss rfl ?_ | refine JE.then_ret ?_ | refine JE.blk_ret ?_ | refine JC.label ?_ | refine JL.gon rfl rfl ?_ | refine JL.gskip rfl rfl rfl rfl ?_)
  refine JC.ret (JE.ret1 rfl (RV.cell_agg w2a w2s rfl .here rfl Row.all) ?_)
  exact fun w' hw => ⟨rfl, hw.chg⟩
theorem cry_le (a b : W64) : (cry a b).toNat ≤ 1 := by
  rw [cry_is]
  have := a.isLt
  have := b.isLt
  omega
theorem add_s0 (a b : W64) : (a + b).toNat = (a.toNat + b.toNat + (0#64 : W64).toNat) % 18446744073709551616 := by
  rw [BitVec.toNat_add]; rfl
theorem add_o0 (a b : W64) : (cry a b).toNat = (a.toNat + b.toNat + (0#64 : W64).toNat) / 18446744073709551616 := cry_is a b
theorem add_s1 (a b c : W64) : (a + b + c).toNat = (a.toNat + b.toNat + c.toNat) % 18446744073709551616 := by
  rw [BitVec.toNat_add, BitVec.toNat_add]
  omega
theorem add_o1 (a b c : W64) : (BitVec.ofNat 64 ((a.toNat + b.toNat + c.toNat) / 18446744073709551616)).toNat = (a.toNat + b.toNat + c.toNat) / 18446744073709551616 := by
  rw [BitVec.toNat_ofNat]
  have := a.isLt
  have := b.isLt
  have := c.isLt
  omega
set_option maxHeartbeats 8000000 in
theorem plus_any (v : W2) (a b : W64) (w : World) : Calls Try.prog 32 [.agg (v.l.map U64).toArray, U64 a, U64 b].toArray w fun e w' => e = .returned (.agg ((pls v a b).l.map U64).toArray) ∧ Ext w w' := by
  have c0 : (v.l.map U64)[0]? = some (U64 v.hi) := rfl
  have c1 : (v.l.map U64)[1]? = some (U64 v.lo) := rfl
  refine enter (n := 34) Try.func32 rfl rfl rfl (Holds.start w []) ?_
  repeat (first | refine JL.q (by first | (apply OQ.move; exact rfl) | (apply OQ.assign; exact rfl) | (apply OQ.add64; exact rfl; exact rfl) | (apply OQ.shr64; exact rfl; exact rfl) | (apply OQ.addN; exact rfl; exact rfl; exact (by (try simp only []); omega)) | (apply OQ.lssN; exact rfl; exact rfl) | (apply OQ.idxA0; exact rfl; exact rfl; exact rfl; exact rfl; exact (by (try simp only []); omega)) | (apply OQ.fld; exact rfl; exact rfl; exact rfl; exact (by decide); exact rfl)) rfl ?_ | refine JC.seq ?_ | refine JC.region ?_ | refine JC.block ?_ | refine JC.skip ?_ | refine JC.exit ?_ | refine JL.nil ?_ | refine JE.next ?_ | refine JE.blk_normal ?_ | refine JE.then_exit ?_ | refine JE.blk_hit ?_ | refine JE.blk_miss rfl ?_ | refine JE.then_ret ?_ | refine JE.blk_ret ?_ | refine JC.label ?_ | refine JL.gon rfl rfl ?_ | refine JL.gskip rfl rfl rfl rfl ?_)
  refine JL.box (r := v.l.map U64) rfl rfl rfl fun b3 _ => ?_
  refine JL.alloc w2z rfl fun b6 _ => ?_
  repeat (first | refine JL.q (by first | (apply OQ.callx; exact goes_mul64; exact rfl; exact (fun w' _ => mul64_any a b w')) | (apply OQ.extract; exact rfl; exact rfl) | (apply OQ.load; exact w8c; exact rfl; exact (.there .here); exact (Row.cell c1)) | (apply OQ.load; exact w8c; exact rfl; exact (.there .here); exact (Row.cell c0)) | (apply OQ.add64c (c := 0#64) (s := v.lo + a * b) (o := cry v.lo (a * b)); exact is_add; exact rfl; exact rfl; exact rfl; exact (by decide); exact (add_s0 _ _); exact (add_o0 _ _)) | (apply OQ.add64c (c := cry v.lo (a * b)) (s := v.hi + mulHi a b + cry v.lo (a * b)); exact is_add; exact rfl; exact rfl; exact rfl; exact (cry_le _ _); exact (add_s1 _ _ _); exact (add_o1 _ _ _)) | (apply OQ.move; exact rfl) | (apply OQ.assign; exact rfl) | (apply OQ.add64; exact rfl; exact rfl) | (apply OQ.shr64; exact rfl; exact rfl) | (apply OQ.addN; exact rfl; exact rfl; exact (by (try simp only []); omega)) | (apply OQ.lssN; exact rfl; exact rfl) | (apply OQ.idxA0; exact rfl; exact rfl; exact rfl; exact rfl; exact (by (try simp only []); omega)) | (apply OQ.fld; exact rfl; exact rfl; exact rfl; exact (by decide); exact rfl)) rfl ?_ | refine JC.seq ?_ | refine JC.region ?_ | refine JC.block ?_ | refine JC.skip ?_ | refine JC.exit ?_ | refine JL.nil ?_ | refine JE.next ?_ | refine JE.blk_normal ?_ | refine JE.then_exit ?_ | refine JE.blk_hit ?_ | refine JE.blk_miss rfl ?_ | refine JE.then_ret ?_ | refine JE.blk_ret ?_ | refine JC.label ?_ | refine JL.gon rfl rfl ?_ | refine JL.gskip rfl rfl rfl rfl ?_)
  refine JL.q (OQ.pure (v := .agg ((pls v a b).l.map U64).toArray) rfl rfl (by kernel_rfl)) rfl ?_
  refine JL.store_all (cs := (pls v a b).l.map U64) w2s rfl rfl rfl (W_cell _) .here rfl ?_
  repeat (first | refine JL.q (by first | (apply OQ.move; exact rfl) | (apply OQ.assign; exact rfl) | (apply OQ.add64; exact rfl; exact rfl) | (apply OQ.shr64; exact rfl; exact rfl) | (apply OQ.addN; exact rfl; exact rfl; exact (by (try simp only []); omega)) | (apply OQ.lssN; exact rfl; exact rfl) | (apply OQ.idxA0; exact rfl; exact rfl; exact rfl; exact rfl; exact (by (try simp only []); omega)) | (apply OQ.fld; exact rfl; exact rfl; exact rfl; exact (by decide); exact rfl)) rfl ?_ | refine JC.seq ?_ | refine JC.region ?_ | refine JC.block ?_ | refine JC.skip ?_ | refine JC.exit ?_ | refine JL.nil ?_ | refine JE.next ?_ | refine JE.blk_normal ?_ | refine JE.then_exit ?_ | refine JE.blk_hit ?_ | refine JE.blk_miss rfl ?_ | refine JE.then_ret ?_ | refine JE.blk_ret ?_ | refine JC.label ?_ | refine JL.gon rfl rfl ?_ | refine JL.gskip rfl rfl rfl rfl ?_)
  refine JC.ret (JE.ret1 rfl (RV.cell_agg w2a w2s rfl .here rfl Row.all) ?_)
  exact fun w' hw => ⟨rfl, hw.chg⟩
set_option maxHeartbeats 8000000 in
theorem rest_any (v : W2) (w : World) : Calls Try.prog 37 [.agg (v.l.map U64).toArray].toArray w fun e w' => e = .returned (U64 (rst v)) ∧ Ext w w' := by
  have c0 : (v.l.map U64)[0]? = some (U64 v.hi) := rfl
  have c1 : (v.l.map U64)[1]? = some (U64 v.lo) := rfl
  refine enter (n := 10) Try.func37 rfl rfl rfl (Holds.start w []) ?_
  repeat (first | refine JL.q (by first | (apply OQ.move; exact rfl) | (apply OQ.assign; exact rfl) | (apply OQ.add64; exact rfl; exact rfl) | (apply OQ.shr64; exact rfl; exact rfl) | (apply OQ.addN; exact rfl; exact rfl; exact (by (try simp only []); omega)) | (apply OQ.lssN; exact rfl; exact rfl) | (apply OQ.idxA0; exact rfl; exact rfl; exact rfl; exact rfl; exact (by (try simp only []); omega)) | (apply OQ.fld; exact rfl; exact rfl; exact rfl; exact (by decide); exact rfl)) rfl ?_ | refine JC.seq ?_ | refine JC.region ?_ | refine JC.block ?_ | refine JC.skip ?_ | refine JC.exit ?_ | refine JL.nil ?_ | refine JE.next ?_ | refine JE.blk_normal ?_ | refine JE.then_exit ?_ | refine JE.blk_hit ?_ | refine JE.blk_miss rfl ?_ | refine JE.then_ret ?_ | refine JE.blk_ret ?_ | refine JC.label ?_ | refine JL.gon rfl rfl ?_ | refine JL.gskip rfl rfl rfl rfl ?_)
  refine JL.box (r := v.l.map U64) rfl rfl rfl fun b1 _ => ?_
  repeat (first | refine JL.q (by first | (apply OQ.load; exact w8c; exact rfl; exact .here; exact (Row.cell c1)) | (apply OQ.load; exact w8c; exact rfl; exact .here; exact (Row.cell c0)) | (apply OQ.shl64; exact rfl; exact rfl) | (apply OQ.or64; exact rfl; exact rfl) | (apply OQ.move; exact rfl) | (apply OQ.assign; exact rfl) | (apply OQ.add64; exact rfl; exact rfl) | (apply OQ.shr64; exact rfl; exact rfl) | (apply OQ.addN; exact rfl; exact rfl; exact (by (try simp only []); omega)) | (apply OQ.lssN; exact rfl; exact rfl) | (apply OQ.idxA0; exact rfl; exact rfl; exact rfl; exact rfl; exact (by (try simp only []); omega)) | (apply OQ.fld; exact rfl; exact rfl; exact rfl; exact (by decide); exact rfl)) rfl ?_ | refine JC.seq ?_ | refine JC.region ?_ | refine JC.block ?_ | refine JC.skip ?_ | refine JC.exit ?_ | refine JL.nil ?_ | refine JE.next ?_ | refine JE.blk_normal ?_ | refine JE.then_exit ?_ | refine JE.blk_hit ?_ | refine JE.blk_miss rfl ?_ | refine JE.then_ret ?_ | refine JE.blk_ret ?_ | refine JC.label ?_ | refine JL.gon rfl rfl ?_ | refine JL.gskip rfl rfl rfl rfl ?_)
  refine JC.ret (JE.ret1 rfl (RV.tmp rfl) ?_)
  exact fun w' hw => ⟨rfl, hw.chg⟩
set_option maxHeartbeats 16000000 in
theorem narrow_any (v0 v1 v2 v3 v4 : W2) (w : World) : Calls Try.prog 30 [.agg (v0.l.map U64).toArray, .agg (v1.l.map U64).toArray, .agg (v2.l.map U64).toArray, .agg (v3.l.map U64).toArray, .agg (v4.l.map U64).toArray].toArray w
    fun e w' => e = .returned (.agg ((nrw v0 v1 v2 v3 v4).l.map U64).toArray) ∧ Ext w w' := by
  have c0 : (v0.l.map U64)[1]? = some (U64 v0.lo) := rfl
  have c1 : (v1.l.map U64)[1]? = some (U64 v1.lo) := rfl
  have c2 : (v2.l.map U64)[1]? = some (U64 v2.lo) := rfl
  have c3 : (v3.l.map U64)[1]? = some (U64 v3.lo) := rfl
  have c4 : (v4.l.map U64)[1]? = some (U64 v4.lo) := rfl
  have cc := carried_any ⟨(v0.lo &&& 2251799813685247#64) + 19#64 * rst v4, (v1.lo &&& 2251799813685247#64) + rst v0, (v2.lo &&& 2251799813685247#64) + rst v1, (v3.lo &&& 2251799813685247#64) + rst v2, (v4.lo &&& 2251799813685247#64) + rst v3⟩
  refine enter (n := 44) Try.func30 rfl rfl rfl (Holds.start w []) ?_
  repeat (first | refine JL.q (by first | (apply OQ.move; exact rfl) | (apply OQ.assign; exact rfl) | (apply OQ.add64; exact rfl; exact rfl) | (apply OQ.shr64; exact rfl; exact rfl) | (apply OQ.addN; exact rfl; exact rfl; exact (by (try simp only []); omega)) | (apply OQ.lssN; exact rfl; exact rfl) | (apply OQ.idxA0; exact rfl; exact rfl; exact rfl; exact rfl; exact (by (try simp only []); omega)) | (apply OQ.fld; exact rfl; exact rfl; exact rfl; exact (by decide); exact rfl)) rfl ?_ | refine JC.seq ?_ | refine JC.region ?_ | refine JC.block ?_ | refine JC.skip ?_ | refine JC.exit ?_ | refine JL.nil ?_ | refine JE.next ?_ | refine JE.blk_normal ?_ | refine JE.then_exit ?_ | refine JE.blk_hit ?_ | refine JE.blk_miss rfl ?_ | refine JE.then_ret ?_ | refine JE.blk_ret ?_ | refine JC.label ?_ | refine JL.gon rfl rfl ?_ | refine JL.gskip rfl rfl rfl rfl ?_)
  refine JL.box (r := v0.l.map U64) rfl rfl rfl fun b5 _ => ?_
  refine JL.box (r := v1.l.map U64) rfl rfl rfl fun b6 _ => ?_
  refine JL.box (r := v2.l.map U64) rfl rfl rfl fun b7 _ => ?_
  refine JL.box (r := v3.l.map U64) rfl rfl rfl fun b8 _ => ?_
  refine JL.box (r := v4.l.map U64) rfl rfl rfl fun b9 _ => ?_
  refine JL.alloc n5z rfl fun b10 _ => ?_
  repeat (first | refine JL.q (by first | (apply OQ.move; exact rfl) | (apply OQ.assign; exact rfl) | (apply OQ.add64; exact rfl; exact rfl) | (apply OQ.shr64; exact rfl; exact rfl) | (apply OQ.addN; exact rfl; exact rfl; exact (by (try simp only []); omega)) | (apply OQ.lssN; exact rfl; exact rfl) | (apply OQ.idxA0; exact rfl; exact rfl; exact rfl; exact rfl; exact (by (try simp only []); omega)) | (apply OQ.fld; exact rfl; exact rfl; exact rfl; exact (by decide); exact rfl)) rfl ?_ | refine JC.seq ?_ | refine JC.region ?_ | refine JC.block ?_ | refine JC.skip ?_ | refine JC.exit ?_ | refine JL.nil ?_ | refine JE.next ?_ | refine JE.blk_normal ?_ | refine JE.then_exit ?_ | refine JE.blk_hit ?_ | refine JE.blk_miss rfl ?_ | refine JE.then_ret ?_ | refine JE.blk_ret ?_ | refine JC.label ?_ | refine JL.gon rfl rfl ?_ | refine JL.gskip rfl rfl rfl rfl ?_)
  refine JC.tail 33 mixC (by kernel_rfl) ?_
  simp only [List.take_succ_cons, List.take_zero, List.drop_succ_cons, List.drop_zero]
  repeat (first | refine JL.q (by first | (apply OQ.load; exact w8c; exact rfl; exact (by repeat (first | exact Has.here | apply Has.there)); exact (Row.cell c0)) | (apply OQ.load; exact w8c; exact rfl; exact (by repeat (first | exact Has.here | apply Has.there)); exact (Row.cell c1)) | (apply OQ.load; exact w8c; exact rfl; exact (by repeat (first | exact Has.here | apply Has.there)); exact (Row.cell c2)) | (apply OQ.load; exact w8c; exact rfl; exact (by repeat (first | exact Has.here | apply Has.there)); exact (Row.cell c3)) | (apply OQ.load; exact w8c; exact rfl; exact (by repeat (first | exact Has.here | apply Has.there)); exact (Row.cell c4)) | (apply OQ.load_agg (cs := v0.l.map U64); exact w2a; exact w2s; exact rfl; exact (by repeat (first | exact Has.here | apply Has.there)); exact rfl; exact Row.all) | (apply OQ.load_agg (cs := v1.l.map U64); exact w2a; exact w2s; exact rfl; exact (by repeat (first | exact Has.here | apply Has.there)); exact rfl; exact Row.all) | (apply OQ.load_agg (cs := v2.l.map U64); exact w2a; exact w2s; exact rfl; exact (by repeat (first | exact Has.here | apply Has.there)); exact rfl; exact Row.all) | (apply OQ.load_agg (cs := v3.l.map U64); exact w2a; exact w2s; exact rfl; exact (by repeat (first | exact Has.here | apply Has.there)); exact rfl; exact Row.all) | (apply OQ.load_agg (cs := v4.l.map U64); exact w2a; exact w2s; exact rfl; exact (by repeat (first | exact Has.here | apply Has.there)); exact rfl; exact Row.all) | (apply OQ.callx; exact goes_rest; exact rfl; exact (fun w' _ => rest_any _ w')) | (apply OQ.and64 (b := 2251799813685247#64); exact rfl; exact rfl) | (apply OQ.mul64 (a := 19#64); exact rfl; exact rfl) | (apply OQ.move; exact rfl) | (apply OQ.assign; exact rfl) | (apply OQ.add64; exact rfl; exact rfl) | (apply OQ.shr64; exact rfl; exact rfl) | (apply OQ.addN; exact rfl; exact rfl; exact (by (try simp only []); omega)) | (apply OQ.lssN; exact rfl; exact rfl) | (apply OQ.idxA0; exact rfl; exact rfl; exact rfl; exact rfl; exact (by (try simp only []); omega)) | (apply OQ.fld; exact rfl; exact rfl; exact rfl; exact (by decide); exact rfl)) rfl ?_ | refine JQ.q (by first | (apply OQ.load; exact w8c; exact rfl; exact (by repeat (first | exact Has.here | apply Has.there)); exact (Row.cell c0)) | (apply OQ.load; exact w8c; exact rfl; exact (by repeat (first | exact Has.here | apply Has.there)); exact (Row.cell c1)) | (apply OQ.load; exact w8c; exact rfl; exact (by repeat (first | exact Has.here | apply Has.there)); exact (Row.cell c2)) | (apply OQ.load; exact w8c; exact rfl; exact (by repeat (first | exact Has.here | apply Has.there)); exact (Row.cell c3)) | (apply OQ.load; exact w8c; exact rfl; exact (by repeat (first | exact Has.here | apply Has.there)); exact (Row.cell c4)) | (apply OQ.load_agg (cs := v0.l.map U64); exact w2a; exact w2s; exact rfl; exact (by repeat (first | exact Has.here | apply Has.there)); exact rfl; exact Row.all) | (apply OQ.load_agg (cs := v1.l.map U64); exact w2a; exact w2s; exact rfl; exact (by repeat (first | exact Has.here | apply Has.there)); exact rfl; exact Row.all) | (apply OQ.load_agg (cs := v2.l.map U64); exact w2a; exact w2s; exact rfl; exact (by repeat (first | exact Has.here | apply Has.there)); exact rfl; exact Row.all) | (apply OQ.load_agg (cs := v3.l.map U64); exact w2a; exact w2s; exact rfl; exact (by repeat (first | exact Has.here | apply Has.there)); exact rfl; exact Row.all) | (apply OQ.load_agg (cs := v4.l.map U64); exact w2a; exact w2s; exact rfl; exact (by repeat (first | exact Has.here | apply Has.there)); exact rfl; exact Row.all) | (apply OQ.callx; exact goes_rest; exact rfl; exact (fun w' _ => rest_any _ w')) | (apply OQ.and64 (b := 2251799813685247#64); exact rfl; exact rfl) | (apply OQ.mul64 (a := 19#64); exact rfl; exact rfl) | (apply OQ.move; exact rfl) | (apply OQ.assign; exact rfl) | (apply OQ.add64; exact rfl; exact rfl) | (apply OQ.shr64; exact rfl; exact rfl) | (apply OQ.addN; exact rfl; exact rfl; exact (by (try simp only []); omega)) | (apply OQ.lssN; exact rfl; exact rfl) | (apply OQ.idxA0; exact rfl; exact rfl; exact rfl; exact rfl; exact (by (try simp only []); omega)) | (apply OQ.fld; exact rfl; exact rfl; exact rfl; exact (by decide); exact rfl)) rfl ?_ | refine JC.seq ?_ | refine JC.region ?_ | refine JC.block ?_ | refine JC.skip ?_ | refine JC.exit ?_ | refine JL.nil ?_ | refine JQ.nil ?_ | refine JQ.nil_tail ?_ | refine JE.next ?_ | refine JE.blk_normal ?_ | refine JE.then_exit ?_ | refine JE.blk_hit ?_ | refine JE.blk_miss rfl ?_ | refine JE.then_ret ?_ | refine JE.blk_ret ?_ | refine JC.label ?_ | refine JL.gon rfl rfl ?_ | refine JQ.gon rfl rfl ?_ | refine JL.gskip rfl rfl rfl rfl ?_ | refine JQ.gskip rfl rfl rfl rfl ?_)
  refine JQ.q (OQ.pure (v := .agg ((⟨(v0.lo &&& 2251799813685247#64) + 19#64 * rst v4, (v1.lo &&& 2251799813685247#64) + rst v0, (v2.lo &&& 2251799813685247#64) + rst v1, (v3.lo &&& 2251799813685247#64) + rst v2, (v4.lo &&& 2251799813685247#64) + rst v3⟩ : N5).l.map U64).toArray) rfl rfl (by kernel_rfl)) rfl ?_
  refine JQ.q (OQ.callx goes_carried rfl fun w' _ => cc w') rfl ?_
  repeat (first | refine JL.q (by first | (apply OQ.move; exact rfl) | (apply OQ.assign; exact rfl) | (apply OQ.add64; exact rfl; exact rfl) | (apply OQ.shr64; exact rfl; exact rfl) | (apply OQ.addN; exact rfl; exact rfl; exact (by (try simp only []); omega)) | (apply OQ.lssN; exact rfl; exact rfl) | (apply OQ.idxA0; exact rfl; exact rfl; exact rfl; exact rfl; exact (by (try simp only []); omega)) | (apply OQ.fld; exact rfl; exact rfl; exact rfl; exact (by decide); exact rfl)) rfl ?_ | refine JQ.q (by first | (apply OQ.move; exact rfl) | (apply OQ.assign; exact rfl) | (apply OQ.add64; exact rfl; exact rfl) | (apply OQ.shr64; exact rfl; exact rfl) | (apply OQ.addN; exact rfl; exact rfl; exact (by (try simp only []); omega)) | (apply OQ.lssN; exact rfl; exact rfl) | (apply OQ.idxA0; exact rfl; exact rfl; exact rfl; exact rfl; exact (by (try simp only []); omega)) | (apply OQ.fld; exact rfl; exact rfl; exact rfl; exact (by decide); exact rfl)) rfl ?_ | refine JC.seq ?_ | refine JC.region ?_ | refine JC.block ?_ | refine JC.skip ?_ | refine JC.exit ?_ | refine JL.nil ?_ | refine JQ.nil ?_ | refine JQ.nil_tail ?_ | refine JE.next ?_ | refine JE.blk_normal ?_ | refine JE.then_exit ?_ | refine JE.blk_hit ?_ | refine JE.blk_miss rfl ?_ | refine JE.then_ret ?_ | refine JE.blk_ret ?_ | refine JC.label ?_ | refine JL.gon rfl rfl ?_ | refine JQ.gon rfl rfl ?_ | refine JL.gskip rfl rfl rfl rfl ?_ | refine JQ.gskip rfl rfl rfl rfl ?_)
  refine JL.store_all (cs := (nrw v0 v1 v2 v3 v4).l.map U64) n5s rfl rfl rfl (W_cell _) .here rfl ?_
  repeat (first | refine JL.q (by first | (apply OQ.move; exact rfl) | (apply OQ.assign; exact rfl) | (apply OQ.add64; exact rfl; exact rfl) | (apply OQ.shr64; exact rfl; exact rfl) | (apply OQ.addN; exact rfl; exact rfl; exact (by (try simp only []); omega)) | (apply OQ.lssN; exact rfl; exact rfl) | (apply OQ.idxA0; exact rfl; exact rfl; exact rfl; exact rfl; exact (by (try simp only []); omega)) | (apply OQ.fld; exact rfl; exact rfl; exact rfl; exact (by decide); exact rfl)) rfl ?_ | refine JQ.q (by first | (apply OQ.move; exact rfl) | (apply OQ.assign; exact rfl) | (apply OQ.add64; exact rfl; exact rfl) | (apply OQ.shr64; exact rfl; exact rfl) | (apply OQ.addN; exact rfl; exact rfl; exact (by (try simp only []); omega)) | (apply OQ.lssN; exact rfl; exact rfl) | (apply OQ.idxA0; exact rfl; exact rfl; exact rfl; exact rfl; exact (by (try simp only []); omega)) | (apply OQ.fld; exact rfl; exact rfl; exact rfl; exact (by decide); exact rfl)) rfl ?_ | refine JC.seq ?_ | refine JC.region ?_ | refine JC.block ?_ | refine JC.skip ?_ | refine JC.exit ?_ | refine JL.nil ?_ | refine JQ.nil ?_ | refine JQ.nil_tail ?_ | refine JE.next ?_ | refine JE.blk_normal ?_ | refine JE.then_exit ?_ | refine JE.blk_hit ?_ | refine JE.blk_miss rfl ?_ | refine JE.then_ret ?_ | refine JE.blk_ret ?_ | refine JC.label ?_ | refine JL.gon rfl rfl ?_ | refine JQ.gon rfl rfl ?_ | refine JL.gskip rfl rfl rfl rfl ?_ | refine JQ.gskip rfl rfl rfl rfl ?_)
  refine JC.ret (JE.ret1 rfl (RV.cell_agg n5a n5s rfl .here rfl Row.all) ?_)
  exact fun w' hw => ⟨rfl, hw.chg⟩
end Go.Proofs.Ytmbabkigjckaaaa
