/-
  Of no statement by itself: the texts CuvA, CuvB, CuvC, CuvD, CuvE, CuvF, CrvS, CuvG, CuvN, ShaSpec, ShaA, ShaB, ShaC, ShaD, ShaE, Slt in one.
  Conditions: each theorem's own.
-/
import Derived.Test.YtbihfhkbkcplmaaDoorUb
import Derived.Test.YtbihfhkbkcplmaaDoorProg
import Derived.Laws.Tables
import Derived.Great.FillDense
import Init
import Derived.Lib.ConvBytes
set_option linter.unusedSimpArgs false
set_option linter.unusedVariables false
/-
  Of no statement by itself: what the code's word, numberOf, carried, sum and difference give.
  Conditions: each theorem's own.
-/
namespace Go.Proofs.YtbihfhkbkcplmaaDoor
set_option maxRecDepth 10000
open Sl Crv

theorem w8s : szT Tryd.prog 57 = some 1 := by kernel_rfl
theorem w8c : scal Tryd.prog 57 = true := by kernel_rfl
theorem n5s : szT Tryd.prog 59 = some 5 := by kernel_rfl
theorem n5a : aggT Tryd.prog 59 = true := by kernel_rfl
theorem n5z : zc Tryd.prog 59 = some (zeroN.l.map U64) := by kernel_rfl
theorem W_cell (l : List W64) : (l.map U64).all Value.oneCell' = true := by simp [Value.oneCell']
theorem goes_word : Goes Tryd.prog 40 := ⟨_, Tryd.func40, rfl, by kernel_rfl⟩
theorem goes_carried : Goes Tryd.prog 53 := ⟨_, Tryd.func53, rfl, by kernel_rfl⟩
theorem goes_sum : Goes Tryd.prog 42 := ⟨_, Tryd.func42, rfl, by kernel_rfl⟩
theorem goes_difference : Goes Tryd.prog 43 := ⟨_, Tryd.func43, rfl, by kernel_rfl⟩

set_option maxHeartbeats 8000000 in
theorem carried_any (n : N5) (w : World) : Calls Tryd.prog 53 [.agg (n.l.map U64).toArray].toArray w fun e w' => e = .returned (.agg ((carB n).l.map U64).toArray) ∧ Ext w w' := by
  have c0 : (n.l.map U64)[0]? = some (U64 n.a0) := rfl
  have c1 : (n.l.map U64)[1]? = some (U64 n.a1) := rfl
  have c2 : (n.l.map U64)[2]? = some (U64 n.a2) := rfl
  have c3 : (n.l.map U64)[3]? = some (U64 n.a3) := rfl
  have c4 : (n.l.map U64)[4]? = some (U64 n.a4) := rfl
  refine enter (n := 40) Tryd.func53 rfl rfl rfl (Holds.start w []) ?_
  repeat (first | refine JC.seq ?_ | refine JC.region ?_)
  refine JL.box (r := n.l.map U64) rfl rfl rfl fun b1 _ => ?_
  refine JL.alloc n5z rfl fun b2 _ => ?_
  repeat (first | refine JL.q (by first | (apply OQ.idxA0; exact Tryd.underlying59; exact w8s; exact rfl; exact rfl; exact (by decide)) | (apply OQ.load; exact w8c; exact rfl; exact (.there .here); exact (Row.cell c0)) | (apply OQ.load; exact w8c; exact rfl; exact (.there .here); exact (Row.cell c1)) | (apply OQ.load; exact w8c; exact rfl; exact (.there .here); exact (Row.cell c2)) | (apply OQ.load; exact w8c; exact rfl; exact (.there .here); exact (Row.cell c3)) | (apply OQ.load; exact w8c; exact rfl; exact (.there .here); exact (Row.cell c4)) | (apply OQ.and64 (b := 2251799813685247#64); exact rfl; exact rfl) | (apply OQ.mul64 (a := 19#64); exact rfl; exact rfl) | (apply OQ.add64; exact rfl; exact rfl) | (apply OQ.shr64; exact rfl; exact rfl)) rfl ?_ | refine JC.seq ?_ | refine JC.region ?_ | refine JL.nil ?_ | refine JE.next ?_)
  refine JL.q (OQ.pure (v := .agg ((carB n).l.map U64).toArray) rfl rfl (by kernel_rfl)) rfl ?_
  refine JL.store_all (cs := (carB n).l.map U64) n5s rfl rfl rfl (W_cell _) .here rfl ?_
  repeat (first | refine JL.nil ?_ | refine JE.next ?_)
  refine JC.ret (JE.ret1 rfl (RV.cell_agg n5a n5s rfl .here rfl Row.all) ?_)
  exact fun w' hw => ⟨rfl, hw.chg⟩

set_option maxHeartbeats 8000000 in
theorem sum_any (a b : N5) (w : World) : Calls Tryd.prog 42 [.agg (a.l.map U64).toArray, .agg (b.l.map U64).toArray].toArray w fun e w' => e = .returned (.agg ((sumB a b).l.map U64).toArray) ∧ Ext w w' := by
  have c0 : (a.l.map U64)[0]? = some (U64 a.a0) := rfl
  have c1 : (a.l.map U64)[1]? = some (U64 a.a1) := rfl
  have c2 : (a.l.map U64)[2]? = some (U64 a.a2) := rfl
  have c3 : (a.l.map U64)[3]? = some (U64 a.a3) := rfl
  have c4 : (a.l.map U64)[4]? = some (U64 a.a4) := rfl
  have d0 : (b.l.map U64)[0]? = some (U64 b.a0) := rfl
  have d1 : (b.l.map U64)[1]? = some (U64 b.a1) := rfl
  have d2 : (b.l.map U64)[2]? = some (U64 b.a2) := rfl
  have d3 : (b.l.map U64)[3]? = some (U64 b.a3) := rfl
  have d4 : (b.l.map U64)[4]? = some (U64 b.a4) := rfl
  have cc := carried_any ⟨a.a0 + b.a0, a.a1 + b.a1, a.a2 + b.a2, a.a3 + b.a3, a.a4 + b.a4⟩
  refine enter (n := 32) Tryd.func42 rfl rfl rfl (Holds.start w []) ?_
  repeat (first | refine JC.seq ?_ | refine JC.region ?_)
  refine JL.box (r := a.l.map U64) rfl rfl rfl fun b2 _ => ?_
  refine JL.box (r := b.l.map U64) rfl rfl rfl fun b3 _ => ?_
  refine JL.alloc n5z rfl fun b4 _ => ?_
  repeat (first | refine JL.q (by first | (apply OQ.idxA0; exact Tryd.underlying59; exact w8s; exact rfl; exact rfl; exact (by decide)) | (apply OQ.load; exact w8c; exact rfl; exact (.there (.there .here)); exact (Row.cell c0)) | (apply OQ.load; exact w8c; exact rfl; exact (.there (.there .here)); exact (Row.cell c1)) | (apply OQ.load; exact w8c; exact rfl; exact (.there (.there .here)); exact (Row.cell c2)) | (apply OQ.load; exact w8c; exact rfl; exact (.there (.there .here)); exact (Row.cell c3)) | (apply OQ.load; exact w8c; exact rfl; exact (.there (.there .here)); exact (Row.cell c4)) | (apply OQ.load; exact w8c; exact rfl; exact (.there .here); exact (Row.cell d0)) | (apply OQ.load; exact w8c; exact rfl; exact (.there .here); exact (Row.cell d1)) | (apply OQ.load; exact w8c; exact rfl; exact (.there .here); exact (Row.cell d2)) | (apply OQ.load; exact w8c; exact rfl; exact (.there .here); exact (Row.cell d3)) | (apply OQ.load; exact w8c; exact rfl; exact (.there .here); exact (Row.cell d4)) | (apply OQ.add64; exact rfl; exact rfl)) rfl ?_ | refine JC.seq ?_ | refine JC.region ?_ | refine JL.nil ?_ | refine JE.next ?_)
  refine JL.q (OQ.pure (v := .agg ((⟨a.a0 + b.a0, a.a1 + b.a1, a.a2 + b.a2, a.a3 + b.a3, a.a4 + b.a4⟩ : N5).l.map U64).toArray) rfl rfl (by kernel_rfl)) rfl ?_
  refine JL.q (OQ.callx goes_carried rfl fun w' _ => cc w') rfl ?_
  refine JL.store_all (cs := (sumB a b).l.map U64) n5s rfl rfl rfl (W_cell _) .here rfl ?_
  repeat (first | refine JL.nil ?_ | refine JE.next ?_)
  refine JC.ret (JE.ret1 rfl (RV.cell_agg n5a n5s rfl .here rfl Row.all) ?_)
  exact fun w' hw => ⟨rfl, hw.chg⟩

set_option maxHeartbeats 8000000 in
theorem difference_any (a b : N5) (w : World) : Calls Tryd.prog 43 [.agg (a.l.map U64).toArray, .agg (b.l.map U64).toArray].toArray w fun e w' => e = .returned (.agg ((difB a b).l.map U64).toArray) ∧ Ext w w' := by
  have c0 : (a.l.map U64)[0]? = some (U64 a.a0) := rfl
  have c1 : (a.l.map U64)[1]? = some (U64 a.a1) := rfl
  have c2 : (a.l.map U64)[2]? = some (U64 a.a2) := rfl
  have c3 : (a.l.map U64)[3]? = some (U64 a.a3) := rfl
  have c4 : (a.l.map U64)[4]? = some (U64 a.a4) := rfl
  have d0 : (b.l.map U64)[0]? = some (U64 b.a0) := rfl
  have d1 : (b.l.map U64)[1]? = some (U64 b.a1) := rfl
  have d2 : (b.l.map U64)[2]? = some (U64 b.a2) := rfl
  have d3 : (b.l.map U64)[3]? = some (U64 b.a3) := rfl
  have d4 : (b.l.map U64)[4]? = some (U64 b.a4) := rfl
  have cc := carried_any ⟨a.a0 + 4503599627370458#64 - b.a0, a.a1 + 4503599627370494#64 - b.a1, a.a2 + 4503599627370494#64 - b.a2, a.a3 + 4503599627370494#64 - b.a3, a.a4 + 4503599627370494#64 - b.a4⟩
  refine enter (n := 37) Tryd.func43 rfl rfl rfl (Holds.start w []) ?_
  repeat (first | refine JC.seq ?_ | refine JC.region ?_)
  refine JL.box (r := a.l.map U64) rfl rfl rfl fun b2 _ => ?_
  refine JL.box (r := b.l.map U64) rfl rfl rfl fun b3 _ => ?_
  refine JL.alloc n5z rfl fun b4 _ => ?_
  repeat (first | refine JL.q (by first | (apply OQ.idxA0; exact Tryd.underlying59; exact w8s; exact rfl; exact rfl; exact (by decide)) | (apply OQ.load; exact w8c; exact rfl; exact (.there (.there .here)); exact (Row.cell c0)) | (apply OQ.load; exact w8c; exact rfl; exact (.there (.there .here)); exact (Row.cell c1)) | (apply OQ.load; exact w8c; exact rfl; exact (.there (.there .here)); exact (Row.cell c2)) | (apply OQ.load; exact w8c; exact rfl; exact (.there (.there .here)); exact (Row.cell c3)) | (apply OQ.load; exact w8c; exact rfl; exact (.there (.there .here)); exact (Row.cell c4)) | (apply OQ.load; exact w8c; exact rfl; exact (.there .here); exact (Row.cell d0)) | (apply OQ.load; exact w8c; exact rfl; exact (.there .here); exact (Row.cell d1)) | (apply OQ.load; exact w8c; exact rfl; exact (.there .here); exact (Row.cell d2)) | (apply OQ.load; exact w8c; exact rfl; exact (.there .here); exact (Row.cell d3)) | (apply OQ.load; exact w8c; exact rfl; exact (.there .here); exact (Row.cell d4)) | (apply OQ.add64 (b := 4503599627370458#64); exact rfl; exact rfl) | (apply OQ.add64 (b := 4503599627370494#64); exact rfl; exact rfl) | (apply OQ.sub64w; exact rfl; exact rfl)) rfl ?_ | refine JC.seq ?_ | refine JC.region ?_ | refine JL.nil ?_ | refine JE.next ?_)
  refine JL.q (OQ.pure (v := .agg ((⟨a.a0 + 4503599627370458#64 - b.a0, a.a1 + 4503599627370494#64 - b.a1, a.a2 + 4503599627370494#64 - b.a2, a.a3 + 4503599627370494#64 - b.a3, a.a4 + 4503599627370494#64 - b.a4⟩ : N5).l.map U64).toArray) rfl rfl (by kernel_rfl)) rfl ?_
  refine JL.q (OQ.callx goes_carried rfl fun w' _ => cc w') rfl ?_
  refine JL.store_all (cs := (difB a b).l.map U64) n5s rfl rfl rfl (W_cell _) .here rfl ?_
  repeat (first | refine JL.nil ?_ | refine JE.next ?_)
  refine JC.ret (JE.ret1 rfl (RV.cell_agg n5a n5s rfl .here rfl Row.all) ?_)
  exact fun w' hw => ⟨rfl, hw.chg⟩

set_option maxHeartbeats 8000000 in
theorem word_any (k : List By) (hk : k.length = 32) (p : Nat) (hp : p < 4) (w : World) : Calls Tryd.prog 40 [.agg (k.map U8).toArray, N p].toArray w fun e w' => e = .returned (U64 (wdB k p 8)) ∧ Ext w w' := by
  refine enter (n := 24) Tryd.func40 rfl rfl rfl (Holds.start w []) ?_
  repeat (first | refine JC.seq ?_ | refine JC.region ?_)
  refine JL.box (r := k.map U8) rfl rfl rfl fun b2 _ => ?_
  repeat (first | refine JL.q (by first | (apply OQ.move; exact rfl) | (apply OQ.assign; exact rfl)) rfl ?_ | refine JC.seq ?_ | refine JC.region ?_ | refine JC.block ?_ | refine JL.nil ?_ | refine JE.next ?_)
  refine JC.loop (fun i : Nat => [(1, N p), (2, Pt b2 0), (5, U64 (wdB k p i)), (7, N i)]) (fun _ => [⟨b2, Row 23 (k.map U8), true⟩])
    (fun i => 8 - i) (fun i => i ≤ 8) 0 (by omega) (by repeat (first | exact SubE.nil | refine SubE.cons _ _ _ rfl ?_)) (Less.refl _) ?_
  intro i hi
  repeat (first | refine JL.q (by (apply OQ.lssN; exact rfl; exact rfl)) rfl ?_ | refine JC.seq ?_ | refine JC.region ?_ | refine JL.nil ?_ | refine JE.next ?_)
  refine JC.cond rfl (fun h => ?_) (fun h => ?_)
  · have hi' : i < 8 := of_decide_eq_true h
    clear h hi
    have hc := U8_nth (l := k) (i := 8 * p + i) (by omega)
    repeat (first | refine JL.q (by first | (apply OQ.idxA0; exact Tryd.underlying23; exact y1s; exact rfl; exact rfl; exact (by (try simp only []); omega)) | (apply OQ.load; exact y1c; exact rfl; exact .here; exact (Row.cell hc)) | (apply OQ.conv8_64; exact rfl; exact rfl; exact rfl) | (apply OQ.shl64; exact rfl; exact rfl) | (apply OQ.or64; exact rfl; exact rfl) | (apply OQ.move; exact rfl) | (apply OQ.assign; exact rfl) | (apply OQ.addN; exact rfl; exact rfl; exact (by (try simp only []); omega)) | (apply OQ.mulN; exact rfl; exact rfl; exact (by (try simp only []); omega))) rfl ?_ | refine JC.seq ?_ | refine JC.region ?_ | refine JC.block ?_ | refine JC.skip ?_ | refine JL.nil ?_ | refine JE.next ?_ | refine JE.blk_normal ?_)
    exact JE.again (i := i) (i + 1) (by omega) (by omega) (by repeat (first | exact SubE.nil | refine SubE.cons _ _ _ rfl ?_)) (Less.refl _)
  · have hi' : ¬ i < 8 := of_decide_eq_false h
    obtain rfl : i = 8 := by omega
    clear h hi hi'
    generalize wdB k p 8 = X
    repeat (first | refine JL.q (by first | (apply OQ.move; exact rfl) | (apply OQ.assign; exact rfl)) rfl ?_ | refine JC.seq ?_ | refine JC.region ?_ | refine JC.exit ?_ | refine JL.nil ?_ | refine JE.next ?_ | refine JE.then_exit ?_ | refine JE.blk_hit ?_)
    refine JC.ret (JE.ret1 rfl (RV.tmp rfl) ?_)
    exact fun w' hw => ⟨rfl, hw.chg⟩

theorem goes_numberOf : Goes Tryd.prog 30 := ⟨_, Tryd.func30, rfl, by kernel_rfl⟩
set_option maxHeartbeats 8000000 in
theorem numberOf_any (u : List By) (hu : u.length = 32) (w : World) : Calls Tryd.prog 30 [.agg (u.map U8).toArray].toArray w fun e w' => e = .returned (.agg ((numB u).l.map U64).toArray) ∧ Ext w w' := by
  have hlu : (u.map U8).length = 32 := by rw [List.length_map]; exact hu
  have c0 := word_any u hu 0 (by decide)
  have c1 := word_any u hu 1 (by decide)
  have c2 := word_any u hu 2 (by decide)
  have c3 := word_any u hu 3 (by decide)
  have e : numB u = numW (wdB u 0 8) (wdB u 1 8) (wdB u 2 8) (wdB u 3 8) := rfl
  rw [e]
  generalize wdB u 0 8 = W0 at *
  generalize wdB u 1 8 = W1 at *
  generalize wdB u 2 8 = W2 at *
  generalize wdB u 3 8 = W3 at *
  clear e
  refine enter (n := 39) Tryd.func30 rfl rfl rfl (Holds.start w []) ?_
  repeat (first | refine JC.seq ?_ | refine JC.region ?_)
  refine JL.box (r := u.map U8) rfl rfl rfl fun b1 _ => ?_
  refine JL.alloc n5z rfl fun b2 _ => ?_
  repeat (first | refine JC.seq ?_ | refine JL.nil ?_ | refine JE.next ?_)
  refine JC.quiet mixC (by kernel_rfl) ?_
  repeat (first | refine JL.q (by first | (apply OQ.load_agg (cs := u.map U8); exact k32a; exact k32s; exact rfl; exact (.there .here); exact hlu; exact Row.all) | (apply OQ.callx (vs := [.agg (u.map U8).toArray, N 0]); exact goes_word; exact rfl; exact (fun w' _ => c0 w')) | (apply OQ.callx (vs := [.agg (u.map U8).toArray, N 1]); exact goes_word; exact rfl; exact (fun w' _ => c1 w')) | (apply OQ.callx (vs := [.agg (u.map U8).toArray, N 2]); exact goes_word; exact rfl; exact (fun w' _ => c2 w')) | (apply OQ.callx (vs := [.agg (u.map U8).toArray, N 3]); exact goes_word; exact rfl; exact (fun w' _ => c3 w')) | (apply OQ.and64 (b := 2251799813685247#64); exact rfl; exact rfl) | (apply OQ.shl64; exact rfl; exact rfl) | (apply OQ.or64; exact rfl; exact rfl) | (apply OQ.move; exact rfl) | (apply OQ.assign; exact rfl) | (apply OQ.shr64; exact rfl; exact rfl)) rfl ?_ | refine JQ.q (by first | (apply OQ.load_agg (cs := u.map U8); exact k32a; exact k32s; exact rfl; exact (.there .here); exact hlu; exact Row.all) | (apply OQ.callx (vs := [.agg (u.map U8).toArray, N 0]); exact goes_word; exact rfl; exact (fun w' _ => c0 w')) | (apply OQ.callx (vs := [.agg (u.map U8).toArray, N 1]); exact goes_word; exact rfl; exact (fun w' _ => c1 w')) | (apply OQ.callx (vs := [.agg (u.map U8).toArray, N 2]); exact goes_word; exact rfl; exact (fun w' _ => c2 w')) | (apply OQ.callx (vs := [.agg (u.map U8).toArray, N 3]); exact goes_word; exact rfl; exact (fun w' _ => c3 w')) | (apply OQ.and64 (b := 2251799813685247#64); exact rfl; exact rfl) | (apply OQ.shl64; exact rfl; exact rfl) | (apply OQ.or64; exact rfl; exact rfl) | (apply OQ.move; exact rfl) | (apply OQ.assign; exact rfl) | (apply OQ.shr64; exact rfl; exact rfl)) rfl ?_ | refine JC.seq ?_ | refine JC.region ?_ | refine JQ.nil ?_ | refine JE.next ?_)
  refine JL.q (OQ.pure (v := .agg ((numW W0 W1 W2 W3).l.map U64).toArray) rfl rfl (by kernel_rfl)) rfl ?_
  refine JL.store_all (cs := (numW W0 W1 W2 W3).l.map U64) n5s rfl rfl rfl (W_cell _) .here rfl ?_
  repeat (first | refine JL.nil ?_ | refine JE.next ?_)
  refine JC.ret (JE.ret1 rfl (RV.cell_agg n5a n5s rfl .here rfl Row.all) ?_)
  exact fun w' hw => ⟨rfl, hw.chg⟩
end Go.Proofs.YtbihfhkbkcplmaaDoor

/-
  Of no statement by itself: what the code's product gives: math/bits.Mul64, times, plus, rest, narrow, product.
  Conditions: each theorem's own.
-/
namespace Go.Proofs.YtbihfhkbkcplmaaDoor
set_option maxRecDepth 10000
open Sl Crv

/-- what Mul64 lays -/
def mulC (a b : W64) : W64 :=
  (a >>> 32) * (b >>> 32) + ((a >>> 32) * (b &&& 4294967295#64) + ((a &&& 4294967295#64) * (b &&& 4294967295#64)) >>> 32) >>> 32 +
    ((((a >>> 32) * (b &&& 4294967295#64) + ((a &&& 4294967295#64) * (b &&& 4294967295#64)) >>> 32) &&& 4294967295#64) + (a &&& 4294967295#64) * (b >>> 32)) >>> 32
theorem mask32 (x : W64) : (x &&& 4294967295#64).toNat = x.toNat % 4294967296 := by
  rw [BitVec.toNat_and, show (4294967295#64).toNat = 2 ^ 32 - 1 from rfl, Nat.and_two_pow_sub_one_eq_mod]
theorem mul32s {x y : W64} (hx : x.toNat < 4294967296) (hy : y.toNat < 4294967296) : (x * y).toNat = x.toNat * y.toNat ∧ x.toNat * y.toNat ≤ 18446744065119617025 := by
  have h : x.toNat * y.toNat ≤ 4294967295 * 4294967295 := Nat.mul_le_mul (by omega) (by omega)
  refine ⟨?_, by omega⟩
  rw [BitVec.toNat_mul]
  exact Nat.mod_eq_of_lt (by omega)
theorem split4 (x1 x0 y1 y0 : Nat) : (x1 * 4294967296 + x0) * (y1 * 4294967296 + y0) = x1 * y1 * 18446744073709551616 + (x1 * y0 + x0 * y1) * 4294967296 + x0 * y0 := by
  grind
theorem mulC_is (a b : W64) : mulC a b = mulHi a b := by
  apply BitVec.eq_of_toNat_eq
  rw [mulHi_is]
  have ha := a.isLt
  have hb := b.isLt
  have a1 := toNat_shr a 32
  have b1 := toNat_shr b 32
  have a0 := mask32 a
  have b0 := mask32 b
  have ea : a.toNat = a.toNat / 4294967296 * 4294967296 + a.toNat % 4294967296 := by omega
  have eb : b.toNat = b.toNat / 4294967296 * 4294967296 + b.toNat % 4294967296 := by omega
  have e := split4 (a.toNat / 4294967296) (a.toNat % 4294967296) (b.toNat / 4294967296) (b.toNat % 4294967296)
  rw [← ea, ← eb] at e
  unfold mulC
  have h1 : (a >>> 32).toNat < 4294967296 := by omega
  have h2 : (b >>> 32).toNat < 4294967296 := by omega
  have h3 : (a &&& 4294967295#64).toNat < 4294967296 := by omega
  have h4 : (b &&& 4294967295#64).toNat < 4294967296 := by omega
  have p11 := mul32s h1 h2
  have p10 := mul32s h1 h4
  have p01 := mul32s h3 h2
  have p00 := mul32s h3 h4
  rw [a1, b1] at p11
  rw [a1, b0] at p10
  rw [a0, b1] at p01
  rw [a0, b0] at p00
  clear ha hb ea eb h1 h2 h3 h4 a1 b1 a0 b0
  rw [show (2 : Nat) ^ 32 = 4294967296 from rfl] at *
  generalize (a >>> 32) * (b >>> 32) = q11 at *
  generalize (a >>> 32) * (b &&& 4294967295#64) = q10 at *
  generalize (a &&& 4294967295#64) * (b >>> 32) = q01 at *
  generalize (a &&& 4294967295#64) * (b &&& 4294967295#64) = q00 at *
  generalize a.toNat * b.toNat = pr at *
  generalize a.toNat / 4294967296 * (b.toNat / 4294967296) = n11 at *
  generalize a.toNat / 4294967296 * (b.toNat % 4294967296) = n10 at *
  generalize a.toNat % 4294967296 * (b.toNat / 4294967296) = n01 at *
  generalize a.toNat % 4294967296 * (b.toNat % 4294967296) = n00 at *
  have s1 := toNat_shr q00 32
  have t1 := toNat_add (x := q10) (y := q00 >>> 32) (by omega)
  have s2 := toNat_shr (q10 + q00 >>> 32) 32
  have m1 := mask32 (q10 + q00 >>> 32)
  have t2 := toNat_add (x := (q10 + q00 >>> 32) &&& 4294967295#64) (y := q01) (by omega)
  have s3 := toNat_shr (((q10 + q00 >>> 32) &&& 4294967295#64) + q01) 32
  have hbd : pr < 18446744073709551616 * 18446744073709551616 := by omega
  have u1 := toNat_add (x := q11) (y := (q10 + q00 >>> 32) >>> 32) (by omega)
  have u2 := toNat_add (x := q11 + (q10 + q00 >>> 32) >>> 32) (y := (((q10 + q00 >>> 32) &&& 4294967295#64) + q01) >>> 32) (by omega)
  rw [u2, u1, s3, t2, m1, s2, t1, s1]
  omega
theorem goes_mul64 : Goes Tryd.prog 55 := ⟨_, Tryd.func55, rfl, by kernel_rfl⟩
theorem is_add : IsAdd Tryd.prog 56 := ⟨_, Tryd.func56, by kernel_rfl, by kernel_rfl, by kernel_rfl, by kernel_rfl⟩
set_option maxHeartbeats 8000000 in
theorem mul64_any (a b : W64) (w : World) : Calls Tryd.prog 55 [U64 a, U64 b].toArray w fun e w' => e = .returned (.tuple #[U64 (mulHi a b), U64 (a * b)]) ∧ Ext w w' := by
  rw [← mulC_is]
  refine enter (n := 51) Tryd.func55 rfl rfl rfl (Holds.start w []) ?_
  repeat (first | refine JL.q (by first | (apply OQ.and64 (b := 4294967295#64); exact rfl; exact rfl) | (apply OQ.mul64; exact rfl; exact rfl) | (apply OQ.move; exact rfl) | (apply OQ.assign; exact rfl) | (apply OQ.add64; exact rfl; exact rfl) | (apply OQ.shr64; exact rfl; exact rfl)) rfl ?_ | refine JC.seq ?_ | refine JC.region ?_ | refine JL.nil ?_ | refine JE.next ?_)
  refine JC.ret ?_
  refine JE.ret2 rfl (RV.tmp rfl) (RV.tmp rfl) ?_
  exact fun w' hw => ⟨rfl, hw.chg⟩

theorem w2s : szT Tryd.prog 77 = some 2 := by kernel_rfl
theorem w2a : aggT Tryd.prog 77 = true := by kernel_rfl
theorem w2z : zc Tryd.prog 77 = some ((⟨0, 0⟩ : W2).l.map U64) := by kernel_rfl
theorem goes_times64 : Goes Tryd.prog 45 := ⟨_, Tryd.func45, rfl, by kernel_rfl⟩
theorem goes_plus : Goes Tryd.prog 46 := ⟨_, Tryd.func46, rfl, by kernel_rfl⟩
theorem goes_rest : Goes Tryd.prog 54 := ⟨_, Tryd.func54, rfl, by kernel_rfl⟩
theorem goes_narrow : Goes Tryd.prog 44 := ⟨_, Tryd.func44, rfl, by kernel_rfl⟩
theorem goes_product : Goes Tryd.prog 33 := ⟨_, Tryd.func33, rfl, by kernel_rfl⟩
set_option maxHeartbeats 8000000 in
theorem times64_any (a b : W64) (w : World) : Calls Tryd.prog 45 [U64 a, U64 b].toArray w fun e w' => e = .returned (.agg ((tms a b).l.map U64).toArray) ∧ Ext w w' := by
  refine enter (n := 16) Tryd.func45 rfl rfl rfl (Holds.start w []) ?_
  repeat (first | refine JC.seq ?_ | refine JC.region ?_)
  refine JL.alloc w2z rfl fun b4 _ => ?_
  repeat (first | refine JL.q (by first | (apply OQ.callx; exact goes_mul64; exact rfl; exact (fun w' _ => mul64_any a b w')) | (apply OQ.extract; exact rfl; exact rfl) | (apply OQ.move; exact rfl) | (apply OQ.assign; exact rfl)) rfl ?_ | refine JC.seq ?_ | refine JC.region ?_ | refine JL.nil ?_ | refine JE.next ?_)
  refine JL.q (OQ.pure (v := .agg ((tms a b).l.map U64).toArray) rfl rfl (by kernel_rfl)) rfl ?_
  refine JL.store_all (cs := (tms a b).l.map U64) w2s rfl rfl rfl (W_cell _) .here rfl ?_
  repeat (first | refine JL.nil ?_ | refine JE.next ?_)
  refine JC.ret (JE.ret1 rfl (RV.cell_agg w2a w2s rfl .here rfl Row.all) ?_)
  exact fun w' hw => ⟨rfl, hw.chg⟩
theorem cry_le (a b : W64) : (cry a b).toNat ≤ 1 := by
  rw [cry_is]
  have := a.isLt
  have := b.isLt
  omega
theorem add_s0 (a b : W64) : (a + b).toNat = (a.toNat + b.toNat + (0#64 : W64).toNat) % 18446744073709551616 := by
  rw [BitVec.toNat_add]; rfl
theorem add_o0 (a b : W64) : (cry a b).toNat = (a.toNat + b.toNat + (0#64 : W64).toNat) / 18446744073709551616 := cry_is a b
theorem add_s1 (a b c : W64) : (a + b + c).toNat = (a.toNat + b.toNat + c.toNat) % 18446744073709551616 := by
  rw [BitVec.toNat_add, BitVec.toNat_add]
  omega
theorem add_o1 (a b c : W64) : (BitVec.ofNat 64 ((a.toNat + b.toNat + c.toNat) / 18446744073709551616)).toNat = (a.toNat + b.toNat + c.toNat) / 18446744073709551616 := by
  rw [BitVec.toNat_ofNat]
  have := a.isLt
  have := b.isLt
  have := c.isLt
  omega
set_option maxHeartbeats 8000000 in
theorem plus_any (v : W2) (a b : W64) (w : World) : Calls Tryd.prog 46 [.agg (v.l.map U64).toArray, U64 a, U64 b].toArray w fun e w' => e = .returned (.agg ((pls v a b).l.map U64).toArray) ∧ Ext w w' := by
  have c0 : (v.l.map U64)[0]? = some (U64 v.hi) := rfl
  have c1 : (v.l.map U64)[1]? = some (U64 v.lo) := rfl
  refine enter (n := 34) Tryd.func46 rfl rfl rfl (Holds.start w []) ?_
  repeat (first | refine JC.seq ?_ | refine JC.region ?_)
  refine JL.box (r := v.l.map U64) rfl rfl rfl fun b3 _ => ?_
  refine JL.alloc w2z rfl fun b6 _ => ?_
  repeat (first | refine JL.q (by first | (apply OQ.callx; exact goes_mul64; exact rfl; exact (fun w' _ => mul64_any a b w')) | (apply OQ.extract; exact rfl; exact rfl) | (apply OQ.load; exact w8c; exact rfl; exact (.there .here); exact (Row.cell c1)) | (apply OQ.load; exact w8c; exact rfl; exact (.there .here); exact (Row.cell c0)) | (apply OQ.add64c (c := 0#64) (s := v.lo + a * b) (o := cry v.lo (a * b)); exact is_add; exact rfl; exact rfl; exact rfl; exact (by decide); exact (add_s0 _ _); exact (add_o0 _ _)) | (apply OQ.add64c (c := cry v.lo (a * b)) (s := v.hi + mulHi a b + cry v.lo (a * b)); exact is_add; exact rfl; exact rfl; exact rfl; exact (cry_le _ _); exact (add_s1 _ _ _); exact (add_o1 _ _ _)) | (apply OQ.move; exact rfl) | (apply OQ.assign; exact rfl) | (apply OQ.fld; exact rfl; exact rfl; exact rfl; exact (by decide); exact rfl)) rfl ?_ | refine JC.seq ?_ | refine JC.region ?_ | refine JL.nil ?_ | refine JE.next ?_)
  refine JL.q (OQ.pure (v := .agg ((pls v a b).l.map U64).toArray) rfl rfl (by kernel_rfl)) rfl ?_
  refine JL.store_all (cs := (pls v a b).l.map U64) w2s rfl rfl rfl (W_cell _) .here rfl ?_
  repeat (first | refine JL.nil ?_ | refine JE.next ?_)
  refine JC.ret (JE.ret1 rfl (RV.cell_agg w2a w2s rfl .here rfl Row.all) ?_)
  exact fun w' hw => ⟨rfl, hw.chg⟩
set_option maxHeartbeats 8000000 in
theorem rest_any (v : W2) (w : World) : Calls Tryd.prog 54 [.agg (v.l.map U64).toArray].toArray w fun e w' => e = .returned (U64 (rst v)) ∧ Ext w w' := by
  have c0 : (v.l.map U64)[0]? = some (U64 v.hi) := rfl
  have c1 : (v.l.map U64)[1]? = some (U64 v.lo) := rfl
  refine enter (n := 10) Tryd.func54 rfl rfl rfl (Holds.start w []) ?_
  repeat (first | refine JC.seq ?_ | refine JC.region ?_)
  refine JL.box (r := v.l.map U64) rfl rfl rfl fun b1 _ => ?_
  repeat (first | refine JL.q (by first | (apply OQ.load; exact w8c; exact rfl; exact .here; exact (Row.cell c1)) | (apply OQ.load; exact w8c; exact rfl; exact .here; exact (Row.cell c0)) | (apply OQ.shl64; exact rfl; exact rfl) | (apply OQ.or64; exact rfl; exact rfl) | (apply OQ.assign; exact rfl) | (apply OQ.shr64; exact rfl; exact rfl) | (apply OQ.fld; exact rfl; exact rfl; exact rfl; exact (by decide); exact rfl)) rfl ?_ | refine JC.seq ?_ | refine JC.region ?_ | refine JL.nil ?_ | refine JE.next ?_)
  refine JC.ret (JE.ret1 rfl (RV.tmp rfl) ?_)
  exact fun w' hw => ⟨rfl, hw.chg⟩
set_option maxHeartbeats 16000000 in
theorem narrow_any (v0 v1 v2 v3 v4 : W2) (w : World) : Calls Tryd.prog 44 [.agg (v0.l.map U64).toArray, .agg (v1.l.map U64).toArray, .agg (v2.l.map U64).toArray, .agg (v3.l.map U64).toArray, .agg (v4.l.map U64).toArray].toArray w
    fun e w' => e = .returned (.agg ((nrw v0 v1 v2 v3 v4).l.map U64).toArray) ∧ Ext w w' := by
  have c0 : (v0.l.map U64)[1]? = some (U64 v0.lo) := rfl
  have c1 : (v1.l.map U64)[1]? = some (U64 v1.lo) := rfl
  have c2 : (v2.l.map U64)[1]? = some (U64 v2.lo) := rfl
  have c3 : (v3.l.map U64)[1]? = some (U64 v3.lo) := rfl
  have c4 : (v4.l.map U64)[1]? = some (U64 v4.lo) := rfl
  have cc := carried_any ⟨(v0.lo &&& 2251799813685247#64) + 19#64 * rst v4, (v1.lo &&& 2251799813685247#64) + rst v0, (v2.lo &&& 2251799813685247#64) + rst v1, (v3.lo &&& 2251799813685247#64) + rst v2, (v4.lo &&& 2251799813685247#64) + rst v3⟩
  refine enter (n := 44) Tryd.func44 rfl rfl rfl (Holds.start w []) ?_
  repeat (first | refine JC.seq ?_ | refine JC.region ?_)
  refine JL.box (r := v0.l.map U64) rfl rfl rfl fun b5 _ => ?_
  refine JL.box (r := v1.l.map U64) rfl rfl rfl fun b6 _ => ?_
  refine JL.box (r := v2.l.map U64) rfl rfl rfl fun b7 _ => ?_
  refine JL.box (r := v3.l.map U64) rfl rfl rfl fun b8 _ => ?_
  refine JL.box (r := v4.l.map U64) rfl rfl rfl fun b9 _ => ?_
  refine JL.alloc n5z rfl fun b10 _ => ?_
  repeat (first | refine JC.seq ?_ | refine JL.nil ?_ | refine JE.next ?_)
  refine JC.tail 33 mixC (by kernel_rfl) ?_
  simp only [List.take_succ_cons, List.take_zero, List.drop_succ_cons, List.drop_zero]
  repeat (refine JQ.q (by first | (apply OQ.load; exact w8c; exact rfl; exact (by repeat (first | exact Has.here | apply Has.there)); exact (Row.cell c0)) | (apply OQ.load; exact w8c; exact rfl; exact (by repeat (first | exact Has.here | apply Has.there)); exact (Row.cell c1)) | (apply OQ.load; exact w8c; exact rfl; exact (by repeat (first | exact Has.here | apply Has.there)); exact (Row.cell c2)) | (apply OQ.load; exact w8c; exact rfl; exact (by repeat (first | exact Has.here | apply Has.there)); exact (Row.cell c3)) | (apply OQ.load; exact w8c; exact rfl; exact (by repeat (first | exact Has.here | apply Has.there)); exact (Row.cell c4)) | (apply OQ.load_agg (cs := v0.l.map U64); exact w2a; exact w2s; exact rfl; exact (by repeat (first | exact Has.here | apply Has.there)); exact rfl; exact Row.all) | (apply OQ.load_agg (cs := v1.l.map U64); exact w2a; exact w2s; exact rfl; exact (by repeat (first | exact Has.here | apply Has.there)); exact rfl; exact Row.all) | (apply OQ.load_agg (cs := v2.l.map U64); exact w2a; exact w2s; exact rfl; exact (by repeat (first | exact Has.here | apply Has.there)); exact rfl; exact Row.all) | (apply OQ.load_agg (cs := v3.l.map U64); exact w2a; exact w2s; exact rfl; exact (by repeat (first | exact Has.here | apply Has.there)); exact rfl; exact Row.all) | (apply OQ.load_agg (cs := v4.l.map U64); exact w2a; exact w2s; exact rfl; exact (by repeat (first | exact Has.here | apply Has.there)); exact rfl; exact Row.all) | (apply OQ.callx; exact goes_rest; exact rfl; exact (fun w' _ => rest_any _ w')) | (apply OQ.and64 (b := 2251799813685247#64); exact rfl; exact rfl) | (apply OQ.mul64 (a := 19#64); exact rfl; exact rfl) | (apply OQ.add64; exact rfl; exact rfl) | (apply OQ.fld; exact rfl; exact rfl; exact rfl; exact (by decide); exact rfl)) rfl ?_)
  refine JQ.q (OQ.pure (v := .agg ((⟨(v0.lo &&& 2251799813685247#64) + 19#64 * rst v4, (v1.lo &&& 2251799813685247#64) + rst v0, (v2.lo &&& 2251799813685247#64) + rst v1, (v3.lo &&& 2251799813685247#64) + rst v2, (v4.lo &&& 2251799813685247#64) + rst v3⟩ : N5).l.map U64).toArray) rfl rfl (by kernel_rfl)) rfl ?_
  refine JQ.q (OQ.callx goes_carried rfl fun w' _ => cc w') rfl ?_
  repeat (refine JQ.nil_tail ?_)
  refine JL.store_all (cs := (nrw v0 v1 v2 v3 v4).l.map U64) n5s rfl rfl rfl (W_cell _) .here rfl ?_
  repeat (first | refine JL.nil ?_ | refine JE.next ?_)
  refine JC.ret (JE.ret1 rfl (RV.cell_agg n5a n5s rfl .here rfl Row.all) ?_)
  exact fun w' hw => ⟨rfl, hw.chg⟩
end Go.Proofs.YtbihfhkbkcplmaaDoor

/-
  Of no statement by itself: what the code's product, squared and inverse give.
  Conditions: each theorem's own.
-/
namespace Go.Proofs.YtbihfhkbkcplmaaDoor
set_option maxRecDepth 10000
open Sl Crv
set_option maxHeartbeats 32000000 in
set_option maxRecDepth 4000 in
theorem product_any (a b : N5) (w : World) : Calls Tryd.prog 33 [.agg (a.l.map U64).toArray, .agg (b.l.map U64).toArray].toArray w fun e w' => e = .returned (.agg ((prdB a b).l.map U64).toArray) ∧ Ext w w' := by
  have c0 : (a.l.map U64)[0]? = some (U64 a.a0) := rfl
  have c1 : (a.l.map U64)[1]? = some (U64 a.a1) := rfl
  have c2 : (a.l.map U64)[2]? = some (U64 a.a2) := rfl
  have c3 : (a.l.map U64)[3]? = some (U64 a.a3) := rfl
  have c4 : (a.l.map U64)[4]? = some (U64 a.a4) := rfl
  have d0 : (b.l.map U64)[0]? = some (U64 b.a0) := rfl
  have d1 : (b.l.map U64)[1]? = some (U64 b.a1) := rfl
  have d2 : (b.l.map U64)[2]? = some (U64 b.a2) := rfl
  have d3 : (b.l.map U64)[3]? = some (U64 b.a3) := rfl
  have d4 : (b.l.map U64)[4]? = some (U64 b.a4) := rfl
  refine enter (n := 123) Tryd.func33 rfl rfl rfl (Holds.start w []) ?_
  repeat (first | refine JC.seq ?_ | refine JC.region ?_)
  refine JL.box (r := a.l.map U64) rfl rfl rfl fun b2 _ => ?_
  refine JL.box (r := b.l.map U64) rfl rfl rfl fun b3 _ => ?_
  refine JL.alloc n5z rfl fun b4 _ => ?_
  repeat (first | refine JC.seq ?_ | refine JL.nil ?_ | refine JE.next ?_)
  refine JC.quiet mixC (by kernel_rfl) ?_
  repeat (first | refine JQ.q (by first | (apply OQ.idxA0; exact Tryd.underlying59; exact w8s; exact rfl; exact rfl; exact (by decide)) | (apply OQ.load; exact w8c; exact rfl; exact (.there (.there .here)); exact (Row.cell c0)) | (apply OQ.load; exact w8c; exact rfl; exact (.there (.there .here)); exact (Row.cell c1)) | (apply OQ.load; exact w8c; exact rfl; exact (.there (.there .here)); exact (Row.cell c2)) | (apply OQ.load; exact w8c; exact rfl; exact (.there (.there .here)); exact (Row.cell c3)) | (apply OQ.load; exact w8c; exact rfl; exact (.there (.there .here)); exact (Row.cell c4)) | (apply OQ.assign; exact rfl)) rfl ?_ | refine JC.seq ?_ | refine JQ.nil ?_ | refine JE.next ?_)
  refine JC.quiet mixC (by kernel_rfl) ?_
  repeat (first | refine JL.q (by first | (apply OQ.idxA0; exact Tryd.underlying59; exact w8s; exact rfl; exact rfl; exact (by decide)) | (apply OQ.load; exact w8c; exact rfl; exact (.there .here); exact (Row.cell d0)) | (apply OQ.load; exact w8c; exact rfl; exact (.there .here); exact (Row.cell d1)) | (apply OQ.load; exact w8c; exact rfl; exact (.there .here); exact (Row.cell d2)) | (apply OQ.load; exact w8c; exact rfl; exact (.there .here); exact (Row.cell d3)) | (apply OQ.load; exact w8c; exact rfl; exact (.there .here); exact (Row.cell d4)) | (apply OQ.mul64 (a := 19#64); exact rfl; exact rfl) | (apply OQ.move; exact rfl) | (apply OQ.assign; exact rfl)) rfl ?_ | refine JQ.q (by first | (apply OQ.idxA0; exact Tryd.underlying59; exact w8s; exact rfl; exact rfl; exact (by decide)) | (apply OQ.load; exact w8c; exact rfl; exact (.there .here); exact (Row.cell d0)) | (apply OQ.load; exact w8c; exact rfl; exact (.there .here); exact (Row.cell d1)) | (apply OQ.load; exact w8c; exact rfl; exact (.there .here); exact (Row.cell d2)) | (apply OQ.load; exact w8c; exact rfl; exact (.there .here); exact (Row.cell d3)) | (apply OQ.load; exact w8c; exact rfl; exact (.there .here); exact (Row.cell d4)) | (apply OQ.mul64 (a := 19#64); exact rfl; exact rfl) | (apply OQ.move; exact rfl) | (apply OQ.assign; exact rfl)) rfl ?_ | refine JC.seq ?_ | refine JC.region ?_ | refine JL.nil ?_ | refine JQ.nil ?_ | refine JE.next ?_)
  simp only [List.append]
  repeat (refine JL.q (by first | (apply OQ.callx; exact goes_times64; exact rfl; exact (fun w' _ => times64_any _ _ w')) | (apply OQ.callx; exact goes_plus; exact rfl; exact (fun w' _ => plus_any _ _ _ w')) | (apply OQ.move; exact rfl)) rfl ?_)
  refine JL.q (OQ.callx goes_narrow rfl fun w' _ => narrow_any _ _ _ _ _ w') rfl ?_
  refine JL.store_all (cs := (prdB a b).l.map U64) n5s rfl rfl rfl (W_cell _) .here rfl ?_
  repeat (first | refine JL.nil ?_ | refine JE.next ?_)
  refine JC.ret (JE.ret1 rfl (RV.cell_agg n5a n5s rfl .here rfl Row.all) ?_)
  exact fun w' hw => ⟨rfl, hw.chg⟩

theorem goes_squared : Goes Tryd.prog 47 := ⟨_, Tryd.func47, rfl, by kernel_rfl⟩
theorem goes_inverse : Goes Tryd.prog 34 := ⟨_, Tryd.func34, rfl, by kernel_rfl⟩
set_option maxHeartbeats 8000000 in
theorem squared_any (a : N5) (k : Nat) (hk : k < 1000) (w : World) : Calls Tryd.prog 47 [.agg (a.l.map U64).toArray, N k].toArray w fun e w' => e = .returned (.agg ((sqB a k).l.map U64).toArray) ∧ Ext w w' := by
  refine enter (n := 13) Tryd.func47 rfl rfl rfl (Holds.start w []) ?_
  repeat (first | refine JC.seq ?_ | refine JC.region ?_)
  refine JL.box (r := a.l.map U64) rfl rfl rfl fun b2 _ => ?_
  refine JL.alloc n5z rfl fun b4 _ => ?_
  repeat (first | refine JL.q (by (apply OQ.move; exact rfl)) rfl ?_ | refine JC.seq ?_ | refine JC.region ?_ | refine JC.block ?_ | refine JL.nil ?_ | refine JE.next ?_)
  refine JC.loop (fun i : Nat => [(2, Pt b2 0), (4, Pt b4 0), (5, N k), (6, N i)]) (fun i => [⟨b4, Row 59 (zeroN.l.map U64), true⟩, ⟨b2, Row 59 ((sqB a i).l.map U64), true⟩])
    (fun i => k - i) (fun i => i ≤ k) 0 (by omega) (by repeat (first | exact SubE.nil | refine SubE.cons _ _ _ rfl ?_)) (Less.refl _) ?_
  intro i hi
  repeat (first | refine JL.q (by (apply OQ.lssN; exact rfl; exact rfl)) rfl ?_ | refine JC.seq ?_ | refine JC.region ?_ | refine JL.nil ?_ | refine JE.next ?_)
  refine JC.cond rfl (fun h => ?_) (fun h => ?_)
  · have hi' : i < k := of_decide_eq_true h
    clear h hi
    have c := product_any (sqB a i) (sqB a i)
    repeat (first | refine JL.q (by first | (apply OQ.load_agg (cs := (sqB a i).l.map U64); exact n5a; exact n5s; exact rfl; exact (.there .here); exact rfl; exact Row.all) | (apply OQ.callx; exact goes_product; exact rfl; exact (fun w' _ => c w'))) rfl ?_ | refine JC.seq ?_ | refine JC.region ?_ | refine JC.block ?_ | refine JC.skip ?_ | refine JE.next ?_)
    refine JL.store_all (cs := (sqB a (i + 1)).l.map U64) n5s rfl rfl rfl (W_cell _) (.there .here) rfl ?_
    repeat (first | refine JL.q (by first | (apply OQ.move; exact rfl) | (apply OQ.addN; exact rfl; exact rfl; exact (by (try simp only []); omega))) rfl ?_ | refine JC.region ?_ | refine JL.nil ?_ | refine JE.next ?_ | refine JE.blk_normal ?_)
    exact JE.again (i := i) (i + 1) (by omega) (by omega) (by repeat (first | exact SubE.nil | refine SubE.cons _ _ _ rfl ?_)) (Less.refl _)
  · have hi' : ¬ i < k := of_decide_eq_false h
    obtain rfl : i = k := by omega
    clear h hi hi'
    generalize sqB a i = X
    repeat (first | refine JL.q (by (apply OQ.load_agg (cs := X.l.map U64); exact n5a; exact n5s; exact rfl; exact (.there .here); exact rfl; exact Row.all)) rfl ?_ | refine JC.seq ?_ | refine JC.region ?_ | refine JC.exit ?_ | refine JE.next ?_ | refine JE.then_exit ?_ | refine JE.blk_hit ?_)
    refine JL.store_all (cs := X.l.map U64) n5s rfl rfl rfl (W_cell _) .here rfl ?_
    repeat (first | refine JL.nil ?_ | refine JE.next ?_)
    refine JC.ret (JE.ret1 rfl (RV.cell_agg n5a n5s rfl .here rfl Row.all) ?_)
    exact fun w' hw => ⟨rfl, hw.chg⟩
end Go.Proofs.YtbihfhkbkcplmaaDoor

/-
  Of no statement by itself: what the code's inverse gives.
  Conditions: each theorem's own.
-/
namespace Go.Proofs.YtbihfhkbkcplmaaDoor
set_option maxRecDepth 10000
open Sl Crv
set_option maxHeartbeats 64000000 in
set_option maxRecDepth 4000 in
theorem inverse_any (n : N5) (w : World) : Calls Tryd.prog 34 [.agg (n.l.map U64).toArray].toArray w fun e w' => e = .returned (.agg ((invB n).l.map U64).toArray) ∧ Ext w w' := by
  have c_two := squared_any n 1 (by decide)
  generalize h_two : sqB n 1 = two at c_two
  have c_q2 := squared_any two 2 (by decide)
  generalize h_q2 : sqB two 2 = q2 at c_q2
  have c_nine := product_any q2 n
  generalize h_nine : prdB q2 n = nine at c_nine
  have c_elv := product_any nine two
  generalize h_elv : prdB nine two = elv at c_elv
  have c_q4 := squared_any elv 1 (by decide)
  generalize h_q4 : sqB elv 1 = q4 at c_q4
  have c_o5 := product_any q4 nine
  generalize h_o5 : prdB q4 nine = o5 at c_o5
  have c_q5 := squared_any o5 5 (by decide)
  generalize h_q5 : sqB o5 5 = q5 at c_q5
  have c_o10 := product_any q5 o5
  generalize h_o10 : prdB q5 o5 = o10 at c_o10
  have c_q6 := squared_any o10 10 (by decide)
  generalize h_q6 : sqB o10 10 = q6 at c_q6
  have c_o20 := product_any q6 o10
  generalize h_o20 : prdB q6 o10 = o20 at c_o20
  have c_q7 := squared_any o20 20 (by decide)
  generalize h_q7 : sqB o20 20 = q7 at c_q7
  have c_o40 := product_any q7 o20
  generalize h_o40 : prdB q7 o20 = o40 at c_o40
  have c_q8 := squared_any o40 10 (by decide)
  generalize h_q8 : sqB o40 10 = q8 at c_q8
  have c_o50 := product_any q8 o10
  generalize h_o50 : prdB q8 o10 = o50 at c_o50
  have c_q9 := squared_any o50 50 (by decide)
  generalize h_q9 : sqB o50 50 = q9 at c_q9
  have c_o100 := product_any q9 o50
  generalize h_o100 : prdB q9 o50 = o100 at c_o100
  have c_q10 := squared_any o100 100 (by decide)
  generalize h_q10 : sqB o100 100 = q10 at c_q10
  have c_o200 := product_any q10 o100
  generalize h_o200 : prdB q10 o100 = o200 at c_o200
  have c_q11 := squared_any o200 50 (by decide)
  generalize h_q11 : sqB o200 50 = q11 at c_q11
  have c_o250 := product_any q11 o50
  generalize h_o250 : prdB q11 o50 = o250 at c_o250
  have c_q12 := squared_any o250 5 (by decide)
  generalize h_q12 : sqB o250 5 = q12 at c_q12
  have c_fin := product_any q12 elv
  generalize h_fin : prdB q12 elv = fin at c_fin
  have eI : invB n = fin := by
    subst h_fin h_q12 h_o250 h_q11 h_o200 h_q10 h_o100 h_q9 h_o50 h_q8 h_o40 h_q7 h_o20 h_q6 h_o10 h_q5 h_o5 h_q4 h_elv h_nine h_q2 h_two
    rfl
  rw [eI]
  clear eI h_two h_q2 h_nine h_elv h_q4 h_o5 h_q5 h_o10 h_q6 h_o20 h_q7 h_o40 h_q8 h_o50 h_q9 h_o100 h_q10 h_o200 h_q11 h_o250 h_q12 h_fin
  refine enter (n := 59) Tryd.func34 rfl rfl rfl (Holds.start w []) ?_
  repeat (first | refine JC.seq ?_ | refine JC.region ?_)
  refine JL.box (r := n.l.map U64) rfl rfl rfl fun b1 _ => ?_
  refine JL.alloc n5z rfl fun b2 _ => ?_
  repeat (first | refine JL.q (by first | (apply OQ.load_agg (cs := n.l.map U64); exact n5a; exact n5s; exact rfl; exact (by repeat (first | exact Has.here | apply Has.there)); exact rfl; exact Row.all) | (apply OQ.callx (vs := [.agg (n.l.map U64).toArray, N 1]); exact goes_squared; exact rfl; exact (fun w' _ => c_two w'))) rfl ?_ | refine JC.seq ?_ | refine JC.region ?_ | refine JL.nil ?_ | refine JE.next ?_)
  refine JL.alloc n5z rfl fun b3 _ => ?_
  refine JL.store_all (cs := two.l.map U64) n5s rfl rfl rfl (W_cell _) .here rfl ?_
  repeat (first | refine JC.seq ?_ | refine JL.nil ?_ | refine JE.next ?_)
  let vs : Nat → Nat → Value := fun j x => match j with
    | 0 => .agg (two.l.map U64).toArray
    | 1 => .agg (q2.l.map U64).toArray
    | 2 => .agg (n.l.map U64).toArray
    | 3 => .agg (nine.l.map U64).toArray
    | _ => Pt x 0
  let Ms : Nat → Nat → List Ent := fun j x => match j with
    | 4 => [⟨x, Row 59 (zeroN.l.map U64), true⟩]
    | 5 => [⟨x, Row 59 (nine.l.map U64), true⟩]
    | 6 => [⟨b3, Row 59 (two.l.map U64), true⟩]
    | 7 => [⟨b2, Row 59 (zeroN.l.map U64), true⟩]
    | 8 => [⟨b1, Row 59 (n.l.map U64), true⟩]
    | _ => []
  refine JC.grow (g := ⟨[(1, Pt b1 0), (2, Pt b2 0), (3, Pt b3 0)], 9, vs, Ms, (fun j => match j with | 1 => [(0, 16)] | 3 => [(1, 17), (2, 18)] | 5 => [(4, 4), (3, 19)] | _ => []), (fun j => match j with | 0 => [6] | 2 => [8] | 5 => [4] | _ => []), (fun j => match j with | 5 => [4] | _ => []), (fun j => match j with | 5 => some 4 | _ => none)⟩) [(4, 4)] [5, 6, 7, 8] mixC (by repeat (first | exact SubE.nil | refine SubE.cons _ _ _ rfl ?_)) (Less.refl _) (by kernel_rfl) (by kernel_rfl) (by kernel_rfl) ?_ ?_
  · refine ⟨?_, ?_, ?_, ?_, ?_, ?_, trivial⟩
    · (intro x EF MF Q kk; exact JL.q (OQ.load_agg (cs := two.l.map U64) n5a n5s rfl .here rfl Row.all) rfl (JL.nil (kk default nofun)))
    · (intro x EF MF Q kk; exact JL.q (OQ.callx (vs := [.agg (two.l.map U64).toArray, N 2]) goes_squared rfl fun w' _ => c_q2 w') rfl (JL.nil (kk default nofun)))
    · (intro x EF MF Q kk; exact JL.q (OQ.load_agg (cs := n.l.map U64) n5a n5s rfl .here rfl Row.all) rfl (JL.nil (kk default nofun)))
    · (intro x EF MF Q kk; exact JL.q (OQ.callx (vs := [.agg (q2.l.map U64).toArray, .agg (n.l.map U64).toArray]) goes_product rfl fun w' _ => c_nine w') rfl (JL.nil (kk default nofun)))
    · (intro x EF MF Q kk; exact JL.alloc n5z rfl fun b _ => JL.nil (kk b nofun))
    · (intro x EF MF Q kk; exact JL.store_all (cs := nine.l.map U64) n5s rfl rfl rfl (W_cell _) .here rfl (JL.nil (kk (x 4) (fun k h => by cases h; rfl))))
  · intro x hx
    have h5 := hx 5 4 (by decide) rfl
    show JE _ _ _ _ _ [(4, Pt (x 4) 0), (1, Pt b1 0), (2, Pt b2 0), (3, Pt b3 0)] [⟨(x 5), Row 59 (nine.l.map U64), true⟩, ⟨b3, Row 59 (two.l.map U64), true⟩, ⟨b2, Row 59 (zeroN.l.map U64), true⟩, ⟨b1, Row 59 (n.l.map U64), true⟩]
    rw [h5]
    generalize x 4 = b4
    clear hx h5 x vs Ms
    repeat (first | refine JC.seq ?_ | refine JC.region ?_ | refine JE.next ?_)
    repeat (refine JL.q (by first | (apply OQ.load_agg (cs := nine.l.map U64); exact n5a; exact n5s; exact rfl; exact (by repeat (first | exact Has.here | apply Has.there)); exact rfl; exact Row.all) | (apply OQ.load_agg (cs := two.l.map U64); exact n5a; exact n5s; exact rfl; exact (by repeat (first | exact Has.here | apply Has.there)); exact rfl; exact Row.all) | (apply OQ.callx (vs := [.agg (nine.l.map U64).toArray, .agg (two.l.map U64).toArray]); exact goes_product; exact rfl; exact (fun w' _ => c_elv w'))) rfl ?_)
    refine JL.alloc n5z rfl fun b5 _ => ?_
    refine JL.store_all (cs := elv.l.map U64) n5s rfl rfl rfl (W_cell _) .here rfl ?_
    repeat (first | refine JC.seq ?_ | refine JL.nil ?_ | refine JE.next ?_)
    let vs : Nat → Nat → Value := fun j x => match j with
      | 0 => .agg (elv.l.map U64).toArray
      | 1 => .agg (q4.l.map U64).toArray
      | 2 => .agg (nine.l.map U64).toArray
      | 3 => .agg (o5.l.map U64).toArray
      | _ => Pt x 0
    let Ms : Nat → Nat → List Ent := fun j x => match j with
      | 4 => [⟨x, Row 59 (zeroN.l.map U64), true⟩]
      | 5 => [⟨x, Row 59 (o5.l.map U64), true⟩]
      | 6 => [⟨b5, Row 59 (elv.l.map U64), true⟩]
      | 7 => [⟨b4, Row 59 (nine.l.map U64), true⟩]
      | 8 => [⟨b3, Row 59 (two.l.map U64), true⟩]
      | 9 => [⟨b2, Row 59 (zeroN.l.map U64), true⟩]
      | 10 => [⟨b1, Row 59 (n.l.map U64), true⟩]
      | _ => []
    refine JC.grow (g := ⟨[(5, Pt b5 0), (4, Pt b4 0), (1, Pt b1 0), (2, Pt b2 0), (3, Pt b3 0)], 11, vs, Ms, (fun j => match j with | 1 => [(0, 23)] | 3 => [(1, 24), (2, 25)] | 5 => [(4, 6), (3, 26)] | _ => []), (fun j => match j with | 0 => [6] | 2 => [7] | 5 => [4] | _ => []), (fun j => match j with | 5 => [4] | _ => []), (fun j => match j with | 5 => some 4 | _ => none)⟩) [(4, 6)] [5, 6, 7, 8, 9, 10] mixC (by repeat (first | exact SubE.nil | refine SubE.cons _ _ _ rfl ?_)) (Less.refl _) (by kernel_rfl) (by kernel_rfl) (by kernel_rfl) ?_ ?_
    · refine ⟨?_, ?_, ?_, ?_, ?_, ?_, trivial⟩
      · (intro x EF MF Q kk; exact JL.q (OQ.load_agg (cs := elv.l.map U64) n5a n5s rfl .here rfl Row.all) rfl (JL.nil (kk default nofun)))
      · (intro x EF MF Q kk; exact JL.q (OQ.callx (vs := [.agg (elv.l.map U64).toArray, N 1]) goes_squared rfl fun w' _ => c_q4 w') rfl (JL.nil (kk default nofun)))
      · (intro x EF MF Q kk; exact JL.q (OQ.load_agg (cs := nine.l.map U64) n5a n5s rfl .here rfl Row.all) rfl (JL.nil (kk default nofun)))
      · (intro x EF MF Q kk; exact JL.q (OQ.callx (vs := [.agg (q4.l.map U64).toArray, .agg (nine.l.map U64).toArray]) goes_product rfl fun w' _ => c_o5 w') rfl (JL.nil (kk default nofun)))
      · (intro x EF MF Q kk; exact JL.alloc n5z rfl fun b _ => JL.nil (kk b nofun))
      · (intro x EF MF Q kk; exact JL.store_all (cs := o5.l.map U64) n5s rfl rfl rfl (W_cell _) .here rfl (JL.nil (kk (x 4) (fun k h => by cases h; rfl))))
    · intro x hx
      have h5 := hx 5 4 (by decide) rfl
      show JE _ _ _ _ _ [(6, Pt (x 4) 0), (5, Pt b5 0), (4, Pt b4 0), (1, Pt b1 0), (2, Pt b2 0), (3, Pt b3 0)] [⟨(x 5), Row 59 (o5.l.map U64), true⟩, ⟨b5, Row 59 (elv.l.map U64), true⟩, ⟨b4, Row 59 (nine.l.map U64), true⟩, ⟨b3, Row 59 (two.l.map U64), true⟩, ⟨b2, Row 59 (zeroN.l.map U64), true⟩, ⟨b1, Row 59 (n.l.map U64), true⟩]
      rw [h5]
      generalize x 4 = b6
      clear hx h5 x vs Ms
      repeat (first | refine JC.seq ?_ | refine JE.next ?_)
      let vs : Nat → Nat → Value := fun j x => match j with
        | 0 => .agg (o5.l.map U64).toArray
        | 1 => .agg (q5.l.map U64).toArray
        | 2 => .agg (o5.l.map U64).toArray
        | 3 => .agg (o10.l.map U64).toArray
        | _ => Pt x 0
      let Ms : Nat → Nat → List Ent := fun j x => match j with
        | 4 => [⟨x, Row 59 (zeroN.l.map U64), true⟩]
        | 5 => [⟨x, Row 59 (o10.l.map U64), true⟩]
        | 6 => [⟨b6, Row 59 (o5.l.map U64), true⟩]
        | 7 => [⟨b5, Row 59 (elv.l.map U64), true⟩]
        | 8 => [⟨b4, Row 59 (nine.l.map U64), true⟩]
        | 9 => [⟨b3, Row 59 (two.l.map U64), true⟩]
        | 10 => [⟨b2, Row 59 (zeroN.l.map U64), true⟩]
        | 11 => [⟨b1, Row 59 (n.l.map U64), true⟩]
        | _ => []
      refine JC.grow (g := ⟨[(6, Pt b6 0), (5, Pt b5 0), (4, Pt b4 0), (1, Pt b1 0), (2, Pt b2 0), (3, Pt b3 0)], 12, vs, Ms, (fun j => match j with | 1 => [(0, 27)] | 3 => [(1, 28), (2, 29)] | 5 => [(4, 7), (3, 30)] | _ => []), (fun j => match j with | 0 => [6] | 2 => [6] | 5 => [4] | _ => []), (fun j => match j with | 5 => [4] | _ => []), (fun j => match j with | 5 => some 4 | _ => none)⟩) [(4, 7)] [5, 6, 7, 8, 9, 10, 11] mixC (by repeat (first | exact SubE.nil | refine SubE.cons _ _ _ rfl ?_)) (Less.refl _) (by kernel_rfl) (by kernel_rfl) (by kernel_rfl) ?_ ?_
      · refine ⟨?_, ?_, ?_, ?_, ?_, ?_, trivial⟩
        · (intro x EF MF Q kk; exact JL.q (OQ.load_agg (cs := o5.l.map U64) n5a n5s rfl .here rfl Row.all) rfl (JL.nil (kk default nofun)))
        · (intro x EF MF Q kk; exact JL.q (OQ.callx (vs := [.agg (o5.l.map U64).toArray, N 5]) goes_squared rfl fun w' _ => c_q5 w') rfl (JL.nil (kk default nofun)))
        · (intro x EF MF Q kk; exact JL.q (OQ.load_agg (cs := o5.l.map U64) n5a n5s rfl .here rfl Row.all) rfl (JL.nil (kk default nofun)))
        · (intro x EF MF Q kk; exact JL.q (OQ.callx (vs := [.agg (q5.l.map U64).toArray, .agg (o5.l.map U64).toArray]) goes_product rfl fun w' _ => c_o10 w') rfl (JL.nil (kk default nofun)))
        · (intro x EF MF Q kk; exact JL.alloc n5z rfl fun b _ => JL.nil (kk b nofun))
        · (intro x EF MF Q kk; exact JL.store_all (cs := o10.l.map U64) n5s rfl rfl rfl (W_cell _) .here rfl (JL.nil (kk (x 4) (fun k h => by cases h; rfl))))
      · intro x hx
        have h5 := hx 5 4 (by decide) rfl
        show JE _ _ _ _ _ [(7, Pt (x 4) 0), (6, Pt b6 0), (5, Pt b5 0), (4, Pt b4 0), (1, Pt b1 0), (2, Pt b2 0), (3, Pt b3 0)] [⟨(x 5), Row 59 (o10.l.map U64), true⟩, ⟨b6, Row 59 (o5.l.map U64), true⟩, ⟨b5, Row 59 (elv.l.map U64), true⟩, ⟨b4, Row 59 (nine.l.map U64), true⟩, ⟨b3, Row 59 (two.l.map U64), true⟩, ⟨b2, Row 59 (zeroN.l.map U64), true⟩, ⟨b1, Row 59 (n.l.map U64), true⟩]
        rw [h5]
        generalize x 4 = b7
        clear hx h5 x vs Ms
        repeat (first | refine JC.seq ?_ | refine JE.next ?_)
        let vs : Nat → Nat → Value := fun j x => match j with
          | 0 => .agg (o10.l.map U64).toArray
          | 1 => .agg (q6.l.map U64).toArray
          | 2 => .agg (o10.l.map U64).toArray
          | 3 => .agg (o20.l.map U64).toArray
          | _ => Pt x 0
        let Ms : Nat → Nat → List Ent := fun j x => match j with
          | 4 => [⟨x, Row 59 (zeroN.l.map U64), true⟩]
          | 5 => [⟨x, Row 59 (o20.l.map U64), true⟩]
          | 6 => [⟨b7, Row 59 (o10.l.map U64), true⟩]
          | 7 => [⟨b6, Row 59 (o5.l.map U64), true⟩]
          | 8 => [⟨b5, Row 59 (elv.l.map U64), true⟩]
          | 9 => [⟨b4, Row 59 (nine.l.map U64), true⟩]
          | 10 => [⟨b3, Row 59 (two.l.map U64), true⟩]
          | 11 => [⟨b2, Row 59 (zeroN.l.map U64), true⟩]
          | 12 => [⟨b1, Row 59 (n.l.map U64), true⟩]
          | _ => []
        refine JC.grow (g := ⟨[(7, Pt b7 0), (6, Pt b6 0), (5, Pt b5 0), (4, Pt b4 0), (1, Pt b1 0), (2, Pt b2 0), (3, Pt b3 0)], 13, vs, Ms, (fun j => match j with | 1 => [(0, 31)] | 3 => [(1, 32), (2, 33)] | 5 => [(4, 8), (3, 34)] | _ => []), (fun j => match j with | 0 => [6] | 2 => [6] | 5 => [4] | _ => []), (fun j => match j with | 5 => [4] | _ => []), (fun j => match j with | 5 => some 4 | _ => none)⟩) [(4, 8)] [5, 6, 7, 8, 9, 10, 11, 12] mixC (by repeat (first | exact SubE.nil | refine SubE.cons _ _ _ rfl ?_)) (Less.refl _) (by kernel_rfl) (by kernel_rfl) (by kernel_rfl) ?_ ?_
        · refine ⟨?_, ?_, ?_, ?_, ?_, ?_, trivial⟩
          · (intro x EF MF Q kk; exact JL.q (OQ.load_agg (cs := o10.l.map U64) n5a n5s rfl .here rfl Row.all) rfl (JL.nil (kk default nofun)))
          · (intro x EF MF Q kk; exact JL.q (OQ.callx (vs := [.agg (o10.l.map U64).toArray, N 10]) goes_squared rfl fun w' _ => c_q6 w') rfl (JL.nil (kk default nofun)))
          · (intro x EF MF Q kk; exact JL.q (OQ.load_agg (cs := o10.l.map U64) n5a n5s rfl .here rfl Row.all) rfl (JL.nil (kk default nofun)))
          · (intro x EF MF Q kk; exact JL.q (OQ.callx (vs := [.agg (q6.l.map U64).toArray, .agg (o10.l.map U64).toArray]) goes_product rfl fun w' _ => c_o20 w') rfl (JL.nil (kk default nofun)))
          · (intro x EF MF Q kk; exact JL.alloc n5z rfl fun b _ => JL.nil (kk b nofun))
          · (intro x EF MF Q kk; exact JL.store_all (cs := o20.l.map U64) n5s rfl rfl rfl (W_cell _) .here rfl (JL.nil (kk (x 4) (fun k h => by cases h; rfl))))
        · intro x hx
          have h5 := hx 5 4 (by decide) rfl
          show JE _ _ _ _ _ [(8, Pt (x 4) 0), (7, Pt b7 0), (6, Pt b6 0), (5, Pt b5 0), (4, Pt b4 0), (1, Pt b1 0), (2, Pt b2 0), (3, Pt b3 0)] [⟨(x 5), Row 59 (o20.l.map U64), true⟩, ⟨b7, Row 59 (o10.l.map U64), true⟩, ⟨b6, Row 59 (o5.l.map U64), true⟩, ⟨b5, Row 59 (elv.l.map U64), true⟩, ⟨b4, Row 59 (nine.l.map U64), true⟩, ⟨b3, Row 59 (two.l.map U64), true⟩, ⟨b2, Row 59 (zeroN.l.map U64), true⟩, ⟨b1, Row 59 (n.l.map U64), true⟩]
          rw [h5]
          generalize x 4 = b8
          clear hx h5 x vs Ms
          repeat (first | refine JC.seq ?_ | refine JE.next ?_)
          let vs : Nat → Nat → Value := fun j x => match j with
            | 0 => .agg (o20.l.map U64).toArray
            | 1 => .agg (q7.l.map U64).toArray
            | 2 => .agg (o20.l.map U64).toArray
            | 3 => .agg (o40.l.map U64).toArray
            | _ => Pt x 0
          let Ms : Nat → Nat → List Ent := fun j x => match j with
            | 4 => [⟨x, Row 59 (zeroN.l.map U64), true⟩]
            | 5 => [⟨x, Row 59 (o40.l.map U64), true⟩]
            | 6 => [⟨b8, Row 59 (o20.l.map U64), true⟩]
            | 7 => [⟨b7, Row 59 (o10.l.map U64), true⟩]
            | 8 => [⟨b6, Row 59 (o5.l.map U64), true⟩]
            | 9 => [⟨b5, Row 59 (elv.l.map U64), true⟩]
            | 10 => [⟨b4, Row 59 (nine.l.map U64), true⟩]
            | 11 => [⟨b3, Row 59 (two.l.map U64), true⟩]
            | 12 => [⟨b2, Row 59 (zeroN.l.map U64), true⟩]
            | 13 => [⟨b1, Row 59 (n.l.map U64), true⟩]
            | _ => []
          refine JC.grow (g := ⟨[(8, Pt b8 0), (7, Pt b7 0), (6, Pt b6 0), (5, Pt b5 0), (4, Pt b4 0), (1, Pt b1 0), (2, Pt b2 0), (3, Pt b3 0)], 14, vs, Ms, (fun j => match j with | 1 => [(0, 35)] | 3 => [(1, 36), (2, 37)] | 5 => [(4, 9), (3, 38)] | _ => []), (fun j => match j with | 0 => [6] | 2 => [6] | 5 => [4] | _ => []), (fun j => match j with | 5 => [4] | _ => []), (fun j => match j with | 5 => some 4 | _ => none)⟩) [(4, 9)] [5, 6, 7, 8, 9, 10, 11, 12, 13] mixC (by repeat (first | exact SubE.nil | refine SubE.cons _ _ _ rfl ?_)) (Less.refl _) (by kernel_rfl) (by kernel_rfl) (by kernel_rfl) ?_ ?_
          · refine ⟨?_, ?_, ?_, ?_, ?_, ?_, trivial⟩
            · (intro x EF MF Q kk; exact JL.q (OQ.load_agg (cs := o20.l.map U64) n5a n5s rfl .here rfl Row.all) rfl (JL.nil (kk default nofun)))
            · (intro x EF MF Q kk; exact JL.q (OQ.callx (vs := [.agg (o20.l.map U64).toArray, N 20]) goes_squared rfl fun w' _ => c_q7 w') rfl (JL.nil (kk default nofun)))
            · (intro x EF MF Q kk; exact JL.q (OQ.load_agg (cs := o20.l.map U64) n5a n5s rfl .here rfl Row.all) rfl (JL.nil (kk default nofun)))
            · (intro x EF MF Q kk; exact JL.q (OQ.callx (vs := [.agg (q7.l.map U64).toArray, .agg (o20.l.map U64).toArray]) goes_product rfl fun w' _ => c_o40 w') rfl (JL.nil (kk default nofun)))
            · (intro x EF MF Q kk; exact JL.alloc n5z rfl fun b _ => JL.nil (kk b nofun))
            · (intro x EF MF Q kk; exact JL.store_all (cs := o40.l.map U64) n5s rfl rfl rfl (W_cell _) .here rfl (JL.nil (kk (x 4) (fun k h => by cases h; rfl))))
          · intro x hx
            have h5 := hx 5 4 (by decide) rfl
            show JE _ _ _ _ _ [(9, Pt (x 4) 0), (8, Pt b8 0), (7, Pt b7 0), (6, Pt b6 0), (5, Pt b5 0), (4, Pt b4 0), (1, Pt b1 0), (2, Pt b2 0), (3, Pt b3 0)] [⟨(x 5), Row 59 (o40.l.map U64), true⟩, ⟨b8, Row 59 (o20.l.map U64), true⟩, ⟨b7, Row 59 (o10.l.map U64), true⟩, ⟨b6, Row 59 (o5.l.map U64), true⟩, ⟨b5, Row 59 (elv.l.map U64), true⟩, ⟨b4, Row 59 (nine.l.map U64), true⟩, ⟨b3, Row 59 (two.l.map U64), true⟩, ⟨b2, Row 59 (zeroN.l.map U64), true⟩, ⟨b1, Row 59 (n.l.map U64), true⟩]
            rw [h5]
            generalize x 4 = b9
            clear hx h5 x vs Ms
            repeat (first | refine JC.seq ?_ | refine JE.next ?_)
            let vs : Nat → Nat → Value := fun j x => match j with
              | 0 => .agg (o40.l.map U64).toArray
              | 1 => .agg (q8.l.map U64).toArray
              | 2 => .agg (o10.l.map U64).toArray
              | 3 => .agg (o50.l.map U64).toArray
              | _ => Pt x 0
            let Ms : Nat → Nat → List Ent := fun j x => match j with
              | 4 => [⟨x, Row 59 (zeroN.l.map U64), true⟩]
              | 5 => [⟨x, Row 59 (o50.l.map U64), true⟩]
              | 6 => [⟨b9, Row 59 (o40.l.map U64), true⟩]
              | 7 => [⟨b8, Row 59 (o20.l.map U64), true⟩]
              | 8 => [⟨b7, Row 59 (o10.l.map U64), true⟩]
              | 9 => [⟨b6, Row 59 (o5.l.map U64), true⟩]
              | 10 => [⟨b5, Row 59 (elv.l.map U64), true⟩]
              | 11 => [⟨b4, Row 59 (nine.l.map U64), true⟩]
              | 12 => [⟨b3, Row 59 (two.l.map U64), true⟩]
              | 13 => [⟨b2, Row 59 (zeroN.l.map U64), true⟩]
              | 14 => [⟨b1, Row 59 (n.l.map U64), true⟩]
              | _ => []
            refine JC.grow (g := ⟨[(9, Pt b9 0), (8, Pt b8 0), (7, Pt b7 0), (6, Pt b6 0), (5, Pt b5 0), (4, Pt b4 0), (1, Pt b1 0), (2, Pt b2 0), (3, Pt b3 0)], 15, vs, Ms, (fun j => match j with | 1 => [(0, 39)] | 3 => [(1, 40), (2, 41)] | 5 => [(4, 10), (3, 42)] | _ => []), (fun j => match j with | 0 => [6] | 2 => [8] | 5 => [4] | _ => []), (fun j => match j with | 5 => [4] | _ => []), (fun j => match j with | 5 => some 4 | _ => none)⟩) [(4, 10)] [5, 6, 7, 8, 9, 10, 11, 12, 13, 14] mixC (by repeat (first | exact SubE.nil | refine SubE.cons _ _ _ rfl ?_)) (Less.refl _) (by kernel_rfl) (by kernel_rfl) (by kernel_rfl) ?_ ?_
            · refine ⟨?_, ?_, ?_, ?_, ?_, ?_, trivial⟩
              · (intro x EF MF Q kk; exact JL.q (OQ.load_agg (cs := o40.l.map U64) n5a n5s rfl .here rfl Row.all) rfl (JL.nil (kk default nofun)))
              · (intro x EF MF Q kk; exact JL.q (OQ.callx (vs := [.agg (o40.l.map U64).toArray, N 10]) goes_squared rfl fun w' _ => c_q8 w') rfl (JL.nil (kk default nofun)))
              · (intro x EF MF Q kk; exact JL.q (OQ.load_agg (cs := o10.l.map U64) n5a n5s rfl .here rfl Row.all) rfl (JL.nil (kk default nofun)))
              · (intro x EF MF Q kk; exact JL.q (OQ.callx (vs := [.agg (q8.l.map U64).toArray, .agg (o10.l.map U64).toArray]) goes_product rfl fun w' _ => c_o50 w') rfl (JL.nil (kk default nofun)))
              · (intro x EF MF Q kk; exact JL.alloc n5z rfl fun b _ => JL.nil (kk b nofun))
              · (intro x EF MF Q kk; exact JL.store_all (cs := o50.l.map U64) n5s rfl rfl rfl (W_cell _) .here rfl (JL.nil (kk (x 4) (fun k h => by cases h; rfl))))
            · intro x hx
              have h5 := hx 5 4 (by decide) rfl
              show JE _ _ _ _ _ [(10, Pt (x 4) 0), (9, Pt b9 0), (8, Pt b8 0), (7, Pt b7 0), (6, Pt b6 0), (5, Pt b5 0), (4, Pt b4 0), (1, Pt b1 0), (2, Pt b2 0), (3, Pt b3 0)] [⟨(x 5), Row 59 (o50.l.map U64), true⟩, ⟨b9, Row 59 (o40.l.map U64), true⟩, ⟨b8, Row 59 (o20.l.map U64), true⟩, ⟨b7, Row 59 (o10.l.map U64), true⟩, ⟨b6, Row 59 (o5.l.map U64), true⟩, ⟨b5, Row 59 (elv.l.map U64), true⟩, ⟨b4, Row 59 (nine.l.map U64), true⟩, ⟨b3, Row 59 (two.l.map U64), true⟩, ⟨b2, Row 59 (zeroN.l.map U64), true⟩, ⟨b1, Row 59 (n.l.map U64), true⟩]
              rw [h5]
              generalize x 4 = b10
              clear hx h5 x vs Ms
              repeat (first | refine JC.seq ?_ | refine JE.next ?_)
              let vs : Nat → Nat → Value := fun j x => match j with
                | 0 => .agg (o50.l.map U64).toArray
                | 1 => .agg (q9.l.map U64).toArray
                | 2 => .agg (o50.l.map U64).toArray
                | 3 => .agg (o100.l.map U64).toArray
                | _ => Pt x 0
              let Ms : Nat → Nat → List Ent := fun j x => match j with
                | 4 => [⟨x, Row 59 (zeroN.l.map U64), true⟩]
                | 5 => [⟨x, Row 59 (o100.l.map U64), true⟩]
                | 6 => [⟨b10, Row 59 (o50.l.map U64), true⟩]
                | 7 => [⟨b9, Row 59 (o40.l.map U64), true⟩]
                | 8 => [⟨b8, Row 59 (o20.l.map U64), true⟩]
                | 9 => [⟨b7, Row 59 (o10.l.map U64), true⟩]
                | 10 => [⟨b6, Row 59 (o5.l.map U64), true⟩]
                | 11 => [⟨b5, Row 59 (elv.l.map U64), true⟩]
                | 12 => [⟨b4, Row 59 (nine.l.map U64), true⟩]
                | 13 => [⟨b3, Row 59 (two.l.map U64), true⟩]
                | 14 => [⟨b2, Row 59 (zeroN.l.map U64), true⟩]
                | 15 => [⟨b1, Row 59 (n.l.map U64), true⟩]
                | _ => []
              refine JC.grow (g := ⟨[(10, Pt b10 0), (9, Pt b9 0), (8, Pt b8 0), (7, Pt b7 0), (6, Pt b6 0), (5, Pt b5 0), (4, Pt b4 0), (1, Pt b1 0), (2, Pt b2 0), (3, Pt b3 0)], 16, vs, Ms, (fun j => match j with | 1 => [(0, 43)] | 3 => [(1, 44), (2, 45)] | 5 => [(4, 11), (3, 46)] | _ => []), (fun j => match j with | 0 => [6] | 2 => [6] | 5 => [4] | _ => []), (fun j => match j with | 5 => [4] | _ => []), (fun j => match j with | 5 => some 4 | _ => none)⟩) [(4, 11)] [5, 6, 7, 8, 9, 10, 11, 12, 13, 14, 15] mixC (by repeat (first | exact SubE.nil | refine SubE.cons _ _ _ rfl ?_)) (Less.refl _) (by kernel_rfl) (by kernel_rfl) (by kernel_rfl) ?_ ?_
              · refine ⟨?_, ?_, ?_, ?_, ?_, ?_, trivial⟩
                · (intro x EF MF Q kk; exact JL.q (OQ.load_agg (cs := o50.l.map U64) n5a n5s rfl .here rfl Row.all) rfl (JL.nil (kk default nofun)))
                · (intro x EF MF Q kk; exact JL.q (OQ.callx (vs := [.agg (o50.l.map U64).toArray, N 50]) goes_squared rfl fun w' _ => c_q9 w') rfl (JL.nil (kk default nofun)))
                · (intro x EF MF Q kk; exact JL.q (OQ.load_agg (cs := o50.l.map U64) n5a n5s rfl .here rfl Row.all) rfl (JL.nil (kk default nofun)))
                · (intro x EF MF Q kk; exact JL.q (OQ.callx (vs := [.agg (q9.l.map U64).toArray, .agg (o50.l.map U64).toArray]) goes_product rfl fun w' _ => c_o100 w') rfl (JL.nil (kk default nofun)))
                · (intro x EF MF Q kk; exact JL.alloc n5z rfl fun b _ => JL.nil (kk b nofun))
                · (intro x EF MF Q kk; exact JL.store_all (cs := o100.l.map U64) n5s rfl rfl rfl (W_cell _) .here rfl (JL.nil (kk (x 4) (fun k h => by cases h; rfl))))
              · intro x hx
                have h5 := hx 5 4 (by decide) rfl
                show JE _ _ _ _ _ [(11, Pt (x 4) 0), (10, Pt b10 0), (9, Pt b9 0), (8, Pt b8 0), (7, Pt b7 0), (6, Pt b6 0), (5, Pt b5 0), (4, Pt b4 0), (1, Pt b1 0), (2, Pt b2 0), (3, Pt b3 0)] [⟨(x 5), Row 59 (o100.l.map U64), true⟩, ⟨b10, Row 59 (o50.l.map U64), true⟩, ⟨b9, Row 59 (o40.l.map U64), true⟩, ⟨b8, Row 59 (o20.l.map U64), true⟩, ⟨b7, Row 59 (o10.l.map U64), true⟩, ⟨b6, Row 59 (o5.l.map U64), true⟩, ⟨b5, Row 59 (elv.l.map U64), true⟩, ⟨b4, Row 59 (nine.l.map U64), true⟩, ⟨b3, Row 59 (two.l.map U64), true⟩, ⟨b2, Row 59 (zeroN.l.map U64), true⟩, ⟨b1, Row 59 (n.l.map U64), true⟩]
                rw [h5]
                generalize x 4 = b11
                clear hx h5 x vs Ms
                repeat (first | refine JC.seq ?_ | refine JE.next ?_)
                let vs : Nat → Nat → Value := fun j x => match j with
                  | 0 => .agg (o100.l.map U64).toArray
                  | 1 => .agg (q10.l.map U64).toArray
                  | 2 => .agg (o100.l.map U64).toArray
                  | 3 => .agg (o200.l.map U64).toArray
                  | _ => Pt x 0
                let Ms : Nat → Nat → List Ent := fun j x => match j with
                  | 4 => [⟨x, Row 59 (zeroN.l.map U64), true⟩]
                  | 5 => [⟨x, Row 59 (o200.l.map U64), true⟩]
                  | 6 => [⟨b11, Row 59 (o100.l.map U64), true⟩]
                  | 7 => [⟨b10, Row 59 (o50.l.map U64), true⟩]
                  | 8 => [⟨b9, Row 59 (o40.l.map U64), true⟩]
                  | 9 => [⟨b8, Row 59 (o20.l.map U64), true⟩]
                  | 10 => [⟨b7, Row 59 (o10.l.map U64), true⟩]
                  | 11 => [⟨b6, Row 59 (o5.l.map U64), true⟩]
                  | 12 => [⟨b5, Row 59 (elv.l.map U64), true⟩]
                  | 13 => [⟨b4, Row 59 (nine.l.map U64), true⟩]
                  | 14 => [⟨b3, Row 59 (two.l.map U64), true⟩]
                  | 15 => [⟨b2, Row 59 (zeroN.l.map U64), true⟩]
                  | 16 => [⟨b1, Row 59 (n.l.map U64), true⟩]
                  | _ => []
                refine JC.grow (g := ⟨[(11, Pt b11 0), (10, Pt b10 0), (9, Pt b9 0), (8, Pt b8 0), (7, Pt b7 0), (6, Pt b6 0), (5, Pt b5 0), (4, Pt b4 0), (1, Pt b1 0), (2, Pt b2 0), (3, Pt b3 0)], 17, vs, Ms, (fun j => match j with | 1 => [(0, 47)] | 3 => [(1, 48), (2, 49)] | 5 => [(4, 12), (3, 50)] | _ => []), (fun j => match j with | 0 => [6] | 2 => [6] | 5 => [4] | _ => []), (fun j => match j with | 5 => [4] | _ => []), (fun j => match j with | 5 => some 4 | _ => none)⟩) [(4, 12)] [5, 6, 7, 8, 9, 10, 11, 12, 13, 14, 15, 16] mixC (by repeat (first | exact SubE.nil | refine SubE.cons _ _ _ rfl ?_)) (Less.refl _) (by kernel_rfl) (by kernel_rfl) (by kernel_rfl) ?_ ?_
                · refine ⟨?_, ?_, ?_, ?_, ?_, ?_, trivial⟩
                  · (intro x EF MF Q kk; exact JL.q (OQ.load_agg (cs := o100.l.map U64) n5a n5s rfl .here rfl Row.all) rfl (JL.nil (kk default nofun)))
                  · (intro x EF MF Q kk; exact JL.q (OQ.callx (vs := [.agg (o100.l.map U64).toArray, N 100]) goes_squared rfl fun w' _ => c_q10 w') rfl (JL.nil (kk default nofun)))
                  · (intro x EF MF Q kk; exact JL.q (OQ.load_agg (cs := o100.l.map U64) n5a n5s rfl .here rfl Row.all) rfl (JL.nil (kk default nofun)))
                  · (intro x EF MF Q kk; exact JL.q (OQ.callx (vs := [.agg (q10.l.map U64).toArray, .agg (o100.l.map U64).toArray]) goes_product rfl fun w' _ => c_o200 w') rfl (JL.nil (kk default nofun)))
                  · (intro x EF MF Q kk; exact JL.alloc n5z rfl fun b _ => JL.nil (kk b nofun))
                  · (intro x EF MF Q kk; exact JL.store_all (cs := o200.l.map U64) n5s rfl rfl rfl (W_cell _) .here rfl (JL.nil (kk (x 4) (fun k h => by cases h; rfl))))
                · intro x hx
                  have h5 := hx 5 4 (by decide) rfl
                  show JE _ _ _ _ _ [(12, Pt (x 4) 0), (11, Pt b11 0), (10, Pt b10 0), (9, Pt b9 0), (8, Pt b8 0), (7, Pt b7 0), (6, Pt b6 0), (5, Pt b5 0), (4, Pt b4 0), (1, Pt b1 0), (2, Pt b2 0), (3, Pt b3 0)] [⟨(x 5), Row 59 (o200.l.map U64), true⟩, ⟨b11, Row 59 (o100.l.map U64), true⟩, ⟨b10, Row 59 (o50.l.map U64), true⟩, ⟨b9, Row 59 (o40.l.map U64), true⟩, ⟨b8, Row 59 (o20.l.map U64), true⟩, ⟨b7, Row 59 (o10.l.map U64), true⟩, ⟨b6, Row 59 (o5.l.map U64), true⟩, ⟨b5, Row 59 (elv.l.map U64), true⟩, ⟨b4, Row 59 (nine.l.map U64), true⟩, ⟨b3, Row 59 (two.l.map U64), true⟩, ⟨b2, Row 59 (zeroN.l.map U64), true⟩, ⟨b1, Row 59 (n.l.map U64), true⟩]
                  rw [h5]
                  generalize x 4 = b12
                  clear hx h5 x vs Ms
                  repeat (first | refine JC.seq ?_ | refine JE.next ?_)
                  let vs : Nat → Nat → Value := fun j x => match j with
                    | 0 => .agg (o200.l.map U64).toArray
                    | 1 => .agg (q11.l.map U64).toArray
                    | 2 => .agg (o50.l.map U64).toArray
                    | 3 => .agg (o250.l.map U64).toArray
                    | _ => Pt x 0
                  let Ms : Nat → Nat → List Ent := fun j x => match j with
                    | 4 => [⟨x, Row 59 (zeroN.l.map U64), true⟩]
                    | 5 => [⟨x, Row 59 (o250.l.map U64), true⟩]
                    | 6 => [⟨b12, Row 59 (o200.l.map U64), true⟩]
                    | 7 => [⟨b11, Row 59 (o100.l.map U64), true⟩]
                    | 8 => [⟨b10, Row 59 (o50.l.map U64), true⟩]
                    | 9 => [⟨b9, Row 59 (o40.l.map U64), true⟩]
                    | 10 => [⟨b8, Row 59 (o20.l.map U64), true⟩]
                    | 11 => [⟨b7, Row 59 (o10.l.map U64), true⟩]
                    | 12 => [⟨b6, Row 59 (o5.l.map U64), true⟩]
                    | 13 => [⟨b5, Row 59 (elv.l.map U64), true⟩]
                    | 14 => [⟨b4, Row 59 (nine.l.map U64), true⟩]
                    | 15 => [⟨b3, Row 59 (two.l.map U64), true⟩]
                    | 16 => [⟨b2, Row 59 (zeroN.l.map U64), true⟩]
                    | 17 => [⟨b1, Row 59 (n.l.map U64), true⟩]
                    | _ => []
                  refine JC.grow (g := ⟨[(12, Pt b12 0), (11, Pt b11 0), (10, Pt b10 0), (9, Pt b9 0), (8, Pt b8 0), (7, Pt b7 0), (6, Pt b6 0), (5, Pt b5 0), (4, Pt b4 0), (1, Pt b1 0), (2, Pt b2 0), (3, Pt b3 0)], 18, vs, Ms, (fun j => match j with | 1 => [(0, 51)] | 3 => [(1, 52), (2, 53)] | 5 => [(4, 13), (3, 54)] | _ => []), (fun j => match j with | 0 => [6] | 2 => [8] | 5 => [4] | _ => []), (fun j => match j with | 5 => [4] | _ => []), (fun j => match j with | 5 => some 4 | _ => none)⟩) [(4, 13)] [5, 6, 7, 8, 9, 10, 11, 12, 13, 14, 15, 16, 17] mixC (by repeat (first | exact SubE.nil | refine SubE.cons _ _ _ rfl ?_)) (Less.refl _) (by kernel_rfl) (by kernel_rfl) (by kernel_rfl) ?_ ?_
                  · refine ⟨?_, ?_, ?_, ?_, ?_, ?_, trivial⟩
                    · (intro x EF MF Q kk; exact JL.q (OQ.load_agg (cs := o200.l.map U64) n5a n5s rfl .here rfl Row.all) rfl (JL.nil (kk default nofun)))
                    · (intro x EF MF Q kk; exact JL.q (OQ.callx (vs := [.agg (o200.l.map U64).toArray, N 50]) goes_squared rfl fun w' _ => c_q11 w') rfl (JL.nil (kk default nofun)))
                    · (intro x EF MF Q kk; exact JL.q (OQ.load_agg (cs := o50.l.map U64) n5a n5s rfl .here rfl Row.all) rfl (JL.nil (kk default nofun)))
                    · (intro x EF MF Q kk; exact JL.q (OQ.callx (vs := [.agg (q11.l.map U64).toArray, .agg (o50.l.map U64).toArray]) goes_product rfl fun w' _ => c_o250 w') rfl (JL.nil (kk default nofun)))
                    · (intro x EF MF Q kk; exact JL.alloc n5z rfl fun b _ => JL.nil (kk b nofun))
                    · (intro x EF MF Q kk; exact JL.store_all (cs := o250.l.map U64) n5s rfl rfl rfl (W_cell _) .here rfl (JL.nil (kk (x 4) (fun k h => by cases h; rfl))))
                  · intro x hx
                    have h5 := hx 5 4 (by decide) rfl
                    show JE _ _ _ _ _ [(13, Pt (x 4) 0), (12, Pt b12 0), (11, Pt b11 0), (10, Pt b10 0), (9, Pt b9 0), (8, Pt b8 0), (7, Pt b7 0), (6, Pt b6 0), (5, Pt b5 0), (4, Pt b4 0), (1, Pt b1 0), (2, Pt b2 0), (3, Pt b3 0)] [⟨(x 5), Row 59 (o250.l.map U64), true⟩, ⟨b12, Row 59 (o200.l.map U64), true⟩, ⟨b11, Row 59 (o100.l.map U64), true⟩, ⟨b10, Row 59 (o50.l.map U64), true⟩, ⟨b9, Row 59 (o40.l.map U64), true⟩, ⟨b8, Row 59 (o20.l.map U64), true⟩, ⟨b7, Row 59 (o10.l.map U64), true⟩, ⟨b6, Row 59 (o5.l.map U64), true⟩, ⟨b5, Row 59 (elv.l.map U64), true⟩, ⟨b4, Row 59 (nine.l.map U64), true⟩, ⟨b3, Row 59 (two.l.map U64), true⟩, ⟨b2, Row 59 (zeroN.l.map U64), true⟩, ⟨b1, Row 59 (n.l.map U64), true⟩]
                    rw [h5]
                    generalize x 4 = b13
                    clear hx h5 x vs Ms
                    repeat (first | refine JC.seq ?_ | refine JE.next ?_)
                    refine JC.tail 4 mixC (by kernel_rfl) ?_
                    simp only [List.take_succ_cons, List.take_zero, List.drop_succ_cons, List.drop_zero]
                    repeat (first | refine JQ.q (by first | (apply OQ.load_agg (cs := o250.l.map U64); exact n5a; exact n5s; exact rfl; exact (by repeat (first | exact Has.here | apply Has.there)); exact rfl; exact Row.all) | (apply OQ.load_agg (cs := elv.l.map U64); exact n5a; exact n5s; exact rfl; exact (by repeat (first | exact Has.here | apply Has.there)); exact rfl; exact Row.all) | (apply OQ.callx (vs := [.agg (o250.l.map U64).toArray, N 5]); exact goes_squared; exact rfl; exact (fun w' _ => c_q12 w')) | (apply OQ.callx (vs := [.agg (q12.l.map U64).toArray, .agg (elv.l.map U64).toArray]); exact goes_product; exact rfl; exact (fun w' _ => c_fin w'))) rfl ?_ | refine JQ.nil_tail ?_)
                    refine JL.store_all (cs := fin.l.map U64) n5s rfl rfl rfl (W_cell _) (by repeat (first | exact Upd.here | apply Upd.there)) rfl ?_
                    repeat (first | refine JL.nil ?_ | refine JE.next ?_)
                    refine JC.ret (JE.ret1 rfl (RV.cell_agg n5a n5s rfl (by repeat (first | exact Has.here | apply Has.there)) rfl Row.all) ?_)
                    exact fun w' hw => ⟨rfl, hw.chg⟩
end Go.Proofs.YtbihfhkbkcplmaaDoor

/-
  Of no statement by itself: what the code's least, key, exchange and exchanged give.
  Conditions: each theorem's own.
-/
namespace Go.Proofs.YtbihfhkbkcplmaaDoor
set_option maxRecDepth 10000
open Sl Crv
theorem W_nth {l : List W64} {i : Nat} (h : i < l.length) : (l.map U64)[i]? = some (U64 (l.getD i 0)) := by
  simp [h]
theorem W_set (l : List W64) (i : Nat) (x : W64) : (l.map U64).set i (U64 x) = (l.set i x).map U64 := by rw [List.map_set]
theorem goes_least : Goes Tryd.prog 48 := ⟨_, Tryd.func48, rfl, by kernel_rfl⟩
theorem goes_key5 : Goes Tryd.prog 35 := ⟨_, Tryd.func35, rfl, by kernel_rfl⟩
theorem goes_exchange : Goes Tryd.prog 41 := ⟨_, Tryd.func41, rfl, by kernel_rfl⟩
theorem goes_exchanged : Goes Tryd.prog 31 := ⟨_, Tryd.func31, rfl, by kernel_rfl⟩
set_option maxHeartbeats 16000000 in
theorem least_any (n : N5) (w : World) : Calls Tryd.prog 48 [.agg (n.l.map U64).toArray].toArray w fun e w' => e = .returned (.agg ((lstB n).l.map U64).toArray) ∧ Ext w w' := by
  have eL := leB_all n
  have hll : ∀ c i, (leB n.l c i).length = 5 := fun c i => leB_len n.l c i
  refine enter (n := 36) Tryd.func48 rfl rfl rfl (Holds.start w []) ?_
  repeat (first | refine JC.seq ?_ | refine JC.region ?_)
  refine JL.box (r := n.l.map U64) rfl rfl rfl fun b1 _ => ?_
  refine JL.alloc n5z rfl fun b2 _ => ?_
  repeat (first | refine JL.q (by first | (apply OQ.load_agg (cs := n.l.map U64); exact n5a; exact n5s; exact rfl; exact (.there .here); exact rfl; exact Row.all) | (apply OQ.move; exact rfl) | (apply OQ.assign; exact rfl)) rfl ?_ | refine JC.seq ?_ | refine JC.region ?_ | refine JC.block ?_ | refine JL.nil ?_ | refine JE.next ?_)
  refine JC.loop (fun i : Nat => [(1, Pt b1 0), (2, Pt b2 0), (3, U64 (rsB n.l 19#64 i)), (9, .agg (n.l.map U64).toArray), (10, N i)])
    (fun _ => [⟨b2, Row 59 (zeroN.l.map U64), true⟩, ⟨b1, Row 59 (n.l.map U64), true⟩])
    (fun i => 5 - i) (fun i => i ≤ 5) 0 (by omega) (by repeat (first | exact SubE.nil | refine SubE.cons _ _ _ rfl ?_)) (Less.refl _) ?_
  intro i hi
  repeat (first | refine JL.q (by (apply OQ.lssN; exact rfl; exact rfl)) rfl ?_ | refine JC.seq ?_ | refine JC.region ?_ | refine JL.nil ?_ | refine JE.next ?_)
  refine JC.cond rfl (fun h => ?_) (fun h => ?_)
  · have hi' : i < 5 := of_decide_eq_true h
    clear h hi
    have hc : (n.l.map U64)[i]? = some (U64 (n.l.getD i 0)) := W_nth hi'
    have eR : rsB n.l 19#64 (i + 1) = (n.l.getD i 0 + rsB n.l 19#64 i) >>> 51 := rfl
    generalize n.l.getD i 0 = y at hc eR
    repeat (first | refine JL.q (by first | (apply OQ.index; exact Tryd.underlying59; exact w8s; exact w8c; exact rfl; exact rfl; exact hi'; exact hc) | (apply OQ.move; exact rfl) | (apply OQ.assign; exact rfl) | (apply OQ.add64; exact rfl; exact rfl) | (apply OQ.shr64; exact rfl; exact rfl) | (apply OQ.addN; exact rfl; exact rfl; exact (by (try simp only []); omega))) rfl ?_ | refine JC.seq ?_ | refine JC.region ?_ | refine JC.block ?_ | refine JC.skip ?_ | refine JL.nil ?_ | refine JE.next ?_ | refine JE.blk_normal ?_)
    refine JE.again (i := i) (i + 1) (by omega) (by omega) ?_ (Less.refl _)
    rw [eR]
    exact (by repeat (first | exact SubE.nil | refine SubE.cons _ _ _ rfl ?_))
  · have hi' : ¬ i < 5 := of_decide_eq_false h
    obtain rfl : i = 5 := by omega
    clear h hi hi'
    generalize rsB n.l 19#64 5 = ov at eL ⊢
    repeat (first | refine JL.q (by first | (apply OQ.load_agg (cs := n.l.map U64); exact n5a; exact n5s; exact rfl; exact (.there .here); exact rfl; exact Row.all) | (apply OQ.mul64 (a := 19#64); exact rfl; exact rfl) | (apply OQ.move; exact rfl) | (apply OQ.assign; exact rfl)) rfl ?_ | refine JC.seq ?_ | refine JC.region ?_ | refine JC.block ?_ | refine JC.exit ?_ | refine JL.nil ?_ | refine JE.next ?_ | refine JE.then_exit ?_ | refine JE.blk_hit ?_)
    generalize 19#64 * ov = C at eL ⊢
    refine JC.loop (fun i : Nat => [(1, Pt b1 0), (2, Pt b2 0), (6, U64 (rsB n.l C i)), (20, .agg (n.l.map U64).toArray), (21, N i)])
      (fun i => [⟨b2, Row 59 (zeroN.l.map U64), true⟩, ⟨b1, Row 59 ((leB n.l C i).map U64), true⟩])
      (fun i => 5 - i) (fun i => i ≤ 5) 0 (by omega) (by repeat (first | exact SubE.nil | refine SubE.cons _ _ _ rfl ?_)) (Less.refl _) ?_
    intro i hi
    repeat (first | refine JL.q (by (apply OQ.lssN; exact rfl; exact rfl)) rfl ?_ | refine JC.seq ?_ | refine JC.region ?_ | refine JL.nil ?_ | refine JE.next ?_)
    refine JC.cond rfl (fun h => ?_) (fun h => ?_)
    · have hi' : i < 5 := of_decide_eq_true h
      clear h hi
      have hc : (n.l.map U64)[i]? = some (U64 (n.l.getD i 0)) := W_nth hi'
      have eR : rsB n.l C (i + 1) = (n.l.getD i 0 + rsB n.l C i) >>> 51 := rfl
      have eS : leB n.l C (i + 1) = (leB n.l C i).set i ((n.l.getD i 0 + rsB n.l C i) &&& 2251799813685247#64) := rfl
      have hlen := hll C i
      generalize leB n.l C i = X at eS hlen ⊢
      generalize n.l.getD i 0 = y at hc eR eS
      repeat (first | refine JL.q (by first | (apply OQ.index; exact Tryd.underlying59; exact w8s; exact w8c; exact rfl; exact rfl; exact hi'; exact hc) | (apply OQ.and64 (b := 2251799813685247#64); exact rfl; exact rfl) | (apply OQ.idxA0; exact Tryd.underlying59; exact w8s; exact rfl; exact rfl; exact hi') | (apply OQ.move; exact rfl) | (apply OQ.assign; exact rfl) | (apply OQ.add64; exact rfl; exact rfl) | (apply OQ.shr64; exact rfl; exact rfl)) rfl ?_ | refine JC.seq ?_ | refine JC.region ?_ | refine JC.block ?_ | refine JC.skip ?_ | refine JL.nil ?_ | refine JE.next ?_)
      refine JL.store_eq (r' := (leB n.l C (i + 1)).map U64) w8s rfl rfl rfl rfl (.there .here) (by rw [List.length_map, hlen]; exact hi') (by rw [eS]; exact W_set _ _ _) ?_
      repeat (first | refine JL.q (by first | (apply OQ.move; exact rfl) | (apply OQ.assign; exact rfl) | (apply OQ.addN; exact rfl; exact rfl; exact (by (try simp only []); omega))) rfl ?_ | refine JC.region ?_ | refine JL.nil ?_ | refine JE.next ?_ | refine JE.blk_normal ?_)
      refine JE.again (i := i) (i + 1) (by omega) (by omega) ?_ (Less.refl _)
      rw [eR]
      exact (by repeat (first | exact SubE.nil | refine SubE.cons _ _ _ rfl ?_))
    · have hi' : ¬ i < 5 := of_decide_eq_false h
      obtain rfl : i = 5 := by omega
      clear h hi hi'
      rw [eL]
      generalize lstB n = X
      repeat (first | refine JL.q (by (apply OQ.load_agg (cs := X.l.map U64); exact n5a; exact n5s; exact rfl; exact (.there .here); exact rfl; exact Row.all)) rfl ?_ | refine JC.seq ?_ | refine JC.region ?_ | refine JC.exit ?_ | refine JE.next ?_ | refine JE.then_exit ?_ | refine JE.blk_hit ?_)
      refine JL.store_all (cs := X.l.map U64) n5s rfl rfl rfl (W_cell _) .here rfl ?_
      repeat (first | refine JL.nil ?_ | refine JE.next ?_)
      refine JC.ret (JE.ret1 rfl (RV.cell_agg n5a n5s rfl .here rfl Row.all) ?_)
      exact fun w' hw => ⟨rfl, hw.chg⟩

theorem w4s : szT Tryd.prog 81 = some 4 := by kernel_rfl
theorem w4z : zc Tryd.prog 81 = some (([0, 0, 0, 0] : List W64).map U64) := by kernel_rfl
set_option maxHeartbeats 16000000 in
theorem key5_any (n : N5) (w : World) : Calls Tryd.prog 35 [.agg (n.l.map U64).toArray].toArray w fun e w' => e = .returned (.agg ((kyB n).map U8).toArray) ∧ Ext w w' := by
  have cl := least_any n
  have eK : kyB n = kbB (wdsB (lstB n)) 32 := rfl
  rw [eK]
  clear eK
  generalize lstB n = m at cl ⊢
  have c0 : (m.l.map U64)[0]? = some (U64 m.a0) := rfl
  have c1 : (m.l.map U64)[1]? = some (U64 m.a1) := rfl
  have c2 : (m.l.map U64)[2]? = some (U64 m.a2) := rfl
  have c3 : (m.l.map U64)[3]? = some (U64 m.a3) := rfl
  have c4 : (m.l.map U64)[4]? = some (U64 m.a4) := rfl
  refine enter (n := 52) Tryd.func35 rfl rfl rfl (Holds.start w []) ?_
  repeat (first | refine JC.seq ?_ | refine JC.region ?_)
  refine JL.box (r := n.l.map U64) rfl rfl rfl fun b1 _ => ?_
  refine JL.alloc k32z rfl fun b2 _ => ?_
  repeat (first | refine JL.q (by first | (apply OQ.load_agg (cs := n.l.map U64); exact n5a; exact n5s; exact rfl; exact (.there .here); exact rfl; exact Row.all) | (apply OQ.callx; exact goes_least; exact rfl; exact (fun w' _ => cl w'))) rfl ?_ | refine JC.seq ?_ | refine JC.region ?_ | refine JL.nil ?_ | refine JE.next ?_)
  refine JL.store_all (cs := m.l.map U64) n5s rfl rfl rfl (W_cell _) (.there .here) rfl ?_
  repeat (first | refine JL.q (by first | (apply OQ.idxA0; exact Tryd.underlying59; exact w8s; exact rfl; exact rfl; exact (by decide)) | (apply OQ.load; exact w8c; exact rfl; exact (.there .here); exact (Row.cell c0)) | (apply OQ.load; exact w8c; exact rfl; exact (.there .here); exact (Row.cell c1)) | (apply OQ.load; exact w8c; exact rfl; exact (.there .here); exact (Row.cell c2)) | (apply OQ.load; exact w8c; exact rfl; exact (.there .here); exact (Row.cell c3)) | (apply OQ.load; exact w8c; exact rfl; exact (.there .here); exact (Row.cell c4)) | (apply OQ.shl64; exact rfl; exact rfl) | (apply OQ.or64; exact rfl; exact rfl) | (apply OQ.shr64; exact rfl; exact rfl)) rfl ?_ | refine JC.seq ?_ | refine JC.region ?_ | refine JL.nil ?_ | refine JE.next ?_)
  refine JL.q (OQ.pure (v := .agg ((wdsB m).map U64).toArray) rfl rfl (by kernel_rfl)) rfl ?_
  refine JL.alloc w4z rfl fun b3 _ => ?_
  refine JL.store_all (cs := (wdsB m).map U64) w4s rfl rfl rfl (W_cell _) .here rfl ?_
  have hw4 : (wdsB m).length = 4 := rfl
  generalize wdsB m = W at hw4 ⊢
  repeat (first | refine JC.seq ?_ | refine JC.region ?_ | refine JL.nil ?_ | refine JE.next ?_)
  refine JL.alloc k32z rfl fun b4 _ => ?_
  repeat (first | refine JL.q (by (apply OQ.move; exact rfl)) rfl ?_ | refine JC.seq ?_ | refine JC.region ?_ | refine JC.block ?_ | refine JL.nil ?_ | refine JE.next ?_)
  refine JC.loop (fun i : Nat => [(1, Pt b1 0), (2, Pt b2 0), (3, Pt b3 0), (4, Pt b4 0), (36, N i)])
    (fun i => [⟨b4, Row 23 ((kbB W i).map U8), true⟩, ⟨b3, Row 81 (W.map U64), true⟩, ⟨b2, Row 23 ((List.replicate 32 (0 : By)).map U8), true⟩])
    (fun i => 32 - i) (fun i => i ≤ 32) 0 (by omega) (by repeat (first | exact SubE.nil | refine SubE.cons _ _ _ rfl ?_)) (.keep _ _ _ _ _ _ (fun _ h => h) (.keep _ _ _ _ _ _ (fun _ h => h) (.keep _ _ _ _ _ _ (fun _ h => h) (.nil _)))) ?_
  intro i hi
  have hlen := kbB_len W i
  repeat (first | refine JL.q (by (apply OQ.lssN; exact rfl; exact rfl)) rfl ?_ | refine JC.seq ?_ | refine JC.region ?_ | refine JL.nil ?_ | refine JE.next ?_)
  refine JC.cond rfl (fun h => ?_) (fun h => ?_)
  · have hi' : i < 32 := of_decide_eq_true h
    clear h hi
    have hc := W_nth (l := W) (i := i / 8) (by omega)
    have eS : kbB W (i + 1) = (kbB W i).set i ((W.getD (i / 8) 0 >>> (i % 8 * 8)).setWidth 8) := rfl
    generalize kbB W i = X at eS hlen ⊢
    repeat (first | refine JL.q (by first | (apply OQ.idxA0; exact Tryd.underlying81; exact w8s; exact rfl; exact rfl; exact (by (try simp only []); omega)) | (apply OQ.load; exact w8c; exact rfl; exact (.there .here); exact (Row.cell hc)) | (apply OQ.idxA0; exact Tryd.underlying23; exact y1s; exact rfl; exact rfl; exact hi') | (apply OQ.move; exact rfl) | (apply OQ.assign; exact rfl) | (apply OQ.shr64; exact rfl; exact rfl) | (apply OQ.mulN; exact rfl; exact rfl; exact (by (try simp only []); omega)) | (apply OQ.remN; exact rfl; exact rfl; exact (by (try simp only []); omega)) | (apply OQ.quoN; exact rfl; exact rfl; exact (by (try simp only []); omega); exact (by (try simp only []); omega)) | (apply OQ.conv64_8; exact rfl; exact rfl; exact rfl)) rfl ?_ | refine JC.seq ?_ | refine JC.region ?_ | refine JC.block ?_ | refine JC.skip ?_ | refine JL.nil ?_ | refine JE.next ?_)
    refine JL.store_eq (r' := (kbB W (i + 1)).map U8) y1s rfl rfl rfl rfl .here (by rw [List.length_map, hlen]; exact hi') (by rw [eS]; exact Y_set _ _ _) ?_
    repeat (first | refine JL.q (by first | (apply OQ.move; exact rfl) | (apply OQ.addN; exact rfl; exact rfl; exact (by (try simp only []); omega))) rfl ?_ | refine JC.region ?_ | refine JL.nil ?_ | refine JE.next ?_ | refine JE.blk_normal ?_)
    exact JE.again (i := i) (i + 1) (by omega) (by omega) (by repeat (first | exact SubE.nil | refine SubE.cons _ _ _ rfl ?_)) (Less.refl _)
  · have hi' : ¬ i < 32 := of_decide_eq_false h
    obtain rfl : i = 32 := by omega
    clear h hi hi'
    have hl' : ((kbB W 32).map U8).length = 32 := by rw [List.length_map, hlen]
    generalize kbB W 32 = X at hl' ⊢
    repeat (first | refine JL.q (by (apply OQ.load_agg (cs := X.map U8); exact k32a; exact k32s; exact rfl; exact .here; exact hl'; exact Row.all)) rfl ?_ | refine JC.seq ?_ | refine JC.region ?_ | refine JC.exit ?_ | refine JE.next ?_ | refine JE.then_exit ?_ | refine JE.blk_hit ?_)
    refine JL.store_all (cs := X.map U8) k32s rfl rfl hl' (Y_cell _) (.there (.there .here)) (by simp) ?_
    repeat (first | refine JL.nil ?_ | refine JE.next ?_)
    refine JC.ret (JE.ret1 rfl (RV.cell_agg k32a k32s rfl (.there (.there .here)) hl' Row.all) ?_)
    exact fun w' hw => ⟨rfl, hw.chg⟩

set_option maxHeartbeats 16000000 in
theorem exchange_any (c : Bool) (a b : N5) (w : World) : Calls Tryd.prog 41 [.agg (a.l.map U64).toArray, .agg (b.l.map U64).toArray, U8 (bt c)].toArray w
    fun e w' => e = .returned (.tuple #[.agg ((if c then b else a).l.map U64).toArray, .agg ((if c then a else b).l.map U64).toArray]) ∧ Ext w w' := by
  have hm := mk64_is c
  have hab : a.l.length = b.l.length := rfl
  have eX : mixl c a.l b.l 5 = (if c then b else a).l := by cases c <;> rfl
  have eY : mixl c b.l a.l 5 = (if c then a else b).l := by cases c <;> rfl
  have z1 : mixl c a.l b.l 0 = a.l := by cases c <;> rfl
  have z2 : mixl c b.l a.l 0 = b.l := by cases c <;> rfl
  have lX : ∀ i, (mixl c a.l b.l i).length = 5 := fun i => mixl_len c hab i
  have lY : ∀ i, (mixl c b.l a.l i).length = 5 := fun i => mixl_len c hab.symm i
  have gX : ∀ i, i < 5 → ((mixl c a.l b.l i).map U64)[i]? = some (U64 (a.l.getD i 0)) := fun i hi => by rw [List.getElem?_map, mixl_get c hab hi]; rfl
  have gY : ∀ i, i < 5 → ((mixl c b.l a.l i).map U64)[i]? = some (U64 (b.l.getD i 0)) := fun i hi => by rw [List.getElem?_map, mixl_get c hab.symm hi]; rfl
  have sX : ∀ i, i < 5 → (mixl c a.l b.l i).set i (a.l.getD i 0 ^^^ (mk64 c &&& (a.l.getD i 0 ^^^ b.l.getD i 0))) = mixl c a.l b.l (i + 1) := fun i hi => mixl_set c hab hi (swap_l c _ _)
  have sY : ∀ i, i < 5 → (mixl c b.l a.l i).set i (b.l.getD i 0 ^^^ (mk64 c &&& (a.l.getD i 0 ^^^ b.l.getD i 0))) = mixl c b.l a.l (i + 1) := fun i hi => mixl_set c hab.symm hi (swap_r c _ _)
  generalize (if c then b else a).l = A at eX ⊢
  generalize (if c then a else b).l = B at eY ⊢
  refine enter (n := 41) Tryd.func41 rfl rfl rfl (Holds.start w []) ?_
  repeat (first | refine JC.seq ?_ | refine JC.region ?_)
  refine JL.box (r := a.l.map U64) rfl rfl rfl fun b3 _ => ?_
  refine JL.box (r := b.l.map U64) rfl rfl rfl fun b4 _ => ?_
  refine JL.alloc n5z rfl fun b6 _ => ?_
  refine JL.alloc n5z rfl fun b7 _ => ?_
  repeat (first | refine JL.q (by first | (apply OQ.conv8_64; exact rfl; exact rfl; exact rfl) | (apply OQ.neg64; exact rfl) | (apply OQ.move; exact rfl) | (apply OQ.assign; exact rfl)) rfl ?_ | refine JC.seq ?_ | refine JC.region ?_ | refine JC.block ?_ | refine JL.nil ?_ | refine JE.next ?_)
  rw [hm]
  refine JC.loop (fun i : Nat => [(3, Pt b3 0), (4, Pt b4 0), (6, Pt b6 0), (7, Pt b7 0), (8, U64 (mk64 c)), (14, N i)])
    (fun i => [⟨b7, Row 59 (zeroN.l.map U64), true⟩, ⟨b6, Row 59 (zeroN.l.map U64), true⟩, ⟨b4, Row 59 ((mixl c b.l a.l i).map U64), true⟩, ⟨b3, Row 59 ((mixl c a.l b.l i).map U64), true⟩])
    (fun i => 5 - i) (fun i => i ≤ 5) 0 (by omega) (by repeat (first | exact SubE.nil | refine SubE.cons _ _ _ rfl ?_)) (.keep _ _ _ _ _ _ (fun _ h => h) (.keep _ _ _ _ _ _ (fun _ h => h) (.keep _ _ _ _ _ _ (fun _ h => by rw [z2]; exact h) (.keep _ _ _ _ _ _ (fun _ h => by rw [z1]; exact h) (.nil _))))) ?_
  intro i hi
  repeat (first | refine JL.q (by (apply OQ.lssN; exact rfl; exact rfl)) rfl ?_ | refine JC.seq ?_ | refine JC.region ?_ | refine JL.nil ?_ | refine JE.next ?_)
  refine JC.cond rfl (fun h => ?_) (fun h => ?_)
  · have hi' : i < 5 := of_decide_eq_true h
    clear h hi eX eY z1 z2
    have hX := gX i hi'
    have hY := gY i hi'
    have tX := sX i hi'
    have tY := sY i hi'
    have kX := lX i
    have kY := lY i
    clear gX gY sX sY lX lY
    generalize mixl c a.l b.l i = X at hX tX kX ⊢
    generalize mixl c b.l a.l i = Y at hY tY kY ⊢
    generalize a.l.getD i 0 = x at hX tX tY
    generalize b.l.getD i 0 = y at hY tX tY
    repeat (first | refine JL.q (by first | (apply OQ.move; exact rfl) | (apply OQ.assign; exact rfl)) rfl ?_ | refine JC.seq ?_ | refine JC.region ?_ | refine JC.block ?_ | refine JC.skip ?_ | refine JL.nil ?_ | refine JE.next ?_)
    refine JC.quiet mixC (by kernel_rfl) ?_
    repeat (first | refine JL.q (by first | (apply OQ.idxA0; exact Tryd.underlying59; exact w8s; exact rfl; exact rfl; exact hi') | (apply OQ.load; exact w8c; exact rfl; exact (by repeat (first | exact Has.here | apply Has.there)); exact (Row.cell hX)) | (apply OQ.load; exact w8c; exact rfl; exact (by repeat (first | exact Has.here | apply Has.there)); exact (Row.cell hY)) | (apply OQ.xor64; exact rfl; exact rfl) | (apply OQ.and64; exact rfl; exact rfl) | (apply OQ.move; exact rfl) | (apply OQ.assign; exact rfl)) rfl ?_ | refine JQ.q (by first | (apply OQ.idxA0; exact Tryd.underlying59; exact w8s; exact rfl; exact rfl; exact hi') | (apply OQ.load; exact w8c; exact rfl; exact (by repeat (first | exact Has.here | apply Has.there)); exact (Row.cell hX)) | (apply OQ.load; exact w8c; exact rfl; exact (by repeat (first | exact Has.here | apply Has.there)); exact (Row.cell hY)) | (apply OQ.xor64; exact rfl; exact rfl) | (apply OQ.and64; exact rfl; exact rfl) | (apply OQ.move; exact rfl) | (apply OQ.assign; exact rfl)) rfl ?_ | refine JC.seq ?_ | refine JC.region ?_ | refine JQ.nil ?_ | refine JE.next ?_)
    refine JL.store_eq (r' := (mixl c a.l b.l (i + 1)).map U64) w8s rfl rfl rfl rfl (by repeat (first | exact Upd.here | apply Upd.there)) (by rw [List.length_map, kX]; exact hi') (by rw [← tX]; exact W_set _ _ _) ?_
    repeat (first | refine JL.q (by first | (apply OQ.idxA0; exact Tryd.underlying59; exact w8s; exact rfl; exact rfl; exact hi') | (apply OQ.load; exact w8c; exact rfl; exact (by repeat (first | exact Has.here | apply Has.there)); exact (Row.cell hY)) | (apply OQ.xor64; exact rfl; exact rfl) | (apply OQ.move; exact rfl)) rfl ?_ | refine JC.region ?_ | refine JL.nil ?_ | refine JE.next ?_)
    refine JL.store_eq (r' := (mixl c b.l a.l (i + 1)).map U64) w8s rfl rfl rfl rfl (by repeat (first | exact Upd.here | apply Upd.there)) (by rw [List.length_map, kY]; exact hi') (by rw [← tY]; exact W_set _ _ _) ?_
    repeat (first | refine JL.q (by first | (apply OQ.move; exact rfl) | (apply OQ.addN; exact rfl; exact rfl; exact (by (try simp only []); omega))) rfl ?_ | refine JC.region ?_ | refine JL.nil ?_ | refine JE.next ?_ | refine JE.blk_normal ?_)
    exact JE.again (i := i) (i + 1) (by omega) (by omega) (by repeat (first | exact SubE.nil | refine SubE.cons _ _ _ rfl ?_)) (Less.refl _)
  · have hi' : ¬ i < 5 := of_decide_eq_false h
    obtain rfl : i = 5 := by omega
    clear h hi hi'
    have hX := lX 5
    have hY := lY 5
    clear gX gY sX sY lX lY
    rw [eX] at hX ⊢
    rw [eY] at hY ⊢
    generalize A = X at *
    generalize B = Y at *
    repeat (first | refine JC.seq ?_ | refine JC.exit ?_ | refine JE.next ?_ | refine JE.then_exit ?_ | refine JE.blk_hit ?_)
    let vs : Nat → Nat → Value := fun j x => match j with
      | 0 => .agg (X.map U64).toArray
      | 1 => .agg (Y.map U64).toArray
      | _ => Pt x 0
    let Ms : Nat → Nat → List Ent := fun j x => match j with
      | 2 => [⟨b6, Row 59 (X.map U64), true⟩]
      | 3 => [⟨b7, Row 59 (Y.map U64), true⟩]
      | 4 => [⟨b7, Row 59 (zeroN.l.map U64), true⟩]
      | 5 => [⟨b6, Row 59 (zeroN.l.map U64), true⟩]
      | 6 => [⟨b4, Row 59 (Y.map U64), true⟩]
      | 7 => [⟨b3, Row 59 (X.map U64), true⟩]
      | _ => []
    refine JC.grow (g := ⟨[(3, Pt b3 0), (4, Pt b4 0), (6, Pt b6 0), (7, Pt b7 0)], 8, vs, Ms, (fun j => match j with | 2 => [(0, 39)] | 3 => [(1, 40)] | _ => []), (fun j => match j with | 0 => [7] | 1 => [6] | 2 => [5] | 3 => [4] | _ => []), (fun j => match j with | 2 => [5] | 3 => [4] | _ => []), (fun j => match j with | _ => none)⟩) [] [2, 3, 6, 7] mixC (by repeat (first | exact SubE.nil | refine SubE.cons _ _ _ rfl ?_)) (Less.refl _) (by kernel_rfl) (by kernel_rfl) (by kernel_rfl) ?_ ?_
    · refine ⟨?_, ?_, ?_, ?_, trivial⟩
      · (intro x EF MF Q kk; exact JL.q (OQ.load_agg (cs := X.map U64) n5a n5s rfl .here (by rw [List.length_map]; exact hX) Row.all) rfl (JL.nil (kk default nofun)))
      · (intro x EF MF Q kk; exact JL.q (OQ.load_agg (cs := Y.map U64) n5a n5s rfl .here (by rw [List.length_map]; exact hY) Row.all) rfl (JL.nil (kk default nofun)))
      · (intro x EF MF Q kk; exact JL.store_all (cs := X.map U64) n5s rfl rfl (by rw [List.length_map]; exact hX) (W_cell _) .here rfl (JL.nil (kk default nofun)))
      · (intro x EF MF Q kk; exact JL.store_all (cs := Y.map U64) n5s rfl rfl (by rw [List.length_map]; exact hY) (W_cell _) .here rfl (JL.nil (kk default nofun)))
    · intro x hx
      show JE _ _ _ _ _ [(3, Pt b3 0), (4, Pt b4 0), (6, Pt b6 0), (7, Pt b7 0)] [⟨b6, Row 59 (X.map U64), true⟩, ⟨b7, Row 59 (Y.map U64), true⟩, ⟨b4, Row 59 (Y.map U64), true⟩, ⟨b3, Row 59 (X.map U64), true⟩]
      clear hx x vs Ms
      have kX : (X.map U64).length = 5 := by rw [List.length_map]; exact hX
      have kY : (Y.map U64).length = 5 := by rw [List.length_map]; exact hY
      refine JE.next ?_
      refine JC.ret ?_
      refine JE.ret2 rfl (RV.cell_agg n5a n5s rfl (by repeat (first | exact Has.here | apply Has.there)) kX Row.all) (RV.cell_agg n5a n5s rfl (by repeat (first | exact Has.here | apply Has.there)) kY Row.all) ?_
      exact fun w' hw => ⟨rfl, hw.chg⟩
end Go.Proofs.YtbihfhkbkcplmaaDoor

/-
  Of no statement by itself: what the code's exchanged and stepped give.
  Conditions: each theorem's own.
-/
namespace Go.Proofs.YtbihfhkbkcplmaaDoor
set_option maxRecDepth 10000
open Sl Crv
def zeroL : L5 := ⟨zeroN, zeroN, zeroN, zeroN⟩
theorem l20s : szT Tryd.prog 62 = some 20 := by kernel_rfl
theorem l20a : aggT Tryd.prog 62 = true := by kernel_rfl
theorem l20z : zc Tryd.prog 62 = some (zeroL.l.map U64) := by kernel_rfl
theorem goes_stepped : Goes Tryd.prog 32 := ⟨_, Tryd.func32, rfl, by kernel_rfl⟩
set_option maxHeartbeats 16000000 in
theorem exchanged_any (c : Bool) (s : L5) (w : World) : Calls Tryd.prog 31 [.agg (s.l.map U64).toArray, U8 (bt c)].toArray w fun e w' => e = .returned (.agg ((swB c s).l.map U64).toArray) ∧ Ext w w' := by
  obtain ⟨x2, z2, x3, z3⟩ := s
  have cx := exchange_any c x2 x3
  have cz := exchange_any c z2 z3
  have e : swB c ⟨x2, z2, x3, z3⟩ = ⟨if c then x3 else x2, if c then z3 else z2, if c then x2 else x3, if c then z2 else z3⟩ := by cases c <;> rfl
  rw [e]
  clear e
  generalize (if c then x3 else x2) = X2 at cx ⊢
  generalize (if c then x2 else x3) = X3 at cx ⊢
  generalize (if c then z3 else z2) = Z2 at cz ⊢
  generalize (if c then z2 else z3) = Z3 at cz ⊢
  refine enter (n := 28) Tryd.func31 rfl rfl rfl (Holds.start w []) ?_
  repeat (first | refine JC.seq ?_ | refine JC.region ?_)
  refine JL.box (r := (x2.l ++ z2.l ++ x3.l ++ z3.l).map U64) rfl rfl rfl fun b2 _ => ?_
  refine JL.alloc l20z rfl fun b4 _ => ?_
  repeat (first | refine JL.q (by first | (apply OQ.load_agg (cs := x2.l.map U64); exact n5a; exact n5s; exact rfl; exact (.there .here); exact rfl; exact (Row.cells rfl)) | (apply OQ.load_agg (cs := x3.l.map U64); exact n5a; exact n5s; exact rfl; exact (.there .here); exact rfl; exact (Row.cells rfl)) | (apply OQ.callx (vs := [.agg (x2.l.map U64).toArray, .agg (x3.l.map U64).toArray, U8 (bt c)]); exact goes_exchange; exact rfl; exact (fun w' _ => cx w')) | (apply OQ.extract; exact rfl; exact rfl) | (apply OQ.move; exact rfl) | (apply OQ.fld; exact rfl; exact rfl; exact rfl; exact (by decide); exact rfl)) rfl ?_ | refine JC.seq ?_ | refine JC.region ?_ | refine JL.nil ?_ | refine JE.next ?_)
  refine JL.store_part (cs := X2.l.map U64) (r' := (X2.l ++ z2.l ++ x3.l ++ z3.l).map U64) n5s rfl rfl rfl (W_cell _) (.there .here) (Nat.le_of_ble_eq_true rfl) rfl ?_
  repeat (refine JL.q (by (apply OQ.fld; exact rfl; exact rfl; exact rfl; exact (by decide); exact rfl)) rfl ?_)
  refine JL.store_part (cs := X3.l.map U64) (r' := (X2.l ++ z2.l ++ X3.l ++ z3.l).map U64) n5s rfl rfl rfl (W_cell _) (.there .here) (Nat.le_of_ble_eq_true rfl) rfl ?_
  repeat (first | refine JL.q (by first | (apply OQ.load_agg (cs := z2.l.map U64); exact n5a; exact n5s; exact rfl; exact (.there .here); exact rfl; exact (Row.cells rfl)) | (apply OQ.load_agg (cs := z3.l.map U64); exact n5a; exact n5s; exact rfl; exact (.there .here); exact rfl; exact (Row.cells rfl)) | (apply OQ.callx (vs := [.agg (z2.l.map U64).toArray, .agg (z3.l.map U64).toArray, U8 (bt c)]); exact goes_exchange; exact rfl; exact (fun w' _ => cz w')) | (apply OQ.extract; exact rfl; exact rfl) | (apply OQ.move; exact rfl) | (apply OQ.fld; exact rfl; exact rfl; exact rfl; exact (by decide); exact rfl)) rfl ?_ | refine JC.seq ?_ | refine JC.region ?_ | refine JL.nil ?_ | refine JE.next ?_)
  refine JL.store_part (cs := Z2.l.map U64) (r' := (X2.l ++ Z2.l ++ X3.l ++ z3.l).map U64) n5s rfl rfl rfl (W_cell _) (.there .here) (Nat.le_of_ble_eq_true rfl) rfl ?_
  repeat (refine JL.q (by (apply OQ.fld; exact rfl; exact rfl; exact rfl; exact (by decide); exact rfl)) rfl ?_)
  refine JL.store_part (cs := Z3.l.map U64) (r' := (X2.l ++ Z2.l ++ X3.l ++ Z3.l).map U64) n5s rfl rfl rfl (W_cell _) (.there .here) (Nat.le_of_ble_eq_true rfl) rfl ?_
  repeat (first | refine JL.q (by (apply OQ.load_agg (cs := (X2.l ++ Z2.l ++ X3.l ++ Z3.l).map U64); exact l20a; exact l20s; exact rfl; exact (.there .here); exact rfl; exact Row.all)) rfl ?_ | refine JC.seq ?_ | refine JC.region ?_ | refine JL.nil ?_ | refine JE.next ?_)
  refine JL.store_all (cs := (X2.l ++ Z2.l ++ X3.l ++ Z3.l).map U64) l20s rfl rfl rfl (W_cell _) .here rfl ?_
  repeat (first | refine JL.nil ?_ | refine JE.next ?_)
  refine JC.ret (JE.ret1 rfl (RV.cell_agg l20a l20s rfl .here rfl Row.all) ?_)
  exact fun w' hw => ⟨rfl, hw.chg⟩
set_option maxHeartbeats 64000000 in
set_option maxRecDepth 4000 in
theorem stepped_any (x1 : N5) (s : L5) (w : World) : Calls Tryd.prog 32 [.agg (s.l.map U64).toArray, .agg (x1.l.map U64).toArray].toArray w fun e w' => e = .returned (.agg ((stpB x1 s).l.map U64).toArray) ∧ Ext w w' := by
  obtain ⟨X2, Z2, X3, Z3⟩ := s
  have c_A := sum_any X2 Z2
  generalize h_A : sumB X2 Z2 = A at c_A
  have c_B := difference_any X2 Z2
  generalize h_B : difB X2 Z2 = B at c_B
  have c_C := sum_any X3 Z3
  generalize h_C : sumB X3 Z3 = C at c_C
  have c_D := difference_any X3 Z3
  generalize h_D : difB X3 Z3 = D at c_D
  have c_AA := product_any A A
  generalize h_AA : prdB A A = AA at c_AA
  have c_BB := product_any B B
  generalize h_BB : prdB B B = BB at c_BB
  have c_DA := product_any D A
  generalize h_DA : prdB D A = DA at c_DA
  have c_CB := product_any C B
  generalize h_CB : prdB C B = CB at c_CB
  have c_E := difference_any AA BB
  generalize h_E : difB AA BB = E at c_E
  have c_M := sum_any DA CB
  generalize h_M : sumB DA CB = M at c_M
  have c_S := difference_any DA CB
  generalize h_S : difB DA CB = S at c_S
  have c_R1 := product_any AA BB
  generalize h_R1 : prdB AA BB = R1 at c_R1
  have c_F := product_any cN E
  generalize h_F : prdB cN E = F at c_F
  have c_G := sum_any AA F
  generalize h_G : sumB AA F = G at c_G
  have c_R2 := product_any E G
  generalize h_R2 : prdB E G = R2 at c_R2
  have c_R3 := product_any M M
  generalize h_R3 : prdB M M = R3 at c_R3
  have c_SS := product_any S S
  generalize h_SS : prdB S S = SS at c_SS
  have c_R4 := product_any x1 SS
  generalize h_R4 : prdB x1 SS = R4 at c_R4
  have eS : stpB x1 ⟨X2, Z2, X3, Z3⟩ = ⟨R1, R2, R3, R4⟩ := by
    subst h_R4 h_SS h_R3 h_R2 h_G h_F h_R1 h_S h_M h_E h_CB h_DA h_BB h_AA h_D h_C h_B h_A
    rfl
  rw [eS]
  clear eS h_A h_B h_C h_D h_AA h_BB h_DA h_CB h_E h_M h_S h_R1 h_F h_G h_R2 h_R3 h_SS h_R4
  refine enter (n := 76) Tryd.func32 rfl rfl rfl (Holds.start w []) ?_
  repeat (first | refine JC.seq ?_ | refine JC.region ?_)
  refine JL.box (r := (X2.l ++ Z2.l ++ X3.l ++ Z3.l).map U64) rfl rfl rfl fun b2 _ => ?_
  refine JL.box (r := x1.l.map U64) rfl rfl rfl fun b3 _ => ?_
  refine JL.alloc l20z rfl fun b4 _ => ?_
  repeat (first | refine JC.seq ?_ | refine JL.nil ?_ | refine JE.next ?_)
  let vs : Nat → Nat → Value := fun j x => match j with
    | 0 => Pt b2 0
    | 1 => .agg (X2.l.map U64).toArray
    | 2 => Pt b2 5
    | 3 => .agg (Z2.l.map U64).toArray
    | 4 => .agg (A.l.map U64).toArray
    | 5 => Pt b2 0
    | 6 => .agg (X2.l.map U64).toArray
    | 7 => Pt b2 5
    | 8 => .agg (Z2.l.map U64).toArray
    | 9 => .agg (B.l.map U64).toArray
    | _ => Pt x 0
  let Ms : Nat → Nat → List Ent := fun j x => match j with
    | 10 => [⟨x, Row 59 (zeroN.l.map U64), true⟩]
    | 11 => [⟨x, Row 59 (zeroN.l.map U64), true⟩]
    | 12 => [⟨x, Row 59 (A.l.map U64), true⟩]
    | 13 => [⟨x, Row 59 (B.l.map U64), true⟩]
    | 14 => [⟨b4, Row 62 (zeroL.l.map U64), true⟩]
    | 15 => [⟨b3, Row 59 (x1.l.map U64), true⟩]
    | 16 => [⟨b2, Row 62 ((X2.l ++ Z2.l ++ X3.l ++ Z3.l).map U64), true⟩]
    | _ => []
  refine JC.grow (g := ⟨[(2, Pt b2 0), (3, Pt b3 0), (4, Pt b4 0)], 17, vs, Ms, (fun j => match j with | 1 => [(0, 16)] | 3 => [(2, 18)] | 4 => [(1, 17), (3, 19)] | 6 => [(5, 21)] | 8 => [(7, 23)] | 9 => [(6, 22), (8, 24)] | 12 => [(10, 5), (4, 20)] | 13 => [(11, 6), (9, 25)] | _ => []), (fun j => match j with | 1 => [16] | 3 => [16] | 6 => [16] | 8 => [16] | 12 => [10] | 13 => [11] | _ => []), (fun j => match j with | 12 => [10] | 13 => [11] | _ => []), (fun j => match j with | 12 => some 10 | 13 => some 11 | _ => none)⟩) [(10, 5), (11, 6)] [12, 13, 14, 15, 16] mixC (by repeat (first | exact SubE.nil | refine SubE.cons _ _ _ rfl ?_)) (Less.refl _) (by kernel_rfl) (by kernel_rfl) (by kernel_rfl) ?_ ?_
  · refine ⟨?_, ?_, ?_, ?_, ?_, ?_, ?_, ?_, ?_, ?_, ?_, ?_, ?_, ?_, trivial⟩
    · (intro x EF MF Q kk; exact JL.q (OQ.fldx (o := 0) rfl rfl rfl (by decide) rfl rfl) rfl (JL.nil (kk default nofun)))
    · (intro x EF MF Q kk; exact JL.q (OQ.load_agg (cs := X2.l.map U64) n5a n5s rfl .here rfl (Row.cells rfl)) rfl (JL.nil (kk default nofun)))
    · (intro x EF MF Q kk; exact JL.q (OQ.fldx (o := 5) rfl rfl rfl (by decide) rfl rfl) rfl (JL.nil (kk default nofun)))
    · (intro x EF MF Q kk; exact JL.q (OQ.load_agg (cs := Z2.l.map U64) n5a n5s rfl .here rfl (Row.cells rfl)) rfl (JL.nil (kk default nofun)))
    · (intro x EF MF Q kk; exact JL.q (OQ.callx (vs := [.agg (X2.l.map U64).toArray, .agg (Z2.l.map U64).toArray]) goes_sum rfl fun w' _ => c_A w') rfl (JL.nil (kk default nofun)))
    · (intro x EF MF Q kk; exact JL.q (OQ.fldx (o := 0) rfl rfl rfl (by decide) rfl rfl) rfl (JL.nil (kk default nofun)))
    · (intro x EF MF Q kk; exact JL.q (OQ.load_agg (cs := X2.l.map U64) n5a n5s rfl .here rfl (Row.cells rfl)) rfl (JL.nil (kk default nofun)))
    · (intro x EF MF Q kk; exact JL.q (OQ.fldx (o := 5) rfl rfl rfl (by decide) rfl rfl) rfl (JL.nil (kk default nofun)))
    · (intro x EF MF Q kk; exact JL.q (OQ.load_agg (cs := Z2.l.map U64) n5a n5s rfl .here rfl (Row.cells rfl)) rfl (JL.nil (kk default nofun)))
    · (intro x EF MF Q kk; exact JL.q (OQ.callx (vs := [.agg (X2.l.map U64).toArray, .agg (Z2.l.map U64).toArray]) goes_difference rfl fun w' _ => c_B w') rfl (JL.nil (kk default nofun)))
    · (intro x EF MF Q kk; exact JL.alloc n5z rfl fun b _ => JL.nil (kk b nofun))
    · (intro x EF MF Q kk; exact JL.alloc n5z rfl fun b _ => JL.nil (kk b nofun))
    · (intro x EF MF Q kk; exact JL.store_all (cs := A.l.map U64) n5s rfl rfl rfl (W_cell _) .here rfl (JL.nil (kk (x 10) (fun k h => by cases h; rfl))))
    · (intro x EF MF Q kk; exact JL.store_all (cs := B.l.map U64) n5s rfl rfl rfl (W_cell _) .here rfl (JL.nil (kk (x 11) (fun k h => by cases h; rfl))))
  · intro x hx
    have h12 := hx 12 10 (by decide) rfl
    have h13 := hx 13 11 (by decide) rfl
    show JE _ _ _ _ _ [(5, Pt (x 10) 0), (6, Pt (x 11) 0), (2, Pt b2 0), (3, Pt b3 0), (4, Pt b4 0)] [⟨(x 12), Row 59 (A.l.map U64), true⟩, ⟨(x 13), Row 59 (B.l.map U64), true⟩, ⟨b4, Row 62 (zeroL.l.map U64), true⟩, ⟨b3, Row 59 (x1.l.map U64), true⟩, ⟨b2, Row 62 ((X2.l ++ Z2.l ++ X3.l ++ Z3.l).map U64), true⟩]
    rw [h12, h13]
    generalize x 10 = b5
    generalize x 11 = b6
    clear hx h12 h13 x vs Ms
    repeat (first | refine JC.seq ?_ | refine JE.next ?_)
    let vs : Nat → Nat → Value := fun j x => match j with
      | 0 => Pt b2 10
      | 1 => .agg (X3.l.map U64).toArray
      | 2 => Pt b2 15
      | 3 => .agg (Z3.l.map U64).toArray
      | 4 => .agg (C.l.map U64).toArray
      | 5 => Pt b2 10
      | 6 => .agg (X3.l.map U64).toArray
      | 7 => Pt b2 15
      | 8 => .agg (Z3.l.map U64).toArray
      | 9 => .agg (D.l.map U64).toArray
      | _ => Pt x 0
    let Ms : Nat → Nat → List Ent := fun j x => match j with
      | 10 => [⟨x, Row 59 (zeroN.l.map U64), true⟩]
      | 11 => [⟨x, Row 59 (zeroN.l.map U64), true⟩]
      | 12 => [⟨x, Row 59 (C.l.map U64), true⟩]
      | 13 => [⟨x, Row 59 (D.l.map U64), true⟩]
      | 14 => [⟨b5, Row 59 (A.l.map U64), true⟩]
      | 15 => [⟨b6, Row 59 (B.l.map U64), true⟩]
      | 16 => [⟨b4, Row 62 (zeroL.l.map U64), true⟩]
      | 17 => [⟨b3, Row 59 (x1.l.map U64), true⟩]
      | 18 => [⟨b2, Row 62 ((X2.l ++ Z2.l ++ X3.l ++ Z3.l).map U64), true⟩]
      | _ => []
    refine JC.grow (g := ⟨[(5, Pt b5 0), (6, Pt b6 0), (2, Pt b2 0), (3, Pt b3 0), (4, Pt b4 0)], 19, vs, Ms, (fun j => match j with | 1 => [(0, 26)] | 3 => [(2, 28)] | 4 => [(1, 27), (3, 29)] | 6 => [(5, 31)] | 8 => [(7, 33)] | 9 => [(6, 32), (8, 34)] | 12 => [(10, 7), (4, 30)] | 13 => [(11, 8), (9, 35)] | _ => []), (fun j => match j with | 1 => [18] | 3 => [18] | 6 => [18] | 8 => [18] | 12 => [10] | 13 => [11] | _ => []), (fun j => match j with | 12 => [10] | 13 => [11] | _ => []), (fun j => match j with | 12 => some 10 | 13 => some 11 | _ => none)⟩) [(10, 7), (11, 8)] [12, 13, 14, 15, 16, 17, 18] mixC (by repeat (first | exact SubE.nil | refine SubE.cons _ _ _ rfl ?_)) (Less.refl _) (by kernel_rfl) (by kernel_rfl) (by kernel_rfl) ?_ ?_
    · refine ⟨?_, ?_, ?_, ?_, ?_, ?_, ?_, ?_, ?_, ?_, ?_, ?_, ?_, ?_, trivial⟩
      · (intro x EF MF Q kk; exact JL.q (OQ.fldx (o := 10) rfl rfl rfl (by decide) rfl rfl) rfl (JL.nil (kk default nofun)))
      · (intro x EF MF Q kk; exact JL.q (OQ.load_agg (cs := X3.l.map U64) n5a n5s rfl .here rfl (Row.cells rfl)) rfl (JL.nil (kk default nofun)))
      · (intro x EF MF Q kk; exact JL.q (OQ.fldx (o := 15) rfl rfl rfl (by decide) rfl rfl) rfl (JL.nil (kk default nofun)))
      · (intro x EF MF Q kk; exact JL.q (OQ.load_agg (cs := Z3.l.map U64) n5a n5s rfl .here rfl (Row.cells rfl)) rfl (JL.nil (kk default nofun)))
      · (intro x EF MF Q kk; exact JL.q (OQ.callx (vs := [.agg (X3.l.map U64).toArray, .agg (Z3.l.map U64).toArray]) goes_sum rfl fun w' _ => c_C w') rfl (JL.nil (kk default nofun)))
      · (intro x EF MF Q kk; exact JL.q (OQ.fldx (o := 10) rfl rfl rfl (by decide) rfl rfl) rfl (JL.nil (kk default nofun)))
      · (intro x EF MF Q kk; exact JL.q (OQ.load_agg (cs := X3.l.map U64) n5a n5s rfl .here rfl (Row.cells rfl)) rfl (JL.nil (kk default nofun)))
      · (intro x EF MF Q kk; exact JL.q (OQ.fldx (o := 15) rfl rfl rfl (by decide) rfl rfl) rfl (JL.nil (kk default nofun)))
      · (intro x EF MF Q kk; exact JL.q (OQ.load_agg (cs := Z3.l.map U64) n5a n5s rfl .here rfl (Row.cells rfl)) rfl (JL.nil (kk default nofun)))
      · (intro x EF MF Q kk; exact JL.q (OQ.callx (vs := [.agg (X3.l.map U64).toArray, .agg (Z3.l.map U64).toArray]) goes_difference rfl fun w' _ => c_D w') rfl (JL.nil (kk default nofun)))
      · (intro x EF MF Q kk; exact JL.alloc n5z rfl fun b _ => JL.nil (kk b nofun))
      · (intro x EF MF Q kk; exact JL.alloc n5z rfl fun b _ => JL.nil (kk b nofun))
      · (intro x EF MF Q kk; exact JL.store_all (cs := C.l.map U64) n5s rfl rfl rfl (W_cell _) .here rfl (JL.nil (kk (x 10) (fun k h => by cases h; rfl))))
      · (intro x EF MF Q kk; exact JL.store_all (cs := D.l.map U64) n5s rfl rfl rfl (W_cell _) .here rfl (JL.nil (kk (x 11) (fun k h => by cases h; rfl))))
    · intro x hx
      have h12 := hx 12 10 (by decide) rfl
      have h13 := hx 13 11 (by decide) rfl
      show JE _ _ _ _ _ [(7, Pt (x 10) 0), (8, Pt (x 11) 0), (5, Pt b5 0), (6, Pt b6 0), (2, Pt b2 0), (3, Pt b3 0), (4, Pt b4 0)] [⟨(x 12), Row 59 (C.l.map U64), true⟩, ⟨(x 13), Row 59 (D.l.map U64), true⟩, ⟨b5, Row 59 (A.l.map U64), true⟩, ⟨b6, Row 59 (B.l.map U64), true⟩, ⟨b4, Row 62 (zeroL.l.map U64), true⟩, ⟨b3, Row 59 (x1.l.map U64), true⟩, ⟨b2, Row 62 ((X2.l ++ Z2.l ++ X3.l ++ Z3.l).map U64), true⟩]
      rw [h12, h13]
      generalize x 10 = b7
      generalize x 11 = b8
      clear hx h12 h13 x vs Ms
      repeat (first | refine JC.seq ?_ | refine JE.next ?_)
      let vs : Nat → Nat → Value := fun j x => match j with
        | 0 => .agg (A.l.map U64).toArray
        | 1 => .agg (A.l.map U64).toArray
        | 2 => .agg (AA.l.map U64).toArray
        | 3 => .agg (B.l.map U64).toArray
        | 4 => .agg (B.l.map U64).toArray
        | 5 => .agg (BB.l.map U64).toArray
        | _ => Pt x 0
      let Ms : Nat → Nat → List Ent := fun j x => match j with
        | 6 => [⟨x, Row 59 (zeroN.l.map U64), true⟩]
        | 7 => [⟨x, Row 59 (zeroN.l.map U64), true⟩]
        | 8 => [⟨x, Row 59 (AA.l.map U64), true⟩]
        | 9 => [⟨x, Row 59 (BB.l.map U64), true⟩]
        | 10 => [⟨b7, Row 59 (C.l.map U64), true⟩]
        | 11 => [⟨b8, Row 59 (D.l.map U64), true⟩]
        | 12 => [⟨b5, Row 59 (A.l.map U64), true⟩]
        | 13 => [⟨b6, Row 59 (B.l.map U64), true⟩]
        | 14 => [⟨b4, Row 62 (zeroL.l.map U64), true⟩]
        | 15 => [⟨b3, Row 59 (x1.l.map U64), true⟩]
        | 16 => [⟨b2, Row 62 ((X2.l ++ Z2.l ++ X3.l ++ Z3.l).map U64), true⟩]
        | _ => []
      refine JC.grow (g := ⟨[(7, Pt b7 0), (8, Pt b8 0), (5, Pt b5 0), (6, Pt b6 0), (2, Pt b2 0), (3, Pt b3 0), (4, Pt b4 0)], 17, vs, Ms, (fun j => match j with | 2 => [(0, 36), (1, 37)] | 5 => [(3, 39), (4, 40)] | 8 => [(6, 9), (2, 38)] | 9 => [(7, 10), (5, 41)] | _ => []), (fun j => match j with | 0 => [12] | 1 => [12] | 3 => [13] | 4 => [13] | 8 => [6] | 9 => [7] | _ => []), (fun j => match j with | 8 => [6] | 9 => [7] | _ => []), (fun j => match j with | 8 => some 6 | 9 => some 7 | _ => none)⟩) [(6, 9), (7, 10)] [8, 9, 10, 11, 12, 13, 14, 15, 16] mixC (by repeat (first | exact SubE.nil | refine SubE.cons _ _ _ rfl ?_)) (Less.refl _) (by kernel_rfl) (by kernel_rfl) (by kernel_rfl) ?_ ?_
      · refine ⟨?_, ?_, ?_, ?_, ?_, ?_, ?_, ?_, ?_, ?_, trivial⟩
        · (intro x EF MF Q kk; exact JL.q (OQ.load_agg (cs := A.l.map U64) n5a n5s rfl .here rfl Row.all) rfl (JL.nil (kk default nofun)))
        · (intro x EF MF Q kk; exact JL.q (OQ.load_agg (cs := A.l.map U64) n5a n5s rfl .here rfl Row.all) rfl (JL.nil (kk default nofun)))
        · (intro x EF MF Q kk; exact JL.q (OQ.callx (vs := [.agg (A.l.map U64).toArray, .agg (A.l.map U64).toArray]) goes_product rfl fun w' _ => c_AA w') rfl (JL.nil (kk default nofun)))
        · (intro x EF MF Q kk; exact JL.q (OQ.load_agg (cs := B.l.map U64) n5a n5s rfl .here rfl Row.all) rfl (JL.nil (kk default nofun)))
        · (intro x EF MF Q kk; exact JL.q (OQ.load_agg (cs := B.l.map U64) n5a n5s rfl .here rfl Row.all) rfl (JL.nil (kk default nofun)))
        · (intro x EF MF Q kk; exact JL.q (OQ.callx (vs := [.agg (B.l.map U64).toArray, .agg (B.l.map U64).toArray]) goes_product rfl fun w' _ => c_BB w') rfl (JL.nil (kk default nofun)))
        · (intro x EF MF Q kk; exact JL.alloc n5z rfl fun b _ => JL.nil (kk b nofun))
        · (intro x EF MF Q kk; exact JL.alloc n5z rfl fun b _ => JL.nil (kk b nofun))
        · (intro x EF MF Q kk; exact JL.store_all (cs := AA.l.map U64) n5s rfl rfl rfl (W_cell _) .here rfl (JL.nil (kk (x 6) (fun k h => by cases h; rfl))))
        · (intro x EF MF Q kk; exact JL.store_all (cs := BB.l.map U64) n5s rfl rfl rfl (W_cell _) .here rfl (JL.nil (kk (x 7) (fun k h => by cases h; rfl))))
      · intro x hx
        have h8 := hx 8 6 (by decide) rfl
        have h9 := hx 9 7 (by decide) rfl
        show JE _ _ _ _ _ [(9, Pt (x 6) 0), (10, Pt (x 7) 0), (7, Pt b7 0), (8, Pt b8 0), (5, Pt b5 0), (6, Pt b6 0), (2, Pt b2 0), (3, Pt b3 0), (4, Pt b4 0)] [⟨(x 8), Row 59 (AA.l.map U64), true⟩, ⟨(x 9), Row 59 (BB.l.map U64), true⟩, ⟨b7, Row 59 (C.l.map U64), true⟩, ⟨b8, Row 59 (D.l.map U64), true⟩, ⟨b5, Row 59 (A.l.map U64), true⟩, ⟨b6, Row 59 (B.l.map U64), true⟩, ⟨b4, Row 62 (zeroL.l.map U64), true⟩, ⟨b3, Row 59 (x1.l.map U64), true⟩, ⟨b2, Row 62 ((X2.l ++ Z2.l ++ X3.l ++ Z3.l).map U64), true⟩]
        rw [h8, h9]
        generalize x 6 = b9
        generalize x 7 = b10
        clear hx h8 h9 x vs Ms
        repeat (first | refine JC.seq ?_ | refine JE.next ?_)
        let vs : Nat → Nat → Value := fun j x => match j with
          | 0 => .agg (D.l.map U64).toArray
          | 1 => .agg (A.l.map U64).toArray
          | 2 => .agg (DA.l.map U64).toArray
          | 3 => .agg (C.l.map U64).toArray
          | 4 => .agg (B.l.map U64).toArray
          | 5 => .agg (CB.l.map U64).toArray
          | _ => Pt x 0
        let Ms : Nat → Nat → List Ent := fun j x => match j with
          | 6 => [⟨x, Row 59 (zeroN.l.map U64), true⟩]
          | 7 => [⟨x, Row 59 (zeroN.l.map U64), true⟩]
          | 8 => [⟨x, Row 59 (DA.l.map U64), true⟩]
          | 9 => [⟨x, Row 59 (CB.l.map U64), true⟩]
          | 10 => [⟨b9, Row 59 (AA.l.map U64), true⟩]
          | 11 => [⟨b10, Row 59 (BB.l.map U64), true⟩]
          | 12 => [⟨b7, Row 59 (C.l.map U64), true⟩]
          | 13 => [⟨b8, Row 59 (D.l.map U64), true⟩]
          | 14 => [⟨b5, Row 59 (A.l.map U64), true⟩]
          | 15 => [⟨b6, Row 59 (B.l.map U64), true⟩]
          | 16 => [⟨b4, Row 62 (zeroL.l.map U64), true⟩]
          | 17 => [⟨b3, Row 59 (x1.l.map U64), true⟩]
          | 18 => [⟨b2, Row 62 ((X2.l ++ Z2.l ++ X3.l ++ Z3.l).map U64), true⟩]
          | _ => []
        refine JC.grow (g := ⟨[(9, Pt b9 0), (10, Pt b10 0), (7, Pt b7 0), (8, Pt b8 0), (5, Pt b5 0), (6, Pt b6 0), (2, Pt b2 0), (3, Pt b3 0), (4, Pt b4 0)], 19, vs, Ms, (fun j => match j with | 2 => [(0, 42), (1, 43)] | 5 => [(3, 45), (4, 46)] | 8 => [(6, 11), (2, 44)] | 9 => [(7, 12), (5, 47)] | _ => []), (fun j => match j with | 0 => [13] | 1 => [14] | 3 => [12] | 4 => [15] | 8 => [6] | 9 => [7] | _ => []), (fun j => match j with | 8 => [6] | 9 => [7] | _ => []), (fun j => match j with | 8 => some 6 | 9 => some 7 | _ => none)⟩) [(6, 11), (7, 12)] [8, 9, 10, 11, 12, 13, 14, 15, 16, 17, 18] mixC (by repeat (first | exact SubE.nil | refine SubE.cons _ _ _ rfl ?_)) (Less.refl _) (by kernel_rfl) (by kernel_rfl) (by kernel_rfl) ?_ ?_
        · refine ⟨?_, ?_, ?_, ?_, ?_, ?_, ?_, ?_, ?_, ?_, trivial⟩
          · (intro x EF MF Q kk; exact JL.q (OQ.load_agg (cs := D.l.map U64) n5a n5s rfl .here rfl Row.all) rfl (JL.nil (kk default nofun)))
          · (intro x EF MF Q kk; exact JL.q (OQ.load_agg (cs := A.l.map U64) n5a n5s rfl .here rfl Row.all) rfl (JL.nil (kk default nofun)))
          · (intro x EF MF Q kk; exact JL.q (OQ.callx (vs := [.agg (D.l.map U64).toArray, .agg (A.l.map U64).toArray]) goes_product rfl fun w' _ => c_DA w') rfl (JL.nil (kk default nofun)))
          · (intro x EF MF Q kk; exact JL.q (OQ.load_agg (cs := C.l.map U64) n5a n5s rfl .here rfl Row.all) rfl (JL.nil (kk default nofun)))
          · (intro x EF MF Q kk; exact JL.q (OQ.load_agg (cs := B.l.map U64) n5a n5s rfl .here rfl Row.all) rfl (JL.nil (kk default nofun)))
          · (intro x EF MF Q kk; exact JL.q (OQ.callx (vs := [.agg (C.l.map U64).toArray, .agg (B.l.map U64).toArray]) goes_product rfl fun w' _ => c_CB w') rfl (JL.nil (kk default nofun)))
          · (intro x EF MF Q kk; exact JL.alloc n5z rfl fun b _ => JL.nil (kk b nofun))
          · (intro x EF MF Q kk; exact JL.alloc n5z rfl fun b _ => JL.nil (kk b nofun))
          · (intro x EF MF Q kk; exact JL.store_all (cs := DA.l.map U64) n5s rfl rfl rfl (W_cell _) .here rfl (JL.nil (kk (x 6) (fun k h => by cases h; rfl))))
          · (intro x EF MF Q kk; exact JL.store_all (cs := CB.l.map U64) n5s rfl rfl rfl (W_cell _) .here rfl (JL.nil (kk (x 7) (fun k h => by cases h; rfl))))
        · intro x hx
          have h8 := hx 8 6 (by decide) rfl
          have h9 := hx 9 7 (by decide) rfl
          show JE _ _ _ _ _ [(11, Pt (x 6) 0), (12, Pt (x 7) 0), (9, Pt b9 0), (10, Pt b10 0), (7, Pt b7 0), (8, Pt b8 0), (5, Pt b5 0), (6, Pt b6 0), (2, Pt b2 0), (3, Pt b3 0), (4, Pt b4 0)] [⟨(x 8), Row 59 (DA.l.map U64), true⟩, ⟨(x 9), Row 59 (CB.l.map U64), true⟩, ⟨b9, Row 59 (AA.l.map U64), true⟩, ⟨b10, Row 59 (BB.l.map U64), true⟩, ⟨b7, Row 59 (C.l.map U64), true⟩, ⟨b8, Row 59 (D.l.map U64), true⟩, ⟨b5, Row 59 (A.l.map U64), true⟩, ⟨b6, Row 59 (B.l.map U64), true⟩, ⟨b4, Row 62 (zeroL.l.map U64), true⟩, ⟨b3, Row 59 (x1.l.map U64), true⟩, ⟨b2, Row 62 ((X2.l ++ Z2.l ++ X3.l ++ Z3.l).map U64), true⟩]
          rw [h8, h9]
          generalize x 6 = b11
          generalize x 7 = b12
          clear hx h8 h9 x vs Ms
          repeat (first | refine JC.seq ?_ | refine JC.region ?_ | refine JE.next ?_)
          repeat (refine JL.q (by first | (apply OQ.load_agg (cs := AA.l.map U64); exact n5a; exact n5s; exact rfl; exact (by repeat (first | exact Has.here | apply Has.there)); exact rfl; exact Row.all) | (apply OQ.load_agg (cs := BB.l.map U64); exact n5a; exact n5s; exact rfl; exact (by repeat (first | exact Has.here | apply Has.there)); exact rfl; exact Row.all) | (apply OQ.callx (vs := [.agg (AA.l.map U64).toArray, .agg (BB.l.map U64).toArray]); exact goes_difference; exact rfl; exact (fun w' _ => c_E w'))) rfl ?_)
          refine JL.alloc n5z rfl fun b13 _ => ?_
          refine JL.store_all (cs := E.l.map U64) n5s rfl rfl rfl (W_cell _) .here rfl ?_
          repeat (first | refine JC.seq ?_ | refine JL.nil ?_ | refine JE.next ?_)
          let vs : Nat → Nat → Value := fun j x => match j with
            | 0 => .agg (DA.l.map U64).toArray
            | 1 => .agg (CB.l.map U64).toArray
            | 2 => .agg (M.l.map U64).toArray
            | 3 => .agg (DA.l.map U64).toArray
            | 4 => .agg (CB.l.map U64).toArray
            | 5 => .agg (S.l.map U64).toArray
            | _ => Pt x 0
          let Ms : Nat → Nat → List Ent := fun j x => match j with
            | 6 => [⟨x, Row 59 (zeroN.l.map U64), true⟩]
            | 7 => [⟨x, Row 59 (zeroN.l.map U64), true⟩]
            | 8 => [⟨x, Row 59 (M.l.map U64), true⟩]
            | 9 => [⟨x, Row 59 (S.l.map U64), true⟩]
            | 10 => [⟨b13, Row 59 (E.l.map U64), true⟩]
            | 11 => [⟨b11, Row 59 (DA.l.map U64), true⟩]
            | 12 => [⟨b12, Row 59 (CB.l.map U64), true⟩]
            | 13 => [⟨b9, Row 59 (AA.l.map U64), true⟩]
            | 14 => [⟨b10, Row 59 (BB.l.map U64), true⟩]
            | 15 => [⟨b7, Row 59 (C.l.map U64), true⟩]
            | 16 => [⟨b8, Row 59 (D.l.map U64), true⟩]
            | 17 => [⟨b5, Row 59 (A.l.map U64), true⟩]
            | 18 => [⟨b6, Row 59 (B.l.map U64), true⟩]
            | 19 => [⟨b4, Row 62 (zeroL.l.map U64), true⟩]
            | 20 => [⟨b3, Row 59 (x1.l.map U64), true⟩]
            | 21 => [⟨b2, Row 62 ((X2.l ++ Z2.l ++ X3.l ++ Z3.l).map U64), true⟩]
            | _ => []
          refine JC.grow (g := ⟨[(13, Pt b13 0), (11, Pt b11 0), (12, Pt b12 0), (9, Pt b9 0), (10, Pt b10 0), (7, Pt b7 0), (8, Pt b8 0), (5, Pt b5 0), (6, Pt b6 0), (2, Pt b2 0), (3, Pt b3 0), (4, Pt b4 0)], 22, vs, Ms, (fun j => match j with | 2 => [(0, 51), (1, 52)] | 5 => [(3, 54), (4, 55)] | 8 => [(6, 14), (2, 53)] | 9 => [(7, 15), (5, 56)] | _ => []), (fun j => match j with | 0 => [11] | 1 => [12] | 3 => [11] | 4 => [12] | 8 => [6] | 9 => [7] | _ => []), (fun j => match j with | 8 => [6] | 9 => [7] | _ => []), (fun j => match j with | 8 => some 6 | 9 => some 7 | _ => none)⟩) [(6, 14), (7, 15)] [8, 9, 10, 11, 12, 13, 14, 15, 16, 17, 18, 19, 20, 21] mixC (by repeat (first | exact SubE.nil | refine SubE.cons _ _ _ rfl ?_)) (Less.refl _) (by kernel_rfl) (by kernel_rfl) (by kernel_rfl) ?_ ?_
          · refine ⟨?_, ?_, ?_, ?_, ?_, ?_, ?_, ?_, ?_, ?_, trivial⟩
            · (intro x EF MF Q kk; exact JL.q (OQ.load_agg (cs := DA.l.map U64) n5a n5s rfl .here rfl Row.all) rfl (JL.nil (kk default nofun)))
            · (intro x EF MF Q kk; exact JL.q (OQ.load_agg (cs := CB.l.map U64) n5a n5s rfl .here rfl Row.all) rfl (JL.nil (kk default nofun)))
            · (intro x EF MF Q kk; exact JL.q (OQ.callx (vs := [.agg (DA.l.map U64).toArray, .agg (CB.l.map U64).toArray]) goes_sum rfl fun w' _ => c_M w') rfl (JL.nil (kk default nofun)))
            · (intro x EF MF Q kk; exact JL.q (OQ.load_agg (cs := DA.l.map U64) n5a n5s rfl .here rfl Row.all) rfl (JL.nil (kk default nofun)))
            · (intro x EF MF Q kk; exact JL.q (OQ.load_agg (cs := CB.l.map U64) n5a n5s rfl .here rfl Row.all) rfl (JL.nil (kk default nofun)))
            · (intro x EF MF Q kk; exact JL.q (OQ.callx (vs := [.agg (DA.l.map U64).toArray, .agg (CB.l.map U64).toArray]) goes_difference rfl fun w' _ => c_S w') rfl (JL.nil (kk default nofun)))
            · (intro x EF MF Q kk; exact JL.alloc n5z rfl fun b _ => JL.nil (kk b nofun))
            · (intro x EF MF Q kk; exact JL.alloc n5z rfl fun b _ => JL.nil (kk b nofun))
            · (intro x EF MF Q kk; exact JL.store_all (cs := M.l.map U64) n5s rfl rfl rfl (W_cell _) .here rfl (JL.nil (kk (x 6) (fun k h => by cases h; rfl))))
            · (intro x EF MF Q kk; exact JL.store_all (cs := S.l.map U64) n5s rfl rfl rfl (W_cell _) .here rfl (JL.nil (kk (x 7) (fun k h => by cases h; rfl))))
          · intro x hx
            have h8 := hx 8 6 (by decide) rfl
            have h9 := hx 9 7 (by decide) rfl
            show JE _ _ _ _ _ [(14, Pt (x 6) 0), (15, Pt (x 7) 0), (13, Pt b13 0), (11, Pt b11 0), (12, Pt b12 0), (9, Pt b9 0), (10, Pt b10 0), (7, Pt b7 0), (8, Pt b8 0), (5, Pt b5 0), (6, Pt b6 0), (2, Pt b2 0), (3, Pt b3 0), (4, Pt b4 0)] [⟨(x 8), Row 59 (M.l.map U64), true⟩, ⟨(x 9), Row 59 (S.l.map U64), true⟩, ⟨b13, Row 59 (E.l.map U64), true⟩, ⟨b11, Row 59 (DA.l.map U64), true⟩, ⟨b12, Row 59 (CB.l.map U64), true⟩, ⟨b9, Row 59 (AA.l.map U64), true⟩, ⟨b10, Row 59 (BB.l.map U64), true⟩, ⟨b7, Row 59 (C.l.map U64), true⟩, ⟨b8, Row 59 (D.l.map U64), true⟩, ⟨b5, Row 59 (A.l.map U64), true⟩, ⟨b6, Row 59 (B.l.map U64), true⟩, ⟨b4, Row 62 (zeroL.l.map U64), true⟩, ⟨b3, Row 59 (x1.l.map U64), true⟩, ⟨b2, Row 62 ((X2.l ++ Z2.l ++ X3.l ++ Z3.l).map U64), true⟩]
            rw [h8, h9]
            generalize x 6 = b14
            generalize x 7 = b15
            clear hx h8 h9 x vs Ms
            repeat (first | refine JC.seq ?_ | refine JE.next ?_)
            refine JC.tail 19 mixC (by kernel_rfl) ?_
            simp only [List.take_succ_cons, List.take_zero, List.drop_succ_cons, List.drop_zero]
            repeat (refine JQ.q (by first | (apply OQ.load_agg (cs := AA.l.map U64); exact n5a; exact n5s; exact rfl; exact (by repeat (first | exact Has.here | apply Has.there)); exact rfl; exact Row.all) | (apply OQ.load_agg (cs := BB.l.map U64); exact n5a; exact n5s; exact rfl; exact (by repeat (first | exact Has.here | apply Has.there)); exact rfl; exact Row.all) | (apply OQ.load_agg (cs := E.l.map U64); exact n5a; exact n5s; exact rfl; exact (by repeat (first | exact Has.here | apply Has.there)); exact rfl; exact Row.all) | (apply OQ.callx (vs := [.agg (AA.l.map U64).toArray, .agg (BB.l.map U64).toArray]); exact goes_product; exact rfl; exact (fun w' _ => c_R1 w'))) rfl ?_)
            refine JQ.q (OQ.pure (v := .agg (cN.l.map U64).toArray) rfl rfl (by kernel_rfl)) rfl ?_
            repeat (refine JQ.q (by first | (apply OQ.load_agg (cs := E.l.map U64); exact n5a; exact n5s; exact rfl; exact (by repeat (first | exact Has.here | apply Has.there)); exact rfl; exact Row.all) | (apply OQ.load_agg (cs := M.l.map U64); exact n5a; exact n5s; exact rfl; exact (by repeat (first | exact Has.here | apply Has.there)); exact rfl; exact Row.all) | (apply OQ.load_agg (cs := S.l.map U64); exact n5a; exact n5s; exact rfl; exact (by repeat (first | exact Has.here | apply Has.there)); exact rfl; exact Row.all) | (apply OQ.load_agg (cs := x1.l.map U64); exact n5a; exact n5s; exact rfl; exact (by repeat (first | exact Has.here | apply Has.there)); exact rfl; exact Row.all) | (apply OQ.callx (vs := [.agg (cN.l.map U64).toArray, .agg (E.l.map U64).toArray]); exact goes_product; exact rfl; exact (fun w' _ => c_F w')) | (apply OQ.callx (vs := [.agg (AA.l.map U64).toArray, .agg (F.l.map U64).toArray]); exact goes_sum; exact rfl; exact (fun w' _ => c_G w')) | (apply OQ.callx (vs := [.agg (E.l.map U64).toArray, .agg (G.l.map U64).toArray]); exact goes_product; exact rfl; exact (fun w' _ => c_R2 w')) | (apply OQ.callx (vs := [.agg (M.l.map U64).toArray, .agg (M.l.map U64).toArray]); exact goes_product; exact rfl; exact (fun w' _ => c_R3 w')) | (apply OQ.callx (vs := [.agg (S.l.map U64).toArray, .agg (S.l.map U64).toArray]); exact goes_product; exact rfl; exact (fun w' _ => c_SS w')) | (apply OQ.callx (vs := [.agg (x1.l.map U64).toArray, .agg (SS.l.map U64).toArray]); exact goes_product; exact rfl; exact (fun w' _ => c_R4 w'))) rfl ?_)
            refine JQ.q (OQ.pure (v := .agg ((R1.l ++ R2.l ++ R3.l ++ R4.l).map U64).toArray) rfl rfl (by kernel_rfl)) rfl ?_
            repeat (refine JQ.nil_tail ?_)
            refine JL.store_all (cs := (R1.l ++ R2.l ++ R3.l ++ R4.l).map U64) l20s rfl rfl rfl (W_cell _) (by repeat (first | exact Upd.here | apply Upd.there)) rfl ?_
            repeat (first | refine JL.nil ?_ | refine JE.next ?_)
            refine JC.ret (JE.ret1 rfl (RV.cell_agg l20a l20s rfl (by repeat (first | exact Has.here | apply Has.there)) rfl Row.all) ?_)
            exact fun w' hw => ⟨rfl, hw.chg⟩
end Go.Proofs.YtbihfhkbkcplmaaDoor

/-
  Of no statement by itself: that nought is nought any number of times, and that 9 is not, once; no program stands here.
  Conditions: none.
-/
namespace Go.Proofs.YtbihfhkbkcplmaaDoor
namespace Crv
def keyN (x : By) : List By := x :: List.replicate 31 0
end Crv
end Go.Proofs.YtbihfhkbkcplmaaDoor

/-
  Of no statement by itself: what the code's Clamp, Mult and Public give.
  Conditions: each theorem's own.
-/
namespace Go.Proofs.YtbihfhkbkcplmaaDoor
set_option maxRecDepth 10000
open Sl Crv
theorem goes_cclamp : Goes Tryd.prog 29 := ⟨_, Tryd.func29, rfl, by kernel_rfl⟩
theorem goes_cmult : Goes Tryd.prog 19 := ⟨_, Tryd.func19, rfl, by kernel_rfl⟩
theorem goes_cpublic : Goes Tryd.prog 17 := ⟨_, Tryd.func17, rfl, by kernel_rfl⟩
theorem multB_len (k u : List By) : (multB k u).length = 32 := keyF_len _
section
variable {P : Program} {n : Nat} {E : Env} {C : World → Prop} {dst : Option Tmp} {ty t t' : TypeId} {pos : String} {aft : Array Edge} {g : Option (Nat × Bool)} {x y : Operand}
theorem OQ.and8r {a b r : BitVec 8} (hx : ev E x = some (U8 a)) (hy : ev E y = some (U8 b)) (h : a &&& b = r) : OQ P n E C ⟨dst, .binOp .and t x y t', ty, pos, aft, g⟩ (U8 r) := h ▸ OQ.and8 hx hy
end
theorem low_is : ∀ x : By, x &&& 248#8 = x / 8 * 8 := by decide +kernel
theorem high_is : ∀ x : By, x &&& 127#8 ||| 64#8 = x % 64 + 64 := by decide +kernel
set_option maxHeartbeats 8000000 in
theorem cclamp_any (k : List By) (hk : k.length = 32) (w : World) : Calls Tryd.prog 29 [.agg (k.map U8).toArray].toArray w fun e w' => e = .returned (.agg ((clampB k).map U8).toArray) ∧ Ext w w' := by
  have hc0 := U8_nth (l := k) (i := 0) (by omega)
  have hc31 := U8_nth (l := k.set 0 (k.getD 0 0 / 8 * 8)) (i := 31) (by rw [List.length_set]; omega)
  have hlK : ((clampB k).map U8).length = 32 := by rw [List.length_map, clampB_len]; exact hk
  refine enter (n := 16) Tryd.func29 rfl rfl rfl (Holds.start w []) ?_
  repeat (first | refine JC.seq ?_ | refine JC.region ?_)
  refine JL.box (r := k.map U8) rfl rfl rfl fun b1 _ => ?_
  refine JL.alloc k32z rfl fun b2 _ => ?_
  repeat (first | refine JL.q (by first | (apply OQ.idxA0; exact Tryd.underlying23; exact y1s; exact rfl; exact rfl; exact (by decide)) | (apply OQ.load; exact y1c; exact rfl; exact (.there .here); exact (Row.cell hc0)) | (apply OQ.and8 (b := 248#8); exact rfl; exact rfl) | (apply OQ.assign; exact rfl)) rfl ?_ | refine JC.seq ?_ | refine JC.region ?_ | refine JL.nil ?_ | refine JE.next ?_)
  refine JL.store_eq (r' := (k.set 0 (k.getD 0 0 / 8 * 8)).map U8) y1s rfl rfl rfl rfl (.there .here) (by rw [List.length_map, hk]; decide) (by rw [low_is]; exact Y_set _ _ _) ?_
  repeat (first | refine JL.q (by first | (apply OQ.idxA0; exact Tryd.underlying23; exact y1s; exact rfl; exact rfl; exact (by decide)) | (apply OQ.load; exact y1c; exact rfl; exact (.there .here); exact (Row.cell hc31)) | (apply OQ.and8 (b := 127#8); exact rfl; exact rfl) | (apply OQ.or8 (b := 64#8); exact rfl; exact rfl) | (apply OQ.move; exact rfl)) rfl ?_ | refine JC.seq ?_ | refine JC.region ?_ | refine JL.nil ?_ | refine JE.next ?_)
  refine JL.store_eq (r' := (clampB k).map U8) y1s rfl rfl rfl rfl (.there .here) (by rw [List.length_map, List.length_set, hk]; decide) (by rw [high_is]; exact Y_set _ _ _) ?_
  generalize clampB k = K at hlK ⊢
  repeat (first | refine JL.q (by (apply OQ.load_agg (cs := K.map U8); exact k32a; exact k32s; exact rfl; exact (.there .here); exact hlK; exact Row.all)) rfl ?_ | refine JC.seq ?_ | refine JC.region ?_ | refine JL.nil ?_ | refine JE.next ?_)
  refine JL.store_all (cs := K.map U8) k32s rfl rfl hlK (Y_cell _) .here (by simp) ?_
  repeat (first | refine JL.nil ?_ | refine JE.next ?_)
  refine JC.ret (JE.ret1 rfl (RV.cell_agg k32a k32s rfl .here hlK Row.all) ?_)
  exact fun w' hw => ⟨rfl, hw.chg⟩
set_option maxHeartbeats 32000000 in
set_option maxRecDepth 4000 in
theorem cmult_any (k u : List By) (hk : k.length = 32) (hu : u.length = 32) (w : World) : Calls Tryd.prog 19 [.agg (k.map U8).toArray, .agg (u.map U8).toArray].toArray w fun e w' => e = .returned (.agg ((multB k u).map U8).toArray) ∧ Ext w w' := by
  have cC := cclamp_any k hk
  have cN := numberOf_any u hu
  have eM := mltB_is k u hu
  have lM := multB_len k u
  unfold mltB at eM
  have hK : (clampB k).length = 32 := by rw [clampB_len]; exact hk
  have hlk : (k.map U8).length = 32 := by rw [List.length_map]; exact hk
  have hlu : (u.map U8).length = 32 := by rw [List.length_map]; exact hu
  have hlK : ((clampB k).map U8).length = 32 := by rw [List.length_map]; exact hK
  generalize clampB k = K at cC eM hK hlK
  generalize numB u = x1 at cN eM
  generalize multB k u = R at eM lM ⊢
  refine enter (n := 47) Tryd.func19 rfl rfl rfl (Holds.start w []) ?_
  repeat (first | refine JC.seq ?_ | refine JC.region ?_)
  refine JL.box (r := k.map U8) rfl rfl rfl fun b2 _ => ?_
  refine JL.box (r := u.map U8) rfl rfl rfl fun b3 _ => ?_
  refine JL.alloc k32z rfl fun b4 _ => ?_
  repeat (first | refine JC.seq ?_ | refine JL.nil ?_ | refine JE.next ?_)
  let vs : Nat → Nat → Value := fun j x => match j with
    | 0 => .agg (k.map U8).toArray
    | 1 => .agg (K.map U8).toArray
    | 2 => .agg (u.map U8).toArray
    | 3 => .agg (x1.l.map U64).toArray
    | _ => Pt x 0
  let Ms : Nat → Nat → List Ent := fun j x => match j with
    | 4 => [⟨x, Row 23 ((List.replicate 32 (0 : By)).map U8), true⟩]
    | 5 => [⟨x, Row 59 (zeroN.l.map U64), true⟩]
    | 6 => [⟨x, Row 23 (K.map U8), true⟩]
    | 7 => [⟨x, Row 59 (x1.l.map U64), true⟩]
    | 8 => [⟨b4, Row 23 ((List.replicate 32 (0 : By)).map U8), true⟩]
    | 9 => [⟨b3, Row 23 (u.map U8), true⟩]
    | 10 => [⟨b2, Row 23 (k.map U8), true⟩]
    | _ => []
  refine JC.grow (g := ⟨[(2, Pt b2 0), (3, Pt b3 0), (4, Pt b4 0)], 11, vs, Ms, (fun j => match j with | 1 => [(0, 11)] | 3 => [(2, 13)] | 6 => [(4, 5), (1, 12)] | 7 => [(5, 6), (3, 14)] | _ => []), (fun j => match j with | 0 => [10] | 2 => [9] | 6 => [4] | 7 => [5] | _ => []), (fun j => match j with | 6 => [4] | 7 => [5] | _ => []), (fun j => match j with | 6 => some 4 | 7 => some 5 | _ => none)⟩) [(4, 5), (5, 6)] [6, 7, 8, 9, 10] mixC (by repeat (first | exact SubE.nil | refine SubE.cons _ _ _ rfl ?_)) (Less.refl _) (by kernel_rfl) (by kernel_rfl) (by kernel_rfl) ?_ ?_
  · refine ⟨?_, ?_, ?_, ?_, ?_, ?_, ?_, ?_, trivial⟩
    · (intro x EF MF Q kk; exact JL.q (OQ.load_agg (cs := k.map U8) k32a k32s rfl .here hlk Row.all) rfl (JL.nil (kk default nofun)))
    · (intro x EF MF Q kk; exact JL.q (OQ.callx (vs := [.agg (k.map U8).toArray]) goes_cclamp rfl fun w' _ => cC w') rfl (JL.nil (kk default nofun)))
    · (intro x EF MF Q kk; exact JL.q (OQ.load_agg (cs := u.map U8) k32a k32s rfl .here hlu Row.all) rfl (JL.nil (kk default nofun)))
    · (intro x EF MF Q kk; exact JL.q (OQ.callx (vs := [.agg (u.map U8).toArray]) goes_numberOf rfl fun w' _ => cN w') rfl (JL.nil (kk default nofun)))
    · (intro x EF MF Q kk; exact JL.alloc k32z rfl fun b _ => JL.nil (kk b nofun))
    · (intro x EF MF Q kk; exact JL.alloc n5z rfl fun b _ => JL.nil (kk b nofun))
    · (intro x EF MF Q kk; exact JL.store_all (cs := K.map U8) k32s rfl rfl hlK (Y_cell _) .here rfl (JL.nil (kk (x 4) (fun k h => by cases h; rfl))))
    · (intro x EF MF Q kk; exact JL.store_all (cs := x1.l.map U64) n5s rfl rfl rfl (W_cell _) .here rfl (JL.nil (kk (x 5) (fun k h => by cases h; rfl))))
  · intro x hx
    have h6 := hx 6 4 (by decide) rfl
    have h7 := hx 7 5 (by decide) rfl
    show JE _ _ _ _ _ [(5, Pt (x 4) 0), (6, Pt (x 5) 0), (2, Pt b2 0), (3, Pt b3 0), (4, Pt b4 0)] [⟨(x 6), Row 23 (K.map U8), true⟩, ⟨(x 7), Row 59 (x1.l.map U64), true⟩, ⟨b4, Row 23 ((List.replicate 32 (0 : By)).map U8), true⟩, ⟨b3, Row 23 (u.map U8), true⟩, ⟨b2, Row 23 (k.map U8), true⟩]
    rw [h6, h7]
    generalize x 4 = b5
    generalize x 5 = b6
    clear hx h6 h7 x vs Ms
    repeat (first | refine JC.seq ?_ | refine JC.region ?_ | refine JE.next ?_)
    refine JL.q (OQ.pure (v := .agg (oneN.l.map U64).toArray) rfl rfl (by kernel_rfl)) rfl ?_
    repeat (refine JL.q (by (apply OQ.load_agg (cs := x1.l.map U64); exact n5a; exact n5s; exact rfl; exact (by repeat (first | exact Has.here | apply Has.there)); exact rfl; exact Row.all)) rfl ?_)
    refine JL.q (OQ.pure (v := .agg (oneN.l.map U64).toArray) rfl rfl (by kernel_rfl)) rfl ?_
    refine JL.q (OQ.pure (v := .agg ((ladB x1 (le K) 0).l.map U64).toArray) rfl rfl (by kernel_rfl)) rfl ?_
    refine JL.alloc l20z rfl fun b7 _ => ?_
    refine JL.store_all (cs := (ladB x1 (le K) 0).l.map U64) l20s rfl rfl rfl (W_cell _) .here rfl ?_
    repeat (first | refine JL.q (by (apply OQ.move; exact rfl)) rfl ?_ | refine JC.seq ?_ | refine JC.region ?_ | refine JC.block ?_ | refine JL.nil ?_ | refine JE.next ?_)
    refine JC.loop (fun n : Nat => [(4, Pt b4 0), (5, Pt b5 0), (6, Pt b6 0), (7, Pt b7 0), (19, N n)])
      (fun n => [⟨b7, Row 62 ((ladB x1 (le K) n).l.map U64), true⟩, ⟨b5, Row 23 (K.map U8), true⟩, ⟨b6, Row 59 (x1.l.map U64), true⟩, ⟨b4, Row 23 ((List.replicate 32 (0 : By)).map U8), true⟩])
      (fun n => 255 - n) (fun n => n ≤ 255) 0 (by omega) (by repeat (first | exact SubE.nil | refine SubE.cons _ _ _ rfl ?_)) (.keep _ _ _ _ _ _ (fun _ h => h) (.keep _ _ _ _ _ _ (fun _ h => h) (.keep _ _ _ _ _ _ (fun _ h => h) (.keep _ _ _ _ _ _ (fun _ h => h) (.nil _))))) ?_
    intro n hn
    repeat (first | refine JL.q (by (apply OQ.lssN; exact rfl; exact rfl)) rfl ?_ | refine JC.seq ?_ | refine JC.region ?_ | refine JL.nil ?_ | refine JE.next ?_)
    refine JC.cond rfl (fun h => ?_) (fun h => ?_)
    · have hn' : n < 255 := of_decide_eq_true h
      clear h hn eM
      have eN : ladB x1 (le K) (n + 1) = swB ((le K).testBit (254 - n)) (stpB x1 (swB ((le K).testBit (254 - n)) (ladB x1 (le K) n))) := rfl
      have hcb := U8_nth (l := K) (i := (254 - n) / 8) (by omega)
      have hbit : (K.getD ((254 - n) / 8) 0 >>> ((254 - n) % 8)) &&& 1#8 = bt ((le K).testBit (254 - n)) := by rw [bt_is _ _ (by omega), le_bit]
      have b32 : (254 - n) / 8 < 32 := by omega
      generalize (le K).testBit (254 - n) = c at eN hbit
      generalize ladB x1 (le K) n = s at eN ⊢
      have c1 := exchanged_any c s
      generalize swB c s = s1 at eN c1
      have c2 := stepped_any x1 s1
      generalize stpB x1 s1 = s2 at eN c2
      have c3 := exchanged_any c s2
      rw [← eN] at c3
      have e3 : ladB x1 (le K) (n + 1) = ladB x1 (le K) (n + 1) := rfl
      generalize hs3 : ladB x1 (le K) (n + 1) = s3 at c3
      clear eN e3
      repeat (first | refine JL.q (by first | (apply OQ.idxA0; exact Tryd.underlying23; exact y1s; exact rfl; exact rfl; exact b32) | (apply OQ.load; exact y1c; exact rfl; exact (.there .here); exact (Row.cell hcb)) | (apply OQ.shr8; exact rfl; exact rfl) | (apply OQ.and8r (b := 1#8) (r := bt c); exact rfl; exact rfl; exact hbit) | (apply OQ.move; exact rfl) | (apply OQ.assign; exact rfl) | (apply OQ.subN; exact rfl; exact rfl; exact (by (try simp only []); omega); exact (by (try simp only []); omega)) | (apply OQ.remN; exact rfl; exact rfl; exact (by (try simp only []); omega)) | (apply OQ.quoN; exact rfl; exact rfl; exact (by (try simp only []); omega); exact (by (try simp only []); omega))) rfl ?_ | refine JC.seq ?_ | refine JC.region ?_ | refine JC.block ?_ | refine JC.skip ?_ | refine JL.nil ?_ | refine JE.next ?_)
      refine JC.tail 7 mixC (by kernel_rfl) ?_
      simp only [List.take_succ_cons, List.take_zero, List.drop_succ_cons, List.drop_zero]
      repeat (first | refine JQ.q (by first | (apply OQ.load_agg (cs := s.l.map U64); exact l20a; exact l20s; exact rfl; exact .here; exact rfl; exact Row.all) | (apply OQ.load_agg (cs := x1.l.map U64); exact n5a; exact n5s; exact rfl; exact (by repeat (first | exact Has.here | apply Has.there)); exact rfl; exact Row.all) | (apply OQ.callx (vs := [.agg (s.l.map U64).toArray, U8 (bt c)]); exact goes_exchanged; exact rfl; exact (fun w' _ => c1 w')) | (apply OQ.callx (vs := [.agg (s1.l.map U64).toArray, .agg (x1.l.map U64).toArray]); exact goes_stepped; exact rfl; exact (fun w' _ => c2 w')) | (apply OQ.callx (vs := [.agg (s2.l.map U64).toArray, U8 (bt c)]); exact goes_exchanged; exact rfl; exact (fun w' _ => c3 w')) | (apply OQ.move; exact rfl)) rfl ?_ | refine JQ.nil_tail ?_)
      refine JL.store_all (cs := s3.l.map U64) l20s rfl rfl rfl (W_cell _) .here rfl ?_
      rw [← hs3]
      repeat (first | refine JL.q (by first | (apply OQ.move; exact rfl) | (apply OQ.addN; exact rfl; exact rfl; exact (by (try simp only []); omega))) rfl ?_ | refine JC.region ?_ | refine JL.nil ?_ | refine JE.next ?_ | refine JE.blk_normal ?_)
      exact JE.again (i := n) (n + 1) (by omega) (by omega) (by repeat (first | exact SubE.nil | refine SubE.cons _ _ _ rfl ?_)) (Less.refl _)
    · have hn' : ¬ n < 255 := of_decide_eq_false h
      obtain rfl : n = 255 := by omega
      clear h hn hn'
      generalize ladB x1 (le K) 255 = s at eM ⊢
      obtain ⟨x2, z2, x3, z3⟩ := s
      have c1 := inverse_any z2
      have c2 := product_any x2 (invB z2)
      have c3 := key5_any (prdB x2 (invB z2))
      have eM' : kyB (prdB x2 (invB z2)) = R := eM
      rw [eM'] at c3
      clear eM eM'
      generalize prdB x2 (invB z2) = q at c2 c3
      generalize invB z2 = v at c1 c2
      have hR : (R.map U8).length = 32 := by rw [List.length_map]; exact lM
      repeat (first | refine JC.seq ?_ | refine JC.exit ?_ | refine JE.next ?_ | refine JE.then_exit ?_ | refine JE.blk_hit ?_)
      refine JC.tail 7 mixC (by kernel_rfl) ?_
      simp only [List.take_succ_cons, List.take_zero, List.drop_succ_cons, List.drop_zero]
      repeat (first | refine JQ.q (by first | (apply OQ.load_agg (cs := x2.l.map U64); exact n5a; exact n5s; exact rfl; exact .here; exact rfl; exact (Row.cells rfl)) | (apply OQ.load_agg (cs := z2.l.map U64); exact n5a; exact n5s; exact rfl; exact .here; exact rfl; exact (Row.cells rfl)) | (apply OQ.callx (vs := [.agg (z2.l.map U64).toArray]); exact goes_inverse; exact rfl; exact (fun w' _ => c1 w')) | (apply OQ.callx (vs := [.agg (x2.l.map U64).toArray, .agg (v.l.map U64).toArray]); exact goes_product; exact rfl; exact (fun w' _ => c2 w')) | (apply OQ.callx (vs := [.agg (q.l.map U64).toArray]); exact goes_key5; exact rfl; exact (fun w' _ => c3 w')) | (apply OQ.fld; exact rfl; exact rfl; exact rfl; exact (by decide); exact rfl)) rfl ?_ | refine JQ.nil_tail ?_)
      refine JL.store_all (cs := R.map U8) k32s rfl rfl hR (Y_cell _) (by repeat (first | exact Upd.here | apply Upd.there)) (by simp) ?_
      repeat (first | refine JL.nil ?_ | refine JE.next ?_)
      refine JC.ret (JE.ret1 rfl (RV.cell_agg k32a k32s rfl (by repeat (first | exact Has.here | apply Has.there)) hR Row.all) ?_)
      exact fun w' hw => ⟨rfl, hw.chg⟩
set_option maxHeartbeats 8000000 in
theorem cpublic_any (k : List By) (hk : k.length = 32) (w : World) : Calls Tryd.prog 17 [.agg (k.map U8).toArray].toArray w fun e w' => e = .returned (.agg ((multB k (keyN 9)).map U8).toArray) ∧ Ext w w' := by
  have c := cmult_any k (keyN 9) hk rfl
  have hlk : (k.map U8).length = 32 := by rw [List.length_map]; exact hk
  have hly : ((multB k (keyN 9)).map U8).length = 32 := by rw [List.length_map]; exact multB_len _ _
  generalize multB k (keyN 9) = Y at c hly ⊢
  refine enter (n := 6) Tryd.func17 rfl rfl rfl (Holds.start w []) ?_
  repeat (first | refine JC.seq ?_ | refine JC.region ?_)
  refine JL.box (r := k.map U8) rfl rfl rfl fun b1 _ => ?_
  refine JL.alloc k32z rfl fun b2 _ => ?_
  repeat (first | refine JL.q (by (apply OQ.load_agg (cs := k.map U8); exact k32a; exact k32s; exact rfl; exact (.there .here); exact hlk; exact Row.all)) rfl ?_ | refine JC.seq ?_ | refine JC.region ?_ | refine JL.nil ?_ | refine JE.next ?_)
  refine JL.q (OQ.pure (v := .agg ((keyN 9).map U8).toArray) rfl rfl (by kernel_rfl)) rfl ?_
  repeat (refine JL.q (by (apply OQ.callx (vs := [.agg (k.map U8).toArray, .agg ((keyN 9).map U8).toArray]); exact goes_cmult; exact rfl; exact (fun w' _ => c w'))) rfl ?_)
  refine JL.store_all (cs := Y.map U8) k32s rfl rfl hly (Y_cell _) .here (by simp) ?_
  repeat (first | refine JL.nil ?_ | refine JE.next ?_)
  refine JC.ret (JE.ret1 rfl (RV.cell_agg k32a k32s rfl .here hly Row.all) ?_)
  exact fun w' hw => ⟨rfl, hw.chg⟩
end Go.Proofs.YtbihfhkbkcplmaaDoor

/-
  Of no statement by itself: what the code's New and Shared give.
  Conditions: each theorem's own.
-/
namespace Go.Proofs.YtbihfhkbkcplmaaDoor
set_option maxRecDepth 10000
open Sl Crv
section
variable {P : Program} {n : Nat} {E : Env} {C : World → Prop} {dst : Option Tmp} {ty t t' : TypeId} {pos : String} {aft : Array Edge} {g : Option (Nat × Bool)} {x y : Operand} {v u : Value} {cs : List Value}
/-- a literal of a struct of two parts -/
theorem OQ.build2 (hx : ev E x = some v) (hy : ev E y = some u) (h : P.built t [(0, v), (1, u)] = some cs.toArray) : OQ P n E C ⟨dst, .build t #[(0, x), (1, y)], ty, pos, aft, g⟩ (.agg cs.toArray) :=
  OQ.run fun a ha w _ => by
    have h1 := ha.eval hx
    have h2 := ha.eval hy
    have r := run_build w t #[(0, v), (1, u)] cs.toArray (by simpa using h)
    simp [execOp, h1, h2, r]
end
theorem fill2 (place : Nat → Option (Nat × Nat)) (h0 : place 0 = some (0, 32)) (h1 : place 1 = some (32, 32)) (a b : List By) (ha : a.length = 32) (hb : b.length = 32) :
    Instr.fill place (((List.replicate 64 (0 : By)).map U8).toArray) [(0, .agg (a.map U8).toArray), (1, .agg (b.map U8).toArray)] = some ((a ++ b).map U8).toArray := by
  have e : Instr.fill place (((List.replicate 64 (0 : By)).map U8).toArray) [(0, .agg (a.map U8).toArray), (1, .agg (b.map U8).toArray)] =
      Instr.fill (fun i => some (i * 32, 32)) (((List.replicate 64 (0 : By)).map U8).toArray) [(0, .agg (a.map U8).toArray), (1, .agg (b.map U8).toArray)] := by
    simp [Instr.fill, h0, h1]
  rw [e]
  obtain ⟨r, h6, h7, h8⟩ := Great.fill_dense (s := 32) (by decide) [.agg (a.map U8).toArray, .agg (b.map U8).toArray] 0 (((List.replicate 64 (0 : By)).map U8).toArray) (by simp [Value.cells, ha, hb]) (by simp)
  simp only [List.zipIdx_cons, List.zipIdx_nil, List.map_cons, List.map_nil] at h6
  have hr : r = ((a ++ b).map U8).toArray := by
    apply Array.ext_getElem?
    intro k
    rw [h8 k]
    by_cases hk : k < 32
    · rw [if_pos (by simp; omega)]
      simp [Nat.div_eq_of_lt hk, Nat.mod_eq_of_lt hk, Value.cells, List.getElem?_append, ha, hk]
    · by_cases hk2 : k < 64
      · rw [if_pos (by simp; omega)]
        have d : k / 32 = 1 := by omega
        have m : k % 32 = k - 32 := by omega
        simp [d, m, Value.cells, List.getElem?_append, ha, hk]
      · rw [if_neg (by simp; omega), Array.getElem?_eq_none (by simp; omega), Array.getElem?_eq_none (by simp; omega)]
  rw [← hr]
  exact h6
theorem p64s : szT Tryd.prog 28 = some 64 := by kernel_rfl
theorem p64a : aggT Tryd.prog 28 = true := by kernel_rfl
theorem p64z : zc Tryd.prog 28 = some ((List.replicate 64 (0 : By)).map U8) := by kernel_rfl
theorem pair_built (a b : List By) (ha : a.length = 32) (hb : b.length = 32) : Tryd.prog.built 28 [(0, .agg (a.map U8).toArray), (1, .agg (b.map U8).toArray)] = some ((a ++ b).map U8).toArray := by
  have h : Tryd.prog.built 28 [(0, .agg (a.map U8).toArray), (1, .agg (b.map U8).toArray)] = Instr.fill (fun i => #[(0, 32), (32, 32)][i]?) (((List.replicate 64 (0 : By)).map U8).toArray) [(0, .agg (a.map U8).toArray), (1, .agg (b.map U8).toArray)] := by kernel_rfl
  rw [h]
  exact fill2 _ rfl rfl a b ha hb
theorem goes_cnew : Goes Tryd.prog 10 := ⟨_, Tryd.func10, rfl, by kernel_rfl⟩
theorem goes_cshared : Goes Tryd.prog 14 := ⟨_, Tryd.func14, rfl, by kernel_rfl⟩
set_option maxHeartbeats 8000000 in
theorem cnew_any (k : List By) (hk : k.length = 32) (w : World) : Calls Tryd.prog 10 [.agg (k.map U8).toArray].toArray w fun e w' => e = .returned (.agg ((k ++ multB k (keyN 9)).map U8).toArray) ∧ Ext w w' := by
  have c := cpublic_any k hk
  have hY := multB_len k (keyN 9)
  generalize multB k (keyN 9) = Y at c hY ⊢
  have hlk : (k.map U8).length = 32 := by rw [List.length_map]; exact hk
  have hlp : ((k ++ Y).map U8).length = 64 := by rw [List.length_map, List.length_append, hk, hY]
  have bt := pair_built k Y hk hY
  refine enter (n := 7) Tryd.func10 rfl rfl rfl (Holds.start w []) ?_
  repeat (first | refine JC.seq ?_ | refine JC.region ?_)
  refine JL.box (r := k.map U8) rfl rfl rfl fun b1 _ => ?_
  refine JL.alloc p64z rfl fun b2 _ => ?_
  repeat (first | refine JC.seq ?_ | refine JL.nil ?_ | refine JE.next ?_)
  refine JC.tail 4 mixC (by kernel_rfl) ?_
  simp only [List.take_succ_cons, List.take_zero, List.drop_succ_cons, List.drop_zero]
  repeat (first | refine JQ.q (by first | (apply OQ.load_agg (cs := k.map U8); exact k32a; exact k32s; exact rfl; exact (by repeat (first | exact Has.here | apply Has.there)); exact hlk; exact Row.all) | (apply OQ.callx (vs := [.agg (k.map U8).toArray]); exact goes_cpublic; exact rfl; exact (fun w' _ => c w')) | (apply OQ.build2; exact rfl; exact rfl; exact bt)) rfl ?_ | refine JQ.nil_tail ?_)
  refine JL.store_all (cs := (k ++ Y).map U8) p64s rfl rfl hlp (Y_cell _) .here (by simp) ?_
  repeat (first | refine JL.nil ?_ | refine JE.next ?_)
  refine JC.ret (JE.ret1 rfl (RV.cell_agg p64a p64s rfl .here hlp Row.all) ?_)
  exact fun w' hw => ⟨rfl, hw.chg⟩
theorem half0 {a b : List By} (_ha : a.length = 32) : (((a ++ b).map U8).drop 0).take (a.map U8).length = a.map U8 := by
  simp [List.map_append]
theorem half1 {a b : List By} (ha : a.length = 32) : (((a ++ b).map U8).drop 32).take (b.map U8).length = b.map U8 := by
  rw [List.map_append, List.drop_left' (by rw [List.length_map]; exact ha), List.take_of_length_le (Nat.le_refl _)]
set_option maxHeartbeats 8000000 in
theorem cshared_any (a Y u : List By) (ha : a.length = 32) (hY : Y.length = 32) (hu : u.length = 32) (w : World) : Calls Tryd.prog 14 [.agg ((a ++ Y).map U8).toArray, .agg (u.map U8).toArray].toArray w
    fun e w' => e = .returned (.agg ((multB a u).map U8).toArray) ∧ Ext w w' := by
  have c := cmult_any a u ha hu
  have hla : (a.map U8).length = 32 := by rw [List.length_map]; exact ha
  have hlu : (u.map U8).length = 32 := by rw [List.length_map]; exact hu
  have hR : ((multB a u).map U8).length = 32 := by rw [List.length_map]; exact multB_len _ _
  have h0 := half0 (b := Y) ha
  generalize multB a u = R at c hR ⊢
  refine enter (n := 9) Tryd.func14 rfl rfl rfl (Holds.start w []) ?_
  repeat (first | refine JC.seq ?_ | refine JC.region ?_)
  refine JL.box (r := (a ++ Y).map U8) rfl rfl rfl fun b2 _ => ?_
  refine JL.box (r := u.map U8) rfl rfl rfl fun b3 _ => ?_
  refine JL.alloc k32z rfl fun b4 _ => ?_
  repeat (first | refine JL.q (by first | (apply OQ.load_agg (cs := a.map U8); exact k32a; exact k32s; exact rfl; exact (by repeat (first | exact Has.here | apply Has.there)); exact hla; exact (Row.cells h0)) | (apply OQ.load_agg (cs := u.map U8); exact k32a; exact k32s; exact rfl; exact (by repeat (first | exact Has.here | apply Has.there)); exact hlu; exact Row.all) | (apply OQ.callx (vs := [.agg (a.map U8).toArray, .agg (u.map U8).toArray]); exact goes_cmult; exact rfl; exact (fun w' _ => c w')) | (apply OQ.fld; exact rfl; exact rfl; exact rfl; exact (by decide); exact rfl)) rfl ?_ | refine JC.seq ?_ | refine JC.region ?_ | refine JL.nil ?_ | refine JE.next ?_)
  refine JL.store_all (cs := R.map U8) k32s rfl rfl hR (Y_cell _) .here (by simp) ?_
  repeat (first | refine JL.nil ?_ | refine JE.next ?_)
  refine JC.ret (JE.ret1 rfl (RV.cell_agg k32a k32s rfl .here hR Row.all) ?_)
  exact fun w' hw => ⟨rfl, hw.chg⟩
end Go.Proofs.YtbihfhkbkcplmaaDoor

/-
  Of no statement by itself: the digest and the code of bytes as plain functions of lists of bytes, and what they are good for; no program stands here.
  Conditions: none but each lemma's own.
-/
namespace Go.Proofs.YtbihfhkbkcplmaaDoor
namespace Sha
abbrev W := BitVec 32
abbrev B := BitVec 8
def rotr (x : W) (k : Nat) : W := x >>> k ||| x <<< (32 - k)
def K : List W := [1116352408, 1899447441, 3049323471, 3921009573, 961987163, 1508970993, 2453635748, 2870763221, 3624381080, 310598401, 607225278, 1426881987, 1925078388, 2162078206, 2614888103, 3248222580, 3835390401, 4022224774, 264347078, 604807628, 770255983, 1249150122, 1555081692, 1996064986, 2554220882, 2821834349, 2952996808, 3210313671, 3336571891, 3584528711, 113926993, 338241895, 666307205, 773529912, 1294757372, 1396182291, 1695183700, 1986661051, 2177026350, 2456956037, 2730485921, 2820302411, 3259730800, 3345764771, 3516065817, 3600352804, 4094571909, 275423344, 430227734, 506948616, 659060556, 883997877, 958139571, 1322822218, 1537002063, 1747873779, 1955562222, 2024104815, 2227730452, 2361852424, 2428436474, 2756734187, 3204031479, 3329325298]
structure St where
  a : W
  b : W
  c : W
  d : W
  e : W
  f : W
  g : W
  h : W
def St.list (s : St) : List W := [s.a, s.b, s.c, s.d, s.e, s.f, s.g, s.h]
def s0 (x : W) : W := rotr x 7 ^^^ rotr x 18 ^^^ x >>> 3
def s1 (x : W) : W := rotr x 17 ^^^ rotr x 19 ^^^ x >>> 10
def t1 (s : St) (k w : W) : W := s.h + (rotr s.e 6 ^^^ rotr s.e 11 ^^^ rotr s.e 25) + (s.e &&& s.f ^^^ ~~~s.e &&& s.g) + k + w
def t2 (s : St) : W := (rotr s.a 2 ^^^ rotr s.a 13 ^^^ rotr s.a 22) + (s.a &&& s.b ^^^ s.a &&& s.c ^^^ s.b &&& s.c)
def rnd (k w : W) (s : St) : St := ⟨t1 s k w + t2 s, s.a, s.b, s.c, s.d + t1 s k w, s.e, s.f, s.g⟩
def word (l : List B) (i : Nat) : W := (l.getD (4 * i) 0).setWidth 32 <<< 24 ||| (l.getD (4 * i + 1) 0).setWidth 32 <<< 16 ||| (l.getD (4 * i + 2) 0).setWidth 32 <<< 8 ||| (l.getD (4 * i + 3) 0).setWidth 32
def next (l : List W) : W := s1 (l.getD (l.length - 2) 0) + l.getD (l.length - 7) 0 + s0 (l.getD (l.length - 15) 0) + l.getD (l.length - 16) 0
/-- the first i words of a block -/
def ws (l : List B) : Nat → List W
  | 0 => []
  | i + 1 => ws l i ++ [if i < 16 then word l i else next (ws l i)]
def rounds (l : List B) (s : St) : Nat → St
  | 0 => s
  | i + 1 => rnd (K.getD i 0) ((ws l 64).getD i 0) (rounds l s i)
def St.add (s t : St) : St := ⟨s.a + t.a, s.b + t.b, s.c + t.c, s.d + t.d, s.e + t.e, s.f + t.f, s.g + t.g, s.h + t.h⟩
def compress (s : St) (l : List B) : St := s.add (rounds l s 64)
def fold (s : St) : Nat → List B → St
  | 0, _ => s
  | k + 1, l => fold (compress s (l.take 64)) k (l.drop 64)
def iv : St := ⟨1779033703, 3144134277, 1013904242, 2773480762, 1359893119, 2600822924, 528734635, 1541459225⟩
def be8 (n : BitVec 64) : List B := [(n >>> 56).setWidth 8, (n >>> 48).setWidth 8, (n >>> 40).setWidth 8, (n >>> 32).setWidth 8, (n >>> 24).setWidth 8, (n >>> 16).setWidth 8, (n >>> 8).setWidth 8, n.setWidth 8]
/-- what stands behind n bytes -/
def tail (n : Nat) : List B := 128 :: List.replicate ((119 - n % 64) % 64) 0 ++ be8 (BitVec.ofNat 64 n * 8)
def pad (l : List B) : List B := l ++ tail l.length
def be4 (x : W) : List B := [(x >>> 24).setWidth 8, (x >>> 16).setWidth 8, (x >>> 8).setWidth 8, x.setWidth 8]
def St.bytes (s : St) : List B := s.list.flatMap be4
def sha (l : List B) : List B := (fold iv ((pad l).length / 64) (pad l)).bytes
def filled (k : List B) : List B := if 64 < k.length then sha k ++ List.replicate 32 0 else k ++ List.replicate (64 - k.length) 0
def hmac (k b : List B) : List B := sha ((filled k).map (· ^^^ 92) ++ sha ((filled k).map (· ^^^ 54) ++ b))

theorem ws_length (l : List B) : ∀ i, (ws l i).length = i
  | 0 => rfl
  | i + 1 => by simp [ws, ws_length l i]
theorem ws_pre (l : List B) (i : Nat) : ∀ k, (ws l (i + k)).take i = ws l i
  | 0 => by rw [Nat.add_zero, List.take_of_length_le (by rw [ws_length]; omega)]
  | k + 1 => by
    rw [← Nat.add_assoc, ws, List.take_append_of_le_length (by rw [ws_length]; omega), ws_pre l i k]
theorem ws_at (l : List B) (i j : Nat) (h : i < j) : (ws l j).getD i 0 = if i < 16 then word l i else next (ws l i) := by
  have h1 := ws_pre l (i + 1) (j - (i + 1))
  rw [show i + 1 + (j - (i + 1)) = j by omega] at h1
  have h2 : (ws l j)[i]? = (ws l (i + 1))[i]? := by rw [← h1, List.getElem?_take_of_lt (by omega)]
  rw [List.getD_eq_getElem?_getD, h2]
  simp [ws, ws_length]
theorem K_length : K.length = 64 := rfl
theorem be8_length (n : BitVec 64) : (be8 n).length = 8 := rfl
theorem tail_length (n : Nat) : (tail n).length = 9 + (119 - n % 64) % 64 := by simp [tail, be8_length]; omega
theorem pad_length (l : List B) : (pad l).length % 64 = 0 := by
  simp only [pad, List.length_append, tail_length]; omega
theorem bytes_length (s : St) : s.bytes.length = 32 := rfl
theorem sha_length (l : List B) : (sha l).length = 32 := rfl
theorem list_length (s : St) : s.list.length = 8 := rfl
theorem fold_add (s : St) (a b : Nat) : ∀ (l : List B), fold s (a + b) l = fold (fold s a l) b (l.drop (64 * a)) := by
  induction a generalizing s with
  | zero => intro l; simp [fold]
  | succ a ih =>
    intro l
    rw [show a + 1 + b = (a + b) + 1 by omega, fold, ih, fold, List.drop_drop]
    congr 2
    omega
theorem fold_app (s : St) (k : Nat) : ∀ (l m : List B), 64 * k ≤ l.length → fold s k (l ++ m) = fold s k l := by
  induction k generalizing s with
  | zero => intros; rfl
  | succ k ih =>
    intro l m h
    simp only [fold]
    rw [List.take_append_of_le_length (by omega), List.drop_append_of_le_length (by omega), ih _ _ _ (by simp; omega)]
theorem filled_length (k : List B) : (filled k).length = 64 := by
  unfold filled
  split
  · simp [sha_length]
  · simp; omega

set_option maxRecDepth 100000 in
theorem abc : sha [97, 98, 99] = [0xba, 0x78, 0x16, 0xbf, 0x8f, 0x01, 0xcf, 0xea, 0x41, 0x41, 0x40, 0xde, 0x5d, 0xae, 0x22, 0x23, 0xb0, 0x03, 0x61, 0xa3, 0x96, 0x17, 0x7a, 0x9c, 0xb4, 0x10, 0xff, 0x61, 0xf2, 0x00, 0x15, 0xad] := by decide +kernel
end Sha
end Go.Proofs.YtbihfhkbkcplmaaDoor

/-
  Of no statement by itself: what math/bits.RotateLeft32, hash.turn, hash.schedule and hash.mix, despatchref01.right and .Table give.
  Conditions: each theorem's own.
-/
namespace Go.Proofs.YtbihfhkbkcplmaaDoor
set_option maxRecDepth 10000
open Sl Sha

theorem mixed : Tryd.prog.follows .mixedOrders = true := by kernel_rfl

theorem s54 : szT Tryd.prog 94 = some 1 := by kernel_rfl
theorem s5 : szT Tryd.prog 5 = some 1 := by kernel_rfl
theorem s53 : szT Tryd.prog 57 = some 1 := by kernel_rfl
theorem s55 : szT Tryd.prog 95 = some 64 := by kernel_rfl
theorem s57 : szT Tryd.prog 97 = some 8 := by kernel_rfl
theorem s60 : szT Tryd.prog 83 = some 64 := by kernel_rfl
theorem c54 : scal Tryd.prog 94 = true := by kernel_rfl
theorem c5 : scal Tryd.prog 5 = true := by kernel_rfl
theorem c53 : scal Tryd.prog 57 = true := by kernel_rfl
theorem a55 : aggT Tryd.prog 95 = true := by kernel_rfl
theorem a57 : aggT Tryd.prog 97 = true := by kernel_rfl
theorem a60 : aggT Tryd.prog 83 = true := by kernel_rfl
theorem goes_right : Goes Tryd.prog 63 := ⟨_, Tryd.func63, rfl, by kernel_rfl⟩
theorem goes_turn : Goes Tryd.prog 67 := ⟨_, Tryd.func67, rfl, by kernel_rfl⟩
theorem goes_rot : Goes Tryd.prog 68 := ⟨_, Tryd.func68, rfl, by kernel_rfl⟩
theorem goes_sched : Goes Tryd.prog 66 := ⟨_, Tryd.func66, rfl, by kernel_rfl⟩
theorem goes_mix : Goes Tryd.prog 64 := ⟨_, Tryd.func64, rfl, by kernel_rfl⟩
theorem goes_table : Goes Tryd.prog 62 := ⟨_, Tryd.func62, rfl, by kernel_rfl⟩

theorem right_any (x : W) (k : Nat) (hk : k < 32) (w : World) : Calls Tryd.prog 63 [U32 x, N k].toArray w fun e w' => e = .returned (U32 (rotr x k)) ∧ Ext w w' := by
  refine enter (n := 13) Tryd.func63 rfl rfl rfl (Holds.start w []) ?_
  refine JC.seq (JC.region ?_)
  repeat (refine JL.q (by (apply OQ.assign; exact rfl)) rfl ?_)
  refine JL.nil (JE.next (JC.seq (JC.quiet mixed (by kernel_rfl) ?_)))
  repeat (refine JQ.q (by first | (apply OQ.move; exact rfl) | (apply OQ.assign; exact rfl) | (apply OQ.or32; exact rfl; exact rfl) | (apply OQ.shr32; exact rfl; exact rfl) | (apply OQ.shl32; exact rfl; exact rfl) | (apply OQ.subN; exact rfl; exact rfl; exact (by (try simp only []); omega); exact (by (try simp only []); omega))) rfl ?_)
  refine JQ.nil (JE.next (JC.ret (JE.ret1 rfl (RV.tmp rfl) ?_)))
  exact fun w' hw => ⟨rfl, hw.chg⟩

theorem neg_and : ∀ k : Nat, k < 32 → 0 < k → (BitVec.ofInt 64 (-(k : Int)) &&& 31#64).toNat = 32 - k := by decide
theorem rot_any (x : W) (k : Nat) (hk : k < 32) (h0 : 0 < k) (w : World) : Calls Tryd.prog 68 [U32 x, .int .i64 (-(k : Int))].toArray w fun e w' => e = .returned (U32 (rotr x k)) ∧ Ext w w' := by
  have hna := neg_and k hk h0
  refine enter (n := 17) Tryd.func68 rfl rfl rfl (Holds.start w []) ?_
  refine JC.seq (JC.region ?_)
  repeat (refine JL.q (by (apply OQ.assign; exact rfl)) rfl ?_)
  refine JL.nil (JE.next (JC.seq (JC.region ?_)))
  refine JL.q (OQ.move rfl) rfl ?_
  refine JL.q (OQ.conv (v := U64 (BitVec.ofInt 64 (-(k : Int)))) rfl rfl rfl ?_) rfl ?_
  · simp only [IntKind.wrap, IntKind.signed, IntKind.bits, U64, BitVec.toNat_ofInt]
    simp
    omega
  refine JL.q (OQ.and64 (b := 31#64) rfl rfl) rfl ?_
  generalize (BitVec.ofInt 64 (-(k : Int)) &&& 31#64) = s at hna
  repeat (refine JL.q (by (apply OQ.assign; exact rfl)) rfl ?_)
  refine JL.nil (JE.next (JC.seq (JC.region ?_)))
  repeat (refine JL.q (by first | (apply OQ.move; exact rfl) | (apply OQ.shl32; exact rfl; exact rfl)) rfl ?_)
  refine JL.q (OQ.sub64 (a := 32#64) rfl rfl (by rw [hna]; simp only [BitVec.toNat_ofNat]; omega)) rfl ?_
  repeat (refine JL.q (by first | (apply OQ.assign; exact rfl) | (apply OQ.or32; exact rfl; exact rfl) | (apply OQ.shr32; exact rfl; exact rfl)) rfl ?_)
  refine JL.nil (JE.next (JC.ret (JE.ret1 rfl (RV.tmp rfl) ?_)))
  refine fun w' hw => ⟨?_, hw.chg⟩
  have h2 : (32#64 - s).toNat = k := by rw [BitVec.toNat_sub_of_le (by simp only [BitVec.le_def, hna, BitVec.toNat_ofNat]; omega), hna]; simp only [BitVec.toNat_ofNat]; omega
  rw [h2, hna, rotr, BitVec.or_comm]

theorem turn_any (x : W) (k : Nat) (hk : k < 32) (h0 : 0 < k) (w : World) : Calls Tryd.prog 67 [U32 x, N k].toArray w fun e w' => e = .returned (U32 (rotr x k)) ∧ Ext w w' := by
  refine enter (n := 9) Tryd.func67 rfl rfl rfl (Holds.start w []) ?_
  refine JC.seq (JC.region ?_)
  repeat (refine JL.q (by (apply OQ.assign; exact rfl)) rfl ?_)
  refine JL.nil (JE.next (JC.seq (JC.region ?_)))
  repeat (refine JL.q (by (apply OQ.move; exact rfl)) rfl ?_)
  refine JL.q (OQ.negN rfl (by omega)) rfl ?_
  refine JL.q (OQ.callx goes_rot rfl fun w _ => rot_any x k hk h0 w) rfl ?_
  repeat (refine JL.q (by (apply OQ.assign; exact rfl)) rfl ?_)
  refine JL.nil (JE.next (JC.ret (JE.ret1 rfl (RV.tmp rfl) ?_)))
  exact fun w' hw => ⟨rfl, hw.chg⟩
end Go.Proofs.YtbihfhkbkcplmaaDoor

/-
  Of no statement by itself: what hash.schedule and hash.mix give.
  Conditions: each theorem's own.
-/
namespace Go.Proofs.YtbihfhkbkcplmaaDoor
set_option maxRecDepth 10000
open Sl Sha

theorem zc55 : zc Tryd.prog 95 = some ((List.replicate 64 (0 : W)).map U32) := by kernel_rfl
theorem zc57 : zc Tryd.prog 97 = some ((List.replicate 8 (0 : W)).map U32) := by kernel_rfl

theorem all32 (l : List W) : (l.map U32).all Value.oneCell' = true := by simp [Value.oneCell']
theorem all8 (l : List B) : (l.map U8).all Value.oneCell' = true := by simp [Value.oneCell']

theorem set_ws (blk : List B) (i : Nat) (hi : i < 64) (x : W) (hx : x = if i < 16 then word blk i else next (ws blk i)) :
    ((ws blk i ++ List.replicate (64 - i) 0).map U32).set i (U32 x) = (ws blk (i + 1) ++ List.replicate (64 - (i + 1)) 0).map U32 := by
  rw [← List.map_set, ws, ← hx, List.set_append_right _ _ (by rw [ws_length]; omega), ws_length, Nat.sub_self, show 64 - i = (64 - (i + 1)) + 1 by omega, List.replicate_succ, List.set_cons_zero]
  simp
theorem get_ws (blk : List B) (i j : Nat) (h : j < i) : ((ws blk i ++ List.replicate (64 - i) 0).map U32)[j]? = some (U32 ((ws blk i).getD j 0)) := by
  have hl := ws_length blk i
  rw [List.map_append, List.getElem?_append_left (by simp; omega)]
  exact map_at U32 0 (by omega)
theorem len_ws (blk : List B) (i : Nat) (h : i ≤ 64) : ((ws blk i ++ List.replicate (64 - i) 0).map U32).length = 64 := by
  simp [ws_length]; omega

set_option maxHeartbeats 4000000 in
theorem sched_any (blk : List B) (hl : blk.length = 64) (w : World) : Calls Tryd.prog 66 [.agg (blk.map U8).toArray].toArray w fun e w' => e = .returned (.agg ((ws blk 64).map U32).toArray) ∧ Ext w w' := by
  refine enter (n := 97) Tryd.func66 rfl rfl rfl (Holds.start w []) ?_
  repeat (first | refine JC.seq ?_ | refine JC.region ?_)
  refine JL.box rfl rfl rfl fun b1 _ => JL.alloc zc55 rfl fun b2 _ => ?_
  repeat (first | refine JC.seq ?_ | refine JC.region ?_ | refine JL.nil ?_ | refine JE.next ?_)
  refine JL.alloc zc55 rfl fun b3 _ => ?_
  repeat (first | refine JL.q (by (apply OQ.move; exact rfl)) rfl ?_ | refine JC.seq ?_ | refine JC.region ?_ | refine JC.block ?_ | refine JL.nil ?_ | refine JE.next ?_)
  refine JC.loop (fun i : Nat => [(1, Pt b1 0), (2, Pt b2 0), (3, Pt b3 0), (8, N i)])
    (fun i => [⟨b3, Row 95 ((ws blk i ++ List.replicate (64 - i) 0).map U32), true⟩, ⟨b2, Row 95 ((List.replicate 64 (0 : W)).map U32), true⟩, ⟨b1, Row 83 (blk.map U8), true⟩])
    (fun i => 16 - i) (fun i => i ≤ 16) 0 (by omega) (by repeat (first | exact SubE.nil | refine SubE.cons _ _ _ rfl ?_)) (Less.refl _) ?_
  intro i hi
  repeat (first | refine JL.q (by (apply OQ.lssN; exact rfl; exact rfl)) rfl ?_ | refine JC.seq ?_ | refine JC.region ?_ | refine JL.nil ?_ | refine JE.next ?_)
  refine JC.cond rfl (fun h => ?_) (fun h => ?_)
  · have hi' : i < 16 := of_decide_eq_true h
    clear h hi
    repeat (first | refine JL.q (by first | (apply OQ.move; exact rfl) | (apply OQ.assign; exact rfl)) rfl ?_ | refine JC.seq ?_ | refine JC.region ?_ | refine JC.block ?_ | refine JC.skip ?_ | refine JL.nil ?_ | refine JE.next ?_)
    refine JC.tail 31 mixed (by kernel_rfl) ?_
    simp only [List.take_succ_cons, List.take_zero, List.drop_succ_cons, List.drop_zero]
    repeat (first | refine JQ.q (by first | (apply OQ.load; exact c5; exact rfl; exact (.there (.there .here)); exact (Row.cell (map_at U8 0 (by rw [hl]; (try simp only []); omega)))) | (apply OQ.idxA0; exact Tryd.underlying95; exact s54; exact rfl; exact rfl; exact (by (try simp only []); omega)) | (apply OQ.idxA0; exact Tryd.underlying83; exact s5; exact rfl; exact rfl; exact (by (try simp only []); omega)) | (apply OQ.conv8_32; exact Tryd.underlying5; exact Tryd.underlying94; exact rfl) | (apply OQ.move; exact rfl) | (apply OQ.or32; exact rfl; exact rfl) | (apply OQ.shl32; exact rfl; exact rfl) | (apply OQ.addN; exact rfl; exact rfl; exact (by (try simp only []); omega)) | (apply OQ.mulN; exact rfl; exact rfl; exact (by (try simp only []); omega))) rfl ?_ | refine JQ.nil_tail ?_)
    refine JL.store_eq s54 rfl rfl rfl rfl .here (by rw [len_ws _ _ (by omega)]; omega) (set_ws blk i (by omega) _ (by rw [if_pos hi']; rfl)) ?_
    repeat (first | refine JL.q (by first | (apply OQ.move; exact rfl) | (apply OQ.addN; exact rfl; exact rfl; exact (by (try simp only []); omega))) rfl ?_ | refine JC.region ?_ | refine JL.nil ?_ | refine JE.next ?_ | refine JE.blk_normal ?_)
    refine JE.again (i + 1) (by omega) (by omega) (by repeat (first | exact SubE.nil | refine SubE.cons _ _ _ rfl ?_)) (Less.refl _)
  · have hi' : ¬ i < 16 := of_decide_eq_false h
    obtain rfl : i = 16 := by omega
    clear h hi hi'
    repeat (first | refine JL.q (by (apply OQ.assign; exact rfl)) rfl ?_ | refine JC.seq ?_ | refine JC.region ?_ | refine JC.block ?_ | refine JC.exit ?_ | refine JL.nil ?_ | refine JE.next ?_ | refine JE.then_exit ?_ | refine JE.blk_hit ?_)
    refine JC.loop (fun i : Nat => [(1, Pt b1 0), (2, Pt b2 0), (3, Pt b3 0), (5, N i)])
      (fun i => [⟨b3, Row 95 ((ws blk i ++ List.replicate (64 - i) 0).map U32), true⟩, ⟨b2, Row 95 ((List.replicate 64 (0 : W)).map U32), true⟩])
      (fun i => 64 - i) (fun i => 16 ≤ i ∧ i ≤ 64) 16 (by omega) (by repeat (first | exact SubE.nil | refine SubE.cons _ _ _ rfl ?_)) (.keep _ _ _ _ _ _ (fun _ h => h) (.keep _ _ _ _ _ _ (fun _ h => h) (.nil _))) ?_
    intro i hi
    repeat (first | refine JL.q (by first | (apply OQ.move; exact rfl) | (apply OQ.lssN; exact rfl; exact rfl)) rfl ?_ | refine JC.seq ?_ | refine JC.region ?_ | refine JL.nil ?_ | refine JE.next ?_)
    refine JC.cond rfl (fun h => ?_) (fun h => ?_)
    · have hi' : i < 64 := of_decide_eq_true h
      clear h
      repeat (first | refine JC.seq ?_ | refine JC.block ?_ | refine JC.skip ?_ | refine JE.next ?_)
      refine JC.quiet mixed (by kernel_rfl) ?_
      repeat (first | refine JQ.q (by first | (apply OQ.load; exact c54; exact rfl; exact .here; exact (Row.cell (get_ws blk i _ (by (try simp only []); omega)))) | (apply OQ.callx; exact goes_turn; exact rfl; exact (fun w _ => turn_any _ _ (by decide) (by decide) w)) | (apply OQ.idxA0; exact Tryd.underlying95; exact s54; exact rfl; exact rfl; exact (by (try simp only []); omega)) | (apply OQ.move; exact rfl) | (apply OQ.assign; exact rfl) | (apply OQ.xor32; exact rfl; exact rfl) | (apply OQ.shr32; exact rfl; exact rfl) | (apply OQ.subN; exact rfl; exact rfl; exact (by (try simp only []); omega); exact (by (try simp only []); omega))) rfl ?_ | refine JC.seq ?_ | refine JQ.nil ?_ | refine JE.next ?_)
      refine JC.quiet mixed (by kernel_rfl) ?_
      repeat (first | refine JQ.q (by first | (apply OQ.load; exact c54; exact rfl; exact .here; exact (Row.cell (get_ws blk i _ (by (try simp only []); omega)))) | (apply OQ.callx; exact goes_turn; exact rfl; exact (fun w _ => turn_any _ _ (by decide) (by decide) w)) | (apply OQ.idxA0; exact Tryd.underlying95; exact s54; exact rfl; exact rfl; exact (by (try simp only []); omega)) | (apply OQ.move; exact rfl) | (apply OQ.assign; exact rfl) | (apply OQ.xor32; exact rfl; exact rfl) | (apply OQ.shr32; exact rfl; exact rfl) | (apply OQ.subN; exact rfl; exact rfl; exact (by (try simp only []); omega); exact (by (try simp only []); omega))) rfl ?_ | refine JQ.nil ?_ | refine JE.next ?_)
      refine JC.tail 15 mixed (by kernel_rfl) ?_
      simp only [List.take_succ_cons, List.take_zero, List.drop_succ_cons, List.drop_zero]
      repeat (first | refine JQ.q (by first | (apply OQ.load; exact c54; exact rfl; exact .here; exact (Row.cell (get_ws blk i _ (by (try simp only []); omega)))) | (apply OQ.idxA0; exact Tryd.underlying95; exact s54; exact rfl; exact rfl; exact (by (try simp only []); omega)) | (apply OQ.move; exact rfl) | (apply OQ.add32; exact rfl; exact rfl) | (apply OQ.subN; exact rfl; exact rfl; exact (by (try simp only []); omega); exact (by (try simp only []); omega))) rfl ?_ | refine JQ.nil_tail ?_)
      refine JL.store_eq s54 rfl rfl rfl rfl .here (by rw [len_ws _ _ (by omega)]; omega) (set_ws blk i (by omega) _ (by rw [if_neg (by omega)]; simp only [next, ws_length]; rfl)) ?_
      repeat (first | refine JL.q (by first | (apply OQ.move; exact rfl) | (apply OQ.assign; exact rfl) | (apply OQ.addN; exact rfl; exact rfl; exact (by (try simp only []); omega))) rfl ?_ | refine JC.region ?_ | refine JL.nil ?_ | refine JE.next ?_ | refine JE.blk_normal ?_)
      refine JE.again (i + 1) (by omega) (by omega) (by repeat (first | exact SubE.nil | refine SubE.cons _ _ _ rfl ?_)) (Less.refl _)
    · have hi' : ¬ i < 64 := of_decide_eq_false h
      obtain rfl : i = 64 := by omega
      clear h hi hi'
      have hl6 := len_ws blk 64 (by omega)
      repeat (first | refine JL.q (by (apply OQ.load_agg; exact a55; exact s55; exact rfl; exact .here; exact hl6; exact Row.all)) rfl ?_ | refine JC.seq ?_ | refine JC.region ?_ | refine JC.exit ?_ | refine JE.next ?_ | refine JE.then_exit ?_ | refine JE.blk_hit ?_)
      refine JL.store_all s55 rfl rfl hl6 (all32 _) (.there .here) (by simp) ?_
      repeat (first | refine JL.nil ?_ | refine JE.next ?_)
      refine JC.ret (JE.ret1 rfl (RV.cell_agg a55 s55 rfl (.there .here) hl6 Row.all) ?_)
      exact fun w' hw => ⟨by simp, hw.chg⟩
end Go.Proofs.YtbihfhkbkcplmaaDoor

/-
  Of no statement by itself: what hash.mix gives where the rounds' numbers lie in their variable.
  Conditions: each theorem's own.
-/
namespace Go.Proofs.YtbihfhkbkcplmaaDoor
set_option maxRecDepth 10000
open Sl Sha

/-- the variable hash.rounds holds the rounds' numbers -/
def GOk (w : World) : Prop := ∃ e fr, w.heap[0]? = some (.cells (K.map U32).toArray e fr)
theorem GOk.lt {w : World} (h : GOk w) : 0 < w.heap.size := by
  obtain ⟨e, fr, h⟩ := h
  exact (Array.getElem?_eq_some_iff.1 h).1
theorem GOk.cell {w : World} (h : GOk w) {i : Nat} (hi : i < 64) : w.cell? ⟨0, i, none⟩ = some (U32 (K.getD i 0)) := by
  obtain ⟨e, fr, h⟩ := h
  have := map_at (r := K) U32 0 (j := i) (by rw [K_length]; exact hi)
  simpa [World.cell?, h] using this
theorem GOk.chg {S : List Nat} {w w' : World} (h : GOk w) (hc : Chg S w w') (h0 : 0 ∉ S) : GOk w' := by
  have hl := h.lt
  obtain ⟨e, fr, h⟩ := h
  exact ⟨e, fr, (hc.block _ hl h0).trans h⟩

def mixed8 (s t : St) (i : Nat) : List W := (s.add t).list.take i ++ s.list.drop i
theorem mixed8_len (s t : St) (i : Nat) (h : i ≤ 8) : ((mixed8 s t i).map U32).length = 8 := by simp [mixed8, list_length]; omega
theorem mixed8_get (s t : St) (i : Nat) (h : i < 8) : ((mixed8 s t i).map U32)[i]? = some (U32 (s.list.getD i 0)) := by
  have : i = 0 ∨ i = 1 ∨ i = 2 ∨ i = 3 ∨ i = 4 ∨ i = 5 ∨ i = 6 ∨ i = 7 := by omega
  rcases this with rfl | rfl | rfl | rfl | rfl | rfl | rfl | rfl <;> rfl
theorem mixed8_set (s t : St) (i : Nat) (h : i < 8) : ((mixed8 s t i).map U32).set i (U32 (s.list.getD i 0 + t.list.getD i 0)) = (mixed8 s t (i + 1)).map U32 := by
  have : i = 0 ∨ i = 1 ∨ i = 2 ∨ i = 3 ∨ i = 4 ∨ i = 5 ∨ i = 6 ∨ i = 7 := by omega
  rcases this with rfl | rfl | rfl | rfl | rfl | rfl | rfl | rfl <;> rfl
theorem list_get (t : St) (i : Nat) (h : i < 8) : (t.list.map U32)[i]? = some (U32 (t.list.getD i 0)) := map_at U32 0 (by rw [list_length]; exact h)

def EnvR (b2 b4 b5 : Nat) (r : St) (i : Nat) : Env := [(2, Pt b2 0), (4, Pt b4 0), (5, Pt b5 0), (6, U32 r.a), (7, U32 r.b), (8, U32 r.c), (9, U32 r.d), (10, U32 r.e), (11, U32 r.f), (12, U32 r.g), (13, U32 r.h), (37, N i)]

set_option maxHeartbeats 4000000 in
theorem mix_any (s : St) (blk : List B) (hl : blk.length = 64) (w : World) (hG : GOk w) : Calls Tryd.prog 64 [.agg (s.list.map U32).toArray, .agg (blk.map U8).toArray].toArray w fun e w' => e = .returned (.agg ((compress s blk).list.map U32).toArray) ∧ Ext w w' := by
  have hl8 : (blk.map U8).length = 64 := by simpa using hl
  have hws : ((ws blk 64).map U32).length = 64 := by simp [ws_length]
  refine enter (n := 121) Tryd.func64 rfl rfl rfl (Holds.start w []) ?_
  repeat (first | refine JC.seq ?_ | refine JC.region ?_)
  refine JL.box rfl rfl rfl fun b2 _ => JL.box rfl rfl rfl fun b3 _ => JL.alloc zc57 rfl fun b4 _ => ?_
  repeat (first | refine JL.q (by first | (apply OQ.load_agg; exact a60; exact s60; exact rfl; exact (.there .here); exact hl8; exact Row.all) | (apply OQ.callx; exact goes_sched; exact rfl; exact (fun w _ => sched_any blk hl w))) rfl ?_ | refine JC.seq ?_ | refine JC.region ?_ | refine JL.nil ?_ | refine JE.next ?_)
  refine JL.alloc zc55 rfl fun b5 _ => ?_
  refine JL.store_all s55 rfl rfl hws (all32 _) .here (by simp) ?_
  repeat (first | refine JC.seq ?_ | refine JL.nil ?_ | refine JE.next ?_)
  refine JC.quiet mixed (by kernel_rfl) ?_
  repeat (first | refine JQ.q (by first | (apply OQ.idxA0; exact Tryd.underlying97; exact s54; exact rfl; exact rfl; exact (by (try simp only []); omega)) | (apply OQ.load; exact c54; exact rfl; exact (.there (.there (.there .here))); exact (Row.cell rfl)) | (apply OQ.assign; exact rfl)) rfl ?_ | refine JC.seq ?_ | refine JQ.nil ?_ | refine JE.next ?_)
  refine JC.quiet mixed (by kernel_rfl) ?_
  repeat (first | refine JL.q (by first | (apply OQ.idxA0; exact Tryd.underlying97; exact s54; exact rfl; exact rfl; exact (by (try simp only []); omega)) | (apply OQ.load; exact c54; exact rfl; exact (.there (.there (.there .here))); exact (Row.cell rfl)) | (apply OQ.move; exact rfl) | (apply OQ.assign; exact rfl)) rfl ?_ | refine JQ.q (by first | (apply OQ.idxA0; exact Tryd.underlying97; exact s54; exact rfl; exact rfl; exact (by (try simp only []); omega)) | (apply OQ.load; exact c54; exact rfl; exact (.there (.there (.there .here))); exact (Row.cell rfl)) | (apply OQ.move; exact rfl) | (apply OQ.assign; exact rfl)) rfl ?_ | refine JC.seq ?_ | refine JC.region ?_ | refine JC.block ?_ | refine JL.nil ?_ | refine JQ.nil ?_ | refine JE.next ?_)
  refine JC.loop (fun i : Nat => EnvR b2 b4 b5 (rounds blk s i) i)
    (fun _ => [⟨b5, Row 95 ((ws blk 64).map U32), true⟩, ⟨b4, Row 97 ((List.replicate 8 (0 : W)).map U32), true⟩, ⟨b2, Row 97 (s.list.map U32), true⟩])
    (fun i => 64 - i) (fun i => i ≤ 64) 0 (by omega) (by repeat (first | exact SubE.nil | refine SubE.cons _ _ _ rfl ?_)) (.keep _ _ _ _ _ _ (fun _ h => h) (.keep _ _ _ _ _ _ (fun _ h => h) (.drop _ _ _ (.keep _ _ _ _ _ _ (fun _ h => h) (.nil _))))) ?_
  intro i hi
  generalize hr : rounds blk s i = r
  unfold EnvR
  repeat (first | refine JL.q (by (apply OQ.lssN; exact rfl; exact rfl)) rfl ?_ | refine JC.seq ?_ | refine JC.region ?_ | refine JL.nil ?_ | refine JE.next ?_)
  refine JC.cond rfl (fun h => ?_) (fun h => ?_)
  · have hi' : i < 64 := of_decide_eq_true h
    clear h hi
    repeat (first | refine JL.q (by first | (apply OQ.move; exact rfl) | (apply OQ.assign; exact rfl)) rfl ?_ | refine JC.seq ?_ | refine JC.region ?_ | refine JC.block ?_ | refine JC.skip ?_ | refine JL.nil ?_ | refine JE.next ?_)
    refine JC.quiet mixed (by kernel_rfl) ?_
    repeat (first | refine JL.q (by first | (apply OQ.callx; exact goes_turn; exact rfl; exact (fun w _ => turn_any _ _ (by decide) (by decide) w)) | (apply OQ.idxA0; exact Tryd.underlying95; exact s54; exact rfl; exact rfl; exact (by (try simp only []); omega)) | (apply OQ.load; exact c54; exact rfl; exact .here; exact (Row.cell (map_at U32 0 (by rw [ws_length]; exact hi')))) | (apply OQ.load_old; exact c54; exact rfl; exact hG.lt; exact (by simp); exact (hG.cell hi')) | (apply OQ.move; exact rfl) | (apply OQ.assign; exact rfl) | (apply OQ.add32; exact rfl; exact rfl) | (apply OQ.xor32; exact rfl; exact rfl) | (apply OQ.and32; exact rfl; exact rfl) | (apply OQ.not32; exact rfl) | (apply OQ.addN; exact rfl; exact rfl; exact (by (try simp only []); omega))) rfl ?_ | refine JQ.q (by first | (apply OQ.callx; exact goes_turn; exact rfl; exact (fun w _ => turn_any _ _ (by decide) (by decide) w)) | (apply OQ.idxA0; exact Tryd.underlying95; exact s54; exact rfl; exact rfl; exact (by (try simp only []); omega)) | (apply OQ.load; exact c54; exact rfl; exact .here; exact (Row.cell (map_at U32 0 (by rw [ws_length]; exact hi')))) | (apply OQ.load_old; exact c54; exact rfl; exact hG.lt; exact (by simp); exact (hG.cell hi')) | (apply OQ.move; exact rfl) | (apply OQ.assign; exact rfl) | (apply OQ.add32; exact rfl; exact rfl) | (apply OQ.xor32; exact rfl; exact rfl) | (apply OQ.and32; exact rfl; exact rfl) | (apply OQ.not32; exact rfl) | (apply OQ.addN; exact rfl; exact rfl; exact (by (try simp only []); omega))) rfl ?_ | refine JC.seq ?_ | refine JC.region ?_ | refine JL.nil ?_ | refine JQ.nil ?_ | refine JE.next ?_ | refine JE.blk_normal ?_)
    refine JE.again (i + 1) (by omega) (by omega) ?_ (Less.refl _)
    have hr' : rounds blk s (i + 1) = rnd (K.getD i 0) ((ws blk 64).getD i 0) r := by rw [← hr]; rfl
    rw [hr']
    exact (by repeat (first | exact SubE.nil | refine SubE.cons _ _ _ rfl ?_))
  · have hi' : ¬ i < 64 := of_decide_eq_false h
    obtain rfl : i = 64 := by omega
    clear h hi hi'
    repeat (first | refine JL.q (by (apply OQ.move; exact rfl)) rfl ?_ | refine JC.seq ?_ | refine JC.region ?_ | refine JC.exit ?_ | refine JE.next ?_ | refine JE.then_exit ?_ | refine JE.blk_hit ?_)
    refine JL.q (OQ.pure (v := .agg (r.list.map U32).toArray) rfl rfl (by kernel_rfl)) rfl ?_
    repeat (first | refine JL.q (by (apply OQ.move; exact rfl)) rfl ?_ | refine JC.block ?_ | refine JL.nil ?_ | refine JE.next ?_)
    refine JC.loop (fun i : Nat => [(2, Pt b2 0), (4, Pt b4 0), (108, .agg (r.list.map U32).toArray), (109, N i)])
      (fun i => [⟨b4, Row 97 ((List.replicate 8 (0 : W)).map U32), true⟩, ⟨b2, Row 97 ((mixed8 s r i).map U32), true⟩])
      (fun i => 8 - i) (fun i => i ≤ 8) 0 (by omega) (by repeat (first | exact SubE.nil | refine SubE.cons _ _ _ rfl ?_)) (.drop _ _ _ (Less.refl _)) ?_
    intro i hi
    repeat (first | refine JL.q (by (apply OQ.lssN; exact rfl; exact rfl)) rfl ?_ | refine JC.seq ?_ | refine JC.region ?_ | refine JL.nil ?_ | refine JE.next ?_)
    refine JC.cond rfl (fun h => ?_) (fun h => ?_)
    · have hi' : i < 8 := of_decide_eq_true h
      clear h hi
      repeat (first | refine JL.q (by first | (apply OQ.index; exact Tryd.underlying97; exact s54; exact c54; exact rfl; exact rfl; exact hi'; exact (list_get r i hi')) | (apply OQ.idxA0; exact Tryd.underlying97; exact s54; exact rfl; exact rfl; exact hi') | (apply OQ.load; exact c54; exact rfl; exact (.there .here); exact (Row.cell (mixed8_get s r i hi'))) | (apply OQ.move; exact rfl) | (apply OQ.assign; exact rfl) | (apply OQ.add32; exact rfl; exact rfl)) rfl ?_ | refine JC.seq ?_ | refine JC.region ?_ | refine JC.block ?_ | refine JC.skip ?_ | refine JL.nil ?_ | refine JE.next ?_)
      refine JL.store_eq s54 rfl rfl rfl rfl (.there .here) (by rw [mixed8_len _ _ _ (by omega)]; exact hi') (mixed8_set s r i hi') ?_
      repeat (first | refine JL.q (by first | (apply OQ.move; exact rfl) | (apply OQ.addN; exact rfl; exact rfl; exact (by (try simp only []); omega))) rfl ?_ | refine JC.region ?_ | refine JL.nil ?_ | refine JE.next ?_ | refine JE.blk_normal ?_)
      refine JE.again (i + 1) (by omega) (by omega) (by repeat (first | exact SubE.nil | refine SubE.cons _ _ _ rfl ?_)) (Less.refl _)
    · have hi' : ¬ i < 8 := of_decide_eq_false h
      obtain rfl : i = 8 := by omega
      clear h hi hi'
      have h8 := mixed8_len s r 8 (by omega)
      repeat (first | refine JL.q (by (apply OQ.load_agg; exact a57; exact s57; exact rfl; exact (.there .here); exact h8; exact Row.all)) rfl ?_ | refine JC.seq ?_ | refine JC.region ?_ | refine JC.exit ?_ | refine JE.next ?_ | refine JE.then_exit ?_ | refine JE.blk_hit ?_)
      refine JL.store_all s57 rfl rfl h8 (all32 _) .here (by simp) ?_
      repeat (first | refine JL.nil ?_ | refine JE.next ?_)
      refine JC.ret (JE.ret1 rfl (RV.cell_agg a57 s57 rfl .here h8 Row.all) ?_)
      exact fun w' hw => ⟨by subst hr; rfl, hw.chg⟩
end Go.Proofs.YtbihfhkbkcplmaaDoor

/-
  Of no statement by itself: what hash.ending, hash.New and the method Write give.
  Conditions: each theorem's own.
-/
namespace Go.Proofs.YtbihfhkbkcplmaaDoor
set_option maxRecDepth 10000
open Sl Sha

theorem goes_ending : Goes Tryd.prog 65 := ⟨_, Tryd.func65, rfl, by kernel_rfl⟩
theorem goes_new : Goes Tryd.prog 59 := ⟨_, Tryd.func59, rfl, by kernel_rfl⟩
theorem goes_write : Goes Tryd.prog 60 := ⟨_, Tryd.func60, rfl, by kernel_rfl⟩
theorem zc68 : zc Tryd.prog 104 = some ((List.replicate 128 (0 : B)).map U8) := by kernel_rfl

/-! ### ending -/
def endc (size i : Nat) (c : BitVec 64) : List B := (128 :: List.replicate (size - 9) 0) ++ (List.replicate (8 - i) 0 ++ (be8 c).drop (8 - i)) ++ List.replicate (128 - size) 0
theorem endc_len (size i : Nat) (c : BitVec 64) (h : 9 ≤ size) (h2 : size ≤ 128) (hi : i ≤ 8) : ((endc size i c).map U8).length = 128 := by
  simp [endc, be8_length]; omega
theorem endc_zero (size : Nat) (c : BitVec 64) (h : 9 ≤ size) (h2 : size ≤ 128) : ((List.replicate 128 (0 : B)).map U8).set 0 (.int .u8 128) = (endc size 0 c).map U8 := by
  have e : ((List.replicate 128 (0 : B)).map U8).set 0 (.int .u8 128) = ((128 : B) :: List.replicate 127 0).map U8 := rfl
  rw [e]
  congr 1
  rw [endc, show List.drop (8 - 0) (be8 c) = [] from rfl, List.append_nil, List.cons_append, List.cons_append, List.replicate_append_replicate, List.replicate_append_replicate]
  congr 2
  omega
theorem endc_step (i : Nat) (h : i < 8) (c : BitVec 64) : (List.replicate (8 - i) (0 : B) ++ (be8 c).drop (8 - i)).set (7 - i) ((c >>> (8 * i)).setWidth 8) = List.replicate (8 - (i + 1)) 0 ++ (be8 c).drop (8 - (i + 1)) := by
  have : i = 0 ∨ i = 1 ∨ i = 2 ∨ i = 3 ∨ i = 4 ∨ i = 5 ∨ i = 6 ∨ i = 7 := by omega
  rcases this with rfl | rfl | rfl | rfl | rfl | rfl | rfl | rfl <;> simp [be8, List.replicate]
theorem endc_set (size i : Nat) (c : BitVec 64) (h : 9 ≤ size) (h2 : size ≤ 128) (hi : i < 8) : ((endc size i c).map U8).set (size - 1 - i) (U8 ((c >>> (8 * i)).setWidth 8)) = (endc size (i + 1) c).map U8 := by
  have hl : (List.replicate (8 - i) (0 : B) ++ (be8 c).drop (8 - i)).length = 8 := by simp only [List.length_append, List.length_replicate, List.length_drop, be8_length]; omega
  rw [← List.map_set]
  congr 1
  simp only [endc]
  rw [List.set_append_left _ _ (by simp only [List.length_append, hl, List.length_cons, List.length_replicate]; omega), List.set_append_right _ _ (by simp only [List.length_cons, List.length_replicate]; omega)]
  congr 2
  rw [← endc_step i hi c]
  congr 1
  simp only [List.length_cons, List.length_replicate]
  omega
theorem endc_end (size r : Nat) (n : BitVec 64) (hr : r = n.toNat % 64) (hs : size = if 64 - r < 9 then 64 - r + 64 else 64 - r) : endc size 8 (n * 8) = tail n.toNat ++ List.replicate (128 - size) 0 ∧ (tail n.toNat).length = size := by
  have h1 : size - 9 = (119 - n.toNat % 64) % 64 := by subst hr; subst hs; split <;> omega
  have h2 : BitVec.ofNat 64 n.toNat = n := by simp
  constructor
  · rw [endc, h1, tail, h2]
    rfl
  · rw [tail_length]; subst hr; subst hs; split <;> omega

set_option maxHeartbeats 4000000 in
theorem ending_any (n : BitVec 64) (w : World) : Calls Tryd.prog 65 [U64 n].toArray w fun e w' => ∃ b sp, w.heap.size ≤ b ∧ e = .returned (.slice (some ⟨b, 0, none⟩) (tail n.toNat).length (tail n.toNat).length) ∧ Ext w w' ∧
    w'.heap[b]? = some (.cells ((tail n.toNat ++ sp).map U8).toArray 104 (0, 0)) := by
  refine enter (n := 35) Tryd.func65 rfl rfl rfl (Holds.start w []) ?_
  have hr64 : (n % 64#64).toNat = n.toNat % 64 := by rw [BitVec.toNat_umod]; rfl
  have hr63 : (n % 64#64).toNat < 64 := by omega
  repeat (first | refine JL.q (by first | (apply OQ.assign; exact rfl) | (apply OQ.move; exact rfl)) rfl ?_ | refine JC.seq ?_ | refine JC.region ?_ | refine JL.nil ?_ | refine JE.next ?_)
  refine JL.q (OQ.rem64 (b := 64#64) rfl rfl (by decide)) rfl ?_
  refine JL.q (OQ.conv64_N rfl rfl rfl (by omega)) rfl ?_
  generalize (n % 64#64).toNat = r at hr64 hr63
  repeat (first | refine JL.q (by first | (apply OQ.move; exact rfl) | (apply OQ.assign; exact rfl) | (apply OQ.subN; exact rfl; exact rfl; exact (by (try simp only []); omega); exact (by (try simp only []); omega)) | (apply OQ.lssN; exact rfl; exact rfl)) rfl ?_ | refine JC.seq ?_ | refine JC.region ?_ | refine JL.nil ?_ | refine JE.next ?_)
  refine JC.join (fun s : Nat => [(0, U64 n), (3, N s)]) (fun _ => []) (fun s => s = if 64 - r < 9 then 64 - r + 64 else 64 - r) ?_ ?_
  · refine JC.cond rfl (fun h => ?_) (fun h => ?_)
    · have h' : 64 - r < 9 := of_decide_eq_true h
      repeat (first | refine JL.q (by first | (apply OQ.move; exact rfl) | (apply OQ.assign; exact rfl) | (apply OQ.addN; exact rfl; exact rfl; exact (by (try simp only []); omega))) rfl ?_ | refine JC.region ?_ | refine JL.nil ?_)
      exact JE.mid (64 - r + 64) (by rw [if_pos h']) (by repeat (first | exact SubE.nil | refine SubE.cons _ _ _ rfl ?_)) (Less.refl _)
    · have h' : ¬ 64 - r < 9 := of_decide_eq_false h
      repeat (refine JC.skip ?_)
      exact JE.mid (64 - r) (by rw [if_neg h']) (by repeat (first | exact SubE.nil | refine SubE.cons _ _ _ rfl ?_)) (Less.refl _)
  · intro s hs
    obtain ⟨he, hlen⟩ := endc_end s r n hr64 hs
    have h9 : 9 ≤ s := by subst hs; split <;> omega
    have h128 : s ≤ 128 := by subst hs; split <;> omega
    repeat (first | refine JC.seq ?_ | refine JC.region ?_)
    refine JL.alloc zc68 rfl fun b4 hb4 => ?_
    repeat (first | refine JL.q (by (apply OQ.idxA0; exact Tryd.underlying104; exact s5; exact rfl; exact rfl; exact (by (try simp only []); omega))) rfl ?_ | refine JC.seq ?_ | refine JC.region ?_ | refine JL.nil ?_ | refine JE.next ?_)
    refine JL.store_eq s5 rfl rfl rfl rfl .here (by simp) (endc_zero s (n * 8) h9 h128) ?_
    repeat (first | refine JL.q (by (apply OQ.move; exact rfl)) rfl ?_ | refine JC.seq ?_ | refine JC.region ?_ | refine JL.nil ?_ | refine JE.next ?_)
    refine JL.q (OQ.mul64 (b := 8#64) rfl rfl) rfl ?_
    repeat (first | refine JL.q (by first | (apply OQ.move; exact rfl) | (apply OQ.assign; exact rfl)) rfl ?_ | refine JC.seq ?_ | refine JC.region ?_ | refine JC.block ?_ | refine JL.nil ?_ | refine JE.next ?_)
    refine JC.loop (fun i : Nat => [(3, N s), (4, Pt b4 0), (5, U64 (n * 8)), (18, N i)])
      (fun i => [⟨b4, Row 104 ((endc s i (n * 8)).map U8), true⟩]) (fun i => 8 - i) (fun i => i ≤ 8) 0 (by omega) (by repeat (first | exact SubE.nil | refine SubE.cons _ _ _ rfl ?_)) (Less.refl _) ?_
    intro i hi
    repeat (first | refine JL.q (by (apply OQ.lssN; exact rfl; exact rfl)) rfl ?_ | refine JC.seq ?_ | refine JC.region ?_ | refine JL.nil ?_ | refine JE.next ?_)
    refine JC.cond rfl (fun h => ?_) (fun h => ?_)
    · have hi' : i < 8 := of_decide_eq_true h
      clear h hi
      repeat (first | refine JL.q (by first | (apply OQ.idxA0; exact Tryd.underlying104; exact s5; exact rfl; exact rfl; exact (by (try simp only []); omega)) | (apply OQ.move; exact rfl) | (apply OQ.assign; exact rfl) | (apply OQ.shr64; exact rfl; exact rfl) | (apply OQ.subN; exact rfl; exact rfl; exact (by (try simp only []); omega); exact (by (try simp only []); omega)) | (apply OQ.mulN; exact rfl; exact rfl; exact (by (try simp only []); omega)) | (apply OQ.conv64_8; exact rfl; exact rfl; exact rfl)) rfl ?_ | refine JC.seq ?_ | refine JC.region ?_ | refine JC.block ?_ | refine JC.skip ?_ | refine JL.nil ?_ | refine JE.next ?_)
      refine JL.store_eq s5 rfl rfl rfl rfl .here (by rw [endc_len _ _ _ h9 h128 (by omega)]; (try simp only []); omega) (endc_set s i (n * 8) h9 h128 hi') ?_
      repeat (first | refine JL.q (by first | (apply OQ.move; exact rfl) | (apply OQ.addN; exact rfl; exact rfl; exact (by (try simp only []); omega))) rfl ?_ | refine JC.region ?_ | refine JL.nil ?_ | refine JE.next ?_ | refine JE.blk_normal ?_)
      refine JE.again (i + 1) (by omega) (by omega) (by repeat (first | exact SubE.nil | refine SubE.cons _ _ _ rfl ?_)) (Less.refl _)
    · have hi' : ¬ i < 8 := of_decide_eq_false h
      obtain rfl : i = 8 := by omega
      clear h hi hi'
      repeat (first | refine JL.q (by first | (apply OQ.slA_hi3; exact Tryd.underlying104; exact s5; exact rfl; exact rfl; exact rfl; exact (Nat.le_refl _); exact h128) | (apply OQ.move; exact rfl) | (apply OQ.assign; exact rfl)) rfl ?_ | refine JC.seq ?_ | refine JC.region ?_ | refine JC.exit ?_ | refine JL.nil ?_ | refine JE.next ?_ | refine JE.then_exit ?_ | refine JE.blk_hit ?_)
      refine JC.ret (JE.ret1 rfl (RV.tmp rfl) ?_)
      intro w' hw
      obtain ⟨o, ho, hA⟩ := hw.get .here
      refine ⟨b4, List.replicate (128 - s) 0, hb4, by rw [hlen], hw.chg, ?_⟩
      rw [ho, hA, he]

/-! ### a digest in memory -/
def dcells (s : St) (rest : List B) (tot : BitVec 64) : List Value := s.list.map U32 ++ (rest.map U8 ++ [U64 tot])
theorem dcells_len {rest : List B} (h : rest.length = 64) (s : St) (tot : BitVec 64) : (dcells s rest tot).length = 73 := by simp [dcells, h, list_length]
theorem dcells_st (s : St) (rest : List B) (tot : BitVec 64) : ((dcells s rest tot).drop 0).take (s.list.map U32).length = s.list.map U32 := by simp [dcells]
theorem dcells_rest (s : St) (rest : List B) (tot : BitVec 64) : ((dcells s rest tot).drop 8).take (rest.map U8).length = rest.map U8 := by
  rw [dcells, List.drop_left' (by simp [list_length])]; simp
theorem dcells_tot {rest : List B} (h : rest.length = 64) (s : St) (tot : BitVec 64) : (dcells s rest tot)[72]? = some (U64 tot) := by
  rw [dcells, List.getElem?_append_right (by simp [list_length]), List.getElem?_append_right (by simp [list_length, h])]
  simp [list_length, h]
theorem dcells_set_st (s s' : St) (rest : List B) (tot : BitVec 64) : (dcells s rest tot).take 0 ++ s'.list.map U32 ++ (dcells s rest tot).drop (0 + (s'.list.map U32).length) = dcells s' rest tot := by
  rw [dcells, List.take_zero, List.nil_append, Nat.zero_add, List.drop_left' (by simp [list_length])]; rfl
theorem dcells_set_tot {rest : List B} (h : rest.length = 64) (s : St) (tot tot' : BitVec 64) : (dcells s rest tot).set 72 (U64 tot') = dcells s rest tot' := by
  rw [dcells, List.set_append_right _ _ (by simp [list_length]), List.set_append_right _ _ (by simp [list_length, h])]
  simp [list_length, h, dcells]
theorem dcells_copy {rest : List B} (h : rest.length = 64) (s : St) (tot : BitVec 64) (r k : Nat) (l : List B) (hr : r + k ≤ 64) (_hk : k ≤ l.length) :
    (dcells s rest tot).take (8 + r) ++ (l.map U8).take k ++ (dcells s rest tot).drop (8 + r + k) = dcells s (rest.take r ++ l.take k ++ rest.drop (r + k)) tot := by
  have h1 : (dcells s rest tot).take (8 + r) = s.list.map U32 ++ (rest.take r).map U8 := by
    rw [dcells, List.take_append, List.take_of_length_le (by simp [list_length])]
    congr 1
    rw [List.length_map, list_length, show 8 + r - 8 = r by omega, List.take_append_of_le_length (by simp; omega), List.map_take]
  have h2 : (dcells s rest tot).drop (8 + r + k) = (rest.drop (r + k)).map U8 ++ [U64 tot] := by
    rw [dcells, List.drop_append, List.drop_of_length_le (by simp [list_length]; omega), List.nil_append]
    rw [List.length_map, list_length, show 8 + r + k - 8 = r + k by omega, List.drop_append_of_le_length (by simp; omega), List.map_drop]
  rw [h1, h2, dcells]
  simp only [List.map_append, List.map_take, List.append_assoc]

/-- a digest that has taken m -/
def DigA (m : List B) : Obj → Prop := fun o => ∃ rest : List B, rest.length = 64 ∧ rest.take (m.length % 64) = m.drop (64 * (m.length / 64)) ∧ o = .cells (dcells (fold iv (m.length / 64) m) rest (BitVec.ofNat 64 m.length)).toArray 100 (0, 0)

theorem new_any (w : World) : Calls Tryd.prog 59 ([] : List Value).toArray w fun e w' => ∃ b, w.heap.size ≤ b ∧ e = .returned (Pt b 0) ∧ Ext w w' ∧ ∃ o, w'.heap[b]? = some o ∧ DigA [] o := by
  refine enter (n := 4) Tryd.func59 rfl rfl rfl (Holds.start w []) ?_
  repeat (first | refine JL.q (by (apply OQ.assign; exact rfl)) rfl ?_ | refine JC.seq ?_ | refine JC.region ?_ | refine JL.nil ?_ | refine JE.next ?_)
  refine JL.q (OQ.pure (v := .agg (iv.list.map U32).toArray) rfl rfl (by kernel_rfl)) rfl ?_
  refine JL.q (OQ.pure (v := .agg (dcells iv (List.replicate 64 0) 0).toArray) rfl rfl (by kernel_rfl)) rfl ?_
  refine JL.box rfl rfl rfl fun b hb => ?_
  repeat (first | refine JL.q (by (apply OQ.assign; exact rfl)) rfl ?_ | refine JL.nil ?_ | refine JE.next ?_)
  refine JC.ret (JE.ret1 rfl (RV.tmp rfl) ?_)
  intro w' hw
  obtain ⟨o, ho, hA⟩ := hw.get .here
  exact ⟨b, hb, rfl, hw.chg, o, ho, List.replicate 64 0, rfl, rfl, hA⟩
end Go.Proofs.YtbihfhkbkcplmaaDoor

/-
  Of no statement by itself: what the method Write of a digest does.
  Conditions: each theorem's own.
-/
namespace Go.Proofs.YtbihfhkbkcplmaaDoor
set_option maxRecDepth 10000
open Sl Sha

theorem fldK {n : Nat} {E : Env} {C : World → Prop} {dst : Option Tmp} {ty : TypeId} {pos : String} {aft : Array Edge} {g : Option (Nat × Bool)} {x : Operand} {s f b j k sz : Nat} {P : Program} {fs : Array Field} {fd : Field} (hu : P.underlying s = some (.struct fs)) (hf : fs[f]? = some fd) (hz : szT P fd.type = some sz) (h0 : sz ≠ 0) (ho : j + fd.offset = k)
    (hx : ev E x = some (Pt b j)) : OQ P n E C ⟨dst, .fieldAddr s x f, ty, pos, aft, g⟩ (Pt b k) := ho ▸ OQ.fld hu hf hz h0 hx
theorem fld0 {n : Nat} {E : Env} {C : World → Prop} {dst : Option Tmp} {ty : TypeId} {pos : String} {aft : Array Edge} {g : Option (Nat × Bool)} {x : Operand} {b : Nat} (hx : ev E x = some (Pt b 0)) : OQ Tryd.prog n E C ⟨dst, .fieldAddr 100 x 0, ty, pos, aft, g⟩ (Pt b 0) :=
  fldK (sz := 8) Tryd.underlying100 rfl s57 (by decide) rfl hx
theorem fld1 {n : Nat} {E : Env} {C : World → Prop} {dst : Option Tmp} {ty : TypeId} {pos : String} {aft : Array Edge} {g : Option (Nat × Bool)} {x : Operand} {b : Nat} (hx : ev E x = some (Pt b 0)) : OQ Tryd.prog n E C ⟨dst, .fieldAddr 100 x 1, ty, pos, aft, g⟩ (Pt b 8) :=
  fldK (sz := 64) Tryd.underlying100 rfl s60 (by decide) rfl hx
theorem fld2 {n : Nat} {E : Env} {C : World → Prop} {dst : Option Tmp} {ty : TypeId} {pos : String} {aft : Array Edge} {g : Option (Nat × Bool)} {x : Operand} {b : Nat} (hx : ev E x = some (Pt b 0)) : OQ Tryd.prog n E C ⟨dst, .fieldAddr 100 x 2, ty, pos, aft, g⟩ (Pt b 72) :=
  fldK (sz := 1) Tryd.underlying100 rfl s53 (by decide) rfl hx

theorem tot_mod (k : Nat) : (BitVec.ofNat 64 k % 64#64).toNat = k % 64 := by
  rw [BitVec.toNat_umod, BitVec.toNat_ofNat]
  exact Nat.mod_mod_of_dvd _ ⟨2 ^ 58, rfl⟩
theorem tot_add (a b : Nat) : BitVec.ofNat 64 a + BitVec.ofNat 64 b = BitVec.ofNat 64 (a + b) := (BitVec.ofNat_add ..).symm
theorem of_u8 (l : List B) : ∀ v ∈ l.map U8, v.oneCell' = true := by
  intro v hv
  obtain ⟨x, _, rfl⟩ := List.mem_map.1 hv
  rfl

/-- one block more -/
theorem fold_next (p : List B) (t : Nat) (ht : t % 64 = 0) : compress (fold iv (t / 64) p) ((p.drop t).take 64) = fold iv ((t + 64) / 64) p := by
  rw [show (t + 64) / 64 = t / 64 + 1 by omega, fold_add, show 64 * (t / 64) = t by omega]
  rfl
/-- what is known of a digest between blocks ends as it should -/
theorem DigA.mk {m l : List B} {c : Nat} {rest : List B} (hc : c ≤ l.length) (ht : (m.length + c) % 64 = 0) (hs : l.length - c < 64) (hr : rest.length = 64) :
    DigA (m ++ l) (.cells (dcells (fold iv ((m.length + c) / 64) (m ++ l)) ((l.drop c) ++ rest.drop (l.length - c)) (BitVec.ofNat 64 (m ++ l).length)).toArray 100 (0, 0)) := by
  have hL : (m ++ l).length = m.length + l.length := List.length_append
  have hq : (m ++ l).length / 64 = (m.length + c) / 64 := by omega
  have hd : (m ++ l).drop (m.length + c) = l.drop c := by rw [List.drop_append, List.drop_of_length_le (by omega)]; simp
  refine ⟨l.drop c ++ rest.drop (l.length - c), by simp [hr]; omega, ?_, by rw [hq]⟩
  rw [hq, show 64 * ((m.length + c) / 64) = m.length + c by omega, hd, show (m ++ l).length % 64 = (l.drop c).length by rw [List.length_drop]; omega]
  exact List.take_left' rfl

theorem DigA.short {m l rest : List B} (h : m.length % 64 + l.length < 64) (hrl : rest.length = 64) (hrest : rest.take (m.length % 64) = m.drop (64 * (m.length / 64))) :
    DigA (m ++ l) (.cells (dcells (fold iv (m.length / 64) (m ++ l)) (rest.take (m.length % 64) ++ l.take l.length ++ rest.drop (m.length % 64 + l.length)) (BitVec.ofNat 64 (m ++ l).length)).toArray 100 (0, 0)) := by
  have hL : (m ++ l).length = m.length + l.length := List.length_append
  have hq : (m ++ l).length / 64 = m.length / 64 := by omega
  have h1 : (rest.take (m.length % 64) ++ l.take l.length).length = (m ++ l).length % 64 := by simp [hrl]; omega
  refine ⟨rest.take (m.length % 64) ++ l.take l.length ++ rest.drop (m.length % 64 + l.length), by simp [hrl]; omega, ?_, by rw [hq]⟩
  rw [hq, ← h1, List.take_left' rfl, List.take_length, hrest, List.drop_append_of_le_length (by omega)]
theorem full_block {m l rest : List B} {k : Nat} (h : m.length % 64 + k = 64) (_hk : k ≤ l.length) (hrl : rest.length = 64) (hrest : rest.take (m.length % 64) = m.drop (64 * (m.length / 64))) :
    rest.take (m.length % 64) ++ l.take k ++ rest.drop (m.length % 64 + k) = ((m ++ l).drop (64 * (m.length / 64))).take 64 := by
  rw [h, List.drop_of_length_le (by omega), List.append_nil, hrest, List.drop_append_of_le_length (by omega)]
  have hD : (m.drop (64 * (m.length / 64))).length + k = 64 := by rw [List.length_drop]; omega
  generalize m.drop (64 * (m.length / 64)) = D at hD
  rw [List.take_append, List.take_of_length_le (l := D) (by omega), show 64 - D.length = k by omega]
theorem cut_ne {ad : Option Addr} {b cap lo : Nat} (hne : ∀ a, ad = some a → a.block ≠ b) : ∀ a, (if cap = lo then ad else ad.map (·.add (lo * 1))) = some a → a.block ≠ b := by
  intro a ha
  split at ha
  · exact hne a ha
  · cases had : ad with
    | none => rw [had] at ha; cases ha
    | some a0 =>
      rw [had] at ha
      cases ha
      have := hne a0 had
      unfold Addr.add
      split <;> exact this
theorem len_st (s : St) : (s.list.map U32).length = 8 := rfl
theorem len_blk {l : List B} (h : l.length = 64) : (l.map U8).length = 64 := by simpa using h

set_option maxHeartbeats 8000000 in
theorem write_any (b : Nat) (m l : List B) (ad : Option Addr) (cap : Nat) (w : World) (hG : GOk w) (hb0 : b ≠ 0) (hd : ∃ o, w.heap[b]? = some o ∧ DigA m o)
    (hl : l.length ≤ cap) (hlen : l.length < 4611686018427387904) (hr : Reads w ad (l.map U8)) (hne : l ≠ [] → ∀ a, ad = some a → a.block ≠ b) :
    Calls Tryd.prog 60 [Pt b 0, .slice ad l.length cap].toArray w fun e w' => e = .returned (.tuple #[]) ∧ Chg [b] w w' ∧ ∃ o, w'.heap[b]? = some o ∧ DigA (m ++ l) o := by
  obtain ⟨o, ho, rest, hrl, hrest, rfl⟩ := hd
  have h0S : 0 ∉ [b] := by simpa using hb0.symm
  have hst : fold iv (m.length / 64) m = fold iv (m.length / 64) (m ++ l) := (fold_app iv _ m l (by omega)).symm
  rw [hst] at ho
  clear hst
  refine enter (n := 72) Tryd.func60 rfl rfl rfl (Holds.one (A := Row 100 _) ho rfl) ?_
  clear ho
  have htm := tot_mod m.length
  have hr63 : (BitVec.ofNat 64 m.length % 64#64).toNat < 64 := by omega
  repeat (first | refine JL.q (by first | (apply fld2; exact rfl) | (apply OQ.load; exact c53; exact rfl; exact .here; exact (Row.cell (dcells_tot hrl _ _))) | (apply OQ.move; exact rfl) | (apply OQ.nilc; exact rfl)) rfl ?_ | refine JC.seq ?_ | refine JC.region ?_)
  refine JL.q (OQ.rem64 (b := 64#64) rfl rfl (by decide)) rfl ?_
  refine JL.q (OQ.conv64_N rfl rfl rfl (by omega)) rfl ?_
  generalize (BitVec.ofNat 64 m.length % 64#64).toNat = r at htm hr63
  repeat (first | refine JL.q (by first | (apply fld2; exact rfl) | (apply OQ.load; exact c53; exact rfl; exact .here; exact (Row.cell (dcells_tot hrl _ _))) | (apply OQ.move; exact rfl) | (apply OQ.assign; exact rfl) | (apply OQ.nilc; exact rfl) | (apply OQ.len; exact rfl; exact rfl) | (apply OQ.add64; exact rfl; exact rfl) | (apply OQ.convN_64; exact rfl; exact rfl; exact rfl)) rfl ?_ | refine JC.seq ?_ | refine JC.region ?_ | refine JL.nil ?_ | refine JE.next ?_)
  refine JL.store_eq (r' := dcells (fold iv (m.length / 64) (m ++ l)) rest (BitVec.ofNat 64 (m ++ l).length)) s53 rfl rfl rfl rfl .here (by rw [dcells_len hrl]; decide) (by rw [dcells_set_tot hrl, tot_add, List.length_append]) ?_
  have hpl : (m ++ l).length = m.length + l.length := List.length_append
  generalize htot : BitVec.ofNat 64 (m ++ l).length = tot
  repeat (first | refine JL.q (by first | (apply OQ.move; exact rfl) | (apply OQ.gtrN; exact rfl; exact rfl)) rfl ?_ | refine JC.seq ?_ | refine JC.region ?_ | refine JL.nil ?_ | refine JE.next ?_)
  refine JC.join (ι := Nat × Option Addr × Nat × List B) (fun i => [(0, Pt b 0), (1, .slice i.2.1 (l.length - i.1) i.2.2.1)])
    (fun i => [⟨b, Row 100 (dcells (fold iv ((m.length + i.1) / 64) (m ++ l)) i.2.2.2 tot), true⟩])
    (fun i => i.1 ≤ l.length ∧ (m.length + i.1) % 64 = 0 ∧ Reads w i.2.1 ((l.drop i.1).map U8) ∧ l.length - i.1 ≤ i.2.2.1 ∧ i.2.2.2.length = 64 ∧ (l.drop i.1 ≠ [] → ∀ a, i.2.1 = some a → a.block ≠ b)) ?_ ?_
  · refine JC.cond rfl (fun h => ?_) (fun h => ?_)
    · have h' : 0 < r := of_decide_eq_true h
      clear h
      repeat (first | refine JL.q (by first | (apply fld1; exact rfl) | (apply OQ.slA_lo; exact Tryd.underlying83; exact s5; exact rfl; exact rfl; exact hr63) | (apply OQ.move; exact rfl) | (apply OQ.nilc; exact rfl)) rfl ?_ | refine JC.seq ?_ | refine JC.region ?_)
      refine JL.copy (r' := dcells (fold iv (m.length / 64) (m ++ l)) (rest.take r ++ l.take (min l.length (64 - r)) ++ rest.drop (r + min l.length (64 - r))) tot) Tryd.underlying37 s5 rfl rfl .here (by simp) (fun w' hw' => hw'.reads hr (fun h0 a ha => by simpa using hne (by rintro rfl; exact h0 rfl) a ha)) (of_u8 l) (by rw [dcells_len hrl]; omega) ?_ rfl ?_
      · exact dcells_copy hrl _ _ r _ l (by omega) (Nat.min_le_left _ _)
      generalize hk : min l.length (64 - r) = k
      have hk1 : k ≤ l.length := by omega
      have hk2 : r + k ≤ 64 := by omega
      repeat (first | refine JL.q (by first | (apply OQ.move; exact rfl) | (apply OQ.assign; exact rfl) | (apply OQ.addN; exact rfl; exact rfl; exact (by (try simp only []); omega)) | (apply OQ.lssN; exact rfl; exact rfl)) rfl ?_ | refine JC.seq ?_ | refine JC.region ?_ | refine JL.nil ?_ | refine JE.next ?_)
      refine JC.cond rfl (fun h => ?_) (fun h => ?_)
      · have h2 : r + k < 64 := of_decide_eq_true h
        obtain rfl : k = l.length := by omega
        skip
        refine JC.ret ?_
        repeat (refine JE.then_ret ?_)
        refine JE.ret0 rfl fun w' hw => ⟨rfl, hw.chg, ?_⟩
        obtain ⟨o, ho, hA⟩ := hw.get .here
        subst htot htm
        exact ⟨o, ho, hA ▸ DigA.short h2 hrl hrest⟩
      · have h2 : ¬ r + k < 64 := of_decide_eq_false h
        clear h
        have h3 : r + k = 64 := by omega
        have hfb : rest.take r ++ l.take k ++ rest.drop (r + k) = ((m ++ l).drop (64 * (m.length / 64))).take 64 := by subst htm; exact full_block h3 hk1 hrl hrest
        rw [hfb]
        have hbl : (((m ++ l).drop (64 * (m.length / 64))).take 64).length = 64 := by simp; omega
        have hnx := fold_next (m ++ l) (64 * (m.length / 64)) (by omega)
        rw [show 64 * (m.length / 64) / 64 = m.length / 64 by omega, show (64 * (m.length / 64) + 64) / 64 = (m.length + k) / 64 by omega] at hnx
        generalize ((m ++ l).drop (64 * (m.length / 64))).take 64 = blk at hbl hnx
        repeat (first | refine JC.seq ?_ | refine JC.skip ?_ | refine JE.next ?_)
        refine JC.tail 12 mixed (by kernel_rfl) ?_
        simp only [List.take_succ_cons, List.take_zero, List.drop_succ_cons, List.drop_zero]
        repeat (first | refine JQ.q (by first | (apply fld0; exact rfl) | (apply fld1; exact rfl) | (apply OQ.load_agg; exact a57; exact s57; exact rfl; exact .here; exact (len_st (fold iv (m.length / 64) (m ++ l))); exact (Row.cells (dcells_st _ blk tot))) | (apply OQ.load_agg; exact a60; exact s60; exact rfl; exact .here; exact (len_blk hbl); exact (Row.cells (dcells_rest _ blk tot))) | (apply OQ.callx; exact goes_mix; exact rfl; exact (fun w' hw' => mix_any _ blk hbl w' (hG.chg hw'.chg h0S))) | (apply OQ.move; exact rfl) | (apply OQ.nilc; exact rfl)) rfl ?_ | refine JQ.nil_tail ?_)
        refine JL.store_part s57 rfl rfl (by simp [list_length]) (all32 _) .here (by simp [dcells_len hbl, list_length]) (dcells_set_st _ _ blk tot) ?_
        rw [hnx]
        repeat (first | refine JL.q (by first | (apply OQ.slS_lo; exact Tryd.underlying37; exact s5; exact rfl; exact rfl; exact hk1) | (apply OQ.move; exact rfl) | (apply OQ.assign; exact rfl)) rfl ?_ | refine JC.region ?_ | refine JL.nil ?_ | refine JE.next ?_)
        have hrd := hr.drop (lo := k) (by simp) hl hk1
        rw [← List.map_drop] at hrd
        exact JE.mid (k, (if cap = k then ad else ad.map (·.add (k * 1))), cap - k, blk) ⟨hk1, by dsimp only; omega, hrd, by dsimp only; omega, hbl, fun h0 => cut_ne (hne (by rintro rfl; simp at h0))⟩ (by repeat (first | exact SubE.nil | refine SubE.cons _ _ _ rfl ?_)) (Less.refl _)
    · have h' : ¬ 0 < r := of_decide_eq_false h
      repeat (refine JC.skip ?_)
      exact JE.mid (0, ad, cap, rest) ⟨by dsimp only; omega, by dsimp only; omega, hr, hl, hrl, hne⟩ (by repeat (first | exact SubE.nil | refine SubE.cons _ _ _ rfl ?_)) (Less.refl _)
  · intro i hi
    repeat (first | refine JC.seq ?_ | refine JC.block ?_)
    refine JC.loop (ι := Nat × Option Addr × Nat × List B) (fun i => [(0, Pt b 0), (1, .slice i.2.1 (l.length - i.1) i.2.2.1)])
      (fun i => [⟨b, Row 100 (dcells (fold iv ((m.length + i.1) / 64) (m ++ l)) i.2.2.2 tot), true⟩]) (fun i => l.length - i.1)
      (fun i => i.1 ≤ l.length ∧ (m.length + i.1) % 64 = 0 ∧ Reads w i.2.1 ((l.drop i.1).map U8) ∧ l.length - i.1 ≤ i.2.2.1 ∧ i.2.2.2.length = 64 ∧ (l.drop i.1 ≠ [] → ∀ a, i.2.1 = some a → a.block ≠ b)) i hi (by repeat (first | exact SubE.nil | refine SubE.cons _ _ _ rfl ?_)) (Less.refl _) ?_
    clear hi i hr hne hl hrl hrest ad cap rest
    rintro ⟨c, ad, cap, rest⟩ ⟨hc, hmc, hr, hl, hrl, hne⟩
    dsimp only at hc hmc hr hl hrl hne ⊢
    have hdl : (l.drop c).length = l.length - c := List.length_drop
    repeat (first | refine JL.q (by first | (apply OQ.move; exact rfl) | (apply OQ.len; exact rfl; exact rfl) | (apply OQ.geqN; exact rfl; exact rfl)) rfl ?_ | refine JC.seq ?_ | refine JC.region ?_ | refine JL.nil ?_ | refine JE.next ?_)
    refine JC.cond rfl (fun h => ?_) (fun h => ?_)
    · have h' : 64 ≤ l.length - c := of_decide_eq_true h
      clear h
      obtain ⟨b', j', rfl, hcell⟩ := hr.at (by simp; omega)
      have hb' : b' < w.heap.size := block_lt_of_cell (hcell 0 _ (map_at U8 0 (by omega)))
      have hn0 : l.drop c ≠ [] := by intro h1; rw [h1] at hdl; simp at hdl; omega
      have hbS : b' ∉ [b] := by simpa using hne hn0 _ rfl
      have hbl : ((l.drop c).take 64).length = 64 := by simp; omega
      have hcs : ∀ i u, (((l.drop c).take 64).map U8)[i]? = some u → w.cell? ⟨b', j' + i, none⟩ = some u := fun i u hu => hcell i u (by
        rw [List.map_take, List.getElem?_take] at hu
        split at hu
        · exact hu
        · cases hu)
      have hnx := fold_next (m ++ l) (m.length + c) hmc
      rw [show (m ++ l).drop (m.length + c) = l.drop c by rw [List.drop_append, List.drop_of_length_le (by omega)]; simp] at hnx
      repeat (first | refine JC.seq ?_ | refine JC.block ?_ | refine JC.skip ?_ | refine JE.next ?_)
      refine JC.tail 11 mixed (by kernel_rfl) ?_
      simp only [List.take_succ_cons, List.take_zero, List.drop_succ_cons, List.drop_zero]
      generalize hblk : (l.drop c).take 64 = blk at hbl hcs hnx
      repeat (first | refine JQ.q (by first | (apply fld0; exact rfl) | (apply OQ.arr; exact Tryd.underlying83; exact rfl; exact h') | (apply OQ.load_agg; exact a57; exact s57; exact rfl; exact .here; exact (len_st (fold iv ((m.length + c) / 64) (m ++ l))); exact (Row.cells (dcells_st _ rest tot))) | (apply OQ.load_agg_old; exact a60; exact rfl; exact (show szT Tryd.prog 83 = some (blk.map U8).length by rw [List.length_map, hbl]; exact s60); exact hb'; exact hbS; exact hcs) | (apply OQ.callx; exact goes_mix; exact rfl; exact (fun w' hw' => mix_any _ blk hbl w' (hG.chg hw'.chg h0S))) | (apply OQ.move; exact rfl) | (apply OQ.nilc; exact rfl)) rfl ?_ | refine JQ.nil_tail ?_)
      refine JL.store_part s57 rfl rfl (by simp [list_length]) (all32 _) .here (by simp [dcells_len hrl, list_length]) (dcells_set_st _ _ rest tot) ?_
      rw [hnx]
      repeat (first | refine JL.q (by first | (apply OQ.slS_lo; exact Tryd.underlying37; exact s5; exact rfl; exact rfl; exact h') | (apply OQ.move; exact rfl) | (apply OQ.assign; exact rfl)) rfl ?_ | refine JC.region ?_ | refine JL.nil ?_ | refine JE.next ?_ | refine JE.blk_normal ?_)
      have hrd := hr.drop (lo := 64) (len := l.length - c) (by simp) hl h'
      rw [← List.map_drop, List.drop_drop] at hrd
      rw [show l.length - c - 64 = l.length - (c + 64) by omega]
      exact JE.again (ι := Nat × Option Addr × Nat × List B) (i := (c, some ⟨b', j', none⟩, cap, rest)) (c + 64, (if cap = 64 then some ⟨b', j', none⟩ else (some (⟨b', j', none⟩ : Addr)).map (·.add (64 * 1))), cap - 64, rest) ⟨by dsimp only; omega, by dsimp only; omega, hrd, by dsimp only; omega, hrl, fun _ => cut_ne (hne hn0)⟩ (by dsimp only; omega) (by repeat (first | exact SubE.nil | refine SubE.cons _ _ _ rfl ?_)) (Less.refl _)
    · have h' : ¬ 64 ≤ l.length - c := of_decide_eq_false h
      clear h
      repeat (first | refine JL.q (by first | (apply fld1; exact rfl) | (apply OQ.slA; exact Tryd.underlying83; exact s5; exact rfl) | (apply OQ.move; exact rfl) | (apply OQ.nilc; exact rfl)) rfl ?_ | refine JC.region ?_ | refine JC.exit ?_ | refine JE.next ?_ | refine JE.then_exit ?_ | refine JE.blk_hit ?_)
      refine JL.copy (cs := (l.drop c).map U8) (r' := dcells (fold iv ((m.length + c) / 64) (m ++ l)) ((l.drop c) ++ rest.drop (l.length - c)) tot) Tryd.underlying37 s5 rfl rfl .here (by simp) (fun w' hw' => hw'.reads hr (fun h0 a ha => by simpa using hne (by intro h1; rw [h1] at h0; exact h0 rfl) a ha)) (of_u8 _) (by rw [dcells_len hrl]; omega) ?_ rfl ?_
      · have := dcells_copy hrl (fold iv ((m.length + c) / 64) (m ++ l)) tot 0 (min (l.length - c) 64) (l.drop c) (by omega) (by omega)
        rw [this, List.take_zero, List.nil_append, Nat.zero_add, show min (l.length - c) 64 = l.length - c by omega, List.take_of_length_le (by omega)]
      repeat (refine JL.nil ?_)
      refine JE.end0 rfl fun w' hw => ⟨rfl, hw.chg, ?_⟩
      obtain ⟨o, ho, hA⟩ := hw.get .here
      subst htot
      exact ⟨o, ho, hA ▸ DigA.mk hc hmc (by omega) hrl⟩
end Go.Proofs.YtbihfhkbkcplmaaDoor

/-
  Of no statement by itself: slices of bytes as arguments and as answers, their parts; calls that hand out new blocks; strings as bytes; small rules that several texts use; for any program P.
  Conditions: each theorem's own.
-/
namespace Go.Proofs.YtbihfhkbkcplmaaDoor
set_option maxRecDepth 10000
open Sl
abbrev Bt := BitVec 8
structure Sl8 where
  ad : Option Addr
  cap : Nat
  l : List Bt
def Sl8.v (s : Sl8) : Value := .slice s.ad s.l.length s.cap
structure Sl8.ok (w : World) (s : Sl8) : Prop where
  len : s.l.length ≤ s.cap
  reads : Reads w s.ad (s.l.map U8)
theorem Sl8.ok.lt {w : World} {s : Sl8} (h : s.ok w) (h0 : s.l ≠ []) : ∀ a, s.ad = some a → a.block < w.heap.size := by
  obtain ⟨b, j, h1, h2⟩ := h.reads.at (by simpa using List.length_pos_iff.2 h0)
  intro a ha
  rw [h1] at ha
  cases ha
  exact block_lt_of_cell (h2 0 _ (map_at U8 0 (List.length_pos_iff.2 h0)))
theorem Sl8.ok.holds {w0 w : World} {S : List Nat} {M : List Ent} {s : Sl8} (h : s.ok w0) (hw : Holds w0 S M w) (hS : S = []) : s.ok w := ⟨h.len, hw.reads h.reads (fun _ a _ => by rw [hS]; simp)⟩
def nilS : Sl8 := ⟨none, 0, []⟩
theorem nilS_ok (w : World) : nilS.ok w := ⟨by simp [nilS], Reads.nil _ _⟩
theorem less_pre (A M : List Ent) : Less A (A ++ M) := by
  induction A with
  | nil => exact .nil _
  | cons e A ih => exact .keep _ _ _ _ _ _ (fun _ h => h) ih
theorem has_cell {o : Obj} {j k : Nat} {cs : List Value} {v : Value} (h : hasCells o j cs) (hv : cs[k]? = some v) : cellAt o (j + k) = some v := by
  obtain ⟨c, e, fr, rfl, h⟩ := h
  have hk := (List.getElem?_eq_some_iff.1 hv).1
  have := h k hk
  rw [hv] at this
  simpa [cellAt] using this
theorem JC.fact {P : Program} {n : Nat} {w0 : World} {S : List Nat} {Q : Exit → Act → World → Prop} {c : Code} {E : Env} {M : List Ent} {b : Nat} {A : Obj → Prop} {wr : Bool} {p : Prop} (hM : Has M b A wr) (hA : ∀ o, A o → p) (h : p → JC P n w0 S Q c E M) : JC P n w0 S Q c E M :=
  ⟨fun a w ha hw => let ⟨o, _, ho⟩ := hw.get hM; (h (hA o ho)).go a w ha hw⟩
theorem Sl.Holds.swap {w0 w : World} {S : List Nat} {e1 e2 : Ent} {M : List Ent} (h : Holds w0 S (e1 :: e2 :: M) w) : Holds w0 S (e2 :: e1 :: M) w := by
  refine ⟨h.chg, ?_, fun e he => h.all e ?_⟩
  · have := h.nodup
    simp only [List.map_cons, List.nodup_cons, List.mem_cons, not_or] at this ⊢
    exact ⟨⟨Ne.symm this.1.1, this.2.1⟩, this.1.2, this.2.2⟩
  · simp only [List.mem_cons] at he ⊢
    rcases he with h | h | h
    · exact .inr (.inl h)
    · exact .inl h
    · exact .inr (.inr h)
theorem JE.swap {n : Nat} {w0 : World} {S : List Nat} {Q : Exit → Act → World → Prop} {e : Exit} {E : Env} {e1 e2 : Ent} {M : List Ent} (h : JE n w0 S Q e E (e2 :: e1 :: M)) : JE n w0 S Q e E (e1 :: e2 :: M) := ⟨fun a w ha hw => h.go a w ha hw.swap⟩
theorem JE.less {n : Nat} {w0 : World} {S : List Nat} {Q : Exit → Act → World → Prop} {e : Exit} {E : Env} {M M' : List Ent} (hM : Less M' M) (h : JE n w0 S Q e E M') : JE n w0 S Q e E M := ⟨fun a w ha hw => h.go a w ha (hw.weak hM)⟩
theorem Sl.Own.has {e : TypeId} {k cap m : Nat} {r : List Bt} : ∀ o, Sl.Own e 1 k cap (r.map U8) o → hasCells o 0 ((r.take m).map U8) ∧ k ≤ cap := by
  rintro o ⟨sp, rfl, h1, h2, h3⟩
  refine ⟨⟨_, _, _, rfl, fun i hi => ?_⟩, h3⟩
  have hi' : i < m ∧ i < r.length := by simp at hi; omega
  simp [List.getElem?_append_left, hi'.1, hi'.2]
def Sl8.ents (s : Sl8) : List Ent := match s.ad with
  | some a => [⟨a.block, fun o => hasCells o a.off (s.l.map U8) ∧ s.l.length ≤ s.cap ∧ a.spot = none, true⟩]
  | none => []
theorem Sl8.ents_ok {s : Sl8} {w0 w : World} {S : List Nat} {M : List Ent} (h : Holds w0 S (s.ents ++ M) w) (h0 : s.ad = none → s.l = []) : s.ok w := by
  obtain ⟨ad, cap, l⟩ := s
  cases ad with
  | none =>
    have : l = [] := h0 rfl
    subst this
    exact ⟨by simp, Reads.nil _ _⟩
  | some a =>
    obtain ⟨o, ho, h1, h2, h3⟩ := h.get (b := a.block) (A := fun o => hasCells o a.off (l.map U8) ∧ l.length ≤ cap ∧ a.spot = none) (wr := true) .here
    obtain ⟨b, j, sp⟩ := a
    simp only at h3
    subst h3
    exact ⟨h2, Reads.block ho h1⟩
structure Gave (s : Sl8) (l : List Bt) (cap : Nat) : Prop where
  val : s.l = l
  cap : s.cap = cap
  none : s.ad = .none → s.l = []
section
variable {P : Program} {n : Nat} {w0 w w' : World} {S : List Nat} {ops : Array Oper} {Q : Exit → Act → World → Prop} {l : List Oper} {E : Env} {M Ms : List Ent} {d : Nat} {t t' e ty : TypeId} {pos : String} {aft : Array Edge} {x : Operand}
theorem Sl.Holds.both (h : Holds w0 S M w) (h2 : Holds w [] Ms w') (hw : ∀ e ∈ Ms, e.wr = true) : Holds w0 S (Ms ++ M) w' := by
  have hx : Ext w w' := h2.chg
  have h1 := h.ext hx
  have hfr : ∀ e ∈ Ms, w.heap.size ≤ e.b := fun e he => by
    rcases (h2.all e he).2 (hw e he) with h | h
    · cases h
    · exact h
  refine ⟨h1.chg, ?_, fun e he => ?_⟩
  · rw [List.map_append, List.nodup_append]
    refine ⟨h2.nodup, h1.nodup, fun a ha b hb e => ?_⟩
    simp only [List.mem_map] at ha hb
    obtain ⟨e1, he1, rfl⟩ := ha
    obtain ⟨e2, he2, rfl⟩ := hb
    have := hfr e1 he1
    obtain ⟨⟨o, ho, _⟩, _⟩ := h.all e2 he2
    have := (Array.getElem?_eq_some_iff.1 ho).1
    omega
  · rcases List.mem_append.1 he with he | he
    · refine ⟨(h2.all e he).1, fun _ => .inr (Nat.le_trans h.chg.size (hfr e he))⟩
    · exact h1.all e he
theorem Sl8.ents_wr (s : Sl8) : ∀ e ∈ s.ents, e.wr = true := by
  intro e he
  unfold Sl8.ents at he
  split at he
  · simp only [List.mem_singleton] at he
    subst he
    rfl
  · cases he
theorem JL.callg {ι : Type} (vf : ι → Value) (Mf : ι → List Ent) {f : FuncId} {xs : List Operand} {ats : Array TypeId} {vs : List Value} (hg : Goes P f) (hx : evs E xs = some vs) (hd : Nat.blt d n = true) (hwr : ∀ i, ∀ e ∈ Mf i, e.wr = true)
    (hc : ∀ w, Holds w0 S M w → Calls P f vs.toArray w fun e w' => ∃ i, e = .returned (vf i) ∧ Holds w [] (Mf i) w')
    (k : ∀ i, JL P n w0 S ops Q l ((d, vf i) :: E) (Mf i ++ M)) : JL P n w0 S ops Q (⟨some d, .call ⟨.value (.func f), xs.toArray, ats⟩, ty, pos, aft, none⟩ :: l) E M :=
  JL.call (ι := ι) vf (fun i => Mf i ++ M) hg hx hd (fun w hw => (hc w hw).mono fun _ _ ⟨i, h1, h2⟩ => ⟨i, h1, hw.both h2 (hwr i)⟩) k
end
section
variable {P : Program} {n : Nat} {w0 w w' : World} {S : List Nat} {ops : Array Oper} {Q : Exit → Act → World → Prop} {l : List Oper} {E : Env} {M Ms : List Ent} {d : Nat} {t t' e ty : TypeId} {pos : String} {aft : Array Edge} {x : Operand}
def bytesOf (s : ByteArray) : List Bt := s.data.toList.map UInt8.toBitVec
theorem bytesOf_length (s : ByteArray) : (bytesOf s).length = s.size := by simp [bytesOf]
/-- []byte(s) -/
theorem JL.s2b {s : ByteArray} {u : TypeDesc} (hs : P.underlying t = some u) (hu : P.underlying t' = some (.slice e)) (he : P.underlying e = some (.int .u8)) (hx : ev E x = some (.string s)) (hd : Nat.blt d n = true)
    (k : ∀ b cap, JL P n w0 S ops Q l ((d, Sl8.v ⟨some ⟨b, 0, none⟩, cap, bytesOf s⟩) :: E) ((⟨some ⟨b, 0, none⟩, cap, bytesOf s⟩ : Sl8).ents ++ M)) : JL P n w0 S ops Q (⟨some d, .convert t t' x, ty, pos, aft, none⟩ :: l) E M :=
  ⟨fun a w ha hw => wpList_plain rfl fun K hK => by
    have hrun := Lib.run_convert_string_bytes (P := P) w t t' e s hs hu he
    have hheap : (Lib.bytesWorld w e s).heap = w.heap.push (.cells (Lib.bytesCells w e s) e ((Lib.bytesCells w e s).size, (Lib.bytesCells w e s).size + 1)) := by
      apply Array.ext_getElem?
      intro i
      rw [Array.getElem?_push]
      by_cases h : i = w.heap.size
      · rw [if_pos h, h, Lib.bytesWorld_at_new]
      · rw [if_neg h]
        by_cases h2 : i < w.heap.size
        · rw [Lib.bytesWorld_at_old _ _ _ _ h2]
        · rw [Array.getElem?_eq_none (by rw [Lib.bytesWorld_size]; omega), Array.getElem?_eq_none (by omega)]
    have hge := grownCap_ge w s.size 0 e
    have hcells : hasCells (.cells (Lib.bytesCells w e s) e ((Lib.bytesCells w e s).size, (Lib.bytesCells w e s).size + 1)) 0 ((bytesOf s).map U8) := by
      refine ⟨_, _, _, rfl, fun i hi => ?_⟩
      have hi : i < s.data.size := by simpa [bytesOf] using hi
      simp only [Lib.bytesCells, bytesOf, Nat.zero_add, Array.getElem?_append, Array.size_map, hi, if_true, Array.getElem?_map, List.getElem?_map, Array.getElem?_toList, Option.map_map]
      rfl
    have h5 : Sl8.v ⟨some ⟨w.heap.size, 0, none⟩, grownCap w s.size 0 e, bytesOf s⟩ = .slice (some ⟨w.heap.size, 0, none⟩) s.size (grownCap w s.size 0 e) := by
      simp [Sl8.v, bytesOf_length]
    unfold Oper.wp
    simp only [execOp, ha.eval hx, Sem.run_bind, hrun, Result.andThen_ok]
    rw [← h5]
    exact hK _ _ ((k w.heap.size (grownCap w s.size 0 e)).go _ _ (ha.put d _ hd) (hw.push _ ⟨hcells, by show (bytesOf s).length ≤ _; rw [bytesOf_length]; exact hge, rfl⟩ hheap rfl rfl rfl))⟩
end
section
variable {P : Program} {n : Nat} {E : Env} {C : World → Prop} {dst : Option Tmp} {t t' ty : TypeId} {pos : String} {aft : Array Edge} {g : Option (Nat × Bool)} {x y : Operand}
theorem OQ.leqN_t {a b : Nat} (hx : ev E x = some (N a)) (hy : ev E y = some (N b)) (h : a ≤ b) : OQ P n E C ⟨dst, .binOp .leq t x y t', ty, pos, aft, g⟩ (.bool true) :=
  (decide_eq_true h : decide (a ≤ b) = true) ▸ OQ.leqN hx hy
theorem OQ.leqN_f {a b : Nat} (hx : ev E x = some (N a)) (hy : ev E y = some (N b)) (h : ¬ a ≤ b) : OQ P n E C ⟨dst, .binOp .leq t x y t', ty, pos, aft, g⟩ (.bool false) :=
  (decide_eq_false h : decide (a ≤ b) = false) ▸ OQ.leqN hx hy
end
theorem ownb_ok {w0 w : World} {S : List Nat} {M : List Ent} {b k cap : Nat} {e : TypeId} {l : List Bt} {wr : Bool} (hw : Holds w0 S M w) (hM : Has M b (Sl.Own e 1 k cap (l.map U8)) wr) : Sl8.ok w ⟨some ⟨b, 0, none⟩, cap, l⟩ := by
  obtain ⟨o, ho, hA⟩ := hw.get hM
  have hh := Sl.Own.cells _ hA
  obtain ⟨sp, rfl, h2, h3, h4⟩ := hA
  simp only [List.length_map, Nat.mul_one] at h3
  exact ⟨by show l.length ≤ cap; omega, Reads.block ho hh⟩
theorem OQ.to {P : Program} {n : Nat} {E : Env} {C : World → Prop} {o : Oper} {v v' : Value} (h : OQ P n E C o v) (e : v = v') : OQ P n E C o v' := e ▸ h
/-! ### slices of int as arguments -/
structure SlI where
  ad : Option Addr
  cap : Nat
  l : List Int
def SlI.v (s : SlI) : Value := .slice s.ad s.l.length s.cap
structure SlI.ok (w : World) (s : SlI) : Prop where
  len : s.l.length ≤ s.cap
  reads : Reads w s.ad (s.l.map fun i => .int .i64 i)
theorem SlI.ok.holds {w0 w : World} {S : List Nat} {M : List Ent} {s : SlI} (h : s.ok w0) (hw : Holds w0 S M w) (hS : S = []) : s.ok w := ⟨h.len, hw.reads h.reads (fun _ a _ => by rw [hS]; simp)⟩
end Go.Proofs.YtbihfhkbkcplmaaDoor
