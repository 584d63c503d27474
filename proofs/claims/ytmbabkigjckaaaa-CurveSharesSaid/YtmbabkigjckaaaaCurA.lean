/-
  Of no statement by itself: what the reference's carry gives.
  Conditions: each theorem's own.
-/
import Derived.Test.YtmbabkigjckaaaaProg
import Derived.Test.YtmbabkigjckaaaaSli
import Derived.Test.YtmbabkigjckaaaaCrvH
namespace Go.Proofs.Ytmbabkigjckaaaa
open Sl Crv

theorem mixC : Try.prog.follows .mixedOrders = true := by kernel_rfl
theorem i1s : szT Try.prog 2 = some 1 := by kernel_rfl
theorem i1c : scal Try.prog 2 = true := by kernel_rfl
theorem n16s : szT Try.prog 45 = some 16 := by kernel_rfl
theorem n16a : aggT Try.prog 45 = true := by kernel_rfl
theorem n16z : zc Try.prog 45 = some ((List.replicate 16 (0 : Int)).map I) := by kernel_rfl
theorem goes_carry : Goes Try.prog 35 := ⟨_, Try.func35, rfl, by kernel_rfl⟩
theorem I_nth {l : List Int} {i : Nat} (h : i < l.length) : (l.map I)[i]? = some (I (nth l i)) := by
  simp [nth, h]
theorem I_set (l : List Int) (i : Nat) (x : Int) : (l.map I).set i (I x) = (l.set i x).map I := by rw [List.map_set]
/-- so small that a carry stays in 64 bits -/
def Fit (l : List Int) : Prop := ∀ j, j < 16 → -288230376151711744 ≤ nth l j ∧ nth l j ≤ 288230376151711744
def wlo : List Int := List.replicate 16 (-288230376151711744)
def whi : List Int := List.replicate 16 288230376151711744
theorem rep_nth (x : Int) (j : Nat) (h : j < 16) : nth (List.replicate 16 x) j = x := by
  unfold nth
  rw [List.getD_eq_getElem?_getD, List.getElem?_replicate, if_pos h]; rfl
theorem Fit.btw {l : List Int} (h : Fit l) : Btw wlo whi l := fun j hj => by
  rw [wlo, whi, rep_nth _ _ hj, rep_nth _ _ hj]; exact h j hj
theorem wlo_min : ∀ i, i ≤ 16 → -8796093022208 ≤ cmin wlo i ∧ cmin wlo i ≤ 0
  | 0, _ => by decide
  | i + 1, h => by
    have ih := wlo_min i (by omega)
    have e : cmin wlo (i + 1) = (nth wlo i + cmin wlo i) / 65536 := rfl
    rw [e, wlo, rep_nth _ _ (by omega), ← wlo]
    omega
theorem whi_min : ∀ i, i ≤ 16 → 0 ≤ cmin whi i ∧ cmin whi i ≤ 8796093022208
  | 0, _ => by decide
  | i + 1, h => by
    have ih := whi_min i (by omega)
    have e : cmin whi (i + 1) = (nth whi i + cmin whi i) / 65536 := rfl
    rw [e, whi, rep_nth _ _ (by omega), ← whi]
    omega
theorem Fit.here {l : List Int} (hl : l.length = 16) (h : Fit l) {i : Nat} (hi : i < 16) : -297237575406452736 ≤ nth (cit l i) i ∧ nth (cit l i) i ≤ 297237575406452736 := by
  have c := (Cst.all hl h.btw i (by omega)).here
  have a := wlo_min i (by omega)
  have b := whi_min i (by omega)
  rw [wlo, whi, rep_nth _ _ hi, rep_nth _ _ hi, ← wlo, ← whi] at c
  omega
theorem Fit.next {l : List Int} (hl : l.length = 16) (h : Fit l) {i : Nat} (hi : i < 15) : -288230376151711744 ≤ nth (cit l i) (i + 1) ∧ nth (cit l i) (i + 1) ≤ 288230376151711744 := by
  have c := (Cst.all hl h.btw i (by omega)).rest (i + 1) (by omega) (by omega)
  rw [wlo, whi, rep_nth _ _ (by omega), rep_nth _ _ (by omega)] at c
  exact c
theorem Fit.zero {l : List Int} (hl : l.length = 16) (h : Fit l) : 0 ≤ nth (cit l 15) 0 ∧ nth (cit l 15) 0 ≤ 65535 := (Cst.all hl h.btw 15 (by omega)).done 0 (by omega)
theorem cit_next {l : List Int} {i : Nat} (h : i < 15) : ((cit l i).set i (nth (cit l i) i - nth (cit l i) i / 65536 * 65536)).set (i + 1) (nth ((cit l i).set i (nth (cit l i) i - nth (cit l i) i / 65536 * 65536)) (i + 1) + nth (cit l i) i / 65536) = cit l (i + 1) := by
  show _ = cstep (cit l i) i
  unfold cstep
  simp only [h, if_true]
theorem cit_last {l : List Int} : ((cit l 15).set 15 (nth (cit l 15) 15 - nth (cit l 15) 15 / 65536 * 65536)).set 0 (nth ((cit l 15).set 15 (nth (cit l 15) 15 - nth (cit l 15) 15 / 65536 * 65536)) 0 + 38 * (nth (cit l 15) 15 / 65536)) = cit l 16 := by
  show _ = cstep (cit l 15) 15
  unfold cstep
  simp only [show ¬ (15 : Nat) < 15 by decide, if_false]

set_option maxHeartbeats 8000000 in
theorem carry_any (l : List Int) (hl : l.length = 16) (hf : Fit l) (w : World) : Calls Try.prog 35 [.agg (l.map I).toArray].toArray w fun e w' => e = .returned (.agg ((car l).map I).toArray) ∧ Ext w w' := by
  refine enter (n := 36) Try.func35 rfl rfl rfl (Holds.start w []) ?_
  repeat (first | refine JL.q (by first | (apply OQ.move; exact rfl) | (apply OQ.assign; exact rfl) | (apply OQ.xor32; exact rfl; exact rfl) | (apply OQ.addN; exact rfl; exact rfl; exact (by (try simp only []); omega)) | (apply OQ.lssN; exact rfl; exact rfl) | (apply OQ.idxA0; exact rfl; exact rfl; exact rfl; exact rfl; exact (by (try simp only []); omega))) rfl ?_ | refine JC.seq ?_ | refine JC.region ?_ | refine JC.block ?_ | refine JC.skip ?_ | refine JC.exit ?_ | refine JL.nil ?_ | refine JE.next ?_ | refine JE.blk_normal ?_ | refine JE.then_exit ?_ | refine JE.blk_hit ?_ | refine JE.blk_miss rfl ?_ | refine JE.then_ret ?_ | refine JE.blk_ret ?_ | refine JC.label ?_ | refine JL.gon rfl rfl ?_ | refine JL.gskip rfl rfl rfl rfl ?_)
  refine JL.box (r := l.map I) rfl rfl rfl fun b1 _ => ?_
  refine JL.alloc n16z rfl fun b2 _ => ?_
  repeat (first | refine JL.q (by first | (apply OQ.move; exact rfl) | (apply OQ.assign; exact rfl) | (apply OQ.xor32; exact rfl; exact rfl) | (apply OQ.addN; exact rfl; exact rfl; exact (by (try simp only []); omega)) | (apply OQ.lssN; exact rfl; exact rfl) | (apply OQ.idxA0; exact rfl; exact rfl; exact rfl; exact rfl; exact (by (try simp only []); omega))) rfl ?_ | refine JC.seq ?_ | refine JC.region ?_ | refine JC.block ?_ | refine JC.skip ?_ | refine JC.exit ?_ | refine JL.nil ?_ | refine JE.next ?_ | refine JE.blk_normal ?_ | refine JE.then_exit ?_ | refine JE.blk_hit ?_ | refine JE.blk_miss rfl ?_ | refine JE.then_ret ?_ | refine JE.blk_ret ?_ | refine JC.label ?_ | refine JL.gon rfl rfl ?_ | refine JL.gskip rfl rfl rfl rfl ?_)
  refine JC.loop (fun i : Nat => [(1, Pt b1 0), (2, Pt b2 0), (3, N i)])
    (fun i => [⟨b2, Row 45 ((List.replicate 16 (0 : Int)).map I), true⟩, ⟨b1, Row 45 ((cit l i).map I), true⟩])
    (fun i => 16 - i) (fun i => i ≤ 16) 0 (by omega) (by repeat (first | exact SubE.nil | refine SubE.cons _ _ _ rfl ?_)) (Less.refl _) ?_
  intro i hi
  have len := cit_len l i
  rw [hl] at len
  repeat (first | refine JL.q (by first | (apply OQ.move; exact rfl) | (apply OQ.assign; exact rfl) | (apply OQ.xor32; exact rfl; exact rfl) | (apply OQ.addN; exact rfl; exact rfl; exact (by (try simp only []); omega)) | (apply OQ.lssN; exact rfl; exact rfl) | (apply OQ.idxA0; exact rfl; exact rfl; exact rfl; exact rfl; exact (by (try simp only []); omega))) rfl ?_ | refine JC.seq ?_ | refine JC.region ?_ | refine JC.block ?_ | refine JC.skip ?_ | refine JC.exit ?_ | refine JL.nil ?_ | refine JE.next ?_ | refine JE.blk_normal ?_ | refine JE.then_exit ?_ | refine JE.blk_hit ?_ | refine JE.blk_miss rfl ?_ | refine JE.then_ret ?_ | refine JE.blk_ret ?_ | refine JC.label ?_ | refine JL.gon rfl rfl ?_ | refine JL.gskip rfl rfl rfl rfl ?_)
  refine JC.cond rfl (fun h => ?_) (fun h => ?_)
  · have hi' : i < 16 := of_decide_eq_true h
    clear h hi
    have hh := hf.here hl hi'
    have hc := I_nth (l := cit l i) (i := i) (by omega)
    repeat (first | refine JL.q (by first | (apply OQ.idxA0; exact Try.underlying45; exact i1s; exact rfl; exact rfl; exact (by (try simp only []); omega)) | (apply OQ.load; exact i1c; exact rfl; exact (.there .here); exact (Row.cell hc)) | (apply OQ.shrI (m := 65536) (k := 16); exact (by decide); exact (by decide); exact rfl; exact rfl) | (apply OQ.shlI (m := 65536) (k := 16); exact (by decide); exact (by decide); exact rfl; exact rfl; exact (by omega); exact (by omega)) | (apply OQ.subI; exact rfl; exact rfl; exact (by omega); exact (by omega)) | (apply OQ.move; exact rfl) | (apply OQ.assign; exact rfl) | (apply OQ.xor32; exact rfl; exact rfl) | (apply OQ.addN; exact rfl; exact rfl; exact (by (try simp only []); omega)) | (apply OQ.lssN; exact rfl; exact rfl) | (apply OQ.idxA0; exact rfl; exact rfl; exact rfl; exact rfl; exact (by (try simp only []); omega))) rfl ?_ | refine JC.seq ?_ | refine JC.region ?_ | refine JC.block ?_ | refine JC.skip ?_ | refine JC.exit ?_ | refine JL.nil ?_ | refine JE.next ?_ | refine JE.blk_normal ?_ | refine JE.then_exit ?_ | refine JE.blk_hit ?_ | refine JE.blk_miss rfl ?_ | refine JE.then_ret ?_ | refine JE.blk_ret ?_ | refine JC.label ?_ | refine JL.gon rfl rfl ?_ | refine JL.gskip rfl rfl rfl rfl ?_)
    refine JL.store_eq (r' := ((cit l i).set i (nth (cit l i) i - nth (cit l i) i / 65536 * 65536)).map I) i1s rfl rfl rfl rfl (.there .here) (by rw [List.length_map]; omega) (I_set _ _ _) ?_
    repeat (first | refine JL.q (by first | (apply OQ.move; exact rfl) | (apply OQ.assign; exact rfl) | (apply OQ.xor32; exact rfl; exact rfl) | (apply OQ.addN; exact rfl; exact rfl; exact (by (try simp only []); omega)) | (apply OQ.lssN; exact rfl; exact rfl) | (apply OQ.idxA0; exact rfl; exact rfl; exact rfl; exact rfl; exact (by (try simp only []); omega))) rfl ?_ | refine JC.seq ?_ | refine JC.region ?_ | refine JC.block ?_ | refine JC.skip ?_ | refine JC.exit ?_ | refine JL.nil ?_ | refine JE.next ?_ | refine JE.blk_normal ?_ | refine JE.then_exit ?_ | refine JE.blk_hit ?_ | refine JE.blk_miss rfl ?_ | refine JE.then_ret ?_ | refine JE.blk_ret ?_ | refine JC.label ?_ | refine JL.gon rfl rfl ?_ | refine JL.gskip rfl rfl rfl rfl ?_)
    refine JC.cond rfl (fun h => ?_) (fun h => ?_)
    · have h15 : i < 15 := of_decide_eq_true h
      clear h
      have hn := hf.next hl h15
      have hm : nth ((cit l i).set i (nth (cit l i) i - nth (cit l i) i / 65536 * 65536)) (i + 1) = nth (cit l i) (i + 1) := by rw [nth_set _ _ _ _ (by omega), if_neg (by omega)]
      have hd := I_nth (l := (cit l i).set i (nth (cit l i) i - nth (cit l i) i / 65536 * 65536)) (i := i + 1) (by rw [List.length_set]; omega)
      repeat (first | refine JL.q (by first | (apply OQ.idxA0; exact Try.underlying45; exact i1s; exact rfl; exact rfl; exact (by (try simp only []); omega)) | (apply OQ.load; exact i1c; exact rfl; exact (.there .here); exact (Row.cell hd)) | (apply OQ.addI; exact rfl; exact rfl; exact (by omega); exact (by omega)) | (apply OQ.move; exact rfl) | (apply OQ.assign; exact rfl) | (apply OQ.xor32; exact rfl; exact rfl) | (apply OQ.addN; exact rfl; exact rfl; exact (by (try simp only []); omega)) | (apply OQ.lssN; exact rfl; exact rfl) | (apply OQ.idxA0; exact rfl; exact rfl; exact rfl; exact rfl; exact (by (try simp only []); omega))) rfl ?_ | refine JC.seq ?_ | refine JC.region ?_ | refine JC.block ?_ | refine JC.skip ?_ | refine JC.exit ?_ | refine JL.nil ?_ | refine JE.next ?_ | refine JE.blk_normal ?_ | refine JE.then_exit ?_ | refine JE.blk_hit ?_ | refine JE.blk_miss rfl ?_ | refine JE.then_ret ?_ | refine JE.blk_ret ?_ | refine JC.label ?_ | refine JL.gon rfl rfl ?_ | refine JL.gskip rfl rfl rfl rfl ?_)
      refine JL.store_eq (r' := (cit l (i + 1)).map I) i1s rfl rfl rfl rfl (.there .here) (by rw [List.length_map, List.length_set, len]; (try simp only []); omega) (by rw [I_set, cit_next h15]) ?_
      repeat (first | refine JL.q (by first | (apply OQ.move; exact rfl) | (apply OQ.assign; exact rfl) | (apply OQ.xor32; exact rfl; exact rfl) | (apply OQ.addN; exact rfl; exact rfl; exact (by (try simp only []); omega)) | (apply OQ.lssN; exact rfl; exact rfl) | (apply OQ.idxA0; exact rfl; exact rfl; exact rfl; exact rfl; exact (by (try simp only []); omega))) rfl ?_ | refine JC.seq ?_ | refine JC.region ?_ | refine JC.block ?_ | refine JC.skip ?_ | refine JC.exit ?_ | refine JL.nil ?_ | refine JE.next ?_ | refine JE.blk_normal ?_ | refine JE.then_exit ?_ | refine JE.blk_hit ?_ | refine JE.blk_miss rfl ?_ | refine JE.then_ret ?_ | refine JE.blk_ret ?_ | refine JC.label ?_ | refine JL.gon rfl rfl ?_ | refine JL.gskip rfl rfl rfl rfl ?_)
      exact JE.again (i := i) (i + 1) (by omega) (by omega) (by repeat (first | exact SubE.nil | refine SubE.cons _ _ _ rfl ?_)) (Less.refl _)
    · have h15 : ¬ i < 15 := of_decide_eq_false h
      obtain rfl : i = 15 := by omega
      clear h
      have hn := hf.zero hl
      have hm : nth ((cit l 15).set 15 (nth (cit l 15) 15 - nth (cit l 15) 15 / 65536 * 65536)) 0 = nth (cit l 15) 0 := by rw [nth_set _ _ _ _ (by omega), if_neg (by omega)]
      have hd := I_nth (l := (cit l 15).set 15 (nth (cit l 15) 15 - nth (cit l 15) 15 / 65536 * 65536)) (i := 0) (by rw [List.length_set]; omega)
      repeat (first | refine JL.q (by first | (apply OQ.idxA0; exact Try.underlying45; exact i1s; exact rfl; exact rfl; exact (by decide)) | (apply OQ.load; exact i1c; exact rfl; exact (.there .here); exact (Row.cell hd)) | (apply OQ.mulI (a := 38); exact rfl; exact rfl; exact (by omega); exact (by omega)) | (apply OQ.addI; exact rfl; exact rfl; exact (by omega); exact (by omega)) | (apply OQ.move; exact rfl) | (apply OQ.assign; exact rfl) | (apply OQ.xor32; exact rfl; exact rfl) | (apply OQ.addN; exact rfl; exact rfl; exact (by (try simp only []); omega)) | (apply OQ.lssN; exact rfl; exact rfl) | (apply OQ.idxA0; exact rfl; exact rfl; exact rfl; exact rfl; exact (by (try simp only []); omega))) rfl ?_ | refine JC.seq ?_ | refine JC.region ?_ | refine JC.block ?_ | refine JC.skip ?_ | refine JC.exit ?_ | refine JL.nil ?_ | refine JE.next ?_ | refine JE.blk_normal ?_ | refine JE.then_exit ?_ | refine JE.blk_hit ?_ | refine JE.blk_miss rfl ?_ | refine JE.then_ret ?_ | refine JE.blk_ret ?_ | refine JC.label ?_ | refine JL.gon rfl rfl ?_ | refine JL.gskip rfl rfl rfl rfl ?_)
      refine JL.store_eq (r' := (cit l 16).map I) i1s rfl rfl rfl rfl (.there .here) (by rw [List.length_map, List.length_set, len]; (try simp only []); omega) (by rw [I_set, cit_last]) ?_
      repeat (first | refine JL.q (by first | (apply OQ.move; exact rfl) | (apply OQ.assign; exact rfl) | (apply OQ.xor32; exact rfl; exact rfl) | (apply OQ.addN; exact rfl; exact rfl; exact (by (try simp only []); omega)) | (apply OQ.lssN; exact rfl; exact rfl) | (apply OQ.idxA0; exact rfl; exact rfl; exact rfl; exact rfl; exact (by (try simp only []); omega))) rfl ?_ | refine JC.seq ?_ | refine JC.region ?_ | refine JC.block ?_ | refine JC.skip ?_ | refine JC.exit ?_ | refine JL.nil ?_ | refine JE.next ?_ | refine JE.blk_normal ?_ | refine JE.then_exit ?_ | refine JE.blk_hit ?_ | refine JE.blk_miss rfl ?_ | refine JE.then_ret ?_ | refine JE.blk_ret ?_ | refine JC.label ?_ | refine JL.gon rfl rfl ?_ | refine JL.gskip rfl rfl rfl rfl ?_)
      exact JE.again (i := 15) 16 (by omega) (by omega) (by repeat (first | exact SubE.nil | refine SubE.cons _ _ _ rfl ?_)) (Less.refl _)
  · have hi' : ¬ i < 16 := of_decide_eq_false h
    obtain rfl : i = 16 := by omega
    clear h hi hi'
    have hl' : ((cit l 16).map I).length = 16 := by rw [List.length_map]; exact len
    repeat (first | refine JL.q (by first | (apply OQ.load_agg (cs := (cit l 16).map I); exact n16a; exact n16s; exact rfl; exact (.there .here); exact hl'; exact Row.all) | (apply OQ.move; exact rfl) | (apply OQ.assign; exact rfl) | (apply OQ.xor32; exact rfl; exact rfl) | (apply OQ.addN; exact rfl; exact rfl; exact (by (try simp only []); omega)) | (apply OQ.lssN; exact rfl; exact rfl) | (apply OQ.idxA0; exact rfl; exact rfl; exact rfl; exact rfl; exact (by (try simp only []); omega))) rfl ?_ | refine JC.seq ?_ | refine JC.region ?_ | refine JC.block ?_ | refine JC.skip ?_ | refine JC.exit ?_ | refine JL.nil ?_ | refine JE.next ?_ | refine JE.blk_normal ?_ | refine JE.then_exit ?_ | refine JE.blk_hit ?_ | refine JE.blk_miss rfl ?_ | refine JE.then_ret ?_ | refine JE.blk_ret ?_ | refine JC.label ?_ | refine JL.gon rfl rfl ?_ | refine JL.gskip rfl rfl rfl rfl ?_)
    refine JL.store_all n16s rfl rfl hl' (I_cell _) .here (by simp) ?_
    repeat (first | refine JL.q (by first | (apply OQ.move; exact rfl) | (apply OQ.assign; exact rfl) | (apply OQ.xor32; exact rfl; exact rfl) | (apply OQ.addN; exact rfl; exact rfl; exact (by (try simp only []); omega)) | (apply OQ.lssN; exact rfl; exact rfl) | (apply OQ.idxA0; exact rfl; exact rfl; exact rfl; exact rfl; exact (by (try simp only []); omega))) rfl ?_ | refine JC.seq ?_ | refine JC.region ?_ | refine JC.block ?_ | refine JC.skip ?_ | refine JC.exit ?_ | refine JL.nil ?_ | refine JE.next ?_ | refine JE.blk_normal ?_ | refine JE.then_exit ?_ | refine JE.blk_hit ?_ | refine JE.blk_miss rfl ?_ | refine JE.then_ret ?_ | refine JE.blk_ret ?_ | refine JC.label ?_ | refine JL.gon rfl rfl ?_ | refine JL.gskip rfl rfl rfl rfl ?_)
    refine JC.ret (JE.ret1 rfl (RV.cell_agg n16a n16s rfl .here hl' Row.all) ?_)
    exact fun w' hw => ⟨rfl, hw.chg⟩
end Go.Proofs.Ytmbabkigjckaaaa
