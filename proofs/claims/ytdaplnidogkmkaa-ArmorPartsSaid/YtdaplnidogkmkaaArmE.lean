/-
  Of no statement by itself: what the reference's Encode (layer 6) gives.
  Conditions: each theorem's own.
-/
import Derived.Test.YtdaplnidogkmkaaTyp
import Derived.Test.YtdaplnidogkmkaaSlq
import Derived.Test.YtdaplnidogkmkaaSli
import Derived.Test.YtdaplnidogkmkaaArmS
namespace Go.Proofs.Ytdaplnidogkmkaa
open Sl Arm
theorem goes_renc : Goes Try.prog 10 := ⟨_, Try.func10, rfl, by kernel_rfl⟩
theorem i64s : szT Try.prog 3 = some 1 := by kernel_rfl
theorem i64c : scal Try.prog 3 = true := by kernel_rfl
theorem i64e : EI Try.prog 3 (.int .i64 0) 1 8 := by unfold EI; kernel_rfl
theorem bit8 (x : Arm.By) {j : Nat} (h : j < 8) : ((x >>> (7 - j)) &&& 1#8).toNat = (b8 x.toNat).getD j 0 := by
  have h8 : ∀ j : Fin 8, ∀ x : Arm.By, ((x >>> (7 - j.val)) &&& 1#8).toNat = (b8 x.toNat).getD j.val 0 := by decide +kernel
  exact h8 ⟨j, h⟩ x
theorem take_one {α : Type} (l : List α) (d : α) {j : Nat} (h : j < l.length) : l.take (j + 1) = l.take j ++ [l.getD j d] := by
  rw [List.take_add_one, List.getD_eq_getElem?_getD, List.getElem?_eq_getElem h]; rfl
theorem bts_take (l : List Arm.By) {i : Nat} (h : i < l.length) : bts (l.take (i + 1)) = bts (l.take i) ++ b8 (l.getD i 0).toNat := by
  rw [take_one l 0 h]
  unfold bts
  rw [List.flatMap_append]
  simp
theorem bit_le : ∀ (l : List Arm.By), ∀ x ∈ bts l, x ≤ 1
  | [], x, h => by cases h
  | a :: l, x, h => by
    rw [bts_cons, List.mem_append] at h
    rcases h with h | h
    · simp only [b8, List.mem_cons, List.not_mem_nil, or_false] at h
      omega
    · exact bit_le l x h
theorem pad_le (l : List Arm.By) : ∀ x ∈ pad6 (bts l), x ≤ 1 := fun x h => by
  unfold pad6 at h
  rcases List.mem_append.1 h with h | h
  · exact bit_le l x h
  · rw [List.eq_of_mem_replicate h]; decide
theorem val_lt : ∀ (l : List Nat), (∀ x ∈ l, x ≤ 1) → ∀ s, l.foldl (fun n b => 2 * n + b) s + 1 ≤ (s + 1) * 2 ^ l.length
  | [], _, s => by simp
  | a :: l, h, s => by
    have ih := val_lt l (fun x hx => h x (List.mem_cons_of_mem _ hx)) (2 * s + a)
    have ha := h a (List.mem_cons_self ..)
    rw [List.foldl_cons, List.length_cons, Nat.pow_succ]
    refine Nat.le_trans ih ?_
    rw [Nat.mul_comm (2 ^ l.length) 2, ← Nat.mul_assoc]
    exact Nat.mul_le_mul_right _ (by omega)
/-- the value of the first j of a group of bits -/
theorem val_take (l : List Nat) (i : Nat) {j : Nat} (h : i + j < l.length) : val ((l.drop i).take (j + 1)) = 2 * val ((l.drop i).take j) + l.getD (i + j) 0 := by
  rw [take_one (l.drop i) 0 (by rw [List.length_drop]; omega)]
  unfold val
  rw [List.foldl_append]
  simp [List.getD_eq_getElem?_getD, List.getElem?_drop]
theorem val_bd {l : List Nat} (h : ∀ x ∈ l, x ≤ 1) (i j : Nat) : val ((l.drop i).take j) < 2 ^ j := by
  have := val_lt ((l.drop i).take j) (fun x hx => h x (List.mem_of_mem_drop (List.mem_of_mem_take hx))) 0
  have l1 : ((l.drop i).take j).length ≤ j := by rw [List.length_take]; omega
  have p := Nat.pow_le_pow_right (n := 2) (by decide) l1
  unfold val
  omega
theorem drop6 (l : List Nat) {g : Nat} (h : 6 * g + 6 ≤ l.length) : ∃ a b c d e f, (l.drop (6 * g)).take 6 = [a, b, c, d, e, f] := by
  have hl : ((l.drop (6 * g)).take 6).length = 6 := by rw [List.length_take, List.length_drop]; omega
  match hq : (l.drop (6 * g)).take 6, hl with
  | [a, b, c, d, e, f], _ => exact ⟨a, b, c, d, e, f, rfl⟩
theorem sx_take (l : List Nat) {g : Nat} (h : 6 * g + 6 ≤ l.length) : sx (l.take (6 * (g + 1))) = sx (l.take (6 * g)) ++ [sg (val ((l.drop (6 * g)).take 6))] := by
  obtain ⟨a, b, c, d, e, f, hq⟩ := drop6 l h
  have e1 : l.take (6 * (g + 1)) = l.take (6 * g) ++ (l.drop (6 * g)).take 6 := by
    rw [show 6 * (g + 1) = 6 * g + 6 by omega, List.take_add]
  rw [e1, sx_append g _ _ (by rw [List.length_take]; omega), hq, sx6, sx0]
theorem N_nth {l : List Nat} {i : Nat} (h : i < l.length) : (l.map N)[i]? = some (N (l.getD i 0)) := by simp [h]
theorem own_one {e : TypeId} {k cap : Nat} {xs : List Value} {j : Nat} {v : Value} (h : xs[j]? = some v) : ∀ o, Own e 1 k cap xs o → cellAt o j = some v := Own.cell h
def sgV : List Arm.By := sgL
theorem sgV_is : strB sgL = strB sgV := rfl

set_option maxHeartbeats 16000000 in
theorem renc_any (s : Sl8) (w : World) (hs : s.ok w) (hl : s.l.length ≤ 1000000) : Calls Try.prog 10 [s.v].toArray w fun e w' => e = .returned (Z (encB s.l)) ∧ Ext w w' := by
  rw [← encR_is]
  have hb8 : ∀ x : Nat, (b8 x).length = 8 := fun _ => rfl
  refine enter (n := 73) Try.func10 rfl rfl rfl (Holds.start w []) ?_
  repeat (first | refine JL.q (by first | (apply OQ.move; exact rfl) | (apply OQ.assign; exact rfl) | (apply OQ.len; exact rfl; exact rfl) | (apply OQ.addN; exact rfl; exact rfl; exact (by (try simp only []); omega)) | (apply OQ.subN; exact rfl; exact rfl; exact (by (try simp only []); omega); exact (by (try simp only []); omega)) | (apply OQ.mulN; exact rfl; exact rfl; exact (by (try simp only []); omega)) | (apply OQ.remN; exact rfl; exact rfl; exact (by (try simp only []); omega)) | (apply OQ.lssN; exact rfl; exact rfl) | (apply OQ.neN; exact rfl; exact rfl) | (apply OQ.idxS1; exact rfl; exact rfl; exact rfl; exact rfl; exact (by (try simp only []); omega))) rfl ?_ | refine JC.seq ?_ | refine JC.region ?_ | refine JC.block ?_ | refine JC.skip ?_ | refine JC.exit ?_ | refine JL.nil ?_ | refine JE.next ?_ | refine JE.blk_normal ?_ | refine JE.then_exit ?_ | refine JE.blk_hit ?_ | refine JE.blk_miss rfl ?_ | refine JE.then_ret ?_ | refine JE.blk_ret ?_ | refine JC.label ?_ | refine JL.gon rfl rfl ?_ | refine JL.gskip rfl rfl rfl rfl ?_)
  refine JL.lit0 Try.underlying35 i64e rfl fun b0 _ => ?_
  repeat (first | refine JL.q (by first | (apply OQ.move; exact rfl) | (apply OQ.assign; exact rfl) | (apply OQ.len; exact rfl; exact rfl) | (apply OQ.addN; exact rfl; exact rfl; exact (by (try simp only []); omega)) | (apply OQ.subN; exact rfl; exact rfl; exact (by (try simp only []); omega); exact (by (try simp only []); omega)) | (apply OQ.mulN; exact rfl; exact rfl; exact (by (try simp only []); omega)) | (apply OQ.remN; exact rfl; exact rfl; exact (by (try simp only []); omega)) | (apply OQ.lssN; exact rfl; exact rfl) | (apply OQ.neN; exact rfl; exact rfl) | (apply OQ.idxS1; exact rfl; exact rfl; exact rfl; exact rfl; exact (by (try simp only []); omega))) rfl ?_ | refine JC.seq ?_ | refine JC.region ?_ | refine JC.block ?_ | refine JC.skip ?_ | refine JC.exit ?_ | refine JL.nil ?_ | refine JE.next ?_ | refine JE.blk_normal ?_ | refine JE.then_exit ?_ | refine JE.blk_hit ?_ | refine JE.blk_miss rfl ?_ | refine JE.then_ret ?_ | refine JE.blk_ret ?_ | refine JC.label ?_ | refine JL.gon rfl rfl ?_ | refine JL.gskip rfl rfl rfl rfl ?_)
  refine JC.loop (fun q : Nat × Nat × Nat => [(0, s.v), (3, .slice (some ⟨q.2.1, 0, none⟩) (8 * q.1) q.2.2), (4, N q.1)])
    (fun q => [⟨q.2.1, Own 3 1 (8 * q.1) q.2.2 ((bts (s.l.take q.1)).map N), true⟩])
    (fun q => s.l.length - q.1) (fun q => q.1 ≤ s.l.length) (0, b0, 0) (by show 0 ≤ s.l.length; omega) (by repeat (first | exact SubE.nil | refine SubE.cons _ _ _ rfl ?_)) (.keep _ _ _ _ _ _ (row_ownG rfl) (.nil _)) ?_
  rintro ⟨i, b, cap⟩ hi
  simp only at hi
  repeat (first | refine JL.q (by first | (apply OQ.move; exact rfl) | (apply OQ.assign; exact rfl) | (apply OQ.len; exact rfl; exact rfl) | (apply OQ.addN; exact rfl; exact rfl; exact (by (try simp only []); omega)) | (apply OQ.subN; exact rfl; exact rfl; exact (by (try simp only []); omega); exact (by (try simp only []); omega)) | (apply OQ.mulN; exact rfl; exact rfl; exact (by (try simp only []); omega)) | (apply OQ.remN; exact rfl; exact rfl; exact (by (try simp only []); omega)) | (apply OQ.lssN; exact rfl; exact rfl) | (apply OQ.neN; exact rfl; exact rfl) | (apply OQ.idxS1; exact rfl; exact rfl; exact rfl; exact rfl; exact (by (try simp only []); omega))) rfl ?_ | refine JC.seq ?_ | refine JC.region ?_ | refine JC.block ?_ | refine JC.skip ?_ | refine JC.exit ?_ | refine JL.nil ?_ | refine JE.next ?_ | refine JE.blk_normal ?_ | refine JE.then_exit ?_ | refine JE.blk_hit ?_ | refine JE.blk_miss rfl ?_ | refine JE.then_ret ?_ | refine JE.blk_ret ?_ | refine JC.label ?_ | refine JL.gon rfl rfl ?_ | refine JL.gskip rfl rfl rfl rfl ?_)
  refine JC.cond rfl (fun h => ?_) (fun h => ?_)
  · have hi' : i < s.l.length := of_decide_eq_true h
    clear h hi
    have hbl : (bts (s.l.take i)).length = 8 * i := by rw [bts_len, List.length_take]; omega
    obtain ⟨ba, ja, hae, hca⟩ := hs.reads.at (by simp; omega)
    have hc := hca i _ (map_at U8 0 hi')
    have hav : s.v = .slice (some ⟨ba, ja, none⟩) s.l.length s.cap := by rw [← hae]; rfl
    have eT := bts_take s.l hi'
    have hbit := fun j (h : j < 8) => bit8 (s.l.getD i 0) h
    generalize bts (s.l.take i) = T at hbl eT ⊢
    generalize s.l.getD i 0 = x at hc eT hbit
    repeat (first | refine JL.q (by first | (apply OQ.move; exact rfl) | (apply OQ.assign; exact rfl) | (apply OQ.len; exact rfl; exact rfl) | (apply OQ.addN; exact rfl; exact rfl; exact (by (try simp only []); omega)) | (apply OQ.subN; exact rfl; exact rfl; exact (by (try simp only []); omega); exact (by (try simp only []); omega)) | (apply OQ.mulN; exact rfl; exact rfl; exact (by (try simp only []); omega)) | (apply OQ.remN; exact rfl; exact rfl; exact (by (try simp only []); omega)) | (apply OQ.lssN; exact rfl; exact rfl) | (apply OQ.neN; exact rfl; exact rfl) | (apply OQ.idxS1; exact rfl; exact rfl; exact rfl; exact rfl; exact (by (try simp only []); omega))) rfl ?_ | refine JC.seq ?_ | refine JC.region ?_ | refine JC.block ?_ | refine JC.skip ?_ | refine JC.exit ?_ | refine JL.nil ?_ | refine JE.next ?_ | refine JE.blk_normal ?_ | refine JE.then_exit ?_ | refine JE.blk_hit ?_ | refine JE.blk_miss rfl ?_ | refine JE.then_ret ?_ | refine JE.blk_ret ?_ | refine JC.label ?_ | refine JL.gon rfl rfl ?_ | refine JL.gskip rfl rfl rfl rfl ?_)
    refine JC.loop (fun q : Nat × Nat × Nat => [(0, s.v), (3, .slice (some ⟨q.2.1, 0, none⟩) (8 * i + q.1) q.2.2), (4, N i), (5, I (7 - q.1))])
      (fun q => [⟨q.2.1, Own 3 1 (8 * i + q.1) q.2.2 ((T ++ (b8 x.toNat).take q.1).map N), true⟩])
      (fun q => 8 - q.1) (fun q => q.1 ≤ 8) (0, b, cap) (by show 0 ≤ 8; omega) (by repeat (first | exact SubE.nil | refine SubE.cons _ _ _ rfl ?_)) (.keep _ _ _ _ _ _ (fun o h => by simpa using h) (.nil _)) ?_
    rintro ⟨j, b, cap⟩ hj
    simp only at hj
    dsimp only
    repeat (first | refine JL.q (by first | (apply OQ.geqI (b := 0); exact rfl; exact rfl) | (apply OQ.move; exact rfl) | (apply OQ.assign; exact rfl) | (apply OQ.len; exact rfl; exact rfl) | (apply OQ.addN; exact rfl; exact rfl; exact (by (try simp only []); omega)) | (apply OQ.subN; exact rfl; exact rfl; exact (by (try simp only []); omega); exact (by (try simp only []); omega)) | (apply OQ.mulN; exact rfl; exact rfl; exact (by (try simp only []); omega)) | (apply OQ.remN; exact rfl; exact rfl; exact (by (try simp only []); omega)) | (apply OQ.lssN; exact rfl; exact rfl) | (apply OQ.neN; exact rfl; exact rfl) | (apply OQ.idxS1; exact rfl; exact rfl; exact rfl; exact rfl; exact (by (try simp only []); omega))) rfl ?_ | refine JC.seq ?_ | refine JC.region ?_ | refine JC.block ?_ | refine JC.skip ?_ | refine JC.exit ?_ | refine JL.nil ?_ | refine JE.next ?_ | refine JE.blk_normal ?_ | refine JE.then_exit ?_ | refine JE.blk_hit ?_ | refine JE.blk_miss rfl ?_ | refine JE.then_ret ?_ | refine JE.blk_ret ?_ | refine JC.label ?_ | refine JL.gon rfl rfl ?_ | refine JL.gskip rfl rfl rfl rfl ?_)
    refine JC.cond rfl (fun h => ?_) (fun h => ?_)
    · have hj0 : (0 : Int) ≤ 7 - j := of_decide_eq_true h
      have hj' : j < 8 := by omega
      clear h hj hj0
      have eI : (7 - (j : Int)) = ((7 - j : Nat) : Int) := by omega
      rw [eI]
      have hb := hbit j hj'
      rw [hav]
      repeat (first | refine JL.q (by first | (apply OQ.idxS1; exact Try.underlying22; exact u8s; exact rfl; exact rfl; exact hi') | (apply OQ.load_old; exact u8c; exact rfl; exact (block_lt_of_cell hc); exact (by simp); exact hc) | (apply OQ.shr8; exact rfl; exact rfl) | (apply OQ.and8 (b := 1#8); exact rfl; exact rfl) | (apply OQ.conv8_N; exact rfl; exact rfl; exact rfl) | (apply OQ.move; exact rfl) | (apply OQ.assign; exact rfl) | (apply OQ.len; exact rfl; exact rfl) | (apply OQ.addN; exact rfl; exact rfl; exact (by (try simp only []); omega)) | (apply OQ.subN; exact rfl; exact rfl; exact (by (try simp only []); omega); exact (by (try simp only []); omega)) | (apply OQ.mulN; exact rfl; exact rfl; exact (by (try simp only []); omega)) | (apply OQ.remN; exact rfl; exact rfl; exact (by (try simp only []); omega)) | (apply OQ.lssN; exact rfl; exact rfl) | (apply OQ.neN; exact rfl; exact rfl) | (apply OQ.idxS1; exact rfl; exact rfl; exact rfl; exact rfl; exact (by (try simp only []); omega))) rfl ?_ | refine JC.seq ?_ | refine JC.region ?_ | refine JC.block ?_ | refine JC.skip ?_ | refine JC.exit ?_ | refine JL.nil ?_ | refine JE.next ?_ | refine JE.blk_normal ?_ | refine JE.then_exit ?_ | refine JE.blk_hit ?_ | refine JE.blk_miss rfl ?_ | refine JE.then_ret ?_ | refine JE.blk_ret ?_ | refine JC.label ?_ | refine JL.gon rfl rfl ?_ | refine JL.gskip rfl rfl rfl rfl ?_)
      refine JL.push1 (xs := (T ++ (b8 x.toNat).take j).map N) (fun b' cap' => [⟨b', Own 3 1 (8 * i + j + 1) cap' ((T ++ (b8 x.toNat).take j).map N ++ [N ((x >>> (7 - j)) &&& 1#8).toNat]), true⟩]) Try.underlying35 i64e rfl rfl rfl rfl (fun _ => rfl) (by intro _ _; repeat (first | exact Repl.here | apply Repl.there)) (by omega) (by omega) rfl rfl fun bl b' cap' => ?_
      rw [← hav]
      repeat (first | refine JL.q (by first | (apply OQ.subI (b := 1); exact rfl; exact rfl; exact (by omega); exact (by omega)) | (apply OQ.move; exact rfl) | (apply OQ.assign; exact rfl) | (apply OQ.len; exact rfl; exact rfl) | (apply OQ.addN; exact rfl; exact rfl; exact (by (try simp only []); omega)) | (apply OQ.subN; exact rfl; exact rfl; exact (by (try simp only []); omega); exact (by (try simp only []); omega)) | (apply OQ.mulN; exact rfl; exact rfl; exact (by (try simp only []); omega)) | (apply OQ.remN; exact rfl; exact rfl; exact (by (try simp only []); omega)) | (apply OQ.lssN; exact rfl; exact rfl) | (apply OQ.neN; exact rfl; exact rfl) | (apply OQ.idxS1; exact rfl; exact rfl; exact rfl; exact rfl; exact (by (try simp only []); omega))) rfl ?_ | refine JC.seq ?_ | refine JC.region ?_ | refine JC.block ?_ | refine JC.skip ?_ | refine JC.exit ?_ | refine JL.nil ?_ | refine JE.next ?_ | refine JE.blk_normal ?_ | refine JE.then_exit ?_ | refine JE.blk_hit ?_ | refine JE.blk_miss rfl ?_ | refine JE.then_ret ?_ | refine JE.blk_ret ?_ | refine JC.label ?_ | refine JL.gon rfl rfl ?_ | refine JL.gskip rfl rfl rfl rfl ?_)
      refine JE.again (i := (j, b, cap)) (j + 1, b', cap') (by show j + 1 ≤ 8; omega) (by show 8 - (j + 1) < 8 - j; omega) ?_ (.keep _ _ _ _ _ _ (fun o h => ?_) (.nil _))
      · dsimp only
        rw [show (7 - ((j + 1 : Nat) : Int)) = ((7 - j : Nat) : Int) - 1 by omega]
        exact (by repeat (first | exact SubE.nil | refine SubE.cons _ _ _ rfl ?_))
      · dsimp only
        rw [take_one _ 0 (by rw [hb8]; exact hj'), ← hb, ← List.append_assoc, List.map_append]
        exact h
    · have hj0 : ¬ (0 : Int) ≤ 7 - j := of_decide_eq_false h
      obtain rfl : j = 8 := by omega
      clear h hj hj0
      repeat (first | refine JL.q (by first | (apply OQ.move; exact rfl) | (apply OQ.assign; exact rfl) | (apply OQ.len; exact rfl; exact rfl) | (apply OQ.addN; exact rfl; exact rfl; exact (by (try simp only []); omega)) | (apply OQ.subN; exact rfl; exact rfl; exact (by (try simp only []); omega); exact (by (try simp only []); omega)) | (apply OQ.mulN; exact rfl; exact rfl; exact (by (try simp only []); omega)) | (apply OQ.remN; exact rfl; exact rfl; exact (by (try simp only []); omega)) | (apply OQ.lssN; exact rfl; exact rfl) | (apply OQ.neN; exact rfl; exact rfl) | (apply OQ.idxS1; exact rfl; exact rfl; exact rfl; exact rfl; exact (by (try simp only []); omega))) rfl ?_ | refine JC.seq ?_ | refine JC.region ?_ | refine JC.block ?_ | refine JC.skip ?_ | refine JC.exit ?_ | refine JL.nil ?_ | refine JE.next ?_ | refine JE.blk_normal ?_ | refine JE.then_exit ?_ | refine JE.blk_hit ?_ | refine JE.blk_miss rfl ?_ | refine JE.then_ret ?_ | refine JE.blk_ret ?_ | refine JC.label ?_ | refine JL.gon rfl rfl ?_ | refine JL.gskip rfl rfl rfl rfl ?_)
      refine JE.again (i := (i, b, cap)) (i + 1, b, cap) (by show i + 1 ≤ _; omega) (by show s.l.length - (i + 1) < s.l.length - i; omega) (by repeat (first | exact SubE.nil | refine SubE.cons _ _ _ rfl ?_)) (.keep _ _ _ _ _ _ (fun o h => ?_) (.nil _))
      dsimp only
      rw [eT]
      exact h
  · have hi' : ¬ i < s.l.length := of_decide_eq_false h
    obtain rfl : i = s.l.length := by omega
    clear h hi hi'
    rw [List.take_length]
    have hbl := bts_len s.l
    have hle := pad_le s.l
    have epad : pad6 (bts s.l) = bts s.l ++ List.replicate (padN (8 * s.l.length)) 0 := by rw [pad6, bts_len]
    have hpad : padN (8 * s.l.length) < 6 ∧ (8 * s.l.length + padN (8 * s.l.length)) % 6 = 0 ∧ ∀ j, j < padN (8 * s.l.length) → ¬ (8 * s.l.length + j) % 6 = 0 := by
      unfold padN
      refine ⟨by omega, by omega, fun j hj => by omega⟩
    generalize hT : bts s.l = T at hbl epad ⊢
    generalize padN (8 * s.l.length) = p at epad hpad
    obtain ⟨hp1, hp2, hp3⟩ := hpad
    repeat (first | refine JL.q (by first | (apply OQ.move; exact rfl) | (apply OQ.assign; exact rfl) | (apply OQ.len; exact rfl; exact rfl) | (apply OQ.addN; exact rfl; exact rfl; exact (by (try simp only []); omega)) | (apply OQ.subN; exact rfl; exact rfl; exact (by (try simp only []); omega); exact (by (try simp only []); omega)) | (apply OQ.mulN; exact rfl; exact rfl; exact (by (try simp only []); omega)) | (apply OQ.remN; exact rfl; exact rfl; exact (by (try simp only []); omega)) | (apply OQ.lssN; exact rfl; exact rfl) | (apply OQ.neN; exact rfl; exact rfl) | (apply OQ.idxS1; exact rfl; exact rfl; exact rfl; exact rfl; exact (by (try simp only []); omega))) rfl ?_ | refine JC.seq ?_ | refine JC.region ?_ | refine JC.block ?_ | refine JC.skip ?_ | refine JC.exit ?_ | refine JL.nil ?_ | refine JE.next ?_ | refine JE.blk_normal ?_ | refine JE.then_exit ?_ | refine JE.blk_hit ?_ | refine JE.blk_miss rfl ?_ | refine JE.then_ret ?_ | refine JE.blk_ret ?_ | refine JC.label ?_ | refine JL.gon rfl rfl ?_ | refine JL.gskip rfl rfl rfl rfl ?_)
    refine JC.loop (fun q : Nat × Nat × Nat => [(3, .slice (some ⟨q.2.1, 0, none⟩) (8 * s.l.length + q.1) q.2.2)])
      (fun q => [⟨q.2.1, Own 3 1 (8 * s.l.length + q.1) q.2.2 ((T ++ List.replicate q.1 0).map N), true⟩])
      (fun q => p - q.1) (fun q => q.1 ≤ p) (0, b, cap) (by show 0 ≤ p; omega) (by repeat (first | exact SubE.nil | refine SubE.cons _ _ _ rfl ?_)) (.keep _ _ _ _ _ _ (fun o h => by simpa using h) (.nil _)) ?_
    rintro ⟨j, b, cap⟩ hj
    simp only at hj
    dsimp only
    repeat (first | refine JL.q (by first | (apply OQ.move; exact rfl) | (apply OQ.assign; exact rfl) | (apply OQ.len; exact rfl; exact rfl) | (apply OQ.addN; exact rfl; exact rfl; exact (by (try simp only []); omega)) | (apply OQ.subN; exact rfl; exact rfl; exact (by (try simp only []); omega); exact (by (try simp only []); omega)) | (apply OQ.mulN; exact rfl; exact rfl; exact (by (try simp only []); omega)) | (apply OQ.remN; exact rfl; exact rfl; exact (by (try simp only []); omega)) | (apply OQ.lssN; exact rfl; exact rfl) | (apply OQ.neN; exact rfl; exact rfl) | (apply OQ.idxS1; exact rfl; exact rfl; exact rfl; exact rfl; exact (by (try simp only []); omega))) rfl ?_ | refine JC.seq ?_ | refine JC.region ?_ | refine JC.block ?_ | refine JC.skip ?_ | refine JC.exit ?_ | refine JL.nil ?_ | refine JE.next ?_ | refine JE.blk_normal ?_ | refine JE.then_exit ?_ | refine JE.blk_hit ?_ | refine JE.blk_miss rfl ?_ | refine JE.then_ret ?_ | refine JE.blk_ret ?_ | refine JC.label ?_ | refine JL.gon rfl rfl ?_ | refine JL.gskip rfl rfl rfl rfl ?_)
    refine JC.cond rfl (fun h => ?_) (fun h => ?_)
    · have h6 : ¬ (8 * s.l.length + j) % 6 = 0 := by simpa using h
      have hj' : j < p := by
        refine Nat.lt_of_le_of_ne hj fun e => h6 ?_
        rw [e]; exact hp2
      clear h h6
      repeat (first | refine JL.q (by first | (apply OQ.move; exact rfl) | (apply OQ.assign; exact rfl) | (apply OQ.len; exact rfl; exact rfl) | (apply OQ.addN; exact rfl; exact rfl; exact (by (try simp only []); omega)) | (apply OQ.subN; exact rfl; exact rfl; exact (by (try simp only []); omega); exact (by (try simp only []); omega)) | (apply OQ.mulN; exact rfl; exact rfl; exact (by (try simp only []); omega)) | (apply OQ.remN; exact rfl; exact rfl; exact (by (try simp only []); omega)) | (apply OQ.lssN; exact rfl; exact rfl) | (apply OQ.neN; exact rfl; exact rfl) | (apply OQ.idxS1; exact rfl; exact rfl; exact rfl; exact rfl; exact (by (try simp only []); omega))) rfl ?_ | refine JC.seq ?_ | refine JC.region ?_ | refine JC.block ?_ | refine JC.skip ?_ | refine JC.exit ?_ | refine JL.nil ?_ | refine JE.next ?_ | refine JE.blk_normal ?_ | refine JE.then_exit ?_ | refine JE.blk_hit ?_ | refine JE.blk_miss rfl ?_ | refine JE.then_ret ?_ | refine JE.blk_ret ?_ | refine JC.label ?_ | refine JL.gon rfl rfl ?_ | refine JL.gskip rfl rfl rfl rfl ?_)
      refine JL.push1 (xs := (T ++ List.replicate j 0).map N) (fun b' cap' => [⟨b', Own 3 1 (8 * s.l.length + j + 1) cap' ((T ++ List.replicate j 0).map N ++ [N 0]), true⟩]) Try.underlying35 i64e rfl rfl rfl rfl (fun _ => rfl) (by intro _ _; repeat (first | exact Repl.here | apply Repl.there)) (by omega) (by omega) rfl rfl fun bl b' cap' => ?_
      repeat (first | refine JL.q (by first | (apply OQ.move; exact rfl) | (apply OQ.assign; exact rfl) | (apply OQ.len; exact rfl; exact rfl) | (apply OQ.addN; exact rfl; exact rfl; exact (by (try simp only []); omega)) | (apply OQ.subN; exact rfl; exact rfl; exact (by (try simp only []); omega); exact (by (try simp only []); omega)) | (apply OQ.mulN; exact rfl; exact rfl; exact (by (try simp only []); omega)) | (apply OQ.remN; exact rfl; exact rfl; exact (by (try simp only []); omega)) | (apply OQ.lssN; exact rfl; exact rfl) | (apply OQ.neN; exact rfl; exact rfl) | (apply OQ.idxS1; exact rfl; exact rfl; exact rfl; exact rfl; exact (by (try simp only []); omega))) rfl ?_ | refine JC.seq ?_ | refine JC.region ?_ | refine JC.block ?_ | refine JC.skip ?_ | refine JC.exit ?_ | refine JL.nil ?_ | refine JE.next ?_ | refine JE.blk_normal ?_ | refine JE.then_exit ?_ | refine JE.blk_hit ?_ | refine JE.blk_miss rfl ?_ | refine JE.then_ret ?_ | refine JE.blk_ret ?_ | refine JC.label ?_ | refine JL.gon rfl rfl ?_ | refine JL.gskip rfl rfl rfl rfl ?_)
      refine JE.again (i := (j, b, cap)) (j + 1, b', cap') (by show j + 1 ≤ p; omega) (by show p - (j + 1) < p - j; omega) (by repeat (first | exact SubE.nil | refine SubE.cons _ _ _ rfl ?_)) (.keep _ _ _ _ _ _ (fun o h => ?_) (.nil _))
      dsimp only
      rw [List.replicate_succ', ← List.append_assoc, List.map_append]
      exact h
    · have h6 : (8 * s.l.length + j) % 6 = 0 := by simpa using h
      have hj' : j = p := by
        rcases Nat.lt_or_eq_of_le hj with e | e
        · exact absurd h6 (hp3 j e)
        · exact e
      subst hj'
      clear h h6 hj hp3
      rw [← epad]
      have hPl : (pad6 T).length = 8 * s.l.length + j := by rw [epad, List.length_append, hbl, List.length_replicate]
      have eR : encR s.l = sx (pad6 T) ++ List.replicate ((4 - (sx (pad6 T)).length % 4) % 4) 61 := by rw [encR, hT]
      rw [eR]
      clear eR
      rw [hT] at hle
      generalize pad6 T = Pd at hle hPl ⊢
      clear epad hbl hT
      generalize hLp : 8 * s.l.length + j = Lp at hp2 hPl ⊢
      have hLp2 : Lp ≤ 8000006 := by omega
      clear hLp
      repeat (first | refine JL.q (by first | (apply OQ.move; exact rfl) | (apply OQ.assign; exact rfl) | (apply OQ.len; exact rfl; exact rfl) | (apply OQ.addN; exact rfl; exact rfl; exact (by (try simp only []); omega)) | (apply OQ.subN; exact rfl; exact rfl; exact (by (try simp only []); omega); exact (by (try simp only []); omega)) | (apply OQ.mulN; exact rfl; exact rfl; exact (by (try simp only []); omega)) | (apply OQ.remN; exact rfl; exact rfl; exact (by (try simp only []); omega)) | (apply OQ.lssN; exact rfl; exact rfl) | (apply OQ.neN; exact rfl; exact rfl) | (apply OQ.idxS1; exact rfl; exact rfl; exact rfl; exact rfl; exact (by (try simp only []); omega))) rfl ?_ | refine JC.seq ?_ | refine JC.region ?_ | refine JC.block ?_ | refine JC.skip ?_ | refine JC.exit ?_ | refine JL.nil ?_ | refine JE.next ?_ | refine JE.blk_normal ?_ | refine JE.then_exit ?_ | refine JE.blk_hit ?_ | refine JE.blk_miss rfl ?_ | refine JE.then_ret ?_ | refine JE.blk_ret ?_ | refine JC.label ?_ | refine JL.gon rfl rfl ?_ | refine JL.gskip rfl rfl rfl rfl ?_)
      refine JL.lit0 Try.underlying22 u8e rfl fun b6 _ => ?_
      repeat (first | refine JL.q (by first | (apply OQ.move; exact rfl) | (apply OQ.assign; exact rfl) | (apply OQ.len; exact rfl; exact rfl) | (apply OQ.addN; exact rfl; exact rfl; exact (by (try simp only []); omega)) | (apply OQ.subN; exact rfl; exact rfl; exact (by (try simp only []); omega); exact (by (try simp only []); omega)) | (apply OQ.mulN; exact rfl; exact rfl; exact (by (try simp only []); omega)) | (apply OQ.remN; exact rfl; exact rfl; exact (by (try simp only []); omega)) | (apply OQ.lssN; exact rfl; exact rfl) | (apply OQ.neN; exact rfl; exact rfl) | (apply OQ.idxS1; exact rfl; exact rfl; exact rfl; exact rfl; exact (by (try simp only []); omega))) rfl ?_ | refine JC.seq ?_ | refine JC.region ?_ | refine JC.block ?_ | refine JC.skip ?_ | refine JC.exit ?_ | refine JL.nil ?_ | refine JE.next ?_ | refine JE.blk_normal ?_ | refine JE.then_exit ?_ | refine JE.blk_hit ?_ | refine JE.blk_miss rfl ?_ | refine JE.then_ret ?_ | refine JE.blk_ret ?_ | refine JC.label ?_ | refine JL.gon rfl rfl ?_ | refine JL.gskip rfl rfl rfl rfl ?_)
      refine JC.loop (fun q : Nat × Nat × Nat => [(3, .slice (some ⟨b, 0, none⟩) Lp cap), (6, .slice (some ⟨q.2.1, 0, none⟩) q.1 q.2.2), (7, N (6 * q.1))])
        (fun q => [⟨q.2.1, Own 5 1 q.1 q.2.2 ((sx (Pd.take (6 * q.1))).map U8), true⟩, ⟨b, Own 3 1 Lp cap (Pd.map N), true⟩])
        (fun q => Lp - 6 * q.1) (fun q => 6 * q.1 ≤ Lp) (0, b6, 0) (by show 6 * 0 ≤ Lp; omega) (by repeat (first | exact SubE.nil | refine SubE.cons _ _ _ rfl ?_)) (.keep _ _ _ _ _ _ (by rw [Nat.mul_zero, List.take_zero, sx0]; exact row_ownG rfl) (.keep _ _ _ _ _ _ (fun _ h => h) (.nil _))) ?_
      rintro ⟨g, b6, cap6⟩ hg
      simp only at hg
      repeat (first | refine JL.q (by first | (apply OQ.move; exact rfl) | (apply OQ.assign; exact rfl) | (apply OQ.len; exact rfl; exact rfl) | (apply OQ.addN; exact rfl; exact rfl; exact (by (try simp only []); omega)) | (apply OQ.subN; exact rfl; exact rfl; exact (by (try simp only []); omega); exact (by (try simp only []); omega)) | (apply OQ.mulN; exact rfl; exact rfl; exact (by (try simp only []); omega)) | (apply OQ.remN; exact rfl; exact rfl; exact (by (try simp only []); omega)) | (apply OQ.lssN; exact rfl; exact rfl) | (apply OQ.neN; exact rfl; exact rfl) | (apply OQ.idxS1; exact rfl; exact rfl; exact rfl; exact rfl; exact (by (try simp only []); omega))) rfl ?_ | refine JC.seq ?_ | refine JC.region ?_ | refine JC.block ?_ | refine JC.skip ?_ | refine JC.exit ?_ | refine JL.nil ?_ | refine JE.next ?_ | refine JE.blk_normal ?_ | refine JE.then_exit ?_ | refine JE.blk_hit ?_ | refine JE.blk_miss rfl ?_ | refine JE.then_ret ?_ | refine JE.blk_ret ?_ | refine JC.label ?_ | refine JL.gon rfl rfl ?_ | refine JL.gskip rfl rfl rfl rfl ?_)
      refine JC.cond rfl (fun h => ?_) (fun h => ?_)
      · have hg0 : 6 * g < Lp := of_decide_eq_true h
        have hg' : 6 * g + 6 ≤ Lp := by omega
        clear h hg hg0
        have eX := sx_take Pd (g := g) (by omega)
        have hv := fun k => val_bd hle (6 * g) k
        have hx : ∀ k, k < 6 → (Pd.map N)[6 * g + k]? = some (N (Pd.getD (6 * g + k) 0)) := fun k hk => N_nth (by omega)
        have hone : ∀ k, k < 6 → Pd.getD (6 * g + k) 0 ≤ 1 := fun k hk => by
          have e : Pd[6 * g + k]? = some (Pd.getD (6 * g + k) 0) := by rw [List.getD_eq_getElem?_getD, List.getElem?_eq_getElem (by omega)]; rfl
          exact hle _ (List.mem_of_getElem? e)
        have hvt : ∀ k, k < 6 → val ((Pd.drop (6 * g)).take (k + 1)) = 2 * val ((Pd.drop (6 * g)).take k) + Pd.getD (6 * g + k) 0 := fun k hk => val_take Pd (6 * g) (by omega)
        generalize sx (Pd.take (6 * g)) = X at eX ⊢
        repeat (first | refine JL.q (by first | (apply OQ.move; exact rfl) | (apply OQ.assign; exact rfl) | (apply OQ.len; exact rfl; exact rfl) | (apply OQ.addN; exact rfl; exact rfl; exact (by (try simp only []); omega)) | (apply OQ.subN; exact rfl; exact rfl; exact (by (try simp only []); omega); exact (by (try simp only []); omega)) | (apply OQ.mulN; exact rfl; exact rfl; exact (by (try simp only []); omega)) | (apply OQ.remN; exact rfl; exact rfl; exact (by (try simp only []); omega)) | (apply OQ.lssN; exact rfl; exact rfl) | (apply OQ.neN; exact rfl; exact rfl) | (apply OQ.idxS1; exact rfl; exact rfl; exact rfl; exact rfl; exact (by (try simp only []); omega))) rfl ?_ | refine JC.seq ?_ | refine JC.region ?_ | refine JC.block ?_ | refine JC.skip ?_ | refine JC.exit ?_ | refine JL.nil ?_ | refine JE.next ?_ | refine JE.blk_normal ?_ | refine JE.then_exit ?_ | refine JE.blk_hit ?_ | refine JE.blk_miss rfl ?_ | refine JE.then_ret ?_ | refine JE.blk_ret ?_ | refine JC.label ?_ | refine JL.gon rfl rfl ?_ | refine JL.gskip rfl rfl rfl rfl ?_)
        refine JC.loop (fun k : Nat => [(3, .slice (some ⟨b, 0, none⟩) Lp cap), (6, .slice (some ⟨b6, 0, none⟩) g cap6), (7, N (6 * g)), (8, N (val ((Pd.drop (6 * g)).take k))), (9, N k)])
          (fun _ => [⟨b6, Own 5 1 g cap6 (X.map U8), true⟩, ⟨b, Own 3 1 Lp cap (Pd.map N), true⟩])
          (fun k => 6 - k) (fun k => k ≤ 6) 0 (by omega) (by repeat (first | exact SubE.nil | refine SubE.cons _ _ _ rfl ?_)) (Less.refl _) ?_
        intro k hk
        repeat (first | refine JL.q (by first | (apply OQ.move; exact rfl) | (apply OQ.assign; exact rfl) | (apply OQ.len; exact rfl; exact rfl) | (apply OQ.addN; exact rfl; exact rfl; exact (by (try simp only []); omega)) | (apply OQ.subN; exact rfl; exact rfl; exact (by (try simp only []); omega); exact (by (try simp only []); omega)) | (apply OQ.mulN; exact rfl; exact rfl; exact (by (try simp only []); omega)) | (apply OQ.remN; exact rfl; exact rfl; exact (by (try simp only []); omega)) | (apply OQ.lssN; exact rfl; exact rfl) | (apply OQ.neN; exact rfl; exact rfl) | (apply OQ.idxS1; exact rfl; exact rfl; exact rfl; exact rfl; exact (by (try simp only []); omega))) rfl ?_ | refine JC.seq ?_ | refine JC.region ?_ | refine JC.block ?_ | refine JC.skip ?_ | refine JC.exit ?_ | refine JL.nil ?_ | refine JE.next ?_ | refine JE.blk_normal ?_ | refine JE.then_exit ?_ | refine JE.blk_hit ?_ | refine JE.blk_miss rfl ?_ | refine JE.then_ret ?_ | refine JE.blk_ret ?_ | refine JC.label ?_ | refine JL.gon rfl rfl ?_ | refine JL.gskip rfl rfl rfl rfl ?_)
        refine JC.cond rfl (fun h => ?_) (fun h => ?_)
        · have hk' : k < 6 := of_decide_eq_true h
          clear h hk
          have c1 := hx k hk'
          have c2 := hone k hk'
          have c3 := hv k
          have c4 := hvt k hk'
          have p6 : 2 ^ k ≤ 2 ^ 6 := Nat.pow_le_pow_right (by decide) (by omega)
          generalize Pd.getD (6 * g + k) 0 = y at c1 c2 c4
          generalize hV : val ((Pd.drop (6 * g)).take k) = V at c3 c4 ⊢
          have hVb : V < 64 := by omega
          repeat (first | refine JL.q (by first | (apply OQ.idxS0; exact Try.underlying35; exact i64s; exact rfl; exact rfl; exact (show 6 * g + k < Lp by omega)) | (apply OQ.load; exact i64c; exact rfl; exact (.there .here); exact (Own.cell c1)) | (apply OQ.move; exact rfl) | (apply OQ.assign; exact rfl) | (apply OQ.len; exact rfl; exact rfl) | (apply OQ.addN; exact rfl; exact rfl; exact (by (try simp only []); omega)) | (apply OQ.subN; exact rfl; exact rfl; exact (by (try simp only []); omega); exact (by (try simp only []); omega)) | (apply OQ.mulN; exact rfl; exact rfl; exact (by (try simp only []); omega)) | (apply OQ.remN; exact rfl; exact rfl; exact (by (try simp only []); omega)) | (apply OQ.lssN; exact rfl; exact rfl) | (apply OQ.neN; exact rfl; exact rfl) | (apply OQ.idxS1; exact rfl; exact rfl; exact rfl; exact rfl; exact (by (try simp only []); omega))) rfl ?_ | refine JC.seq ?_ | refine JC.region ?_ | refine JC.block ?_ | refine JC.skip ?_ | refine JC.exit ?_ | refine JL.nil ?_ | refine JE.next ?_ | refine JE.blk_normal ?_ | refine JE.then_exit ?_ | refine JE.blk_hit ?_ | refine JE.blk_miss rfl ?_ | refine JE.then_ret ?_ | refine JE.blk_ret ?_ | refine JC.label ?_ | refine JL.gon rfl rfl ?_ | refine JL.gskip rfl rfl rfl rfl ?_)
          refine JE.again (i := k) (k + 1) (by omega) (by omega) ?_ (Less.refl _)
          rw [c4]
          exact (by repeat (first | exact SubE.nil | refine SubE.cons _ _ _ rfl ?_))
        · have hk' : ¬ k < 6 := of_decide_eq_false h
          obtain rfl : k = 6 := by omega
          clear h hk hk' hx hone hvt
          have hV := hv 6
          clear hv
          generalize val ((Pd.drop (6 * g)).take 6) = V at hV eX ⊢
          repeat (first | refine JL.q (by first | (apply OQ.idxZ (l := sgL); exact Try.underlying9; exact rfl; exact rfl; exact (show V < 64 from hV)) | (apply OQ.move; exact rfl) | (apply OQ.assign; exact rfl) | (apply OQ.len; exact rfl; exact rfl) | (apply OQ.addN; exact rfl; exact rfl; exact (by (try simp only []); omega)) | (apply OQ.subN; exact rfl; exact rfl; exact (by (try simp only []); omega); exact (by (try simp only []); omega)) | (apply OQ.mulN; exact rfl; exact rfl; exact (by (try simp only []); omega)) | (apply OQ.remN; exact rfl; exact rfl; exact (by (try simp only []); omega)) | (apply OQ.lssN; exact rfl; exact rfl) | (apply OQ.neN; exact rfl; exact rfl) | (apply OQ.idxS1; exact rfl; exact rfl; exact rfl; exact rfl; exact (by (try simp only []); omega))) rfl ?_ | refine JC.seq ?_ | refine JC.region ?_ | refine JC.block ?_ | refine JC.skip ?_ | refine JC.exit ?_ | refine JL.nil ?_ | refine JE.next ?_ | refine JE.blk_normal ?_ | refine JE.then_exit ?_ | refine JE.blk_hit ?_ | refine JE.blk_miss rfl ?_ | refine JE.then_ret ?_ | refine JE.blk_ret ?_ | refine JC.label ?_ | refine JL.gon rfl rfl ?_ | refine JL.gskip rfl rfl rfl rfl ?_)
          refine JL.push1 (xs := X.map U8) (fun b' cap' => [⟨b', Own 5 1 (g + 1) cap' (X.map U8 ++ [U8 (sg V)]), true⟩, ⟨b, Own 3 1 Lp cap (Pd.map N), true⟩]) Try.underlying22 u8e rfl rfl rfl rfl (fun _ => rfl) (by intro _ _; repeat (first | exact Repl.here | apply Repl.there)) (by omega) (by omega) rfl rfl fun bl b' cap' => ?_
          repeat (first | refine JL.q (by first | (apply OQ.move; exact rfl) | (apply OQ.assign; exact rfl) | (apply OQ.len; exact rfl; exact rfl) | (apply OQ.addN; exact rfl; exact rfl; exact (by (try simp only []); omega)) | (apply OQ.subN; exact rfl; exact rfl; exact (by (try simp only []); omega); exact (by (try simp only []); omega)) | (apply OQ.mulN; exact rfl; exact rfl; exact (by (try simp only []); omega)) | (apply OQ.remN; exact rfl; exact rfl; exact (by (try simp only []); omega)) | (apply OQ.lssN; exact rfl; exact rfl) | (apply OQ.neN; exact rfl; exact rfl) | (apply OQ.idxS1; exact rfl; exact rfl; exact rfl; exact rfl; exact (by (try simp only []); omega))) rfl ?_ | refine JC.seq ?_ | refine JC.region ?_ | refine JC.block ?_ | refine JC.skip ?_ | refine JC.exit ?_ | refine JL.nil ?_ | refine JE.next ?_ | refine JE.blk_normal ?_ | refine JE.then_exit ?_ | refine JE.blk_hit ?_ | refine JE.blk_miss rfl ?_ | refine JE.then_ret ?_ | refine JE.blk_ret ?_ | refine JC.label ?_ | refine JL.gon rfl rfl ?_ | refine JL.gskip rfl rfl rfl rfl ?_)
          refine JE.again (i := (g, b6, cap6)) (g + 1, b', cap') (by show 6 * (g + 1) ≤ Lp; omega) (by show Lp - 6 * (g + 1) < Lp - 6 * g; omega) (by repeat (first | exact SubE.nil | refine SubE.cons _ _ _ rfl ?_)) (.keep _ _ _ _ _ _ (fun o h => ?_) (.keep _ _ _ _ _ _ (fun _ h => h) (.nil _)))
          dsimp only
          rw [eX, List.map_append]
          exact h
      · have hg0 : ¬ 6 * g < Lp := of_decide_eq_false h
        have hg' : 6 * g = Lp := by omega
        clear h hg hg0
        rw [hg', List.take_of_length_le (by omega)]
        have hXl : (sx Pd).length = g := by rw [sx_len]; omega
        have hgb : g ≤ 1333335 := by omega
        generalize sx Pd = X at hXl ⊢
        have hp4 : (4 - X.length % 4) % 4 < 4 ∧ (g + (4 - X.length % 4) % 4) % 4 = 0 ∧ ∀ j, j < (4 - X.length % 4) % 4 → ¬ (g + j) % 4 = 0 := by
          rw [hXl]
          refine ⟨by omega, by omega, fun j hj => by omega⟩
        generalize (4 - X.length % 4) % 4 = q4 at hp4 ⊢
        obtain ⟨hq1, hq2, hq3⟩ := hp4
        clear hle hPl hp2 hg' hLp2
        repeat (first | refine JL.q (by first | (apply OQ.move; exact rfl) | (apply OQ.assign; exact rfl) | (apply OQ.len; exact rfl; exact rfl) | (apply OQ.addN; exact rfl; exact rfl; exact (by (try simp only []); omega)) | (apply OQ.subN; exact rfl; exact rfl; exact (by (try simp only []); omega); exact (by (try simp only []); omega)) | (apply OQ.mulN; exact rfl; exact rfl; exact (by (try simp only []); omega)) | (apply OQ.remN; exact rfl; exact rfl; exact (by (try simp only []); omega)) | (apply OQ.lssN; exact rfl; exact rfl) | (apply OQ.neN; exact rfl; exact rfl) | (apply OQ.idxS1; exact rfl; exact rfl; exact rfl; exact rfl; exact (by (try simp only []); omega))) rfl ?_ | refine JC.seq ?_ | refine JC.region ?_ | refine JC.block ?_ | refine JC.skip ?_ | refine JC.exit ?_ | refine JL.nil ?_ | refine JE.next ?_ | refine JE.blk_normal ?_ | refine JE.then_exit ?_ | refine JE.blk_hit ?_ | refine JE.blk_miss rfl ?_ | refine JE.then_ret ?_ | refine JE.blk_ret ?_ | refine JC.label ?_ | refine JL.gon rfl rfl ?_ | refine JL.gskip rfl rfl rfl rfl ?_)
        refine JC.loop (fun q : Nat × Nat × Nat => [(6, .slice (some ⟨q.2.1, 0, none⟩) (g + q.1) q.2.2)])
          (fun q => [⟨q.2.1, Own 5 1 (g + q.1) q.2.2 ((X ++ List.replicate q.1 61).map U8), true⟩])
          (fun q => q4 - q.1) (fun q => q.1 ≤ q4) (0, b6, cap6) (by show 0 ≤ q4; omega) (by repeat (first | exact SubE.nil | refine SubE.cons _ _ _ rfl ?_)) (.keep _ _ _ _ _ _ (fun o h => by simpa using h) (.nil _)) ?_
        rintro ⟨j, b6, cap6⟩ hj
        simp only at hj
        dsimp only
        repeat (first | refine JL.q (by first | (apply OQ.move; exact rfl) | (apply OQ.assign; exact rfl) | (apply OQ.len; exact rfl; exact rfl) | (apply OQ.addN; exact rfl; exact rfl; exact (by (try simp only []); omega)) | (apply OQ.subN; exact rfl; exact rfl; exact (by (try simp only []); omega); exact (by (try simp only []); omega)) | (apply OQ.mulN; exact rfl; exact rfl; exact (by (try simp only []); omega)) | (apply OQ.remN; exact rfl; exact rfl; exact (by (try simp only []); omega)) | (apply OQ.lssN; exact rfl; exact rfl) | (apply OQ.neN; exact rfl; exact rfl) | (apply OQ.idxS1; exact rfl; exact rfl; exact rfl; exact rfl; exact (by (try simp only []); omega))) rfl ?_ | refine JC.seq ?_ | refine JC.region ?_ | refine JC.block ?_ | refine JC.skip ?_ | refine JC.exit ?_ | refine JL.nil ?_ | refine JE.next ?_ | refine JE.blk_normal ?_ | refine JE.then_exit ?_ | refine JE.blk_hit ?_ | refine JE.blk_miss rfl ?_ | refine JE.then_ret ?_ | refine JE.blk_ret ?_ | refine JC.label ?_ | refine JL.gon rfl rfl ?_ | refine JL.gskip rfl rfl rfl rfl ?_)
        refine JC.cond rfl (fun h => ?_) (fun h => ?_)
        · have h6 : ¬ (g + j) % 4 = 0 := by simpa using h
          have hj' : j < q4 := by
            refine Nat.lt_of_le_of_ne hj fun e => h6 ?_
            rw [e]; exact hq2
          clear h h6
          repeat (first | refine JL.q (by first | (apply OQ.move; exact rfl) | (apply OQ.assign; exact rfl) | (apply OQ.len; exact rfl; exact rfl) | (apply OQ.addN; exact rfl; exact rfl; exact (by (try simp only []); omega)) | (apply OQ.subN; exact rfl; exact rfl; exact (by (try simp only []); omega); exact (by (try simp only []); omega)) | (apply OQ.mulN; exact rfl; exact rfl; exact (by (try simp only []); omega)) | (apply OQ.remN; exact rfl; exact rfl; exact (by (try simp only []); omega)) | (apply OQ.lssN; exact rfl; exact rfl) | (apply OQ.neN; exact rfl; exact rfl) | (apply OQ.idxS1; exact rfl; exact rfl; exact rfl; exact rfl; exact (by (try simp only []); omega))) rfl ?_ | refine JC.seq ?_ | refine JC.region ?_ | refine JC.block ?_ | refine JC.skip ?_ | refine JC.exit ?_ | refine JL.nil ?_ | refine JE.next ?_ | refine JE.blk_normal ?_ | refine JE.then_exit ?_ | refine JE.blk_hit ?_ | refine JE.blk_miss rfl ?_ | refine JE.then_ret ?_ | refine JE.blk_ret ?_ | refine JC.label ?_ | refine JL.gon rfl rfl ?_ | refine JL.gskip rfl rfl rfl rfl ?_)
          refine JL.push1 (v := U8 61) (xs := (X ++ List.replicate j 61).map U8) (fun b' cap' => [⟨b', Own 5 1 (g + j + 1) cap' ((X ++ List.replicate j 61).map U8 ++ [U8 61]), true⟩]) Try.underlying22 u8e rfl rfl rfl rfl (fun _ => rfl) (by intro _ _; repeat (first | exact Repl.here | apply Repl.there)) (by omega) (by omega) rfl rfl fun bl b' cap' => ?_
          repeat (first | refine JL.q (by first | (apply OQ.move; exact rfl) | (apply OQ.assign; exact rfl) | (apply OQ.len; exact rfl; exact rfl) | (apply OQ.addN; exact rfl; exact rfl; exact (by (try simp only []); omega)) | (apply OQ.subN; exact rfl; exact rfl; exact (by (try simp only []); omega); exact (by (try simp only []); omega)) | (apply OQ.mulN; exact rfl; exact rfl; exact (by (try simp only []); omega)) | (apply OQ.remN; exact rfl; exact rfl; exact (by (try simp only []); omega)) | (apply OQ.lssN; exact rfl; exact rfl) | (apply OQ.neN; exact rfl; exact rfl) | (apply OQ.idxS1; exact rfl; exact rfl; exact rfl; exact rfl; exact (by (try simp only []); omega))) rfl ?_ | refine JC.seq ?_ | refine JC.region ?_ | refine JC.block ?_ | refine JC.skip ?_ | refine JC.exit ?_ | refine JL.nil ?_ | refine JE.next ?_ | refine JE.blk_normal ?_ | refine JE.then_exit ?_ | refine JE.blk_hit ?_ | refine JE.blk_miss rfl ?_ | refine JE.then_ret ?_ | refine JE.blk_ret ?_ | refine JC.label ?_ | refine JL.gon rfl rfl ?_ | refine JL.gskip rfl rfl rfl rfl ?_)
          refine JE.again (i := (j, b6, cap6)) (j + 1, b', cap') (by show j + 1 ≤ q4; omega) (by show q4 - (j + 1) < q4 - j; omega) (by repeat (first | exact SubE.nil | refine SubE.cons _ _ _ rfl ?_)) (.keep _ _ _ _ _ _ (fun o h => ?_) (.nil _))
          dsimp only
          rw [List.replicate_succ', ← List.append_assoc, List.map_append]
          exact h
        · have h6 : (g + j) % 4 = 0 := by simpa using h
          have hj' : j = q4 := by
            rcases Nat.lt_or_eq_of_le hj with e | e
            · exact absurd h6 (hq3 j e)
            · exact e
          subst hj'
          clear h h6 hj hq3
          have hlen : g + j = (X ++ List.replicate j 61).length := by rw [List.length_append, List.length_replicate, hXl]
          rw [hlen]
          generalize X ++ List.replicate j 61 = Y
          repeat (first | refine JL.q (by first | (apply OQ.b2s (s := ⟨some ⟨b6, 0, none⟩, cap6, Y⟩); exact Try.underlying22; exact Try.underlying5; exact Try.underlying9; exact rfl; exact (fun w' hw' => ownb_ok hw' .here)) | (apply OQ.move; exact rfl) | (apply OQ.assign; exact rfl) | (apply OQ.len; exact rfl; exact rfl) | (apply OQ.addN; exact rfl; exact rfl; exact (by (try simp only []); omega)) | (apply OQ.subN; exact rfl; exact rfl; exact (by (try simp only []); omega); exact (by (try simp only []); omega)) | (apply OQ.mulN; exact rfl; exact rfl; exact (by (try simp only []); omega)) | (apply OQ.remN; exact rfl; exact rfl; exact (by (try simp only []); omega)) | (apply OQ.lssN; exact rfl; exact rfl) | (apply OQ.neN; exact rfl; exact rfl) | (apply OQ.idxS1; exact rfl; exact rfl; exact rfl; exact rfl; exact (by (try simp only []); omega))) rfl ?_ | refine JC.seq ?_ | refine JC.region ?_ | refine JC.block ?_ | refine JC.skip ?_ | refine JC.exit ?_ | refine JL.nil ?_ | refine JE.next ?_ | refine JE.blk_normal ?_ | refine JE.then_exit ?_ | refine JE.blk_hit ?_ | refine JE.blk_miss rfl ?_ | refine JE.then_ret ?_ | refine JE.blk_ret ?_ | refine JC.label ?_ | refine JL.gon rfl rfl ?_ | refine JL.gskip rfl rfl rfl rfl ?_)
          refine JC.ret (JE.ret1 rfl (RV.tmp rfl) ?_)
          exact fun w' hw => ⟨rfl, hw.chg⟩
end Go.Proofs.Ytdaplnidogkmkaa
