/-
  Of no statement by itself: what the reference's Stuff (layer 8) gives.
  Conditions: each theorem's own.
-/
import Derived.Test.YtnopllkpfdgkkaaLinX
import Derived.Test.YtnopllkpfdgkkaaLinY
namespace Go.Proofs.Ytnopllkpfdgkkaa
open Sl Lin
theorem goes_rstuff : Goes Try.prog 19 := ⟨_, Try.func19, rfl, by kernel_rfl⟩
theorem sls : szT Try.prog 22 = some 1 := by kernel_rfl
theorem slc : scal Try.prog 22 = true := by kernel_rfl
def acc (ls : List (List Lin.By)) (i : Nat) : List Lin.By := joinB ((ls.take i).map stuffL)
theorem acc_step {ls : List (List Lin.By)} {i : Nat} (h : i < ls.length) : acc ls (i + 1) = acc ls i ++ (stuffL ls[i] ++ [13, 10]) := by
  unfold acc
  rw [List.take_succ_eq_append_getElem h, List.map_append, joinB_append]
  simp [joinB]
theorem join_stuff_len : ∀ ls : List (List Lin.By), (joinB (ls.map stuffL)).length ≤ 2 * (joinB ls).length
  | [] => Nat.le_refl _
  | l :: ls => by
    have ih := join_stuff_len ls
    have h : (stuffL l).length ≤ l.length + 1 := by unfold stuffL; split <;> simp
    have e1 : joinB ((l :: ls).map stuffL) = (stuffL l ++ [13, 10]) ++ joinB (ls.map stuffL) := rfl
    have e2 : joinB (l :: ls) = (l ++ [13, 10]) ++ joinB ls := rfl
    rw [e1, e2]
    simp only [List.length_append, List.length_cons, List.length_nil] at *
    omega
theorem join_take_len (ls : List (List Lin.By)) (i : Nat) : (joinB (ls.take i)).length ≤ (joinB ls).length := by
  have e : joinB ls = joinB (ls.take i) ++ joinB (ls.drop i) := by rw [← joinB_append, List.take_append_drop]
  rw [e, List.length_append]
  omega
theorem acc_len (ls : List (List Lin.By)) (i : Nat) : (acc ls i).length ≤ 2 * (joinB ls).length :=
  Nat.le_trans (join_stuff_len _) (Nat.mul_le_mul_left 2 (join_take_len ls i))
theorem join_lines_len : ∀ ls : List (List Lin.By), ls.length ≤ (joinB ls).length
  | [] => Nat.le_refl _
  | l :: ls => by
    have ih := join_lines_len ls
    have e2 : joinB (l :: ls) = (l ++ [13, 10]) ++ joinB ls := rfl
    rw [e2]
    simp only [List.length_append, List.length_cons, List.length_nil]
    omega
set_option maxHeartbeats 32000000 in
theorem rstuff_any (s : Sl8) (w : World) (hs : s.ok w) (hl : s.l.length ≤ 1000000) : Calls Try.prog 19 [s.v].toArray w
    fun e w' => ∃ q : Nat × Nat, e = .returned (.slice (some ⟨q.1, 0, none⟩) (stB s.l).length q.2) ∧ Holds w [] [⟨q.1, Own 5 1 (stB s.l).length q.2 ((stB s.l).map U8), true⟩] w' := by
  have hWl := laidB_len s.l
  have hJl : (joinB (splB (laidB s.l)).1).length ≤ (laidB s.l).length := by
    have := congrArg List.length (splB_join (laidB s.l))
    rw [List.length_append] at this
    omega
  refine enter (n := 50) Try.func19 rfl rfl rfl (Holds.start w []) ?_
  repeat (first | refine JL.q (by first | (apply OQ.move; exact rfl) | (apply OQ.assign; exact rfl) | (apply OQ.len; exact rfl; exact rfl) | (apply OQ.addN; exact rfl; exact rfl; exact (by (try simp only []); omega)) | (apply OQ.lssN; exact rfl; exact rfl)) rfl ?_ | refine JC.seq ?_ | refine JC.region ?_ | refine JC.block ?_ | refine JC.skip ?_ | refine JC.exit ?_ | refine JL.nil ?_ | refine JE.next ?_ | refine JE.blk_normal ?_ | refine JE.then_exit ?_ | refine JE.blk_hit ?_ | refine JE.blk_miss rfl ?_ | refine JE.then_ret ?_ | refine JE.blk_ret ?_ | refine JC.label ?_ | refine JL.gon rfl rfl ?_ | refine JL.gskip rfl rfl rfl rfl ?_ | refine JL.gskipU rfl rfl rfl rfl ?_)
  refine JL.callg (ι := Nat × Nat) (fun q => .slice (some ⟨q.1, 0, none⟩) (laidB s.l).length q.2) (fun q => [⟨q.1, Own 5 1 (laidB s.l).length q.2 ((laidB s.l).map U8), true⟩]) goes_rlaid rfl rfl (fun q e he => by rw [List.mem_singleton.1 he]) (fun w' hw' => (rlaid_any s w' (hs.holds hw' rfl) hl).mono fun e w2 ⟨q, h1, h2⟩ => ⟨q, h1, h2⟩) ?_
  rintro ⟨b, cap⟩
  dsimp only
  refine JL.callw (vs := [.slice (some ⟨b, 0, none⟩) (laidB s.l).length cap]) (S' := []) (ι := { q : SlL × Sl8 // q.1.ls = (splB (laidB s.l)).1 ∧ q.2.l = (splB (laidB s.l)).2 }) (fun q => .tuple #[q.1.1.v, q.1.2.v]) (fun q w2 => q.1.1.ok w2 ∧ q.1.2.ok w2) [] goes_rsplit rfl rfl
    (fun w' hw' => (rsplit_any ⟨some ⟨b, 0, none⟩, cap, laidB s.l⟩ w' (ownb_ok hw' .here) (show (laidB s.l).length ≤ 4000000 by omega)).mono fun e w2 ⟨q, h1, h2, h3, h4, h5⟩ => ⟨⟨q, h2, h3⟩, h1, h4, h5⟩) (.nil _) (by simp) ?_
  rintro ⟨⟨L, x⟩, hL, hx⟩ w1 hw1 ⟨okL, okx⟩
  have hE := Sl.Holds.base hw1.chg (Holds.start w1 [])
  replace hE := hE.chg
  dsimp only at hL hx
  rw [show stB s.l = joinB (L.ls.map stuffL) ++ [46, 13, 10] by rw [hL]; rfl]
  rw [← hL] at hJl
  generalize (laidB s.l).length = nl at hWl hJl ⊢
  unfold SlL.ls at hJl ⊢
  have hAl := acc_len (L.rs.map Sl8.l)
  have hLl := join_lines_len (L.rs.map Sl8.l)
  rw [List.length_map] at hLl
  dsimp only
  repeat (first | refine JL.q (by first | (apply OQ.extract; exact rfl; exact rfl) | (apply OQ.move; exact rfl) | (apply OQ.assign; exact rfl) | (apply OQ.len; exact rfl; exact rfl) | (apply OQ.addN; exact rfl; exact rfl; exact (by (try simp only []); omega)) | (apply OQ.lssN; exact rfl; exact rfl)) rfl ?_ | refine JC.seq ?_ | refine JC.region ?_ | refine JC.block ?_ | refine JC.skip ?_ | refine JC.exit ?_ | refine JL.nil ?_ | refine JE.next ?_ | refine JE.blk_normal ?_ | refine JE.then_exit ?_ | refine JE.blk_hit ?_ | refine JE.blk_miss rfl ?_ | refine JE.then_ret ?_ | refine JE.blk_ret ?_ | refine JC.label ?_ | refine JL.gon rfl rfl ?_ | refine JL.gskip rfl rfl rfl rfl ?_ | refine JL.gskipU rfl rfl rfl rfl ?_)
  refine JL.lit0 Try.underlying22 u8e rfl fun b0 _ => ?_
  repeat (first | refine JL.q (by first | (apply OQ.move; exact rfl) | (apply OQ.assign; exact rfl) | (apply OQ.len; exact rfl; exact rfl) | (apply OQ.addN; exact rfl; exact rfl; exact (by (try simp only []); omega)) | (apply OQ.lssN; exact rfl; exact rfl)) rfl ?_ | refine JC.seq ?_ | refine JC.region ?_ | refine JC.block ?_ | refine JC.skip ?_ | refine JC.exit ?_ | refine JL.nil ?_ | refine JE.next ?_ | refine JE.blk_normal ?_ | refine JE.then_exit ?_ | refine JE.blk_hit ?_ | refine JE.blk_miss rfl ?_ | refine JE.then_ret ?_ | refine JE.blk_ret ?_ | refine JC.label ?_ | refine JL.gon rfl rfl ?_ | refine JL.gskip rfl rfl rfl rfl ?_ | refine JL.gskipU rfl rfl rfl rfl ?_)
  refine JC.loop (fun q : Nat × Nat × Nat => [(3, L.v), (5, .slice (some ⟨q.2.1, 0, none⟩) (acc (L.rs.map Sl8.l) q.1).length q.2.2), (6, N q.1)])
    (fun q => [⟨q.2.1, Own 5 1 (acc (L.rs.map Sl8.l) q.1).length q.2.2 ((acc (L.rs.map Sl8.l) q.1).map U8), true⟩])
    (fun q => L.rs.length - q.1) (fun q => q.1 ≤ L.rs.length) (0, b0, 0) (Nat.zero_le _) (by repeat (first | exact SubE.nil | refine SubE.cons _ _ _ rfl ?_)) (.keep _ _ _ _ _ _ (row_ownG rfl) (.nil _)) ?_
  rintro ⟨i, b1, cap1⟩ hi
  simp only at hi
  repeat (first | refine JL.q (by first | (apply OQ.move; exact rfl) | (apply OQ.assign; exact rfl) | (apply OQ.len; exact rfl; exact rfl) | (apply OQ.addN; exact rfl; exact rfl; exact (by (try simp only []); omega)) | (apply OQ.lssN; exact rfl; exact rfl)) rfl ?_ | refine JC.seq ?_ | refine JC.region ?_ | refine JC.block ?_ | refine JC.skip ?_ | refine JC.exit ?_ | refine JL.nil ?_ | refine JE.next ?_ | refine JE.blk_normal ?_ | refine JE.then_exit ?_ | refine JE.blk_hit ?_ | refine JE.blk_miss rfl ?_ | refine JE.then_ret ?_ | refine JE.blk_ret ?_ | refine JC.label ?_ | refine JL.gon rfl rfl ?_ | refine JL.gskip rfl rfl rfl rfl ?_ | refine JL.gskipU rfl rfl rfl rfl ?_)
  refine JC.cond rfl (fun h => ?_) (fun h => ?_)
  · have hi' : i < L.rs.length := of_decide_eq_true h
    clear h hi
    have eT : acc (L.rs.map Sl8.l) (i + 1) = acc (L.rs.map Sl8.l) i ++ (stuffL (L.rs[i]).l ++ [13, 10]) := by
      rw [acc_step (by rw [List.length_map]; exact hi'), List.getElem_map]
    have hAl' := hAl (i + 1)
    obtain ⟨ba, ja, hae, hca⟩ := okL.reads.at (by simp; omega)
    have hci : w1.cell? ⟨ba, ja + i, none⟩ = some (L.rs[i]).v := hca i _ (by simp [hi'])
    have hav : L.v = .slice (some ⟨ba, ja, none⟩) L.rs.length L.cap := by rw [← hae]; rfl
    have oky := okL.all _ (List.getElem_mem hi')
    generalize acc (L.rs.map Sl8.l) i = A at eT ⊢
    rw [hav]
    by_cases h0 : 0 < (L.rs[i]).l.length
    · obtain ⟨by', jy, hye, hcy⟩ := oky.reads.at (by simp; omega)
      have hyv : (L.rs[i]).v = .slice (some ⟨by', jy, none⟩) (L.rs[i]).l.length (L.rs[i]).cap := by rw [← hye]; rfl
      have hc0 := hcy 0 _ (map_at U8 0 h0)
      have hy0 := h0
      have hd0 : (L.rs[i]).l.head? = some ((L.rs[i]).l.getD 0 0) := by
        rw [List.head?_eq_getElem?, List.getD_eq_getElem?_getD, List.getElem?_eq_getElem h0]; rfl
      by_cases hd1 : (L.rs[i]).l.getD 0 0 = 46
      · have hd : (L.rs[i]).l.head? = some 46 := by rw [hd0, hd1]
        have eN : (acc (L.rs.map Sl8.l) (i + 1)).length = A.length + 1 + (L.rs[i]).l.length + 2 := by rw [eT, stuffL, if_pos hd]; simp; omega
        have eV : (acc (L.rs.map Sl8.l) (i + 1)).map U8 = (A.map U8 ++ [U8 46]) ++ (L.rs[i]).l.map U8 ++ [U8 13, U8 10] := by rw [eT, stuffL, if_pos hd]; simp
        rw [hd1] at hc0
        rw [eN] at hAl'
        rw [hyv] at hci
        repeat (first | refine JL.q (by first | (apply OQ.idxS1; exact Try.underlying24; exact sls; exact rfl; exact rfl; exact hi') | (apply OQ.load_old; exact slc; exact rfl; exact (block_lt_of_cell hci); exact (by simp); exact hci) | (apply OQ.gtrN_t; exact rfl; exact rfl; exact h0) | (apply OQ.idxS1 (i := 0); exact Try.underlying22; exact u8s; exact rfl; exact rfl; exact hy0) | (apply OQ.load_old; exact u8c; exact rfl; exact (block_lt_of_cell hc0); exact (by simp); exact hc0) | (apply OQ.eqi_t; exact rfl; exact rfl; exact rfl) | (apply OQ.pick_t; exact rfl; exact rfl) | (apply OQ.pick_f; exact rfl; exact rfl) | (apply OQ.move; exact rfl) | (apply OQ.assign; exact rfl) | (apply OQ.len; exact rfl; exact rfl) | (apply OQ.addN; exact rfl; exact rfl; exact (by (try simp only []); omega)) | (apply OQ.lssN; exact rfl; exact rfl)) rfl ?_ | refine JC.seq ?_ | refine JC.region ?_ | refine JC.block ?_ | refine JC.skip ?_ | refine JC.exit ?_ | refine JL.nil ?_ | refine JE.next ?_ | refine JE.blk_normal ?_ | refine JE.then_exit ?_ | refine JE.blk_hit ?_ | refine JE.blk_miss rfl ?_ | refine JE.then_ret ?_ | refine JE.blk_ret ?_ | refine JC.label ?_ | refine JL.gon rfl rfl ?_ | refine JL.gskip rfl rfl rfl rfl ?_ | refine JL.gskipU rfl rfl rfl rfl ?_)
        refine JC.cond_true rfl rfl ?_
        repeat (first | refine JL.q (by first | (apply OQ.move; exact rfl) | (apply OQ.assign; exact rfl) | (apply OQ.len; exact rfl; exact rfl) | (apply OQ.addN; exact rfl; exact rfl; exact (by (try simp only []); omega)) | (apply OQ.lssN; exact rfl; exact rfl)) rfl ?_ | refine JC.seq ?_ | refine JC.region ?_ | refine JC.block ?_ | refine JC.skip ?_ | refine JC.exit ?_ | refine JL.nil ?_ | refine JE.next ?_ | refine JE.blk_normal ?_ | refine JE.then_exit ?_ | refine JE.blk_hit ?_ | refine JE.blk_miss rfl ?_ | refine JE.then_ret ?_ | refine JE.blk_ret ?_ | refine JC.label ?_ | refine JL.gon rfl rfl ?_ | refine JL.gskip rfl rfl rfl rfl ?_ | refine JL.gskipU rfl rfl rfl rfl ?_)
        refine JL.push1 (v := U8 46) (xs := A.map U8) (fun b' cap' => [⟨b', Own 5 1 (A.length + 1) cap' (A.map U8 ++ [U8 46]), true⟩]) Try.underlying22 u8e rfl rfl rfl rfl (fun _ => rfl) (by intro _ _; repeat (first | exact Repl.here | apply Repl.there)) (by omega) (by omega) rfl rfl fun bl b2 cap2 => ?_
        repeat (first | refine JL.q (by first | (apply OQ.idxS1; exact Try.underlying24; exact sls; exact rfl; exact rfl; exact hi') | (apply OQ.load_old; exact slc; exact rfl; exact (block_lt_of_cell hci); exact (by simp); exact hci) | (apply OQ.move; exact rfl) | (apply OQ.assign; exact rfl) | (apply OQ.len; exact rfl; exact rfl) | (apply OQ.addN; exact rfl; exact rfl; exact (by (try simp only []); omega)) | (apply OQ.lssN; exact rfl; exact rfl)) rfl ?_ | refine JC.seq ?_ | refine JC.region ?_ | refine JC.block ?_ | refine JC.skip ?_ | refine JC.exit ?_ | refine JL.nil ?_ | refine JE.next ?_ | refine JE.blk_normal ?_ | refine JE.then_exit ?_ | refine JE.blk_hit ?_ | refine JE.blk_miss rfl ?_ | refine JE.then_ret ?_ | refine JE.blk_ret ?_ | refine JC.label ?_ | refine JL.gon rfl rfl ?_ | refine JL.gskip rfl rfl rfl rfl ?_ | refine JL.gskipU rfl rfl rfl rfl ?_)
        refine JL.append (cs := (L.rs[i]).l.map U8) (m := (L.rs[i]).l.length) (ad := some ⟨by', jy, none⟩) (sc := (L.rs[i]).cap) (xs := (A.map U8 ++ [U8 46])) (fun b' cap' => [⟨b', Own 5 1 (A.length + 1 + (L.rs[i]).l.length) cap' ((A.map U8 ++ [U8 46]) ++ (L.rs[i]).l.map U8), true⟩]) Try.underlying22 u8e rfl rfl (by intro _ _; repeat (first | exact Repl.here | apply Repl.there)) (by simp) (fun w' hw' => by rw [← hye]; exact (oky.holds hw' rfl).reads) (all8U _) rfl (by decide) (by omega) (by omega) rfl fun b3 cap3 => ?_
        repeat (first | refine JL.q (by first | (apply OQ.move; exact rfl) | (apply OQ.assign; exact rfl) | (apply OQ.len; exact rfl; exact rfl) | (apply OQ.addN; exact rfl; exact rfl; exact (by (try simp only []); omega)) | (apply OQ.lssN; exact rfl; exact rfl)) rfl ?_ | refine JC.seq ?_ | refine JC.region ?_ | refine JC.block ?_ | refine JC.skip ?_ | refine JC.exit ?_ | refine JL.nil ?_ | refine JE.next ?_ | refine JE.blk_normal ?_ | refine JE.then_exit ?_ | refine JE.blk_hit ?_ | refine JE.blk_miss rfl ?_ | refine JE.then_ret ?_ | refine JE.blk_ret ?_ | refine JC.label ?_ | refine JL.gon rfl rfl ?_ | refine JL.gskip rfl rfl rfl rfl ?_ | refine JL.gskipU rfl rfl rfl rfl ?_)
        refine JL.push2 (v1 := U8 13) (v2 := U8 10) (xs := ((A.map U8 ++ [U8 46]) ++ (L.rs[i]).l.map U8)) (fun b' cap' => [⟨b', Own 5 1 (A.length + 1 + (L.rs[i]).l.length + 2) cap' (((A.map U8 ++ [U8 46]) ++ (L.rs[i]).l.map U8) ++ [U8 13, U8 10]), true⟩]) Try.underlying22 u8e rfl rfl rfl rfl rfl rfl rfl (fun _ => rfl) (by intro _ _; repeat (first | exact Repl.here | apply Repl.there)) (by omega) (by omega) rfl rfl fun bl2 b4 cap4 => ?_
        rw [← hav]
        repeat (first | refine JL.q (by first | (apply OQ.move; exact rfl) | (apply OQ.assign; exact rfl) | (apply OQ.len; exact rfl; exact rfl) | (apply OQ.addN; exact rfl; exact rfl; exact (by (try simp only []); omega)) | (apply OQ.lssN; exact rfl; exact rfl)) rfl ?_ | refine JC.seq ?_ | refine JC.region ?_ | refine JC.block ?_ | refine JC.skip ?_ | refine JC.exit ?_ | refine JL.nil ?_ | refine JE.next ?_ | refine JE.blk_normal ?_ | refine JE.then_exit ?_ | refine JE.blk_hit ?_ | refine JE.blk_miss rfl ?_ | refine JE.then_ret ?_ | refine JE.blk_ret ?_ | refine JC.label ?_ | refine JL.gon rfl rfl ?_ | refine JL.gskip rfl rfl rfl rfl ?_ | refine JL.gskipU rfl rfl rfl rfl ?_)
        refine JE.again (i := (i, b1, cap1)) (i + 1, b4, cap4) (by show i + 1 ≤ _; omega) (by show L.rs.length - (i + 1) < L.rs.length - i; omega) ?_ (.keep _ _ _ _ _ _ (fun o h => ?_) (.nil _))
        · dsimp only
          rw [eN]
          exact (by repeat (first | exact SubE.nil | refine SubE.cons _ _ _ rfl ?_))
        · dsimp only
          rw [eN, eV]
          exact h
      · have hd : ¬ (L.rs[i]).l.head? = some 46 := by rw [hd0]; exact fun e => hd1 (Option.some.inj e)
        have eN : (acc (L.rs.map Sl8.l) (i + 1)).length = A.length + (L.rs[i]).l.length + 2 := by rw [eT, stuffL, if_neg hd]; simp; omega
        have eV : (acc (L.rs.map Sl8.l) (i + 1)).map U8 = A.map U8 ++ (L.rs[i]).l.map U8 ++ [U8 13, U8 10] := by rw [eT, stuffL, if_neg hd]; simp
        rw [eN] at hAl'
        rw [hyv] at hci
        repeat (first | refine JL.q (by first | (apply OQ.idxS1; exact Try.underlying24; exact sls; exact rfl; exact rfl; exact hi') | (apply OQ.load_old; exact slc; exact rfl; exact (block_lt_of_cell hci); exact (by simp); exact hci) | (apply OQ.gtrN_t; exact rfl; exact rfl; exact h0) | (apply OQ.idxS1 (i := 0); exact Try.underlying22; exact u8s; exact rfl; exact rfl; exact hy0) | (apply OQ.load_old; exact u8c; exact rfl; exact (block_lt_of_cell hc0); exact (by simp); exact hc0) | (apply OQ.eqi_f; exact rfl; exact rfl; exact (by_ne hd1)) | (apply OQ.pick_t; exact rfl; exact rfl) | (apply OQ.pick_f; exact rfl; exact rfl) | (apply OQ.move; exact rfl) | (apply OQ.assign; exact rfl) | (apply OQ.len; exact rfl; exact rfl) | (apply OQ.addN; exact rfl; exact rfl; exact (by (try simp only []); omega)) | (apply OQ.lssN; exact rfl; exact rfl)) rfl ?_ | refine JC.seq ?_ | refine JC.region ?_ | refine JC.block ?_ | refine JC.skip ?_ | refine JC.exit ?_ | refine JL.nil ?_ | refine JE.next ?_ | refine JE.blk_normal ?_ | refine JE.then_exit ?_ | refine JE.blk_hit ?_ | refine JE.blk_miss rfl ?_ | refine JE.then_ret ?_ | refine JE.blk_ret ?_ | refine JC.label ?_ | refine JL.gon rfl rfl ?_ | refine JL.gskip rfl rfl rfl rfl ?_ | refine JL.gskipU rfl rfl rfl rfl ?_)
        refine JC.cond_false rfl rfl ?_
        repeat (first | refine JL.q (by first | (apply OQ.idxS1; exact Try.underlying24; exact sls; exact rfl; exact rfl; exact hi') | (apply OQ.load_old; exact slc; exact rfl; exact (block_lt_of_cell hci); exact (by simp); exact hci) | (apply OQ.move; exact rfl) | (apply OQ.assign; exact rfl) | (apply OQ.len; exact rfl; exact rfl) | (apply OQ.addN; exact rfl; exact rfl; exact (by (try simp only []); omega)) | (apply OQ.lssN; exact rfl; exact rfl)) rfl ?_ | refine JC.seq ?_ | refine JC.region ?_ | refine JC.block ?_ | refine JC.skip ?_ | refine JC.exit ?_ | refine JL.nil ?_ | refine JE.next ?_ | refine JE.blk_normal ?_ | refine JE.then_exit ?_ | refine JE.blk_hit ?_ | refine JE.blk_miss rfl ?_ | refine JE.then_ret ?_ | refine JE.blk_ret ?_ | refine JC.label ?_ | refine JL.gon rfl rfl ?_ | refine JL.gskip rfl rfl rfl rfl ?_ | refine JL.gskipU rfl rfl rfl rfl ?_)
        refine JL.append (cs := (L.rs[i]).l.map U8) (m := (L.rs[i]).l.length) (ad := some ⟨by', jy, none⟩) (sc := (L.rs[i]).cap) (xs := A.map U8) (fun b' cap' => [⟨b', Own 5 1 (A.length + (L.rs[i]).l.length) cap' (A.map U8 ++ (L.rs[i]).l.map U8), true⟩]) Try.underlying22 u8e rfl rfl (by intro _ _; repeat (first | exact Repl.here | apply Repl.there)) (by simp) (fun w' hw' => by rw [← hye]; exact (oky.holds hw' rfl).reads) (all8U _) rfl (by decide) (by omega) (by omega) rfl fun b3 cap3 => ?_
        repeat (first | refine JL.q (by first | (apply OQ.move; exact rfl) | (apply OQ.assign; exact rfl) | (apply OQ.len; exact rfl; exact rfl) | (apply OQ.addN; exact rfl; exact rfl; exact (by (try simp only []); omega)) | (apply OQ.lssN; exact rfl; exact rfl)) rfl ?_ | refine JC.seq ?_ | refine JC.region ?_ | refine JC.block ?_ | refine JC.skip ?_ | refine JC.exit ?_ | refine JL.nil ?_ | refine JE.next ?_ | refine JE.blk_normal ?_ | refine JE.then_exit ?_ | refine JE.blk_hit ?_ | refine JE.blk_miss rfl ?_ | refine JE.then_ret ?_ | refine JE.blk_ret ?_ | refine JC.label ?_ | refine JL.gon rfl rfl ?_ | refine JL.gskip rfl rfl rfl rfl ?_ | refine JL.gskipU rfl rfl rfl rfl ?_)
        refine JL.push2 (v1 := U8 13) (v2 := U8 10) (xs := (A.map U8 ++ (L.rs[i]).l.map U8)) (fun b' cap' => [⟨b', Own 5 1 (A.length + (L.rs[i]).l.length + 2) cap' ((A.map U8 ++ (L.rs[i]).l.map U8) ++ [U8 13, U8 10]), true⟩]) Try.underlying22 u8e rfl rfl rfl rfl rfl rfl rfl (fun _ => rfl) (by intro _ _; repeat (first | exact Repl.here | apply Repl.there)) (by omega) (by omega) rfl rfl fun bl2 b4 cap4 => ?_
        rw [← hav]
        repeat (first | refine JL.q (by first | (apply OQ.move; exact rfl) | (apply OQ.assign; exact rfl) | (apply OQ.len; exact rfl; exact rfl) | (apply OQ.addN; exact rfl; exact rfl; exact (by (try simp only []); omega)) | (apply OQ.lssN; exact rfl; exact rfl)) rfl ?_ | refine JC.seq ?_ | refine JC.region ?_ | refine JC.block ?_ | refine JC.skip ?_ | refine JC.exit ?_ | refine JL.nil ?_ | refine JE.next ?_ | refine JE.blk_normal ?_ | refine JE.then_exit ?_ | refine JE.blk_hit ?_ | refine JE.blk_miss rfl ?_ | refine JE.then_ret ?_ | refine JE.blk_ret ?_ | refine JC.label ?_ | refine JL.gon rfl rfl ?_ | refine JL.gskip rfl rfl rfl rfl ?_ | refine JL.gskipU rfl rfl rfl rfl ?_)
        refine JE.again (i := (i, b1, cap1)) (i + 1, b4, cap4) (by show i + 1 ≤ _; omega) (by show L.rs.length - (i + 1) < L.rs.length - i; omega) ?_ (.keep _ _ _ _ _ _ (fun o h => ?_) (.nil _))
        · dsimp only
          rw [eN]
          exact (by repeat (first | exact SubE.nil | refine SubE.cons _ _ _ rfl ?_))
        · dsimp only
          rw [eN, eV]
          exact h
    · have hd : ¬ (L.rs[i]).l.head? = some 46 := by rw [List.eq_nil_of_length_eq_zero (by omega : (L.rs[i]).l.length = 0)]; exact fun e => by cases e
      have eN : (acc (L.rs.map Sl8.l) (i + 1)).length = A.length + (L.rs[i]).l.length + 2 := by rw [eT, stuffL, if_neg hd]; simp; omega
      have eV : (acc (L.rs.map Sl8.l) (i + 1)).map U8 = A.map U8 ++ (L.rs[i]).l.map U8 ++ [U8 13, U8 10] := by rw [eT, stuffL, if_neg hd]; simp
      rw [eN] at hAl'
      repeat (first | refine JL.q (by first | (apply OQ.idxS1; exact Try.underlying24; exact sls; exact rfl; exact rfl; exact hi') | (apply OQ.load_old; exact slc; exact rfl; exact (block_lt_of_cell hci); exact (by simp); exact hci) | (apply OQ.gtrN_f; exact rfl; exact rfl; exact h0) | (apply OQ.pick_t; exact rfl; exact rfl) | (apply OQ.pick_f; exact rfl; exact rfl) | (apply OQ.move; exact rfl) | (apply OQ.assign; exact rfl) | (apply OQ.len; exact rfl; exact rfl) | (apply OQ.addN; exact rfl; exact rfl; exact (by (try simp only []); omega)) | (apply OQ.lssN; exact rfl; exact rfl)) rfl ?_ | refine JC.seq ?_ | refine JC.region ?_ | refine JC.block ?_ | refine JC.skip ?_ | refine JC.exit ?_ | refine JL.nil ?_ | refine JE.next ?_ | refine JE.blk_normal ?_ | refine JE.then_exit ?_ | refine JE.blk_hit ?_ | refine JE.blk_miss rfl ?_ | refine JE.then_ret ?_ | refine JE.blk_ret ?_ | refine JC.label ?_ | refine JL.gon rfl rfl ?_ | refine JL.gskip rfl rfl rfl rfl ?_ | refine JL.gskipU rfl rfl rfl rfl ?_)
      refine JC.cond_false rfl rfl ?_
      repeat (first | refine JL.q (by first | (apply OQ.idxS1; exact Try.underlying24; exact sls; exact rfl; exact rfl; exact hi') | (apply OQ.load_old; exact slc; exact rfl; exact (block_lt_of_cell hci); exact (by simp); exact hci) | (apply OQ.move; exact rfl) | (apply OQ.assign; exact rfl) | (apply OQ.len; exact rfl; exact rfl) | (apply OQ.addN; exact rfl; exact rfl; exact (by (try simp only []); omega)) | (apply OQ.lssN; exact rfl; exact rfl)) rfl ?_ | refine JC.seq ?_ | refine JC.region ?_ | refine JC.block ?_ | refine JC.skip ?_ | refine JC.exit ?_ | refine JL.nil ?_ | refine JE.next ?_ | refine JE.blk_normal ?_ | refine JE.then_exit ?_ | refine JE.blk_hit ?_ | refine JE.blk_miss rfl ?_ | refine JE.then_ret ?_ | refine JE.blk_ret ?_ | refine JC.label ?_ | refine JL.gon rfl rfl ?_ | refine JL.gskip rfl rfl rfl rfl ?_ | refine JL.gskipU rfl rfl rfl rfl ?_)
      refine JL.append (cs := (L.rs[i]).l.map U8) (m := (L.rs[i]).l.length) (ad := (L.rs[i]).ad) (sc := (L.rs[i]).cap) (xs := A.map U8) (fun b' cap' => [⟨b', Own 5 1 (A.length + (L.rs[i]).l.length) cap' (A.map U8 ++ (L.rs[i]).l.map U8), true⟩]) Try.underlying22 u8e rfl rfl (by intro _ _; repeat (first | exact Repl.here | apply Repl.there)) (by simp) (fun w' hw' => (oky.holds hw' rfl).reads) (all8U _) rfl (by decide) (by omega) (by omega) rfl fun b3 cap3 => ?_
      repeat (first | refine JL.q (by first | (apply OQ.move; exact rfl) | (apply OQ.assign; exact rfl) | (apply OQ.len; exact rfl; exact rfl) | (apply OQ.addN; exact rfl; exact rfl; exact (by (try simp only []); omega)) | (apply OQ.lssN; exact rfl; exact rfl)) rfl ?_ | refine JC.seq ?_ | refine JC.region ?_ | refine JC.block ?_ | refine JC.skip ?_ | refine JC.exit ?_ | refine JL.nil ?_ | refine JE.next ?_ | refine JE.blk_normal ?_ | refine JE.then_exit ?_ | refine JE.blk_hit ?_ | refine JE.blk_miss rfl ?_ | refine JE.then_ret ?_ | refine JE.blk_ret ?_ | refine JC.label ?_ | refine JL.gon rfl rfl ?_ | refine JL.gskip rfl rfl rfl rfl ?_ | refine JL.gskipU rfl rfl rfl rfl ?_)
      refine JL.push2 (v1 := U8 13) (v2 := U8 10) (xs := (A.map U8 ++ (L.rs[i]).l.map U8)) (fun b' cap' => [⟨b', Own 5 1 (A.length + (L.rs[i]).l.length + 2) cap' ((A.map U8 ++ (L.rs[i]).l.map U8) ++ [U8 13, U8 10]), true⟩]) Try.underlying22 u8e rfl rfl rfl rfl rfl rfl rfl (fun _ => rfl) (by intro _ _; repeat (first | exact Repl.here | apply Repl.there)) (by omega) (by omega) rfl rfl fun bl2 b4 cap4 => ?_
      rw [← hav]
      repeat (first | refine JL.q (by first | (apply OQ.move; exact rfl) | (apply OQ.assign; exact rfl) | (apply OQ.len; exact rfl; exact rfl) | (apply OQ.addN; exact rfl; exact rfl; exact (by (try simp only []); omega)) | (apply OQ.lssN; exact rfl; exact rfl)) rfl ?_ | refine JC.seq ?_ | refine JC.region ?_ | refine JC.block ?_ | refine JC.skip ?_ | refine JC.exit ?_ | refine JL.nil ?_ | refine JE.next ?_ | refine JE.blk_normal ?_ | refine JE.then_exit ?_ | refine JE.blk_hit ?_ | refine JE.blk_miss rfl ?_ | refine JE.then_ret ?_ | refine JE.blk_ret ?_ | refine JC.label ?_ | refine JL.gon rfl rfl ?_ | refine JL.gskip rfl rfl rfl rfl ?_ | refine JL.gskipU rfl rfl rfl rfl ?_)
      refine JE.again (i := (i, b1, cap1)) (i + 1, b4, cap4) (by show i + 1 ≤ _; omega) (by show L.rs.length - (i + 1) < L.rs.length - i; omega) ?_ (.keep _ _ _ _ _ _ (fun o h => ?_) (.nil _))
      · dsimp only
        rw [eN]
        exact (by repeat (first | exact SubE.nil | refine SubE.cons _ _ _ rfl ?_))
      · dsimp only
        rw [eN, eV]
        exact h
  · have hi' : ¬ i < L.rs.length := of_decide_eq_false h
    obtain rfl : i = L.rs.length := by omega
    clear h hi hi'
    have hAl' := hAl L.rs.length
    have eA : acc (L.rs.map Sl8.l) L.rs.length = joinB ((L.rs.map Sl8.l).map stuffL) := by
      unfold acc
      rw [List.take_of_length_le (by rw [List.length_map]; exact Nat.le_refl _)]
    rw [← eA]
    generalize acc (L.rs.map Sl8.l) L.rs.length = A at hAl' ⊢
    repeat (first | refine JL.q (by first | (apply OQ.move; exact rfl) | (apply OQ.assign; exact rfl) | (apply OQ.len; exact rfl; exact rfl) | (apply OQ.addN; exact rfl; exact rfl; exact (by (try simp only []); omega)) | (apply OQ.lssN; exact rfl; exact rfl)) rfl ?_ | refine JC.seq ?_ | refine JC.region ?_ | refine JC.block ?_ | refine JC.skip ?_ | refine JC.exit ?_ | refine JL.nil ?_ | refine JE.next ?_ | refine JE.blk_normal ?_ | refine JE.then_exit ?_ | refine JE.blk_hit ?_ | refine JE.blk_miss rfl ?_ | refine JE.then_ret ?_ | refine JE.blk_ret ?_ | refine JC.label ?_ | refine JL.gon rfl rfl ?_ | refine JL.gskip rfl rfl rfl rfl ?_ | refine JL.gskipU rfl rfl rfl rfl ?_)
    refine JL.push3 (v1 := U8 46) (v2 := U8 13) (v3 := U8 10) (xs := A.map U8) (fun b' cap' => [⟨b', Own 5 1 (A.length + 3) cap' (A.map U8 ++ [U8 46, U8 13, U8 10]), true⟩]) Try.underlying22 u8e rfl rfl rfl rfl rfl rfl rfl rfl rfl rfl (fun _ => rfl) (by intro _ _; repeat (first | exact Repl.here | apply Repl.there)) (by omega) (by omega) rfl rfl fun bl b2 cap2 => ?_
    repeat (first | refine JL.q (by first | (apply OQ.move; exact rfl) | (apply OQ.assign; exact rfl) | (apply OQ.len; exact rfl; exact rfl) | (apply OQ.addN; exact rfl; exact rfl; exact (by (try simp only []); omega)) | (apply OQ.lssN; exact rfl; exact rfl)) rfl ?_ | refine JC.seq ?_ | refine JC.region ?_ | refine JC.block ?_ | refine JC.skip ?_ | refine JC.exit ?_ | refine JL.nil ?_ | refine JE.next ?_ | refine JE.blk_normal ?_ | refine JE.then_exit ?_ | refine JE.blk_hit ?_ | refine JE.blk_miss rfl ?_ | refine JE.then_ret ?_ | refine JE.blk_ret ?_ | refine JC.label ?_ | refine JL.gon rfl rfl ?_ | refine JL.gskip rfl rfl rfl rfl ?_ | refine JL.gskipU rfl rfl rfl rfl ?_)
    refine JC.ret (JE.ret1 rfl (RV.tmp rfl) ?_)
    rw [List.length_append, List.map_append]
    exact fun w' hw => ⟨(b2, cap2), rfl, hw.base hE⟩
end Go.Proofs.Ytnopllkpfdgkkaa
