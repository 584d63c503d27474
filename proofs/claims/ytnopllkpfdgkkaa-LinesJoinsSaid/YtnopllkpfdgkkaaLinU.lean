/-
  Of no statement by itself: what the reference's Unstuff (layer 8) gives.
  Conditions: each theorem's own.
-/
import Derived.Test.YtnopllkpfdgkkaaLinZ
namespace Go.Proofs.Ytnopllkpfdgkkaa
open Sl Lin
theorem goes_runst : Goes Try.prog 17 := ⟨_, Try.func17, rfl, by kernel_rfl⟩
def bod (ls : List (List Lin.By)) (i : Nat) : List Lin.By := joinB ((ls.take i).map unL)
def tl (ls : List (List Lin.By)) (i j : Nat) : List Lin.By := joinB ((ls.take j).drop (i + 1))
theorem bod_step {ls : List (List Lin.By)} {i : Nat} (h : i < ls.length) : bod ls (i + 1) = bod ls i ++ (unL ls[i] ++ [13, 10]) := by
  unfold bod
  rw [List.take_succ_eq_append_getElem h, List.map_append, joinB_append]
  simp [joinB]
theorem tl_step {ls : List (List Lin.By)} {i j : Nat} (h : j < ls.length) (hj : i + 1 ≤ j) : tl ls i (j + 1) = tl ls i j ++ (ls[j] ++ [13, 10]) := by
  unfold tl
  rw [List.take_succ_eq_append_getElem h, List.drop_append_of_le_length (by rw [List.length_take]; omega), joinB_append]
  simp [joinB]
theorem tl_all (ls : List (List Lin.By)) (i : Nat) : tl ls i ls.length = joinB (ls.drop (i + 1)) := by
  unfold tl
  rw [List.take_length]
theorem tl_start (ls : List (List Lin.By)) (i : Nat) : tl ls i (i + 1) = [] := by
  unfold tl
  rw [List.drop_eq_nil_of_le (by rw [List.length_take]; omega)]
  rfl
theorem join_un_len : ∀ ls : List (List Lin.By), (joinB (ls.map unL)).length ≤ (joinB ls).length
  | [] => Nat.le_refl _
  | l :: ls => by
    have ih := join_un_len ls
    have h : (unL l).length ≤ l.length := by unfold unL; split <;> simp
    have e1 : joinB ((l :: ls).map unL) = (unL l ++ [13, 10]) ++ joinB (ls.map unL) := rfl
    have e2 : joinB (l :: ls) = (l ++ [13, 10]) ++ joinB ls := rfl
    rw [e1, e2]
    simp only [List.length_append, List.length_cons, List.length_nil] at *
    omega
theorem bod_len (ls : List (List Lin.By)) (i : Nat) : (bod ls i).length ≤ (joinB ls).length := Nat.le_trans (join_un_len _) (join_take_len ls i)
theorem tl_len (ls : List (List Lin.By)) (i j : Nat) : (tl ls i j).length ≤ (joinB ls).length := by
  have e : joinB (ls.take j) = joinB ((ls.take j).take (i + 1)) ++ joinB ((ls.take j).drop (i + 1)) := by rw [← joinB_append, List.take_append_drop]
  have h := join_take_len ls j
  rw [e, List.length_append] at h
  unfold tl
  omega
theorem un1_at : ∀ {ls : List (List Lin.By)} {i : Nat} (h : i < ls.length), ls[i] = [46] → (∀ l ∈ ls.take i, l ≠ [46]) → un1 ls = some ((ls.take i).map unL, ls.drop (i + 1))
  | l :: ls, 0, _, h1, _ => by
    show (if l = [46] then _ else _) = _
    rw [if_pos (show l = [46] from h1)]; rfl
  | l :: ls, i + 1, h, h1, h2 => by
    show (if l = [46] then _ else (un1 ls).map fun p => (unL l :: p.1, p.2)) = _
    rw [if_neg (h2 l (by simp)), un1_at (ls := ls) (i := i) (by simpa using h) h1 fun x hx => h2 x (by simp [hx])]
    rfl
def unA (b : List Lin.By) : List Lin.By × List Lin.By × Nat := match unB b with
  | some p => (p.1, p.2, 0)
  | none => ([], [], 7)
set_option maxHeartbeats 64000000 in
theorem runst_any (s : Sl8) (w : World) (hs : s.ok w) (hl : s.l.length ≤ 4000000) : Calls Try.prog 17 [s.v].toArray w
    fun e w' => ∃ q : Sl8 × Sl8, e = .returned (.tuple #[q.1.v, q.2.v, N (unA s.l).2.2]) ∧ q.1.l = (unA s.l).1 ∧ q.2.l = (unA s.l).2.1 ∧ Ext w w' ∧ q.1.ok w' ∧ q.2.ok w' := by
  have hJl := congrArg List.length (splB_join s.l)
  rw [List.length_append] at hJl
  refine enter (n := 91) Try.func17 rfl rfl rfl (Holds.start w []) ?_
  repeat (first | refine JL.q (by first | (apply OQ.move; exact rfl) | (apply OQ.assign; exact rfl) | (apply OQ.len; exact rfl; exact rfl) | (apply OQ.addN; exact rfl; exact rfl; exact (by (try simp only []); omega)) | (apply OQ.lssN; exact rfl; exact rfl)) rfl ?_ | refine JC.seq ?_ | refine JC.region ?_ | refine JC.block ?_ | refine JC.skip ?_ | refine JC.exit ?_ | refine JL.nil ?_ | refine JE.next ?_ | refine JE.blk_normal ?_ | refine JE.then_exit ?_ | refine JE.blk_hit ?_ | refine JE.blk_miss rfl ?_ | refine JE.then_ret ?_ | refine JE.blk_ret ?_ | refine JC.label ?_ | refine JL.gon rfl rfl ?_ | refine JL.gskip rfl rfl rfl rfl ?_ | refine JL.gskipU rfl rfl rfl rfl ?_)
  refine JL.callw (vs := [s.v]) (S' := []) (ι := { q : SlL × Sl8 // q.1.ls = (splB s.l).1 ∧ q.2.l = (splB s.l).2 }) (fun q => .tuple #[q.1.1.v, q.1.2.v]) (fun q w2 => q.1.1.ok w2 ∧ q.1.2.ok w2) [] goes_rsplit rfl rfl
    (fun w' hw' => (rsplit_any s w' (hs.holds hw' rfl) hl).mono fun e w2 ⟨q, h1, h2, h3, h4, h5⟩ => ⟨⟨q, h2, h3⟩, h1, h4, h5⟩) (.nil _) (by simp) ?_
  rintro ⟨⟨L, x⟩, hL, hx⟩ w1 hw1 ⟨okL, okx⟩
  have hE := hw1.chg
  dsimp only at hL hx
  have eUB : unB s.l = (un1 L.ls).map fun p => (joinB p.1, joinB p.2 ++ x.l) := by rw [hL, hx]; rfl
  rw [← hL, ← hx] at hJl
  unfold SlL.ls at hJl eUB
  have hBl := bod_len (L.rs.map Sl8.l)
  have hTl := tl_len (L.rs.map Sl8.l)
  have hLl := join_lines_len (L.rs.map Sl8.l)
  rw [List.length_map] at hLl
  dsimp only
  repeat (first | refine JL.q (by first | (apply OQ.extract; exact rfl; exact rfl) | (apply OQ.move; exact rfl) | (apply OQ.assign; exact rfl) | (apply OQ.len; exact rfl; exact rfl) | (apply OQ.addN; exact rfl; exact rfl; exact (by (try simp only []); omega)) | (apply OQ.lssN; exact rfl; exact rfl)) rfl ?_ | refine JC.seq ?_ | refine JC.region ?_ | refine JC.block ?_ | refine JC.skip ?_ | refine JC.exit ?_ | refine JL.nil ?_ | refine JE.next ?_ | refine JE.blk_normal ?_ | refine JE.then_exit ?_ | refine JE.blk_hit ?_ | refine JE.blk_miss rfl ?_ | refine JE.then_ret ?_ | refine JE.blk_ret ?_ | refine JC.label ?_ | refine JL.gon rfl rfl ?_ | refine JL.gskip rfl rfl rfl rfl ?_ | refine JL.gskipU rfl rfl rfl rfl ?_)
  refine JL.lit0 Try.underlying22 u8e rfl fun b0 _ => ?_
  repeat (first | refine JL.q (by first | (apply OQ.move; exact rfl) | (apply OQ.assign; exact rfl) | (apply OQ.len; exact rfl; exact rfl) | (apply OQ.addN; exact rfl; exact rfl; exact (by (try simp only []); omega)) | (apply OQ.lssN; exact rfl; exact rfl)) rfl ?_ | refine JC.seq ?_ | refine JC.region ?_ | refine JC.block ?_ | refine JC.skip ?_ | refine JC.exit ?_ | refine JL.nil ?_ | refine JE.next ?_ | refine JE.blk_normal ?_ | refine JE.then_exit ?_ | refine JE.blk_hit ?_ | refine JE.blk_miss rfl ?_ | refine JE.then_ret ?_ | refine JE.blk_ret ?_ | refine JC.label ?_ | refine JL.gon rfl rfl ?_ | refine JL.gskip rfl rfl rfl rfl ?_ | refine JL.gskipU rfl rfl rfl rfl ?_)
  refine JC.loop (fun q : Nat × Nat × Nat => [(5, L.v), (6, x.v), (7, .slice (some ⟨q.2.1, 0, none⟩) (bod (L.rs.map Sl8.l) q.1).length q.2.2), (8, N q.1)])
    (fun q => [⟨q.2.1, Own 5 1 (bod (L.rs.map Sl8.l) q.1).length q.2.2 ((bod (L.rs.map Sl8.l) q.1).map U8), true⟩])
    (fun q => L.rs.length - q.1) (fun q => q.1 ≤ L.rs.length ∧ ∀ l ∈ (L.rs.map Sl8.l).take q.1, l ≠ [46]) (0, b0, 0) ⟨Nat.zero_le _, by intro l hl; simp at hl⟩ (by repeat (first | exact SubE.nil | refine SubE.cons _ _ _ rfl ?_)) (.keep _ _ _ _ _ _ (row_ownG rfl) (.nil _)) ?_
  rintro ⟨i, b, cap⟩ ⟨hi, hnone⟩
  simp only at hi hnone
  repeat (first | refine JL.q (by first | (apply OQ.move; exact rfl) | (apply OQ.assign; exact rfl) | (apply OQ.len; exact rfl; exact rfl) | (apply OQ.addN; exact rfl; exact rfl; exact (by (try simp only []); omega)) | (apply OQ.lssN; exact rfl; exact rfl)) rfl ?_ | refine JC.seq ?_ | refine JC.region ?_ | refine JC.block ?_ | refine JC.skip ?_ | refine JC.exit ?_ | refine JL.nil ?_ | refine JE.next ?_ | refine JE.blk_normal ?_ | refine JE.then_exit ?_ | refine JE.blk_hit ?_ | refine JE.blk_miss rfl ?_ | refine JE.then_ret ?_ | refine JE.blk_ret ?_ | refine JC.label ?_ | refine JL.gon rfl rfl ?_ | refine JL.gskip rfl rfl rfl rfl ?_ | refine JL.gskipU rfl rfl rfl rfl ?_)
  refine JC.cond rfl (fun h => ?_) (fun h => ?_)
  · have hi' : i < L.rs.length := of_decide_eq_true h
    clear h hi
    have hi2 : i < (L.rs.map Sl8.l).length := by rw [List.length_map]; exact hi'
    have eT : bod (L.rs.map Sl8.l) (i + 1) = bod (L.rs.map Sl8.l) i ++ (unL (L.rs[i]).l ++ [13, 10]) := by
      rw [bod_step hi2, List.getElem_map]
    have hBl' := hBl (i + 1)
    have hBi := hBl i
    have hnone' : (L.rs[i]).l ≠ [46] → ∀ l ∈ (L.rs.map Sl8.l).take (i + 1), l ≠ [46] := by
      intro hne l hl
      rw [List.take_succ_eq_append_getElem hi2, List.mem_append, List.getElem_map] at hl
      rcases hl with hl | hl
      · exact hnone l hl
      · rw [List.mem_singleton.1 hl]; exact hne
    have eU : (L.rs[i]).l = [46] → unA s.l = (bod (L.rs.map Sl8.l) i, joinB ((L.rs.map Sl8.l).drop (i + 1)) ++ x.l, 0) := by
      intro e
      unfold unA
      rw [eUB, un1_at hi2 (by rw [List.getElem_map]; exact e) hnone]
      rfl
    obtain ⟨ba, ja, hae, hca⟩ := okL.reads.at (by simp; omega)
    have hci : w1.cell? ⟨ba, ja + i, none⟩ = some (L.rs[i]).v := hca i _ (by simp [hi'])
    have hav : L.v = .slice (some ⟨ba, ja, none⟩) L.rs.length L.cap := by rw [← hae]; rfl
    have oky := okL.all _ (List.getElem_mem hi')
    generalize L.rs[i] = y at eT hnone' eU hci oky
    obtain ⟨ad, yc, yl⟩ := y
    dsimp only at eT hnone' eU
    generalize bod (L.rs.map Sl8.l) i = A at eT eU hBi ⊢
    rw [hav]
    by_cases h0 : 0 < yl.length
    · obtain ⟨by', jy, rfl, hcy⟩ := oky.reads.at (by simpa using h0)
      have hc0 := hcy 0 _ (map_at U8 0 h0)
      have hd0 : yl.head? = some (yl.getD 0 0) := by
        rw [List.head?_eq_getElem?, List.getD_eq_getElem?_getD, List.getElem?_eq_getElem h0]; rfl
      by_cases c46 : yl.getD 0 0 = 46
      · have hc0 := c46 ▸ hc0
        have hd : yl.head? = some 46 := by rw [hd0, c46]
        by_cases h1 : yl.length = 1
        · have ey : yl = [46] := by
            match yl, h1 with
            | [c], _ => exact congrArg (fun c => [c]) c46
          have eU := eU ey
          clear hnone' eT
          repeat (first | refine JL.q (by first | (apply OQ.idxS1; exact Try.underlying24; exact sls; exact rfl; exact rfl; exact hi') | (apply OQ.load_old; exact slc; exact rfl; exact (block_lt_of_cell hci); exact (by simp); exact hci) | (apply OQ.eqi_t; exact rfl; exact rfl; exact (show ((yl.length : Nat) : Int) = 1 by omega)) | (apply OQ.idxS1 (i := 0); exact Try.underlying22; exact u8s; exact rfl; exact rfl; exact h0) | (apply OQ.load_old; exact u8c; exact rfl; exact (block_lt_of_cell hc0); exact (by simp); exact hc0) | (apply OQ.eqi_t; exact rfl; exact rfl; exact rfl) | (apply OQ.pick_t; exact rfl; exact rfl) | (apply OQ.pick_f; exact rfl; exact rfl) | (apply OQ.move; exact rfl) | (apply OQ.assign; exact rfl) | (apply OQ.len; exact rfl; exact rfl) | (apply OQ.addN; exact rfl; exact rfl; exact (by (try simp only []); omega)) | (apply OQ.lssN; exact rfl; exact rfl)) rfl ?_ | refine JC.seq ?_ | refine JC.region ?_ | refine JC.block ?_ | refine JC.skip ?_ | refine JC.exit ?_ | refine JL.nil ?_ | refine JE.next ?_ | refine JE.blk_normal ?_ | refine JE.then_exit ?_ | refine JE.blk_hit ?_ | refine JE.blk_miss rfl ?_ | refine JE.then_ret ?_ | refine JE.blk_ret ?_ | refine JC.label ?_ | refine JL.gon rfl rfl ?_ | refine JL.gskip rfl rfl rfl rfl ?_ | refine JL.gskipU rfl rfl rfl rfl ?_)
          refine JC.cond_true rfl rfl ?_
          repeat (first | refine JL.q (by first | (apply OQ.move; exact rfl) | (apply OQ.assign; exact rfl) | (apply OQ.len; exact rfl; exact rfl) | (apply OQ.addN; exact rfl; exact rfl; exact (by (try simp only []); omega)) | (apply OQ.lssN; exact rfl; exact rfl)) rfl ?_ | refine JC.seq ?_ | refine JC.region ?_ | refine JC.block ?_ | refine JC.skip ?_ | refine JC.exit ?_ | refine JL.nil ?_ | refine JE.next ?_ | refine JE.blk_normal ?_ | refine JE.then_exit ?_ | refine JE.blk_hit ?_ | refine JE.blk_miss rfl ?_ | refine JE.then_ret ?_ | refine JE.blk_ret ?_ | refine JC.label ?_ | refine JL.gon rfl rfl ?_ | refine JL.gskip rfl rfl rfl rfl ?_ | refine JL.gskipU rfl rfl rfl rfl ?_)
          refine JL.lit0 Try.underlying22 u8e rfl fun b9 _ => ?_
          repeat (first | refine JL.q (by first | (apply OQ.move; exact rfl) | (apply OQ.assign; exact rfl) | (apply OQ.len; exact rfl; exact rfl) | (apply OQ.addN; exact rfl; exact rfl; exact (by (try simp only []); omega)) | (apply OQ.lssN; exact rfl; exact rfl)) rfl ?_ | refine JC.seq ?_ | refine JC.region ?_ | refine JC.block ?_ | refine JC.skip ?_ | refine JC.exit ?_ | refine JL.nil ?_ | refine JE.next ?_ | refine JE.blk_normal ?_ | refine JE.then_exit ?_ | refine JE.blk_hit ?_ | refine JE.blk_miss rfl ?_ | refine JE.then_ret ?_ | refine JE.blk_ret ?_ | refine JC.label ?_ | refine JL.gon rfl rfl ?_ | refine JL.gskip rfl rfl rfl rfl ?_ | refine JL.gskipU rfl rfl rfl rfl ?_)
          rw [← hav]
          refine JC.loop (fun q : Nat × Nat × Nat => [(5, L.v), (6, x.v), (7, .slice (some ⟨b, 0, none⟩) A.length cap), (9, .slice (some ⟨q.2.1, 0, none⟩) (tl (L.rs.map Sl8.l) i q.1).length q.2.2), (10, N q.1)])
            (fun q => [⟨q.2.1, Own 5 1 (tl (L.rs.map Sl8.l) i q.1).length q.2.2 ((tl (L.rs.map Sl8.l) i q.1).map U8), true⟩, ⟨b, Own 5 1 A.length cap (A.map U8), true⟩])
            (fun q => L.rs.length - q.1) (fun q => i + 1 ≤ q.1 ∧ q.1 ≤ L.rs.length) (i + 1, b9, 0) ⟨Nat.le_refl _, hi'⟩ (by rw [tl_start]; exact (by repeat (first | exact SubE.nil | refine SubE.cons _ _ _ rfl ?_))) (by rw [tl_start]; exact .keep _ _ _ _ _ _ (row_ownG rfl) (.keep _ _ _ _ _ _ (fun _ h => h) (.nil _))) ?_
          clear hci hc0 hcy oky
          rintro ⟨j, b9, cap9⟩ ⟨hij, hj⟩
          simp only at hij hj
          repeat (first | refine JL.q (by first | (apply OQ.move; exact rfl) | (apply OQ.assign; exact rfl) | (apply OQ.len; exact rfl; exact rfl) | (apply OQ.addN; exact rfl; exact rfl; exact (by (try simp only []); omega)) | (apply OQ.lssN; exact rfl; exact rfl)) rfl ?_ | refine JC.seq ?_ | refine JC.region ?_ | refine JC.block ?_ | refine JC.skip ?_ | refine JC.exit ?_ | refine JL.nil ?_ | refine JE.next ?_ | refine JE.blk_normal ?_ | refine JE.then_exit ?_ | refine JE.blk_hit ?_ | refine JE.blk_miss rfl ?_ | refine JE.then_ret ?_ | refine JE.blk_ret ?_ | refine JC.label ?_ | refine JL.gon rfl rfl ?_ | refine JL.gskip rfl rfl rfl rfl ?_ | refine JL.gskipU rfl rfl rfl rfl ?_)
          refine JC.cond rfl (fun h => ?_) (fun h => ?_)
          · have hj' : j < L.rs.length := of_decide_eq_true h
            clear h hj
            have eT : tl (L.rs.map Sl8.l) i (j + 1) = tl (L.rs.map Sl8.l) i j ++ ((L.rs[j]).l ++ [13, 10]) := by
              rw [tl_step (by rw [List.length_map]; exact hj') hij, List.getElem_map]
            have hTl' := hTl i (j + 1)
            have hci : w1.cell? ⟨ba, ja + j, none⟩ = some (L.rs[j]).v := hca j _ (by simp [hj'])
            have oky := okL.all _ (List.getElem_mem hj')
            generalize L.rs[j] = y at eT hci oky
            generalize tl (L.rs.map Sl8.l) i j = R at eT ⊢
            rw [eT] at hTl'
            simp only [List.length_append, List.length_cons, List.length_nil] at hTl'
            have hi' := hj'
            rw [hav]
            repeat (first | refine JL.q (by first | (apply OQ.idxS1; exact Try.underlying24; exact sls; exact rfl; exact rfl; exact hi') | (apply OQ.load_old; exact slc; exact rfl; exact (block_lt_of_cell hci); exact (by simp); exact hci) | (apply OQ.move; exact rfl) | (apply OQ.assign; exact rfl) | (apply OQ.len; exact rfl; exact rfl) | (apply OQ.addN; exact rfl; exact rfl; exact (by (try simp only []); omega)) | (apply OQ.lssN; exact rfl; exact rfl)) rfl ?_ | refine JC.seq ?_ | refine JC.region ?_ | refine JC.block ?_ | refine JC.skip ?_ | refine JC.exit ?_ | refine JL.nil ?_ | refine JE.next ?_ | refine JE.blk_normal ?_ | refine JE.then_exit ?_ | refine JE.blk_hit ?_ | refine JE.blk_miss rfl ?_ | refine JE.then_ret ?_ | refine JE.blk_ret ?_ | refine JC.label ?_ | refine JL.gon rfl rfl ?_ | refine JL.gskip rfl rfl rfl rfl ?_ | refine JL.gskipU rfl rfl rfl rfl ?_)
            refine JL.append (cs := (y.l).map U8) (m := (y.l).length) (ad := y.ad) (sc := y.cap) (xs := R.map U8) (fun b' cap' => [⟨b', Own 5 1 (R.length + (y.l).length) cap' (R.map U8 ++ (y.l).map U8), true⟩, ⟨b, Own 5 1 A.length cap (A.map U8), true⟩]) Try.underlying22 u8e rfl rfl (by intro _ _; repeat (first | exact Repl.here | apply Repl.there)) (by simp) (fun w' hw' => (oky.holds hw' rfl).reads) (all8U _) rfl (by decide) (by omega) (by omega) rfl fun b3 cap3 => ?_
            repeat (first | refine JL.q (by first | (apply OQ.move; exact rfl) | (apply OQ.assign; exact rfl) | (apply OQ.len; exact rfl; exact rfl) | (apply OQ.addN; exact rfl; exact rfl; exact (by (try simp only []); omega)) | (apply OQ.lssN; exact rfl; exact rfl)) rfl ?_ | refine JC.seq ?_ | refine JC.region ?_ | refine JC.block ?_ | refine JC.skip ?_ | refine JC.exit ?_ | refine JL.nil ?_ | refine JE.next ?_ | refine JE.blk_normal ?_ | refine JE.then_exit ?_ | refine JE.blk_hit ?_ | refine JE.blk_miss rfl ?_ | refine JE.then_ret ?_ | refine JE.blk_ret ?_ | refine JC.label ?_ | refine JL.gon rfl rfl ?_ | refine JL.gskip rfl rfl rfl rfl ?_ | refine JL.gskipU rfl rfl rfl rfl ?_)
            refine JL.push2 (v1 := U8 13) (v2 := U8 10) (xs := (R.map U8 ++ (y.l).map U8)) (fun b' cap' => [⟨b', Own 5 1 (R.length + (y.l).length + 2) cap' ((R.map U8 ++ (y.l).map U8) ++ [U8 13, U8 10]), true⟩, ⟨b, Own 5 1 A.length cap (A.map U8), true⟩]) Try.underlying22 u8e rfl rfl rfl rfl rfl rfl rfl (fun _ => rfl) (by intro _ _; repeat (first | exact Repl.here | apply Repl.there)) (by omega) (by omega) rfl rfl fun bl2 b4 cap4 => ?_
            rw [← hav]
            repeat (first | refine JL.q (by first | (apply OQ.move; exact rfl) | (apply OQ.assign; exact rfl) | (apply OQ.len; exact rfl; exact rfl) | (apply OQ.addN; exact rfl; exact rfl; exact (by (try simp only []); omega)) | (apply OQ.lssN; exact rfl; exact rfl)) rfl ?_ | refine JC.seq ?_ | refine JC.region ?_ | refine JC.block ?_ | refine JC.skip ?_ | refine JC.exit ?_ | refine JL.nil ?_ | refine JE.next ?_ | refine JE.blk_normal ?_ | refine JE.then_exit ?_ | refine JE.blk_hit ?_ | refine JE.blk_miss rfl ?_ | refine JE.then_ret ?_ | refine JE.blk_ret ?_ | refine JC.label ?_ | refine JL.gon rfl rfl ?_ | refine JL.gskip rfl rfl rfl rfl ?_ | refine JL.gskipU rfl rfl rfl rfl ?_)
            refine JE.again (i := (j, b9, cap9)) (j + 1, b4, cap4) ⟨by show i + 1 ≤ j + 1; omega, by show j + 1 ≤ _; omega⟩ (by show L.rs.length - (j + 1) < L.rs.length - j; omega) ?_ (.keep _ _ _ _ _ _ (fun o h => ?_) (.keep _ _ _ _ _ _ (fun _ h => h) (.nil _)))
            · dsimp only
              rw [show (tl (L.rs.map Sl8.l) i (j + 1)).length = R.length + y.l.length + 2 by rw [eT]; simp; omega]
              exact (by repeat (first | exact SubE.nil | refine SubE.cons _ _ _ rfl ?_))
            · dsimp only
              rw [show (tl (L.rs.map Sl8.l) i (j + 1)).length = R.length + y.l.length + 2 by rw [eT]; simp; omega, show (tl (L.rs.map Sl8.l) i (j + 1)).map U8 = R.map U8 ++ y.l.map U8 ++ [U8 13, U8 10] by rw [eT]; simp]
              exact h
          · have hj' : ¬ j < L.rs.length := of_decide_eq_false h
            obtain rfl : j = L.rs.length := by omega
            clear h hj hj'
            have hTl' := hTl i L.rs.length
            have eR : tl (L.rs.map Sl8.l) i L.rs.length = joinB ((L.rs.map Sl8.l).drop (i + 1)) := by
              rw [← tl_all, List.length_map]
            rw [← eR] at eU
            generalize tl (L.rs.map Sl8.l) i L.rs.length = R at hTl' eU ⊢
            repeat (first | refine JL.q (by first | (apply OQ.move; exact rfl) | (apply OQ.assign; exact rfl) | (apply OQ.len; exact rfl; exact rfl) | (apply OQ.addN; exact rfl; exact rfl; exact (by (try simp only []); omega)) | (apply OQ.lssN; exact rfl; exact rfl)) rfl ?_ | refine JC.seq ?_ | refine JC.region ?_ | refine JC.block ?_ | refine JC.skip ?_ | refine JC.exit ?_ | refine JL.nil ?_ | refine JE.next ?_ | refine JE.blk_normal ?_ | refine JE.then_exit ?_ | refine JE.blk_hit ?_ | refine JE.blk_miss rfl ?_ | refine JE.then_ret ?_ | refine JE.blk_ret ?_ | refine JC.label ?_ | refine JL.gon rfl rfl ?_ | refine JL.gskip rfl rfl rfl rfl ?_ | refine JL.gskipU rfl rfl rfl rfl ?_)
            refine JL.append (cs := (x.l).map U8) (m := (x.l).length) (ad := x.ad) (sc := x.cap) (xs := R.map U8) (fun b' cap' => [⟨b', Own 5 1 (R.length + (x.l).length) cap' (R.map U8 ++ (x.l).map U8), true⟩, ⟨b, Own 5 1 A.length cap (A.map U8), true⟩]) Try.underlying22 u8e rfl rfl (by intro _ _; repeat (first | exact Repl.here | apply Repl.there)) (by simp) (fun w' hw' => (okx.holds hw' rfl).reads) (all8U _) rfl (by decide) (by omega) (by omega) rfl fun b3 cap3 => ?_
            repeat (first | refine JL.q (by first | (apply OQ.move; exact rfl) | (apply OQ.assign; exact rfl) | (apply OQ.len; exact rfl; exact rfl) | (apply OQ.addN; exact rfl; exact rfl; exact (by (try simp only []); omega)) | (apply OQ.lssN; exact rfl; exact rfl)) rfl ?_ | refine JC.seq ?_ | refine JC.region ?_ | refine JC.block ?_ | refine JC.skip ?_ | refine JC.exit ?_ | refine JL.nil ?_ | refine JE.next ?_ | refine JE.blk_normal ?_ | refine JE.then_exit ?_ | refine JE.blk_hit ?_ | refine JE.blk_miss rfl ?_ | refine JE.then_ret ?_ | refine JE.blk_ret ?_ | refine JC.label ?_ | refine JL.gon rfl rfl ?_ | refine JL.gskip rfl rfl rfl rfl ?_ | refine JL.gskipU rfl rfl rfl rfl ?_)
            refine JC.ret ?_
            repeat (first | refine JL.q (by first | (apply OQ.move; exact rfl) | (apply OQ.assign; exact rfl) | (apply OQ.len; exact rfl; exact rfl) | (apply OQ.addN; exact rfl; exact rfl; exact (by (try simp only []); omega)) | (apply OQ.lssN; exact rfl; exact rfl)) rfl ?_ | refine JC.seq ?_ | refine JC.region ?_ | refine JC.block ?_ | refine JC.skip ?_ | refine JC.exit ?_ | refine JL.nil ?_ | refine JE.next ?_ | refine JE.blk_normal ?_ | refine JE.then_exit ?_ | refine JE.blk_hit ?_ | refine JE.blk_miss rfl ?_ | refine JE.then_ret ?_ | refine JE.blk_ret ?_ | refine JC.label ?_ | refine JL.gon rfl rfl ?_ | refine JL.gskip rfl rfl rfl rfl ?_ | refine JL.gskipU rfl rfl rfl rfl ?_)
            rw [eU]
            refine JE.ret3 rfl (RV.tmp rfl) (RV.tmp rfl) (RV.tmp rfl) ?_
            rw [← List.map_append]
            exact fun w' hw => ⟨(⟨some ⟨b, 0, none⟩, cap, A⟩, ⟨some ⟨b3, 0, none⟩, cap3, R ++ x.l⟩), by rw [← List.length_append]; rfl, rfl, rfl, hE.trans hw.chg, ownb_ok hw (.there .here), ownb_ok hw .here⟩
        · have hnone' := hnone' (fun e => by rw [e] at h1; exact h1 rfl)
          repeat (first | refine JL.q (by first | (apply OQ.idxS1; exact Try.underlying24; exact sls; exact rfl; exact rfl; exact hi') | (apply OQ.load_old; exact slc; exact rfl; exact (block_lt_of_cell hci); exact (by simp); exact hci) | (apply OQ.eqi_f; exact rfl; exact rfl; exact (show ¬ ((yl.length : Nat) : Int) = 1 by omega)) | (apply OQ.pick_t; exact rfl; exact rfl) | (apply OQ.pick_f; exact rfl; exact rfl) | (apply OQ.move; exact rfl) | (apply OQ.assign; exact rfl) | (apply OQ.len; exact rfl; exact rfl) | (apply OQ.addN; exact rfl; exact rfl; exact (by (try simp only []); omega)) | (apply OQ.lssN; exact rfl; exact rfl)) rfl ?_ | refine JC.seq ?_ | refine JC.region ?_ | refine JC.block ?_ | refine JC.skip ?_ | refine JC.exit ?_ | refine JL.nil ?_ | refine JE.next ?_ | refine JE.blk_normal ?_ | refine JE.then_exit ?_ | refine JE.blk_hit ?_ | refine JE.blk_miss rfl ?_ | refine JE.then_ret ?_ | refine JE.blk_ret ?_ | refine JC.label ?_ | refine JL.gon rfl rfl ?_ | refine JL.gskip rfl rfl rfl rfl ?_ | refine JL.gskipU rfl rfl rfl rfl ?_)
          refine JC.cond_false rfl rfl ?_
          repeat (first | refine JL.q (by first | (apply OQ.idxS1; exact Try.underlying24; exact sls; exact rfl; exact rfl; exact hi') | (apply OQ.load_old; exact slc; exact rfl; exact (block_lt_of_cell hci); exact (by simp); exact hci) | (apply OQ.gtrN_t; exact rfl; exact rfl; exact h0) | (apply OQ.idxS1 (i := 0); exact Try.underlying22; exact u8s; exact rfl; exact rfl; exact h0) | (apply OQ.load_old; exact u8c; exact rfl; exact (block_lt_of_cell hc0); exact (by simp); exact hc0) | (apply OQ.eqi_t; exact rfl; exact rfl; exact rfl) | (apply OQ.pick_t; exact rfl; exact rfl) | (apply OQ.pick_f; exact rfl; exact rfl) | (apply OQ.move; exact rfl) | (apply OQ.assign; exact rfl) | (apply OQ.len; exact rfl; exact rfl) | (apply OQ.addN; exact rfl; exact rfl; exact (by (try simp only []); omega)) | (apply OQ.lssN; exact rfl; exact rfl)) rfl ?_ | refine JC.seq ?_ | refine JC.region ?_ | refine JC.block ?_ | refine JC.skip ?_ | refine JC.exit ?_ | refine JL.nil ?_ | refine JE.next ?_ | refine JE.blk_normal ?_ | refine JE.then_exit ?_ | refine JE.blk_hit ?_ | refine JE.blk_miss rfl ?_ | refine JE.then_ret ?_ | refine JE.blk_ret ?_ | refine JC.label ?_ | refine JL.gon rfl rfl ?_ | refine JL.gskip rfl rfl rfl rfl ?_ | refine JL.gskipU rfl rfl rfl rfl ?_)
          refine JC.cond_true rfl rfl ?_
          repeat (first | refine JL.q (by first | (apply OQ.idxS1; exact Try.underlying24; exact sls; exact rfl; exact rfl; exact hi') | (apply OQ.load_old; exact slc; exact rfl; exact (block_lt_of_cell hci); exact (by simp); exact hci) | (apply OQ.snd (s := ⟨some ⟨by', jy, none⟩, yc, yl⟩) (m := 1); exact Try.underlying22; exact u8s; exact rfl; exact rfl; exact h0) | (apply OQ.move; exact rfl) | (apply OQ.assign; exact rfl) | (apply OQ.len; exact rfl; exact rfl) | (apply OQ.addN; exact rfl; exact rfl; exact (by (try simp only []); omega)) | (apply OQ.lssN; exact rfl; exact rfl)) rfl ?_ | refine JC.seq ?_ | refine JC.region ?_ | refine JC.block ?_ | refine JC.skip ?_ | refine JC.exit ?_ | refine JL.nil ?_ | refine JE.next ?_ | refine JE.blk_normal ?_ | refine JE.then_exit ?_ | refine JE.blk_hit ?_ | refine JE.blk_miss rfl ?_ | refine JE.then_ret ?_ | refine JE.blk_ret ?_ | refine JC.label ?_ | refine JL.gon rfl rfl ?_ | refine JL.gskip rfl rfl rfl rfl ?_ | refine JL.gskipU rfl rfl rfl rfl ?_)
          have eN : (bod (L.rs.map Sl8.l) (i + 1)).length = A.length + (yl.drop 1).length + 2 := by rw [eT, unL, if_pos hd, ← List.drop_one]; simp; omega
          have eV : (bod (L.rs.map Sl8.l) (i + 1)).map U8 = A.map U8 ++ (yl.drop 1).map U8 ++ [U8 13, U8 10] := by rw [eT, unL, if_pos hd, ← List.drop_one]; simp
          rw [eN] at hBl'
          refine JL.append (cs := (yl.drop 1).map U8) (m := (yl.drop 1).length) (ad := (Sl8.snd ⟨some ⟨by', jy, none⟩, yc, yl⟩ 1).ad) (sc := yc - 1) (xs := A.map U8) (fun b' cap' => [⟨b', Own 5 1 (A.length + (yl.drop 1).length) cap' (A.map U8 ++ (yl.drop 1).map U8), true⟩]) Try.underlying22 u8e rfl rfl (by intro _ _; repeat (first | exact Repl.here | apply Repl.there)) (by simp) (fun w' hw' => ((oky.holds hw' rfl).snd 1 h0).reads) (all8U _) rfl (by decide) (by omega) (by omega) rfl fun b3 cap3 => ?_
          repeat (first | refine JL.q (by first | (apply OQ.move; exact rfl) | (apply OQ.assign; exact rfl) | (apply OQ.len; exact rfl; exact rfl) | (apply OQ.addN; exact rfl; exact rfl; exact (by (try simp only []); omega)) | (apply OQ.lssN; exact rfl; exact rfl)) rfl ?_ | refine JC.seq ?_ | refine JC.region ?_ | refine JC.block ?_ | refine JC.skip ?_ | refine JC.exit ?_ | refine JL.nil ?_ | refine JE.next ?_ | refine JE.blk_normal ?_ | refine JE.then_exit ?_ | refine JE.blk_hit ?_ | refine JE.blk_miss rfl ?_ | refine JE.then_ret ?_ | refine JE.blk_ret ?_ | refine JC.label ?_ | refine JL.gon rfl rfl ?_ | refine JL.gskip rfl rfl rfl rfl ?_ | refine JL.gskipU rfl rfl rfl rfl ?_)
          refine JL.push2 (v1 := U8 13) (v2 := U8 10) (xs := (A.map U8 ++ (yl.drop 1).map U8)) (fun b' cap' => [⟨b', Own 5 1 (A.length + (yl.drop 1).length + 2) cap' ((A.map U8 ++ (yl.drop 1).map U8) ++ [U8 13, U8 10]), true⟩]) Try.underlying22 u8e rfl rfl rfl rfl rfl rfl rfl (fun _ => rfl) (by intro _ _; repeat (first | exact Repl.here | apply Repl.there)) (by omega) (by omega) rfl rfl fun bl2 b4 cap4 => ?_
          rw [← hav]
          repeat (first | refine JL.q (by first | (apply OQ.move; exact rfl) | (apply OQ.assign; exact rfl) | (apply OQ.len; exact rfl; exact rfl) | (apply OQ.addN; exact rfl; exact rfl; exact (by (try simp only []); omega)) | (apply OQ.lssN; exact rfl; exact rfl)) rfl ?_ | refine JC.seq ?_ | refine JC.region ?_ | refine JC.block ?_ | refine JC.skip ?_ | refine JC.exit ?_ | refine JL.nil ?_ | refine JE.next ?_ | refine JE.blk_normal ?_ | refine JE.then_exit ?_ | refine JE.blk_hit ?_ | refine JE.blk_miss rfl ?_ | refine JE.then_ret ?_ | refine JE.blk_ret ?_ | refine JC.label ?_ | refine JL.gon rfl rfl ?_ | refine JL.gskip rfl rfl rfl rfl ?_ | refine JL.gskipU rfl rfl rfl rfl ?_)
          refine JE.again (i := (i, b, cap)) (i + 1, b4, cap4) ⟨by show i + 1 ≤ _; omega, hnone'⟩ (by show L.rs.length - (i + 1) < L.rs.length - i; omega) ?_ (.keep _ _ _ _ _ _ (fun o h => ?_) (.nil _))
          · dsimp only
            rw [eN]
            exact (by repeat (first | exact SubE.nil | refine SubE.cons _ _ _ rfl ?_))
          · dsimp only
            rw [eN, eV]
            exact h
      · have hd : ¬ yl.head? = some 46 := by rw [hd0]; exact fun e => c46 (Option.some.inj e)
        have hnone' := hnone' (fun e => by rw [e] at c46; exact c46 rfl)
        by_cases h1 : yl.length = 1
        · repeat (first | refine JL.q (by first | (apply OQ.idxS1; exact Try.underlying24; exact sls; exact rfl; exact rfl; exact hi') | (apply OQ.load_old; exact slc; exact rfl; exact (block_lt_of_cell hci); exact (by simp); exact hci) | (apply OQ.eqi_t; exact rfl; exact rfl; exact (show ((yl.length : Nat) : Int) = 1 by omega)) | (apply OQ.idxS1 (i := 0); exact Try.underlying22; exact u8s; exact rfl; exact rfl; exact h0) | (apply OQ.load_old; exact u8c; exact rfl; exact (block_lt_of_cell hc0); exact (by simp); exact hc0) | (apply OQ.eqi_f; exact rfl; exact rfl; exact (by_ne c46)) | (apply OQ.pick_t; exact rfl; exact rfl) | (apply OQ.pick_f; exact rfl; exact rfl) | (apply OQ.move; exact rfl) | (apply OQ.assign; exact rfl) | (apply OQ.len; exact rfl; exact rfl) | (apply OQ.addN; exact rfl; exact rfl; exact (by (try simp only []); omega)) | (apply OQ.lssN; exact rfl; exact rfl)) rfl ?_ | refine JC.seq ?_ | refine JC.region ?_ | refine JC.block ?_ | refine JC.skip ?_ | refine JC.exit ?_ | refine JL.nil ?_ | refine JE.next ?_ | refine JE.blk_normal ?_ | refine JE.then_exit ?_ | refine JE.blk_hit ?_ | refine JE.blk_miss rfl ?_ | refine JE.then_ret ?_ | refine JE.blk_ret ?_ | refine JC.label ?_ | refine JL.gon rfl rfl ?_ | refine JL.gskip rfl rfl rfl rfl ?_ | refine JL.gskipU rfl rfl rfl rfl ?_)
          refine JC.cond_false rfl rfl ?_
          repeat (first | refine JL.q (by first | (apply OQ.idxS1; exact Try.underlying24; exact sls; exact rfl; exact rfl; exact hi') | (apply OQ.load_old; exact slc; exact rfl; exact (block_lt_of_cell hci); exact (by simp); exact hci) | (apply OQ.gtrN_t; exact rfl; exact rfl; exact h0) | (apply OQ.idxS1 (i := 0); exact Try.underlying22; exact u8s; exact rfl; exact rfl; exact h0) | (apply OQ.load_old; exact u8c; exact rfl; exact (block_lt_of_cell hc0); exact (by simp); exact hc0) | (apply OQ.eqi_f; exact rfl; exact rfl; exact (by_ne c46)) | (apply OQ.pick_t; exact rfl; exact rfl) | (apply OQ.pick_f; exact rfl; exact rfl) | (apply OQ.move; exact rfl) | (apply OQ.assign; exact rfl) | (apply OQ.len; exact rfl; exact rfl) | (apply OQ.addN; exact rfl; exact rfl; exact (by (try simp only []); omega)) | (apply OQ.lssN; exact rfl; exact rfl)) rfl ?_ | refine JC.seq ?_ | refine JC.region ?_ | refine JC.block ?_ | refine JC.skip ?_ | refine JC.exit ?_ | refine JL.nil ?_ | refine JE.next ?_ | refine JE.blk_normal ?_ | refine JE.then_exit ?_ | refine JE.blk_hit ?_ | refine JE.blk_miss rfl ?_ | refine JE.then_ret ?_ | refine JE.blk_ret ?_ | refine JC.label ?_ | refine JL.gon rfl rfl ?_ | refine JL.gskip rfl rfl rfl rfl ?_ | refine JL.gskipU rfl rfl rfl rfl ?_)
          refine JC.cond_false rfl rfl ?_
          repeat (first | refine JL.q (by first | (apply OQ.idxS1; exact Try.underlying24; exact sls; exact rfl; exact rfl; exact hi') | (apply OQ.load_old; exact slc; exact rfl; exact (block_lt_of_cell hci); exact (by simp); exact hci) | (apply OQ.move; exact rfl) | (apply OQ.assign; exact rfl) | (apply OQ.len; exact rfl; exact rfl) | (apply OQ.addN; exact rfl; exact rfl; exact (by (try simp only []); omega)) | (apply OQ.lssN; exact rfl; exact rfl)) rfl ?_ | refine JC.seq ?_ | refine JC.region ?_ | refine JC.block ?_ | refine JC.skip ?_ | refine JC.exit ?_ | refine JL.nil ?_ | refine JE.next ?_ | refine JE.blk_normal ?_ | refine JE.then_exit ?_ | refine JE.blk_hit ?_ | refine JE.blk_miss rfl ?_ | refine JE.then_ret ?_ | refine JE.blk_ret ?_ | refine JC.label ?_ | refine JL.gon rfl rfl ?_ | refine JL.gskip rfl rfl rfl rfl ?_ | refine JL.gskipU rfl rfl rfl rfl ?_)
          have eN : (bod (L.rs.map Sl8.l) (i + 1)).length = A.length + (yl).length + 2 := by rw [eT, unL, if_neg hd]; simp; omega
          have eV : (bod (L.rs.map Sl8.l) (i + 1)).map U8 = A.map U8 ++ (yl).map U8 ++ [U8 13, U8 10] := by rw [eT, unL, if_neg hd]; simp
          rw [eN] at hBl'
          refine JL.append (cs := (yl).map U8) (m := (yl).length) (ad := some ⟨by', jy, none⟩) (sc := yc) (xs := A.map U8) (fun b' cap' => [⟨b', Own 5 1 (A.length + (yl).length) cap' (A.map U8 ++ (yl).map U8), true⟩]) Try.underlying22 u8e rfl rfl (by intro _ _; repeat (first | exact Repl.here | apply Repl.there)) (by simp) (fun w' hw' => (oky.holds hw' rfl).reads) (all8U _) rfl (by decide) (by omega) (by omega) rfl fun b3 cap3 => ?_
          repeat (first | refine JL.q (by first | (apply OQ.move; exact rfl) | (apply OQ.assign; exact rfl) | (apply OQ.len; exact rfl; exact rfl) | (apply OQ.addN; exact rfl; exact rfl; exact (by (try simp only []); omega)) | (apply OQ.lssN; exact rfl; exact rfl)) rfl ?_ | refine JC.seq ?_ | refine JC.region ?_ | refine JC.block ?_ | refine JC.skip ?_ | refine JC.exit ?_ | refine JL.nil ?_ | refine JE.next ?_ | refine JE.blk_normal ?_ | refine JE.then_exit ?_ | refine JE.blk_hit ?_ | refine JE.blk_miss rfl ?_ | refine JE.then_ret ?_ | refine JE.blk_ret ?_ | refine JC.label ?_ | refine JL.gon rfl rfl ?_ | refine JL.gskip rfl rfl rfl rfl ?_ | refine JL.gskipU rfl rfl rfl rfl ?_)
          refine JL.push2 (v1 := U8 13) (v2 := U8 10) (xs := (A.map U8 ++ (yl).map U8)) (fun b' cap' => [⟨b', Own 5 1 (A.length + (yl).length + 2) cap' ((A.map U8 ++ (yl).map U8) ++ [U8 13, U8 10]), true⟩]) Try.underlying22 u8e rfl rfl rfl rfl rfl rfl rfl (fun _ => rfl) (by intro _ _; repeat (first | exact Repl.here | apply Repl.there)) (by omega) (by omega) rfl rfl fun bl2 b4 cap4 => ?_
          rw [← hav]
          repeat (first | refine JL.q (by first | (apply OQ.move; exact rfl) | (apply OQ.assign; exact rfl) | (apply OQ.len; exact rfl; exact rfl) | (apply OQ.addN; exact rfl; exact rfl; exact (by (try simp only []); omega)) | (apply OQ.lssN; exact rfl; exact rfl)) rfl ?_ | refine JC.seq ?_ | refine JC.region ?_ | refine JC.block ?_ | refine JC.skip ?_ | refine JC.exit ?_ | refine JL.nil ?_ | refine JE.next ?_ | refine JE.blk_normal ?_ | refine JE.then_exit ?_ | refine JE.blk_hit ?_ | refine JE.blk_miss rfl ?_ | refine JE.then_ret ?_ | refine JE.blk_ret ?_ | refine JC.label ?_ | refine JL.gon rfl rfl ?_ | refine JL.gskip rfl rfl rfl rfl ?_ | refine JL.gskipU rfl rfl rfl rfl ?_)
          refine JE.again (i := (i, b, cap)) (i + 1, b4, cap4) ⟨by show i + 1 ≤ _; omega, hnone'⟩ (by show L.rs.length - (i + 1) < L.rs.length - i; omega) ?_ (.keep _ _ _ _ _ _ (fun o h => ?_) (.nil _))
          · dsimp only
            rw [eN]
            exact (by repeat (first | exact SubE.nil | refine SubE.cons _ _ _ rfl ?_))
          · dsimp only
            rw [eN, eV]
            exact h
        · repeat (first | refine JL.q (by first | (apply OQ.idxS1; exact Try.underlying24; exact sls; exact rfl; exact rfl; exact hi') | (apply OQ.load_old; exact slc; exact rfl; exact (block_lt_of_cell hci); exact (by simp); exact hci) | (apply OQ.eqi_f; exact rfl; exact rfl; exact (show ¬ ((yl.length : Nat) : Int) = 1 by omega)) | (apply OQ.pick_t; exact rfl; exact rfl) | (apply OQ.pick_f; exact rfl; exact rfl) | (apply OQ.move; exact rfl) | (apply OQ.assign; exact rfl) | (apply OQ.len; exact rfl; exact rfl) | (apply OQ.addN; exact rfl; exact rfl; exact (by (try simp only []); omega)) | (apply OQ.lssN; exact rfl; exact rfl)) rfl ?_ | refine JC.seq ?_ | refine JC.region ?_ | refine JC.block ?_ | refine JC.skip ?_ | refine JC.exit ?_ | refine JL.nil ?_ | refine JE.next ?_ | refine JE.blk_normal ?_ | refine JE.then_exit ?_ | refine JE.blk_hit ?_ | refine JE.blk_miss rfl ?_ | refine JE.then_ret ?_ | refine JE.blk_ret ?_ | refine JC.label ?_ | refine JL.gon rfl rfl ?_ | refine JL.gskip rfl rfl rfl rfl ?_ | refine JL.gskipU rfl rfl rfl rfl ?_)
          refine JC.cond_false rfl rfl ?_
          repeat (first | refine JL.q (by first | (apply OQ.idxS1; exact Try.underlying24; exact sls; exact rfl; exact rfl; exact hi') | (apply OQ.load_old; exact slc; exact rfl; exact (block_lt_of_cell hci); exact (by simp); exact hci) | (apply OQ.gtrN_t; exact rfl; exact rfl; exact h0) | (apply OQ.idxS1 (i := 0); exact Try.underlying22; exact u8s; exact rfl; exact rfl; exact h0) | (apply OQ.load_old; exact u8c; exact rfl; exact (block_lt_of_cell hc0); exact (by simp); exact hc0) | (apply OQ.eqi_f; exact rfl; exact rfl; exact (by_ne c46)) | (apply OQ.pick_t; exact rfl; exact rfl) | (apply OQ.pick_f; exact rfl; exact rfl) | (apply OQ.move; exact rfl) | (apply OQ.assign; exact rfl) | (apply OQ.len; exact rfl; exact rfl) | (apply OQ.addN; exact rfl; exact rfl; exact (by (try simp only []); omega)) | (apply OQ.lssN; exact rfl; exact rfl)) rfl ?_ | refine JC.seq ?_ | refine JC.region ?_ | refine JC.block ?_ | refine JC.skip ?_ | refine JC.exit ?_ | refine JL.nil ?_ | refine JE.next ?_ | refine JE.blk_normal ?_ | refine JE.then_exit ?_ | refine JE.blk_hit ?_ | refine JE.blk_miss rfl ?_ | refine JE.then_ret ?_ | refine JE.blk_ret ?_ | refine JC.label ?_ | refine JL.gon rfl rfl ?_ | refine JL.gskip rfl rfl rfl rfl ?_ | refine JL.gskipU rfl rfl rfl rfl ?_)
          refine JC.cond_false rfl rfl ?_
          repeat (first | refine JL.q (by first | (apply OQ.idxS1; exact Try.underlying24; exact sls; exact rfl; exact rfl; exact hi') | (apply OQ.load_old; exact slc; exact rfl; exact (block_lt_of_cell hci); exact (by simp); exact hci) | (apply OQ.move; exact rfl) | (apply OQ.assign; exact rfl) | (apply OQ.len; exact rfl; exact rfl) | (apply OQ.addN; exact rfl; exact rfl; exact (by (try simp only []); omega)) | (apply OQ.lssN; exact rfl; exact rfl)) rfl ?_ | refine JC.seq ?_ | refine JC.region ?_ | refine JC.block ?_ | refine JC.skip ?_ | refine JC.exit ?_ | refine JL.nil ?_ | refine JE.next ?_ | refine JE.blk_normal ?_ | refine JE.then_exit ?_ | refine JE.blk_hit ?_ | refine JE.blk_miss rfl ?_ | refine JE.then_ret ?_ | refine JE.blk_ret ?_ | refine JC.label ?_ | refine JL.gon rfl rfl ?_ | refine JL.gskip rfl rfl rfl rfl ?_ | refine JL.gskipU rfl rfl rfl rfl ?_)
          have eN : (bod (L.rs.map Sl8.l) (i + 1)).length = A.length + (yl).length + 2 := by rw [eT, unL, if_neg hd]; simp; omega
          have eV : (bod (L.rs.map Sl8.l) (i + 1)).map U8 = A.map U8 ++ (yl).map U8 ++ [U8 13, U8 10] := by rw [eT, unL, if_neg hd]; simp
          rw [eN] at hBl'
          refine JL.append (cs := (yl).map U8) (m := (yl).length) (ad := some ⟨by', jy, none⟩) (sc := yc) (xs := A.map U8) (fun b' cap' => [⟨b', Own 5 1 (A.length + (yl).length) cap' (A.map U8 ++ (yl).map U8), true⟩]) Try.underlying22 u8e rfl rfl (by intro _ _; repeat (first | exact Repl.here | apply Repl.there)) (by simp) (fun w' hw' => (oky.holds hw' rfl).reads) (all8U _) rfl (by decide) (by omega) (by omega) rfl fun b3 cap3 => ?_
          repeat (first | refine JL.q (by first | (apply OQ.move; exact rfl) | (apply OQ.assign; exact rfl) | (apply OQ.len; exact rfl; exact rfl) | (apply OQ.addN; exact rfl; exact rfl; exact (by (try simp only []); omega)) | (apply OQ.lssN; exact rfl; exact rfl)) rfl ?_ | refine JC.seq ?_ | refine JC.region ?_ | refine JC.block ?_ | refine JC.skip ?_ | refine JC.exit ?_ | refine JL.nil ?_ | refine JE.next ?_ | refine JE.blk_normal ?_ | refine JE.then_exit ?_ | refine JE.blk_hit ?_ | refine JE.blk_miss rfl ?_ | refine JE.then_ret ?_ | refine JE.blk_ret ?_ | refine JC.label ?_ | refine JL.gon rfl rfl ?_ | refine JL.gskip rfl rfl rfl rfl ?_ | refine JL.gskipU rfl rfl rfl rfl ?_)
          refine JL.push2 (v1 := U8 13) (v2 := U8 10) (xs := (A.map U8 ++ (yl).map U8)) (fun b' cap' => [⟨b', Own 5 1 (A.length + (yl).length + 2) cap' ((A.map U8 ++ (yl).map U8) ++ [U8 13, U8 10]), true⟩]) Try.underlying22 u8e rfl rfl rfl rfl rfl rfl rfl (fun _ => rfl) (by intro _ _; repeat (first | exact Repl.here | apply Repl.there)) (by omega) (by omega) rfl rfl fun bl2 b4 cap4 => ?_
          rw [← hav]
          repeat (first | refine JL.q (by first | (apply OQ.move; exact rfl) | (apply OQ.assign; exact rfl) | (apply OQ.len; exact rfl; exact rfl) | (apply OQ.addN; exact rfl; exact rfl; exact (by (try simp only []); omega)) | (apply OQ.lssN; exact rfl; exact rfl)) rfl ?_ | refine JC.seq ?_ | refine JC.region ?_ | refine JC.block ?_ | refine JC.skip ?_ | refine JC.exit ?_ | refine JL.nil ?_ | refine JE.next ?_ | refine JE.blk_normal ?_ | refine JE.then_exit ?_ | refine JE.blk_hit ?_ | refine JE.blk_miss rfl ?_ | refine JE.then_ret ?_ | refine JE.blk_ret ?_ | refine JC.label ?_ | refine JL.gon rfl rfl ?_ | refine JL.gskip rfl rfl rfl rfl ?_ | refine JL.gskipU rfl rfl rfl rfl ?_)
          refine JE.again (i := (i, b, cap)) (i + 1, b4, cap4) ⟨by show i + 1 ≤ _; omega, hnone'⟩ (by show L.rs.length - (i + 1) < L.rs.length - i; omega) ?_ (.keep _ _ _ _ _ _ (fun o h => ?_) (.nil _))
          · dsimp only
            rw [eN]
            exact (by repeat (first | exact SubE.nil | refine SubE.cons _ _ _ rfl ?_))
          · dsimp only
            rw [eN, eV]
            exact h
    · obtain rfl : yl = [] := List.eq_nil_of_length_eq_zero (by omega)
      have hd : ¬ ([] : List Lin.By).head? = some 46 := fun e => by cases e
      have hnone' := hnone' (fun e => by cases e)
      repeat (first | refine JL.q (by first | (apply OQ.idxS1; exact Try.underlying24; exact sls; exact rfl; exact rfl; exact hi') | (apply OQ.load_old; exact slc; exact rfl; exact (block_lt_of_cell hci); exact (by simp); exact hci) | (apply OQ.eqi_f; exact rfl; exact rfl; exact (show ¬ ((0 : Nat) : Int) = 1 by decide)) | (apply OQ.pick_t; exact rfl; exact rfl) | (apply OQ.pick_f; exact rfl; exact rfl) | (apply OQ.move; exact rfl) | (apply OQ.assign; exact rfl) | (apply OQ.len; exact rfl; exact rfl) | (apply OQ.addN; exact rfl; exact rfl; exact (by (try simp only []); omega)) | (apply OQ.lssN; exact rfl; exact rfl)) rfl ?_ | refine JC.seq ?_ | refine JC.region ?_ | refine JC.block ?_ | refine JC.skip ?_ | refine JC.exit ?_ | refine JL.nil ?_ | refine JE.next ?_ | refine JE.blk_normal ?_ | refine JE.then_exit ?_ | refine JE.blk_hit ?_ | refine JE.blk_miss rfl ?_ | refine JE.then_ret ?_ | refine JE.blk_ret ?_ | refine JC.label ?_ | refine JL.gon rfl rfl ?_ | refine JL.gskip rfl rfl rfl rfl ?_ | refine JL.gskipU rfl rfl rfl rfl ?_)
      refine JC.cond_false rfl rfl ?_
      repeat (first | refine JL.q (by first | (apply OQ.idxS1; exact Try.underlying24; exact sls; exact rfl; exact rfl; exact hi') | (apply OQ.load_old; exact slc; exact rfl; exact (block_lt_of_cell hci); exact (by simp); exact hci) | (apply OQ.gtrN_f; exact rfl; exact rfl; exact h0) | (apply OQ.pick_t; exact rfl; exact rfl) | (apply OQ.pick_f; exact rfl; exact rfl) | (apply OQ.move; exact rfl) | (apply OQ.assign; exact rfl) | (apply OQ.len; exact rfl; exact rfl) | (apply OQ.addN; exact rfl; exact rfl; exact (by (try simp only []); omega)) | (apply OQ.lssN; exact rfl; exact rfl)) rfl ?_ | refine JC.seq ?_ | refine JC.region ?_ | refine JC.block ?_ | refine JC.skip ?_ | refine JC.exit ?_ | refine JL.nil ?_ | refine JE.next ?_ | refine JE.blk_normal ?_ | refine JE.then_exit ?_ | refine JE.blk_hit ?_ | refine JE.blk_miss rfl ?_ | refine JE.then_ret ?_ | refine JE.blk_ret ?_ | refine JC.label ?_ | refine JL.gon rfl rfl ?_ | refine JL.gskip rfl rfl rfl rfl ?_ | refine JL.gskipU rfl rfl rfl rfl ?_)
      refine JC.cond_false rfl rfl ?_
      repeat (first | refine JL.q (by first | (apply OQ.idxS1; exact Try.underlying24; exact sls; exact rfl; exact rfl; exact hi') | (apply OQ.load_old; exact slc; exact rfl; exact (block_lt_of_cell hci); exact (by simp); exact hci) | (apply OQ.move; exact rfl) | (apply OQ.assign; exact rfl) | (apply OQ.len; exact rfl; exact rfl) | (apply OQ.addN; exact rfl; exact rfl; exact (by (try simp only []); omega)) | (apply OQ.lssN; exact rfl; exact rfl)) rfl ?_ | refine JC.seq ?_ | refine JC.region ?_ | refine JC.block ?_ | refine JC.skip ?_ | refine JC.exit ?_ | refine JL.nil ?_ | refine JE.next ?_ | refine JE.blk_normal ?_ | refine JE.then_exit ?_ | refine JE.blk_hit ?_ | refine JE.blk_miss rfl ?_ | refine JE.then_ret ?_ | refine JE.blk_ret ?_ | refine JC.label ?_ | refine JL.gon rfl rfl ?_ | refine JL.gskip rfl rfl rfl rfl ?_ | refine JL.gskipU rfl rfl rfl rfl ?_)
      have eN : (bod (L.rs.map Sl8.l) (i + 1)).length = A.length + (([] : List Lin.By)).length + 2 := by rw [eT, unL, if_neg hd]; simp
      have eV : (bod (L.rs.map Sl8.l) (i + 1)).map U8 = A.map U8 ++ (([] : List Lin.By)).map U8 ++ [U8 13, U8 10] := by rw [eT, unL, if_neg hd]; simp
      rw [eN] at hBl'
      refine JL.append (cs := (([] : List Lin.By)).map U8) (m := (([] : List Lin.By)).length) (ad := ad) (sc := yc) (xs := A.map U8) (fun b' cap' => [⟨b', Own 5 1 (A.length + (([] : List Lin.By)).length) cap' (A.map U8 ++ (([] : List Lin.By)).map U8), true⟩]) Try.underlying22 u8e rfl rfl (by intro _ _; repeat (first | exact Repl.here | apply Repl.there)) (by simp) (fun w' hw' => (oky.holds hw' rfl).reads) (all8U _) rfl (by decide) (by omega) (by omega) rfl fun b3 cap3 => ?_
      repeat (first | refine JL.q (by first | (apply OQ.move; exact rfl) | (apply OQ.assign; exact rfl) | (apply OQ.len; exact rfl; exact rfl) | (apply OQ.addN; exact rfl; exact rfl; exact (by (try simp only []); omega)) | (apply OQ.lssN; exact rfl; exact rfl)) rfl ?_ | refine JC.seq ?_ | refine JC.region ?_ | refine JC.block ?_ | refine JC.skip ?_ | refine JC.exit ?_ | refine JL.nil ?_ | refine JE.next ?_ | refine JE.blk_normal ?_ | refine JE.then_exit ?_ | refine JE.blk_hit ?_ | refine JE.blk_miss rfl ?_ | refine JE.then_ret ?_ | refine JE.blk_ret ?_ | refine JC.label ?_ | refine JL.gon rfl rfl ?_ | refine JL.gskip rfl rfl rfl rfl ?_ | refine JL.gskipU rfl rfl rfl rfl ?_)
      refine JL.push2 (v1 := U8 13) (v2 := U8 10) (xs := (A.map U8 ++ (([] : List Lin.By)).map U8)) (fun b' cap' => [⟨b', Own 5 1 (A.length + (([] : List Lin.By)).length + 2) cap' ((A.map U8 ++ (([] : List Lin.By)).map U8) ++ [U8 13, U8 10]), true⟩]) Try.underlying22 u8e rfl rfl rfl rfl rfl rfl rfl (fun _ => rfl) (by intro _ _; repeat (first | exact Repl.here | apply Repl.there)) (by omega) (by omega) rfl rfl fun bl2 b4 cap4 => ?_
      rw [← hav]
      repeat (first | refine JL.q (by first | (apply OQ.move; exact rfl) | (apply OQ.assign; exact rfl) | (apply OQ.len; exact rfl; exact rfl) | (apply OQ.addN; exact rfl; exact rfl; exact (by (try simp only []); omega)) | (apply OQ.lssN; exact rfl; exact rfl)) rfl ?_ | refine JC.seq ?_ | refine JC.region ?_ | refine JC.block ?_ | refine JC.skip ?_ | refine JC.exit ?_ | refine JL.nil ?_ | refine JE.next ?_ | refine JE.blk_normal ?_ | refine JE.then_exit ?_ | refine JE.blk_hit ?_ | refine JE.blk_miss rfl ?_ | refine JE.then_ret ?_ | refine JE.blk_ret ?_ | refine JC.label ?_ | refine JL.gon rfl rfl ?_ | refine JL.gskip rfl rfl rfl rfl ?_ | refine JL.gskipU rfl rfl rfl rfl ?_)
      refine JE.again (i := (i, b, cap)) (i + 1, b4, cap4) ⟨by show i + 1 ≤ _; omega, hnone'⟩ (by show L.rs.length - (i + 1) < L.rs.length - i; omega) ?_ (.keep _ _ _ _ _ _ (fun o h => ?_) (.nil _))
      · dsimp only
        rw [eN]
        exact (by repeat (first | exact SubE.nil | refine SubE.cons _ _ _ rfl ?_))
      · dsimp only
        rw [eN, eV]
        exact h
  · have hi' : ¬ i < L.rs.length := of_decide_eq_false h
    obtain rfl : i = L.rs.length := by omega
    clear h hi hi'
    rw [List.take_of_length_le (by rw [List.length_map]; exact Nat.le_refl _)] at hnone
    have eU : unA s.l = ([], [], 7) := by
      unfold unA
      rw [eUB, un1_none _ hnone]
      rfl
    rw [eU]
    repeat (first | refine JL.q (by first | (apply OQ.move; exact rfl) | (apply OQ.assign; exact rfl) | (apply OQ.len; exact rfl; exact rfl) | (apply OQ.addN; exact rfl; exact rfl; exact (by (try simp only []); omega)) | (apply OQ.lssN; exact rfl; exact rfl)) rfl ?_ | refine JC.seq ?_ | refine JC.region ?_ | refine JC.block ?_ | refine JC.skip ?_ | refine JC.exit ?_ | refine JL.nil ?_ | refine JE.next ?_ | refine JE.blk_normal ?_ | refine JE.then_exit ?_ | refine JE.blk_hit ?_ | refine JE.blk_miss rfl ?_ | refine JE.then_ret ?_ | refine JE.blk_ret ?_ | refine JC.label ?_ | refine JL.gon rfl rfl ?_ | refine JL.gskip rfl rfl rfl rfl ?_ | refine JL.gskipU rfl rfl rfl rfl ?_)
    refine JC.ret (JE.ret3 rfl (RV.tmp rfl) (RV.tmp rfl) (RV.tmp rfl) ?_)
    exact fun w' hw => ⟨(nilS, nilS), rfl, rfl, rfl, hE.trans hw.chg, nilS_ok _, nilS_ok _⟩
end Go.Proofs.Ytnopllkpfdgkkaa
