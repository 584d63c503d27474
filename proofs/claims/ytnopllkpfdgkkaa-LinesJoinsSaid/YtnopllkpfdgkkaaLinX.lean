/-
  Of no statement by itself: what the reference's Split (layer 8) gives.
  Conditions: each theorem's own.
-/
import Derived.Test.YtnopllkpfdgkkaaTyp
import Derived.Test.YtnopllkpfdgkkaaSlr
import Derived.Test.YtnopllkpfdgkkaaLinT
namespace Go.Proofs.Ytnopllkpfdgkkaa
open Sl Lin
theorem goes_rsplit : Goes Try.prog 10 := ⟨_, Try.func10, rfl, by kernel_rfl⟩
theorem sle : EI Try.prog 22 (.slice none 0 0) 1 24 := by unfold EI; kernel_rfl
def stp (l : List Lin.By) (i : Nat) : List (List Lin.By) × List Lin.By := (l.take i).foldl sp ([], [])
theorem takeT (l : List Lin.By) {i : Nat} (h : i < l.length) : l.take (i + 1) = l.take i ++ [l.getD i 0] := by
  rw [List.take_add_one, List.getD_eq_getElem?_getD, List.getElem?_eq_getElem h]
  rfl
theorem stp_one (l : List Lin.By) {i : Nat} (h : i < l.length) : stp l (i + 1) = sp (stp l i) (l.getD i 0) := by
  unfold stp
  rw [takeT l h, List.foldl_append]
  rfl
theorem stp_push (l : List Lin.By) {i : Nat} (h : i < l.length) (hn : (stp l i).2.getLast? = some 13 → l.getD i 0 ≠ 10) : stp l (i + 1) = ((stp l i).1, (stp l i).2 ++ [l.getD i 0]) := by
  rw [stp_one l h]
  unfold sp
  rw [if_neg (fun e => hn e.2 e.1)]
theorem stp_line (l : List Lin.By) {i : Nat} (h : i + 1 < l.length) (h1 : l.getD i 0 = 13) (h2 : l.getD (i + 1) 0 = 10) : stp l (i + 2) = ((stp l i).1 ++ [(stp l i).2], []) := by
  rw [stp_one l h, stp_one l (by omega), h1, h2]
  have e : sp (stp l i) 13 = ((stp l i).1, (stp l i).2 ++ [13]) := by
    unfold sp
    rw [if_neg (fun e => absurd e.1 (by decide))]
  rw [e]
  unfold sp
  rw [if_pos ⟨rfl, by simp⟩]
  simp
theorem sp_len : ∀ (l : List Lin.By) (s : List (List Lin.By) × List Lin.By), (l.foldl sp s).1.length + (l.foldl sp s).2.length ≤ s.1.length + s.2.length + l.length
  | [], _ => Nat.le_refl _
  | c :: l, s => by
    have := sp_len l (sp s c)
    have h : (sp s c).1.length + (sp s c).2.length ≤ s.1.length + s.2.length + 1 := by
      unfold sp
      split <;> simp <;> omega
    rw [List.foldl_cons, List.length_cons]
    omega
theorem stp_le (l : List Lin.By) (i : Nat) : (stp l i).1.length + (stp l i).2.length ≤ i := by
  have := sp_len (l.take i) ([], [])
  rw [List.length_take] at this
  simp only [List.length_nil] at this
  unfold stp
  omega
set_option maxHeartbeats 32000000 in
theorem rsplit_any (s : Sl8) (w : World) (hs : s.ok w) (hl : s.l.length ≤ 4000000) : Calls Try.prog 10 [s.v].toArray w
    fun e w' => ∃ q : SlL × Sl8, e = .returned (.tuple #[q.1.v, q.2.v]) ∧ q.1.ls = (splB s.l).1 ∧ q.2.l = (splB s.l).2 ∧ Ext w w' ∧ q.1.ok w' ∧ q.2.ok w' := by
  refine enter (n := 51) Try.func10 rfl rfl rfl (Holds.start w []) ?_
  repeat (first | refine JL.q (by first | (apply OQ.move; exact rfl) | (apply OQ.assign; exact rfl) | (apply OQ.len; exact rfl; exact rfl) | (apply OQ.addN; exact rfl; exact rfl; exact (by (try simp only []); omega)) | (apply OQ.lssN; exact rfl; exact rfl)) rfl ?_ | refine JC.seq ?_ | refine JC.region ?_ | refine JC.block ?_ | refine JC.skip ?_ | refine JC.exit ?_ | refine JL.nil ?_ | refine JE.next ?_ | refine JE.blk_normal ?_ | refine JE.then_exit ?_ | refine JE.blk_hit ?_ | refine JE.blk_miss rfl ?_ | refine JE.then_ret ?_ | refine JE.blk_ret ?_ | refine JC.label ?_ | refine JL.gon rfl rfl ?_ | refine JL.gskip rfl rfl rfl rfl ?_ | refine JL.gskipU rfl rfl rfl rfl ?_)
  refine JL.lit0 Try.underlying24 sle rfl fun b0 _ => ?_
  repeat (first | refine JL.q (by first | (apply OQ.move; exact rfl) | (apply OQ.assign; exact rfl) | (apply OQ.len; exact rfl; exact rfl) | (apply OQ.addN; exact rfl; exact rfl; exact (by (try simp only []); omega)) | (apply OQ.lssN; exact rfl; exact rfl)) rfl ?_ | refine JC.seq ?_ | refine JC.region ?_ | refine JC.block ?_ | refine JC.skip ?_ | refine JC.exit ?_ | refine JL.nil ?_ | refine JE.next ?_ | refine JE.blk_normal ?_ | refine JE.then_exit ?_ | refine JE.blk_hit ?_ | refine JE.blk_miss rfl ?_ | refine JE.then_ret ?_ | refine JE.blk_ret ?_ | refine JC.label ?_ | refine JL.gon rfl rfl ?_ | refine JL.gskip rfl rfl rfl rfl ?_ | refine JL.gskipU rfl rfl rfl rfl ?_)
  refine JL.lit0 Try.underlying22 u8e rfl fun b0' _ => ?_
  repeat (first | refine JL.q (by first | (apply OQ.move; exact rfl) | (apply OQ.assign; exact rfl) | (apply OQ.len; exact rfl; exact rfl) | (apply OQ.addN; exact rfl; exact rfl; exact (by (try simp only []); omega)) | (apply OQ.lssN; exact rfl; exact rfl)) rfl ?_ | refine JC.seq ?_ | refine JC.region ?_ | refine JC.block ?_ | refine JC.skip ?_ | refine JC.exit ?_ | refine JL.nil ?_ | refine JE.next ?_ | refine JE.blk_normal ?_ | refine JE.then_exit ?_ | refine JE.blk_hit ?_ | refine JE.blk_miss rfl ?_ | refine JE.then_ret ?_ | refine JE.blk_ret ?_ | refine JC.label ?_ | refine JL.gon rfl rfl ?_ | refine JL.gskip rfl rfl rfl rfl ?_ | refine JL.gskipU rfl rfl rfl rfl ?_)
  refine JC.loop (fun q : Nat × List Sl8 × Nat × Nat × Nat × Nat => [(0, s.v), (4, .slice (some ⟨q.2.2.1, 0, none⟩) q.2.1.length q.2.2.2.1), (5, .slice (some ⟨q.2.2.2.2.1, 0, none⟩) (stp s.l q.1).2.length q.2.2.2.2.2), (6, N q.1)])
    (fun q => [⟨q.2.2.2.2.1, Own 5 1 (stp s.l q.1).2.length q.2.2.2.2.2 ((stp s.l q.1).2.map U8), true⟩, ⟨q.2.2.1, Own 22 1 q.2.1.length q.2.2.2.1 (q.2.1.map Sl8.v), true⟩] ++ flatE q.2.1)
    (fun q => s.l.length - q.1) (fun q => q.1 ≤ s.l.length ∧ q.2.1.map Sl8.l = (stp s.l q.1).1 ∧ (∀ y ∈ q.2.1, y.ad = none → y.l = []) ∧ ((stp s.l q.1).2.getLast? = some 13 → s.l.getD q.1 0 ≠ 10)) (0, [], b0, 0, b0', 0)
    ⟨Nat.zero_le _, rfl, by intro y hy; simp at hy, by intro e; simp [stp] at e⟩ (by repeat (first | exact SubE.nil | refine SubE.cons _ _ _ rfl ?_)) (.keep _ _ _ _ _ _ (row_ownG rfl) (.keep _ _ _ _ _ _ (row_ownG rfl) (.nil _))) ?_
  rintro ⟨i, rs, b1, cap1, b2, cap2⟩ ⟨hi, hrs, h0, hl13⟩
  simp only at hi hrs h0 hl13
  have hle := stp_le s.l i
  have hrl : rs.length = (stp s.l i).1.length := by rw [← hrs, List.length_map]
  repeat (first | refine JL.q (by first | (apply OQ.move; exact rfl) | (apply OQ.assign; exact rfl) | (apply OQ.len; exact rfl; exact rfl) | (apply OQ.addN; exact rfl; exact rfl; exact (by (try simp only []); omega)) | (apply OQ.lssN; exact rfl; exact rfl)) rfl ?_ | refine JC.seq ?_ | refine JC.region ?_ | refine JC.block ?_ | refine JC.skip ?_ | refine JC.exit ?_ | refine JL.nil ?_ | refine JE.next ?_ | refine JE.blk_normal ?_ | refine JE.then_exit ?_ | refine JE.blk_hit ?_ | refine JE.blk_miss rfl ?_ | refine JE.then_ret ?_ | refine JE.blk_ret ?_ | refine JC.label ?_ | refine JL.gon rfl rfl ?_ | refine JL.gskip rfl rfl rfl rfl ?_ | refine JL.gskipU rfl rfl rfl rfl ?_)
  refine JC.cond rfl (fun h => ?_) (fun h => ?_)
  · have hi' : i < s.l.length := of_decide_eq_true h
    clear h hi
    obtain ⟨ba, ja, hae, hca⟩ := hs.reads.at (by simp; omega)
    have hc := hca i _ (map_at U8 0 hi')
    have hav : s.v = .slice (some ⟨ba, ja, none⟩) s.l.length s.cap := by rw [← hae]; rfl
    generalize eS : stp s.l i = T at hle hrl hrs hl13 ⊢
    obtain ⟨ls, cur⟩ := T
    simp only at hle hrl hrs hl13
    dsimp only
    rw [hav]
    by_cases c13 : s.l.getD i 0 = 13
    · by_cases hin : i + 1 < s.l.length
      · have hn := hca (i + 1) _ (map_at U8 0 hin)
        by_cases n10 : s.l.getD (i + 1) 0 = 10
        · have hc := c13 ▸ hc
          have hn := n10 ▸ hn
          have eT := stp_line s.l hin c13 n10
          rw [eS] at eT
          repeat (first | refine JL.q (by first | (apply OQ.idxS1; exact Try.underlying22; exact u8s; exact rfl; exact rfl; exact hi') | (apply OQ.load_old; exact u8c; exact rfl; exact (block_lt_of_cell hc); exact (by simp); exact hc) | (apply OQ.eqi_t; exact rfl; exact rfl; exact rfl) | (apply OQ.lssN_t; exact rfl; exact rfl; exact hin) | (apply OQ.idxS1; exact Try.underlying22; exact u8s; exact rfl; exact rfl; exact hin) | (apply OQ.load_old; exact u8c; exact rfl; exact (block_lt_of_cell hn); exact (by simp); exact hn) | (apply OQ.pick_t; exact rfl; exact rfl) | (apply OQ.pick_f; exact rfl; exact rfl) | (apply OQ.move; exact rfl) | (apply OQ.assign; exact rfl) | (apply OQ.len; exact rfl; exact rfl) | (apply OQ.addN; exact rfl; exact rfl; exact (by (try simp only []); omega)) | (apply OQ.lssN; exact rfl; exact rfl)) rfl ?_ | refine JC.seq ?_ | refine JC.region ?_ | refine JC.block ?_ | refine JC.skip ?_ | refine JC.exit ?_ | refine JL.nil ?_ | refine JE.next ?_ | refine JE.blk_normal ?_ | refine JE.then_exit ?_ | refine JE.blk_hit ?_ | refine JE.blk_miss rfl ?_ | refine JE.then_ret ?_ | refine JE.blk_ret ?_ | refine JC.label ?_ | refine JL.gon rfl rfl ?_ | refine JL.gskip rfl rfl rfl rfl ?_ | refine JL.gskipU rfl rfl rfl rfl ?_)
          refine JC.cond_true rfl rfl ?_
          repeat (first | refine JL.q (by first | (apply OQ.move; exact rfl) | (apply OQ.assign; exact rfl) | (apply OQ.len; exact rfl; exact rfl) | (apply OQ.addN; exact rfl; exact rfl; exact (by (try simp only []); omega)) | (apply OQ.lssN; exact rfl; exact rfl)) rfl ?_ | refine JC.seq ?_ | refine JC.region ?_ | refine JC.block ?_ | refine JC.skip ?_ | refine JC.exit ?_ | refine JL.nil ?_ | refine JE.next ?_ | refine JE.blk_normal ?_ | refine JE.then_exit ?_ | refine JE.blk_hit ?_ | refine JE.blk_miss rfl ?_ | refine JE.then_ret ?_ | refine JE.blk_ret ?_ | refine JC.label ?_ | refine JL.gon rfl rfl ?_ | refine JL.gskip rfl rfl rfl rfl ?_ | refine JL.gskipU rfl rfl rfl rfl ?_)
          refine JL.push1 (v := .slice (some ⟨b2, 0, none⟩) cur.length cap2) (xs := rs.map Sl8.v) (fun b' cap' => [⟨b2, Own 5 1 cur.length cap2 (cur.map U8), true⟩, ⟨b', Own 22 1 (rs.length + 1) cap' (rs.map Sl8.v ++ [.slice (some ⟨b2, 0, none⟩) cur.length cap2]), true⟩] ++ flatE rs) Try.underlying24 sle rfl rfl rfl rfl (fun _ => rfl) (by intro _ _; repeat (first | exact Repl.here | apply Repl.there)) (by omega) (by omega) rfl rfl fun bl b' cap' => ?_
          repeat (first | refine JL.q (by first | (apply OQ.move; exact rfl) | (apply OQ.assign; exact rfl) | (apply OQ.len; exact rfl; exact rfl) | (apply OQ.addN; exact rfl; exact rfl; exact (by (try simp only []); omega)) | (apply OQ.lssN; exact rfl; exact rfl)) rfl ?_ | refine JC.seq ?_ | refine JC.region ?_ | refine JC.block ?_ | refine JC.skip ?_ | refine JC.exit ?_ | refine JL.nil ?_ | refine JE.next ?_ | refine JE.blk_normal ?_ | refine JE.then_exit ?_ | refine JE.blk_hit ?_ | refine JE.blk_miss rfl ?_ | refine JE.then_ret ?_ | refine JE.blk_ret ?_ | refine JC.label ?_ | refine JL.gon rfl rfl ?_ | refine JL.gskip rfl rfl rfl rfl ?_ | refine JL.gskipU rfl rfl rfl rfl ?_)
          refine JL.lit0 Try.underlying22 u8e rfl fun b3 _ => ?_
          rw [← hav]
          repeat (first | refine JL.q (by first | (apply OQ.move; exact rfl) | (apply OQ.assign; exact rfl) | (apply OQ.len; exact rfl; exact rfl) | (apply OQ.addN; exact rfl; exact rfl; exact (by (try simp only []); omega)) | (apply OQ.lssN; exact rfl; exact rfl)) rfl ?_ | refine JC.seq ?_ | refine JC.region ?_ | refine JC.block ?_ | refine JC.skip ?_ | refine JC.exit ?_ | refine JL.nil ?_ | refine JE.next ?_ | refine JE.blk_normal ?_ | refine JE.then_exit ?_ | refine JE.blk_hit ?_ | refine JE.blk_miss rfl ?_ | refine JE.then_ret ?_ | refine JE.blk_ret ?_ | refine JC.label ?_ | refine JL.gon rfl rfl ?_ | refine JL.gskip rfl rfl rfl rfl ?_ | refine JL.gskipU rfl rfl rfl rfl ?_)
          refine JE.perm (M' := ⟨b3, Row 5 [], true⟩ :: ⟨b', Own 22 1 (rs.length + 1) cap' (rs.map Sl8.v ++ [.slice (some ⟨b2, 0, none⟩) cur.length cap2]), true⟩ :: (flatE rs ++ [⟨b2, Own 5 1 cur.length cap2 (cur.map U8), true⟩])) (perm3 _ _ _ _) ?_
          refine JE.again (i := (i, rs, b1, cap1, b2, cap2)) (i + 2, rs ++ [⟨some ⟨b2, 0, none⟩, cap2, cur⟩], b', cap', b3, 0) ⟨by show i + 2 ≤ _; omega, ?_, ?_, ?_⟩ (by show s.l.length - (i + 2) < s.l.length - i; omega) ?_ ?_
          · show (rs ++ [_]).map Sl8.l = (stp s.l (i + 2)).1
            rw [eT, List.map_append, hrs]
            rfl
          · intro y hy
            rcases List.mem_append.1 hy with hy | hy
            · exact h0 y hy
            · rw [List.mem_singleton.1 hy]; exact fun e => by cases e
          · show (stp s.l (i + 2)).2.getLast? = some 13 → _
            rw [eT]
            intro e; cases e
          · dsimp only
            rw [eT, List.length_append]
            exact (by repeat (first | exact SubE.nil | refine SubE.cons _ _ _ rfl ?_))
          · dsimp only
            rw [eT, List.length_append, List.map_append]
            refine .keep _ _ _ _ _ _ (row_ownG rfl) (.keep _ _ _ _ _ _ (fun o h => h) ?_)
            exact flat_push rs
        · have hc := c13 ▸ hc
          have eT := stp_push s.l hi' (by rw [eS]; exact hl13)
          rw [eS] at eT
          repeat (first | refine JL.q (by first | (apply OQ.idxS1; exact Try.underlying22; exact u8s; exact rfl; exact rfl; exact hi') | (apply OQ.load_old; exact u8c; exact rfl; exact (block_lt_of_cell hc); exact (by simp); exact hc) | (apply OQ.eqi_t; exact rfl; exact rfl; exact rfl) | (apply OQ.lssN_t; exact rfl; exact rfl; exact hin) | (apply OQ.idxS1; exact Try.underlying22; exact u8s; exact rfl; exact rfl; exact hin) | (apply OQ.load_old; exact u8c; exact rfl; exact (block_lt_of_cell hn); exact (by simp); exact hn) | (apply OQ.eqi_f; exact rfl; exact rfl; exact (by_ne n10)) | (apply OQ.pick_t; exact rfl; exact rfl) | (apply OQ.pick_f; exact rfl; exact rfl) | (apply OQ.move; exact rfl) | (apply OQ.assign; exact rfl) | (apply OQ.len; exact rfl; exact rfl) | (apply OQ.addN; exact rfl; exact rfl; exact (by (try simp only []); omega)) | (apply OQ.lssN; exact rfl; exact rfl)) rfl ?_ | refine JC.seq ?_ | refine JC.region ?_ | refine JC.block ?_ | refine JC.skip ?_ | refine JC.exit ?_ | refine JL.nil ?_ | refine JE.next ?_ | refine JE.blk_normal ?_ | refine JE.then_exit ?_ | refine JE.blk_hit ?_ | refine JE.blk_miss rfl ?_ | refine JE.then_ret ?_ | refine JE.blk_ret ?_ | refine JC.label ?_ | refine JL.gon rfl rfl ?_ | refine JL.gskip rfl rfl rfl rfl ?_ | refine JL.gskipU rfl rfl rfl rfl ?_)
          refine JC.cond_false rfl rfl ?_
          repeat (first | refine JL.q (by first | (apply OQ.idxS1; exact Try.underlying22; exact u8s; exact rfl; exact rfl; exact hi') | (apply OQ.load_old; exact u8c; exact rfl; exact (block_lt_of_cell hc); exact (by simp); exact hc) | (apply OQ.move; exact rfl) | (apply OQ.assign; exact rfl) | (apply OQ.len; exact rfl; exact rfl) | (apply OQ.addN; exact rfl; exact rfl; exact (by (try simp only []); omega)) | (apply OQ.lssN; exact rfl; exact rfl)) rfl ?_ | refine JC.seq ?_ | refine JC.region ?_ | refine JC.block ?_ | refine JC.skip ?_ | refine JC.exit ?_ | refine JL.nil ?_ | refine JE.next ?_ | refine JE.blk_normal ?_ | refine JE.then_exit ?_ | refine JE.blk_hit ?_ | refine JE.blk_miss rfl ?_ | refine JE.then_ret ?_ | refine JE.blk_ret ?_ | refine JC.label ?_ | refine JL.gon rfl rfl ?_ | refine JL.gskip rfl rfl rfl rfl ?_ | refine JL.gskipU rfl rfl rfl rfl ?_)
          rw [c13] at eT
          refine JL.push1 (v := U8 (13)) (xs := cur.map U8) (fun b' cap' => [⟨b', Own 5 1 (cur.length + 1) cap' (cur.map U8 ++ [U8 (13)]), true⟩, ⟨b1, Own 22 1 rs.length cap1 (rs.map Sl8.v), true⟩] ++ flatE rs) Try.underlying22 u8e rfl rfl rfl rfl (fun _ => rfl) (by intro _ _; repeat (first | exact Repl.here | apply Repl.there)) (by omega) (by omega) rfl rfl fun bl b' cap' => ?_
          rw [← hav]
          repeat (first | refine JL.q (by first | (apply OQ.move; exact rfl) | (apply OQ.assign; exact rfl) | (apply OQ.len; exact rfl; exact rfl) | (apply OQ.addN; exact rfl; exact rfl; exact (by (try simp only []); omega)) | (apply OQ.lssN; exact rfl; exact rfl)) rfl ?_ | refine JC.seq ?_ | refine JC.region ?_ | refine JC.block ?_ | refine JC.skip ?_ | refine JC.exit ?_ | refine JL.nil ?_ | refine JE.next ?_ | refine JE.blk_normal ?_ | refine JE.then_exit ?_ | refine JE.blk_hit ?_ | refine JE.blk_miss rfl ?_ | refine JE.then_ret ?_ | refine JE.blk_ret ?_ | refine JC.label ?_ | refine JL.gon rfl rfl ?_ | refine JL.gskip rfl rfl rfl rfl ?_ | refine JL.gskipU rfl rfl rfl rfl ?_)
          refine JE.again (i := (i, rs, b1, cap1, b2, cap2)) (i + 1, rs, b1, cap1, b', cap') ⟨by show i + 1 ≤ _; omega, ?_, h0, ?_⟩ (by show s.l.length - (i + 1) < s.l.length - i; omega) ?_ (.keep _ _ _ _ _ _ (fun o h => ?_) (Less.refl _))
          · show rs.map Sl8.l = (stp s.l (i + 1)).1
            rw [eT]; exact hrs
          · show (stp s.l (i + 1)).2.getLast? = some 13 → s.l.getD (i + 1) 0 ≠ 10
            rw [eT]
            intro e13
            clear e13
            exact n10
          · dsimp only
            rw [eT, List.length_append]
            exact (by repeat (first | exact SubE.nil | refine SubE.cons _ _ _ rfl ?_))
          · dsimp only
            rw [eT, List.length_append, List.map_append]
            exact h
      · have hc := c13 ▸ hc
        have eT := stp_push s.l hi' (by rw [eS]; exact hl13)
        rw [eS] at eT
        repeat (first | refine JL.q (by first | (apply OQ.idxS1; exact Try.underlying22; exact u8s; exact rfl; exact rfl; exact hi') | (apply OQ.load_old; exact u8c; exact rfl; exact (block_lt_of_cell hc); exact (by simp); exact hc) | (apply OQ.eqi_t; exact rfl; exact rfl; exact rfl) | (apply OQ.lssN_f; exact rfl; exact rfl; exact hin) | (apply OQ.pick_t; exact rfl; exact rfl) | (apply OQ.pick_f; exact rfl; exact rfl) | (apply OQ.move; exact rfl) | (apply OQ.assign; exact rfl) | (apply OQ.len; exact rfl; exact rfl) | (apply OQ.addN; exact rfl; exact rfl; exact (by (try simp only []); omega)) | (apply OQ.lssN; exact rfl; exact rfl)) rfl ?_ | refine JC.seq ?_ | refine JC.region ?_ | refine JC.block ?_ | refine JC.skip ?_ | refine JC.exit ?_ | refine JL.nil ?_ | refine JE.next ?_ | refine JE.blk_normal ?_ | refine JE.then_exit ?_ | refine JE.blk_hit ?_ | refine JE.blk_miss rfl ?_ | refine JE.then_ret ?_ | refine JE.blk_ret ?_ | refine JC.label ?_ | refine JL.gon rfl rfl ?_ | refine JL.gskip rfl rfl rfl rfl ?_ | refine JL.gskipU rfl rfl rfl rfl ?_)
        refine JC.cond_false rfl rfl ?_
        repeat (first | refine JL.q (by first | (apply OQ.idxS1; exact Try.underlying22; exact u8s; exact rfl; exact rfl; exact hi') | (apply OQ.load_old; exact u8c; exact rfl; exact (block_lt_of_cell hc); exact (by simp); exact hc) | (apply OQ.move; exact rfl) | (apply OQ.assign; exact rfl) | (apply OQ.len; exact rfl; exact rfl) | (apply OQ.addN; exact rfl; exact rfl; exact (by (try simp only []); omega)) | (apply OQ.lssN; exact rfl; exact rfl)) rfl ?_ | refine JC.seq ?_ | refine JC.region ?_ | refine JC.block ?_ | refine JC.skip ?_ | refine JC.exit ?_ | refine JL.nil ?_ | refine JE.next ?_ | refine JE.blk_normal ?_ | refine JE.then_exit ?_ | refine JE.blk_hit ?_ | refine JE.blk_miss rfl ?_ | refine JE.then_ret ?_ | refine JE.blk_ret ?_ | refine JC.label ?_ | refine JL.gon rfl rfl ?_ | refine JL.gskip rfl rfl rfl rfl ?_ | refine JL.gskipU rfl rfl rfl rfl ?_)
        rw [c13] at eT
        refine JL.push1 (v := U8 (13)) (xs := cur.map U8) (fun b' cap' => [⟨b', Own 5 1 (cur.length + 1) cap' (cur.map U8 ++ [U8 (13)]), true⟩, ⟨b1, Own 22 1 rs.length cap1 (rs.map Sl8.v), true⟩] ++ flatE rs) Try.underlying22 u8e rfl rfl rfl rfl (fun _ => rfl) (by intro _ _; repeat (first | exact Repl.here | apply Repl.there)) (by omega) (by omega) rfl rfl fun bl b' cap' => ?_
        rw [← hav]
        repeat (first | refine JL.q (by first | (apply OQ.move; exact rfl) | (apply OQ.assign; exact rfl) | (apply OQ.len; exact rfl; exact rfl) | (apply OQ.addN; exact rfl; exact rfl; exact (by (try simp only []); omega)) | (apply OQ.lssN; exact rfl; exact rfl)) rfl ?_ | refine JC.seq ?_ | refine JC.region ?_ | refine JC.block ?_ | refine JC.skip ?_ | refine JC.exit ?_ | refine JL.nil ?_ | refine JE.next ?_ | refine JE.blk_normal ?_ | refine JE.then_exit ?_ | refine JE.blk_hit ?_ | refine JE.blk_miss rfl ?_ | refine JE.then_ret ?_ | refine JE.blk_ret ?_ | refine JC.label ?_ | refine JL.gon rfl rfl ?_ | refine JL.gskip rfl rfl rfl rfl ?_ | refine JL.gskipU rfl rfl rfl rfl ?_)
        refine JE.again (i := (i, rs, b1, cap1, b2, cap2)) (i + 1, rs, b1, cap1, b', cap') ⟨by show i + 1 ≤ _; omega, ?_, h0, ?_⟩ (by show s.l.length - (i + 1) < s.l.length - i; omega) ?_ (.keep _ _ _ _ _ _ (fun o h => ?_) (Less.refl _))
        · show rs.map Sl8.l = (stp s.l (i + 1)).1
          rw [eT]; exact hrs
        · show (stp s.l (i + 1)).2.getLast? = some 13 → s.l.getD (i + 1) 0 ≠ 10
          rw [eT]
          intro e13
          clear e13
          rw [List.getD_eq_getElem?_getD, List.getElem?_eq_none (by omega)]; decide
        · dsimp only
          rw [eT, List.length_append]
          exact (by repeat (first | exact SubE.nil | refine SubE.cons _ _ _ rfl ?_))
        · dsimp only
          rw [eT, List.length_append, List.map_append]
          exact h
    · have eT := stp_push s.l hi' (by rw [eS]; exact hl13)
      rw [eS] at eT
      generalize hcc : s.l.getD i 0 = c at hc c13 eT
      repeat (first | refine JL.q (by first | (apply OQ.idxS1; exact Try.underlying22; exact u8s; exact rfl; exact rfl; exact hi') | (apply OQ.load_old; exact u8c; exact rfl; exact (block_lt_of_cell hc); exact (by simp); exact hc) | (apply OQ.eqi_f; exact rfl; exact rfl; exact (by_ne c13)) | (apply OQ.pick_t; exact rfl; exact rfl) | (apply OQ.pick_f; exact rfl; exact rfl) | (apply OQ.move; exact rfl) | (apply OQ.assign; exact rfl) | (apply OQ.len; exact rfl; exact rfl) | (apply OQ.addN; exact rfl; exact rfl; exact (by (try simp only []); omega)) | (apply OQ.lssN; exact rfl; exact rfl)) rfl ?_ | refine JC.seq ?_ | refine JC.region ?_ | refine JC.block ?_ | refine JC.skip ?_ | refine JC.exit ?_ | refine JL.nil ?_ | refine JE.next ?_ | refine JE.blk_normal ?_ | refine JE.then_exit ?_ | refine JE.blk_hit ?_ | refine JE.blk_miss rfl ?_ | refine JE.then_ret ?_ | refine JE.blk_ret ?_ | refine JC.label ?_ | refine JL.gon rfl rfl ?_ | refine JL.gskip rfl rfl rfl rfl ?_ | refine JL.gskipU rfl rfl rfl rfl ?_)
      refine JC.cond_false rfl rfl ?_
      repeat (first | refine JL.q (by first | (apply OQ.idxS1; exact Try.underlying22; exact u8s; exact rfl; exact rfl; exact hi') | (apply OQ.load_old; exact u8c; exact rfl; exact (block_lt_of_cell hc); exact (by simp); exact hc) | (apply OQ.move; exact rfl) | (apply OQ.assign; exact rfl) | (apply OQ.len; exact rfl; exact rfl) | (apply OQ.addN; exact rfl; exact rfl; exact (by (try simp only []); omega)) | (apply OQ.lssN; exact rfl; exact rfl)) rfl ?_ | refine JC.seq ?_ | refine JC.region ?_ | refine JC.block ?_ | refine JC.skip ?_ | refine JC.exit ?_ | refine JL.nil ?_ | refine JE.next ?_ | refine JE.blk_normal ?_ | refine JE.then_exit ?_ | refine JE.blk_hit ?_ | refine JE.blk_miss rfl ?_ | refine JE.then_ret ?_ | refine JE.blk_ret ?_ | refine JC.label ?_ | refine JL.gon rfl rfl ?_ | refine JL.gskip rfl rfl rfl rfl ?_ | refine JL.gskipU rfl rfl rfl rfl ?_)
      refine JL.push1 (v := U8 (c)) (xs := cur.map U8) (fun b' cap' => [⟨b', Own 5 1 (cur.length + 1) cap' (cur.map U8 ++ [U8 (c)]), true⟩, ⟨b1, Own 22 1 rs.length cap1 (rs.map Sl8.v), true⟩] ++ flatE rs) Try.underlying22 u8e rfl rfl rfl rfl (fun _ => rfl) (by intro _ _; repeat (first | exact Repl.here | apply Repl.there)) (by omega) (by omega) rfl rfl fun bl b' cap' => ?_
      rw [← hav]
      repeat (first | refine JL.q (by first | (apply OQ.move; exact rfl) | (apply OQ.assign; exact rfl) | (apply OQ.len; exact rfl; exact rfl) | (apply OQ.addN; exact rfl; exact rfl; exact (by (try simp only []); omega)) | (apply OQ.lssN; exact rfl; exact rfl)) rfl ?_ | refine JC.seq ?_ | refine JC.region ?_ | refine JC.block ?_ | refine JC.skip ?_ | refine JC.exit ?_ | refine JL.nil ?_ | refine JE.next ?_ | refine JE.blk_normal ?_ | refine JE.then_exit ?_ | refine JE.blk_hit ?_ | refine JE.blk_miss rfl ?_ | refine JE.then_ret ?_ | refine JE.blk_ret ?_ | refine JC.label ?_ | refine JL.gon rfl rfl ?_ | refine JL.gskip rfl rfl rfl rfl ?_ | refine JL.gskipU rfl rfl rfl rfl ?_)
      refine JE.again (i := (i, rs, b1, cap1, b2, cap2)) (i + 1, rs, b1, cap1, b', cap') ⟨by show i + 1 ≤ _; omega, ?_, h0, ?_⟩ (by show s.l.length - (i + 1) < s.l.length - i; omega) ?_ (.keep _ _ _ _ _ _ (fun o h => ?_) (Less.refl _))
      · show rs.map Sl8.l = (stp s.l (i + 1)).1
        rw [eT]; exact hrs
      · show (stp s.l (i + 1)).2.getLast? = some 13 → s.l.getD (i + 1) 0 ≠ 10
        rw [eT]
        intro e13
        have e13 : c = 13 := by simpa using e13
        exact absurd e13 c13
      · dsimp only
        rw [eT, List.length_append]
        exact (by repeat (first | exact SubE.nil | refine SubE.cons _ _ _ rfl ?_))
      · dsimp only
        rw [eT, List.length_append, List.map_append]
        exact h
  · have hi' : ¬ i < s.l.length := of_decide_eq_false h
    obtain rfl : i = s.l.length := by omega
    clear h hi hi'
    have eS : stp s.l s.l.length = splB s.l := by unfold stp splB; rw [List.take_length]
    rw [eS] at hrs ⊢
    repeat (first | refine JL.q (by first | (apply OQ.move; exact rfl) | (apply OQ.assign; exact rfl) | (apply OQ.len; exact rfl; exact rfl) | (apply OQ.addN; exact rfl; exact rfl; exact (by (try simp only []); omega)) | (apply OQ.lssN; exact rfl; exact rfl)) rfl ?_ | refine JC.seq ?_ | refine JC.region ?_ | refine JC.block ?_ | refine JC.skip ?_ | refine JC.exit ?_ | refine JL.nil ?_ | refine JE.next ?_ | refine JE.blk_normal ?_ | refine JE.then_exit ?_ | refine JE.blk_hit ?_ | refine JE.blk_miss rfl ?_ | refine JE.then_ret ?_ | refine JE.blk_ret ?_ | refine JC.label ?_ | refine JL.gon rfl rfl ?_ | refine JL.gskip rfl rfl rfl rfl ?_ | refine JL.gskipU rfl rfl rfl rfl ?_)
    refine JC.ret (JE.ret2 rfl (RV.tmp rfl) (RV.tmp rfl) ?_)
    exact fun w' hw => ⟨(⟨some ⟨b1, 0, none⟩, cap1, rs⟩, ⟨some ⟨b2, 0, none⟩, cap2, (splB s.l).2⟩), rfl, hrs, rfl, hw.chg, ownL_ok hw (.there .here) h0, ownb_ok hw .here⟩
end Go.Proofs.Ytnopllkpfdgkkaa
