/-
  Of no statement by itself: armor's Decode, Lines, blank and Read.
  Conditions: each theorem's own.
-/
import Derived.Test.YtdaplnidogkmkaaArmJ
import Derived.Test.YtdaplnidogkmkaaSls
namespace Go.Proofs.Ytdaplnidogkmkaa
open Sl Arm
theorem goes_adec : Goes Try.prog 14 := ⟨_, Try.func14, rfl, by kernel_rfl⟩
theorem goes_alines : Goes Try.prog 12 := ⟨_, Try.func12, rfl, by kernel_rfl⟩
theorem goes_aread : Goes Try.prog 16 := ⟨_, Try.func16, rfl, by kernel_rfl⟩
theorem goes_ablank : Goes Try.prog 21 := ⟨_, Try.func21, rfl, by kernel_rfl⟩
theorem flat_len (F : List Arm.By → List Arm.By) (s : Sl8) (k m : Nat) (hF : ∀ g, g.length ≤ k → (F g).length ≤ m) : ∀ pre : List Nat, (pre.flatMap fun j => F (s.part k j).l).length ≤ m * pre.length
  | [] => by simp
  | j :: pre => by
    have ih := flat_len F s k m hF pre
    have h := hF (s.part k j).l (by show (List.take _ _).length ≤ k; rw [List.length_take]; omega)
    rw [List.flatMap_cons, List.length_append, List.length_cons, Nat.mul_add]
    omega
theorem snocF (F : List Arm.By → List Arm.By) (s : Sl8) (k : Nat) (pre : List Nat) (j : Nat) : (pre ++ [j]).flatMap (fun j => F (s.part k j).l) = pre.flatMap (fun j => F (s.part k j).l) ++ F (s.part k j).l := by simp
theorem ents_cells {s : Sl8} : ∀ e ∈ s.ents, ∀ o, e.A o → o.isCells = true := by
  intro e he o hA
  unfold Sl8.ents at he
  split at he
  · simp only [List.mem_singleton] at he
    subst he
    obtain ⟨⟨_, _, _, rfl, _⟩, _⟩ := hA
    rfl
  · cases he
theorem has_mem {M : List Ent} {b : Nat} {A : Obj → Prop} {wr : Bool} (h : ⟨b, A, wr⟩ ∈ M) : Has M b A wr := by
  induction M with
  | nil => cases h
  | cons e M ih =>
    rcases List.mem_cons.1 h with rfl | h
    · exact .here
    · exact .there (ih h)
theorem Less2.refl : ∀ M, Less2 M M
  | [] => .nil _
  | ⟨_, _, _⟩ :: M => .keep _ _ _ _ _ _ _ (fun _ h => h) (fun h => h) (Less2.refl M)
set_option maxHeartbeats 8000000 in
theorem adec_any (s : List Arm.By) (w : World) (hl : s.length ≤ 20000) : Calls Try.prog 14 [Z s].toArray w
    fun e w' => ∃ x : Sl8, e = .returned (.tuple #[x.v, N (ecode (decB s))]) ∧ Ans x ((decB s).getD []) ∧ Holds w [] x.ents w' := by
  refine enterM (n := 23) Try.func14 rfl rfl rfl (Holds.start w []) ?_
  repeat (first | refine JL.q (by first | (apply OQ.lenS; exact Try.underlying9; exact rfl) | (apply OQ.move; exact rfl) | (apply OQ.assign; exact rfl) | (apply OQ.len; exact rfl; exact rfl) | (apply OQ.addN; exact rfl; exact rfl; exact (by (try simp only []); omega)) | (apply OQ.subN; exact rfl; exact rfl; exact (by (try simp only []); omega); exact (by (try simp only []); omega)) | (apply OQ.mulN; exact rfl; exact rfl; exact (by (try simp only []); omega)) | (apply OQ.quoN; exact rfl; exact rfl; exact (by (try simp only []); omega); exact (by (try simp only []); omega)) | (apply OQ.lssN; exact rfl; exact rfl) | (apply OQ.idxS1; exact rfl; exact rfl; exact rfl; exact rfl; exact (by (try simp only []); omega))) rfl ?_ | refine JC.seq ?_ | refine JC.region ?_ | refine JC.block ?_ | refine JC.skip ?_ | refine JC.exit ?_ | refine JL.nil ?_ | refine JE.next ?_ | refine JE.blk_normal ?_ | refine JE.then_exit ?_ | refine JE.blk_hit ?_ | refine JE.blk_miss rfl ?_ | refine JE.then_ret ?_ | refine JE.blk_ret ?_ | refine JC.label ?_ | refine JL.gon rfl rfl ?_ | refine JL.gskip rfl rfl rfl rfl ?_)
  refine JL.make0 (c := s.length / 4 * 3) Try.underlying22 u8e rfl rfl (by omega) rfl fun b _ => ?_
  refine JL.alloc (r := [.slice none 0 0]) (by kernel_rfl) rfl fun tb _ => ?_
  refine JL.store_eq (r' := [.slice (some ⟨b, 0, none⟩) 0 (s.length / 4 * 3)]) (M' := [⟨tb, Row 22 [.slice (some ⟨b, 0, none⟩) 0 (s.length / 4 * 3)], true⟩, ⟨b, Sl.Own 5 1 0 (s.length / 4 * 3) [], true⟩]) armU rfl rfl rfl rfl .here (by simp) rfl ?_
  repeat (first | refine JL.q (by first | (apply OQ.move; exact rfl) | (apply OQ.assign; exact rfl) | (apply OQ.len; exact rfl; exact rfl) | (apply OQ.addN; exact rfl; exact rfl; exact (by (try simp only []); omega)) | (apply OQ.subN; exact rfl; exact rfl; exact (by (try simp only []); omega); exact (by (try simp only []); omega)) | (apply OQ.mulN; exact rfl; exact rfl; exact (by (try simp only []); omega)) | (apply OQ.quoN; exact rfl; exact rfl; exact (by (try simp only []); omega); exact (by (try simp only []); omega)) | (apply OQ.lssN; exact rfl; exact rfl) | (apply OQ.idxS1; exact rfl; exact rfl; exact rfl; exact rfl; exact (by (try simp only []); omega))) rfl ?_ | refine JC.seq ?_ | refine JC.region ?_ | refine JC.block ?_ | refine JC.skip ?_ | refine JC.exit ?_ | refine JL.nil ?_ | refine JE.next ?_ | refine JE.blk_normal ?_ | refine JE.then_exit ?_ | refine JE.blk_hit ?_ | refine JE.blk_miss rfl ?_ | refine JE.then_ret ?_ | refine JE.blk_ret ?_ | refine JC.label ?_ | refine JL.gon rfl rfl ?_ | refine JL.gskip rfl rfl rfl rfl ?_)
  refine JL.s2b (s := strB s) Try.underlying9 Try.underlying22 Try.underlying5 rfl rfl fun bb capB => ?_
  rw [bytesOf_strB]
  refine JL.callg (vs := [Sl8.v ⟨some ⟨bb, 0, none⟩, capB, s⟩, N 4]) (ι := Nat × Nat) (fun q => .func (.func 23) #[] #[Pt q.1 0, Pt q.2 0]) (fun q => [⟨q.2, Row 3 [N 4], true⟩, ⟨q.1, Row 22 [Sl8.v ⟨some ⟨bb, 0, none⟩, capB, s⟩], true⟩]) goes_groups rfl rfl (by rintro q e he; simp at he; rcases he with rfl | rfl <;> rfl) (fun w' _ => groups_any _ 4 w') ?_
  rintro ⟨b1, b2⟩
  dsimp only
  have hok : ∀ {w0 w' : World} {S : List Nat} {M : List Ent}, Holds w0 S M w' → Has M bb (fun o => hasCells o 0 (s.map U8) ∧ s.length ≤ capB ∧ (none : Option Nat) = none) true → Sl8.ok w' ⟨some ⟨bb, 0, none⟩, capB, s⟩ := fun hw' hM => by
    obtain ⟨o, ho, h1, h2, _⟩ := hw'.get hM
    exact ⟨h2, Reads.block ho h1⟩
  have hlen : (⟨some ⟨bb, 0, none⟩, capB, s⟩ : Sl8).l = s := rfl
  have hpb : ∀ j a, ((⟨some ⟨bb, 0, none⟩, capB, s⟩ : Sl8).part 4 j).ad = some a → a.block = bb := fun j a ha => by
    have ha : (if capB = 4 * j then some (⟨bb, 0, none⟩ : Addr) else some ((⟨bb, 0, none⟩ : Addr).add (4 * j * 1))) = some a := ha
    split at ha
    · cases ha; rfl
    · rw [add_off] at ha; cases ha; rfl
  have hparts : parts ⟨some ⟨bb, 0, none⟩, capB, s⟩ 4 = (s.length + 4 - 1) / 4 := rfl
  have hfl := flat_len dec4 ⟨some ⟨bb, 0, none⟩, capB, s⟩ 4 3 (fun g hg => by rw [dec4_len]; have := lead_le g; omega)
  have hall : (List.range (parts ⟨some ⟨bb, 0, none⟩, capB, s⟩ 4)).flatMap (fun j => dec4 ((⟨some ⟨bb, 0, none⟩, capB, s⟩ : Sl8).part 4 j).l) = fl 4 dec4 s := rfl
  have hsn := snocF dec4 ⟨some ⟨bb, 0, none⟩, capB, s⟩ 4
  have h4 : ∀ j, ((⟨some ⟨bb, 0, none⟩, capB, s⟩ : Sl8).part 4 j).l.length ≤ 4 := fun j => by show (List.take _ _).length ≤ 4; rw [List.length_take]; omega
  have hpo := fun (w' : World) (h : Sl8.ok w' ⟨some ⟨bb, 0, none⟩, capB, s⟩) (j : Nat) => part_ok h 4 j
  have hgs := groups_stops ⟨some ⟨bb, 0, none⟩, capB, s⟩ 4 b1 b2 (by decide)
  have hents : (⟨some ⟨bb, 0, none⟩, capB, s⟩ : Sl8).ents = [⟨bb, fun o => hasCells o 0 (s.map U8) ∧ s.length ≤ capB ∧ (none : Option Nat) = none, true⟩] := rfl
  rw [hents]
  generalize hsrc : (⟨some ⟨bb, 0, none⟩, capB, s⟩ : Sl8) = src at hpb hok hfl hall hsn h4 hpo hgs hparts hlen ⊢
  repeat (first | refine JL.q (by first | (apply OQ.move; exact rfl) | (apply OQ.assign; exact rfl) | (apply OQ.len; exact rfl; exact rfl) | (apply OQ.addN; exact rfl; exact rfl; exact (by (try simp only []); omega)) | (apply OQ.subN; exact rfl; exact rfl; exact (by (try simp only []); omega); exact (by (try simp only []); omega)) | (apply OQ.mulN; exact rfl; exact rfl; exact (by (try simp only []); omega)) | (apply OQ.quoN; exact rfl; exact rfl; exact (by (try simp only []); omega); exact (by (try simp only []); omega)) | (apply OQ.lssN; exact rfl; exact rfl) | (apply OQ.idxS1; exact rfl; exact rfl; exact rfl; exact rfl; exact (by (try simp only []); omega))) rfl ?_ | refine JC.seq ?_ | refine JC.region ?_ | refine JC.block ?_ | refine JC.skip ?_ | refine JC.exit ?_ | refine JL.nil ?_ | refine JE.next ?_ | refine JE.blk_normal ?_ | refine JE.then_exit ?_ | refine JE.blk_hit ?_ | refine JE.blk_miss rfl ?_ | refine JE.then_ret ?_ | refine JE.blk_ret ?_ | refine JC.label ?_ | refine JL.gon rfl rfl ?_ | refine JL.gskip rfl rfl rfl rfl ?_)
  refine JC.range (ι := Nat × Nat × List Nat) (fun j => (src.part 4 j).v) [b1, b2] (fun xs => xs = List.range (parts src 4)) (fun _ => True) (parts src 4)
    (fun q => [⟨b2, Row 3 [N 4], false⟩, ⟨b1, Row 22 [src.v], false⟩, ⟨bb, fun o => hasCells o 0 (s.map U8) ∧ s.length ≤ capB ∧ (none : Option Nat) = none, true⟩, ⟨tb, Row 22 [.slice (some ⟨q.1, 0, none⟩) (q.2.2.flatMap fun j => dec4 (src.part 4 j).l).length q.2.1], true⟩, ⟨q.1, Sl.Own 5 1 (q.2.2.flatMap fun j => dec4 (src.part 4 j).l).length q.2.1 ((q.2.2.flatMap fun j => dec4 (src.part 4 j).l).map U8), true⟩])
    (fun pre q => q.2.2 = pre) rfl (enters_of Try.func23 (by kernel_rfl) rfl) ?hseq ?hcell ?hL (b, s.length / 4 * 3, []) rfl ?hM rfl rfl ?hbody ?hdone
  case hseq =>
    intro W hW
    obtain ⟨o1, h1, h1'⟩ := hW.get (b := b1) (A := Row 22 [src.v]) (wr := true) (by repeat (first | exact Has.here | apply Has.there))
    obtain ⟨o2, h2, h2'⟩ := hW.get (b := b2) (A := Row 3 [N 4]) (wr := true) (by repeat (first | exact Has.here | apply Has.there))
    exact hgs (hok hW (by repeat (first | exact Has.here | apply Has.there))).len (by rw [hlen]; omega) W h1 (Row.cell rfl _ h1') h2 (Row.cell rfl _ h2')
  case hcell =>
    rintro q e he o hA
    simp only [List.mem_cons, List.not_mem_nil, or_false] at he
    rcases he with rfl | rfl | rfl | rfl | rfl
    · exact row_cells o hA
    · exact row_cells o hA
    · obtain ⟨⟨_, _, _, rfl, _⟩, _⟩ := hA
      rfl
    · exact row_cells o hA
    · exact own_cells o hA
  case hL =>
    intro q k hk
    simp only [List.mem_cons, List.not_mem_nil, or_false] at hk
    rcases hk with rfl | rfl
    · exact .inr ⟨_, (by repeat (first | exact Has.here | apply Has.there))⟩
    · exact .inr ⟨_, (by repeat (first | exact Has.here | apply Has.there))⟩
  case hM =>
    intro w' hw'
    exact hw'.weak2 (.keep _ _ _ _ _ _ _ (fun _ h => h) (by simp) (.keep _ _ _ _ _ _ _ (fun _ h => h) (by simp) (Less2.refl _)))
  case hbody =>
    rintro l pre j ⟨b', cap', pre'⟩ w1 rfl hlt hx hge
    dsimp only at hlt hge ⊢
    have hb := hfl pre'
    have hsn' := hsn pre' j
    generalize pre'.flatMap (fun j => dec4 (src.part 4 j).l) = T at hb hsn' ⊢
    repeat (first | refine JL.q (by first | (apply OQ.load; exact armC; exact rfl; exact (by repeat (first | exact Has.here | apply Has.there)); exact (Row.cell rfl)) | (apply OQ.move; exact rfl) | (apply OQ.assign; exact rfl) | (apply OQ.len; exact rfl; exact rfl) | (apply OQ.addN; exact rfl; exact rfl; exact (by (try simp only []); omega)) | (apply OQ.subN; exact rfl; exact rfl; exact (by (try simp only []); omega); exact (by (try simp only []); omega)) | (apply OQ.mulN; exact rfl; exact rfl; exact (by (try simp only []); omega)) | (apply OQ.quoN; exact rfl; exact rfl; exact (by (try simp only []); omega); exact (by (try simp only []); omega)) | (apply OQ.lssN; exact rfl; exact rfl) | (apply OQ.idxS1; exact rfl; exact rfl; exact rfl; exact rfl; exact (by (try simp only []); omega))) rfl ?_ | refine JR.seq ?_ | refine JR.block ?_ | refine JR.region rfl (by first | exact lo_roundQ | exact lo_then lo_roundQ | exact lo_blk lo_roundQ | exact lo_then (lo_blk lo_roundQ)) ?_ | refine JL.nil ?_ | refine JE.nextR ?_ | refine JE.blk_normal ?_)
    refine JL.call (ι := Nat × Nat) (fun q => .slice (some ⟨q.1, 0, none⟩) (T.length + (dec4 (src.part 4 j).l).length) q.2) (fun q => [⟨b2, Row 3 [N 4], false⟩, ⟨b1, Row 22 [src.v], false⟩, ⟨bb, fun o => hasCells o 0 (s.map U8) ∧ s.length ≤ capB ∧ (none : Option Nat) = none, true⟩, ⟨tb, Row 22 [.slice (some ⟨b', 0, none⟩) T.length cap'], true⟩, ⟨q.1, Sl.Own 5 1 (T.length + (dec4 (src.part 4 j).l).length) q.2 ((T ++ dec4 (src.part 4 j).l).map U8), true⟩]) goes_addBytes rfl rfl ?_ ?_
    · intro w' hw'
      obtain ⟨o, ho, hA⟩ := hw'.get (b := b') (wr := true) (A := Sl.Own 5 1 T.length cap' (T.map U8)) (by repeat (first | exact Has.here | apply Has.there))
      refine (addBytes_any b' _ cap' _ (src.part 4 j) w' (hpo w' (hok hw' (by repeat (first | exact Has.here | apply Has.there))) j) (h4 j) ?_ ho hA (by omega)).mono ?_
      · intro hne a ha
        rw [hpb j a ha]
        have := hw'.nodup
        simp only [List.map_cons, List.map_nil, List.nodup_cons, List.mem_cons, List.not_mem_nil, or_false, not_or] at this
        exact this.2.2.1.2
      · rintro e w2 ⟨q, rfl, h2⟩
        exact ⟨q, rfl, hw'.relay (by repeat (first | exact Repl.here | apply Repl.there)) h2⟩
    rintro ⟨b'', cap''⟩
    dsimp only
    refine JL.store_eq (r' := [.slice (some ⟨b'', 0, none⟩) (T.length + (dec4 (src.part 4 j).l).length) cap'']) (M' := [⟨b2, Row 3 [N 4], false⟩, ⟨b1, Row 22 [src.v], false⟩, ⟨bb, fun o => hasCells o 0 (s.map U8) ∧ s.length ≤ capB ∧ (none : Option Nat) = none, true⟩, ⟨tb, Row 22 [.slice (some ⟨b'', 0, none⟩) (T.length + (dec4 (src.part 4 j).l).length) cap''], true⟩, ⟨b'', Sl.Own 5 1 (T.length + (dec4 (src.part 4 j).l).length) cap'' ((T ++ dec4 (src.part 4 j).l).map U8), true⟩]) armU rfl rfl rfl rfl (by repeat (first | exact Upd.here | apply Upd.there)) (by simp) rfl ?_
    repeat (first | refine JL.q (by first | (apply OQ.move; exact rfl) | (apply OQ.assign; exact rfl) | (apply OQ.len; exact rfl; exact rfl) | (apply OQ.addN; exact rfl; exact rfl; exact (by (try simp only []); omega)) | (apply OQ.subN; exact rfl; exact rfl; exact (by (try simp only []); omega); exact (by (try simp only []); omega)) | (apply OQ.mulN; exact rfl; exact rfl; exact (by (try simp only []); omega)) | (apply OQ.quoN; exact rfl; exact rfl; exact (by (try simp only []); omega); exact (by (try simp only []); omega)) | (apply OQ.lssN; exact rfl; exact rfl) | (apply OQ.idxS1; exact rfl; exact rfl; exact rfl; exact rfl; exact (by (try simp only []); omega))) rfl ?_ | refine JR.seq ?_ | refine JR.block ?_ | refine JR.region rfl (by first | exact lo_roundQ | exact lo_then lo_roundQ | exact lo_blk lo_roundQ | exact lo_then (lo_blk lo_roundQ)) ?_ | refine JL.nil ?_ | refine JE.nextR ?_ | refine JE.blk_normal ?_)
    refine JE.round (b'', cap'', pre' ++ [j]) rfl ?_
    dsimp only
    rw [hsn', List.length_append]
    exact Less.refl _
  case hdone =>
    rintro D xs ⟨b', cap', pre⟩ rfl rfl
    dsimp only
    have hb := hfl (List.range (parts src 4))
    rw [List.length_range] at hb
    rw [hall] at hb ⊢
    have hyes := dec_yes (s := s)
    have hno := dec_no (s := s)
    generalize fl 4 dec4 s = Y at hb hyes hno ⊢
    have hY : Y.length ≤ 20000 := by rw [hparts] at hb; omega
    repeat (first | refine KL.q (by first | (apply OQ.load; exact armC; exact rfl; exact (by repeat (first | exact Has.here | apply Has.there)); exact (Row.cell rfl)) | (apply OQ.callx (vs := [Sl8.v ⟨some ⟨b', 0, none⟩, cap', Y⟩]); exact goes_aenc; exact rfl; exact (fun w' hw' => aenc_any ⟨some ⟨b', 0, none⟩, cap', Y⟩ w' (ownb_ok hw' (by repeat (first | exact Has.here | apply Has.there))) hY)) | (apply OQ.neS; exact rfl; exact rfl) | (apply OQ.move; exact rfl) | (apply OQ.assign; exact rfl) | (apply OQ.len; exact rfl; exact rfl) | (apply OQ.addN; exact rfl; exact rfl; exact (by (try simp only []); omega)) | (apply OQ.subN; exact rfl; exact rfl; exact (by (try simp only []); omega); exact (by (try simp only []); omega)) | (apply OQ.mulN; exact rfl; exact rfl; exact (by (try simp only []); omega)) | (apply OQ.quoN; exact rfl; exact rfl; exact (by (try simp only []); omega); exact (by (try simp only []); omega)) | (apply OQ.lssN; exact rfl; exact rfl) | (apply OQ.idxS1; exact rfl; exact rfl; exact rfl; exact rfl; exact (by (try simp only []); omega))) rfl ?_ | refine KC.seq ?_ | refine KC.region ?_ | refine KC.skip ?_ | refine KL.nil ?_ | refine KE.next ?_ | refine KE.blk_normal ?_ | refine KE.then_ret ?_)
    refine KC.cond rfl (fun h => ?_) (fun h => ?_)
    · have hne : ¬ encB Y = s := by simpa using h
      rw [hno hne]
      repeat (first | refine KL.q (by first | (apply OQ.move; exact rfl) | (apply OQ.assign; exact rfl) | (apply OQ.len; exact rfl; exact rfl) | (apply OQ.addN; exact rfl; exact rfl; exact (by (try simp only []); omega)) | (apply OQ.subN; exact rfl; exact rfl; exact (by (try simp only []); omega); exact (by (try simp only []); omega)) | (apply OQ.mulN; exact rfl; exact rfl; exact (by (try simp only []); omega)) | (apply OQ.quoN; exact rfl; exact rfl; exact (by (try simp only []); omega); exact (by (try simp only []); omega)) | (apply OQ.lssN; exact rfl; exact rfl) | (apply OQ.idxS1; exact rfl; exact rfl; exact rfl; exact rfl; exact (by (try simp only []); omega))) rfl ?_ | refine KC.seq ?_ | refine KC.region ?_ | refine KC.skip ?_ | refine KL.nil ?_ | refine KE.next ?_ | refine KE.blk_normal ?_ | refine KE.then_ret ?_)
      refine KC.ret ?_
      repeat (first | refine KL.q (by first | (apply OQ.move; exact rfl) | (apply OQ.assign; exact rfl) | (apply OQ.len; exact rfl; exact rfl) | (apply OQ.addN; exact rfl; exact rfl; exact (by (try simp only []); omega)) | (apply OQ.subN; exact rfl; exact rfl; exact (by (try simp only []); omega); exact (by (try simp only []); omega)) | (apply OQ.mulN; exact rfl; exact rfl; exact (by (try simp only []); omega)) | (apply OQ.quoN; exact rfl; exact rfl; exact (by (try simp only []); omega); exact (by (try simp only []); omega)) | (apply OQ.lssN; exact rfl; exact rfl) | (apply OQ.idxS1; exact rfl; exact rfl; exact rfl; exact rfl; exact (by (try simp only []); omega))) rfl ?_ | refine KC.seq ?_ | refine KC.region ?_ | refine KC.skip ?_ | refine KL.nil ?_ | refine KE.next ?_ | refine KE.blk_normal ?_ | refine KE.then_ret ?_)
      exact KE.ret2 rfl rfl rfl fun w' hw => ⟨nilS, rfl, ⟨rfl, fun _ => rfl⟩, hw.weak (.nil _)⟩
    · have hne : encB Y = s := by simpa using h
      rw [hyes hne]
      repeat (first | refine KL.q (by first | (apply OQ.load; exact armC; exact rfl; exact (by repeat (first | exact Has.here | apply Has.there)); exact (Row.cell rfl)) | (apply OQ.move; exact rfl) | (apply OQ.assign; exact rfl) | (apply OQ.len; exact rfl; exact rfl) | (apply OQ.addN; exact rfl; exact rfl; exact (by (try simp only []); omega)) | (apply OQ.subN; exact rfl; exact rfl; exact (by (try simp only []); omega); exact (by (try simp only []); omega)) | (apply OQ.mulN; exact rfl; exact rfl; exact (by (try simp only []); omega)) | (apply OQ.quoN; exact rfl; exact rfl; exact (by (try simp only []); omega); exact (by (try simp only []); omega)) | (apply OQ.lssN; exact rfl; exact rfl) | (apply OQ.idxS1; exact rfl; exact rfl; exact rfl; exact rfl; exact (by (try simp only []); omega))) rfl ?_ | refine KC.seq ?_ | refine KC.region ?_ | refine KC.skip ?_ | refine KL.nil ?_ | refine KE.next ?_ | refine KE.blk_normal ?_ | refine KE.then_ret ?_)
      refine KC.ret ?_
      repeat (first | refine KL.q (by first | (apply OQ.move; exact rfl) | (apply OQ.assign; exact rfl) | (apply OQ.len; exact rfl; exact rfl) | (apply OQ.addN; exact rfl; exact rfl; exact (by (try simp only []); omega)) | (apply OQ.subN; exact rfl; exact rfl; exact (by (try simp only []); omega); exact (by (try simp only []); omega)) | (apply OQ.mulN; exact rfl; exact rfl; exact (by (try simp only []); omega)) | (apply OQ.quoN; exact rfl; exact rfl; exact (by (try simp only []); omega); exact (by (try simp only []); omega)) | (apply OQ.lssN; exact rfl; exact rfl) | (apply OQ.idxS1; exact rfl; exact rfl; exact rfl; exact rfl; exact (by (try simp only []); omega))) rfl ?_ | refine KC.seq ?_ | refine KC.region ?_ | refine KC.skip ?_ | refine KL.nil ?_ | refine KE.next ?_ | refine KE.blk_normal ?_ | refine KE.then_ret ?_)
      exact KE.ret2 rfl rfl rfl fun w' hw => ⟨⟨some ⟨b', 0, none⟩, cap', Y⟩, rfl, ⟨rfl, by simp⟩, hw.weak (.drop _ _ _ (.drop _ _ _ (.drop _ _ _ (.drop _ _ _ own_ents))))⟩
set_option maxHeartbeats 8000000 in
theorem alines_any (s : Sl8) (w : World) (hs : s.ok w) (hl : s.l.length ≤ 20000) : Calls Try.prog 12 [s.v].toArray w
    fun e w' => ∃ x : Sl8, e = .returned x.v ∧ Ans x (linesB s.l) ∧ Holds w [] x.ents w' := by
  have hel : (encB s.l).length ≤ 40000 := by rw [encB_len]; omega
  rw [← fl_lines]
  refine enterM (n := 26) Try.func12 rfl rfl rfl (Holds.start w []) ?_
  repeat (first | refine JL.q (by first | (apply OQ.move; exact rfl) | (apply OQ.assign; exact rfl) | (apply OQ.len; exact rfl; exact rfl) | (apply OQ.addN; exact rfl; exact rfl; exact (by (try simp only []); omega)) | (apply OQ.subN; exact rfl; exact rfl; exact (by (try simp only []); omega); exact (by (try simp only []); omega)) | (apply OQ.mulN; exact rfl; exact rfl; exact (by (try simp only []); omega)) | (apply OQ.quoN; exact rfl; exact rfl; exact (by (try simp only []); omega); exact (by (try simp only []); omega)) | (apply OQ.lssN; exact rfl; exact rfl) | (apply OQ.idxS1; exact rfl; exact rfl; exact rfl; exact rfl; exact (by (try simp only []); omega))) rfl ?_ | refine JC.seq ?_ | refine JC.region ?_ | refine JC.block ?_ | refine JC.skip ?_ | refine JC.exit ?_ | refine JL.nil ?_ | refine JE.next ?_ | refine JE.blk_normal ?_ | refine JE.then_exit ?_ | refine JE.blk_hit ?_ | refine JE.blk_miss rfl ?_ | refine JE.then_ret ?_ | refine JE.blk_ret ?_ | refine JC.label ?_ | refine JL.gon rfl rfl ?_ | refine JL.gskip rfl rfl rfl rfl ?_)
  refine JL.callg (ι := { x : Sl8 // Ans x (encB s.l) }) (fun x => x.1.v) (fun x => x.1.ents) goes_encoded rfl rfl (fun x => x.1.ents_wr) (fun w' hw' => (encoded_any s w' (hs.holds hw' rfl) (by omega)).mono fun e w2 ⟨x, h1, h2, h3⟩ => ⟨⟨x, h2⟩, h1, h3⟩) ?_
  rintro ⟨x, hx⟩
  dsimp only
  have hxl : x.l.length ≤ 40000 := by rw [hx.val]; exact hel
  rw [← hx.val]
  repeat (first | refine JL.q (by first | (apply OQ.move; exact rfl) | (apply OQ.assign; exact rfl) | (apply OQ.len; exact rfl; exact rfl) | (apply OQ.addN; exact rfl; exact rfl; exact (by (try simp only []); omega)) | (apply OQ.subN; exact rfl; exact rfl; exact (by (try simp only []); omega); exact (by (try simp only []); omega)) | (apply OQ.mulN; exact rfl; exact rfl; exact (by (try simp only []); omega)) | (apply OQ.quoN; exact rfl; exact rfl; exact (by (try simp only []); omega); exact (by (try simp only []); omega)) | (apply OQ.lssN; exact rfl; exact rfl) | (apply OQ.idxS1; exact rfl; exact rfl; exact rfl; exact rfl; exact (by (try simp only []); omega))) rfl ?_ | refine JC.seq ?_ | refine JC.region ?_ | refine JC.block ?_ | refine JC.skip ?_ | refine JC.exit ?_ | refine JL.nil ?_ | refine JE.next ?_ | refine JE.blk_normal ?_ | refine JE.then_exit ?_ | refine JE.blk_hit ?_ | refine JE.blk_miss rfl ?_ | refine JE.then_ret ?_ | refine JE.blk_ret ?_ | refine JC.label ?_ | refine JL.gon rfl rfl ?_ | refine JL.gskip rfl rfl rfl rfl ?_)
  refine JL.make0 (c := x.l.length + (x.l.length / 76 + 1) * 2) Try.underlying22 u8e rfl rfl (by omega) rfl fun b _ => ?_
  refine JL.alloc (r := [.slice none 0 0]) (by kernel_rfl) rfl fun tb _ => ?_
  refine JL.store_eq (r' := [.slice (some ⟨b, 0, none⟩) 0 (x.l.length + (x.l.length / 76 + 1) * 2)]) (M' := ⟨tb, Row 22 [.slice (some ⟨b, 0, none⟩) 0 (x.l.length + (x.l.length / 76 + 1) * 2)], true⟩ :: ⟨b, Sl.Own 5 1 0 (x.l.length + (x.l.length / 76 + 1) * 2) [], true⟩ :: (x.ents ++ [])) armU rfl rfl rfl rfl .here (by simp) rfl ?_
  repeat (first | refine JL.q (by first | (apply OQ.move; exact rfl) | (apply OQ.assign; exact rfl) | (apply OQ.len; exact rfl; exact rfl) | (apply OQ.addN; exact rfl; exact rfl; exact (by (try simp only []); omega)) | (apply OQ.subN; exact rfl; exact rfl; exact (by (try simp only []); omega); exact (by (try simp only []); omega)) | (apply OQ.mulN; exact rfl; exact rfl; exact (by (try simp only []); omega)) | (apply OQ.quoN; exact rfl; exact rfl; exact (by (try simp only []); omega); exact (by (try simp only []); omega)) | (apply OQ.lssN; exact rfl; exact rfl) | (apply OQ.idxS1; exact rfl; exact rfl; exact rfl; exact rfl; exact (by (try simp only []); omega))) rfl ?_ | refine JC.seq ?_ | refine JC.region ?_ | refine JC.block ?_ | refine JC.skip ?_ | refine JC.exit ?_ | refine JL.nil ?_ | refine JE.next ?_ | refine JE.blk_normal ?_ | refine JE.then_exit ?_ | refine JE.blk_hit ?_ | refine JE.blk_miss rfl ?_ | refine JE.then_ret ?_ | refine JE.blk_ret ?_ | refine JC.label ?_ | refine JL.gon rfl rfl ?_ | refine JL.gskip rfl rfl rfl rfl ?_)
  refine JL.callg (vs := [x.v, N 76]) (ι := Nat × Nat) (fun q => .func (.func 23) #[] #[Pt q.1 0, Pt q.2 0]) (fun q => [⟨q.2, Row 3 [N 76], true⟩, ⟨q.1, Row 22 [x.v], true⟩]) goes_groups rfl rfl (by rintro q e he; simp at he; rcases he with rfl | rfl <;> rfl) (fun w' _ => groups_any _ 76 w') ?_
  rintro ⟨b1, b2⟩
  dsimp only
  have hok : ∀ {w0 w' : World} {S : List Nat} (e1 e2 e3 e4 : Ent), Holds w0 S (e1 :: e2 :: e3 :: e4 :: (x.ents ++ [])) w' → x.ok w' := fun e1 e2 e3 e4 hw' => hx.ok (M := []) (hw'.weak (.drop _ _ _ (.drop _ _ _ (.drop _ _ _ (.drop _ _ _ (Less.refl _))))))
  have hfl := flat_len ln76 x 76 78 (fun g hg => by rw [ln76, List.length_append]; exact Nat.add_le_add hg (Nat.le_refl 2))
  have hall : (List.range (parts x 76)).flatMap (fun j => ln76 (x.part 76 j).l) = fl 76 ln76 x.l := rfl
  have hsn := snocF ln76 x 76
  have hparts : parts x 76 ≤ 600 := by unfold parts; omega
  repeat (first | refine JL.q (by first | (apply OQ.move; exact rfl) | (apply OQ.assign; exact rfl) | (apply OQ.len; exact rfl; exact rfl) | (apply OQ.addN; exact rfl; exact rfl; exact (by (try simp only []); omega)) | (apply OQ.subN; exact rfl; exact rfl; exact (by (try simp only []); omega); exact (by (try simp only []); omega)) | (apply OQ.mulN; exact rfl; exact rfl; exact (by (try simp only []); omega)) | (apply OQ.quoN; exact rfl; exact rfl; exact (by (try simp only []); omega); exact (by (try simp only []); omega)) | (apply OQ.lssN; exact rfl; exact rfl) | (apply OQ.idxS1; exact rfl; exact rfl; exact rfl; exact rfl; exact (by (try simp only []); omega))) rfl ?_ | refine JC.seq ?_ | refine JC.region ?_ | refine JC.block ?_ | refine JC.skip ?_ | refine JC.exit ?_ | refine JL.nil ?_ | refine JE.next ?_ | refine JE.blk_normal ?_ | refine JE.then_exit ?_ | refine JE.blk_hit ?_ | refine JE.blk_miss rfl ?_ | refine JE.then_ret ?_ | refine JE.blk_ret ?_ | refine JC.label ?_ | refine JL.gon rfl rfl ?_ | refine JL.gskip rfl rfl rfl rfl ?_)
  refine JC.range (ι := Nat × Nat × List Nat) (fun j => (x.part 76 j).v) [b1, b2] (fun xs => xs = List.range (parts x 76)) (fun _ => True) (parts x 76)
    (fun q => ⟨b2, Row 3 [N 76], false⟩ :: ⟨b1, Row 22 [x.v], false⟩ :: ⟨tb, Row 22 [.slice (some ⟨q.1, 0, none⟩) (q.2.2.flatMap fun j => ln76 (x.part 76 j).l).length q.2.1], true⟩ :: ⟨q.1, Sl.Own 5 1 (q.2.2.flatMap fun j => ln76 (x.part 76 j).l).length q.2.1 ((q.2.2.flatMap fun j => ln76 (x.part 76 j).l).map U8), true⟩ :: (x.ents ++ []))
    (fun pre q => q.2.2 = pre) rfl (enters_of Try.func23 (by kernel_rfl) rfl) ?hseq ?hcell ?hL (b, x.l.length + (x.l.length / 76 + 1) * 2, []) rfl ?hM rfl rfl ?hbody ?hdone
  case hseq =>
    intro W hW
    obtain ⟨o1, h1, h1'⟩ := hW.get (b := b1) (A := Row 22 [x.v]) (wr := true) (by repeat (first | exact Has.here | apply Has.there))
    obtain ⟨o2, h2, h2'⟩ := hW.get (b := b2) (A := Row 3 [N 76]) (wr := true) (by repeat (first | exact Has.here | apply Has.there))
    exact groups_stops x 76 b1 b2 (by decide) (hok _ _ _ _ hW).len (by omega) W h1 (Row.cell rfl _ h1') h2 (Row.cell rfl _ h2')
  case hcell =>
    rintro q e he o hA
    simp only [List.mem_cons, List.append_nil] at he
    rcases he with rfl | rfl | rfl | rfl | he
    · exact row_cells o hA
    · exact row_cells o hA
    · exact row_cells o hA
    · exact own_cells o hA
    · exact ents_cells e he o hA
  case hL =>
    intro q k hk
    simp only [List.mem_cons, List.not_mem_nil, or_false] at hk
    rcases hk with rfl | rfl
    · exact .inr ⟨_, (by repeat (first | exact Has.here | apply Has.there))⟩
    · exact .inr ⟨_, (by repeat (first | exact Has.here | apply Has.there))⟩
  case hM =>
    intro w' hw'
    exact hw'.weak2 (.keep _ _ _ _ _ _ _ (fun _ h => h) (by simp) (.keep _ _ _ _ _ _ _ (fun _ h => h) (by simp) (Less2.refl _)))
  case hbody =>
    rintro l pre j ⟨b', cap', pre'⟩ w1 rfl hlt hx1 hge
    dsimp only at hlt hge ⊢
    have hb := hfl pre'
    have hsn' := hsn pre' j
    have hpl : (x.part 76 j).l.length ≤ 76 := by show (List.take _ _).length ≤ 76; rw [List.length_take]; omega
    generalize pre'.flatMap (fun j => ln76 (x.part 76 j).l) = T at hb hsn' ⊢
    repeat (first | refine JL.q (by first | (apply OQ.load; exact armC; exact rfl; exact (by repeat (first | exact Has.here | apply Has.there)); exact (Row.cell rfl)) | (apply OQ.move; exact rfl) | (apply OQ.assign; exact rfl) | (apply OQ.len; exact rfl; exact rfl) | (apply OQ.addN; exact rfl; exact rfl; exact (by (try simp only []); omega)) | (apply OQ.subN; exact rfl; exact rfl; exact (by (try simp only []); omega); exact (by (try simp only []); omega)) | (apply OQ.mulN; exact rfl; exact rfl; exact (by (try simp only []); omega)) | (apply OQ.quoN; exact rfl; exact rfl; exact (by (try simp only []); omega); exact (by (try simp only []); omega)) | (apply OQ.lssN; exact rfl; exact rfl) | (apply OQ.idxS1; exact rfl; exact rfl; exact rfl; exact rfl; exact (by (try simp only []); omega))) rfl ?_ | refine JR.seq ?_ | refine JR.block ?_ | refine JR.region rfl (by first | exact lo_roundQ | exact lo_then lo_roundQ | exact lo_blk lo_roundQ | exact lo_then (lo_blk lo_roundQ)) ?_ | refine JL.nil ?_ | refine JE.nextR ?_ | refine JE.blk_normal ?_)
    refine JL.append (cs := (x.part 76 j).l.map U8) (m := (x.part 76 j).l.length) (ad := (x.part 76 j).ad) (sc := (x.part 76 j).cap) (xs := T.map U8) (fun b'' cap'' => ⟨b2, Row 3 [N 76], false⟩ :: ⟨b1, Row 22 [x.v], false⟩ :: ⟨tb, Row 22 [.slice (some ⟨b', 0, none⟩) T.length cap'], true⟩ :: ⟨b'', Sl.Own 5 1 (T.length + (x.part 76 j).l.length) cap'' (T.map U8 ++ (x.part 76 j).l.map U8), true⟩ :: (x.ents ++ [])) Try.underlying22 u8e rfl rfl (by intro _ _; repeat (first | exact Repl.here | apply Repl.there)) (by simp) (fun w' hw' => (part_ok (hok _ _ _ _ hw') 76 j).reads) (all8B _) rfl (by decide) (by omega) (by omega) rfl fun b'' cap'' => ?_
    refine JL.store_eq (r' := [.slice (some ⟨b'', 0, none⟩) (T.length + (x.part 76 j).l.length) cap'']) (M' := ⟨b2, Row 3 [N 76], false⟩ :: ⟨b1, Row 22 [x.v], false⟩ :: ⟨tb, Row 22 [.slice (some ⟨b'', 0, none⟩) (T.length + (x.part 76 j).l.length) cap''], true⟩ :: ⟨b'', Sl.Own 5 1 (T.length + (x.part 76 j).l.length) cap'' (T.map U8 ++ (x.part 76 j).l.map U8), true⟩ :: (x.ents ++ [])) armU rfl rfl rfl rfl (by repeat (first | exact Upd.here | apply Upd.there)) (by simp) rfl ?_
    repeat (first | refine JL.q (by first | (apply OQ.load; exact armC; exact rfl; exact (by repeat (first | exact Has.here | apply Has.there)); exact (Row.cell rfl)) | (apply OQ.move; exact rfl) | (apply OQ.assign; exact rfl) | (apply OQ.len; exact rfl; exact rfl) | (apply OQ.addN; exact rfl; exact rfl; exact (by (try simp only []); omega)) | (apply OQ.subN; exact rfl; exact rfl; exact (by (try simp only []); omega); exact (by (try simp only []); omega)) | (apply OQ.mulN; exact rfl; exact rfl; exact (by (try simp only []); omega)) | (apply OQ.quoN; exact rfl; exact rfl; exact (by (try simp only []); omega); exact (by (try simp only []); omega)) | (apply OQ.lssN; exact rfl; exact rfl) | (apply OQ.idxS1; exact rfl; exact rfl; exact rfl; exact rfl; exact (by (try simp only []); omega))) rfl ?_ | refine JR.seq ?_ | refine JR.block ?_ | refine JR.region rfl (by first | exact lo_roundQ | exact lo_then lo_roundQ | exact lo_blk lo_roundQ | exact lo_then (lo_blk lo_roundQ)) ?_ | refine JL.nil ?_ | refine JE.nextR ?_ | refine JE.blk_normal ?_)
    refine JL.appendS (r := [13, 10]) (xs := T.map U8 ++ (x.part 76 j).l.map U8) (fun b3 cap3 => ⟨b2, Row 3 [N 76], false⟩ :: ⟨b1, Row 22 [x.v], false⟩ :: ⟨tb, Row 22 [.slice (some ⟨b'', 0, none⟩) (T.length + (x.part 76 j).l.length) cap''], true⟩ :: ⟨b3, Sl.Own 5 1 (T.length + (x.part 76 j).l.length + 2) cap3 (T.map U8 ++ (x.part 76 j).l.map U8 ++ ([13, 10] : List Bt).map U8), true⟩ :: (x.ents ++ [])) Try.underlying22 Try.underlying9 u8e rfl rfl (by intro _ _; repeat (first | exact Repl.here | apply Repl.there)) (by show _ + 2 ≤ _; omega) rfl fun b3 cap3 => ?_
    refine JL.store_eq (r' := [.slice (some ⟨b3, 0, none⟩) (T.length + (x.part 76 j).l.length + 2) cap3]) (M' := ⟨b2, Row 3 [N 76], false⟩ :: ⟨b1, Row 22 [x.v], false⟩ :: ⟨tb, Row 22 [.slice (some ⟨b3, 0, none⟩) (T.length + (x.part 76 j).l.length + 2) cap3], true⟩ :: ⟨b3, Sl.Own 5 1 (T.length + (x.part 76 j).l.length + 2) cap3 (T.map U8 ++ (x.part 76 j).l.map U8 ++ ([13, 10] : List Bt).map U8), true⟩ :: (x.ents ++ [])) armU rfl rfl rfl rfl (by repeat (first | exact Upd.here | apply Upd.there)) (by simp) rfl ?_
    repeat (first | refine JL.q (by first | (apply OQ.move; exact rfl) | (apply OQ.assign; exact rfl) | (apply OQ.len; exact rfl; exact rfl) | (apply OQ.addN; exact rfl; exact rfl; exact (by (try simp only []); omega)) | (apply OQ.subN; exact rfl; exact rfl; exact (by (try simp only []); omega); exact (by (try simp only []); omega)) | (apply OQ.mulN; exact rfl; exact rfl; exact (by (try simp only []); omega)) | (apply OQ.quoN; exact rfl; exact rfl; exact (by (try simp only []); omega); exact (by (try simp only []); omega)) | (apply OQ.lssN; exact rfl; exact rfl) | (apply OQ.idxS1; exact rfl; exact rfl; exact rfl; exact rfl; exact (by (try simp only []); omega))) rfl ?_ | refine JR.seq ?_ | refine JR.block ?_ | refine JR.region rfl (by first | exact lo_roundQ | exact lo_then lo_roundQ | exact lo_blk lo_roundQ | exact lo_then (lo_blk lo_roundQ)) ?_ | refine JL.nil ?_ | refine JE.nextR ?_ | refine JE.blk_normal ?_)
    refine JE.round (b3, cap3, pre' ++ [j]) rfl ?_
    dsimp only
    rw [hsn', ln76, List.length_append, List.length_append, List.append_assoc, ← List.map_append, ← List.map_append]
    exact Less.refl _
  case hdone =>
    rintro D xs ⟨b', cap', pre⟩ rfl rfl
    dsimp only
    rw [hall]
    generalize fl 76 ln76 x.l = Y
    repeat (first | refine KL.q (by first | (apply OQ.load; exact armC; exact rfl; exact (by repeat (first | exact Has.here | apply Has.there)); exact (Row.cell rfl)) | (apply OQ.move; exact rfl) | (apply OQ.assign; exact rfl) | (apply OQ.len; exact rfl; exact rfl) | (apply OQ.addN; exact rfl; exact rfl; exact (by (try simp only []); omega)) | (apply OQ.subN; exact rfl; exact rfl; exact (by (try simp only []); omega); exact (by (try simp only []); omega)) | (apply OQ.mulN; exact rfl; exact rfl; exact (by (try simp only []); omega)) | (apply OQ.quoN; exact rfl; exact rfl; exact (by (try simp only []); omega); exact (by (try simp only []); omega)) | (apply OQ.lssN; exact rfl; exact rfl) | (apply OQ.idxS1; exact rfl; exact rfl; exact rfl; exact rfl; exact (by (try simp only []); omega))) rfl ?_ | refine KC.seq ?_ | refine KC.region ?_ | refine KC.skip ?_ | refine KL.nil ?_ | refine KE.next ?_ | refine KE.blk_normal ?_ | refine KE.then_ret ?_)
    refine KC.ret ?_
    exact KE.ret1 rfl rfl fun w' hw => ⟨⟨some ⟨b', 0, none⟩, cap', Y⟩, rfl, ⟨rfl, by simp⟩, hw.weak (.drop _ _ _ (.drop _ _ _ (.drop _ _ _ (.keep _ _ _ _ _ _ (fun o h => ⟨Sl.Own.cells o h, by obtain ⟨_, _, _, _, h4⟩ := h; exact h4, rfl⟩) (.nil _)))))⟩
/-! ### blanks -/
theorem ablank_any (c : Bt) (w : World) : Calls Try.prog 21 [U8 c].toArray w fun e w' => e = .returned (.bool (Arm.blank c)) ∧ Ext w w' := by
  refine enter (n := 17) Try.func21 rfl rfl rfl (Holds.start w []) ?_
  by_cases h1 : c = 32
  · subst h1
    repeat (first | refine JL.q (by first | (apply OQ.eqi_t; exact rfl; exact rfl; exact rfl) | (apply OQ.pick_t; exact rfl; exact rfl) | (apply OQ.move; exact rfl) | (apply OQ.assign; exact rfl) | (apply OQ.len; exact rfl; exact rfl) | (apply OQ.addN; exact rfl; exact rfl; exact (by (try simp only []); omega)) | (apply OQ.subN; exact rfl; exact rfl; exact (by (try simp only []); omega); exact (by (try simp only []); omega)) | (apply OQ.mulN; exact rfl; exact rfl; exact (by (try simp only []); omega)) | (apply OQ.quoN; exact rfl; exact rfl; exact (by (try simp only []); omega); exact (by (try simp only []); omega)) | (apply OQ.lssN; exact rfl; exact rfl) | (apply OQ.idxS1; exact rfl; exact rfl; exact rfl; exact rfl; exact (by (try simp only []); omega))) rfl ?_ | refine JC.seq ?_ | refine JC.region ?_ | refine JC.block ?_ | refine JC.skip ?_ | refine JC.exit ?_ | refine JL.nil ?_ | refine JE.next ?_ | refine JE.blk_normal ?_ | refine JE.then_exit ?_ | refine JE.blk_hit ?_ | refine JE.blk_miss rfl ?_ | refine JE.then_ret ?_ | refine JE.blk_ret ?_ | refine JC.label ?_ | refine JL.gon rfl rfl ?_ | refine JL.gskip rfl rfl rfl rfl ?_)
    exact JC.ret (JE.ret1 rfl (RV.tmp rfl) fun w' hw => ⟨rfl, hw.chg⟩)
  by_cases h2 : c = 9
  · subst h2
    repeat (first | refine JL.q (by first | (apply OQ.eqi_f; exact rfl; exact rfl; exact (by decide)) | (apply OQ.eqi_t; exact rfl; exact rfl; exact rfl) | (apply OQ.pick_t; exact rfl; exact rfl) | (apply OQ.pick_f; exact rfl; exact rfl) | (apply OQ.move; exact rfl) | (apply OQ.assign; exact rfl) | (apply OQ.len; exact rfl; exact rfl) | (apply OQ.addN; exact rfl; exact rfl; exact (by (try simp only []); omega)) | (apply OQ.subN; exact rfl; exact rfl; exact (by (try simp only []); omega); exact (by (try simp only []); omega)) | (apply OQ.mulN; exact rfl; exact rfl; exact (by (try simp only []); omega)) | (apply OQ.quoN; exact rfl; exact rfl; exact (by (try simp only []); omega); exact (by (try simp only []); omega)) | (apply OQ.lssN; exact rfl; exact rfl) | (apply OQ.idxS1; exact rfl; exact rfl; exact rfl; exact rfl; exact (by (try simp only []); omega))) rfl ?_ | refine JC.seq ?_ | refine JC.region ?_ | refine JC.block ?_ | refine JC.skip ?_ | refine JC.exit ?_ | refine JL.nil ?_ | refine JE.next ?_ | refine JE.blk_normal ?_ | refine JE.then_exit ?_ | refine JE.blk_hit ?_ | refine JE.blk_miss rfl ?_ | refine JE.then_ret ?_ | refine JE.blk_ret ?_ | refine JC.label ?_ | refine JL.gon rfl rfl ?_ | refine JL.gskip rfl rfl rfl rfl ?_)
    exact JC.ret (JE.ret1 rfl (RV.tmp rfl) fun w' hw => ⟨rfl, hw.chg⟩)
  by_cases h3 : c = 13
  · subst h3
    repeat (first | refine JL.q (by first | (apply OQ.eqi_f; exact rfl; exact rfl; exact (by decide)) | (apply OQ.eqi_t; exact rfl; exact rfl; exact rfl) | (apply OQ.pick_t; exact rfl; exact rfl) | (apply OQ.pick_f; exact rfl; exact rfl) | (apply OQ.move; exact rfl) | (apply OQ.assign; exact rfl) | (apply OQ.len; exact rfl; exact rfl) | (apply OQ.addN; exact rfl; exact rfl; exact (by (try simp only []); omega)) | (apply OQ.subN; exact rfl; exact rfl; exact (by (try simp only []); omega); exact (by (try simp only []); omega)) | (apply OQ.mulN; exact rfl; exact rfl; exact (by (try simp only []); omega)) | (apply OQ.quoN; exact rfl; exact rfl; exact (by (try simp only []); omega); exact (by (try simp only []); omega)) | (apply OQ.lssN; exact rfl; exact rfl) | (apply OQ.idxS1; exact rfl; exact rfl; exact rfl; exact rfl; exact (by (try simp only []); omega))) rfl ?_ | refine JC.seq ?_ | refine JC.region ?_ | refine JC.block ?_ | refine JC.skip ?_ | refine JC.exit ?_ | refine JL.nil ?_ | refine JE.next ?_ | refine JE.blk_normal ?_ | refine JE.then_exit ?_ | refine JE.blk_hit ?_ | refine JE.blk_miss rfl ?_ | refine JE.then_ret ?_ | refine JE.blk_ret ?_ | refine JC.label ?_ | refine JL.gon rfl rfl ?_ | refine JL.gskip rfl rfl rfl rfl ?_)
    exact JC.ret (JE.ret1 rfl (RV.tmp rfl) fun w' hw => ⟨rfl, hw.chg⟩)
  by_cases h4 : c = 10
  · subst h4
    repeat (first | refine JL.q (by first | (apply OQ.eqi_f; exact rfl; exact rfl; exact (by decide)) | (apply OQ.eqi_t; exact rfl; exact rfl; exact rfl) | (apply OQ.pick_t; exact rfl; exact rfl) | (apply OQ.pick_f; exact rfl; exact rfl) | (apply OQ.move; exact rfl) | (apply OQ.assign; exact rfl) | (apply OQ.len; exact rfl; exact rfl) | (apply OQ.addN; exact rfl; exact rfl; exact (by (try simp only []); omega)) | (apply OQ.subN; exact rfl; exact rfl; exact (by (try simp only []); omega); exact (by (try simp only []); omega)) | (apply OQ.mulN; exact rfl; exact rfl; exact (by (try simp only []); omega)) | (apply OQ.quoN; exact rfl; exact rfl; exact (by (try simp only []); omega); exact (by (try simp only []); omega)) | (apply OQ.lssN; exact rfl; exact rfl) | (apply OQ.idxS1; exact rfl; exact rfl; exact rfl; exact rfl; exact (by (try simp only []); omega))) rfl ?_ | refine JC.seq ?_ | refine JC.region ?_ | refine JC.block ?_ | refine JC.skip ?_ | refine JC.exit ?_ | refine JL.nil ?_ | refine JE.next ?_ | refine JE.blk_normal ?_ | refine JE.then_exit ?_ | refine JE.blk_hit ?_ | refine JE.blk_miss rfl ?_ | refine JE.then_ret ?_ | refine JE.blk_ret ?_ | refine JC.label ?_ | refine JL.gon rfl rfl ?_ | refine JL.gskip rfl rfl rfl rfl ?_)
    exact JC.ret (JE.ret1 rfl (RV.tmp rfl) fun w' hw => ⟨rfl, hw.chg⟩)
  have e : Arm.blank c = false := by
    simp only [Arm.blank, Bool.or_eq_false_iff, beq_eq_false_iff_ne]
    exact ⟨⟨⟨h1, h2⟩, h3⟩, h4⟩
  rw [e]
  repeat (first | refine JL.q (by first | (apply OQ.eqi_f; exact rfl; exact rfl; exact (by_ne h1)) | (apply OQ.eqi_f; exact rfl; exact rfl; exact (by_ne h2)) | (apply OQ.eqi_f; exact rfl; exact rfl; exact (by_ne h3)) | (apply OQ.eqi_f; exact rfl; exact rfl; exact (by_ne h4)) | (apply OQ.pick_f; exact rfl; exact rfl) | (apply OQ.move; exact rfl) | (apply OQ.assign; exact rfl) | (apply OQ.len; exact rfl; exact rfl) | (apply OQ.addN; exact rfl; exact rfl; exact (by (try simp only []); omega)) | (apply OQ.subN; exact rfl; exact rfl; exact (by (try simp only []); omega); exact (by (try simp only []); omega)) | (apply OQ.mulN; exact rfl; exact rfl; exact (by (try simp only []); omega)) | (apply OQ.quoN; exact rfl; exact rfl; exact (by (try simp only []); omega); exact (by (try simp only []); omega)) | (apply OQ.lssN; exact rfl; exact rfl) | (apply OQ.idxS1; exact rfl; exact rfl; exact rfl; exact rfl; exact (by (try simp only []); omega))) rfl ?_ | refine JC.seq ?_ | refine JC.region ?_ | refine JC.block ?_ | refine JC.skip ?_ | refine JC.exit ?_ | refine JL.nil ?_ | refine JE.next ?_ | refine JE.blk_normal ?_ | refine JE.then_exit ?_ | refine JE.blk_hit ?_ | refine JE.blk_miss rfl ?_ | refine JE.then_ret ?_ | refine JE.blk_ret ?_ | refine JC.label ?_ | refine JL.gon rfl rfl ?_ | refine JL.gskip rfl rfl rfl rfl ?_)
  exact JC.ret (JE.ret1 rfl (RV.tmp rfl) fun w' hw => ⟨rfl, hw.chg⟩)
theorem bare_le (l : List Arm.By) : (bare l).length ≤ l.length := List.length_filter_le ..
set_option maxHeartbeats 8000000 in
theorem aread_any (s : Sl8) (w : World) (hs : s.ok w) (hl : s.l.length ≤ 20000) : Calls Try.prog 16 [s.v].toArray w
    fun e w' => ∃ x : Sl8, e = .returned (.tuple #[x.v, N (ecode (decB (bare s.l)))]) ∧ Ans x ((decB (bare s.l)).getD []) ∧ Holds w [] x.ents w' := by
  refine enter (n := 29) Try.func16 rfl rfl rfl (Holds.start w []) ?_
  repeat (first | refine JL.q (by first | (apply OQ.move; exact rfl) | (apply OQ.assign; exact rfl) | (apply OQ.len; exact rfl; exact rfl) | (apply OQ.addN; exact rfl; exact rfl; exact (by (try simp only []); omega)) | (apply OQ.subN; exact rfl; exact rfl; exact (by (try simp only []); omega); exact (by (try simp only []); omega)) | (apply OQ.mulN; exact rfl; exact rfl; exact (by (try simp only []); omega)) | (apply OQ.quoN; exact rfl; exact rfl; exact (by (try simp only []); omega); exact (by (try simp only []); omega)) | (apply OQ.lssN; exact rfl; exact rfl) | (apply OQ.idxS1; exact rfl; exact rfl; exact rfl; exact rfl; exact (by (try simp only []); omega))) rfl ?_ | refine JC.seq ?_ | refine JC.region ?_ | refine JC.block ?_ | refine JC.skip ?_ | refine JC.exit ?_ | refine JL.nil ?_ | refine JE.next ?_ | refine JE.blk_normal ?_ | refine JE.then_exit ?_ | refine JE.blk_hit ?_ | refine JE.blk_miss rfl ?_ | refine JE.then_ret ?_ | refine JE.blk_ret ?_ | refine JC.label ?_ | refine JL.gon rfl rfl ?_ | refine JL.gskip rfl rfl rfl rfl ?_)
  refine JL.make0 (c := s.l.length) Try.underlying22 u8e rfl rfl (by omega) rfl fun b _ => ?_
  repeat (first | refine JL.q (by first | (apply OQ.move; exact rfl) | (apply OQ.assign; exact rfl) | (apply OQ.len; exact rfl; exact rfl) | (apply OQ.addN; exact rfl; exact rfl; exact (by (try simp only []); omega)) | (apply OQ.subN; exact rfl; exact rfl; exact (by (try simp only []); omega); exact (by (try simp only []); omega)) | (apply OQ.mulN; exact rfl; exact rfl; exact (by (try simp only []); omega)) | (apply OQ.quoN; exact rfl; exact rfl; exact (by (try simp only []); omega); exact (by (try simp only []); omega)) | (apply OQ.lssN; exact rfl; exact rfl) | (apply OQ.idxS1; exact rfl; exact rfl; exact rfl; exact rfl; exact (by (try simp only []); omega))) rfl ?_ | refine JC.seq ?_ | refine JC.region ?_ | refine JC.block ?_ | refine JC.skip ?_ | refine JC.exit ?_ | refine JL.nil ?_ | refine JE.next ?_ | refine JE.blk_normal ?_ | refine JE.then_exit ?_ | refine JE.blk_hit ?_ | refine JE.blk_miss rfl ?_ | refine JE.then_ret ?_ | refine JE.blk_ret ?_ | refine JC.label ?_ | refine JL.gon rfl rfl ?_ | refine JL.gskip rfl rfl rfl rfl ?_)
  refine JC.loop (fun q : Nat × Nat × Nat => [(4, .slice (some ⟨q.2.1, 0, none⟩) (bare (s.l.take q.1)).length q.2.2), (10, s.v), (11, N s.l.length), (12, N q.1)])
    (fun q => [⟨q.2.1, Sl.Own 5 1 (bare (s.l.take q.1)).length q.2.2 ((bare (s.l.take q.1)).map U8), true⟩])
    (fun q => s.l.length - q.1) (fun q => q.1 ≤ s.l.length) (0, b, s.l.length) (Nat.zero_le _) (by repeat (first | exact SubE.nil | refine SubE.cons _ _ _ rfl ?_)) (.keep _ _ _ _ _ _ (fun o h => h) (.nil _)) ?_
  rintro ⟨i, b', cap'⟩ hi
  simp only at hi
  dsimp only
  repeat (first | refine JL.q (by first | (apply OQ.move; exact rfl) | (apply OQ.assign; exact rfl) | (apply OQ.len; exact rfl; exact rfl) | (apply OQ.addN; exact rfl; exact rfl; exact (by (try simp only []); omega)) | (apply OQ.subN; exact rfl; exact rfl; exact (by (try simp only []); omega); exact (by (try simp only []); omega)) | (apply OQ.mulN; exact rfl; exact rfl; exact (by (try simp only []); omega)) | (apply OQ.quoN; exact rfl; exact rfl; exact (by (try simp only []); omega); exact (by (try simp only []); omega)) | (apply OQ.lssN; exact rfl; exact rfl) | (apply OQ.idxS1; exact rfl; exact rfl; exact rfl; exact rfl; exact (by (try simp only []); omega))) rfl ?_ | refine JC.seq ?_ | refine JC.region ?_ | refine JC.block ?_ | refine JC.skip ?_ | refine JC.exit ?_ | refine JL.nil ?_ | refine JE.next ?_ | refine JE.blk_normal ?_ | refine JE.then_exit ?_ | refine JE.blk_hit ?_ | refine JE.blk_miss rfl ?_ | refine JE.then_ret ?_ | refine JE.blk_ret ?_ | refine JC.label ?_ | refine JL.gon rfl rfl ?_ | refine JL.gskip rfl rfl rfl rfl ?_)
  refine JC.cond rfl (fun h => ?_) (fun h => ?_)
  · have hi' : i < s.l.length := of_decide_eq_true h
    clear h hi
    obtain ⟨ba, ja, hae, hca⟩ := hs.reads.at (by simp; omega)
    have hc := hca i _ (map_at U8 0 hi')
    have hav : s.v = .slice (some ⟨ba, ja, none⟩) s.l.length s.cap := by rw [← hae]; rfl
    have hbt := bare_take s.l hi'
    have hTl : (bare (s.l.take i)).length ≤ 20000 := Nat.le_trans (bare_le _) (by rw [List.length_take]; omega)
    generalize bare (s.l.take i) = T at hbt hTl ⊢
    generalize s.l.getD i 0 = c at hc hbt
    rw [hav]
    repeat (first | refine JL.q (by first | (apply OQ.idxS1; exact Try.underlying22; exact u8s; exact rfl; exact rfl; exact hi') | (apply OQ.load_old; exact u8c; exact rfl; exact (block_lt_of_cell hc); exact (by simp); exact hc) | (apply OQ.callx (vs := [U8 c]); exact goes_ablank; exact rfl; exact (fun w' _ => ablank_any c w')) | (apply OQ.not; exact rfl) | (apply OQ.move; exact rfl) | (apply OQ.assign; exact rfl) | (apply OQ.len; exact rfl; exact rfl) | (apply OQ.addN; exact rfl; exact rfl; exact (by (try simp only []); omega)) | (apply OQ.subN; exact rfl; exact rfl; exact (by (try simp only []); omega); exact (by (try simp only []); omega)) | (apply OQ.mulN; exact rfl; exact rfl; exact (by (try simp only []); omega)) | (apply OQ.quoN; exact rfl; exact rfl; exact (by (try simp only []); omega); exact (by (try simp only []); omega)) | (apply OQ.lssN; exact rfl; exact rfl) | (apply OQ.idxS1; exact rfl; exact rfl; exact rfl; exact rfl; exact (by (try simp only []); omega))) rfl ?_ | refine JC.seq ?_ | refine JC.region ?_ | refine JC.block ?_ | refine JC.skip ?_ | refine JC.exit ?_ | refine JL.nil ?_ | refine JE.next ?_ | refine JE.blk_normal ?_ | refine JE.then_exit ?_ | refine JE.blk_hit ?_ | refine JE.blk_miss rfl ?_ | refine JE.then_ret ?_ | refine JE.blk_ret ?_ | refine JC.label ?_ | refine JL.gon rfl rfl ?_ | refine JL.gskip rfl rfl rfl rfl ?_)
    refine JC.cond rfl (fun h => ?_) (fun h => ?_)
    · have hb : ¬ Arm.blank c = true := by simpa using h
      clear h
      rw [if_neg hb] at hbt
      repeat (first | refine JL.q (by first | (apply OQ.move; exact rfl) | (apply OQ.assign; exact rfl) | (apply OQ.len; exact rfl; exact rfl) | (apply OQ.addN; exact rfl; exact rfl; exact (by (try simp only []); omega)) | (apply OQ.subN; exact rfl; exact rfl; exact (by (try simp only []); omega); exact (by (try simp only []); omega)) | (apply OQ.mulN; exact rfl; exact rfl; exact (by (try simp only []); omega)) | (apply OQ.quoN; exact rfl; exact rfl; exact (by (try simp only []); omega); exact (by (try simp only []); omega)) | (apply OQ.lssN; exact rfl; exact rfl) | (apply OQ.idxS1; exact rfl; exact rfl; exact rfl; exact rfl; exact (by (try simp only []); omega))) rfl ?_ | refine JC.seq ?_ | refine JC.region ?_ | refine JC.block ?_ | refine JC.skip ?_ | refine JC.exit ?_ | refine JL.nil ?_ | refine JE.next ?_ | refine JE.blk_normal ?_ | refine JE.then_exit ?_ | refine JE.blk_hit ?_ | refine JE.blk_miss rfl ?_ | refine JE.then_ret ?_ | refine JE.blk_ret ?_ | refine JC.label ?_ | refine JL.gon rfl rfl ?_ | refine JL.gskip rfl rfl rfl rfl ?_)
      refine JL.push1 (xs := T.map U8) (v := U8 c) (fun b'' cap'' => [⟨b'', Sl.Own 5 1 (T.length + 1) cap'' (T.map U8 ++ [U8 c]), true⟩]) Try.underlying22 u8e rfl rfl rfl rfl (fun _ => rfl) (by intro _ _; repeat (first | exact Repl.here | apply Repl.there)) (by omega) (by omega) rfl rfl fun bl b'' cap'' => ?_
      rw [← hav]
      repeat (first | refine JL.q (by first | (apply OQ.move; exact rfl) | (apply OQ.assign; exact rfl) | (apply OQ.len; exact rfl; exact rfl) | (apply OQ.addN; exact rfl; exact rfl; exact (by (try simp only []); omega)) | (apply OQ.subN; exact rfl; exact rfl; exact (by (try simp only []); omega); exact (by (try simp only []); omega)) | (apply OQ.mulN; exact rfl; exact rfl; exact (by (try simp only []); omega)) | (apply OQ.quoN; exact rfl; exact rfl; exact (by (try simp only []); omega); exact (by (try simp only []); omega)) | (apply OQ.lssN; exact rfl; exact rfl) | (apply OQ.idxS1; exact rfl; exact rfl; exact rfl; exact rfl; exact (by (try simp only []); omega))) rfl ?_ | refine JC.seq ?_ | refine JC.region ?_ | refine JC.block ?_ | refine JC.skip ?_ | refine JC.exit ?_ | refine JL.nil ?_ | refine JE.next ?_ | refine JE.blk_normal ?_ | refine JE.then_exit ?_ | refine JE.blk_hit ?_ | refine JE.blk_miss rfl ?_ | refine JE.then_ret ?_ | refine JE.blk_ret ?_ | refine JC.label ?_ | refine JL.gon rfl rfl ?_ | refine JL.gskip rfl rfl rfl rfl ?_)
      refine JE.again (i := (i, b', cap')) (i + 1, b'', cap'') hi' (by show s.l.length - (i + 1) < s.l.length - i; omega) ?_ ?_
      · dsimp only
        rw [hbt, List.length_append]
        exact (by repeat (first | exact SubE.nil | refine SubE.cons _ _ _ rfl ?_))
      · dsimp only
        rw [hbt, List.length_append, List.map_append]
        exact Less.refl _
    · have hb : Arm.blank c = true := by simpa using h
      clear h
      rw [if_pos hb, List.append_nil] at hbt
      rw [← hbt, ← hav]
      repeat (first | refine JL.q (by first | (apply OQ.move; exact rfl) | (apply OQ.assign; exact rfl) | (apply OQ.len; exact rfl; exact rfl) | (apply OQ.addN; exact rfl; exact rfl; exact (by (try simp only []); omega)) | (apply OQ.subN; exact rfl; exact rfl; exact (by (try simp only []); omega); exact (by (try simp only []); omega)) | (apply OQ.mulN; exact rfl; exact rfl; exact (by (try simp only []); omega)) | (apply OQ.quoN; exact rfl; exact rfl; exact (by (try simp only []); omega); exact (by (try simp only []); omega)) | (apply OQ.lssN; exact rfl; exact rfl) | (apply OQ.idxS1; exact rfl; exact rfl; exact rfl; exact rfl; exact (by (try simp only []); omega))) rfl ?_ | refine JC.seq ?_ | refine JC.region ?_ | refine JC.block ?_ | refine JC.skip ?_ | refine JC.exit ?_ | refine JL.nil ?_ | refine JE.next ?_ | refine JE.blk_normal ?_ | refine JE.then_exit ?_ | refine JE.blk_hit ?_ | refine JE.blk_miss rfl ?_ | refine JE.then_ret ?_ | refine JE.blk_ret ?_ | refine JC.label ?_ | refine JL.gon rfl rfl ?_ | refine JL.gskip rfl rfl rfl rfl ?_)
      exact JE.again (i := (i, b', cap')) (i + 1, b', cap') hi' (by show s.l.length - (i + 1) < s.l.length - i; omega) (by repeat (first | exact SubE.nil | refine SubE.cons _ _ _ rfl ?_)) (Less.refl _)
  · have hi' : ¬ i < s.l.length := of_decide_eq_false h
    obtain rfl : i = s.l.length := by omega
    clear h hi hi'
    rw [List.take_length]
    have hTl : (bare s.l).length ≤ 20000 := Nat.le_trans (bare_le _) hl
    generalize bare s.l = T at hTl ⊢
    repeat (first | refine JL.q (by first | (apply OQ.b2s (s := ⟨some ⟨b', 0, none⟩, cap', T⟩); exact Try.underlying22; exact Try.underlying5; exact Try.underlying9; exact rfl; exact (fun w' hw' => ownb_ok hw' .here)) | (apply OQ.move; exact rfl) | (apply OQ.assign; exact rfl) | (apply OQ.len; exact rfl; exact rfl) | (apply OQ.addN; exact rfl; exact rfl; exact (by (try simp only []); omega)) | (apply OQ.subN; exact rfl; exact rfl; exact (by (try simp only []); omega); exact (by (try simp only []); omega)) | (apply OQ.mulN; exact rfl; exact rfl; exact (by (try simp only []); omega)) | (apply OQ.quoN; exact rfl; exact rfl; exact (by (try simp only []); omega); exact (by (try simp only []); omega)) | (apply OQ.lssN; exact rfl; exact rfl) | (apply OQ.idxS1; exact rfl; exact rfl; exact rfl; exact rfl; exact (by (try simp only []); omega))) rfl ?_ | refine JC.seq ?_ | refine JC.region ?_ | refine JC.block ?_ | refine JC.skip ?_ | refine JC.exit ?_ | refine JL.nil ?_ | refine JE.next ?_ | refine JE.blk_normal ?_ | refine JE.then_exit ?_ | refine JE.blk_hit ?_ | refine JE.blk_miss rfl ?_ | refine JE.then_ret ?_ | refine JE.blk_ret ?_ | refine JC.label ?_ | refine JL.gon rfl rfl ?_ | refine JL.gskip rfl rfl rfl rfl ?_)
    refine JL.callg (vs := [Z T]) (ι := { x : Sl8 // Ans x ((decB T).getD []) }) (fun x => .tuple #[x.1.v, N (ecode (decB T))]) (fun x => x.1.ents) goes_adec rfl rfl (fun x => x.1.ents_wr) (fun w' _ => (adec_any T w' hTl).mono fun e w2 ⟨x, h1, h2, h3⟩ => ⟨⟨x, h2⟩, h1, h3⟩) ?_
    rintro ⟨x, hx⟩
    dsimp only
    repeat (first | refine JL.q (by first | (apply OQ.extract; exact rfl; exact rfl) | (apply OQ.move; exact rfl) | (apply OQ.assign; exact rfl) | (apply OQ.len; exact rfl; exact rfl) | (apply OQ.addN; exact rfl; exact rfl; exact (by (try simp only []); omega)) | (apply OQ.subN; exact rfl; exact rfl; exact (by (try simp only []); omega); exact (by (try simp only []); omega)) | (apply OQ.mulN; exact rfl; exact rfl; exact (by (try simp only []); omega)) | (apply OQ.quoN; exact rfl; exact rfl; exact (by (try simp only []); omega); exact (by (try simp only []); omega)) | (apply OQ.lssN; exact rfl; exact rfl) | (apply OQ.idxS1; exact rfl; exact rfl; exact rfl; exact rfl; exact (by (try simp only []); omega))) rfl ?_ | refine JC.seq ?_ | refine JC.region ?_ | refine JC.block ?_ | refine JC.skip ?_ | refine JC.exit ?_ | refine JL.nil ?_ | refine JE.next ?_ | refine JE.blk_normal ?_ | refine JE.then_exit ?_ | refine JE.blk_hit ?_ | refine JE.blk_miss rfl ?_ | refine JE.then_ret ?_ | refine JE.blk_ret ?_ | refine JC.label ?_ | refine JL.gon rfl rfl ?_ | refine JL.gskip rfl rfl rfl rfl ?_)
    refine JC.ret ?_
    refine JE.ret2 rfl (RV.tmp rfl) (RV.tmp rfl) ?_
    exact fun w' hw => ⟨x, rfl, hx, hw.weak (less_pre _ _)⟩
end Go.Proofs.Ytdaplnidogkmkaa
