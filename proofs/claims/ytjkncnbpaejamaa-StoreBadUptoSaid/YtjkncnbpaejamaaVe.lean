/-
  Of no statement by itself: the texts JrnV, JrnX, JrnY, JrnZ, JrnHa, JrnHb, JrnHc, StoAf in one.
  Conditions: each theorem's own.
-/
import Derived.Test.YtjkncnbpaejamaaVd
set_option linter.unusedSimpArgs false
set_option linter.unusedVariables false
/-
  Of no statement by itself: the reference's Blocks (how many), Room.
  Conditions: each theorem's own.
-/
namespace Go.Proofs.Ytjkncnbpaejamaa
set_option maxRecDepth 10000
open Sl Dsk Jrn
section
variable {P : Program} {n : Nat} {E : Env} {C : World → Prop} {dst : Option Tmp} {t t' ty : TypeId} {pos : String} {aft : Array Edge} {g : Option (Nat × Bool)} {x y : Operand}
theorem OQ.shrN {a m : Nat} {yk : IntKind} {k : Nat} (hm : (2 : Int) ^ k = (m : Int)) (hk : k ≤ 64) (hx : ev E x = some (N a)) (hy : ev E y = some (.int yk k)) : OQ P n E C ⟨dst, .binOp .shr t x y t', ty, pos, aft, g⟩ (N (a / m)) :=
  OQ.to (OQ.shrI (a := (a : Int)) hm hk hx hy) (by show Value.int .i64 ((a : Int) / (m : Int)) = .int .i64 ((a / m : Nat) : Int); rw [Int.natCast_ediv])
end
theorem set_bc {x : Bk} {i : Nat} {v : Bt} : (bc x).set i (U8 v) = bc (x.set i v) := by simp [bc, List.map_set]
theorem goes_rblocks : Goes Try.prog 21 := ⟨_, Try.func21, rfl, by kernel_rfl⟩
theorem u8sj : szT Try.prog 5 = some 1 := by kernel_rfl
set_option maxHeartbeats 64000000 in
theorem rblen_any (gen rec : Nat) (s : Sl8) (w : World) (hs : s.ok w) (hl : s.l.length ≤ 2000000) : Calls Try.prog 21 [N gen, N rec, s.v].toArray w fun e w' => ∃ z : {z : (Nat × Nat) × List Bk // z.2.length = nb s.l.length}, e = .returned (accV (some z.1.1) (bcs z.1.2).length) ∧ Holds w [] (accC 51 64 (some z.1.1) (bcs z.1.2)) w' := by
  have hcl := hs.len
  refine enter (n := 110) Try.func21 rfl rfl rfl (Holds.start w []) ?_
  repeat (first | refine JL.q (by (apply OQ.assign; exact rfl)) rfl ?_ | refine JC.seq ?_ | refine JC.region ?_ | refine JL.nil ?_ | refine JE.next ?_)
  refine JL.litZ Try.underlying48 dkI rfl fun b0 _ => ?_
  repeat (first | refine JL.q (by (apply OQ.assign; exact rfl)) rfl ?_ | refine JC.seq ?_ | refine JC.region ?_ | refine JC.block ?_ | refine JL.nil ?_ | refine JE.next ?_)
  refine JC.loop (fun z : Nat × (Nat × Nat) × List Bk => [(0, N gen), (1, N rec), (2, s.v), (7, accV (some z.2.1) (bcs z.2.2).length), (8, N (z.1 * 42))]) (fun z => accC 51 64 (some z.2.1) (bcs z.2.2)) (fun z => nb s.l.length - z.1) (fun z => z.1 ≤ nb s.l.length ∧ z.2.2.length = z.1) (0, (b0, 0), []) ⟨Nat.zero_le _, rfl⟩ (by repeat (first | exact SubE.nil | refine SubE.cons _ _ _ rfl ?_)) (Less.refl _) ?_
  rintro ⟨k, q, L⟩ ⟨hk, hL⟩
  dsimp only at hk hL ⊢
  have hnb := nb_le s.l.length
  have hbn := bcs_n L
  by_cases hk' : k < nb s.l.length
  case neg =>
    have e1 : decide (((k * 42 : Nat) : Int) < (s.l.length : Int)) = false := decide_eq_false (by omega)
    have e2 : decide (((k * 42 : Nat) : Int) = 0) = false := decide_eq_false (by have := nb_pos s.l.length; omega)
    repeat (first | refine JL.q (by first | (apply OQ.len (k := s.l.length) (ad := s.ad) (cap := s.cap); exact Try.underlying33; exact rfl) | (apply OQ.lssB; exact rfl; exact rfl; exact e1) | (apply OQ.eqB (b := 0); exact rfl; exact rfl; exact e2) | (apply OQ.pick_f; exact rfl; exact rfl) | (apply OQ.move; exact rfl)) rfl ?_ | refine JC.seq ?_ | refine JC.region ?_ | refine JL.nil ?_ | refine JE.next ?_ | refine JL.gon rfl rfl ?_)
    refine JC.cond_false rfl rfl ?_
    repeat (first | refine JL.q (by first | (apply OQ.move; exact rfl) | (apply OQ.assign; exact rfl)) rfl ?_ | refine JC.seq ?_ | refine JC.region ?_ | refine JC.exit ?_ | refine JL.nil ?_ | refine JE.next ?_ | refine JE.then_exit ?_ | refine JE.blk_hit ?_)
    refine JC.ret ?_
    skip
    exact JE.ret1 rfl (RV.tmp rfl) fun w' hw => ⟨⟨(q, L), by show L.length = _; omega⟩, rfl, hw⟩
  case pos =>
    have hlo := nb_at hk'
    have hgo : (decide (((k * 42 : Nat) : Int) < (s.l.length : Int)) = true) ∨ (decide (((k * 42 : Nat) : Int) < (s.l.length : Int)) = false ∧ decide (((k * 42 : Nat) : Int) = 0) = true) := by
      by_cases h : k * 42 < s.l.length
      · exact .inl (decide_eq_true (by omega))
      · refine .inr ⟨decide_eq_false (by omega), decide_eq_true ?_⟩
        unfold nb at hk'
        omega
    refine JC.mid (ι := Unit) (fun _ => [(0, N gen), (1, N rec), (2, s.v), (7, accV (some q) (bcs L).length), (8, N (k * 42))]) (fun _ => accC 51 64 (some q) (bcs L)) (fun _ => True) ?_ ?_
    · rcases hgo with e1 | ⟨e1, e2⟩
      · repeat (first | refine JL.q (by first | (apply OQ.len (k := s.l.length) (ad := s.ad) (cap := s.cap); exact Try.underlying33; exact rfl) | (apply OQ.lssB; exact rfl; exact rfl; exact e1) | (apply OQ.pick_t; exact rfl; exact rfl) | (apply OQ.move; exact rfl)) rfl ?_ | refine JC.seq ?_ | refine JC.region ?_ | refine JL.nil ?_ | refine JE.next ?_ | refine JL.gskip rfl rfl rfl rfl ?_)
        refine JC.cond_true rfl rfl ?_
        repeat (refine JC.skip ?_)
        exact JE.mid () trivial (by repeat (first | exact SubE.nil | refine SubE.cons _ _ _ rfl ?_)) (Less.refl _)
      · repeat (first | refine JL.q (by first | (apply OQ.len (k := s.l.length) (ad := s.ad) (cap := s.cap); exact Try.underlying33; exact rfl) | (apply OQ.lssB; exact rfl; exact rfl; exact e1) | (apply OQ.eqB (b := 0); exact rfl; exact rfl; exact e2) | (apply OQ.pick_f; exact rfl; exact rfl) | (apply OQ.move; exact rfl)) rfl ?_ | refine JC.seq ?_ | refine JC.region ?_ | refine JL.nil ?_ | refine JE.next ?_ | refine JL.gon rfl rfl ?_)
        refine JC.cond_true rfl rfl ?_
        repeat (refine JC.skip ?_)
        exact JE.mid () trivial (by repeat (first | exact SubE.nil | refine SubE.cons _ _ _ rfl ?_)) (Less.refl _)
    rintro _ _
    have e9 : decide (((s.snd (k * 42)).l.length : Int) ≤ 42) = decide (s.l.length - k * 42 ≤ 42) := decide_eq_decide.2 (by show ((s.l.drop (k * 42)).length : Int) ≤ 42 ↔ _; rw [List.length_drop]; omega)
    repeat (first | refine JL.q (by first | (apply OQ.snd (s := s) (m := k * 42); exact Try.underlying33; exact u8sj; exact rfl; exact rfl; exact hlo) | (apply OQ.len (k := (s.snd (k * 42)).l.length) (ad := (s.snd (k * 42)).ad) (cap := (s.snd (k * 42)).cap); exact Try.underlying33; exact rfl) | (apply OQ.leqB (b := 42); exact rfl; exact rfl; exact e9) | (apply OQ.not; exact rfl) | (apply OQ.move; exact rfl) | (apply OQ.assign; exact rfl)) rfl ?_ | refine JC.seq ?_ | refine JC.region ?_ | refine JC.block ?_ | refine JL.nil ?_ | refine JE.next ?_)
    refine JC.join (ι := {t : Sl8 // t.ok w ∧ t.l.length ≤ 42}) (fun t => [(0, N gen), (1, N rec), (2, s.v), (7, accV (some q) (bcs L).length), (8, N (k * 42)), (9, t.1.v), (10, .bool (decide (s.l.length - k * 42 ≤ 42)))]) (fun _ => accC 51 64 (some q) (bcs L)) (fun _ => True) ?_ ?_
    · have hd9 : (s.snd (k * 42)).l.length = s.l.length - k * 42 := by show (s.l.drop (k * 42)).length = _; rw [List.length_drop]
      cases h9 : decide (s.l.length - k * 42 ≤ 42)
      · have h10 : 42 ≤ (s.snd (k * 42)).l.length := by have := of_decide_eq_false h9; omega
        refine JC.cond_true rfl rfl ?_
        repeat (first | refine JL.q (by first | (apply OQ.fst (s := s.snd (k * 42)) (m := 42); exact Try.underlying33; exact u8sj; exact rfl; exact rfl; exact h10; exact (hs.snd _ hlo).len) | (apply OQ.move; exact rfl) | (apply OQ.assign; exact rfl)) rfl ?_ | refine JC.region ?_ | refine JL.nil ?_)
        exact JE.mid ⟨(s.snd (k * 42)).fst 42, (hs.snd _ hlo).fst 42, by show ((s.snd (k * 42)).l.take 42).length ≤ 42; rw [List.length_take]; omega⟩ trivial (by repeat (first | exact SubE.nil | refine SubE.cons _ _ _ rfl ?_)) (Less.refl _)
      · refine JC.cond_false rfl rfl ?_
        repeat (refine JC.skip ?_)
        exact JE.mid ⟨s.snd (k * 42), hs.snd _ hlo, by have := of_decide_eq_true h9; omega⟩ trivial (by repeat (first | exact SubE.nil | refine SubE.cons _ _ _ rfl ?_)) (Less.refl _)
    rintro ⟨t, ht, ht42⟩ _
    dsimp only
    generalize decide (s.l.length - k * 42 ≤ 42) = last
    have htc := ht.len
    repeat (first | refine JL.q (by (apply OQ.buildB0)) rfl ?_ | refine JC.seq ?_ | refine JC.region ?_)
    refine JL.alloc dkZ rfl fun b11 _ => ?_
    refine JL.store_all (cs := bc zero) dkB rfl rfl (bc_len rfl) (bc_cell _) .here rfl ?_
    have hq0 : some q = (none : Acc) → (bcs L).length = 0 := nofun
    repeat (first | refine JL.q (by first | (apply OQ.lenV (q := some q) (k := (bcs L).length); exact Try.underlying48; exact hq0; exact rfl) | (apply OQ.move; exact rfl) | (apply OQ.assign; exact rfl)) rfl ?_ | refine JC.seq ?_ | refine JC.region ?_ | refine JL.nil ?_ | refine JE.next ?_)
    refine JC.join (ι := {p : Nat // p ≤ 10000000}) (fun p => [(0, N gen), (1, N rec), (2, s.v), (7, accV (some q) (bcs L).length), (8, N (k * 42)), (9, t.v), (11, Pt b11 0), (12, N p.1)]) (fun _ => ⟨b11, Row 51 (bc zero), true⟩ :: accC 51 64 (some q) (bcs L)) (fun _ => True) ?_ ?_
    · have hkb : (bcs L).length + 32768 ≤ 10000000 := by unfold nb at hk'; omega
      refine JC.cond rfl (fun _ => ?_) (fun _ => ?_)
      · repeat (first | refine JL.q (by first | (apply OQ.addN (a := (bcs L).length) (b := 32768); exact rfl; exact rfl; exact (by omega)) | (apply OQ.move; exact rfl) | (apply OQ.assign; exact rfl)) rfl ?_ | refine JC.region ?_ | refine JL.nil ?_)
        exact JE.mid ⟨(bcs L).length + 32768, hkb⟩ trivial (by repeat (first | exact SubE.nil | refine SubE.cons _ _ _ rfl ?_)) (Less.refl _)
      · repeat (refine JC.skip ?_)
        exact JE.mid ⟨(bcs L).length, by omega⟩ trivial (by repeat (first | exact SubE.nil | refine SubE.cons _ _ _ rfl ?_)) (Less.refl _)
    rintro ⟨p, hp⟩ _
    dsimp only
    repeat (first | refine JL.q (by first | (apply OQ.shrN (a := gen) (m := 16777216) (k := 24); exact (by decide); exact (by decide); exact rfl; exact rfl) | (apply OQ.shrN (a := gen) (m := 65536) (k := 16); exact (by decide); exact (by decide); exact rfl; exact rfl) | (apply OQ.shrN (m := 256) (k := 8); exact (by decide); exact (by decide); exact rfl; exact rfl) | (apply OQ.shrN (a := rec) (m := 16777216) (k := 24); exact (by decide); exact (by decide); exact rfl; exact rfl) | (apply OQ.shrN (a := rec) (m := 65536) (k := 16); exact (by decide); exact (by decide); exact rfl; exact rfl) | (apply OQ.convN_8; exact Try.underlying3; exact Try.underlying5; exact rfl) | (apply OQ.move; exact rfl)) rfl ?_ | refine JC.seq ?_ | refine JC.region ?_)
    refine JL.litL (xs := [.tmp 45, .tmp 48, .tmp 51, .tmp 53, .tmp 56, .tmp 59, .tmp 62, .tmp 64, .tmp 67, .tmp 69]) (vs := ([BitVec.ofNat 8 (gen / 16777216), BitVec.ofNat 8 (gen / 65536), BitVec.ofNat 8 (gen / 256), BitVec.ofNat 8 gen, BitVec.ofNat 8 (rec / 16777216), BitVec.ofNat 8 (rec / 65536), BitVec.ofNat 8 (rec / 256), BitVec.ofNat 8 rec, BitVec.ofNat 8 (p / 256), BitVec.ofNat 8 p] : Bk).map U8) (m := 10) Try.underlying33 u8e rfl rfl rfl (by simp [Value.oneCell']) (by simp [Value.cells]) rfl (by decide) (by decide) rfl fun b13 _ => ?_
    generalize hmm : ([BitVec.ofNat 8 (gen / 16777216), BitVec.ofNat 8 (gen / 65536), BitVec.ofNat 8 (gen / 256), BitVec.ofNat 8 gen, BitVec.ofNat 8 (rec / 16777216), BitVec.ofNat 8 (rec / 65536), BitVec.ofNat 8 (rec / 256), BitVec.ofNat 8 rec, BitVec.ofNat 8 (p / 256), BitVec.ofNat 8 p] : Bk) = mm
    have hm10 : mm.length = 10 := by rw [← hmm]; rfl
    clear hmm
    repeat (first | refine JL.q (by (apply OQ.assign; exact rfl)) rfl ?_ | refine JC.seq ?_ | refine JC.region ?_ | refine JC.block ?_ | refine JL.nil ?_ | refine JE.next ?_)
    refine JC.loop (fun z : Nat × Bk => [(0, N gen), (1, N rec), (2, s.v), (7, accV (some q) (bcs L).length), (8, N (k * 42)), (9, t.v), (11, Pt b11 0), (13, .slice (some ⟨b13, 0, none⟩) 10 10), (14, N z.1)]) (fun z => ⟨b13, Row 5 (mm.map U8), true⟩ :: ⟨b11, Row 51 (bc z.2), true⟩ :: accC 51 64 (some q) (bcs L)) (fun z => 10 - z.1) (fun z => z.1 ≤ 10 ∧ z.2.length = 64) (0, zero) ⟨Nat.zero_le _, rfl⟩ (by repeat (first | exact SubE.nil | refine SubE.cons _ _ _ rfl ?_)) (Less.refl _) ?_
    rintro ⟨i, x⟩ ⟨hi, hx⟩
    dsimp only at hi hx ⊢
    repeat (first | refine JL.q (by first | (apply OQ.move; exact rfl) | (apply OQ.lssN; exact rfl; exact rfl)) rfl ?_ | refine JC.seq ?_ | refine JC.region ?_ | refine JL.nil ?_ | refine JE.next ?_)
    refine JC.cond rfl (fun hc => ?_) (fun hc => ?_)
    · have hi' : i < 10 := by have := of_decide_eq_true hc; omega
      clear hc
      have hcell : (mm.map U8)[i]? = some (U8 (mm.getD i 0)) := map_at U8 0 (by omega)
      generalize mm.getD i 0 = c at hcell
      repeat (first | refine JL.q (by first | (apply OQ.idxS0 (i := i); exact Try.underlying33; exact u8sj; exact rfl; exact rfl; exact hi') | (apply OQ.load; exact u8c; exact rfl; exact .here; exact (Row.cell (v := U8 c) hcell)) | (apply OQ.idxA0 (i := i) (len := 64); exact Try.underlying51; exact u8sj; exact rfl; exact rfl; exact (by omega)) | (apply OQ.move; exact rfl)) rfl ?_ | refine JC.seq ?_ | refine JC.region ?_ | refine JC.block ?_ | refine JC.skip ?_ | refine JE.next ?_)
      refine JL.store_eq (b := b11) (r := bc x) (r' := bc (x.set i c)) u8sj rfl rfl rfl rfl (.there .here) (by rw [bc_len hx]; omega) set_bc ?_
      repeat (first | refine JL.q (by first | (apply OQ.addN (a := 54) (b := i); exact rfl; exact rfl; exact (by omega)) | (apply OQ.idxS0 (i := i); exact Try.underlying33; exact u8sj; exact rfl; exact rfl; exact hi') | (apply OQ.load; exact u8c; exact rfl; exact .here; exact (Row.cell (v := U8 c) hcell)) | (apply OQ.idxA0 (i := 54 + i) (len := 64); exact Try.underlying51; exact u8sj; exact rfl; exact rfl; exact (by omega)) | (apply OQ.move; exact rfl)) rfl ?_ | refine JC.region ?_ | refine JL.nil ?_ | refine JE.next ?_)
      refine JL.store_eq (b := b11) (r := bc (x.set i c)) (r' := bc ((x.set i c).set (54 + i) c)) u8sj rfl rfl rfl rfl (.there .here) (by rw [bc_len (by rw [List.length_set]; exact hx)]; omega) set_bc ?_
      repeat (first | refine JL.q (by first | (apply OQ.move; exact rfl) | (apply OQ.assign; exact rfl) | (apply OQ.addN; exact rfl; exact rfl; exact (by (try simp only []); omega))) rfl ?_ | refine JC.region ?_ | refine JL.nil ?_ | refine JE.next ?_ | refine JE.blk_normal ?_)
      exact JE.again (i := (i, x)) (i + 1, (x.set i c).set (54 + i) c) ⟨hi', by dsimp only; rw [List.length_set, List.length_set]; exact hx⟩ (by dsimp only; omega) (by repeat (first | exact SubE.nil | refine SubE.cons _ _ _ rfl ?_)) (Less.refl _)
    · clear hi hc
      repeat (first | refine JL.q (by first | (apply OQ.len (k := t.l.length) (ad := t.ad) (cap := t.cap); exact Try.underlying33; exact rfl) | (apply OQ.convN_8; exact Try.underlying3; exact Try.underlying5; exact rfl) | (apply OQ.idxA0 (i := 11) (len := 64); exact Try.underlying51; exact u8sj; exact rfl; exact rfl; exact (by decide)) | (apply OQ.move; exact rfl)) rfl ?_ | refine JC.seq ?_ | refine JC.region ?_ | refine JC.exit ?_ | refine JE.next ?_ | refine JE.then_exit ?_ | refine JE.blk_hit ?_)
      refine JL.store_eq (b := b11) (r := bc x) (r' := bc (x.set 11 (BitVec.ofNat 8 t.l.length))) u8sj rfl rfl rfl rfl (.there .here) (by rw [bc_len hx]; decide) set_bc ?_
      have hx1 : (x.set 11 (BitVec.ofNat 8 t.l.length)).length = 64 := by rw [List.length_set]; exact hx
      generalize x.set 11 (BitVec.ofNat 8 t.l.length) = x1 at hx1
      repeat (first | refine JL.q (by (apply OQ.assign; exact rfl)) rfl ?_ | refine JC.seq ?_ | refine JC.region ?_ | refine JC.block ?_ | refine JL.nil ?_ | refine JE.next ?_)
      clear hx x
      refine JC.loop (fun z : Nat × Bk => [(0, N gen), (1, N rec), (2, s.v), (7, accV (some q) (bcs L).length), (8, N (k * 42)), (9, t.v), (11, Pt b11 0), (15, N z.1)]) (fun z => ⟨b11, Row 51 (bc z.2), true⟩ :: accC 51 64 (some q) (bcs L)) (fun z => t.l.length - z.1) (fun z => z.1 ≤ t.l.length ∧ z.2.length = 64) (0, x1) ⟨Nat.zero_le _, hx1⟩ (by repeat (first | exact SubE.nil | refine SubE.cons _ _ _ rfl ?_)) (.drop _ _ _ (Less.refl _)) ?_
      clear hx1 x1
      rintro ⟨i, x⟩ ⟨hi, hx⟩
      dsimp only at hi hx ⊢
      repeat (first | refine JL.q (by first | (apply OQ.len (k := t.l.length) (ad := t.ad) (cap := t.cap); exact Try.underlying33; exact rfl) | (apply OQ.move; exact rfl) | (apply OQ.lssN; exact rfl; exact rfl)) rfl ?_ | refine JC.seq ?_ | refine JC.region ?_ | refine JL.nil ?_ | refine JE.next ?_)
      refine JC.cond rfl (fun hc => ?_) (fun hc => ?_)
      · have hi' : i < t.l.length := by have := of_decide_eq_true hc; omega
        clear hc
        obtain ⟨bt, jt, et, ct⟩ := ht.reads i _ (map_at U8 0 hi')
        have hvt : t.v = .slice (some ⟨bt, jt, none⟩) t.l.length t.cap := by rw [← et]; rfl
        rw [hvt]
        generalize t.l.getD i 0 = c at ct
        repeat (first | refine JL.q (by first | (apply OQ.addN (a := 12) (b := i); exact rfl; exact rfl; exact (by omega)) | (apply OQ.idxS1 (i := i) (b := bt) (j := jt); exact Try.underlying33; exact u8sj; exact rfl; exact rfl; exact hi') | (apply OQ.load_old; exact u8c; exact rfl; exact (block_lt_of_cell ct); exact (by simp); exact ct) | (apply OQ.idxA0 (i := 12 + i) (len := 64); exact Try.underlying51; exact u8sj; exact rfl; exact rfl; exact (by omega)) | (apply OQ.move; exact rfl)) rfl ?_ | refine JC.seq ?_ | refine JC.region ?_ | refine JC.block ?_ | refine JC.skip ?_ | refine JE.next ?_)
        refine JL.store_eq (b := b11) (r := bc x) (r' := bc (x.set (12 + i) c)) u8sj rfl rfl rfl rfl .here (by rw [bc_len hx]; omega) set_bc ?_
        repeat (first | refine JL.q (by first | (apply OQ.move; exact rfl) | (apply OQ.assign; exact rfl) | (apply OQ.addN; exact rfl; exact rfl; exact (by (try simp only []); omega))) rfl ?_ | refine JC.region ?_ | refine JL.nil ?_ | refine JE.next ?_ | refine JE.blk_normal ?_)
        exact JE.again (i := (i, x)) (i + 1, x.set (12 + i) c) ⟨hi', by dsimp only; rw [List.length_set]; exact hx⟩ (by dsimp only; omega) (by repeat (first | exact SubE.nil | refine SubE.cons _ _ _ rfl ?_)) (Less.refl _)
      · repeat (first | refine JL.q (by first | (apply OQ.load_agg (cs := bc x); exact dkAg; exact dkB; exact rfl; exact .here; exact (bc_len hx); exact Row.all) | (apply OQ.move; exact rfl)) rfl ?_ | refine JC.region ?_ | refine JC.exit ?_ | refine JE.next ?_ | refine JE.then_exit ?_ | refine JE.blk_hit ?_)
        refine JL.litA (cs := bc x) Try.underlying48 dkI rfl (by decide) (by decide) rfl (bc_len hx) rfl fun b7 _ => ?_
        refine JL.perm (M' := ⟨b7, Row 51 (bc x), true⟩ :: (accC 51 64 (some q) (bcs L) ++ [⟨b11, Row 51 (bc x), true⟩])) ?_ (by exact List.Perm.cons _ (List.perm_append_singleton _ _).symm)
        refine JL.appendC (c := bc x) (L := bcs L) (some q) Try.underlying48 dkI nofun rfl rfl (bc_len hx) (fun v hv => List.all_eq_true.1 (bc_cell _) v hv) rfl (by decide) (by unfold nb at hk'; omega) (by unfold nb at hk'; omega) rfl fun b' cap' => ?_
        have eL : bcs L ++ [bc x] = bcs (L ++ [x]) := by simp [bcs]
        rw [eL]
        repeat (first | refine JL.q (by first | (apply OQ.addN (a := k * 42) (b := 42); exact rfl; exact rfl; exact (by omega)) | (apply OQ.move; exact rfl) | (apply OQ.assign; exact rfl)) rfl ?_ | refine JC.region ?_ | refine JL.nil ?_ | refine JE.next ?_ | refine JE.blk_normal ?_)
        exact JE.again (i := (k, q, L)) (k + 1, (b', cap'), L ++ [x]) ⟨hk', by dsimp only; rw [List.length_append, List.length_singleton, hL]⟩ (by dsimp only; omega) (by rw [show (k + 1) * 42 = k * 42 + 42 by omega]; exact (by repeat (first | exact SubE.nil | refine SubE.cons _ _ _ rfl ?_))) (less_pre _ _)
theorem goes_room : Goes Try.prog 12 := ⟨_, Try.func12, rfl, by kernel_rfl⟩
set_option maxHeartbeats 16000000 in
theorem room_any (s : SlL) (w : World) (hs : s.ok w) (hn : s.rs.length ≤ 1000) (hl : ∀ y ∈ s.rs, y.l.length ≤ 2000000) : Calls Try.prog 12 [s.v].toArray w fun e w' => e = .returned (N (room (s.rs.map Sl8.l))) ∧ Ext w w' := by
  refine enter (n := 20) Try.func12 rfl rfl rfl (Holds.start w []) ?_
  repeat (first | refine JL.q (by (apply OQ.assign; exact rfl)) rfl ?_ | refine JC.seq ?_ | refine JC.region ?_ | refine JC.block ?_ | refine JL.nil ?_ | refine JE.next ?_)
  refine JC.loop (fun i : Nat => [(0, s.v), (3, N (room ((s.rs.map Sl8.l).take i))), (4, N i)]) (fun _ => []) (fun i => s.rs.length - i) (fun i => i ≤ s.rs.length ∧ room ((s.rs.map Sl8.l).take i) ≤ i * 2000000) 0 ⟨Nat.zero_le _, by rw [List.take_zero]; exact Nat.zero_le _⟩ (by repeat (first | exact SubE.nil | refine SubE.cons _ _ _ rfl ?_)) (Less.refl _) ?_
  rintro i ⟨hi, hr⟩
  repeat (first | refine JL.q (by first | (apply OQ.len (k := s.rs.length) (ad := s.ad) (cap := s.cap); exact Try.underlying34; exact rfl) | (apply OQ.move; exact rfl) | (apply OQ.lssN; exact rfl; exact rfl)) rfl ?_ | refine JC.seq ?_ | refine JC.region ?_ | refine JL.nil ?_ | refine JE.next ?_)
  refine JC.cond rfl (fun hc => ?_) (fun hc => ?_)
  · have hi' : i < s.rs.length := by have := of_decide_eq_true hc; omega
    clear hc
    obtain ⟨b, j, e, lb, c⟩ := slLj_at hs (by omega)
    have ci := c i hi'
    have oki := hs.all _ (getD_mem' hi')
    have hli := hl _ (getD_mem' hi')
    have eqi : (s.rs.map Sl8.l).take (i + 1) = (s.rs.map Sl8.l).take i ++ [(s.rs.getD i nilS).l] := by
      rw [List.take_add_one]; simp [List.getD_eq_getElem?_getD, hi']
    generalize s.rs.getD i nilS = y at ci oki hli eqi
    have hv : s.v = .slice (some ⟨b, j, none⟩) s.rs.length s.cap := by rw [← e]; rfl
    rw [hv]
    have hr1 : room ((s.rs.map Sl8.l).take (i + 1)) = room ((s.rs.map Sl8.l).take i) + nb y.l.length := by rw [eqi, room_append]; simp [room]
    have hnb : nb y.l.length ≤ 2000000 := by unfold nb; omega
    generalize room ((s.rs.map Sl8.l).take i) = r0 at hr hr1 ⊢
    repeat (first | refine JL.q (by first | (apply OQ.idxS1 (i := i) (b := b) (j := j); exact Try.underlying34; exact sleJ; exact rfl; exact rfl; exact hi') | (apply OQ.load_old; exact slCj; exact rfl; exact lb; exact (by simp); exact ci) | (apply OQ.move; exact rfl)) rfl ?_ | refine JC.seq ?_ | refine JC.region ?_ | refine JC.block ?_ | refine JC.skip ?_ | refine JE.next ?_)
    refine JL.callg (ι := {z : (Nat × Nat) × List Bk // z.2.length = nb y.l.length}) (vs := [N 1, N 0, y.v]) (fun z => accV (some z.1.1) (bcs z.1.2).length) (fun z => accC 51 64 (some z.1.1) (bcs z.1.2)) goes_rblocks rfl rfl (fun _ => accC_wr _ _ _ _) (fun w' hw' => rblen_any 1 0 y w' (oki.holds hw' rfl) hli) fun z => ?_
    obtain ⟨⟨zq, zl⟩, hz⟩ := z
    have hz' : (bcs zl).length = nb y.l.length := by rw [bcs_n]; exact hz
    dsimp only
    rw [hz']
    have hq0 : some zq = (none : Acc) → nb y.l.length = 0 := nofun
    repeat (first | refine JL.q (by first | (apply OQ.lenV (q := some zq) (k := nb y.l.length); exact Try.underlying48; exact hq0; exact rfl) | (apply OQ.addN (a := r0) (b := nb y.l.length); exact rfl; exact rfl; exact (by omega)) | (apply OQ.move; exact rfl) | (apply OQ.assign; exact rfl) | (apply OQ.addN; exact rfl; exact rfl; exact (by (try simp only []); omega))) rfl ?_ | refine JC.region ?_ | refine JL.nil ?_ | refine JE.next ?_ | refine JE.blk_normal ?_)
    exact JE.again (i := i) (i + 1) ⟨hi', by rw [hr1]; omega⟩ (by omega) (by rw [hr1]; exact (by repeat (first | exact SubE.nil | refine SubE.cons _ _ _ rfl ?_))) (.nil _)
  · have hi' : i = s.rs.length := by have := of_decide_eq_false hc; omega
    rw [hi', List.take_of_length_le (by rw [List.length_map]; exact Nat.le_refl _)]
    repeat (first | refine JL.q (by first | (apply OQ.move; exact rfl) | (apply OQ.assign; exact rfl)) rfl ?_ | refine JC.seq ?_ | refine JC.region ?_ | refine JC.exit ?_ | refine JL.nil ?_ | refine JE.next ?_ | refine JE.then_exit ?_ | refine JE.blk_hit ?_)
    refine JC.ret ?_
    skip
    exact JE.ret1 rfl (RV.tmp rfl) fun w' hw => ⟨rfl, hw.chg⟩
end Go.Proofs.Ytjkncnbpaejamaa

/-
  Of no statement by itself: the reference's number, Gen, Record, Place, Whole: they tell what the landed journal's marks tell.
  Conditions: each theorem's own.
-/
namespace Go.Proofs.Ytjkncnbpaejamaa
set_option maxRecDepth 10000
open Sl Dsk Jrn
/-! ### marks and bytes are one -/
/-- what the two bytes of a place tell -/
def plN (b : Bk) : Nat := numB ((b.drop 8).take 2)
/-! ### walks -/
end Go.Proofs.Ytjkncnbpaejamaa

/-
  Of no statement by itself: what the reference's Half, Disk, Newest tell, by definition; that it is what the landed journal reads.
  Conditions: each theorem's own.
-/
namespace Go.Proofs.Ytjkncnbpaejamaa
open Sl Dsk Jrn
/-- does a block go on with a record, as the reference asks it -/
def goesOn (g r p : Nat) (b : Bk) : Bool := wholeB b && (decide ((markIn b).1.toNat = g) && (decide ((markIn b).2.1.toNat = r) && decide (plN b % 32768 = p)))
/-- the reference's walk over a half's blocks -/
def scanR (g : Nat) : List Bk → List Bk → Bk → Nat → List Bk
  | [], out, _, _ => out
  | b :: bs, out, part, p => if goesOn g out.length p b = true then
      (if 32768 ≤ plN b then scanR g bs (out ++ [part ++ partOf b]) [] 0 else scanR g bs out (part ++ partOf b) (p + 1)) else out
end Go.Proofs.Ytjkncnbpaejamaa

/-
  Of no statement by itself: slices of blocks as arguments; the reference's Newest, Half.
  Conditions: each theorem's own.
-/
namespace Go.Proofs.Ytjkncnbpaejamaa
set_option maxRecDepth 10000
open Sl Dsk Jrn
structure SlE where
  ad : Option Addr
  cap : Nat
  l : List Bk
def SlE.v (s : SlE) : Value := .slice s.ad s.l.length s.cap
structure SlE.ok (w : World) (s : SlE) : Prop where
  len : s.l.length ≤ s.cap
  reads : Reads w s.ad (bcs s.l).flatten
  all : ∀ b ∈ s.l, b.length = 64
theorem SlE.ok.ok {w : World} {s : SlE} (h : s.ok w) : Ok s.l [] := ⟨h.all, by simp⟩
/-- the i-th block's cells -/
theorem SlE.ok.at {w : World} {s : SlE} (h : s.ok w) {i : Nat} (hi : i < s.l.length) : ∃ b j, s.ad = some ⟨b, j, none⟩ ∧ b < w.heap.size ∧ ∀ k u, (bc (old s.l i))[k]? = some u → w.cell? ⟨b, j + i * 64 + k, none⟩ = some u := by
  have hl := chunk_len (bcs_len h.ok)
  rw [bcs_n] at hl
  have h0 : 0 < (bcs s.l).flatten.length := by omega
  obtain ⟨b, j, e, hc⟩ := h.reads.at h0
  refine ⟨b, j, e, ?_, fun k u hu => ?_⟩
  · obtain ⟨v, hv⟩ : ∃ v, (bcs s.l).flatten[0]? = some v := ⟨_, List.getElem?_eq_getElem h0⟩
    exact block_lt_of_cell (hc 0 v hv)
  · have hat := chunk_at (i := i) (bcs_len h.ok) (by rw [bcs_n]; exact hi)
    rw [bcs_at hi] at hat
    rw [← hat, List.getElem?_take] at hu
    split at hu
    · rw [List.getElem?_drop] at hu
      rw [Nat.add_assoc]
      exact hc _ u hu
    · cases hu
theorem SlE.ok.holds {w0 w : World} {S : List Nat} {M : List Ent} {s : SlE} (h : s.ok w0) (hw : Holds w0 S M w) (hS : S = []) : s.ok w := ⟨h.len, hw.reads h.reads (fun _ a _ => by rw [hS]; simp), h.all⟩
end Go.Proofs.Ytjkncnbpaejamaa

/-
  Of no statement by itself: the reference's Half.
  Conditions: each theorem's own.
-/
namespace Go.Proofs.Ytjkncnbpaejamaa
set_option maxRecDepth 10000
open Sl Dsk Jrn
/-- where the reference's walk is -/
structure Hz where
  i : Nat
  zq : Nat × Nat
  rs : List Sl8
  pq : Acc
  part : Bk
  p : Nat
def Hz.E (z : Hz) : List Ent := accE 33 (some z.zq) (z.rs.map Sl8.v) ++ (flatE z.rs ++ accE 5 z.pq (z.part.map U8))
structure Hz.ok (z : Hz) (g : Nat) (l : List Bk) : Prop where
  i : z.i ≤ l.length
  s : scanR g l [] [] 0 = scanR g (l.drop z.i) (z.rs.map Sl8.l) z.part z.p
  n : z.rs.length ≤ z.i
  p : z.p ≤ z.i
  l : z.part.length ≤ z.p * 42
  q : z.pq = none → z.part = []
  h0 : ∀ x ∈ z.rs, x.ad = none → x.l = []
end Go.Proofs.Ytjkncnbpaejamaa

/-
  Of no statement by itself: the reference's Disk.
  Conditions: each theorem's own.
-/
namespace Go.Proofs.Ytjkncnbpaejamaa
set_option maxRecDepth 10000
open Sl Dsk Jrn
def SlE.cut (s : SlE) (lo hi : Nat) : SlE := ⟨if s.cap = lo then s.ad else s.ad.map (·.add (lo * 64)), s.cap - lo, (s.l.take hi).drop lo⟩
theorem SlE.ok.cut {s : SlE} {w : World} (h : s.ok w) {lo hi : Nat} (h1 : lo ≤ hi) (h2 : hi ≤ s.l.length) : (s.cut lo hi).ok w := by
  have hl := h.len
  refine ⟨by show ((s.l.take hi).drop lo).length ≤ s.cap - lo; rw [List.length_drop, List.length_take]; omega, ?_, fun b hb => h.all b (List.mem_of_mem_take (List.mem_of_mem_drop hb))⟩
  by_cases hc : s.cap = lo
  · have : (s.l.take hi).drop lo = [] := by rw [List.drop_eq_nil_of_le]; rw [List.length_take]; omega
    show Reads w _ (bcs ((s.l.take hi).drop lo)).flatten
    rw [this]
    exact Reads.nil _ _
  · intro i v hv
    have e1 : (bcs ((s.l.take hi).drop lo)).flatten = ((bcs s.l).flatten.take (hi * 64)).drop (lo * 64) := by
      have a1 : bcs ((s.l.take hi).drop lo) = ((bcs s.l).take hi).drop lo := by simp [bcs, List.map_take, List.map_drop]
      rw [a1, chunk_take (bcs_len h.ok), chunk_drop (fun c hc => bcs_len h.ok c (List.mem_of_mem_take hc))]
    have hv' : (bcs s.l).flatten[lo * 64 + i]? = some v := by
      have : (bcs (s.cut lo hi).l).flatten = ((bcs s.l).flatten.take (hi * 64)).drop (lo * 64) := e1
      rw [this, List.getElem?_drop, List.getElem?_take] at hv
      split at hv
      · exact hv
      · cases hv
    obtain ⟨b, j, e, hcell⟩ := h.reads _ _ hv'
    refine ⟨b, j + lo * 64, ?_, ?_⟩
    · show (if s.cap = lo then s.ad else s.ad.map (·.add (lo * 64))) = _
      rw [if_neg hc, e]
      show some ((⟨b, j, none⟩ : Addr).add (lo * 64)) = _
      rw [add_off]
    · rwa [Nat.add_assoc]
end Go.Proofs.Ytjkncnbpaejamaa

/-
  Of no statement by itself: the reference's Blocks: the blocks of a record, as the landed journal writes them.
  Conditions: each theorem's own.
-/
namespace Go.Proofs.Ytjkncnbpaejamaa
set_option maxRecDepth 10000
open Sl Dsk Jrn
def setA (mm : Bk) (i : Nat) : Bk := (List.range i).foldl (fun x j => (x.set j (mm.getD j 0)).set (54 + j) (mm.getD j 0)) zero
theorem setA_succ (mm : Bk) (i : Nat) : setA mm (i + 1) = ((setA mm i).set i (mm.getD i 0)).set (54 + i) (mm.getD i 0) := by
  unfold setA
  rw [List.range_succ, List.foldl_append]
  rfl
theorem setA_ten (m0 m1 m2 m3 m4 m5 m6 m7 m8 m9 c : Bt) : (setA [m0, m1, m2, m3, m4, m5, m6, m7, m8, m9] 10).set 11 c = [m0, m1, m2, m3, m4, m5, m6, m7, m8, m9] ++ [0, c] ++ ([] : Bk) ++ List.replicate 42 0 ++ [m0, m1, m2, m3, m4, m5, m6, m7, m8, m9] := by kernel_rfl
theorem setA_end {mm : Bk} (h : mm.length = 10) (c : Bt) : (setA mm 10).set 11 c = mm ++ [0, c] ++ ([] : Bk) ++ List.replicate 42 0 ++ mm := by
  match mm, h with
  | [m0, m1, m2, m3, m4, m5, m6, m7, m8, m9], _ => exact setA_ten m0 m1 m2 m3 m4 m5 m6 m7 m8 m9 c
theorem setB_step {mm t : Bk} {c : Bt} {i : Nat} (h : mm.length = 10) (hi : i < t.length) (h42 : i < 42) : (mm ++ [0, c] ++ t.take i ++ List.replicate (42 - i) 0 ++ mm).set (12 + i) (t.getD i 0) = mm ++ [0, c] ++ t.take (i + 1) ++ List.replicate (42 - (i + 1)) 0 ++ mm := by
  have h1 : (mm ++ [0, c] ++ t.take i).length = 12 + i := by simp [h]; omega
  have h2 : List.replicate (42 - i) (0 : Bt) = 0 :: List.replicate (42 - (i + 1)) 0 := by rw [show 42 - i = (42 - (i + 1)) + 1 by omega, List.replicate_succ]
  have h3 : t.take (i + 1) = t.take i ++ [t.getD i 0] := by rw [List.take_add_one]; simp [List.getD_eq_getElem?_getD, hi]
  rw [h2, h3, List.append_assoc, List.set_append_right _ _ (by rw [h1]; exact Nat.le_refl _), h1, Nat.sub_self]
  simp [List.append_assoc]
theorem mm_is {gen rec n k p : Nat} (hg : gen < 4294967296) (hr : rec < 4294967296) (hk : k < 32768) (hp : p = if decide (k + 1 = n) = true then k + 32768 else k) : mb (mk1 (BitVec.ofNat 32 gen) rec n k) = [BitVec.ofNat 8 (gen / 16777216), BitVec.ofNat 8 (gen / 65536), BitVec.ofNat 8 (gen / 256), BitVec.ofNat 8 gen, BitVec.ofNat 8 (rec / 16777216), BitVec.ofNat 8 (rec / 65536), BitVec.ofNat 8 (rec / 256), BitVec.ofNat 8 rec, BitVec.ofNat 8 (p / 256), BitVec.ofNat 8 p] := by
  have b4 : ∀ m : Nat, m < 4294967296 → be (BitVec.ofNat 32 m) 4 = [BitVec.ofNat 8 (m / 16777216), BitVec.ofNat 8 (m / 65536), BitVec.ofNat 8 (m / 256), BitVec.ofNat 8 m] := fun m hm => by
    have e : be (BitVec.ofNat 32 m) 4 = [((BitVec.ofNat 32 m) >>> 24).setWidth 8, ((BitVec.ofNat 32 m) >>> 16).setWidth 8, ((BitVec.ofNat 32 m) >>> 8).setWidth 8, ((BitVec.ofNat 32 m) >>> 0).setWidth 8] := rfl
    rw [e]
    congr 1
    · apply BitVec.eq_of_toNat_eq; simp only [BitVec.toNat_setWidth, BitVec.toNat_ushiftRight, BitVec.toNat_ofNat, Nat.shiftRight_eq_div_pow]; omega
    congr 1
    · apply BitVec.eq_of_toNat_eq; simp only [BitVec.toNat_setWidth, BitVec.toNat_ushiftRight, BitVec.toNat_ofNat, Nat.shiftRight_eq_div_pow]; omega
    congr 1
    · apply BitVec.eq_of_toNat_eq; simp only [BitVec.toNat_setWidth, BitVec.toNat_ushiftRight, BitVec.toNat_ofNat, Nat.shiftRight_eq_div_pow]; omega
    congr 1
    · apply BitVec.eq_of_toNat_eq; simp only [BitVec.toNat_setWidth, BitVec.toNat_ushiftRight, BitVec.toNat_ofNat, Nat.shiftRight_eq_div_pow]; omega
  have hpl : (plc (mk1 (BitVec.ofNat 32 gen) rec n k)).toNat = p := by
    unfold plc mk1
    dsimp only
    rw [hp]
    by_cases hh : k + 1 = n
    · rw [if_pos (decide_eq_true hh), if_pos (decide_eq_true hh), BitVec.toNat_add, BitVec.toNat_setWidth, BitVec.toNat_ofNat, show (32768#32).toNat = 32768 from rfl]
      omega
    · rw [if_neg (by simpa using hh), if_neg (by simpa using hh), BitVec.toNat_setWidth, BitVec.toNat_ofNat]
      omega
  have hp2 : p < 65536 := by rw [hp]; split <;> omega
  have b2 : be (plc (mk1 (BitVec.ofNat 32 gen) rec n k)) 2 = [BitVec.ofNat 8 (p / 256), BitVec.ofNat 8 p] := by
    generalize plc (mk1 (BitVec.ofNat 32 gen) rec n k) = m at hpl ⊢
    have e : be m 2 = [(m >>> 8).setWidth 8, (m >>> 0).setWidth 8] := rfl
    rw [e]
    congr 1
    · apply BitVec.eq_of_toNat_eq; simp only [BitVec.toNat_setWidth, BitVec.toNat_ushiftRight, BitVec.toNat_ofNat, Nat.shiftRight_eq_div_pow]; omega
    congr 1
    · apply BitVec.eq_of_toNat_eq; simp only [BitVec.toNat_setWidth, BitVec.toNat_ushiftRight, BitVec.toNat_ofNat, Nat.shiftRight_eq_div_pow]; omega
  unfold mb
  rw [b2]
  show be (BitVec.ofNat 32 gen) 4 ++ be (BitVec.ofNat 32 rec) 4 ++ _ = _
  rw [b4 gen hg, b4 rec hr]
  rfl
theorem blk_is {g : BitVec 32} {r k : Nat} {rec mm t : Bk} (hm : mb (mk1 g r (nb rec.length) k) = mm) (ht : t = chunk rec k) (h42 : t.length ≤ 42) : mm ++ [0, BitVec.ofNat 8 t.length] ++ t ++ List.replicate (42 - t.length) 0 ++ mm = blk g r rec k := by
  have e : be (BitVec.ofNat 32 t.length) 2 = [0, BitVec.ofNat 8 t.length] := by
    have e : be (BitVec.ofNat 32 t.length) 2 = [((BitVec.ofNat 32 t.length) >>> 8).setWidth 8, ((BitVec.ofNat 32 t.length) >>> 0).setWidth 8] := rfl
    rw [e]
    congr 1
    · apply BitVec.eq_of_toNat_eq; simp only [BitVec.ofNat_eq_ofNat, BitVec.toNat_setWidth, BitVec.toNat_ushiftRight, BitVec.toNat_ofNat, Nat.shiftRight_eq_div_pow]; omega
    congr 1
    · apply BitVec.eq_of_toNat_eq; simp only [BitVec.toNat_setWidth, BitVec.toNat_ushiftRight, BitVec.toNat_ofNat, Nat.shiftRight_eq_div_pow]; omega
  unfold blk blockOf
  rw [hm, ← ht, e]
set_option maxHeartbeats 64000000 in
theorem rblocks_any (gen rec : Nat) (s : Sl8) (w : World) (hs : s.ok w) (hl : s.l.length ≤ 1000000) (hgen : gen < 4294967296) (hrec : rec < 4294967296) : Calls Try.prog 21 [N gen, N rec, s.v].toArray w fun e w' => ∃ q : Nat × Nat, e = .returned (accV (some q) (nb s.l.length)) ∧ Holds w [] (accC 51 64 (some q) (bcs (blks (BitVec.ofNat 32 gen) rec s.l))) w' := by
  have hcl := hs.len
  refine enter (n := 110) Try.func21 rfl rfl rfl (Holds.start w []) ?_
  repeat (first | refine JL.q (by (apply OQ.assign; exact rfl)) rfl ?_ | refine JC.seq ?_ | refine JC.region ?_ | refine JL.nil ?_ | refine JE.next ?_)
  refine JL.litZ Try.underlying48 dkI rfl fun b0 _ => ?_
  repeat (first | refine JL.q (by (apply OQ.assign; exact rfl)) rfl ?_ | refine JC.seq ?_ | refine JC.region ?_ | refine JC.block ?_ | refine JL.nil ?_ | refine JE.next ?_)
  refine JC.loop (fun z : Nat × (Nat × Nat) × List Bk => [(0, N gen), (1, N rec), (2, s.v), (7, accV (some z.2.1) (bcs z.2.2).length), (8, N (z.1 * 42))]) (fun z => accC 51 64 (some z.2.1) (bcs z.2.2)) (fun z => nb s.l.length - z.1) (fun z => z.1 ≤ nb s.l.length ∧ z.2.2 = (List.range z.1).map (blk (BitVec.ofNat 32 gen) rec s.l)) (0, (b0, 0), []) ⟨Nat.zero_le _, rfl⟩ (by repeat (first | exact SubE.nil | refine SubE.cons _ _ _ rfl ?_)) (Less.refl _) ?_
  rintro ⟨k, q, L⟩ ⟨hk, hLr⟩
  dsimp only at hk hLr ⊢
  have hL : L.length = k := by rw [hLr]; simp
  have hnb := nb_le s.l.length
  have hbn := bcs_n L
  by_cases hk' : k < nb s.l.length
  case neg =>
    have e1 : decide (((k * 42 : Nat) : Int) < (s.l.length : Int)) = false := decide_eq_false (by omega)
    have e2 : decide (((k * 42 : Nat) : Int) = 0) = false := decide_eq_false (by have := nb_pos s.l.length; omega)
    repeat (first | refine JL.q (by first | (apply OQ.len (k := s.l.length) (ad := s.ad) (cap := s.cap); exact Try.underlying33; exact rfl) | (apply OQ.lssB; exact rfl; exact rfl; exact e1) | (apply OQ.eqB (b := 0); exact rfl; exact rfl; exact e2) | (apply OQ.pick_f; exact rfl; exact rfl) | (apply OQ.move; exact rfl)) rfl ?_ | refine JC.seq ?_ | refine JC.region ?_ | refine JL.nil ?_ | refine JE.next ?_ | refine JL.gon rfl rfl ?_)
    refine JC.cond_false rfl rfl ?_
    repeat (first | refine JL.q (by first | (apply OQ.move; exact rfl) | (apply OQ.assign; exact rfl)) rfl ?_ | refine JC.seq ?_ | refine JC.region ?_ | refine JC.exit ?_ | refine JL.nil ?_ | refine JE.next ?_ | refine JE.then_exit ?_ | refine JE.blk_hit ?_)
    refine JC.ret ?_
    skip
    exact JE.ret1 rfl (RV.tmp rfl) fun w' hw => ⟨q, by rw [hbn, hL, show k = nb s.l.length by omega], by rw [show k = nb s.l.length by omega] at hLr; rw [← show L = blks (BitVec.ofNat 32 gen) rec s.l from hLr]; exact hw⟩
  case pos =>
    have hlo := nb_at hk'
    have hgo : (decide (((k * 42 : Nat) : Int) < (s.l.length : Int)) = true) ∨ (decide (((k * 42 : Nat) : Int) < (s.l.length : Int)) = false ∧ decide (((k * 42 : Nat) : Int) = 0) = true) := by
      by_cases h : k * 42 < s.l.length
      · exact .inl (decide_eq_true (by omega))
      · refine .inr ⟨decide_eq_false (by omega), decide_eq_true ?_⟩
        unfold nb at hk'
        omega
    refine JC.mid (ι := Unit) (fun _ => [(0, N gen), (1, N rec), (2, s.v), (7, accV (some q) (bcs L).length), (8, N (k * 42))]) (fun _ => accC 51 64 (some q) (bcs L)) (fun _ => True) ?_ ?_
    · rcases hgo with e1 | ⟨e1, e2⟩
      · repeat (first | refine JL.q (by first | (apply OQ.len (k := s.l.length) (ad := s.ad) (cap := s.cap); exact Try.underlying33; exact rfl) | (apply OQ.lssB; exact rfl; exact rfl; exact e1) | (apply OQ.pick_t; exact rfl; exact rfl) | (apply OQ.move; exact rfl)) rfl ?_ | refine JC.seq ?_ | refine JC.region ?_ | refine JL.nil ?_ | refine JE.next ?_ | refine JL.gskip rfl rfl rfl rfl ?_)
        refine JC.cond_true rfl rfl ?_
        repeat (refine JC.skip ?_)
        exact JE.mid () trivial (by repeat (first | exact SubE.nil | refine SubE.cons _ _ _ rfl ?_)) (Less.refl _)
      · repeat (first | refine JL.q (by first | (apply OQ.len (k := s.l.length) (ad := s.ad) (cap := s.cap); exact Try.underlying33; exact rfl) | (apply OQ.lssB; exact rfl; exact rfl; exact e1) | (apply OQ.eqB (b := 0); exact rfl; exact rfl; exact e2) | (apply OQ.pick_f; exact rfl; exact rfl) | (apply OQ.move; exact rfl)) rfl ?_ | refine JC.seq ?_ | refine JC.region ?_ | refine JL.nil ?_ | refine JE.next ?_ | refine JL.gon rfl rfl ?_)
        refine JC.cond_true rfl rfl ?_
        repeat (refine JC.skip ?_)
        exact JE.mid () trivial (by repeat (first | exact SubE.nil | refine SubE.cons _ _ _ rfl ?_)) (Less.refl _)
    rintro _ _
    have e9 : decide (((s.snd (k * 42)).l.length : Int) ≤ 42) = decide (s.l.length - k * 42 ≤ 42) := decide_eq_decide.2 (by show ((s.l.drop (k * 42)).length : Int) ≤ 42 ↔ _; rw [List.length_drop]; omega)
    repeat (first | refine JL.q (by first | (apply OQ.snd (s := s) (m := k * 42); exact Try.underlying33; exact u8sj; exact rfl; exact rfl; exact hlo) | (apply OQ.len (k := (s.snd (k * 42)).l.length) (ad := (s.snd (k * 42)).ad) (cap := (s.snd (k * 42)).cap); exact Try.underlying33; exact rfl) | (apply OQ.leqB (b := 42); exact rfl; exact rfl; exact e9) | (apply OQ.not; exact rfl) | (apply OQ.move; exact rfl) | (apply OQ.assign; exact rfl)) rfl ?_ | refine JC.seq ?_ | refine JC.region ?_ | refine JC.block ?_ | refine JL.nil ?_ | refine JE.next ?_)
    refine JC.join (ι := {t : Sl8 // t.ok w ∧ t.l.length ≤ 42 ∧ t.l = chunk s.l k}) (fun t => [(0, N gen), (1, N rec), (2, s.v), (7, accV (some q) (bcs L).length), (8, N (k * 42)), (9, t.1.v), (10, .bool (decide (s.l.length - k * 42 ≤ 42)))]) (fun _ => accC 51 64 (some q) (bcs L)) (fun _ => True) ?_ ?_
    · have hd9 : (s.snd (k * 42)).l.length = s.l.length - k * 42 := by show (s.l.drop (k * 42)).length = _; rw [List.length_drop]
      cases h9 : decide (s.l.length - k * 42 ≤ 42)
      · have h10 : 42 ≤ (s.snd (k * 42)).l.length := by have := of_decide_eq_false h9; omega
        refine JC.cond_true rfl rfl ?_
        repeat (first | refine JL.q (by first | (apply OQ.fst (s := s.snd (k * 42)) (m := 42); exact Try.underlying33; exact u8sj; exact rfl; exact rfl; exact h10; exact (hs.snd _ hlo).len) | (apply OQ.move; exact rfl) | (apply OQ.assign; exact rfl)) rfl ?_ | refine JC.region ?_ | refine JL.nil ?_)
        exact JE.mid ⟨(s.snd (k * 42)).fst 42, (hs.snd _ hlo).fst 42, by show ((s.snd (k * 42)).l.take 42).length ≤ 42; rw [List.length_take]; omega, rfl⟩ trivial (by repeat (first | exact SubE.nil | refine SubE.cons _ _ _ rfl ?_)) (Less.refl _)
      · refine JC.cond_false rfl rfl ?_
        repeat (refine JC.skip ?_)
        exact JE.mid ⟨s.snd (k * 42), hs.snd _ hlo, by have := of_decide_eq_true h9; omega, (List.take_of_length_le (by have := of_decide_eq_true h9; have h99 : (s.l.drop (k * 42)).length = s.l.length - k * 42 := List.length_drop; omega)).symm⟩ trivial (by repeat (first | exact SubE.nil | refine SubE.cons _ _ _ rfl ?_)) (Less.refl _)
    rintro ⟨t, ht, ht42, htc⟩ _
    dsimp only
    have hlast : decide (s.l.length - k * 42 ≤ 42) = decide (k + 1 = nb s.l.length) := decide_eq_decide.2 (by unfold nb at hk' ⊢; omega)
    rw [hlast]
    generalize hlst : decide (k + 1 = nb s.l.length) = last
    have htl := ht.len
    repeat (first | refine JL.q (by (apply OQ.buildB0)) rfl ?_ | refine JC.seq ?_ | refine JC.region ?_)
    refine JL.alloc dkZ rfl fun b11 _ => ?_
    refine JL.store_all (cs := bc zero) dkB rfl rfl (bc_len rfl) (bc_cell _) .here rfl ?_
    have hq0 : some q = (none : Acc) → (bcs L).length = 0 := nofun
    repeat (first | refine JL.q (by first | (apply OQ.lenV (q := some q) (k := (bcs L).length); exact Try.underlying48; exact hq0; exact rfl) | (apply OQ.move; exact rfl) | (apply OQ.assign; exact rfl)) rfl ?_ | refine JC.seq ?_ | refine JC.region ?_ | refine JL.nil ?_ | refine JE.next ?_)
    refine JC.join (ι := {p : Nat // p ≤ 10000000 ∧ p = if last then k + 32768 else k}) (fun p => [(0, N gen), (1, N rec), (2, s.v), (7, accV (some q) (bcs L).length), (8, N (k * 42)), (9, t.v), (11, Pt b11 0), (12, N p.1)]) (fun _ => ⟨b11, Row 51 (bc zero), true⟩ :: accC 51 64 (some q) (bcs L)) (fun _ => True) ?_ ?_
    · have hkb : (bcs L).length + 32768 ≤ 10000000 := by unfold nb at hk'; omega
      refine JC.cond rfl (fun hl1 => ?_) (fun hl1 => ?_)
      · repeat (first | refine JL.q (by first | (apply OQ.addN (a := (bcs L).length) (b := 32768); exact rfl; exact rfl; exact (by omega)) | (apply OQ.move; exact rfl) | (apply OQ.assign; exact rfl)) rfl ?_ | refine JC.region ?_ | refine JL.nil ?_)
        exact JE.mid ⟨(bcs L).length + 32768, hkb, by rw [hl1, hbn, hL]; rfl⟩ trivial (by repeat (first | exact SubE.nil | refine SubE.cons _ _ _ rfl ?_)) (Less.refl _)
      · repeat (refine JC.skip ?_)
        exact JE.mid ⟨(bcs L).length, by omega, by rw [hl1, hbn, hL]; rfl⟩ trivial (by repeat (first | exact SubE.nil | refine SubE.cons _ _ _ rfl ?_)) (Less.refl _)
    rintro ⟨p, hp, hpe⟩ _
    dsimp only
    repeat (first | refine JL.q (by first | (apply OQ.shrN (a := gen) (m := 16777216) (k := 24); exact (by decide); exact (by decide); exact rfl; exact rfl) | (apply OQ.shrN (a := gen) (m := 65536) (k := 16); exact (by decide); exact (by decide); exact rfl; exact rfl) | (apply OQ.shrN (m := 256) (k := 8); exact (by decide); exact (by decide); exact rfl; exact rfl) | (apply OQ.shrN (a := rec) (m := 16777216) (k := 24); exact (by decide); exact (by decide); exact rfl; exact rfl) | (apply OQ.shrN (a := rec) (m := 65536) (k := 16); exact (by decide); exact (by decide); exact rfl; exact rfl) | (apply OQ.convN_8; exact Try.underlying3; exact Try.underlying5; exact rfl) | (apply OQ.move; exact rfl)) rfl ?_ | refine JC.seq ?_ | refine JC.region ?_)
    refine JL.litL (xs := [.tmp 45, .tmp 48, .tmp 51, .tmp 53, .tmp 56, .tmp 59, .tmp 62, .tmp 64, .tmp 67, .tmp 69]) (vs := ([BitVec.ofNat 8 (gen / 16777216), BitVec.ofNat 8 (gen / 65536), BitVec.ofNat 8 (gen / 256), BitVec.ofNat 8 gen, BitVec.ofNat 8 (rec / 16777216), BitVec.ofNat 8 (rec / 65536), BitVec.ofNat 8 (rec / 256), BitVec.ofNat 8 rec, BitVec.ofNat 8 (p / 256), BitVec.ofNat 8 p] : Bk).map U8) (m := 10) Try.underlying33 u8e rfl rfl rfl (by simp [Value.oneCell']) (by simp [Value.cells]) rfl (by decide) (by decide) rfl fun b13 _ => ?_
    generalize hmm : ([BitVec.ofNat 8 (gen / 16777216), BitVec.ofNat 8 (gen / 65536), BitVec.ofNat 8 (gen / 256), BitVec.ofNat 8 gen, BitVec.ofNat 8 (rec / 16777216), BitVec.ofNat 8 (rec / 65536), BitVec.ofNat 8 (rec / 256), BitVec.ofNat 8 rec, BitVec.ofNat 8 (p / 256), BitVec.ofNat 8 p] : Bk) = mm
    have hm10 : mm.length = 10 := by rw [← hmm]; rfl
    have hmb : mb (mk1 (BitVec.ofNat 32 gen) rec (nb s.l.length) k) = mm := by rw [← hmm]; exact mm_is hgen hrec (by unfold nb at hk'; omega) (by rw [hpe, ← hlst])
    clear hmm
    repeat (first | refine JL.q (by (apply OQ.assign; exact rfl)) rfl ?_ | refine JC.seq ?_ | refine JC.region ?_ | refine JC.block ?_ | refine JL.nil ?_ | refine JE.next ?_)
    refine JC.loop (fun z : Nat × Bk => [(0, N gen), (1, N rec), (2, s.v), (7, accV (some q) (bcs L).length), (8, N (k * 42)), (9, t.v), (11, Pt b11 0), (13, .slice (some ⟨b13, 0, none⟩) 10 10), (14, N z.1)]) (fun z => ⟨b13, Row 5 (mm.map U8), true⟩ :: ⟨b11, Row 51 (bc z.2), true⟩ :: accC 51 64 (some q) (bcs L)) (fun z => 10 - z.1) (fun z => z.1 ≤ 10 ∧ z.2.length = 64 ∧ z.2 = setA mm z.1) (0, zero) ⟨Nat.zero_le _, rfl, rfl⟩ (by repeat (first | exact SubE.nil | refine SubE.cons _ _ _ rfl ?_)) (Less.refl _) ?_
    rintro ⟨i, x⟩ ⟨hi, hx, hxa⟩
    dsimp only at hi hx hxa ⊢
    repeat (first | refine JL.q (by first | (apply OQ.move; exact rfl) | (apply OQ.lssN; exact rfl; exact rfl)) rfl ?_ | refine JC.seq ?_ | refine JC.region ?_ | refine JL.nil ?_ | refine JE.next ?_)
    refine JC.cond rfl (fun hc => ?_) (fun hc => ?_)
    · have hi' : i < 10 := by have := of_decide_eq_true hc; omega
      clear hc
      have hcell : (mm.map U8)[i]? = some (U8 (mm.getD i 0)) := map_at U8 0 (by omega)
      have hsa : setA mm (i + 1) = ((setA mm i).set i (mm.getD i 0)).set (54 + i) (mm.getD i 0) := setA_succ mm i
      rw [← hxa] at hsa
      generalize mm.getD i 0 = c at hcell hsa
      repeat (first | refine JL.q (by first | (apply OQ.idxS0 (i := i); exact Try.underlying33; exact u8sj; exact rfl; exact rfl; exact hi') | (apply OQ.load; exact u8c; exact rfl; exact .here; exact (Row.cell (v := U8 c) hcell)) | (apply OQ.idxA0 (i := i) (len := 64); exact Try.underlying51; exact u8sj; exact rfl; exact rfl; exact (by omega)) | (apply OQ.move; exact rfl)) rfl ?_ | refine JC.seq ?_ | refine JC.region ?_ | refine JC.block ?_ | refine JC.skip ?_ | refine JE.next ?_)
      refine JL.store_eq (b := b11) (r := bc x) (r' := bc (x.set i c)) u8sj rfl rfl rfl rfl (.there .here) (by rw [bc_len hx]; omega) set_bc ?_
      repeat (first | refine JL.q (by first | (apply OQ.addN (a := 54) (b := i); exact rfl; exact rfl; exact (by omega)) | (apply OQ.idxS0 (i := i); exact Try.underlying33; exact u8sj; exact rfl; exact rfl; exact hi') | (apply OQ.load; exact u8c; exact rfl; exact .here; exact (Row.cell (v := U8 c) hcell)) | (apply OQ.idxA0 (i := 54 + i) (len := 64); exact Try.underlying51; exact u8sj; exact rfl; exact rfl; exact (by omega)) | (apply OQ.move; exact rfl)) rfl ?_ | refine JC.region ?_ | refine JL.nil ?_ | refine JE.next ?_)
      refine JL.store_eq (b := b11) (r := bc (x.set i c)) (r' := bc ((x.set i c).set (54 + i) c)) u8sj rfl rfl rfl rfl (.there .here) (by rw [bc_len (by rw [List.length_set]; exact hx)]; omega) set_bc ?_
      repeat (first | refine JL.q (by first | (apply OQ.move; exact rfl) | (apply OQ.assign; exact rfl) | (apply OQ.addN; exact rfl; exact rfl; exact (by (try simp only []); omega))) rfl ?_ | refine JC.region ?_ | refine JL.nil ?_ | refine JE.next ?_ | refine JE.blk_normal ?_)
      exact JE.again (i := (i, x)) (i + 1, (x.set i c).set (54 + i) c) ⟨hi', by dsimp only; rw [List.length_set, List.length_set]; exact hx, hsa.symm⟩ (by dsimp only; omega) (by repeat (first | exact SubE.nil | refine SubE.cons _ _ _ rfl ?_)) (Less.refl _)
    · have hi10 : i = 10 := Nat.le_antisymm hi (Nat.le_of_not_lt (of_decide_eq_false hc))
      subst hi10
      clear hi hc
      repeat (first | refine JL.q (by first | (apply OQ.len (k := t.l.length) (ad := t.ad) (cap := t.cap); exact Try.underlying33; exact rfl) | (apply OQ.convN_8; exact Try.underlying3; exact Try.underlying5; exact rfl) | (apply OQ.idxA0 (i := 11) (len := 64); exact Try.underlying51; exact u8sj; exact rfl; exact rfl; exact (by decide)) | (apply OQ.move; exact rfl)) rfl ?_ | refine JC.seq ?_ | refine JC.region ?_ | refine JC.exit ?_ | refine JE.next ?_ | refine JE.then_exit ?_ | refine JE.blk_hit ?_)
      refine JL.store_eq (b := b11) (r := bc x) (r' := bc (x.set 11 (BitVec.ofNat 8 t.l.length))) u8sj rfl rfl rfl rfl (.there .here) (by rw [bc_len hx]; decide) set_bc ?_
      have hx1 : (x.set 11 (BitVec.ofNat 8 t.l.length)).length = 64 := by rw [List.length_set]; exact hx
      have hx2 : x.set 11 (BitVec.ofNat 8 t.l.length) = mm ++ [0, BitVec.ofNat 8 t.l.length] ++ t.l.take 0 ++ List.replicate (42 - 0) 0 ++ mm := by rw [hxa]; exact setA_end hm10 _
      generalize x.set 11 (BitVec.ofNat 8 t.l.length) = x1 at hx1 hx2
      repeat (first | refine JL.q (by (apply OQ.assign; exact rfl)) rfl ?_ | refine JC.seq ?_ | refine JC.region ?_ | refine JC.block ?_ | refine JL.nil ?_ | refine JE.next ?_)
      clear hx hxa x
      refine JC.loop (fun z : Nat × Bk => [(0, N gen), (1, N rec), (2, s.v), (7, accV (some q) (bcs L).length), (8, N (k * 42)), (9, t.v), (11, Pt b11 0), (15, N z.1)]) (fun z => ⟨b11, Row 51 (bc z.2), true⟩ :: accC 51 64 (some q) (bcs L)) (fun z => t.l.length - z.1) (fun z => z.1 ≤ t.l.length ∧ z.2.length = 64 ∧ z.2 = mm ++ [0, BitVec.ofNat 8 t.l.length] ++ t.l.take z.1 ++ List.replicate (42 - z.1) 0 ++ mm) (0, x1) ⟨Nat.zero_le _, hx1, hx2⟩ (by repeat (first | exact SubE.nil | refine SubE.cons _ _ _ rfl ?_)) (.drop _ _ _ (Less.refl _)) ?_
      clear hx1 hx2 x1
      rintro ⟨i, x⟩ ⟨hi, hx, hxe⟩
      dsimp only at hi hx hxe ⊢
      repeat (first | refine JL.q (by first | (apply OQ.len (k := t.l.length) (ad := t.ad) (cap := t.cap); exact Try.underlying33; exact rfl) | (apply OQ.move; exact rfl) | (apply OQ.lssN; exact rfl; exact rfl)) rfl ?_ | refine JC.seq ?_ | refine JC.region ?_ | refine JL.nil ?_ | refine JE.next ?_)
      refine JC.cond rfl (fun hc => ?_) (fun hc => ?_)
      · have hi' : i < t.l.length := by have := of_decide_eq_true hc; omega
        clear hc
        obtain ⟨bt, jt, et, ct⟩ := ht.reads i _ (map_at U8 0 hi')
        have hvt : t.v = .slice (some ⟨bt, jt, none⟩) t.l.length t.cap := by rw [← et]; rfl
        rw [hvt]
        have hxs : x.set (12 + i) (t.l.getD i 0) = mm ++ [0, BitVec.ofNat 8 t.l.length] ++ t.l.take (i + 1) ++ List.replicate (42 - (i + 1)) 0 ++ mm := by rw [hxe]; exact setB_step hm10 hi' (by omega)
        generalize t.l.getD i 0 = c at ct hxs
        repeat (first | refine JL.q (by first | (apply OQ.addN (a := 12) (b := i); exact rfl; exact rfl; exact (by omega)) | (apply OQ.idxS1 (i := i) (b := bt) (j := jt); exact Try.underlying33; exact u8sj; exact rfl; exact rfl; exact hi') | (apply OQ.load_old; exact u8c; exact rfl; exact (block_lt_of_cell ct); exact (by simp); exact ct) | (apply OQ.idxA0 (i := 12 + i) (len := 64); exact Try.underlying51; exact u8sj; exact rfl; exact rfl; exact (by omega)) | (apply OQ.move; exact rfl)) rfl ?_ | refine JC.seq ?_ | refine JC.region ?_ | refine JC.block ?_ | refine JC.skip ?_ | refine JE.next ?_)
        refine JL.store_eq (b := b11) (r := bc x) (r' := bc (x.set (12 + i) c)) u8sj rfl rfl rfl rfl .here (by rw [bc_len hx]; omega) set_bc ?_
        repeat (first | refine JL.q (by first | (apply OQ.move; exact rfl) | (apply OQ.assign; exact rfl) | (apply OQ.addN; exact rfl; exact rfl; exact (by (try simp only []); omega))) rfl ?_ | refine JC.region ?_ | refine JL.nil ?_ | refine JE.next ?_ | refine JE.blk_normal ?_)
        exact JE.again (i := (i, x)) (i + 1, x.set (12 + i) c) ⟨hi', by dsimp only; rw [List.length_set]; exact hx, hxs⟩ (by dsimp only; omega) (by repeat (first | exact SubE.nil | refine SubE.cons _ _ _ rfl ?_)) (Less.refl _)
      · have hit : i = t.l.length := by have := of_decide_eq_false hc; omega
        have hxb : x = blk (BitVec.ofNat 32 gen) rec s.l k := by
          rw [hxe, hit, List.take_of_length_le (Nat.le_refl _), blk_is hmb htc ht42]
        repeat (first | refine JL.q (by first | (apply OQ.load_agg (cs := bc x); exact dkAg; exact dkB; exact rfl; exact .here; exact (bc_len hx); exact Row.all) | (apply OQ.move; exact rfl)) rfl ?_ | refine JC.region ?_ | refine JC.exit ?_ | refine JE.next ?_ | refine JE.then_exit ?_ | refine JE.blk_hit ?_)
        refine JL.litA (cs := bc x) Try.underlying48 dkI rfl (by decide) (by decide) rfl (bc_len hx) rfl fun b7 _ => ?_
        refine JL.perm (M' := ⟨b7, Row 51 (bc x), true⟩ :: (accC 51 64 (some q) (bcs L) ++ [⟨b11, Row 51 (bc x), true⟩])) ?_ (by exact List.Perm.cons _ (List.perm_append_singleton _ _).symm)
        refine JL.appendC (c := bc x) (L := bcs L) (some q) Try.underlying48 dkI nofun rfl rfl (bc_len hx) (fun v hv => List.all_eq_true.1 (bc_cell _) v hv) rfl (by decide) (by unfold nb at hk'; omega) (by unfold nb at hk'; omega) rfl fun b' cap' => ?_
        have eL : bcs L ++ [bc x] = bcs (L ++ [x]) := by simp [bcs]
        rw [eL]
        repeat (first | refine JL.q (by first | (apply OQ.addN (a := k * 42) (b := 42); exact rfl; exact rfl; exact (by omega)) | (apply OQ.move; exact rfl) | (apply OQ.assign; exact rfl)) rfl ?_ | refine JC.region ?_ | refine JL.nil ?_ | refine JE.next ?_ | refine JE.blk_normal ?_)
        exact JE.again (i := (k, q, L)) (k + 1, (b', cap'), L ++ [x]) ⟨hk', by dsimp only; rw [List.range_succ, List.map_append, List.map_singleton, ← hLr, ← hxb]⟩ (by dsimp only; omega) (by rw [show (k + 1) * 42 = k * 42 + 42 by omega]; exact (by repeat (first | exact SubE.nil | refine SubE.cons _ _ _ rfl ?_))) (less_pre _ _)
end Go.Proofs.Ytjkncnbpaejamaa

/-
  Of no statement by itself: what StoreBad gives, for records of up to 2000000 bytes.
  Conditions: each theorem's own.
-/
namespace Go.Proofs.Ytjkncnbpaejamaa
set_option maxRecDepth 10000
open Sl Dsk Jrn Sto
theorem old_put {n i : Nat} {l : List Bk} (h : l.length ≤ i) (hi : i < n) : old (putAt (newB n) 0 l) i = zero := by
  unfold old putAt newB
  rw [List.take_zero, List.nil_append, List.getD_eq_getElem?_getD, List.getElem?_append_right h, Nat.zero_add, List.getElem?_drop, List.getElem?_replicate, if_pos (by omega)]
  rfl
/-- a journal of the first generation, on a disk that is empty otherwise -/
theorem Jv.raw {x : Dp} {recs : List Bk} (h : recs ≠ []) (hr : room recs ≤ 60) : Jv ⟨x, 0, 60, 1#32, recs.length, room recs⟩ (putAt (newB 120) 0 (allB 1#32 0 recs)) recs := by
  have hl : (putAt (newB 120) 0 (allB 1#32 0 recs)).length = 120 := by rw [putAt_len (by rw [allB_len, newB_len]; omega), newB_len]
  refine ⟨by rw [hl]; decide, by rw [hl]; decide, by rw [hl], .inl rfl, rfl, rfl, hr, h, ?_, fun i hi ho => ?_⟩
  · show ((putAt (newB 120) 0 (allB 1#32 0 recs)).drop 0).take (room recs) = _
    unfold putAt
    rw [List.drop_zero, List.take_zero, List.nil_append, List.take_append_of_le_length (by rw [allB_len]; exact Nat.le_refl _), List.take_of_length_le (by rw [allB_len]; exact Nat.le_refl _)]
  · rw [hl] at hi
    rw [old_put (by rw [allB_len]; dsimp only at ho; omega) hi]
    exact zero_below
theorem dec_count {b : Bk} {l : List Pq} (h : dec b = some l) : 7 * l.length ≤ b.length := by
  have h1 := (dec_ok h).2
  rw [← h1]
  clear h h1
  induction l with
  | nil => simp
  | cons p l ih => simp only [List.length_cons, List.map_cons, List.sum_cons]; omega
theorem room_mem {recs : List Bk} {b : Bk} (h : b ∈ recs) : nb b.length ≤ room recs := by
  induction recs with
  | nil => cases h
  | cons r rs ih =>
    rw [room_cons]
    rcases List.mem_cons.1 h with rfl | h
    · omega
    · have := ih h; omega
theorem room_take (recs : List Bk) (i : Nat) : room (recs.take i) ≤ room recs := by
  conv => rhs; rw [← List.take_append_drop i recs, room_append]
  omega
theorem blks64 (g : BitVec 32) (r : Nat) (rec : Bk) : ∀ y ∈ blks g r rec, y.length = 64 := fun y hy => by
  obtain ⟨i, _, rfl⟩ := List.mem_map.1 hy
  exact block_len (by rw [Jrn.chunk_len]; omega)
theorem dec_step_is {o : Option (List Pq)} {c : Bool} (h : o.isSome = c) : o.isSome = c := h
section
variable {P : Program} {n : Nat} {w0 : World} {S : List Nat} {E : Env} {M : List Ent} {dst : Option Tmp} {ty : TypeId} {pos : String} {aft : Array Edge} {g : Option (Nat × Bool)} {x : Operand}
theorem OQ.loadB {b i k cap : Nat} {wr : Bool} {bl : List Bk} (hb : ∀ y ∈ bl, y.length = 64) (hx : ev E x = some (.pointer (some ⟨b, 0 + i * 64, none⟩))) (hM : Has M b (Sl.Own 51 64 k cap (bcs bl).flatten) wr) (hi : i < bl.length) :
    OQ Try.prog n E (Holds w0 S M) ⟨dst, .load 51 x, ty, pos, aft, g⟩ (.agg (bc (old bl i)).toArray) := OQ.to (OQ.loadC (L := bcs bl) (i := i) dkAg dkB hx (Nat.zero_add _) hM (bcs_len (pd := []) ⟨hb, by simp⟩) (by rw [bcs_n]; exact hi)) (by rw [bcs_at hi])
end
section
variable {n : Nat} {w0 : World} {S : List Nat} {ops : Array Oper} {Q : Exit → Act → World → Prop} {l : List Oper} {E : Env} {M : List Ent}
variable {d : Nat} {ty : TypeId} {pos : String} {aft : Array Edge} {x1 : Operand} {ats : Array TypeId} {x : Dp} {bl : List Bk}
theorem JL.sopenNo (hd : DkOk x bl []) (hno : noOpen bl = 0) (ho : decAll (curF bl).2.2 = none) (e1 : ev E x1 = some (Pt x.p 0)) (hn : Nat.blt d n = true)
    (kk : JL Try.prog n w0 S ops Q l ((d, .tuple #[.pointer none, N 9]) :: E) (dkE x bl [] ++ M)) : JL Try.prog n w0 S ops Q (⟨some d, .call ⟨.value (.func 9), #[x1], ats⟩, ty, pos, aft, none⟩ :: l) E (dkE x bl [] ++ M) :=
  JL.callV (ι := Unit) (xs := [x1]) (vs := [Pt x.p 0]) (fun _ => .tuple #[.pointer none, N 9]) (fun _ => dkE x bl []) goes_sOpen (by simp [evs, e1]) hn (dkE_wr _ _ _) (fun _ => dkE_wr _ _ _)
    (fun w _ hw => (sOpen_no x bl hd hno ho w hw).mono fun e w' ⟨g1, g2⟩ => ⟨(), g1, g2⟩) fun _ => kk
end
structure Bs16 where
  i : Nat
  qa : Acc
  pd : List (Nat × Bk)
  g : Gp
set_option maxHeartbeats 16000000 in
theorem law_storeBad (list : SlL) (w : World) (hl : list.ok w) (hsz : ∀ p ∈ list.rs, p.l.length ≤ 2000000) : Calls Try.prog 5 [list.v].toArray w fun e w' => e = .returned (.bool true) ∧ Ext w w' := by
  refine enter (n := 99) Try.func5 rfl rfl rfl (Holds.start w []) ?_
  repeat (first | refine JL.q (by first | (apply OQ.callx (vs := []); exact goes_speaks16; exact rfl; exact (fun w' _ => speaks16_any w')) | (apply OQ.not; exact rfl) | (apply OQ.assign; exact rfl)) rfl ?_ | refine JC.seq ?_ | refine JC.region ?_ | refine JL.nil ?_ | refine JE.next ?_)
  refine JC.cond_false rfl rfl ?_
  cases g0 : decide ((list.rs.length : Int) = 0)
  case true =>
    repeat (first | refine JL.q (by first | (apply OQ.len (k := list.rs.length) (ad := list.ad) (cap := list.cap); exact Try.underlying34; exact rfl) | (apply OQ.eqB (b := 0); exact rfl; exact rfl; exact g0) | (apply OQ.pick_t; exact rfl; exact rfl) | (apply OQ.move; exact rfl)) rfl ?_ | refine JC.seq ?_ | refine JC.region ?_ | refine JC.skip ?_ | refine JL.nil ?_ | refine JE.next ?_ | refine JL.gskip rfl rfl rfl rfl ?_)
    refine JC.cond_true rfl rfl ?_
    repeat (first | refine JL.q (by (apply OQ.assign; exact rfl)) rfl ?_ | refine JC.seq ?_ | refine JC.region ?_ | refine JL.nil ?_ | refine JE.next ?_)
    refine JC.ret ?_
    repeat (refine JE.then_ret ?_)
    exact JE.ret1 rfl (RV.tmp rfl) fun w' hw => ⟨rfl, hw.chg⟩
  cases g1 : decide ((10 : Int) < (list.rs.length : Int))
  case true =>
    repeat (first | refine JL.q (by first | (apply OQ.len (k := list.rs.length) (ad := list.ad) (cap := list.cap); exact Try.underlying34; exact rfl) | (apply OQ.eqB (b := 0); exact rfl; exact rfl; exact g0) | (apply OQ.gtrB (b := 10); exact rfl; exact rfl; exact g1) | (apply OQ.pick_f; exact rfl; exact rfl) | (apply OQ.pick_t; exact rfl; exact rfl) | (apply OQ.move; exact rfl)) rfl ?_ | refine JC.seq ?_ | refine JC.region ?_ | refine JC.skip ?_ | refine JL.nil ?_ | refine JE.next ?_ | refine JL.gon rfl rfl ?_ | refine JL.gskip rfl rfl rfl rfl ?_)
    refine JC.cond_true rfl rfl ?_
    repeat (first | refine JL.q (by (apply OQ.assign; exact rfl)) rfl ?_ | refine JC.seq ?_ | refine JC.region ?_ | refine JL.nil ?_ | refine JE.next ?_)
    refine JC.ret ?_
    repeat (refine JE.then_ret ?_)
    exact JE.ret1 rfl (RV.tmp rfl) fun w' hw => ⟨rfl, hw.chg⟩
  have hn0 : 0 < list.rs.length := by have := of_decide_eq_false g0; omega
  have hn1 : list.rs.length ≤ 10 := by have := of_decide_eq_false g1; omega
  have cR := fun {M} w' (hw' : Holds w [] M w') => room_any list w' (hl.holds hw' rfl) (by omega) hsz
  obtain ⟨R, hR⟩ : ∃ R, list.rs.map Sl8.l = R := ⟨_, rfl⟩
  rw [hR] at cR
  cases g2 : decide ((60 : Int) < (room R : Int))
  case true =>
    repeat (first | refine JL.q (by first | (apply OQ.len (k := list.rs.length) (ad := list.ad) (cap := list.cap); exact Try.underlying34; exact rfl) | (apply OQ.eqB (b := 0); exact rfl; exact rfl; exact g0) | (apply OQ.gtrB (b := 10); exact rfl; exact rfl; exact g1) | (apply OQ.callx (vs := [list.v]); exact goes_room; exact rfl; exact (fun w' hw' => cR w' hw')) | (apply OQ.gtrB (b := 60); exact rfl; exact rfl; exact g2) | (apply OQ.pick_f; exact rfl; exact rfl) | (apply OQ.move; exact rfl)) rfl ?_ | refine JC.seq ?_ | refine JC.region ?_ | refine JC.skip ?_ | refine JL.nil ?_ | refine JE.next ?_ | refine JL.gon rfl rfl ?_)
    refine JC.cond_true rfl rfl ?_
    repeat (first | refine JL.q (by (apply OQ.assign; exact rfl)) rfl ?_ | refine JC.seq ?_ | refine JC.region ?_ | refine JL.nil ?_ | refine JE.next ?_)
    refine JC.ret ?_
    repeat (refine JE.then_ret ?_)
    exact JE.ret1 rfl (RV.tmp rfl) fun w' hw => ⟨rfl, hw.chg⟩
  have hr60 : room R ≤ 60 := by have := of_decide_eq_false g2; omega
  repeat (first | refine JL.q (by first | (apply OQ.len (k := list.rs.length) (ad := list.ad) (cap := list.cap); exact Try.underlying34; exact rfl) | (apply OQ.eqB (b := 0); exact rfl; exact rfl; exact g0) | (apply OQ.gtrB (b := 10); exact rfl; exact rfl; exact g1) | (apply OQ.callx (vs := [list.v]); exact goes_room; exact rfl; exact (fun w' hw' => cR w' hw')) | (apply OQ.gtrB (b := 60); exact rfl; exact rfl; exact g2) | (apply OQ.pick_f; exact rfl; exact rfl) | (apply OQ.move; exact rfl)) rfl ?_ | refine JC.seq ?_ | refine JC.region ?_ | refine JC.skip ?_ | refine JL.nil ?_ | refine JE.next ?_ | refine JL.gon rfl rfl ?_)
  refine JC.cond_false rfl rfl ?_
  clear cR g0 g1 g2 hsz
  repeat (first | refine JC.seq ?_ | refine JC.region ?_ | refine JC.skip ?_ | refine JE.next ?_)
  refine JL.dnew (k := 120) (by decide) (by decide) rfl rfl fun x hx => ?_
  repeat (first | refine JL.q (by first | (apply OQ.extract; exact rfl; exact rfl) | (apply OQ.neB (a := 0) (b := 0) (c := true); exact rfl; exact rfl; exact rfl) | (apply OQ.ptrNil; exact Try.underlying25; exact rfl; exact rfl) | (apply OQ.pick_f; exact rfl; exact rfl) | (apply OQ.move; exact rfl) | (apply OQ.assign; exact rfl)) rfl ?_ | refine JC.seq ?_ | refine JC.region ?_ | refine JL.nil ?_ | refine JE.next ?_ | refine JL.gon rfl rfl ?_)
  refine JC.cond_false rfl rfl ?_
  repeat (first | refine JL.q (by (apply OQ.assign; exact rfl)) rfl ?_ | refine JC.seq ?_ | refine JC.region ?_ | refine JC.skip ?_ | refine JL.nil ?_ | refine JE.next ?_)
  refine JL.lit0N Try.underlying32 prI (by decide) rfl fun b0 _ => ?_
  refine JL.perm (M' := dkE x (newB 120) [] ++ ((⟨some (b0, 0), [], nofun, nofun⟩ : Gp).E ++ [])) ?_ (by rw [List.append_nil, List.append_nil]; exact List.perm_append_comm (l₁ := [_]))
  repeat (first | refine JL.q (by first | (apply OQ.len (k := list.rs.length) (ad := list.ad) (cap := list.cap); exact Try.underlying34; exact rfl) | (apply OQ.move; exact rfl) | (apply OQ.assign; exact rfl)) rfl ?_ | refine JC.seq ?_ | refine JC.region ?_ | refine JC.block ?_ | refine JL.nil ?_ | refine JE.next ?_)
  have hnl : (newB 120).length = 120 := newB_len _
  have hRl : R.length = list.rs.length := by rw [← hR, List.length_map]
  refine JC.loop (fun s : Bs16 => [(3, Pt x.p 0), (5, N (room (R.take s.i))), (6, .bool ((R.take s.i).any fun r => (dec r).isNone)), (7, s.g.v), (42, list.v), (43, N list.rs.length), (44, N s.i)]) (fun s => dkE ⟨x.p, x.q, x.cap, s.qa⟩ (putAt (newB 120) 0 (allB 1#32 0 (R.take s.i))) s.pd ++ (s.g.E ++ [])) (fun s => list.rs.length - s.i) (fun s => s.i ≤ list.rs.length ∧ DkOk ⟨x.p, x.q, x.cap, s.qa⟩ (putAt (newB 120) 0 (allB 1#32 0 (R.take s.i))) s.pd ∧ s.pd.length ≤ room (R.take s.i) ∧ s.g.l = pairsV (cumV (R.take s.i)) ∧ s.g.ps.length ≤ 3000 * s.i) ⟨0, x.a, [], ⟨some (b0, 0), [], nofun, nofun⟩⟩ ⟨Nat.zero_le _, by dsimp only; rw [List.take_zero, allB, putAt_nil]; exact hx, Nat.zero_le _, rfl, Nat.zero_le _⟩ (by repeat (first | exact SubE.nil | refine SubE.cons _ _ _ rfl ?_)) (by dsimp only; rw [List.take_zero, allB, putAt_nil]; exact Less.refl _) ?_
  clear hx
  rintro ⟨i, qa, pd, g⟩ ⟨hi, hd, hp, hgl, hgn⟩
  dsimp only at hi hd hp hgl hgn ⊢
  repeat (first | refine JL.q (by (apply OQ.lssN; exact rfl; exact rfl)) rfl ?_ | refine JC.seq ?_ | refine JC.region ?_ | refine JL.nil ?_ | refine JE.next ?_)
  refine JC.cond rfl (fun hc => ?_) (fun hc => ?_)
  · have hi' : i < list.rs.length := Nat.lt_of_not_le fun h => by have := of_decide_eq_true hc; omega
    clear hc
    obtain ⟨bL, jL, eL, lL, cL⟩ := slLj_at hl hn0
    have cLi := cL i hi'
    have okb := hl.all _ (getD_mem' hi')
    have hvL : list.v = .slice (some ⟨bL, jL, none⟩) list.rs.length list.cap := by rw [← eL]; rfl
    have hRt : R.take (i + 1) = R.take i ++ [(list.rs.getD i nilS).l] := by
      rw [← hR, List.take_add_one]; simp [List.getD_eq_getElem?_getD, hi']
    have hbm : (list.rs.getD i nilS).l ∈ R := by rw [← hR]; exact List.mem_map_of_mem (getD_mem' hi')
    generalize list.rs.getD i nilS = b at cLi okb hRt hbm
    have hb1 := room_mem hbm
    have hbl : b.l.length ≤ 2520 := by unfold nb at hb1; omega
    have hrt1 : room (R.take (i + 1)) = room (R.take i) + nb b.l.length := by rw [hRt, room_append]; simp [room]
    have hrt2 := room_take R (i + 1)
    have hil : (R.take i).length = i := by rw [List.length_take, hRl]; omega
    have hall : allB 1#32 0 (R.take (i + 1)) = allB 1#32 0 (R.take i) ++ blks 1#32 i b.l := by
      rw [hRt, allB_append, hil, Nat.zero_add]
      simp [allB]
    have hb64 : ∀ y ∈ blks 1#32 i b.l, y.length = 64 := blks64 1#32 i b.l
    have hbn := blks_len 1#32 i b.l
    have hbad : (R.take (i + 1)).any (fun r => (dec r).isNone) = ((R.take i).any (fun r => (dec r).isNone) || (dec b.l).isNone) := by rw [hRt, List.any_append]; simp
    have hal := allB_len 1#32 0 (R.take i)
    rw [hvL]
    repeat (first | refine JL.q (by first | (apply OQ.idxS1 (i := i) (b := bL) (j := jL); exact Try.underlying34; exact sleJ; exact rfl; exact rfl; exact hi') | (apply OQ.load_old; exact slCj; exact rfl; exact lL; exact (by simp); exact cLi) | (apply OQ.move; exact rfl) | (apply OQ.assign; exact rfl)) rfl ?_ | refine JC.seq ?_ | refine JC.region ?_ | refine JC.block ?_ | refine JC.skip ?_ | refine JL.nil ?_ | refine JE.next ?_)
    rw [← hvL]
    refine JL.callg (ι := Nat × Nat) (vs := [N 1, N i, b.v]) (fun q => accV (some q) (nb b.l.length)) (fun q => accC 51 64 (some q) (bcs (blks 1#32 i b.l))) goes_rblocks rfl rfl (fun _ => accC_wr _ _ _ _) (fun w' hw' => rblocks_any 1 i b w' (okb.holds hw' rfl) (by omega) (by decide) (by omega)) fun q => ?_
    have hq0 : some q = (none : Acc) → nb b.l.length = 0 := nofun
    refine JL.perm (M' := dkE ⟨x.p, x.q, x.cap, qa⟩ (putAt (newB 120) 0 (allB 1#32 0 (R.take i))) pd ++ (accC 51 64 (some q) (bcs (blks 1#32 i b.l)) ++ (g.E ++ []))) ?_ (by exact List.perm_append_comm_assoc _ _ _)
    repeat (first | refine JL.q (by first | (apply OQ.lenV (q := some q) (k := nb b.l.length); exact Try.underlying48; exact hq0; exact rfl) | (apply OQ.move; exact rfl)) rfl ?_ | refine JC.block ?_ | refine JL.nil ?_ | refine JE.next ?_)
    obtain ⟨bd, hbd⟩ : ∃ bd, (R.take i).any (fun r => (dec r).isNone) = bd := ⟨_, rfl⟩
    rw [hbd] at hbad ⊢
    refine JC.loop (fun z : Nat × Acc × List (Nat × Bk) => [(3, Pt x.p 0), (5, N (room (R.take i) + z.1)), (6, .bool bd), (7, g.v), (9, b.v), (42, list.v), (43, N list.rs.length), (44, N i), (51, accV (some q) (nb b.l.length)), (52, N (nb b.l.length)), (53, N z.1)]) (fun z => dkE ⟨x.p, x.q, x.cap, z.2.1⟩ (putAt (newB 120) 0 (allB 1#32 0 (R.take i) ++ (blks 1#32 i b.l).take z.1)) z.2.2 ++ (accC 51 64 (some q) (bcs (blks 1#32 i b.l)) ++ (g.E ++ []))) (fun z => nb b.l.length - z.1) (fun z => z.1 ≤ nb b.l.length ∧ DkOk ⟨x.p, x.q, x.cap, z.2.1⟩ (putAt (newB 120) 0 (allB 1#32 0 (R.take i) ++ (blks 1#32 i b.l).take z.1)) z.2.2 ∧ z.2.2.length ≤ room (R.take i) + z.1) (0, qa, pd) ⟨Nat.zero_le _, by dsimp only; rw [List.take_zero, List.append_nil]; exact hd, hp⟩ (by repeat (first | exact SubE.nil | refine SubE.cons _ _ _ rfl ?_)) (by dsimp only; rw [List.take_zero, List.append_nil]; exact Less.refl _) ?_
    clear hd hp
    rintro ⟨m, qa1, pd1⟩ ⟨hm, hd1, hp1⟩
    dsimp only at hm hd1 hp1 ⊢
    repeat (first | refine JL.q (by (apply OQ.lssN; exact rfl; exact rfl)) rfl ?_ | refine JC.seq ?_ | refine JC.region ?_ | refine JL.nil ?_ | refine JE.next ?_)
    refine JC.cond rfl (fun hc => ?_) (fun hc => ?_)
    · have hm' : m < nb b.l.length := Nat.lt_of_not_le fun h => by have := of_decide_eq_true hc; omega
      clear hc
      have hml : m < (blks 1#32 i b.l).length := by rw [hbn]; exact hm'
      have ob : (old (blks 1#32 i b.l) m).length = 64 := hb64 _ (old_mem hml)
      have hto : (blks 1#32 i b.l).take (m + 1) = (blks 1#32 i b.l).take m ++ [old (blks 1#32 i b.l) m] := by
        rw [List.take_add_one]; simp [old, List.getD_eq_getElem?_getD, hml]
      have hlt : ((blks 1#32 i b.l).take m).length = m := by rw [List.length_take]; omega
      have hps := putAt_snoc (bl := newB 120) (k := 0) (l := allB 1#32 0 (R.take i) ++ (blks 1#32 i b.l).take m) (b := old (blks 1#32 i b.l) m) (by rw [List.length_append, hal, hlt, hnl]; omega)
      rw [List.append_assoc, ← hto, List.length_append, hal, hlt, Nat.zero_add] at hps
      have hln : (putAt (newB 120) 0 (allB 1#32 0 (R.take i) ++ (blks 1#32 i b.l).take m)).length = 120 := by rw [putAt_len (by rw [List.length_append, hal, hlt, hnl]; omega), hnl]
      generalize putAt (newB 120) 0 (allB 1#32 0 (R.take i) ++ (blks 1#32 i b.l).take m) = bi at hd1 hps hln ⊢
      obtain ⟨qb, qc⟩ := q
      have hav : accV (some (qb, qc)) (nb b.l.length) = .slice (some ⟨qb, 0, none⟩) (nb b.l.length) qc := rfl
      have hH : ∀ A, Has (A ++ (dkE ⟨x.p, x.q, x.cap, qa1⟩ bi pd1 ++ (accC 51 64 (some (qb, qc)) (bcs (blks 1#32 i b.l)) ++ (g.E ++ [])))) qb (Sl.Own 51 64 (bcs (blks 1#32 i b.l)).length qc (bcs (blks 1#32 i b.l)).flatten) true := fun A => hasR (hasR .here)
      repeat (first | refine JL.q (by (apply OQ.idxS (sz := 64) (i := m) (b := qb) (j := 0); exact Try.underlying48; exact dkB; exact (congrArg some hav); exact rfl; exact hm')) rfl ?_ | refine JC.seq ?_ | refine JC.region ?_ | refine JC.block ?_ | refine JC.skip ?_ | refine JE.next ?_)
      refine JL.q (OQ.loadB (i := m) hb64 rfl (hH []) hml) rfl ?_
      generalize old (blks 1#32 i b.l) m = y at hps ob ⊢
      refine JL.alloc dkZ rfl fun b11 _ => ?_
      skip
      refine JL.store_all (cs := bc y) dkB rfl rfl (bc_len ob) (bc_cell _) .here rfl ?_
      repeat (first | refine JL.q (by first | (apply OQ.load_agg (cs := bc y); exact dkAg; exact dkB; exact rfl; exact .here; exact (bc_len ob); exact Row.all) | (apply OQ.move; exact rfl)) rfl ?_ | refine JC.seq ?_ | refine JC.region ?_ | refine JL.nil ?_ | refine JE.next ?_)
      refine JL.perm (M' := dkE ⟨x.p, x.q, x.cap, qa1⟩ bi pd1 ++ (⟨b11, Row 51 (bc y), true⟩ :: (accC 51 64 (some (qb, qc)) (bcs (blks 1#32 i b.l)) ++ (g.E ++ [])))) ?_ (by exact List.perm_middle.symm)
      refine JL.dwrite (k := room (R.take i) + m) (b := y) hd1 (by omega) ob rfl rfl rfl rfl fun z => ?_
      have hw := hd1.write (n := room (R.take i) + m) (b := y) (by omega) ob (by omega) z
      rw [hps] at hw ⊢
      repeat (first | refine JL.q (by first | (apply OQ.addN (a := room (R.take i) + m) (b := 1); exact rfl; exact rfl; exact (by omega)) | (apply OQ.addN (a := m) (b := 1); exact rfl; exact rfl; exact (by omega)) | (apply OQ.move; exact rfl) | (apply OQ.assign; exact rfl)) rfl ?_ | refine JC.region ?_ | refine JL.nil ?_ | refine JE.next ?_ | refine JE.blk_normal ?_)
      exact JE.again (i := (m, qa1, pd1)) (m + 1, some z, wrote bi pd1 (room (R.take i) + m)) ⟨hm', hw, by dsimp only; rw [wrote, List.length_append, List.length_singleton]; omega⟩ (by dsimp only; omega) (by repeat (first | exact SubE.nil | refine SubE.cons _ _ _ rfl ?_)) (less_app2 (.drop _ _ _ (Less.refl _)) _)
    have hmn : m = nb b.l.length := Nat.le_antisymm hm (Nat.le_of_not_lt fun h => by have := of_decide_eq_false hc; omega)
    clear hc
    subst hmn
    have hft : (blks 1#32 i b.l).take (nb b.l.length) = blks 1#32 i b.l := List.take_of_length_le (by rw [hbn]; exact Nat.le_refl _)
    rw [hft, ← hall] at hd1 ⊢
    rw [← hrt1] at hp1 ⊢
    generalize hb1' : putAt (newB 120) 0 (allB 1#32 0 (R.take (i + 1))) = bl1 at hd1
    repeat (first | refine JL.q (by (apply OQ.move; exact rfl)) rfl ?_ | refine JC.seq ?_ | refine JC.region ?_ | refine JC.exit ?_ | refine JE.next ?_ | refine JE.then_exit ?_ | refine JE.blk_hit ?_)
    refine JL.callg (ι := GpOf (dec b.l)) (vs := [b.v]) (fun z => decV (dec b.l) z.1) (fun z => z.1.E) goes_rDec rfl rfl (fun z => z.1.wr) (fun w' hw' => rDec_any b w' (okb.holds hw' rfl) (by omega)) fun zd => ?_
    obtain ⟨zd, hzd⟩ := zd
    dsimp only [decV]
    have hzn : zd.ps.length ≤ 3000 := by
      have h1 : zd.ps.length = ((dec b.l).getD []).length := by rw [← hzd]; unfold Gp.l; rw [List.length_map]
      rw [h1]
      cases hdd : dec b.l with
      | none => simp
      | some l => have := dec_count hdd; simp only [Option.getD_some]; omega
    cases bd with
    | true =>
      have hdec : (dec b.l).isSome = (dec b.l).isSome := rfl
      repeat (first | refine JL.q (by first | (apply OQ.extract; exact rfl; exact rfl) | (apply OQ.pick_t; exact rfl; exact rfl) | (apply OQ.move; exact rfl) | (apply OQ.assign; exact rfl)) rfl ?_ | refine JC.seq ?_ | refine JC.region ?_ | refine JL.nil ?_ | refine JE.next ?_ | refine JL.gskip rfl rfl rfl rfl ?_)
      skip
      have hD1 := dec_step_is hdec
      refine JL.perm (M' := zd.E ++ (g.E ++ (dkE ⟨x.p, x.q, x.cap, qa1⟩ bl1 pd1 ++ accC 51 64 (some q) (bcs (blks 1#32 i b.l))))) ?_ (by exact perm_cnt fun _ _ y => by simp only [List.count_append, List.count_nil]; omega)
      refine JL.rdoG g zd (by omega) rfl rfl rfl fun r => ?_
      obtain ⟨r, hr⟩ := r
      dsimp only
      have hrl : r.l = pairsV (cumV (R.take (i + 1))) := by
        rw [hRt, cumV_snoc, ← hzd]
        unfold Gp.l
        rw [hr]
        exact dpSs_is zd.ps hgl
      have hrn : r.ps.length ≤ 3000 * (i + 1) := by
        have := dpSs_len zd.ps g.ps
        rw [← hr] at this
        omega
      refine JL.perm (M' := dkE ⟨x.p, x.q, x.cap, qa1⟩ bl1 pd1 ++ (r.E ++ accC 51 64 (some q) (bcs (blks 1#32 i b.l)))) ?_ (by exact perm_cnt fun _ _ y => by simp only [List.count_append]; omega)
      repeat (first | refine JL.q (by first | (apply OQ.move; exact rfl) | (apply OQ.assign; exact rfl) | (apply OQ.addN; exact rfl; exact rfl; exact (by (try simp only []); omega))) rfl ?_ | refine JC.region ?_ | refine JL.nil ?_ | refine JE.next ?_ | refine JE.blk_normal ?_)
      subst hb1'
      exact JE.again (i := Bs16.mk i qa pd g) ⟨i + 1, qa1, pd1, r⟩ ⟨hi', hd1, hp1, hrl, hrn⟩ (by dsimp only; omega) (by rw [hbad, Bool.true_or]; exact (by repeat (first | exact SubE.nil | refine SubE.cons _ _ _ rfl ?_))) (less_app2 (less_app2 (.nil _) r.E) _)
    | false =>
      cases hdec : (dec b.l).isSome with
      | true =>
        rw [if_pos rfl]
        repeat (first | refine JL.q (by first | (apply OQ.extract; exact rfl; exact rfl) | (apply OQ.neB (a := 0) (b := 0) (c := true); exact rfl; exact rfl; exact rfl) | (apply OQ.pick_f; exact rfl; exact rfl) | (apply OQ.move; exact rfl) | (apply OQ.assign; exact rfl)) rfl ?_ | refine JC.seq ?_ | refine JC.region ?_ | refine JL.nil ?_ | refine JE.next ?_ | refine JL.gon rfl rfl ?_)
        skip
        have hD1 := dec_step_is hdec
        refine JL.perm (M' := zd.E ++ (g.E ++ (dkE ⟨x.p, x.q, x.cap, qa1⟩ bl1 pd1 ++ accC 51 64 (some q) (bcs (blks 1#32 i b.l))))) ?_ (by exact perm_cnt fun _ _ y => by simp only [List.count_append, List.count_nil]; omega)
        refine JL.rdoG g zd (by omega) rfl rfl rfl fun r => ?_
        obtain ⟨r, hr⟩ := r
        dsimp only
        have hrl : r.l = pairsV (cumV (R.take (i + 1))) := by
          rw [hRt, cumV_snoc, ← hzd]
          unfold Gp.l
          rw [hr]
          exact dpSs_is zd.ps hgl
        have hrn : r.ps.length ≤ 3000 * (i + 1) := by
          have := dpSs_len zd.ps g.ps
          rw [← hr] at this
          omega
        refine JL.perm (M' := dkE ⟨x.p, x.q, x.cap, qa1⟩ bl1 pd1 ++ (r.E ++ accC 51 64 (some q) (bcs (blks 1#32 i b.l)))) ?_ (by exact perm_cnt fun _ _ y => by simp only [List.count_append]; omega)
        repeat (first | refine JL.q (by first | (apply OQ.move; exact rfl) | (apply OQ.assign; exact rfl) | (apply OQ.addN; exact rfl; exact rfl; exact (by (try simp only []); omega))) rfl ?_ | refine JC.region ?_ | refine JL.nil ?_ | refine JE.next ?_ | refine JE.blk_normal ?_)
        subst hb1'
        exact JE.again (i := Bs16.mk i qa pd g) ⟨i + 1, qa1, pd1, r⟩ ⟨hi', hd1, hp1, hrl, hrn⟩ (by dsimp only; omega) (by rw [hbad, ← Option.not_isSome, hdec]; exact (by repeat (first | exact SubE.nil | refine SubE.cons _ _ _ rfl ?_))) (less_app2 (less_app2 (.nil _) r.E) _)
      | false =>
        rw [if_neg (by decide)]
        repeat (first | refine JL.q (by first | (apply OQ.extract; exact rfl; exact rfl) | (apply OQ.neB (a := 3) (b := 0) (c := false); exact rfl; exact rfl; exact rfl) | (apply OQ.pick_f; exact rfl; exact rfl) | (apply OQ.move; exact rfl) | (apply OQ.assign; exact rfl)) rfl ?_ | refine JC.seq ?_ | refine JC.region ?_ | refine JL.nil ?_ | refine JE.next ?_ | refine JL.gon rfl rfl ?_)
        skip
        have hD1 := dec_step_is hdec
        refine JL.perm (M' := zd.E ++ (g.E ++ (dkE ⟨x.p, x.q, x.cap, qa1⟩ bl1 pd1 ++ accC 51 64 (some q) (bcs (blks 1#32 i b.l))))) ?_ (by exact perm_cnt fun _ _ y => by simp only [List.count_append, List.count_nil]; omega)
        refine JL.rdoG g zd (by omega) rfl rfl rfl fun r => ?_
        obtain ⟨r, hr⟩ := r
        dsimp only
        have hrl : r.l = pairsV (cumV (R.take (i + 1))) := by
          rw [hRt, cumV_snoc, ← hzd]
          unfold Gp.l
          rw [hr]
          exact dpSs_is zd.ps hgl
        have hrn : r.ps.length ≤ 3000 * (i + 1) := by
          have := dpSs_len zd.ps g.ps
          rw [← hr] at this
          omega
        refine JL.perm (M' := dkE ⟨x.p, x.q, x.cap, qa1⟩ bl1 pd1 ++ (r.E ++ accC 51 64 (some q) (bcs (blks 1#32 i b.l)))) ?_ (by exact perm_cnt fun _ _ y => by simp only [List.count_append]; omega)
        repeat (first | refine JL.q (by first | (apply OQ.move; exact rfl) | (apply OQ.assign; exact rfl) | (apply OQ.addN; exact rfl; exact rfl; exact (by (try simp only []); omega))) rfl ?_ | refine JC.region ?_ | refine JL.nil ?_ | refine JE.next ?_ | refine JE.blk_normal ?_)
        subst hb1'
        exact JE.again (i := Bs16.mk i qa pd g) ⟨i + 1, qa1, pd1, r⟩ ⟨hi', hd1, hp1, hrl, hrn⟩ (by dsimp only; omega) (by rw [hbad, ← Option.not_isSome, hdec]; exact (by repeat (first | exact SubE.nil | refine SubE.cons _ _ _ rfl ?_))) (less_app2 (less_app2 (.nil _) r.E) _)
  · have hi' : i = list.rs.length := Nat.le_antisymm hi (Nat.le_of_not_lt fun h => by have := of_decide_eq_false hc; omega)
    have hRt : R.take i = R := List.take_of_length_le (by rw [hRl]; omega)
    clear hc
    rw [hRt] at hd hp hgl ⊢
    have hRn : R ≠ [] := fun e => by rw [e] at hRl; simp at hRl; omega
    have jv := Jv.raw (x := ⟨x.p, x.q, x.cap, none⟩) hRn hr60
    have hno : noOpen (putAt (newB 120) 0 (allB 1#32 0 R)) = 0 := Jv.no _ _ _ jv (by show (1#32).toNat < _; decide)
    have hcu : (curF (putAt (newB 120) 0 (allB 1#32 0 R))).2.2 = R := by rw [jv.cur]
    have hba := bad_all R
    generalize putAt (newB 120) 0 (allB 1#32 0 R) = bl at hd hno hcu ⊢
    clear jv
    rw [← hba]
    repeat (first | refine JL.q (by (apply OQ.move; exact rfl)) rfl ?_ | refine JC.seq ?_ | refine JC.region ?_ | refine JC.exit ?_ | refine JE.next ?_ | refine JE.then_exit ?_ | refine JE.blk_hit ?_)
    refine JL.dsync rfl rfl ?_
    have hd := hd.sync
    repeat (first | refine JL.q (by (apply OQ.move; exact rfl)) rfl ?_ | refine JC.seq ?_ | refine JC.region ?_ | refine JL.nil ?_ | refine JE.next ?_)
    cases ho : decAll R with
    | none =>
      refine JL.sopenNo hd hno (by rw [hcu]; exact ho) rfl rfl ?_
      repeat (first | refine JL.q (by first | (apply OQ.extract; exact rfl; exact rfl) | (apply OQ.move; exact rfl) | (apply OQ.assign; exact rfl)) rfl ?_ | refine JC.seq ?_ | refine JC.region ?_ | refine JL.nil ?_ | refine JE.next ?_)
      refine JC.cond_true rfl rfl ?_
      repeat (first | refine JL.q (by first | (apply OQ.eqB (a := 9) (b := 9) (c := true); exact rfl; exact rfl; exact rfl) | (apply OQ.ptrNil (a := none); exact Try.underlying29; exact rfl; exact rfl) | (apply OQ.pick_t; exact rfl; exact rfl) | (apply OQ.move; exact rfl) | (apply OQ.assign; exact rfl)) rfl ?_ | refine JC.seq ?_ | refine JC.region ?_ | refine JL.nil ?_ | refine JE.next ?_ | refine JL.gon rfl rfl ?_)
      refine JC.ret ?_
      repeat (refine JE.then_ret ?_)
      exact JE.ret1 rfl (RV.tmp rfl) fun w' hw => ⟨rfl, hw.chg⟩
    | some ls =>
      refine JL.sopen hd hno (by rw [hcu]; exact ho) rfl rfl fun z => ?_
      obtain ⟨z, k, hh, hbl⟩ := z
      dsimp only
      have hcv : cumV R = doL [] ls := cum_all R [] ho
      repeat (first | refine JL.q (by first | (apply OQ.extract; exact rfl; exact rfl) | (apply OQ.move; exact rfl) | (apply OQ.assign; exact rfl)) rfl ?_ | refine JC.seq ?_ | refine JC.region ?_ | refine JL.nil ?_ | refine JE.next ?_)
      refine JC.cond_false rfl rfl ?_
      rw [hcv] at hgl
      have cI := fun w' (hw' : Holds w [] (z.E ++ (g.E ++ [])) w') => is16_any z _ _ k g.s w' (Gp.ok (A := z.E) hw') (by rw [g.s_ps]; exact hgl) (stR_of hw') (k.vok hw')
      rw [g.v_eq] at cI
      repeat (first | refine JL.q (by first | (apply OQ.eqB (a := 0) (b := 0) (c := true); exact rfl; exact rfl; exact rfl) | (apply OQ.callx (vs := [Pt z.p 0, g.v]); exact goes_Is16; exact rfl; exact (fun w' hw' => cI w' hw')) | (apply OQ.pick_t; exact rfl; exact rfl) | (apply OQ.move; exact rfl) | (apply OQ.assign; exact rfl)) rfl ?_ | refine JC.seq ?_ | refine JC.region ?_ | refine JC.skip ?_ | refine JL.nil ?_ | refine JE.next ?_ | refine JL.gon rfl rfl ?_)
      refine JC.ret ?_
      skip
      exact JE.ret1 rfl (RV.tmp rfl) fun w' hw => ⟨rfl, hw.chg⟩
end Go.Proofs.Ytjkncnbpaejamaa
