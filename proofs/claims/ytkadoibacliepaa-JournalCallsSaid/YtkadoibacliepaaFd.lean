/-
  Of no statement by itself: the texts JrnHd, JrnHe, JrnHf, JrnHg, JrnW, JrnT in one.
  Conditions: each theorem's own.
-/
import Derived.Test.YtkadoibacliepaaFc
set_option linter.unusedSimpArgs false
set_option linter.unusedVariables false
/-
  Of no statement by itself: the law's Blocks, same, raw.
  Conditions: each theorem's own.
-/
namespace Go.Proofs.Ytkadoibacliepaa
set_option maxRecDepth 10000
open Sl Dsk Jrn
theorem goes_lblocks15 : Goes Try.prog 17 := ⟨_, Try.func17, rfl, by kernel_rfl⟩
theorem take_old {bl : List Bk} {i : Nat} (h : i < bl.length) : bl.take (i + 1) = bl.take i ++ [old bl i] := by
  rw [List.take_add_one]
  simp [old, List.getD_eq_getElem?_getD, h]
set_option maxHeartbeats 8000000 in
theorem lblocks15_any (x : Dp) (bl : List Bk) (pd : List (Nat × Bk)) (ok : Ok bl pd) (hn : bl.length ≤ 65536) (w : World) (h0 : Holds w [] (dkR x bl pd) w) : Calls Try.prog 17 [Pt x.p 0].toArray w fun e w' => ∃ q : Nat × Nat, e = .returned (accV (some q) bl.length) ∧ Holds w [] (accC 83 64 (some q) (bcs bl)) w' := by
  refine enter (n := 25) Try.func17 rfl rfl rfl h0 ?_
  repeat (first | refine JL.q (by (apply OQ.assign; exact rfl)) rfl ?_ | refine JC.seq ?_ | refine JC.region ?_ | refine JL.nil ?_ | refine JE.next ?_)
  refine JL.litZ Try.underlying22 dkI rfl fun b0 _ => ?_
  repeat (first | refine JL.q (by (apply OQ.assign; exact rfl)) rfl ?_ | refine JC.seq ?_ | refine JC.region ?_ | refine JC.block ?_ | refine JL.nil ?_ | refine JE.next ?_)
  refine JC.loop (fun z : Nat × (Nat × Nat) => [(0, Pt x.p 0), (3, accV (some z.2) (bcs (bl.take z.1)).length), (4, N z.1)]) (fun z => accC 83 64 (some z.2) (bcs (bl.take z.1)) ++ dkR x bl pd) (fun z => bl.length - z.1) (fun z => z.1 ≤ bl.length) (0, (b0, 0)) (Nat.zero_le _) (by repeat (first | exact SubE.nil | refine SubE.cons _ _ _ rfl ?_)) (Less.refl _) ?_
  rintro ⟨i, q⟩ hi
  dsimp only at hi ⊢
  repeat (first | refine JL.q (by first | (apply OQ.callx (vs := [Pt x.p 0]); exact goes_dsizej; exact rfl; exact (fun w' hw' => dsizeR x bl pd w' (dkR_front (A := accC 83 64 (some q) (bcs (bl.take i))) (M := []) (by rw [List.append_nil]; exact hw')))) | (apply OQ.move; exact rfl) | (apply OQ.lssN; exact rfl; exact rfl)) rfl ?_ | refine JC.seq ?_ | refine JC.region ?_ | refine JL.nil ?_ | refine JE.next ?_)
  refine JC.cond rfl (fun hc => ?_) (fun hc => ?_)
  · have hi' : i < bl.length := Nat.lt_of_not_le fun h => by have := of_decide_eq_true hc; omega
    have hto := take_old hi'
    have hb : (old bl i).length = 64 := ok.old hi'
    have cR := fun {u w' : World} {S : List Nat} {A : List Ent} (hw' : Holds u S (A ++ (dkR x bl pd ++ [])) w') => dreadR x bl pd i hi' ok w' (dkR_front hw')
    generalize old bl i = y at hb cR hto
    have hbn := bcs_n (bl.take i)
    rw [List.length_take, Nat.min_eq_left hi] at hbn
    repeat (first | refine JL.q (by first | (apply OQ.callx (vs := [Pt x.p 0, N i]); exact goes_dread; exact rfl; exact (fun w' hw' => cR (A := accC 83 64 (some q) (bcs (bl.take i))) hw')) | (apply OQ.extract; exact rfl; exact rfl) | (apply OQ.move; exact rfl)) rfl ?_ | refine JC.seq ?_ | refine JC.region ?_ | refine JC.block ?_ | refine JC.skip ?_ | refine JE.next ?_)
    refine JL.alloc dkZ rfl fun b5 _ => ?_
    refine JL.store_all (cs := bc y) dkB rfl rfl (bc_len hb) (bc_cell _) .here rfl ?_
    repeat (first | refine JL.q (by first | (apply OQ.load_agg (cs := bc y); exact dkAg; exact dkB; exact rfl; exact .here; exact (bc_len hb); exact Row.all) | (apply OQ.move; exact rfl) | (apply OQ.assign; exact rfl)) rfl ?_ | refine JC.region ?_ | refine JL.nil ?_ | refine JE.next ?_)
    refine JL.litA (cs := bc y) Try.underlying22 dkI rfl (by decide) (by decide) rfl (bc_len hb) rfl fun b7 _ => ?_
    refine JL.perm (M' := ⟨b7, Row 83 (bc y), true⟩ :: (accC 83 64 (some q) (bcs (bl.take i)) ++ (⟨b5, Row 83 (bc y), true⟩ :: dkR x bl pd))) ?_ (by exact List.Perm.cons _ (List.perm_middle).symm)
    refine JL.appendC (c := bc y) (L := bcs (bl.take i)) (some q) Try.underlying22 dkI nofun rfl rfl (bc_len hb) (fun v hv => List.all_eq_true.1 (bc_cell _) v hv) rfl (by decide) (by omega) (by omega) rfl fun b' cap' => ?_
    have eL : bcs (bl.take i) ++ [bc y] = bcs (bl.take (i + 1)) := by rw [hto]; simp [bcs]
    rw [eL]
    repeat (first | refine JL.q (by first | (apply OQ.move; exact rfl) | (apply OQ.assign; exact rfl) | (apply OQ.addN; exact rfl; exact rfl; exact (by (try simp only []); omega))) rfl ?_ | refine JC.region ?_ | refine JL.nil ?_ | refine JE.next ?_ | refine JE.blk_normal ?_)
    exact JE.again (i := (i, q)) (i + 1, (b', cap')) hi' (by dsimp only; omega) (by repeat (first | exact SubE.nil | refine SubE.cons _ _ _ rfl ?_)) (less_two (Less.refl _) (.drop _ _ _ (Less.refl _)))
  · have hi' : i = bl.length := Nat.le_antisymm hi (Nat.le_of_not_lt fun h => by have := of_decide_eq_false hc; omega)
    have ht : bl.take i = bl := List.take_of_length_le (by omega)
    rw [ht, bcs_n]
    repeat (first | refine JL.q (by first | (apply OQ.move; exact rfl) | (apply OQ.assign; exact rfl)) rfl ?_ | refine JC.seq ?_ | refine JC.region ?_ | refine JC.exit ?_ | refine JL.nil ?_ | refine JE.next ?_ | refine JE.then_exit ?_ | refine JE.blk_hit ?_)
    refine JC.ret ?_
    skip
    exact JE.ret1 rfl (RV.tmp rfl) fun w' hw => ⟨q, rfl, hw.weak (less_pre _ _)⟩
theorem goes_lsame15 : Goes Try.prog 20 := ⟨_, Try.func20, rfl, by kernel_rfl⟩
set_option maxHeartbeats 8000000 in
theorem lsame15_any (a b : SlE) (w : World) (ha : a.ok w) (hb : b.ok w) (hn : a.l.length ≤ 1000000) : Calls Try.prog 20 [a.v, b.v].toArray w fun e w' => e = .returned (.bool (decide (a.l = b.l))) ∧ Ext w w' := by
  refine enter (n := 26) Try.func20 rfl rfl rfl (Holds.start w []) ?_
  cases g1 : decide ((a.l.length : Int) = (b.l.length : Int))
  case false =>
    have hne : ¬ a.l = b.l := fun e => of_decide_eq_false g1 (by rw [e])
    rw [decide_eq_false hne]
    repeat (first | refine JL.q (by first | (apply OQ.len (k := a.l.length) (ad := a.ad) (cap := a.cap); exact Try.underlying22; exact rfl) | (apply OQ.len (k := b.l.length) (ad := b.ad) (cap := b.cap); exact Try.underlying22; exact rfl) | (apply OQ.neB; exact rfl; exact rfl; exact g1) | (apply OQ.move; exact rfl) | (apply OQ.assign; exact rfl)) rfl ?_ | refine JC.seq ?_ | refine JC.region ?_ | refine JL.nil ?_ | refine JE.next ?_)
    refine JC.cond_true rfl rfl ?_
    repeat (first | refine JL.q (by (apply OQ.assign; exact rfl)) rfl ?_ | refine JC.seq ?_ | refine JC.region ?_ | refine JL.nil ?_ | refine JE.next ?_)
    refine JC.ret ?_
    repeat (refine JE.then_ret ?_)
    exact JE.ret1 rfl (RV.tmp rfl) fun w' hw => ⟨rfl, hw.chg⟩
  have hab : a.l.length = b.l.length := by have := of_decide_eq_true g1; omega
  repeat (first | refine JL.q (by first | (apply OQ.len (k := a.l.length) (ad := a.ad) (cap := a.cap); exact Try.underlying22; exact rfl) | (apply OQ.len (k := b.l.length) (ad := b.ad) (cap := b.cap); exact Try.underlying22; exact rfl) | (apply OQ.neB; exact rfl; exact rfl; exact g1) | (apply OQ.move; exact rfl) | (apply OQ.assign; exact rfl)) rfl ?_ | refine JC.seq ?_ | refine JC.region ?_ | refine JL.nil ?_ | refine JE.next ?_)
  refine JC.cond_false rfl rfl ?_
  repeat (first | refine JL.q (by first | (apply OQ.len (k := a.l.length) (ad := a.ad) (cap := a.cap); exact Try.underlying22; exact rfl) | (apply OQ.move; exact rfl)) rfl ?_ | refine JC.seq ?_ | refine JC.region ?_ | refine JC.block ?_ | refine JC.skip ?_ | refine JL.nil ?_ | refine JE.next ?_)
  refine JC.loop (fun i : Nat => [(0, a.v), (1, b.v), (12, N a.l.length), (13, N i)]) (fun _ => []) (fun i => a.l.length - i) (fun i => i ≤ a.l.length ∧ a.l.take i = b.l.take i) 0 ⟨Nat.zero_le _, rfl⟩ (by repeat (first | exact SubE.nil | refine SubE.cons _ _ _ rfl ?_)) (Less.refl _) ?_
  rintro i ⟨hi, ht⟩
  repeat (first | refine JL.q (by (apply OQ.lssN; exact rfl; exact rfl)) rfl ?_ | refine JC.seq ?_ | refine JC.region ?_ | refine JL.nil ?_ | refine JE.next ?_)
  refine JC.cond rfl (fun hc => ?_) (fun hc => ?_)
  · have hi' : i < a.l.length := Nat.lt_of_not_le fun h => by have := of_decide_eq_true hc; omega
    obtain ⟨ba, ja, ea, la, ca⟩ := ha.at hi'
    obtain ⟨bb, jb, eb, lb, cb⟩ := hb.at (show i < b.l.length by omega)
    have ta := take_old hi'
    have tb := take_old (show i < b.l.length by omega)
    have oa : (old a.l i).length = 64 := ha.ok.old hi'
    have ob : (old b.l i).length = 64 := hb.ok.old (by omega)
    generalize old a.l i = xa at ca oa ta
    generalize old b.l i = xb at cb ob tb
    have za : szT Try.prog 83 = some (bc xa).length := by rw [bc_len oa]; exact dkB
    have zb : szT Try.prog 83 = some (bc xb).length := by rw [bc_len ob]; exact dkB
    have hva : a.v = .slice (some ⟨ba, ja, none⟩) a.l.length a.cap := by rw [← ea]; rfl
    have hvb : b.v = .slice (some ⟨bb, jb, none⟩) b.l.length b.cap := by rw [← eb]; rfl
    rw [hva, hvb]
    repeat (first | refine JL.q (by first | (apply OQ.move; exact rfl) | (apply OQ.assign; exact rfl)) rfl ?_ | refine JC.seq ?_ | refine JC.region ?_ | refine JC.block ?_ | refine JC.skip ?_ | refine JL.nil ?_ | refine JE.next ?_)
    refine JC.quiet mixT (by kernel_rfl) ?_
    repeat (first | refine JQ.q (by first | (apply OQ.idxS (i := i) (b := ba) (j := ja); exact Try.underlying22; exact dkB; exact rfl; exact rfl; exact hi') | (apply OQ.idxS (i := i) (b := bb) (j := jb); exact Try.underlying22; exact dkB; exact rfl; exact rfl; exact (show i < b.l.length by omega)) | (apply OQ.load_agg_old (cs := bc xa); exact dkAg; exact rfl; exact za; exact la; exact (by simp); exact ca) | (apply OQ.load_agg_old (cs := bc xb); exact dkAg; exact rfl; exact zb; exact lb; exact (by simp); exact cb) | (apply OQ.neA (r := xa) (q := xb); exact Try.underlying83; exact Try.underlying5; exact u8s; exact gdBlk; exact rfl; exact rfl; exact oa; exact ob) | (apply OQ.move; exact rfl)) rfl ?_ | refine JQ.nil ?_ | refine JE.next ?_)
    cases g2 : decide (xa = xb)
    case false =>
      refine JC.cond_true rfl rfl ?_
      have hne : ¬ a.l = b.l := fun e => by
        rw [e, tb] at ta
        exact of_decide_eq_false g2 (by simpa using (List.append_cancel_left ta).symm)
      rw [decide_eq_false hne]
      repeat (first | refine JL.q (by (apply OQ.assign; exact rfl)) rfl ?_ | refine JC.seq ?_ | refine JC.region ?_ | refine JL.nil ?_ | refine JE.next ?_)
      refine JC.ret ?_
      repeat (first | refine JE.then_ret ?_ | refine JE.blk_ret ?_)
      exact JE.ret1 rfl (RV.tmp rfl) fun w' hw => ⟨rfl, hw.chg⟩
    case true =>
      refine JC.cond_false rfl rfl ?_
      repeat (first | refine JL.q (by first | (apply OQ.move; exact rfl) | (apply OQ.addN; exact rfl; exact rfl; exact (by (try simp only []); omega))) rfl ?_ | refine JC.region ?_ | refine JC.skip ?_ | refine JL.nil ?_ | refine JE.next ?_ | refine JE.blk_normal ?_)
      exact JE.again (i := i) (i + 1) ⟨hi', by rw [ta, tb, ht, of_decide_eq_true g2]⟩ (by omega) (by repeat (first | exact SubE.nil | refine SubE.cons _ _ _ rfl ?_)) (Less.refl _)
  · have hi' : i = a.l.length := Nat.le_antisymm hi (Nat.le_of_not_lt fun h => by have := of_decide_eq_false hc; omega)
    have he : a.l = b.l := by
      rw [hi', List.take_length, hab, List.take_length] at ht
      exact ht
    rw [decide_eq_true he]
    repeat (first | refine JL.q (by (apply OQ.assign; exact rfl)) rfl ?_ | refine JC.seq ?_ | refine JC.region ?_ | refine JC.exit ?_ | refine JL.nil ?_ | refine JE.next ?_ | refine JE.then_exit ?_ | refine JE.blk_hit ?_)
    refine JC.ret ?_
    skip
    exact JE.ret1 rfl (RV.tmp rfl) fun w' hw => ⟨rfl, hw.chg⟩
theorem goes_lraw15 : Goes Try.prog 13 := ⟨_, Try.func13, rfl, by kernel_rfl⟩
theorem lraw15_no (s : SlE) (w : World) (hno : s.l.length = 0 ∨ 100 < s.l.length) : Calls Try.prog 13 [s.v].toArray w fun e w' => e = .returned (.pointer none) ∧ Ext w w' := by
  refine enter (n := 42) Try.func13 rfl rfl rfl (Holds.start w []) ?_
  cases g1 : decide ((s.l.length : Int) = 0)
  case true =>
    repeat (first | refine JL.q (by first | (apply OQ.len (k := s.l.length) (ad := s.ad) (cap := s.cap); exact Try.underlying22; exact rfl) | (apply OQ.eqB (b := 0); exact rfl; exact rfl; exact g1) | (apply OQ.pick_t; exact rfl; exact rfl) | (apply OQ.move; exact rfl) | (apply OQ.assign; exact rfl)) rfl ?_ | refine JC.seq ?_ | refine JC.region ?_ | refine JL.nil ?_ | refine JE.next ?_ | refine JL.gskip rfl rfl rfl rfl ?_)
    refine JC.cond_true rfl rfl ?_
    repeat (first | refine JL.q (by (apply OQ.assign; exact rfl)) rfl ?_ | refine JC.seq ?_ | refine JC.region ?_ | refine JL.nil ?_ | refine JE.next ?_)
    refine JC.ret ?_
    repeat (refine JE.then_ret ?_)
    exact JE.ret1 rfl (RV.tmp rfl) fun w' hw => ⟨rfl, hw.chg⟩
  case false =>
    have g2 : decide ((100 : Int) < (s.l.length : Int)) = true := decide_eq_true (by have := of_decide_eq_false g1; omega)
    repeat (first | refine JL.q (by first | (apply OQ.len (k := s.l.length) (ad := s.ad) (cap := s.cap); exact Try.underlying22; exact rfl) | (apply OQ.eqB (b := 0); exact rfl; exact rfl; exact g1) | (apply OQ.gtrB (b := 100); exact rfl; exact rfl; exact g2) | (apply OQ.pick_f; exact rfl; exact rfl) | (apply OQ.move; exact rfl) | (apply OQ.assign; exact rfl)) rfl ?_ | refine JC.seq ?_ | refine JC.region ?_ | refine JL.nil ?_ | refine JE.next ?_ | refine JL.gon rfl rfl ?_)
    refine JC.cond_true rfl rfl ?_
    repeat (first | refine JL.q (by (apply OQ.assign; exact rfl)) rfl ?_ | refine JC.seq ?_ | refine JC.region ?_ | refine JL.nil ?_ | refine JE.next ?_)
    refine JC.ret ?_
    repeat (refine JE.then_ret ?_)
    exact JE.ret1 rfl (RV.tmp rfl) fun w' hw => ⟨rfl, hw.chg⟩
set_option maxHeartbeats 16000000 in
theorem lraw15_yes (s : SlE) (w : World) (hs : s.ok w) (h0 : 0 < s.l.length) (h1 : s.l.length ≤ 100) : Calls Try.prog 13 [s.v].toArray w fun e w' => ∃ x : {x : Dp // DkOk x s.l []}, e = .returned (Pt x.1.p 0) ∧ Holds w [] (dkE x.1 s.l []) w' := by
  have g1 : decide ((s.l.length : Int) = 0) = false := decide_eq_false (by omega)
  have g2 : decide ((100 : Int) < (s.l.length : Int)) = false := decide_eq_false (by omega)
  refine enter (n := 42) Try.func13 rfl rfl rfl (Holds.start w []) ?_
  repeat (first | refine JL.q (by first | (apply OQ.len (k := s.l.length) (ad := s.ad) (cap := s.cap); exact Try.underlying22; exact rfl) | (apply OQ.eqB (b := 0); exact rfl; exact rfl; exact g1) | (apply OQ.gtrB (b := 100); exact rfl; exact rfl; exact g2) | (apply OQ.pick_f; exact rfl; exact rfl) | (apply OQ.move; exact rfl) | (apply OQ.assign; exact rfl)) rfl ?_ | refine JC.seq ?_ | refine JC.region ?_ | refine JL.nil ?_ | refine JE.next ?_ | refine JL.gon rfl rfl ?_)
  refine JC.cond_false rfl rfl ?_
  repeat (first | refine JL.q (by first | (apply OQ.len (k := s.l.length) (ad := s.ad) (cap := s.cap); exact Try.underlying22; exact rfl) | (apply OQ.move; exact rfl)) rfl ?_ | refine JC.seq ?_ | refine JC.region ?_ | refine JC.skip ?_ | refine JE.next ?_)
  refine JL.dnew (k := s.l.length) (by omega) (by omega) rfl rfl fun x hx => ?_
  repeat (first | refine JL.q (by first | (apply OQ.extract; exact rfl; exact rfl) | (apply OQ.neB (a := 0) (b := 0) (c := true); exact rfl; exact rfl; exact rfl) | (apply OQ.ptrNil; exact Try.underlying25; exact rfl; exact rfl) | (apply OQ.pick_f; exact rfl; exact rfl) | (apply OQ.move; exact rfl) | (apply OQ.assign; exact rfl)) rfl ?_ | refine JC.seq ?_ | refine JC.region ?_ | refine JL.nil ?_ | refine JE.next ?_ | refine JL.gon rfl rfl ?_)
  refine JC.cond_false rfl rfl ?_
  repeat (first | refine JL.q (by first | (apply OQ.len (k := s.l.length) (ad := s.ad) (cap := s.cap); exact Try.underlying22; exact rfl) | (apply OQ.move; exact rfl)) rfl ?_ | refine JC.seq ?_ | refine JC.region ?_ | refine JC.block ?_ | refine JC.skip ?_ | refine JL.nil ?_ | refine JE.next ?_)
  have hnl : (newB s.l.length).length = s.l.length := newB_len _
  refine JC.loop (fun z : Nat × Acc × List (Nat × Bk) => [(3, Pt x.p 0), (27, s.v), (28, N s.l.length), (29, N z.1)]) (fun z => dkE ⟨x.p, x.q, x.cap, z.2.1⟩ (putAt (newB s.l.length) 0 (s.l.take z.1)) z.2.2) (fun z => s.l.length - z.1) (fun z => z.1 ≤ s.l.length ∧ DkOk ⟨x.p, x.q, x.cap, z.2.1⟩ (putAt (newB s.l.length) 0 (s.l.take z.1)) z.2.2 ∧ z.2.2.length ≤ z.1) (0, x.a, []) ⟨Nat.zero_le _, by rw [List.take_zero, putAt_nil]; exact hx, Nat.le_refl _⟩ (by repeat (first | exact SubE.nil | refine SubE.cons _ _ _ rfl ?_)) (by rw [List.take_zero, putAt_nil]; exact less_pre _ _) ?_
  clear hx
  rintro ⟨i, qa, ps⟩ ⟨hi, hd, hp⟩
  dsimp only at hi hd hp ⊢
  repeat (first | refine JL.q (by (apply OQ.lssN; exact rfl; exact rfl)) rfl ?_ | refine JC.seq ?_ | refine JC.region ?_ | refine JL.nil ?_ | refine JE.next ?_)
  refine JC.cond rfl (fun hc => ?_) (fun hc => ?_)
  · have hi' : i < s.l.length := Nat.lt_of_not_le fun h => by have := of_decide_eq_true hc; omega
    obtain ⟨b, j, e, lb, c⟩ := hs.at hi'
    have ob : (old s.l i).length = 64 := hs.ok.old hi'
    have hto := take_old hi'
    have hps := putAt_snoc (bl := newB s.l.length) (k := 0) (l := s.l.take i) (b := old s.l i) (by rw [List.length_take, hnl]; omega)
    rw [← hto, List.length_take, Nat.min_eq_left hi, Nat.zero_add] at hps
    have hln : (putAt (newB s.l.length) 0 (s.l.take i)).length = s.l.length := by rw [putAt_len (by rw [List.length_take, hnl]; omega), hnl]
    generalize old s.l i = y at c ob hps
    have zy : szT Try.prog 83 = some (bc y).length := by rw [bc_len ob]; exact dkB
    have hv : s.v = .slice (some ⟨b, j, none⟩) s.l.length s.cap := by rw [← e]; rfl
    rw [hv]
    generalize putAt (newB s.l.length) 0 (s.l.take i) = bi at hd hps hln ⊢
    repeat (first | refine JL.q (by first | (apply OQ.idxS (i := i) (b := b) (j := j); exact Try.underlying22; exact dkB; exact rfl; exact rfl; exact hi') | (apply OQ.load_agg_old (cs := bc y); exact dkAg; exact rfl; exact zy; exact lb; exact (by simp); exact c) | (apply OQ.move; exact rfl)) rfl ?_ | refine JC.seq ?_ | refine JC.region ?_ | refine JC.block ?_ | refine JC.skip ?_ | refine JE.next ?_)
    refine JL.alloc dkZ rfl fun b6 _ => ?_
    repeat (refine JL.q (by (apply OQ.assign; exact rfl)) rfl ?_)
    refine JL.store_all (cs := bc y) dkB rfl rfl (bc_len ob) (bc_cell _) .here rfl ?_
    repeat (first | refine JL.q (by first | (apply OQ.load_agg (cs := bc y); exact dkAg; exact dkB; exact rfl; exact .here; exact (bc_len ob); exact Row.all) | (apply OQ.move; exact rfl)) rfl ?_ | refine JC.region ?_ | refine JL.nil ?_ | refine JE.next ?_)
    refine JL.perm (M' := dkE ⟨x.p, x.q, x.cap, qa⟩ bi ps ++ [⟨b6, Row 83 (bc y), true⟩]) ?_ (by exact List.perm_append_comm (l₁ := [_]))
    refine JL.dwrite (k := i) (b := y) hd (by omega) ob rfl rfl rfl rfl fun z => ?_
    have hw := hd.write (n := i) (b := y) (by omega) ob (by omega) z
    rw [hps] at hw ⊢
    repeat (first | refine JL.q (by first | (apply OQ.move; exact rfl) | (apply OQ.addN; exact rfl; exact rfl; exact (by (try simp only []); omega))) rfl ?_ | refine JC.region ?_ | refine JL.nil ?_ | refine JE.next ?_ | refine JE.blk_normal ?_)
    exact JE.again (i := (i, qa, ps)) (i + 1, some z, wrote bi ps i) ⟨hi', hw, by dsimp only; rw [wrote, List.length_append, List.length_singleton]; omega⟩ (by dsimp only; omega) (by repeat (first | exact SubE.nil | refine SubE.cons _ _ _ rfl ?_)) (less_pre _ _)
  · have hi' : i = s.l.length := Nat.le_antisymm hi (Nat.le_of_not_lt fun h => by have := of_decide_eq_false hc; omega)
    have hb : putAt (newB s.l.length) 0 (s.l.take i) = s.l := by
      rw [hi', List.take_length]
      unfold putAt
      rw [List.take_zero, List.nil_append, Nat.zero_add, List.drop_of_length_le (by rw [hnl]; exact Nat.le_refl _), List.append_nil]
    rw [hb] at hd ⊢
    repeat (first | refine JL.q (by (apply OQ.move; exact rfl)) rfl ?_ | refine JC.seq ?_ | refine JC.region ?_ | refine JC.exit ?_ | refine JE.next ?_ | refine JE.then_exit ?_ | refine JE.blk_hit ?_)
    refine JL.perm ?_ (List.Perm.of_eq (List.append_nil _).symm)
    refine JL.dsync rfl rfl ?_
    rw [List.append_nil]
    repeat (first | refine JL.q (by first | (apply OQ.move; exact rfl) | (apply OQ.assign; exact rfl)) rfl ?_ | refine JC.seq ?_ | refine JC.region ?_ | refine JL.nil ?_ | refine JE.next ?_)
    refine JC.ret ?_
    skip
    exact JE.ret1 rfl (RV.tmp rfl) fun w' hw => ⟨⟨⟨x.p, x.q, x.cap, none⟩, hd.sync⟩, rfl, hw⟩
end Go.Proofs.Ytkadoibacliepaa

/-
  Of no statement by itself: the law's opens.
  Conditions: each theorem's own.
-/
namespace Go.Proofs.Ytkadoibacliepaa
set_option maxRecDepth 10000
open Sl Dsk Jrn
theorem goes_lopens15 : Goes Try.prog 15 := ⟨_, Try.func15, rfl, by kernel_rfl⟩
/-- all blocks of a disk, as memory of one's own -/
theorem ownB {w0 w : World} {S : List Nat} {A M : List Ent} {q : Nat × Nat} {bl : List Bk} (hw : Holds w0 S (A ++ (accC 83 64 (some q) (bcs bl) ++ M)) w) (hb : ∀ b ∈ bl, b.length = 64) : SlE.ok w ⟨some ⟨q.1, 0, none⟩, q.2, bl⟩ := by
  refine slE_own (wr := true) hw (hasR (N := A) ?_) hb
  show Has (⟨q.1, Sl.Own 83 64 (bcs bl).length q.2 (bcs bl).flatten, true⟩ :: M) _ _ _
  rw [bcs_n]
  exact .here
theorem rec_len {recs : List Bk} {y : Bk} (h : y ∈ recs) : y.length ≤ room recs * 42 := by
  induction recs with
  | nil => cases h
  | cons r rs ih =>
    rw [room_cons, Nat.add_mul]
    rcases List.mem_cons.1 h with rfl | h
    · have := nb_le y.length; omega
    · have := ih h; omega
set_option maxHeartbeats 16000000 in
theorem lopens15_no (x : Dp) (bl : List Bk) (pd : List (Nat × Bk)) (ok : Ok bl pd) (hn : bl.length ≤ 65535) (hno : noOpen bl ≠ 0) (w : World) (h0 : Holds w [] (dkR x bl pd) w) :
    Calls Try.prog 15 [Pt x.p 0].toArray w fun e w' => e = .returned (.tuple #[.pointer none, .bool true]) ∧ Ext w w' := by
  refine enter (n := 103) Try.func15 rfl rfl rfl h0 ?_
  repeat (first | refine JL.q (by first | (apply OQ.move; exact rfl) | (apply OQ.assign; exact rfl)) rfl ?_ | refine JC.seq ?_ | refine JC.region ?_ | refine JL.nil ?_ | refine JE.next ?_)
  refine JL.callg (ι := Nat × Nat) (vs := [Pt x.p 0]) (fun q => accV (some q) bl.length) (fun q => accC 83 64 (some q) (bcs bl)) goes_lblocks15 rfl rfl (fun _ => accC_wr _ _ _ _) (fun w' hw' => lblocks15_any x bl pd ok (by omega) w' (dkR_front (A := []) (M := []) (by rw [List.append_nil]; exact hw'))) fun q => ?_
  have hq0 : some q = (none : Acc) → bl.length = 0 := nofun
  have cO := fun {w' : World} (hw' : Holds w [] (accC 83 64 (some q) (bcs bl) ++ dkR x bl pd) w') => Open_no x bl pd ok (by omega) hno w' (dkR_front (A := accC 83 64 (some q) (bcs bl)) (M := []) (by rw [List.append_nil]; exact hw'))
  by_cases h4 : bl.length < 4
  · have e2 : noOpen bl = 2 := by unfold noOpen; rw [if_pos h4]
    rw [e2] at cO
    have g4 : decide ((bl.length : Int) < 4) = true := decide_eq_true (by omega)
    repeat (first | refine JL.q (by first | (apply OQ.callx (vs := [Pt x.p 0]); exact goes_jOpen; exact rfl; exact (fun w' hw' => cO hw')) | (apply OQ.extract; exact rfl; exact rfl) | (apply OQ.lenV (q := some q) (k := bl.length); exact Try.underlying22; exact hq0; exact rfl) | (apply OQ.lssB (b := 4); exact rfl; exact rfl; exact g4) | (apply OQ.move; exact rfl) | (apply OQ.assign; exact rfl)) rfl ?_ | refine JC.seq ?_ | refine JC.region ?_ | refine JL.nil ?_ | refine JE.next ?_)
    refine JC.cond_true rfl rfl ?_
    repeat (first | refine JL.q (by first | (apply OQ.eqB (a := 2) (b := 2) (c := true); exact rfl; exact rfl; exact rfl) | (apply OQ.ptrNil; exact Try.underlying28; exact rfl; exact rfl) | (apply OQ.pick_t; exact rfl; exact rfl) | (apply OQ.move; exact rfl) | (apply OQ.assign; exact rfl)) rfl ?_ | refine JC.seq ?_ | refine JC.region ?_ | refine JL.nil ?_ | refine JE.next ?_ | refine JL.gon rfl rfl ?_)
    refine JC.ret ?_
    repeat (refine JE.then_ret ?_)
    exact JE.ret2 rfl (RV.tmp rfl) (RV.tmp rfl) fun w' hw => ⟨rfl, hw.chg⟩
  · have hg : gm bl = 4294967295#32 := by
      unfold noOpen at hno
      rw [if_neg h4] at hno
      by_cases hg : gm bl = 4294967295#32
      · exact hg
      · rw [if_neg hg] at hno; exact absurd rfl hno
    have e6 : noOpen bl = 6 := by unfold noOpen; rw [if_neg h4, if_pos hg]
    rw [e6] at cO
    have g4 : decide ((bl.length : Int) < 4) = false := decide_eq_false (by omega)
    repeat (first | refine JL.q (by first | (apply OQ.callx (vs := [Pt x.p 0]); exact goes_jOpen; exact rfl; exact (fun w' hw' => cO hw')) | (apply OQ.extract; exact rfl; exact rfl) | (apply OQ.lenV (q := some q) (k := bl.length); exact Try.underlying22; exact hq0; exact rfl) | (apply OQ.lssB (b := 4); exact rfl; exact rfl; exact g4) | (apply OQ.move; exact rfl) | (apply OQ.assign; exact rfl)) rfl ?_ | refine JC.seq ?_ | refine JC.region ?_ | refine JL.nil ?_ | refine JE.next ?_)
    refine JC.cond_false rfl rfl ?_
    have hsv : accV (some q) bl.length = (⟨some ⟨q.1, 0, none⟩, q.2, bl⟩ : SlE).v := rfl
    rw [hsv]
    repeat (first | refine JL.q (by (apply OQ.move; exact rfl)) rfl ?_ | refine JC.seq ?_ | refine JC.region ?_ | refine JC.skip ?_ | refine JE.next ?_)
    refine JL.callg (ι := GrOf (diskR bl).2.2 bl.length) (vs := [(⟨some ⟨q.1, 0, none⟩, q.2, bl⟩ : SlE).v]) (fun z => .tuple #[.bool (diskR bl).1, N (diskR bl).2.1, z.1.v]) (fun z => z.1.E) goes_rdisk15 rfl rfl (fun z => z.1.wr) (fun w' hw' => rdisk15_any ⟨some ⟨q.1, 0, none⟩, q.2, bl⟩ w' (ownB (A := []) hw' ok.b) hn) fun z => ?_
    have cN := fun {A M : List Ent} {w' : World} (hw' : Holds w [] (A ++ (accC 83 64 (some q) (bcs bl) ++ M)) w') => newest_any ⟨some ⟨q.1, 0, none⟩, q.2, bl⟩ w' (ownB hw' ok.b) (by show bl.length ≤ _; omega)
    have eN : (gm bl).toNat + 1 = 4294967296 := by rw [hg]; rfl
    dsimp only at cN
    rw [eN] at cN
    repeat (first | refine JL.q (by first | (apply OQ.extract; exact rfl; exact rfl) | (apply OQ.eqN; exact rfl; exact rfl) | (apply OQ.move; exact rfl) | (apply OQ.assign; exact rfl)) rfl ?_ | refine JC.seq ?_ | refine JC.region ?_ | refine JL.nil ?_ | refine JE.next ?_)
    refine JC.join (ι := List Ent) (fun _ => [(4, (⟨some ⟨q.1, 0, none⟩, q.2, bl⟩ : SlE).v), (5, .pointer none), (6, N 6)]) (fun A => A ++ (accC 83 64 (some q) (bcs bl) ++ dkR x bl pd)) (fun _ => True) ?_ ?_
    · refine JC.cond rfl (fun _ => ?_) (fun _ => ?_)
      · repeat (refine JC.region ?_)
        refine JL.lit0O Try.underlying31 u8e rfl fun b40 _ => ?_
        refine JL.lit1 (v := .slice (some ⟨b40, 0, none⟩) 0 0) Try.underlying34 slEj rfl rfl rfl rfl fun b41 _ => ?_
        repeat (first | refine JL.q (by (apply OQ.assign; exact rfl)) rfl ?_ | refine JL.nil ?_)
        exact JE.mid (⟨b41, _, true⟩ :: ⟨b40, _, true⟩ :: z.1.E) trivial (by repeat (first | exact SubE.nil | refine SubE.cons _ _ _ rfl ?_)) (Less.refl _)
      · repeat (refine JC.skip ?_)
        exact JE.mid z.1.E trivial (by repeat (first | exact SubE.nil | refine SubE.cons _ _ _ rfl ?_)) (Less.refl _)
    rintro A _
    repeat (first | refine JL.q (by first | (apply OQ.callx (vs := [(⟨some ⟨q.1, 0, none⟩, q.2, bl⟩ : SlE).v]); exact goes_newest; exact rfl; exact (fun w' hw' => cN hw')) | (apply OQ.geqB (a := 4294967296) (b := 4294967296) (c := true); exact rfl; exact rfl; exact rfl) | (apply OQ.move; exact rfl) | (apply OQ.assign; exact rfl)) rfl ?_ | refine JC.seq ?_ | refine JC.region ?_ | refine JL.nil ?_ | refine JE.next ?_)
    refine JC.cond_true rfl rfl ?_
    repeat (first | refine JL.q (by first | (apply OQ.eqB (a := 6) (b := 6) (c := true); exact rfl; exact rfl; exact rfl) | (apply OQ.ptrNil; exact Try.underlying28; exact rfl; exact rfl) | (apply OQ.pick_t; exact rfl; exact rfl) | (apply OQ.move; exact rfl) | (apply OQ.assign; exact rfl)) rfl ?_ | refine JC.seq ?_ | refine JC.region ?_ | refine JL.nil ?_ | refine JE.next ?_ | refine JL.gon rfl rfl ?_)
    refine JC.ret ?_
    repeat (refine JE.then_ret ?_)
    exact JE.ret2 rfl (RV.tmp rfl) (RV.tmp rfl) fun w' hw => ⟨rfl, hw.chg⟩
end Go.Proofs.Ytkadoibacliepaa

/-
  Of no statement by itself: the law's opens, where a journal is opened.
  Conditions: each theorem's own.
-/
namespace Go.Proofs.Ytkadoibacliepaa
set_option maxRecDepth 10000
open Sl Dsk Jrn
theorem perm_in (b15 q : Ent) (B J E : List Ent) : (b15 :: (B ++ (J ++ ([q] ++ E)))).Perm ([q] ++ (b15 :: (B ++ (J ++ E)))) := by
  rw [show b15 :: (B ++ (J ++ ([q] ++ E))) = (b15 :: (B ++ J)) ++ q :: E by simp, show [q] ++ (b15 :: (B ++ (J ++ E))) = q :: ((b15 :: (B ++ J)) ++ E) by simp]
  exact List.perm_middle
theorem perm_out (q b15 : Ent) (B J E : List Ent) : (q :: (b15 :: (B ++ (J ++ E)))).Perm (B ++ (J ++ (q :: (E ++ [b15])))) := by
  rw [show B ++ (J ++ (q :: (E ++ [b15]))) = (B ++ J) ++ q :: (E ++ [b15]) by simp]
  refine List.Perm.trans ?_ List.perm_middle.symm
  refine List.Perm.cons _ ?_
  rw [show (B ++ J) ++ (E ++ [b15]) = (B ++ (J ++ E)) ++ [b15] by simp]
  exact (List.perm_append_singleton _ _).symm
set_option maxHeartbeats 64000000 in
theorem lopens15_yes (x : Dp) (bl : List Bk) (hd : DkOk x bl []) (hn : bl.length ≤ 10000) (hno : noOpen bl = 0) (w : World) (h0 : Holds w (keys (dkE x bl [])) (dkE x bl []) w) :
    Calls Try.prog 15 [Pt x.p 0].toArray w fun e w' => ∃ j : Nat, e = .returned (.tuple #[Pt j 0, .bool true]) ∧ Holds w (keys (dkE x bl [])) (jnE j (opnJ x bl) (opnD bl) []) w' := by
  have h4 : ¬ bl.length < 4 := fun h => by unfold noOpen at hno; rw [if_pos h] at hno; cases hno
  have hg : ¬ gm bl = 4294967295#32 := fun h => by unfold noOpen at hno; rw [if_neg h4, if_pos h] at hno; cases hno
  have hgl : (gm bl).toNat + 1 < 4294967296 := by
    have h1 := (gm bl).isLt
    have h2 : (gm bl).toNat ≠ 4294967295 := fun e => hg (BitVec.eq_of_toNat_eq e)
    omega
  have ok := hd.ok
  have v := Jv.opn (x := x) ok.b (by omega) hno
  have d2 := hd.opn hno
  have hdr := diskR_is (l := bl) (by omega) (by omega)
  have ⟨hr1, hr2, hr3⟩ := curF_room (bl := bl) ok.b (by omega)
  have hxp : (opnJ x bl).x.p = x.p := rfl
  have g4 : decide ((bl.length : Int) < 4) = false := decide_eq_false (by omega)
  generalize hS : keys (dkE x bl []) = S at h0 ⊢
  refine enter (n := 103) Try.func15 rfl rfl rfl h0 ?_
  repeat (first | refine JL.q (by first | (apply OQ.move; exact rfl) | (apply OQ.assign; exact rfl)) rfl ?_ | refine JC.seq ?_ | refine JC.region ?_ | refine JL.nil ?_ | refine JE.next ?_)
  refine JL.callg (ι := Nat × Nat) (vs := [Pt x.p 0]) (fun q => accV (some q) bl.length) (fun q => accC 83 64 (some q) (bcs bl)) goes_lblocks15 rfl rfl (fun _ => accC_wr _ _ _ _) (fun w' hw' => lblocks15_any x bl [] ok (by omega) w' (dkR_of (M := []) (by rw [List.append_nil]; exact hw'))) fun q => ?_
  have hq0 : some q = (none : Acc) → bl.length = 0 := nofun
  have hsv : accV (some q) bl.length = (⟨some ⟨q.1, 0, none⟩, q.2, bl⟩ : SlE).v := rfl
  rw [hsv]
  refine JL.perm (M' := dkE x bl [] ++ accC 83 64 (some q) (bcs bl)) ?_ (by exact List.perm_append_comm)
  repeat (first | refine JL.q (by first | (apply OQ.move; exact rfl) | (apply OQ.assign; exact rfl)) rfl ?_ | refine JC.seq ?_ | refine JC.region ?_ | refine JL.nil ?_ | refine JE.next ?_)
  refine JL.jopen hd (Nat.zero_le _) hno rfl rfl fun j => ?_
  repeat (first | refine JL.q (by first | (apply OQ.extract; exact rfl; exact rfl) | (apply OQ.len (k := bl.length) (ad := some ⟨q.1, 0, none⟩) (cap := q.2); exact Try.underlying22; exact rfl) | (apply OQ.lssB (b := 4); exact rfl; exact rfl; exact g4) | (apply OQ.move; exact rfl) | (apply OQ.assign; exact rfl)) rfl ?_ | refine JC.seq ?_ | refine JC.region ?_ | refine JL.nil ?_ | refine JE.next ?_)
  refine JC.cond_false rfl rfl ?_
  repeat (first | refine JL.q (by (apply OQ.move; exact rfl)) rfl ?_ | refine JC.seq ?_ | refine JC.region ?_ | refine JC.skip ?_ | refine JE.next ?_)
  refine JL.callg (ι := GrOf (diskR bl).2.2 bl.length) (vs := [(⟨some ⟨q.1, 0, none⟩, q.2, bl⟩ : SlE).v]) (fun z => .tuple #[.bool (diskR bl).1, N (diskR bl).2.1, z.1.v]) (fun z => z.1.E) goes_rdisk15 rfl rfl (fun z => z.1.wr) (fun w' hw' => rdisk15_any ⟨some ⟨q.1, 0, none⟩, q.2, bl⟩ w' (ownB (A := jnE j (opnJ x bl) (opnD bl) []) (M := []) (by rw [List.append_nil]; exact hw') ok.b) (by show bl.length ≤ _; omega)) fun z => ?_
  repeat (first | refine JL.q (by first | (apply OQ.extract; exact rfl; exact rfl) | (apply OQ.eqN; exact rfl; exact rfl) | (apply OQ.move; exact rfl) | (apply OQ.assign; exact rfl)) rfl ?_ | refine JC.seq ?_ | refine JC.region ?_ | refine JL.nil ?_ | refine JE.next ?_)
  refine JC.join (ι := {z : Gr // z.l = (curF bl).2.2}) (fun y => [(0, Pt x.p 0), (4, (⟨some ⟨q.1, 0, none⟩, q.2, bl⟩ : SlE).v), (5, Pt j 0), (6, N 0), (7, .bool (decide ((curF bl).1 ≠ 0))), (9, y.1.v)]) (fun y => jnE j (opnJ x bl) (opnD bl) [] ++ (accC 83 64 (some q) (bcs bl) ++ y.1.E)) (fun _ => True) ?_ ?_
  · refine JC.cond rfl (fun hc => ?_) (fun hc => ?_)
    · have hz0 : (diskR bl).2.1 = 0 := of_decide_eq_true hc
      rw [if_pos hz0] at hdr
      have e1 : decide ((curF bl).1 ≠ 0) = true := (congrArg Prod.fst hdr).symm
      have e2 : (curF bl).2.2 = [[]] := (congrArg Prod.snd hdr).symm
      rw [e1]
      repeat (refine JC.region ?_)
      refine JL.lit0O Try.underlying31 u8e rfl fun b40 _ => ?_
      refine JL.lit1 (v := .slice (some ⟨b40, 0, none⟩) 0 0) Try.underlying34 slEj rfl rfl rfl rfl fun b41 _ => ?_
      repeat (first | refine JL.q (by (apply OQ.assign; exact rfl)) rfl ?_ | refine JL.nil ?_)
      refine JE.perm (M' := jnE j (opnJ x bl) (opnD bl) [] ++ (accC 83 64 (some q) (bcs bl) ++ (⟨b41, Row 31 [.slice (some ⟨b40, 0, none⟩) 0 0], true⟩ :: ⟨b40, Sl.Own 5 1 0 0 [], true⟩ :: z.1.E))) (by exact (List.perm_append_comm (l₁ := _ :: _ :: z.1.E)).trans (by rw [List.append_assoc])) ?_
      exact JE.mid ⟨⟨some (b41, 1), [accS (some (b40, 0)) []], nofun, fun y hy hn => by rw [List.mem_singleton.1 hy] at hn; cases hn⟩, by rw [e2]; rfl⟩ trivial (by repeat (first | exact SubE.nil | refine SubE.cons _ _ _ rfl ?_)) (less_two (Less.refl _) (less_two (Less.refl _) (.keep _ _ _ _ _ _ (row_ownG rfl) (by
        show Less (flatE [accS (some (b40, 0)) []]) _
        exact less_two (accS_ents (e := 5) (some (b40, 0)) []) (.nil z.1.E)))))
    · have hz0 : ¬ (diskR bl).2.1 = 0 := of_decide_eq_false hc
      rw [if_neg hz0] at hdr
      have e1 : (diskR bl).1 = decide ((curF bl).1 ≠ 0) := congrArg Prod.fst hdr
      have e2 : (diskR bl).2.2 = (curF bl).2.2 := congrArg Prod.snd hdr
      repeat (refine JC.skip ?_)
      refine JE.perm (M' := jnE j (opnJ x bl) (opnD bl) [] ++ (accC 83 64 (some q) (bcs bl) ++ z.1.E)) (by exact (List.perm_append_comm (l₁ := z.1.E)).trans (by rw [List.append_assoc])) ?_
      exact JE.mid ⟨z.1, by rw [z.2.1, e2]⟩ trivial (by rw [← e1]; exact (by repeat (first | exact SubE.nil | refine SubE.cons _ _ _ rfl ?_))) (Less.refl _)
  rintro ⟨y, hy⟩ _
  dsimp only
  clear hdr
  have hyl : y.rs.map Sl8.l = (curF bl).2.2 := hy
  have cN := fun {A M : List Ent} {w' : World} (hw' : Holds w S (A ++ (accC 83 64 (some q) (bcs bl) ++ M)) w') => newest_any ⟨some ⟨q.1, 0, none⟩, q.2, bl⟩ w' (ownB hw' ok.b) (by show bl.length ≤ _; omega)
  have g9 : decide ((4294967296 : Int) ≤ (((gm bl).toNat + 1 : Nat) : Int)) = false := decide_eq_false (by omega)
  repeat (first | refine JL.q (by first | (apply OQ.callx (vs := [(⟨some ⟨q.1, 0, none⟩, q.2, bl⟩ : SlE).v]); exact goes_newest; exact rfl; exact (fun w' hw' => cN hw')) | (apply OQ.geqB (a := (((gm bl).toNat + 1 : Nat) : Int)) (b := 4294967296); exact rfl; exact rfl; exact g9) | (apply OQ.move; exact rfl) | (apply OQ.assign; exact rfl)) rfl ?_ | refine JC.seq ?_ | refine JC.region ?_ | refine JL.nil ?_ | refine JE.next ?_)
  refine JC.cond_false rfl rfl ?_
  clear cN g9
  repeat (first | refine JL.q (by first | (apply OQ.neB (a := 0) (b := 0) (c := true); exact rfl; exact rfl; exact rfl) | (apply OQ.ptrNil; exact Try.underlying28; exact rfl; exact rfl) | (apply OQ.pick_f; exact rfl; exact rfl) | (apply OQ.move; exact rfl)) rfl ?_ | refine JC.seq ?_ | refine JC.region ?_ | refine JC.skip ?_ | refine JE.next ?_ | refine JL.gon rfl rfl ?_)
  refine JL.jrecs v d2 rfl rfl fun zr => ?_
  obtain ⟨zr, hzr1, hzr2⟩ := zr
  have hzl : zr.rs.map Sl8.l = (curF bl).2.2 := hzr1
  have hbd : ∀ u ∈ (curF bl).2.2, u.length ≤ 65536 * 42 := fun u hu => by have := rec_len hu; omega
  have cS := fun {w' : World} (hw' : Holds w S (zr.E ++ (jnE j (opnJ x bl) (opnD bl) [] ++ (accC 83 64 (some q) (bcs bl) ++ y.E))) w') => samel_any zr.s y.s w' (zr.ok (hw'.weak (less_pre _ _))) (y.ok (hw'.weak (less_app _ (less_app _ (less_app _ (Less.refl _)))))) (by rw [zr.rs_eq]; have := v.fs; omega) (fun u hu => by
    rw [zr.rs_eq] at hu
    have := hbd u.l (by rw [← hzl]; exact List.mem_map_of_mem hu)
    omega)
  have heq : decide (zr.s.rs.map Sl8.l = y.s.rs.map Sl8.l) = true := decide_eq_true (by rw [zr.rs_eq, y.rs_eq, hzl, hyl])
  rw [heq, zr.v_eq, y.v_eq] at cS
  have cP := fun {M : List Ent} {w' : World} (hw' : Holds w S (zr.E ++ (jnE j (opnJ x bl) (opnD bl) [] ++ M)) w') => dpend_any x.p none 0 (fun _ => rfl) w' (by
    obtain ⟨o, ho, hA⟩ := hw'.get (b := x.p) (A := Row 111 (dkRow (opnJ x bl).x (opnD bl) [])) (wr := true) (hasR (N := zr.E) (.there .here))
    exact cell_of ho (Row.cell rfl _ hA))
  repeat (first | refine JL.q (by first | (apply OQ.callx (vs := [zr.v, y.v]); exact goes_samel; exact rfl; exact (fun w' hw' => cS hw')) | (apply OQ.not; exact rfl) | (apply OQ.pick_f; exact rfl; exact rfl) | (apply OQ.callx (vs := [Pt x.p 0]); exact goes_pending; exact rfl; exact (fun w' hw' => cP hw')) | (apply OQ.neB (a := 0) (b := 0) (c := true); exact rfl; exact rfl; exact rfl) | (apply OQ.move; exact rfl)) rfl ?_ | refine JL.nil ?_ | refine JE.next ?_ | refine JL.gon rfl rfl ?_)
  refine JC.cond_false rfl rfl ?_
  clear cS cP heq
  have hf1 : (curF bl).1 = 0 ∨ (curF bl).1 = bl.length / 2 := by
    unfold curF
    split
    · exact .inl rfl
    · split
      · exact .inr rfl
      · exact .inr rfl
  repeat (first | refine JL.q (by first | (apply OQ.len (k := bl.length) (ad := some ⟨q.1, 0, none⟩) (cap := q.2); exact Try.underlying22; exact rfl) | (apply OQ.quoN (a := bl.length) (b := 2); exact rfl; exact rfl; exact (by decide); exact (by omega)) | (apply OQ.move; exact rfl) | (apply OQ.assign; exact rfl)) rfl ?_ | refine JC.seq ?_ | refine JC.region ?_ | refine JC.skip ?_ | refine JL.nil ?_ | refine JE.next ?_)
  refine JC.join (ι := Unit) (fun _ => [(0, Pt x.p 0), (4, (⟨some ⟨q.1, 0, none⟩, q.2, bl⟩ : SlE).v), (5, Pt j 0), (9, y.v), (10, N ((gm bl).toNat + 1)), (11, N (bl.length / 2 - (curF bl).1))]) (fun _ => jnE j (opnJ x bl) (opnD bl) [] ++ (accC 83 64 (some q) (bcs bl) ++ y.E)) (fun _ => True) ?_ ?_
  · refine JC.cond rfl (fun hc => ?_) (fun hc => ?_)
    · have : bl.length / 2 - (curF bl).1 = 0 := by have := of_decide_eq_true hc; omega
      rw [this]
      repeat (first | refine JL.q (by (apply OQ.assign; exact rfl)) rfl ?_ | refine JC.region ?_ | refine JL.nil ?_)
      exact JE.mid () trivial (by repeat (first | exact SubE.nil | refine SubE.cons _ _ _ rfl ?_)) (less_app _ (Less.refl _))
    · have : bl.length / 2 - (curF bl).1 = bl.length / 2 := by have := of_decide_eq_false hc; omega
      rw [this]
      repeat (refine JC.skip ?_)
      exact JE.mid () trivial (by repeat (first | exact SubE.nil | refine SubE.cons _ _ _ rfl ?_)) (less_app _ (Less.refl _))
  rintro _ _
  have hD : opnD bl = putAt bl (bl.length / 2 - (curF bl).1) (allB (gm bl + 1#32) 0 (curF bl).2.2) := rfl
  have hF : bl.length / 2 - (curF bl).1 + bl.length / 2 ≤ bl.length := by omega
  have hG : BitVec.ofNat 32 ((gm bl).toNat + 1) = gm bl + 1#32 := BitVec.eq_of_toNat_eq (by rw [BitVec.toNat_ofNat, BitVec.toNat_add]; rfl)
  have hok2 := d2.ok
  have hn2 := d2.n1
  generalize bl.length / 2 - (curF bl).1 = F at hD hF ⊢
  generalize (curF bl).2.2 = recs at hD hyl hr1 hbd ⊢
  have hrn : recs.length = y.rs.length := by rw [← hyl, List.length_map]
  have hge := room_ge recs
  have hv4 : y.v = accV y.q y.rs.length := rfl
  have hyq0 : y.q = none → y.rs.length = 0 := fun e => by rw [y.hq e]; rfl
  repeat (first | refine JL.q (by first | (apply OQ.lenV (q := y.q) (k := y.rs.length); exact Try.underlying34; exact hyq0; exact rfl) | (apply OQ.move; exact rfl)) rfl ?_ | refine JC.seq ?_ | refine JC.region ?_ | refine JC.block ?_ | refine JL.nil ?_ | refine JE.next ?_)
  refine JC.loop (fun i : Nat => [(0, Pt x.p 0), (4, (⟨some ⟨q.1, 0, none⟩, q.2, bl⟩ : SlE).v), (5, Pt j 0), (10, N ((gm bl).toNat + 1)), (11, N (F + room (recs.take i))), (74, y.v), (75, N y.rs.length), (76, N i)]) (fun i => jnE j (opnJ x bl) (opnD bl) [] ++ (accC 83 64 (some q) (bcs (putAt bl F (allB (gm bl + 1#32) 0 (recs.take i)))) ++ y.E)) (fun i => y.rs.length - i) (fun i => i ≤ y.rs.length) 0 (Nat.zero_le _) (by repeat (first | exact SubE.nil | refine SubE.cons _ _ _ rfl ?_)) (by rw [List.take_zero, allB, putAt_nil]; exact Less.refl _) ?_
  intro i hi
  repeat (first | refine JL.q (by (apply OQ.lssN; exact rfl; exact rfl)) rfl ?_ | refine JC.seq ?_ | refine JC.region ?_ | refine JL.nil ?_ | refine JE.next ?_)
  refine JC.cond rfl (fun hc => ?_) (fun hc => ?_)
  · have hi' : i < y.rs.length := Nat.lt_of_not_le fun h => by have := of_decide_eq_true hc; omega
    clear hc
    obtain ⟨yq, rs, hyq, hyr⟩ := y
    dsimp only at hi hi' hyl hrn hv4 hyq0
    cases yq with
    | none => have := hyq0 rfl; omega
    | some p =>
    have hyE : (Gr.mk (some p) rs hyq hyr).E = accE 31 (some p) (rs.map Sl8.v) ++ flatE rs := rfl
    have hyV : (Gr.mk (some p) rs hyq hyr).v = .slice (some ⟨p.1, 0, none⟩) rs.length p.2 := rfl
    have hcell : (rs.map Sl8.v)[0 + i]? = some (rs.getD i nilS).v := by rw [Nat.zero_add]; exact map_at Sl8.v nilS hi'
    have hmem := getD_mem' hi'
    have hyi : recs.getD i [] = (rs.getD i nilS).l := by rw [← hyl]; simp [List.getD_eq_getElem?_getD, hi']
    have hlen : (rs.getD i nilS).l.length ≤ 1000000 := by
      have h1 : (rs.getD i nilS).l ∈ recs := by rw [← hyl]; exact List.mem_map_of_mem hmem
      have := rec_len h1
      omega
    have hts : recs.take (i + 1) = recs.take i ++ [(rs.getD i nilS).l] := by rw [take_snoc (by omega), hyi]
    have hal : allB (gm bl + 1#32) 0 (recs.take (i + 1)) = allB (gm bl + 1#32) 0 (recs.take i) ++ blks (gm bl + 1#32) i (rs.getD i nilS).l := by
      rw [hts, allB_append, List.length_take, Nat.min_eq_left (by omega), Nat.zero_add]
      congr 1
      rw [allB, allB, List.append_nil]
    have hrs : room (recs.take (i + 1)) = room (recs.take i) + nb (rs.getD i nilS).l.length := by rw [hts, room_append]; simp [room]
    have hrle := room_take_le recs (i + 1)
    have cY := fun {w' : World} {A : List Ent} (hw' : Holds w S (A ++ ((Gr.mk (some p) rs hyq hyr).E ++ [])) w') => ((Gr.mk (some p) rs hyq hyr).ok (hw'.weak (less_app A (less_pre _ _)))).all _ hmem
    generalize rs.getD i nilS = yi at hcell hyi hlen hts hal hrs cY
    have hbl : (blks (gm bl + 1#32) i yi.l).length = nb yi.l.length := blks_len _ _ _
    repeat (first | refine JL.q (by first | (apply OQ.idxS1 (i := i) (b := p.1) (j := 0); exact Try.underlying34; exact sleJ; exact rfl; exact rfl; exact hi') | (apply OQ.load; exact slCj; exact rfl; exact (hasR (N := jnE j (opnJ x bl) (opnD bl) []) (hasR (N := accC 83 64 (some q) (bcs (putAt bl F (allB (gm bl + 1#32) 0 (recs.take i))))) .here)); exact (Sl.Own.cell (v := yi.v) hcell)) | (apply OQ.move; exact rfl) | (apply OQ.assign; exact rfl)) rfl ?_ | refine JC.seq ?_ | refine JC.region ?_ | refine JC.block ?_ | refine JC.skip ?_ | refine JL.nil ?_ | refine JE.next ?_)
    refine JL.callg (ι := Nat × Nat) (vs := [N ((gm bl).toNat + 1), N i, yi.v]) (fun q2 => accV (some q2) (nb yi.l.length)) (fun q2 => accC 83 64 (some q2) (bcs (blks (gm bl + 1#32) i yi.l))) goes_rblocks rfl rfl (fun _ => accC_wr _ _ _ _) (fun w' hw' => by have := rblocks_any ((gm bl).toNat + 1) i yi w' (cY (A := jnE j (opnJ x bl) (opnD bl) [] ++ accC 83 64 (some q) (bcs (putAt bl F (allB (gm bl + 1#32) 0 (recs.take i))))) (by rw [List.append_nil, List.append_assoc]; exact hw')) hlen hgl (by omega); rwa [hG] at this) fun q2 => ?_
    have hq20 : some q2 = (none : Acc) → nb yi.l.length = 0 := nofun
    repeat (first | refine JL.q (by first | (apply OQ.lenV (q := some q2) (k := nb yi.l.length); exact Try.underlying22; exact hq20; exact rfl) | (apply OQ.move; exact rfl)) rfl ?_ | refine JC.block ?_ | refine JL.nil ?_ | refine JE.next ?_)
    obtain ⟨E, hE⟩ : ∃ E, (Gr.mk (some p) rs hyq hyr).E = E := ⟨_, rfl⟩
    obtain ⟨V, hV⟩ : ∃ V, (Gr.mk (some p) rs hyq hyr).v = V := ⟨_, rfl⟩
    rw [hE]
    refine JC.loop (fun k : Nat => [(0, Pt x.p 0), (4, (⟨some ⟨q.1, 0, none⟩, q.2, bl⟩ : SlE).v), (5, Pt j 0), (10, N ((gm bl).toNat + 1)), (11, N (F + room (recs.take i) + k)), (74, (Gr.mk (some p) rs hyq hyr).v), (75, N rs.length), (76, N i), (84, accV (some q2) (nb yi.l.length)), (85, N (nb yi.l.length)), (86, N k)]) (fun k => accC 83 64 (some q2) (bcs (blks (gm bl + 1#32) i yi.l)) ++ (jnE j (opnJ x bl) (opnD bl) [] ++ (accC 83 64 (some q) (bcs (putAt bl F (allB (gm bl + 1#32) 0 (recs.take i) ++ (blks (gm bl + 1#32) i yi.l).take k))) ++ E))) (fun k => nb yi.l.length - k) (fun k => k ≤ nb yi.l.length) 0 (Nat.zero_le _) (by repeat (first | exact SubE.nil | refine SubE.cons _ _ _ rfl ?_)) (by rw [List.take_zero, List.append_nil]; exact Less.refl _) ?_
    intro k hk
    repeat (first | refine JL.q (by (apply OQ.lssN; exact rfl; exact rfl)) rfl ?_ | refine JC.seq ?_ | refine JC.region ?_ | refine JL.nil ?_ | refine JE.next ?_)
    refine JC.cond rfl (fun hc => ?_) (fun hc => ?_)
    · have hk' : k < nb yi.l.length := Nat.lt_of_not_le fun h => by have := of_decide_eq_true hc; omega
      clear hc
      have hall64 : ∀ c ∈ blks (gm bl + 1#32) i yi.l, c.length = 64 := fun c hc => (blks_mark (by omega) c hc).2.2
      have hl64 : ∀ c ∈ bcs (blks (gm bl + 1#32) i yi.l), c.length = 64 := bcs_len (pd := []) ⟨hall64, by simp⟩
      have hkb : k < (blks (gm bl + 1#32) i yi.l).length := by omega
      have hto := take_old hkb
      have ho64 : (old (blks (gm bl + 1#32) i yi.l) k).length = 64 := hall64 _ (old_mem hkb)
      have hbat := bcs_at hkb
      have hall := allB_len (gm bl + 1#32) 0 (recs.take i)
      have hps := putAt_snoc (bl := bl) (k := F) (l := allB (gm bl + 1#32) 0 (recs.take i) ++ (blks (gm bl + 1#32) i yi.l).take k) (b := old (blks (gm bl + 1#32) i yi.l) k) (by rw [List.length_append, hall, List.length_take]; omega)
      rw [List.append_assoc, ← hto, List.length_append, hall, List.length_take, Nat.min_eq_left (by omega : k ≤ (blks (gm bl + 1#32) i yi.l).length)] at hps
      have hcl : (putAt bl F (allB (gm bl + 1#32) 0 (recs.take i) ++ (blks (gm bl + 1#32) i yi.l).take k)).length = bl.length := putAt_len (by rw [List.length_append, hall, List.length_take]; omega)
      have hc64 : ∀ c ∈ putAt bl F (allB (gm bl + 1#32) 0 (recs.take i) ++ (blks (gm bl + 1#32) i yi.l).take k), c.length = 64 := putAt_mem ok.b fun c hc => by
        rcases List.mem_append.1 hc with hc | hc
        · exact (allB_mark _ _ (by have := room_take_le recs i; omega) c hc).2.2
        · exact hall64 c (List.mem_of_mem_take hc)
      generalize putAt bl F (allB (gm bl + 1#32) 0 (recs.take i) ++ (blks (gm bl + 1#32) i yi.l).take k) = cur at hps hcl hc64 ⊢
      generalize old (blks (gm bl + 1#32) i yi.l) k = yb at ho64 hbat hps
      have hcc := bcs_len (pd := []) ⟨hc64, by simp⟩
      have hbn1 := bcs_n (blks (gm bl + 1#32) i yi.l)
      have hbn2 := bcs_n cur
      repeat (first | refine JL.q (by first | (apply OQ.idxS (i := k) (b := q2.1) (j := 0); exact Try.underlying22; exact dkB; exact rfl; exact rfl; exact hk') | (apply OQ.to; exact (OQ.loadC (L := bcs (blks (gm bl + 1#32) i yi.l)) (i := k) dkAg dkB rfl (Nat.zero_add _) .here hl64 (by omega)); exact (by rw [hbat]))) rfl ?_ | refine JC.seq ?_ | refine JC.region ?_ | refine JC.block ?_ | refine JC.skip ?_ | refine JE.next ?_)
      refine JL.alloc dkZ rfl fun b15 _ => ?_
      refine JL.store_all (cs := bc yb) dkB rfl rfl (bc_len ho64) (bc_cell _) .here rfl ?_
      repeat (first | refine JL.q (by first | (apply OQ.load_agg (cs := bc yb); exact dkAg; exact dkB; exact rfl; exact .here; exact (bc_len ho64); exact Row.all) | (apply OQ.idxS (i := F + room (recs.take i) + k) (b := q.1) (j := 0); exact Try.underlying22; exact dkB; exact rfl; exact rfl; exact (show F + room (recs.take i) + k < bl.length by omega)) | (apply OQ.move; exact rfl)) rfl ?_ | refine JC.seq ?_ | refine JC.region ?_ | refine JL.nil ?_ | refine JE.next ?_)
      refine JL.perm (M' := accC 83 64 (some q) (bcs cur) ++ (⟨b15, Row 83 (bc yb), true⟩ :: (accC 83 64 (some q2) (bcs (blks (gm bl + 1#32) i yi.l)) ++ (jnE j (opnJ x bl) (opnD bl) [] ++ E)))) ?_ (by exact perm_in _ _ _ _ _)
      refine JL.storeC (sz := 64) (i := F + room (recs.take i) + k) (L := bcs cur) (c := bc yb) dkB rfl (Nat.zero_add _) rfl (bc_len ho64) (bc_cell _) hcc rfl (by omega) .here ?_
      have eset : (bcs cur).set (F + room (recs.take i) + k) (bc yb) = bcs (cur.set (F + (room (recs.take i) + k)) yb) := by rw [Nat.add_assoc]; simp [bcs, List.map_set]
      rw [eset, hps]
      repeat (first | refine JL.q (by first | (apply OQ.addN (a := F + room (recs.take i) + k) (b := 1); exact rfl; exact rfl; exact (by omega)) | (apply OQ.move; exact rfl) | (apply OQ.assign; exact rfl) | (apply OQ.addN; exact rfl; exact rfl; exact (by (try simp only []); omega))) rfl ?_ | refine JC.region ?_ | refine JL.nil ?_ | refine JE.next ?_ | refine JE.blk_normal ?_)
      refine JE.perm (M' := accC 83 64 (some q2) (bcs (blks (gm bl + 1#32) i yi.l)) ++ (jnE j (opnJ x bl) (opnD bl) [] ++ (⟨q.1, Sl.Own 83 64 (bcs cur).length q.2 (bcs (putAt bl F (allB (gm bl + 1#32) 0 (recs.take i) ++ (blks (gm bl + 1#32) i yi.l).take (k + 1)))).flatten, true⟩ :: (E ++ [⟨b15, Row 83 (bc yb), true⟩])))) (by exact perm_out _ _ _ _ _) ?_
      refine JE.again (i := k) (k + 1) hk' (by omega) (by repeat (first | exact SubE.nil | refine SubE.cons _ _ _ rfl ?_)) ?_
      refine less_two (Less.refl _) (less_two (Less.refl _) ?_)
      have e5 : (bcs cur).length = (bcs (putAt bl F (allB (gm bl + 1#32) 0 (recs.take i) ++ (blks (gm bl + 1#32) i yi.l).take (k + 1)))).length := by rw [bcs_n, bcs_n, ← hps, List.length_set]
      rw [e5]
      exact .keep _ _ _ _ _ _ (fun _ h => h) (less_pre _ _)
    · have hke : k = nb yi.l.length := Nat.le_antisymm hk (Nat.le_of_not_lt fun h => by have := of_decide_eq_false hc; omega)
      have ht : (blks (gm bl + 1#32) i yi.l).take k = blks (gm bl + 1#32) i yi.l := List.take_of_length_le (by omega)
      rw [ht, ← hal, ← hE]
      repeat (first | refine JL.q (by first | (apply OQ.move; exact rfl) | (apply OQ.addN; exact rfl; exact rfl; exact (by (try simp only []); omega))) rfl ?_ | refine JC.region ?_ | refine JC.exit ?_ | refine JL.nil ?_ | refine JE.next ?_ | refine JE.blk_normal ?_ | refine JE.then_exit ?_ | refine JE.blk_hit ?_)
      exact JE.again (i := i) (i + 1) hi' (by show rs.length - (i + 1) < rs.length - i; omega) (by rw [hrs, show F + (room (recs.take i) + nb yi.l.length) = F + room (recs.take i) + k by omega]; exact (by repeat (first | exact SubE.nil | refine SubE.cons _ _ _ rfl ?_))) (less_app _ (Less.refl _))
  · have hi' : i = y.rs.length := Nat.le_antisymm hi (Nat.le_of_not_lt fun h => by have := of_decide_eq_false hc; omega)
    have ht : recs.take i = recs := List.take_of_length_le (by omega)
    rw [ht, ← hD]
    repeat (first | refine JL.q (by (apply OQ.move; exact rfl)) rfl ?_ | refine JC.seq ?_ | refine JC.region ?_ | refine JC.exit ?_ | refine JE.next ?_ | refine JE.then_exit ?_ | refine JE.blk_hit ?_)
    refine JL.callg (ι := Nat × Nat) (vs := [Pt x.p 0]) (fun q => accV (some q) (opnD bl).length) (fun q => accC 83 64 (some q) (bcs (opnD bl))) goes_lblocks15 rfl rfl (fun _ => accC_wr _ _ _ _) (fun w' hw' => lblocks15_any (opnJ x bl).x (opnD bl) [] hok2 hn2 w' (dkR_jn hw')) fun q2 => ?_
    have hlD : (opnD bl).length = bl.length := by rw [hD]; exact putAt_len (by rw [allB_len]; omega)
    have cS := fun {w' : World} (hw' : Holds w S (accC 83 64 (some q2) (bcs (opnD bl)) ++ (jnE j (opnJ x bl) (opnD bl) [] ++ (accC 83 64 (some q) (bcs (opnD bl)) ++ y.E))) w') => lsame15_any ⟨some ⟨q.1, 0, none⟩, q.2, opnD bl⟩ ⟨some ⟨q2.1, 0, none⟩, q2.2, opnD bl⟩ w' (ownB (A := accC 83 64 (some q2) (bcs (opnD bl)) ++ jnE j (opnJ x bl) (opnD bl) []) (M := y.E) (by rw [List.append_assoc]; exact hw') hok2.b) (ownB (A := []) hw' hok2.b) (by show (opnD bl).length ≤ _; omega)
    rw [decide_eq_true (show opnD bl = opnD bl from rfl)] at cS
    have e4 : (⟨some ⟨q.1, 0, none⟩, q.2, bl⟩ : SlE).v = (⟨some ⟨q.1, 0, none⟩, q.2, opnD bl⟩ : SlE).v := by simp only [SlE.v, hlD]
    rw [e4]
    repeat (first | refine JL.q (by first | (apply OQ.callx (vs := [(⟨some ⟨q.1, 0, none⟩, q.2, opnD bl⟩ : SlE).v, (⟨some ⟨q2.1, 0, none⟩, q2.2, opnD bl⟩ : SlE).v]); exact goes_lsame15; exact rfl; exact (fun w' hw' => cS hw')) | (apply OQ.assign; exact rfl)) rfl ?_ | refine JL.nil ?_ | refine JE.next ?_)
    refine JC.ret ?_
    skip
    exact JE.ret2 rfl (RV.tmp rfl) (RV.tmp rfl) fun w' hw => ⟨j, rfl, hw.weak (less_app _ (less_pre _ _))⟩
end Go.Proofs.Ytkadoibacliepaa

/-
  Of no statement by itself: a slice of calls to a journal (despatchlaw15.Call) as an argument; the law's great.
  Conditions: each theorem's own.
-/
namespace Go.Proofs.Ytkadoibacliepaa
set_option maxRecDepth 10000
open Sl Dsk Jrn
structure CallD where
  what : Int
  n : Int
  b : Sl8
def CallD.cs (c : CallD) : List Value := [.int .i64 c.what, .int .i64 c.n, c.b.v]
structure SlD where
  ad : Option Addr
  cap : Nat
  l : List CallD
def SlD.v (s : SlD) : Value := .slice s.ad s.l.length s.cap
structure SlD.ok (w : World) (s : SlD) : Prop where
  len : s.l.length ≤ s.cap
  reads : Reads w s.ad (s.l.map CallD.cs).flatten
  all : ∀ c ∈ s.l, c.b.ok w
def noCallD : CallD := ⟨0, 0, nilS⟩
theorem SlD.css (s : SlD) : ∀ c ∈ s.l.map CallD.cs, c.length = 3 := by
  intro c hc
  obtain ⟨d, _, rfl⟩ := List.mem_map.1 hc
  rfl
/-- the i-th call's cells -/
theorem SlD.ok.at {w : World} {s : SlD} (h : s.ok w) {i : Nat} (hi : i < s.l.length) : ∃ b j, s.ad = some ⟨b, j, none⟩ ∧ b < w.heap.size ∧ ∀ k u, ((s.l.getD i noCallD).cs)[k]? = some u → w.cell? ⟨b, j + i * 3 + k, none⟩ = some u := by
  have hl := chunk_len s.css
  rw [List.length_map] at hl
  have h0 : 0 < (s.l.map CallD.cs).flatten.length := by omega
  obtain ⟨b, j, e, hc⟩ := h.reads.at h0
  refine ⟨b, j, e, ?_, fun k u hu => ?_⟩
  · obtain ⟨v, hv⟩ : ∃ v, (s.l.map CallD.cs).flatten[0]? = some v := ⟨_, List.getElem?_eq_getElem h0⟩
    exact block_lt_of_cell (hc 0 v hv)
  · have hat := chunk_at (i := i) s.css (by rw [List.length_map]; exact hi)
    have e2 : (s.l.map CallD.cs).getD i [] = (s.l.getD i noCallD).cs := by simp [hi]
    rw [e2] at hat
    rw [← hat, List.getElem?_take] at hu
    split at hu
    · rw [List.getElem?_drop] at hu
      rw [Nat.add_assoc]
      exact hc _ u hu
    · cases hu
theorem SlD.get_mem {s : SlD} {i : Nat} (hi : i < s.l.length) : s.l.getD i noCallD ∈ s.l := by
  rw [List.getD_eq_getElem?_getD, List.getElem?_eq_getElem hi]
  exact List.getElem_mem _
theorem cd3 : szT Try.prog 33 = some 3 := by kernel_rfl
theorem cdAg : aggT Try.prog 33 = true := by kernel_rfl
theorem cdZ : zc Try.prog 33 = some [N 0, N 0, .slice none 0 0] := by kernel_rfl
def greatD (s : SlD) : Bool := decide (60 < s.l.length) || s.l.any fun c => decide (2000 < c.b.l.length)
theorem greatD_no {s : SlD} (h : greatD s = false) : s.l.length ≤ 60 ∧ ∀ c ∈ s.l, c.b.l.length ≤ 2000 := by
  unfold greatD at h
  rw [Bool.or_eq_false_iff] at h
  refine ⟨by have := of_decide_eq_false h.1; omega, fun c hc => ?_⟩
  have := List.any_eq_false.1 h.2 c hc
  simp only [decide_eq_true_eq] at this
  omega
theorem goes_lgreat15 : Goes Try.prog 14 := ⟨_, Try.func14, rfl, by kernel_rfl⟩
set_option maxHeartbeats 8000000 in
theorem lgreat15_any (s : SlD) (w : World) (hs : s.ok w) : Calls Try.prog 14 [s.v].toArray w fun e w' => e = .returned (.bool (greatD s)) ∧ Ext w w' := by
  refine enter (n := 19) Try.func14 rfl rfl rfl (Holds.start w []) ?_
  cases g1 : decide ((60 : Int) < (s.l.length : Int))
  case true =>
    have e : greatD s = true := by unfold greatD; rw [decide_eq_true (show 60 < s.l.length by have := of_decide_eq_true g1; omega)]; rfl
    rw [e]
    repeat (first | refine JL.q (by first | (apply OQ.len (k := s.l.length) (ad := s.ad) (cap := s.cap); exact Try.underlying23; exact rfl) | (apply OQ.gtrB (b := 60); exact rfl; exact rfl; exact g1) | (apply OQ.move; exact rfl) | (apply OQ.assign; exact rfl)) rfl ?_ | refine JC.seq ?_ | refine JC.region ?_ | refine JL.nil ?_ | refine JE.next ?_)
    refine JC.cond_true rfl rfl ?_
    repeat (first | refine JL.q (by (apply OQ.assign; exact rfl)) rfl ?_ | refine JC.seq ?_ | refine JC.region ?_ | refine JL.nil ?_ | refine JE.next ?_)
    refine JC.ret ?_
    repeat (refine JE.then_ret ?_)
    exact JE.ret1 rfl (RV.tmp rfl) fun w' hw => ⟨rfl, hw.chg⟩
  have h60 : s.l.length ≤ 60 := by have := of_decide_eq_false g1; omega
  repeat (first | refine JL.q (by first | (apply OQ.len (k := s.l.length) (ad := s.ad) (cap := s.cap); exact Try.underlying23; exact rfl) | (apply OQ.gtrB (b := 60); exact rfl; exact rfl; exact g1) | (apply OQ.move; exact rfl) | (apply OQ.assign; exact rfl)) rfl ?_ | refine JC.seq ?_ | refine JC.region ?_ | refine JL.nil ?_ | refine JE.next ?_)
  refine JC.cond_false rfl rfl ?_
  repeat (first | refine JL.q (by first | (apply OQ.len (k := s.l.length) (ad := s.ad) (cap := s.cap); exact Try.underlying23; exact rfl) | (apply OQ.move; exact rfl)) rfl ?_ | refine JC.seq ?_ | refine JC.region ?_ | refine JC.block ?_ | refine JC.skip ?_ | refine JL.nil ?_ | refine JE.next ?_)
  refine JC.loop (fun i : Nat => [(8, s.v), (9, N s.l.length), (10, N i)]) (fun _ => []) (fun i => s.l.length - i) (fun i => i ≤ s.l.length ∧ ∀ k, k < i → (s.l.getD k noCallD).b.l.length ≤ 2000) 0 ⟨Nat.zero_le _, nofun⟩ (by repeat (first | exact SubE.nil | refine SubE.cons _ _ _ rfl ?_)) (Less.refl _) ?_
  rintro i ⟨hi, hp⟩
  repeat (first | refine JL.q (by (apply OQ.lssN; exact rfl; exact rfl)) rfl ?_ | refine JC.seq ?_ | refine JC.region ?_ | refine JL.nil ?_ | refine JE.next ?_)
  refine JC.cond rfl (fun hc => ?_) (fun hc => ?_)
  · have hi' : i < s.l.length := Nat.lt_of_not_le fun h => by have := of_decide_eq_true hc; omega
    clear hc
    obtain ⟨b, j, e, lb, c⟩ := hs.at hi'
    have hm := SlD.get_mem hi'
    have hlast : ∀ k, k < i + 1 → (s.l.getD i noCallD).b.l.length ≤ 2000 → (s.l.getD k noCallD).b.l.length ≤ 2000 := fun k hk h => by
      rcases Nat.lt_succ_iff_lt_or_eq.1 hk with h1 | rfl
      · exact hp k h1
      · exact h
    generalize s.l.getD i noCallD = d at c hm hlast
    have hsv : s.v = .slice (some ⟨b, j, none⟩) s.l.length s.cap := by rw [← e]; rfl
    rw [hsv]
    repeat (first | refine JL.q (by first | (apply OQ.idxS (i := i); exact Try.underlying23; exact cd3; exact rfl; exact rfl; exact hi') | (apply OQ.load_agg_old (cs := d.cs); exact cdAg; exact rfl; exact cd3; exact lb; exact (by simp); exact c)) rfl ?_ | refine JC.seq ?_ | refine JC.region ?_ | refine JC.block ?_ | refine JC.skip ?_ | refine JE.next ?_)
    refine JL.alloc cdZ rfl fun b4 _ => ?_
    refine JL.store_all (cs := d.cs) cd3 rfl rfl rfl rfl .here rfl ?_
    cases g2 : decide ((2000 : Int) < (d.b.l.length : Int))
    case true =>
      have e : greatD s = true := by
        unfold greatD
        rw [Bool.or_eq_true]
        exact .inr (List.any_eq_true.2 ⟨d, hm, decide_eq_true (by have := of_decide_eq_true g2; omega)⟩)
      rw [e]
      repeat (first | refine JL.q (by first | (apply OQ.load; exact slCj; exact rfl; exact .here; exact (Row.cell (v := d.b.v) rfl)) | (apply OQ.len (k := d.b.l.length) (ad := d.b.ad) (cap := d.b.cap); exact Try.underlying31; exact rfl) | (apply OQ.gtrB (b := 2000); exact rfl; exact rfl; exact g2) | (apply OQ.fld; exact rfl; exact rfl; exact rfl; exact (by decide); exact rfl)) rfl ?_ | refine JC.seq ?_ | refine JC.region ?_ | refine JL.nil ?_ | refine JE.next ?_)
      refine JC.cond_true rfl rfl ?_
      repeat (first | refine JL.q (by (apply OQ.assign; exact rfl)) rfl ?_ | refine JC.seq ?_ | refine JC.region ?_ | refine JL.nil ?_ | refine JE.next ?_)
      refine JC.ret ?_
      repeat (first | refine JE.then_ret ?_ | refine JE.blk_ret ?_)
      exact JE.ret1 rfl (RV.tmp rfl) fun w' hw => ⟨rfl, hw.chg⟩
    case false =>
      repeat (first | refine JL.q (by first | (apply OQ.load; exact slCj; exact rfl; exact .here; exact (Row.cell (v := d.b.v) rfl)) | (apply OQ.len (k := d.b.l.length) (ad := d.b.ad) (cap := d.b.cap); exact Try.underlying31; exact rfl) | (apply OQ.gtrB (b := 2000); exact rfl; exact rfl; exact g2) | (apply OQ.fld; exact rfl; exact rfl; exact rfl; exact (by decide); exact rfl)) rfl ?_ | refine JC.seq ?_ | refine JC.region ?_ | refine JL.nil ?_ | refine JE.next ?_)
      refine JC.cond_false rfl rfl ?_
      repeat (first | refine JL.q (by first | (apply OQ.move; exact rfl) | (apply OQ.addN; exact rfl; exact rfl; exact (by (try simp only []); omega))) rfl ?_ | refine JC.region ?_ | refine JC.skip ?_ | refine JL.nil ?_ | refine JE.next ?_ | refine JE.blk_normal ?_)
      exact JE.again (i := i) (i + 1) ⟨hi', fun k hk => hlast k hk (by have := of_decide_eq_false g2; omega)⟩ (by omega) (by repeat (first | exact SubE.nil | refine SubE.cons _ _ _ rfl ?_)) (.drop _ _ _ (Less.refl _))
  · have hi' : i = s.l.length := Nat.le_antisymm hi (Nat.le_of_not_lt fun h => by have := of_decide_eq_false hc; omega)
    have e : greatD s = false := by
      unfold greatD
      rw [Bool.or_eq_false_iff]
      refine ⟨decide_eq_false (by omega), List.any_eq_false.2 fun c hc => ?_⟩
      obtain ⟨k, hk, rfl⟩ := List.mem_iff_getElem.1 hc
      have := hp k (by omega)
      rw [List.getD_eq_getElem?_getD, List.getElem?_eq_getElem hk, Option.getD_some] at this
      simpa using this
    rw [e]
    repeat (first | refine JL.q (by (apply OQ.assign; exact rfl)) rfl ?_ | refine JC.seq ?_ | refine JC.region ?_ | refine JC.exit ?_ | refine JL.nil ?_ | refine JE.next ?_ | refine JE.then_exit ?_ | refine JE.blk_hit ?_)
    refine JC.ret ?_
    skip
    exact JE.ret1 rfl (RV.tmp rfl) fun w' hw => ⟨rfl, hw.chg⟩
end Go.Proofs.Ytkadoibacliepaa

/-
  Of no statement by itself: what JournalFills gives.
  Conditions: each theorem's own.
-/
namespace Go.Proofs.Ytkadoibacliepaa
set_option maxRecDepth 10000
open Sl Dsk Jrn
theorem room_rep (l : Bk) (k : Nat) : room ([] :: List.replicate k l) = 1 + k * nb l.length := by
  rw [room_cons]
  have : room (List.replicate k l) = k * nb l.length := by simp [room, List.map_replicate]
  rw [this]
  rfl
/-- a state of the law: how many records more there are, the journal, its disk -/
structure Fz where
  k : Nat
  h : Hf
  bl : List Bk
structure Fz.ok (z : Fz) (l : Bk) (m g : Nat) : Prop where
  v : Jv z.h z.bl ([] :: List.replicate z.k l)
  d : DkOk z.h.x z.bl []
  s : z.h.size = m / 2
  g : z.h.g.toNat ≤ g
theorem Fz.ok.used {z : Fz} {l : Bk} {m g : Nat} (hz : z.ok l m g) : z.h.used = 1 + z.k * nb l.length ∧ 1 + z.k * nb l.length ≤ z.h.size := by
  have h1 := hz.v.u; have h2 := hz.v.r
  rw [room_rep] at h1 h2
  exact ⟨h1, h2⟩
end Go.Proofs.Ytkadoibacliepaa

/-
  Of no statement by itself: what JournalCalls gives.
  Conditions: each theorem's own.
-/
namespace Go.Proofs.Ytkadoibacliepaa
set_option maxRecDepth 10000
open Sl Dsk Jrn
section
variable {n : Nat} {w0 : World} {S : List Nat} {ops : Array Oper} {Q : Exit → Act → World → Prop} {l : List Oper} {E : Env} {M : List Ent}
variable {d : Nat} {ty : TypeId} {pos : String} {aft : Array Edge} {x1 x2 x3 : Operand} {ats : Array TypeId} {x : Dp} {bl recs : List Bk} {pd : List (Nat × Bk)} {j : Nat} {h : Hf} {s : Sl8}
theorem JL.jrecs0 {m : Nat} (v : Jv h bl recs) (hd : DkOk h.x bl pd) (hm : h.size = m) (e1 : ev E x1 = some (Pt j 0)) (hn : Nat.blt d n = true)
    (kk : ∀ z : GrOf recs m, JL Try.prog n w0 S ops Q l ((d, z.1.v) :: E) (z.1.E ++ (jnE j h bl pd ++ M))) : JL Try.prog n w0 S ops Q (⟨some d, .call ⟨.value (.func 16), #[x1], ats⟩, ty, pos, aft, none⟩ :: l) E (jnE j h bl pd ++ M) := by
  subst hm
  exact JL.jrecs v hd e1 hn kk
end
/-- a row of records at hand -/
def grD {A : List Bk} {m : Nat} (h : A.length ≤ m) : GrOf A m := ⟨⟨some (0, 0), A.map fun l => ⟨some ⟨0, 0, none⟩, l.length, l⟩, nofun, fun x hx hn => by
  obtain ⟨l, _, rfl⟩ := List.mem_map.1 hx
  cases hn⟩, by show (A.map _).map _ = A; rw [List.map_map]; exact List.map_id'' (fun _ => rfl) A, by show (A.map _).length ≤ m; rw [List.length_map]; exact h⟩
theorem rdLit {w0 w : World} {S : List Nat} {A M : List Ent} {b : Nat} {e : TypeId} {v : Value} (hw : Holds w0 S (A ++ (⟨b, Row e [v], true⟩ :: M)) w) : Reads w (some ⟨b, 0, none⟩) [v] := by
  obtain ⟨o, ho, hA⟩ := hw.get (b := b) (A := Row e [v]) (wr := true) (hasR (N := A) .here)
  exact Reads.block ho (Row.all _ hA)
theorem acc_away {w0 w : World} {S : List Nat} {X M : List Ent} {e : TypeId} {q : Acc} {l : Bk} (hw : Holds w0 S (X ++ (accE e q (l.map U8) ++ M)) w) : Away (accS q l) (keys X) := by
  intro h0 a ha
  cases q with
  | none => cases ha
  | some p =>
    cases ha
    exact away_has hw (b := p.1) (A := Sl.Own e 1 (l.map U8).length p.2 (l.map U8)) (wr := true) .here
theorem SlD.ok.holds {w0 w : World} {S : List Nat} {M : List Ent} {s : SlD} (h : s.ok w0) (hw : Holds w0 S M w) (hS : S = []) : s.ok w := ⟨h.len, hw.reads h.reads (fun _ a _ => by rw [hS]; simp), fun c hc => (h.all c hc).holds hw hS⟩
theorem opnD_len {x : Dp} {bl : List Bk} {pd : List (Nat × Bk)} (hd : DkOk x bl pd) (hno : noOpen bl = 0) : (opnD bl).length = bl.length := by
  have h4 : ¬ bl.length < 4 := fun h => by unfold noOpen at hno; rw [if_pos h] at hno; cases hno
  have ⟨h1, h2, h3⟩ := curF_room (bl := bl) hd.ok.b (by omega)
  exact putAt_len (by rw [allB_len]; omega)
/-- a state between two calls -/
structure Jt where
  i : Nat
  j : Nat
  h : Hf
  bl : List Bk
structure Jt.ok (z : Jt) (m : Nat) : Prop where
  v : ∃ recs, Jv z.h z.bl recs
  d : DkOk z.h.x z.bl []
  m : z.bl.length = m
theorem Jv.rec_len {h : Hf} {bl recs : List Bk} (v : Jv h bl recs) : ∀ y ∈ recs, y.length ≤ 2000000 := fun y hy => by
  have h1 := Go.Proofs.Ytkadoibacliepaa.rec_len hy
  have h2 := v.r; have h3 := v.fs
  omega
/-- the same records, told twice -/
theorem same_gr {w : World} {recs : List Bk} {m m' : Nat} (a : GrOf recs m) (b : GrOf recs m') (hl : ∀ y ∈ recs, y.length ≤ 2000000) (hm : m ≤ 1000000) (ha : a.1.s.ok w) (hb : b.1.s.ok w) :
    Calls Try.prog 21 [a.1.v, b.1.v].toArray w fun e w' => e = .returned (.bool true) ∧ Ext w w' := by
  have h := samel_any a.1.s b.1.s w ha hb (by rw [a.1.rs_eq]; exact Nat.le_trans a.2.2 hm) (fun y hy => by
    rw [a.1.rs_eq] at hy
    have := hl y.l (by rw [← a.2.1]; exact List.mem_map_of_mem hy)
    omega)
  rw [decide_eq_true (show a.1.s.rs.map Sl8.l = b.1.s.rs.map Sl8.l by rw [a.1.rs_eq, b.1.rs_eq]; exact a.2.1.trans b.2.1.symm), a.1.v_eq, b.1.v_eq] at h
  exact h
theorem gr_room {w : World} {recs : List Bk} {m : Nat} (a : GrOf recs m) (hl : ∀ y ∈ recs, y.length ≤ 1000000) (hm : m ≤ 1000) (ha : a.1.s.ok w) :
    Calls Try.prog 18 [a.1.v].toArray w fun e w' => e = .returned (N (room recs)) ∧ Ext w w' := by
  have h := room_any a.1.s w ha (by rw [a.1.rs_eq]; exact Nat.le_trans a.2.2 hm) (fun y hy => by
    rw [a.1.rs_eq] at hy
    exact hl y.l (by rw [← a.2.1]; exact List.mem_map_of_mem hy))
  rw [a.1.v_eq, a.1.rs_eq, show a.1.rs.map Sl8.l = recs from a.2.1] at h
  exact h
theorem one_room {w0 w : World} {S : List Nat} {A M : List Ent} {b : Nat} {e : TypeId} {s : Sl8} (hw : Holds w0 S (A ++ (⟨b, Row e [s.v], true⟩ :: M)) w) (ok : s.ok w) (hl : s.l.length ≤ 1000000) :
    Calls Try.prog 18 [.slice (some ⟨b, 0, none⟩) 1 1].toArray w fun e w' => e = .returned (N (nb s.l.length)) ∧ Ext w w' := by
  have h := room_any ⟨some ⟨b, 0, none⟩, 1, [s]⟩ w ⟨Nat.le_refl _, rdLit hw, fun y hy => by rw [List.mem_singleton.1 hy]; exact ok⟩ (show 1 ≤ 1000 by decide) (fun y hy => by rw [List.mem_singleton.1 hy]; exact hl)
  have e1 : room (([s] : List Sl8).map Sl8.l) = nb s.l.length := by simp [room]
  rw [e1] at h
  exact h
theorem perm_t (A B Z J : List Ent) (e f : Ent) : (A ++ (e :: (B ++ (Z ++ (J ++ [f]))))).Perm (J ++ (A ++ (e :: (B ++ (Z ++ [f]))))) := by
  rw [show A ++ (e :: (B ++ (Z ++ (J ++ [f])))) = (A ++ (e :: (B ++ Z))) ++ (J ++ [f]) by simp, show J ++ (A ++ (e :: (B ++ (Z ++ [f])))) = J ++ ((A ++ (e :: (B ++ Z))) ++ [f]) by simp]
  exact List.perm_append_comm_assoc _ _ _
theorem less_assoc (A B C : List Ent) : Less (A ++ (B ++ C)) ((A ++ B) ++ C) := by rw [List.append_assoc]; exact Less.refl _
theorem perm_u (J Z A : List Ent) : (Z ++ (A ++ (J ++ []))).Perm (J ++ (Z ++ (A ++ []))) := by
  rw [List.append_nil, List.append_nil, ← List.append_assoc]
  exact List.perm_append_comm
theorem diskR_jv {h : Hf} {bl recs : List Bk} (v : Jv h bl recs) : (diskR bl).2.2 = recs := by
  have h4 := v.n4; have h5 := v.n5; have hn := v.n; have hfs := v.fs
  have ⟨a1, a2⟩ := halfR_is (bl := bl) (first := 0) (by omega) (by omega) h5
  have ⟨b1, b2⟩ := halfR_is (bl := bl) (first := bl.length / 2) (by omega) (by omega) h5
  have ⟨r1, r2⟩ := v.recH
  have ho := v.other
  have hg := v.g0
  rcases v.f with e | e
  · rw [e] at r1 r2 ho
    rw [Nat.sub_zero, hn] at ho
    have dr : diskR bl = (false, halfR (bsOf bl 0 (bl.length / 2) 0)) := by unfold diskR; rw [bs_first, bs_second, a1, b1, if_neg (by rw [r2]; omega)]
    rw [dr]
    exact (a2 (by rw [r2]; exact hg)).trans r1
  · rw [e, hn] at r1 r2
    rw [e, Nat.sub_self] at ho
    have dr : diskR bl = (true, halfR (bsOf bl (bl.length / 2) (bl.length / 2) 0)) := by unfold diskR; rw [bs_first, bs_second, a1, b1, if_pos (by rw [r2]; exact ho)]
    rw [dr]
    exact (b2 (by rw [r2]; exact hg)).trans r1
theorem OQ.neBl {P : Program} {n : Nat} {E : Env} {C : World → Prop} {dst : Option Tmp} {t t' ty : TypeId} {pos : String} {aft : Array Edge} {g : Option (Nat × Bool)} {x y : Operand} {a b : Bool} (hu : P.underlying t = some .bool) (hx : ev E x = some (.bool a)) (hy : ev E y = some (.bool b)) :
    OQ P n E C ⟨dst, .binOp .neq t x y t', ty, pos, aft, g⟩ (.bool (!(a == b))) :=
  OQ.run fun c ha w _ => by
    have h1 := ha.eval hx
    have h2 := ha.eval hy
    have h4 : (binOp .neq t (.bool a) (.bool b)).run P w = .ok (.bool (!(a == b))) w := by
      show (do pure (.bool (!(← Op.equalIn (9999 + 1) t (.bool a) (.bool b)))) : Sem Value).run P w = _
      simp [Sem.run_bind, run_equalIn_bool w 9999 t a b hu]
    simp [execOp, h1, h2, eqGuard, h4]
set_option maxHeartbeats 128000000 in
theorem law_journalCalls (bs : SlE) (s : SlD) (w : World) (hbs : bs.ok w) (hs : s.ok w) : Calls Try.prog 3 [bs.v, s.v].toArray w fun e w' => e = .returned (.bool true) ∧ Ext w w' := by
  refine enter (n := 202) Try.func3 rfl rfl rfl (Holds.start w []) ?_
  repeat (first | refine JL.q (by first | (apply OQ.callx (vs := []); exact goes_speaks15; exact rfl; exact (fun w' _ => speaks15_any w')) | (apply OQ.not; exact rfl) | (apply OQ.assign; exact rfl)) rfl ?_ | refine JC.seq ?_ | refine JC.region ?_ | refine JL.nil ?_ | refine JE.next ?_)
  refine JC.cond_false rfl rfl ?_
  by_cases hno : bs.l.length = 0 ∨ 100 < bs.l.length
  · repeat (first | refine JL.q (by first | (apply OQ.callx (vs := [bs.v]); exact goes_lraw15; exact rfl; exact (fun w' _ => lraw15_no bs w' hno)) | (apply OQ.ptrNil; exact Try.underlying25; exact rfl; exact rfl) | (apply OQ.pick_t; exact rfl; exact rfl) | (apply OQ.move; exact rfl) | (apply OQ.assign; exact rfl)) rfl ?_ | refine JC.seq ?_ | refine JC.region ?_ | refine JC.skip ?_ | refine JL.nil ?_ | refine JE.next ?_ | refine JL.gskip rfl rfl rfl rfl ?_)
    refine JC.cond_true rfl rfl ?_
    repeat (first | refine JL.q (by (apply OQ.assign; exact rfl)) rfl ?_ | refine JC.seq ?_ | refine JC.region ?_ | refine JL.nil ?_ | refine JE.next ?_)
    refine JC.ret ?_
    repeat (refine JE.then_ret ?_)
    exact JE.ret1 rfl (RV.tmp rfl) fun w' hw => ⟨rfl, hw.chg⟩
  have h0 : 0 < bs.l.length := by omega
  have h1 : bs.l.length ≤ 100 := by omega
  clear hno
  repeat (first | refine JL.q (by (apply OQ.move; exact rfl)) rfl ?_ | refine JC.seq ?_ | refine JC.region ?_ | refine JC.skip ?_ | refine JE.next ?_)
  refine JL.callg (ι := {x : Dp // DkOk x bs.l []}) (vs := [bs.v]) (fun x => Pt x.1.p 0) (fun x => dkE x.1 bs.l []) goes_lraw15 rfl rfl (fun x => dkE_wr _ _ _) (fun w' hw' => lraw15_yes bs w' (hbs.holds hw' rfl) h0 h1) fun x => ?_
  obtain ⟨x, hx⟩ := x
  dsimp only
  cases gg : greatD s
  case true =>
    have cG := fun {w' : World} {M : List Ent} (hw' : Holds w [] M w') => lgreat15_any s w' (hs.holds hw' rfl)
    rw [gg] at cG
    repeat (first | refine JL.q (by first | (apply OQ.ptrNil; exact Try.underlying25; exact rfl; exact rfl) | (apply OQ.callx (vs := [s.v]); exact goes_lgreat15; exact rfl; exact (fun w' hw' => cG hw')) | (apply OQ.pick_f; exact rfl; exact rfl) | (apply OQ.move; exact rfl) | (apply OQ.assign; exact rfl)) rfl ?_ | refine JC.seq ?_ | refine JC.region ?_ | refine JL.nil ?_ | refine JE.next ?_ | refine JL.gon rfl rfl ?_)
    refine JC.cond_true rfl rfl ?_
    repeat (first | refine JL.q (by (apply OQ.assign; exact rfl)) rfl ?_ | refine JC.seq ?_ | refine JC.region ?_ | refine JL.nil ?_ | refine JE.next ?_)
    refine JC.ret ?_
    repeat (refine JE.then_ret ?_)
    exact JE.ret1 rfl (RV.tmp rfl) fun w' hw => ⟨rfl, hw.chg⟩
  have ⟨h60, hb2⟩ := greatD_no gg
  have cG := fun {w' : World} {M : List Ent} (hw' : Holds w [] M w') => lgreat15_any s w' (hs.holds hw' rfl)
  rw [gg] at cG
  repeat (first | refine JL.q (by first | (apply OQ.ptrNil; exact Try.underlying25; exact rfl; exact rfl) | (apply OQ.callx (vs := [s.v]); exact goes_lgreat15; exact rfl; exact (fun w' hw' => cG hw')) | (apply OQ.pick_f; exact rfl; exact rfl) | (apply OQ.move; exact rfl) | (apply OQ.assign; exact rfl)) rfl ?_ | refine JC.seq ?_ | refine JC.region ?_ | refine JL.nil ?_ | refine JE.next ?_ | refine JL.gon rfl rfl ?_)
  refine JC.cond_false rfl rfl ?_
  clear cG gg
  by_cases hop : noOpen bs.l = 0
  case neg =>
    have cO := fun {w' : World} {M : List Ent} (hw' : Holds w [] (dkE x bs.l [] ++ M) w') => lopens15_no x bs.l [] hx.ok (by omega) hop w' (dkR_of hw')
    repeat (first | refine JL.q (by first | (apply OQ.callx (vs := [Pt x.p 0]); exact goes_lopens15; exact rfl; exact (fun w' hw' => cO hw')) | (apply OQ.extract; exact rfl; exact rfl) | (apply OQ.not; exact rfl) | (apply OQ.ptrNil; exact Try.underlying28; exact rfl; exact rfl) | (apply OQ.pick_f; exact rfl; exact rfl) | (apply OQ.move; exact rfl) | (apply OQ.assign; exact rfl)) rfl ?_ | refine JC.seq ?_ | refine JC.region ?_ | refine JC.skip ?_ | refine JL.nil ?_ | refine JE.next ?_ | refine JL.gon rfl rfl ?_)
    refine JC.cond_true rfl rfl ?_
    repeat (first | refine JL.q (by first | (apply OQ.move; exact rfl) | (apply OQ.assign; exact rfl)) rfl ?_ | refine JC.seq ?_ | refine JC.region ?_ | refine JL.nil ?_ | refine JE.next ?_)
    refine JC.ret ?_
    repeat (refine JE.then_ret ?_)
    exact JE.ret1 rfl (RV.tmp rfl) fun w' hw => ⟨rfl, hw.chg⟩
  repeat (first | refine JL.q (by (apply OQ.move; exact rfl)) rfl ?_ | refine JC.seq ?_ | refine JC.region ?_ | refine JC.skip ?_ | refine JE.next ?_)
  refine JL.callV (ι := Nat) (X := dkE x bs.l []) (vs := [Pt x.p 0]) (fun jp => .tuple #[Pt jp 0, .bool true]) (fun jp => jnE jp (opnJ x bs.l) (opnD bs.l) []) goes_lopens15 rfl rfl (dkE_wr _ _ _) (fun _ => jnE_wr _ _ _ _) (fun w' _ hw' => lopens15_yes x bs.l hx (by omega) hop w' hw') fun jp => ?_
  have v := Jv.opn (x := x) hx.ok.b (by omega) hop
  have hd := hx.opn hop
  have hxp : (opnJ x bs.l).x.p = x.p := rfl
  have hml : (opnD bs.l).length = bs.l.length := opnD_len hx hop
  rw [← hxp]
  generalize opnJ x bs.l = h at v hd ⊢
  generalize opnD bs.l = bl at v hd hml ⊢
  have hz0 : Jt.ok ⟨0, jp, h, bl⟩ bs.l.length := ⟨⟨_, v⟩, hd, hml⟩
  clear v hd hml hxp
  repeat (first | refine JL.q (by first | (apply OQ.extract; exact rfl; exact rfl) | (apply OQ.not; exact rfl) | (apply OQ.ptrNil; exact Try.underlying28; exact rfl; exact rfl) | (apply OQ.pick_f; exact rfl; exact rfl) | (apply OQ.move; exact rfl) | (apply OQ.assign; exact rfl)) rfl ?_ | refine JC.seq ?_ | refine JC.region ?_ | refine JL.nil ?_ | refine JE.next ?_ | refine JL.gon rfl rfl ?_)
  refine JC.cond_false rfl rfl ?_
  generalize hmm : bs.l.length = m at hz0 h0 h1
  have hbv : bs.v = .slice bs.ad m bs.cap := by rw [← hmm]; rfl
  rw [hbv]
  repeat (first | refine JL.q (by first | (apply OQ.len (k := m) (ad := bs.ad) (cap := bs.cap); exact Try.underlying22; exact rfl) | (apply OQ.quoN (a := m) (b := 2); exact rfl; exact rfl; exact (by decide); exact (by omega)) | (apply OQ.len (k := s.l.length) (ad := s.ad) (cap := s.cap); exact Try.underlying23; exact rfl) | (apply OQ.move; exact rfl) | (apply OQ.assign; exact rfl)) rfl ?_ | refine JC.seq ?_ | refine JC.region ?_ | refine JC.block ?_ | refine JC.skip ?_ | refine JL.nil ?_ | refine JE.next ?_)
  refine JC.loop (fun z : Jt => [(5, Pt z.h.x.p 0), (6, Pt z.j 0), (8, N (m / 2)), (45, s.v), (46, N s.l.length), (47, N z.i)]) (fun z => jnE z.j z.h z.bl [] ++ []) (fun z => s.l.length - z.i) (fun z => z.i ≤ s.l.length ∧ z.ok m) ⟨0, jp, h, bl⟩ ⟨Nat.zero_le _, hz0⟩ (by repeat (first | exact SubE.nil | refine SubE.cons _ _ _ rfl ?_)) (Less.refl _) ?_
  clear hz0 hbv hmm hop hx
  rintro ⟨i, jp, h, bl⟩ ⟨hi, ⟨⟨recs, v⟩, hd, hml⟩⟩
  dsimp only at hi v hd hml ⊢
  repeat (first | refine JL.q (by (apply OQ.lssN; exact rfl; exact rfl)) rfl ?_ | refine JC.seq ?_ | refine JC.region ?_ | refine JL.nil ?_ | refine JE.next ?_)
  refine JC.cond rfl (fun hc => ?_) (fun hc => ?_)
  · have hi' : i < s.l.length := Nat.lt_of_not_le fun h => by have := of_decide_eq_true hc; omega
    clear hc
    obtain ⟨bL, jL, eL, lL, cL⟩ := hs.at hi'
    have hmem := SlD.get_mem hi'
    have okd := hs.all _ hmem
    have hb2 := hb2 _ hmem
    generalize s.l.getD i noCallD = d at cL okd hb2
    clear hmem
    have hsv : s.v = .slice (some ⟨bL, jL, none⟩) s.l.length s.cap := by rw [← eL]; rfl
    rw [hsv]
    repeat (first | refine JL.q (by first | (apply OQ.idxS (i := i); exact Try.underlying23; exact cd3; exact rfl; exact rfl; exact hi') | (apply OQ.load_agg_old (cs := d.cs); exact cdAg; exact rfl; exact cd3; exact lL; exact (by simp); exact cL)) rfl ?_ | refine JC.seq ?_ | refine JC.region ?_ | refine JC.block ?_ | refine JC.skip ?_ | refine JE.next ?_)
    rw [← hsv]
    clear cL lL eL hsv
    refine JL.alloc cdZ rfl fun b10 _ => ?_
    refine JL.store_all (cs := d.cs) cd3 rfl rfl rfl rfl .here rfl ?_
    have hfs := v.fs; have hu := v.u; have hr := v.r; have hn := v.n; have hge := room_ge recs
    have hsz : h.size = m / 2 := by rw [hn, hml]
    have hrl := v.rec_len
    refine JL.perm (M' := jnE jp h bl [] ++ [⟨b10, Row 33 d.cs, true⟩]) ?_ (by rw [List.append_nil]; exact List.perm_append_comm (l₁ := [_]))
    repeat (first | refine JL.q (by (apply OQ.move; exact rfl)) rfl ?_ | refine JC.seq ?_ | refine JC.region ?_ | refine JL.nil ?_ | refine JE.next ?_)
    refine JL.jrecs0 (m := m / 2) v hd hsz rfl rfl fun zr => ?_
    have hrs : zr.1.rs.length = recs.length := by have := congrArg List.length zr.2.1; rw [Gr.l, List.length_map] at this; exact this
    repeat (refine JL.q (by (apply OQ.move; exact rfl)) rfl ?_)
    refine JL.callg (ι := Nat × Nat) (vs := [Pt h.x.p 0]) (fun q => accV (some q) bl.length) (fun q => accC 83 64 (some q) (bcs bl)) goes_lblocks15 rfl rfl (fun _ => accC_wr _ _ _ _) (fun w' hw' => lblocks15_any h.x bl [] hd.ok (by omega) w' (dkR_jn (hw'.weak (less_post zr.1.E _)))) fun qb => ?_
    have hbv : accV (some qb) bl.length = (⟨some ⟨qb.1, 0, none⟩, qb.2, bl⟩ : SlE).v := rfl
    rw [hbv]
    have cR := fun {A M : List Ent} {w' : World} (hw' : Holds w [] (A ++ (zr.1.E ++ M)) w') => gr_room zr (fun y hy => by have := hrl y hy; have := rec_len hy; omega) (by omega) (zr.1.ok (hw'.weak (less_app _ (less_pre _ _))))
    repeat (first | refine JL.q (by first | (apply OQ.callx (vs := [zr.1.v]); exact goes_room; exact rfl; exact (fun w' hw' => cR (A := accC 83 64 (some qb) (bcs bl)) hw')) | (apply OQ.subN (a := m / 2) (b := room recs); exact rfl; exact rfl; exact (by omega); exact (by omega)) | (apply OQ.load; exact slCj; exact rfl; exact (hasR (N := accC 83 64 (some qb) (bcs bl)) (hasR (N := zr.1.E) (hasR (N := jnE jp h bl []) .here))); exact (Row.cell (v := d.b.v) rfl)) | (apply OQ.move; exact rfl) | (apply OQ.assign; exact rfl) | (apply OQ.fld; exact rfl; exact rfl; exact rfl; exact (by decide); exact rfl)) rfl ?_ | refine JC.seq ?_ | refine JC.region ?_ | refine JL.nil ?_ | refine JE.next ?_)
    refine JL.lit1 (v := d.b.v) Try.underlying34 slEj rfl rfl rfl rfl fun b61 _ => ?_
    have cO := fun {w' : World} {M : List Ent} (hw' : Holds w [] (⟨b61, Row 31 [d.b.v], true⟩ :: M) w') => one_room (A := []) hw' (okd.holds hw' rfl) (by omega)
    repeat (refine JL.q (by first | (apply OQ.callx (vs := [.slice (some ⟨b61, 0, none⟩) 1 1]); exact goes_room; exact rfl; exact (fun w' hw' => cO hw')) | (apply OQ.assign; exact rfl)) rfl ?_)
    refine JL.nil ?_
    refine JE.next ?_
    clear cR cO
    have hsa : h.size = m / 2 := hsz
    have hgl : recs.length ≤ m / 2 := by omega
    refine JC.seq ?_
    refine JC.join (ι := Jt) (fun z => [(5, Pt z.h.x.p 0), (6, Pt z.j 0), (8, N (m / 2)), (45, s.v), (46, N s.l.length), (47, N i)]) (fun z => jnE z.j z.h z.bl [] ++ []) (fun z => z.ok m) ?_ ?_
    · cases c0 : decide (d.what = 0)
      case true =>
        repeat (first | refine JL.q (by first | (apply OQ.load; exact intC; exact rfl; exact (.there (hasR (N := accC 83 64 (some qb) (bcs bl)) (hasR (N := zr.1.E) (hasR (N := jnE jp h bl []) .here)))); exact (Row.cell (v := .int .i64 d.what) rfl)) | (apply OQ.eqB (a := d.what) (b := 0); exact rfl; exact rfl; exact c0) | (apply OQ.assign; exact rfl) | (apply OQ.fld; exact rfl; exact rfl; exact rfl; exact (by decide); exact rfl)) rfl ?_ | refine JC.seq ?_ | refine JC.region ?_ | refine JC.block ?_ | refine JL.nil ?_ | refine JE.next ?_)
        refine JC.cond_true rfl rfl ?_
        repeat (first | refine JL.q (by (apply OQ.move; exact rfl)) rfl ?_ | refine JC.seq ?_ | refine JC.region ?_)
        refine JL.lit0O Try.underlying31 u8e rfl fun b90 _ => ?_
        repeat (refine JL.q (by first | (apply OQ.load; exact slCj; exact rfl; exact (.there (.there (hasR (N := accC 83 64 (some qb) (bcs bl)) (hasR (N := zr.1.E) (hasR (N := jnE jp h bl []) .here))))); exact (Row.cell (v := d.b.v) rfl)) | (apply OQ.fld; exact rfl; exact rfl; exact rfl; exact (by decide); exact rfl)) rfl ?_)
        refine JL.perm (M' := accE 5 (some (b90, 0)) [] ++ (⟨b61, Row 31 [d.b.v], true⟩ :: (accC 83 64 (some qb) (bcs bl) ++ (zr.1.E ++ (jnE jp h bl [] ++ [⟨b10, Row 33 d.cs, true⟩]))))) ?_ (.refl _)
        refine JL.appendQ (xs := []) (cs := d.b.l.map U8) (m := d.b.l.length) (ad := d.b.ad) (sc := d.b.cap) (some (b90, 0)) Try.underlying31 u8e nofun rfl rfl (by simp) (fun w' hw' => (okd.holds hw' rfl).reads) (all8U _) rfl (by rw [List.length_nil]; omega) (by rw [List.length_nil]; omega) rfl fun q93 hq93 => ?_
        rw [List.nil_append] at hq93 ⊢
        rw [List.length_map]
        have hcp : (accS q93 d.b.l).l = d.b.l := accS_l (fun e => List.map_eq_nil_iff.1 (hq93 e))
        refine JL.perm ?_ (perm_t _ _ _ _ _ _)
        by_cases hf : nb d.b.l.length ≤ h.size - h.used
        · refine JL.japp (s := accS q93 d.b.l) v hd (Nat.zero_le _) (by rw [hcp]; exact hf) (fun w' hw' => ⟨acc_ok (hw'.weak (less_post _ _)), acc_away hw'⟩) rfl (by rw [accS_v]; rfl) rfl ?_
          rw [hcp]
          have c9 : decide (((m / 2 - room recs : Nat) : Int) < ((nb d.b.l.length : Nat) : Int)) = false := decide_eq_false (by omega)
          repeat (first | refine JL.q (by first | (apply OQ.gtrB; exact rfl; exact rfl; exact c9) | (apply OQ.move; exact rfl) | (apply OQ.assign; exact rfl)) rfl ?_ | refine JC.seq ?_ | refine JC.region ?_ | refine JL.nil ?_ | refine JE.next ?_)
          refine JC.cond_false rfl rfl ?_
          have va := v.app hf
          have da := hd.app v hf
          have hxl := va.rec_len
          have hla : (appD h bl d.b.l).length = m := by
            unfold appD
            rw [putAt_len (by rw [blks_len]; omega), hml]
          have gd : GrOf (recs ++ [d.b.l]) (m / 2) := grD (by
            have := va.r; have := room_ge (recs ++ [d.b.l])
            have e : (appJ h d.b.l).size = h.size := rfl
            omega)
          have same24 : ∀ (z : GrOf (recs ++ [d.b.l]) (m / 2)) (q : Nat × Nat) (w' : World), Holds w [] (z.1.E ++ (accE 31 (some q) (zr.1.rs.map Sl8.v ++ [d.b.v]) ++ (flatE zr.1.rs ++ []))) w' → Calls Try.prog 21 [z.1.v, accV (some q) (zr.1.rs.map Sl8.v ++ [d.b.v]).length].toArray w' fun e w'' => e = .returned (.bool true) ∧ Ext w' w'' := by
            intro z q w' hw'
            have hsl : SlL.ok w' ⟨some ⟨q.1, 0, none⟩, q.2, zr.1.rs ++ [d.b]⟩ := by
              obtain ⟨o, ho, hA⟩ := hw'.get (b := q.1) (A := Sl.Own 31 1 (zr.1.rs.map Sl8.v ++ [d.b.v]).length q.2 (zr.1.rs.map Sl8.v ++ [d.b.v])) (wr := true) (hasR (N := z.1.E) .here)
              have hc := hA
              obtain ⟨sp, _, _, _, h4⟩ := hc
              have eM : zr.1.rs.map Sl8.v ++ [d.b.v] = (zr.1.rs ++ [d.b]).map Sl8.v := by rw [List.map_append, List.map_singleton]
              rw [eM] at hA h4
              refine ⟨by rw [List.length_map] at h4; exact h4, Reads.block ho (Sl.Own.cells o hA), fun y hy => ?_⟩
              rcases List.mem_append.1 hy with hy | hy
              · exact flat_ok (A := z.1.E ++ accE 31 (some q) (zr.1.rs.map Sl8.v ++ [d.b.v])) (by rw [List.append_assoc]; rw [List.append_nil] at hw'; exact hw') zr.1.h0 y hy
              · rw [List.mem_singleton.1 hy]; exact okd.holds hw' rfl
            have h := samel_any z.1.s ⟨some ⟨q.1, 0, none⟩, q.2, zr.1.rs ++ [d.b]⟩ w' (z.1.ok (hw'.weak (less_pre _ _))) hsl (by rw [z.1.rs_eq]; have := z.2.2; omega) (fun y hy => by
              rw [z.1.rs_eq] at hy
              have := hxl y.l (by rw [← z.2.1]; exact List.mem_map_of_mem hy)
              omega)
            rw [decide_eq_true (by
              rw [z.1.rs_eq, List.map_append, List.map_singleton]
              exact z.2.1.trans (congrArg (· ++ [d.b.l]) zr.2.1.symm)), z.1.v_eq] at h
            rw [show (zr.1.rs.map Sl8.v ++ [d.b.v]).length = (zr.1.rs ++ [d.b]).length by simp]
            exact h
          haveI : Inhabited (GrOf (recs ++ [d.b.l]) (m / 2)) := ⟨gd⟩
          repeat (refine JC.seq ?_)
          let vs : Nat → GrOf (recs ++ [d.b.l]) (m / 2) × (Nat × Nat) × Nat → Value := fun j y => match j with
            | 0 => N 0
            | 1 => .bool false
            | 2 => .bool false
            | 3 => Pt jp 0
            | 4 => y.1.1.v
            | 5 => zr.1.v
            | 6 => Pt b10 2
            | 7 => d.b.v
            | 8 => .slice (some ⟨y.2.2, 0, none⟩) 1 1
            | 9 => accV (some y.2.1) (zr.1.rs.map Sl8.v ++ [d.b.v]).length
            | 10 => .bool true
            | 11 => .bool false
            | 12 => .bool false
            | _ => N 0
          let Ms : Nat → GrOf (recs ++ [d.b.l]) (m / 2) × (Nat × Nat) × Nat → List Ent := fun j y => match j with
            | 4 => y.1.1.E
            | 8 => [⟨y.2.2, Row 31 [d.b.v], true⟩]
            | 9 => accE 31 (some y.2.1) (zr.1.rs.map Sl8.v ++ [d.b.v])
            | 13 => jnE jp (appJ h d.b.l) (appD h bl d.b.l) []
            | 14 => accE 31 zr.1.q (zr.1.rs.map Sl8.v)
            | 15 => flatE zr.1.rs
            | 16 => [⟨b10, Row 33 d.cs, true⟩]
            | _ => []
          refine JC.grow (g := ⟨[(5, Pt h.x.p 0), (6, Pt jp 0), (8, N (m / 2)), (10, Pt b10 0), (11, zr.1.v), (15, N 0), (45, s.v), (46, N s.l.length), (47, N i)], 17, vs, Ms, (fun j => match j with | 1 => [(0, 114)] | 2 => [(1, 115)] | 3 => [(2, 116)] | 4 => [(3, 117), (2, 116)] | 5 => [(2, 116)] | 6 => [(2, 116)] | 7 => [(6, 120), (2, 116)] | 8 => [(7, 121), (2, 116)] | 9 => [(5, 119), (8, 122), (2, 116)] | 10 => [(4, 118), (9, 123), (2, 116)] | 11 => [(10, 124), (2, 116)] | 12 => [(2, 116), (11, 125)] | _ => []), (fun j => match j with | 4 => [13] | 7 => [16] | 9 => [14, 8] | 10 => [4, 9, 15] | _ => []), (fun j => match j with | 9 => [14] | _ => []), (fun j => match j with | _ => none)⟩) [(12, 126)] [13] mixT (by repeat (first | exact SubE.nil | refine SubE.cons _ _ _ rfl ?_)) ?_ (by kernel_rfl) (by kernel_rfl) (by kernel_rfl) ?_ ?_
          · exact less_two (Less.refl _) (less_app _ (.drop _ _ _ (less_app _ (less_assoc _ _ _))))
          · refine ⟨?_, ?_, ?_, ?_, ?_, ?_, ?_, ?_, ?_, ?_, ?_, ?_, ?_, trivial⟩
            · (intro xx EF MF Q kk; (try refine JL.gon rfl rfl ?_); exact JL.q (OQ.move rfl) rfl (JL.nil (kk default nofun)))
            · (intro xx EF MF Q kk; (try refine JL.gon rfl rfl ?_); exact JL.q (OQ.neB (a := 0) (b := 0) rfl rfl (c := true) rfl) rfl (JL.nil (kk default nofun)))
            · (intro xx EF MF Q kk; (try refine JL.gon rfl rfl ?_); exact JL.q (OQ.move rfl) rfl (JL.nil (kk default nofun)))
            · (intro xx EF MF Q kk; (try refine JL.gon rfl rfl ?_); exact JL.q (OQ.move rfl) rfl (JL.nil (kk default nofun)))
            · (intro xx EF MF Q kk; (try refine JL.gon rfl rfl ?_); exact JL.jrecs0 (j := jp) (m := m / 2) va da hsa rfl rfl fun z => JL.nil (kk (z, (0, 0), 0) nofun))
            · (intro xx EF MF Q kk; (try refine JL.gon rfl rfl ?_); exact JL.q (OQ.move rfl) rfl (JL.nil (kk default nofun)))
            · (intro xx EF MF Q kk; (try refine JL.gon rfl rfl ?_); exact JL.q (OQ.fld rfl rfl rfl (by decide) rfl) rfl (JL.nil (kk default nofun)))
            · (intro xx EF MF Q kk; (try refine JL.gon rfl rfl ?_); exact JL.q (OQ.load slCj rfl .here (Row.cell (v := d.b.v) rfl)) rfl (JL.nil (kk default nofun)))
            · (intro xx EF MF Q kk; (try refine JL.gon rfl rfl ?_); exact JL.lit1 (v := d.b.v) Try.underlying34 slEj rfl rfl rfl rfl fun b _ => JL.nil (kk (gd, (0, 0), b) nofun))
            · (intro xx EF MF Q kk; (try refine JL.gon rfl rfl ?_); refine JL.perm (M' := accE 31 zr.1.q (zr.1.rs.map Sl8.v) ++ ((Ms 8 (xx 8) ++ []) ++ MF)) ?_ (List.Perm.of_eq (List.append_assoc _ _ _)); refine JL.appendQ (xs := zr.1.rs.map Sl8.v) (cs := [d.b.v]) (m := 1) (ad := some ⟨(xx 8).2.2, 0, none⟩) (sc := 1) zr.1.q Try.underlying34 slEj (fun e => by rw [zr.1.hq e]; rfl) ?hzx9 rfl rfl (fun w' hw' => rdLit (A := accE 31 zr.1.q (zr.1.rs.map Sl8.v)) (M := MF) hw') (fun v hv => by rw [List.mem_singleton.1 hv]; rfl) rfl (by rw [List.length_map]; omega) (by rw [List.length_map]; omega) rfl ?hkk9; (case hzx9 => rw [List.length_map]; rfl); (case hkk9 => intro q3 hq3; cases q3 with | none => exact absurd (hq3 rfl) (by simp) | some p => exact JL.nil (kk (gd, p, 0) nofun)))
            · (intro xx EF MF Q kk; (try refine JL.gon rfl rfl ?_); exact JL.q (OQ.callx (vs := [(xx 4).1.1.v, accV (some (xx 9).2.1) (zr.1.rs.map Sl8.v ++ [d.b.v]).length]) goes_samel rfl (fun w' hw' => same24 (xx 4).1 (xx 9).2.1 w' (Holds.weak (show Holds w [] (((xx 4).1.1.E ++ (accE 31 (some (xx 9).2.1) (zr.1.rs.map Sl8.v ++ [d.b.v]) ++ (flatE zr.1.rs ++ []))) ++ MF) w' from hw') (less_pre _ _)))) rfl (JL.nil (kk default nofun)))
            · (intro xx EF MF Q kk; (try refine JL.gon rfl rfl ?_); exact JL.q (OQ.not rfl) rfl (JL.nil (kk default nofun)))
            · (intro xx EF MF Q kk; (try refine JL.gon rfl rfl ?_); exact JL.q (OQ.pick_f rfl rfl) rfl (JL.nil (kk default nofun)))
          · intro xx hx
            show JE _ _ _ _ _ [(126, .bool false), (5, Pt h.x.p 0), (6, Pt jp 0), (8, N (m / 2)), (10, Pt b10 0), (11, zr.1.v), (15, N 0), (45, s.v), (46, N s.l.length), (47, N i)] (jnE jp (appJ h d.b.l) (appD h bl d.b.l) [] ++ [])
            clear hx xx vs Ms
            refine JE.next ?_
            refine JC.cond_false rfl rfl ?_
            repeat (first | refine JC.skip ?_ | refine JE.blk_normal ?_)
            exact JE.mid ⟨0, jp, appJ h d.b.l, appD h bl d.b.l⟩ ⟨⟨_, va⟩, da, hla⟩ (by repeat (first | exact SubE.nil | refine SubE.cons _ _ _ rfl ?_)) (Less.refl _)
        · have cA : ∀ {w' : World} {M : List Ent}, Holds w [] (jnE jp h bl [] ++ M) w' → Calls Try.prog 19 [Pt jp 0, accV q93 d.b.l.length].toArray w' fun e w'' => e = .returned (N 6) ∧ Ext w' w'' := by
            intro w' M hw'
            have := app_no jp h (accS q93 d.b.l) (by omega) (by omega) (by rw [hcp]; omega) (by rw [hcp]; exact hf) w' (ro_one hw')
            rwa [accS_v] at this
          have c9 : decide (((m / 2 - room recs : Nat) : Int) < ((nb d.b.l.length : Nat) : Int)) = true := decide_eq_true (by omega)
          repeat (first | refine JL.q (by first | (apply OQ.callx (vs := [Pt jp 0, accV q93 d.b.l.length]); exact goes_app; exact rfl; exact (fun w' hw' => cA hw')) | (apply OQ.gtrB; exact rfl; exact rfl; exact c9) | (apply OQ.move; exact rfl) | (apply OQ.assign; exact rfl)) rfl ?_ | refine JC.seq ?_ | refine JC.region ?_ | refine JL.nil ?_ | refine JE.next ?_)
          refine JC.cond_true rfl rfl ?_
          repeat (first | refine JL.q (by first | (apply OQ.neB (a := 6) (b := 6) (c := true); exact rfl; exact rfl; exact rfl) | (apply OQ.move; exact rfl)) rfl ?_ | refine JC.seq ?_ | refine JC.region ?_ | refine JL.gon rfl rfl ?_)
          refine JL.callg (ι := Nat × Nat) (vs := [Pt h.x.p 0]) (fun q => accV (some q) bl.length) (fun q => accC 83 64 (some q) (bcs bl)) goes_lblocks15 rfl rfl (fun _ => accC_wr _ _ _ _) (fun w' hw' => lblocks15_any h.x bl [] hd.ok (by omega) w' (dkR_jn hw')) fun q2 => ?_
          have hbv2 : accV (some q2) bl.length = (⟨some ⟨q2.1, 0, none⟩, q2.2, bl⟩ : SlE).v := rfl
          rw [hbv2]
          have cS := fun {w' : World} (hw' : Holds w [] (accC 83 64 (some q2) (bcs bl) ++ (jnE jp h bl [] ++ (accE 5 q93 (d.b.l.map U8) ++ (⟨b61, Row 31 [d.b.v], true⟩ :: (accC 83 64 (some qb) (bcs bl) ++ (zr.1.E ++ [⟨b10, Row 33 d.cs, true⟩])))))) w') => lsame15_any ⟨some ⟨qb.1, 0, none⟩, qb.2, bl⟩ ⟨some ⟨q2.1, 0, none⟩, q2.2, bl⟩ w' (ownB (A := accC 83 64 (some q2) (bcs bl) ++ (jnE jp h bl [] ++ (accE 5 q93 (d.b.l.map U8) ++ [⟨b61, Row 31 [d.b.v], true⟩]))) (M := zr.1.E ++ [⟨b10, Row 33 d.cs, true⟩]) (by simpa [List.append_assoc] using hw') hd.ok.b) (ownB (A := []) hw' hd.ok.b) (by show bl.length ≤ _; omega)
          rw [decide_eq_true rfl] at cS
          repeat (first | refine JL.q (by first | (apply OQ.callx (vs := [(⟨some ⟨qb.1, 0, none⟩, qb.2, bl⟩ : SlE).v, (⟨some ⟨q2.1, 0, none⟩, q2.2, bl⟩ : SlE).v]); exact goes_lsame15; exact rfl; exact (fun w' hw' => cS hw')) | (apply OQ.not; exact rfl) | (apply OQ.pick_f; exact rfl; exact rfl) | (apply OQ.move; exact rfl)) rfl ?_ | refine JL.gon rfl rfl ?_)
          refine JL.perm ?_ (List.perm_append_comm_assoc _ _ _)
          refine JL.jrecs0 (m := m / 2) v hd hsz rfl rfl fun zr2 => ?_
          have cS2 := fun {w' : World} (hw' : Holds w [] (zr2.1.E ++ (jnE jp h bl [] ++ (accC 83 64 (some q2) (bcs bl) ++ (accE 5 q93 (d.b.l.map U8) ++ (⟨b61, Row 31 [d.b.v], true⟩ :: (accC 83 64 (some qb) (bcs bl) ++ (zr.1.E ++ [⟨b10, Row 33 d.cs, true⟩]))))))) w') => same_gr zr2 zr hrl (by omega) (zr2.1.ok (hw'.weak (less_pre _ _))) (zr.1.ok (hw'.weak (less_app _ (less_app _ (less_app _ (less_app _ (.drop _ _ _ (less_app _ (less_pre _ _)))))))))
          repeat (first | refine JL.q (by first | (apply OQ.callx (vs := [zr2.1.v, zr.1.v]); exact goes_samel; exact rfl; exact (fun w' hw' => cS2 hw')) | (apply OQ.not; exact rfl) | (apply OQ.pick_f; exact rfl; exact rfl) | (apply OQ.move; exact rfl)) rfl ?_ | refine JL.nil ?_ | refine JE.next ?_ | refine JL.gon rfl rfl ?_)
          refine JC.cond_false rfl rfl ?_
          repeat (first | refine JC.skip ?_ | refine JE.blk_normal ?_)
          exact JE.mid ⟨0, jp, h, bl⟩ ⟨⟨_, v⟩, hd, hml⟩ (by repeat (first | exact SubE.nil | refine SubE.cons _ _ _ rfl ?_)) (less_app _ (less_two (Less.refl _) (.nil _)))
      case false =>
        cases c1 : decide (d.what = 1)
        case true =>
          repeat (first | refine JL.q (by first | (apply OQ.load; exact intC; exact rfl; exact (.there (hasR (N := accC 83 64 (some qb) (bcs bl)) (hasR (N := zr.1.E) (hasR (N := jnE jp h bl []) .here)))); exact (Row.cell (v := .int .i64 d.what) rfl)) | (apply OQ.eqB (a := d.what) (b := 0); exact rfl; exact rfl; exact c0) | (apply OQ.assign; exact rfl) | (apply OQ.fld; exact rfl; exact rfl; exact rfl; exact (by decide); exact rfl)) rfl ?_ | refine JC.seq ?_ | refine JC.region ?_ | refine JC.block ?_ | refine JL.nil ?_ | refine JE.next ?_)
          refine JC.cond_false rfl rfl ?_
          repeat (first | refine JL.q (by first | (apply OQ.eqB (a := d.what) (b := 1); exact rfl; exact rfl; exact c1) | (apply OQ.assign; exact rfl)) rfl ?_ | refine JC.seq ?_ | refine JC.region ?_ | refine JL.nil ?_ | refine JE.next ?_)
          refine JC.cond_true rfl rfl ?_
          repeat (first | refine JL.q (by (apply OQ.move; exact rfl)) rfl ?_ | refine JC.seq ?_ | refine JC.region ?_)
          refine JL.lit0O Try.underlying31 u8e rfl fun b130 _ => ?_
          repeat (refine JL.q (by first | (apply OQ.load; exact slCj; exact rfl; exact (.there (.there (hasR (N := accC 83 64 (some qb) (bcs bl)) (hasR (N := zr.1.E) (hasR (N := jnE jp h bl []) .here))))); exact (Row.cell (v := d.b.v) rfl)) | (apply OQ.fld; exact rfl; exact rfl; exact rfl; exact (by decide); exact rfl)) rfl ?_)
          refine JL.perm (M' := accE 5 (some (b130, 0)) [] ++ (⟨b61, Row 31 [d.b.v], true⟩ :: (accC 83 64 (some qb) (bcs bl) ++ (zr.1.E ++ (jnE jp h bl [] ++ [⟨b10, Row 33 d.cs, true⟩]))))) ?_ (.refl _)
          refine JL.appendQ (xs := []) (cs := d.b.l.map U8) (m := d.b.l.length) (ad := d.b.ad) (sc := d.b.cap) (some (b130, 0)) Try.underlying31 u8e nofun rfl rfl (by simp) (fun w' hw' => (okd.holds hw' rfl).reads) (all8U _) rfl (by rw [List.length_nil]; omega) (by rw [List.length_nil]; omega) rfl fun q133 hq133 => ?_
          rw [List.nil_append] at hq133 ⊢
          rw [List.length_map]
          have hcp : (accS q133 d.b.l).l = d.b.l := accS_l (fun e => List.map_eq_nil_iff.1 (hq133 e))
          refine JL.perm ?_ (perm_t _ _ _ _ _ _)
          have cN := fun {A M : List Ent} {w' : World} (hw' : Holds w [] (A ++ (accC 83 64 (some qb) (bcs bl) ++ M)) w') => newest_any ⟨some ⟨qb.1, 0, none⟩, qb.2, bl⟩ w' (ownB hw' hd.ok.b) (by show bl.length ≤ _; omega)
          have cN2 := fun {M2 A1 A2 : List Ent} {e61 : Ent} {w' : World} (hw' : Holds w [] (A1 ++ (A2 ++ (e61 :: (accC 83 64 (some qb) (bcs bl) ++ M2)))) w') => cN (A := A1 ++ (A2 ++ [e61])) (M := M2) (by simpa [List.append_assoc] using hw')
          have hglt := (gm bl).isLt
          by_cases hq : noRst h bl d.b.l.length
          · have cA : ∀ {w' : World} {M : List Ent}, Holds w [] (jnE jp h bl [] ++ M) w' → Calls Try.prog 22 [Pt jp 0, accV q133 d.b.l.length].toArray w' fun e w'' => e = .returned (N 6) ∧ Ext w' w'' := by
              intro w' M hw'
              have := rst_no jp h bl [] (accS q133 d.b.l) hd.ok (by omega) (by omega) (by rw [hcp]; omega) (by rw [hcp]; exact hq) w' (jnR_of hw')
              rwa [accS_v] at this
            repeat (first | refine JL.q (by first | (apply OQ.callx (vs := [Pt jp 0, accV q133 d.b.l.length]); exact goes_rst; exact rfl; exact (fun w' hw' => cA hw')) | (apply OQ.move; exact rfl) | (apply OQ.assign; exact rfl)) rfl ?_ | refine JC.seq ?_ | refine JC.region ?_ | refine JL.nil ?_ | refine JE.next ?_)
            by_cases hq2 : h.size < nb d.b.l.length
            · have c9 : decide (((m / 2 : Nat) : Int) < ((nb d.b.l.length : Nat) : Int)) = true := decide_eq_true (by omega)
              repeat (first | refine JL.q (by first | (apply OQ.gtrB; exact rfl; exact rfl; exact c9) | (apply OQ.pick_t; exact rfl; exact rfl) | (apply OQ.move; exact rfl)) rfl ?_ | refine JL.nil ?_ | refine JE.next ?_ | refine JL.gskip rfl rfl rfl rfl ?_)
              refine JC.cond_true rfl rfl ?_
              repeat (first | refine JL.q (by first | (apply OQ.neB (a := 6) (b := 6) (c := true); exact rfl; exact rfl; exact rfl) | (apply OQ.move; exact rfl)) rfl ?_ | refine JC.seq ?_ | refine JC.region ?_ | refine JL.gon rfl rfl ?_)
              refine JL.callg (ι := Nat × Nat) (vs := [Pt h.x.p 0]) (fun q => accV (some q) bl.length) (fun q => accC 83 64 (some q) (bcs bl)) goes_lblocks15 rfl rfl (fun _ => accC_wr _ _ _ _) (fun w' hw' => lblocks15_any h.x bl [] hd.ok (by omega) w' (dkR_jn hw')) fun q2 => ?_
              have hbv2 : accV (some q2) bl.length = (⟨some ⟨q2.1, 0, none⟩, q2.2, bl⟩ : SlE).v := rfl
              rw [hbv2]
              have cS := fun {w' : World} (hw' : Holds w [] (accC 83 64 (some q2) (bcs bl) ++ (jnE jp h bl [] ++ (accE 5 q133 (d.b.l.map U8) ++ (⟨b61, Row 31 [d.b.v], true⟩ :: (accC 83 64 (some qb) (bcs bl) ++ (zr.1.E ++ [⟨b10, Row 33 d.cs, true⟩])))))) w') => lsame15_any ⟨some ⟨qb.1, 0, none⟩, qb.2, bl⟩ ⟨some ⟨q2.1, 0, none⟩, q2.2, bl⟩ w' (ownB (A := accC 83 64 (some q2) (bcs bl) ++ (jnE jp h bl [] ++ (accE 5 q133 (d.b.l.map U8) ++ [⟨b61, Row 31 [d.b.v], true⟩]))) (M := zr.1.E ++ [⟨b10, Row 33 d.cs, true⟩]) (by simpa [List.append_assoc] using hw') hd.ok.b) (ownB (A := []) hw' hd.ok.b) (by show bl.length ≤ _; omega)
              rw [decide_eq_true rfl] at cS
              repeat (first | refine JL.q (by first | (apply OQ.callx (vs := [(⟨some ⟨qb.1, 0, none⟩, qb.2, bl⟩ : SlE).v, (⟨some ⟨q2.1, 0, none⟩, q2.2, bl⟩ : SlE).v]); exact goes_lsame15; exact rfl; exact (fun w' hw' => cS hw')) | (apply OQ.not; exact rfl) | (apply OQ.pick_f; exact rfl; exact rfl) | (apply OQ.move; exact rfl)) rfl ?_ | refine JL.gon rfl rfl ?_)
              refine JL.perm ?_ (List.perm_append_comm_assoc _ _ _)
              refine JL.jrecs0 (m := m / 2) v hd hsz rfl rfl fun zr2 => ?_
              have cS2 := fun {w' : World} (hw' : Holds w [] (zr2.1.E ++ (jnE jp h bl [] ++ (accC 83 64 (some q2) (bcs bl) ++ (accE 5 q133 (d.b.l.map U8) ++ (⟨b61, Row 31 [d.b.v], true⟩ :: (accC 83 64 (some qb) (bcs bl) ++ (zr.1.E ++ [⟨b10, Row 33 d.cs, true⟩]))))))) w') => same_gr zr2 zr hrl (by omega) (zr2.1.ok (hw'.weak (less_pre _ _))) (zr.1.ok (hw'.weak (less_app _ (less_app _ (less_app _ (less_app _ (.drop _ _ _ (less_app _ (less_pre _ _)))))))))
              repeat (first | refine JL.q (by first | (apply OQ.callx (vs := [zr2.1.v, zr.1.v]); exact goes_samel; exact rfl; exact (fun w' hw' => cS2 hw')) | (apply OQ.not; exact rfl) | (apply OQ.pick_f; exact rfl; exact rfl) | (apply OQ.move; exact rfl)) rfl ?_ | refine JL.nil ?_ | refine JE.next ?_ | refine JL.gon rfl rfl ?_)
              refine JC.cond_false rfl rfl ?_
              repeat (first | refine JC.skip ?_ | refine JE.blk_normal ?_)
              exact JE.mid ⟨0, jp, h, bl⟩ ⟨⟨_, v⟩, hd, hml⟩ (by repeat (first | exact SubE.nil | refine SubE.cons _ _ _ rfl ?_)) (less_app _ (less_two (Less.refl _) (.nil _)))
            · have c9 : decide (((m / 2 : Nat) : Int) < ((nb d.b.l.length : Nat) : Int)) = false := decide_eq_false (by omega)
              have hgm : (gm bl).toNat = 4294967295 := by
                rcases hq with h | h
                · exact absurd h hq2
                · rw [h]; rfl
              have c8 : decide ((4294967296 : Int) ≤ (((gm bl).toNat + 1 : Nat) : Int)) = true := decide_eq_true (by omega)
              repeat (first | refine JL.q (by first | (apply OQ.gtrB; exact rfl; exact rfl; exact c9) | (apply OQ.callx (vs := [(⟨some ⟨qb.1, 0, none⟩, qb.2, bl⟩ : SlE).v]); exact goes_newest; exact rfl; exact (fun w' hw' => cN2 hw')) | (apply OQ.geqB (a := (((gm bl).toNat + 1 : Nat) : Int)) (b := 4294967296); exact rfl; exact rfl; exact c8) | (apply OQ.pick_f; exact rfl; exact rfl) | (apply OQ.move; exact rfl)) rfl ?_ | refine JL.nil ?_ | refine JE.next ?_ | refine JL.gon rfl rfl ?_)
              refine JC.cond_true rfl rfl ?_
              repeat (first | refine JL.q (by first | (apply OQ.neB (a := 6) (b := 6) (c := true); exact rfl; exact rfl; exact rfl) | (apply OQ.move; exact rfl)) rfl ?_ | refine JC.seq ?_ | refine JC.region ?_ | refine JL.gon rfl rfl ?_)
              refine JL.callg (ι := Nat × Nat) (vs := [Pt h.x.p 0]) (fun q => accV (some q) bl.length) (fun q => accC 83 64 (some q) (bcs bl)) goes_lblocks15 rfl rfl (fun _ => accC_wr _ _ _ _) (fun w' hw' => lblocks15_any h.x bl [] hd.ok (by omega) w' (dkR_jn hw')) fun q2 => ?_
              have hbv2 : accV (some q2) bl.length = (⟨some ⟨q2.1, 0, none⟩, q2.2, bl⟩ : SlE).v := rfl
              rw [hbv2]
              have cS := fun {w' : World} (hw' : Holds w [] (accC 83 64 (some q2) (bcs bl) ++ (jnE jp h bl [] ++ (accE 5 q133 (d.b.l.map U8) ++ (⟨b61, Row 31 [d.b.v], true⟩ :: (accC 83 64 (some qb) (bcs bl) ++ (zr.1.E ++ [⟨b10, Row 33 d.cs, true⟩])))))) w') => lsame15_any ⟨some ⟨qb.1, 0, none⟩, qb.2, bl⟩ ⟨some ⟨q2.1, 0, none⟩, q2.2, bl⟩ w' (ownB (A := accC 83 64 (some q2) (bcs bl) ++ (jnE jp h bl [] ++ (accE 5 q133 (d.b.l.map U8) ++ [⟨b61, Row 31 [d.b.v], true⟩]))) (M := zr.1.E ++ [⟨b10, Row 33 d.cs, true⟩]) (by simpa [List.append_assoc] using hw') hd.ok.b) (ownB (A := []) hw' hd.ok.b) (by show bl.length ≤ _; omega)
              rw [decide_eq_true rfl] at cS
              repeat (first | refine JL.q (by first | (apply OQ.callx (vs := [(⟨some ⟨qb.1, 0, none⟩, qb.2, bl⟩ : SlE).v, (⟨some ⟨q2.1, 0, none⟩, q2.2, bl⟩ : SlE).v]); exact goes_lsame15; exact rfl; exact (fun w' hw' => cS hw')) | (apply OQ.not; exact rfl) | (apply OQ.pick_f; exact rfl; exact rfl) | (apply OQ.move; exact rfl)) rfl ?_ | refine JL.gon rfl rfl ?_)
              refine JL.perm ?_ (List.perm_append_comm_assoc _ _ _)
              refine JL.jrecs0 (m := m / 2) v hd hsz rfl rfl fun zr2 => ?_
              have cS2 := fun {w' : World} (hw' : Holds w [] (zr2.1.E ++ (jnE jp h bl [] ++ (accC 83 64 (some q2) (bcs bl) ++ (accE 5 q133 (d.b.l.map U8) ++ (⟨b61, Row 31 [d.b.v], true⟩ :: (accC 83 64 (some qb) (bcs bl) ++ (zr.1.E ++ [⟨b10, Row 33 d.cs, true⟩]))))))) w') => same_gr zr2 zr hrl (by omega) (zr2.1.ok (hw'.weak (less_pre _ _))) (zr.1.ok (hw'.weak (less_app _ (less_app _ (less_app _ (less_app _ (.drop _ _ _ (less_app _ (less_pre _ _)))))))))
              repeat (first | refine JL.q (by first | (apply OQ.callx (vs := [zr2.1.v, zr.1.v]); exact goes_samel; exact rfl; exact (fun w' hw' => cS2 hw')) | (apply OQ.not; exact rfl) | (apply OQ.pick_f; exact rfl; exact rfl) | (apply OQ.move; exact rfl)) rfl ?_ | refine JL.nil ?_ | refine JE.next ?_ | refine JL.gon rfl rfl ?_)
              refine JC.cond_false rfl rfl ?_
              repeat (first | refine JC.skip ?_ | refine JE.blk_normal ?_)
              exact JE.mid ⟨0, jp, h, bl⟩ ⟨⟨_, v⟩, hd, hml⟩ (by repeat (first | exact SubE.nil | refine SubE.cons _ _ _ rfl ?_)) (less_app _ (less_two (Less.refl _) (.nil _)))
          · refine JL.jrst (s := accS q133 d.b.l) v hd (Nat.zero_le _) (by rw [hcp]; exact hq) (fun w' hw' => ⟨acc_ok (hw'.weak (less_post _ _)), acc_away hw'⟩) rfl (by rw [accS_v]; rfl) rfl ?_
            rw [hcp]
            have c9 : decide (((m / 2 : Nat) : Int) < ((nb d.b.l.length : Nat) : Int)) = false := decide_eq_false (fun hh => hq (.inl (by omega)))
            have c8 : decide ((4294967296 : Int) ≤ (((gm bl).toNat + 1 : Nat) : Int)) = false := decide_eq_false (fun hh => hq (.inr (BitVec.eq_of_toNat_eq (by show _ = 4294967295; omega))))
            repeat (first | refine JL.q (by first | (apply OQ.gtrB; exact rfl; exact rfl; exact c9) | (apply OQ.callx (vs := [(⟨some ⟨qb.1, 0, none⟩, qb.2, bl⟩ : SlE).v]); exact goes_newest; exact rfl; exact (fun w' hw' => cN2 hw')) | (apply OQ.geqB (a := (((gm bl).toNat + 1 : Nat) : Int)) (b := 4294967296); exact rfl; exact rfl; exact c8) | (apply OQ.pick_f; exact rfl; exact rfl) | (apply OQ.move; exact rfl) | (apply OQ.assign; exact rfl)) rfl ?_ | refine JC.seq ?_ | refine JC.region ?_ | refine JL.nil ?_ | refine JE.next ?_ | refine JL.gon rfl rfl ?_)
            refine JC.cond_false rfl rfl ?_
            have va := v.rst hq
            have da := hd.rst v hq
            have hfit : nb d.b.l.length ≤ h.size := Nat.le_of_not_lt fun e => hq (.inl e)
            have hla : (rstD h bl d.b.l).length = m := by
              unfold rstD
              rw [putAt_len (by rw [allB_len]; simp [room]; omega), hml]
            have gd : GrOf [d.b.l] (m / 2) := grD (by show 1 ≤ _; have := nb_pos d.b.l.length; omega)
            have same31 : ∀ (z : GrOf [d.b.l] (m / 2)) (q : Nat) (w' : World), Holds w [] (z.1.E ++ (⟨q, Row 31 [d.b.v], true⟩ :: [])) w' → Calls Try.prog 21 [z.1.v, .slice (some ⟨q, 0, none⟩) 1 1].toArray w' fun e w'' => e = .returned (.bool true) ∧ Ext w' w'' := by
              intro z q w' hw'
              have h := samel_any z.1.s ⟨some ⟨q, 0, none⟩, 1, [d.b]⟩ w' (z.1.ok (hw'.weak (less_pre _ _))) ⟨Nat.le_refl _, rdLit hw', fun y hy => by rw [List.mem_singleton.1 hy]; exact okd.holds hw' rfl⟩ (by rw [z.1.rs_eq]; have := z.2.2; omega) (fun y hy => by
                rw [z.1.rs_eq] at hy
                have hm : y.l ∈ z.1.l := List.mem_map_of_mem hy
                rw [z.2.1, List.mem_singleton] at hm
                rw [hm]
                omega)
              rw [decide_eq_true (by rw [z.1.rs_eq]; exact z.2.1), z.1.v_eq] at h
              exact h
            haveI : Inhabited (GrOf [d.b.l] (m / 2)) := ⟨gd⟩
            repeat (refine JC.seq ?_)
            let vs : Nat → GrOf [d.b.l] (m / 2) × (Nat × Nat) × Nat → Value := fun j y => match j with
              | 0 => N 0
              | 1 => .bool false
              | 2 => .bool false
              | 3 => Pt jp 0
              | 4 => y.1.1.v
              | 5 => Pt b10 2
              | 6 => d.b.v
              | 7 => .slice (some ⟨y.2.2, 0, none⟩) 1 1
              | 8 => .bool true
              | 9 => .bool false
              | 10 => .bool false
              | _ => N 0
            let Ms : Nat → GrOf [d.b.l] (m / 2) × (Nat × Nat) × Nat → List Ent := fun j y => match j with
              | 4 => y.1.1.E
              | 7 => [⟨y.2.2, Row 31 [d.b.v], true⟩]
              | 11 => jnE jp (rstJ h bl d.b.l) (rstD h bl d.b.l) []
              | 12 => [⟨b10, Row 33 d.cs, true⟩]
              | _ => []
            refine JC.grow (g := ⟨[(5, Pt h.x.p 0), (6, Pt jp 0), (8, N (m / 2)), (10, Pt b10 0), (11, zr.1.v), (16, N 0), (45, s.v), (46, N s.l.length), (47, N i)], 13, vs, Ms, (fun j => match j with | 1 => [(0, 159)] | 2 => [(1, 160)] | 3 => [(2, 161)] | 4 => [(3, 162), (2, 161)] | 5 => [(2, 161)] | 6 => [(5, 164), (2, 161)] | 7 => [(6, 165), (2, 161)] | 8 => [(4, 163), (7, 166), (2, 161)] | 9 => [(8, 167), (2, 161)] | 10 => [(2, 161), (9, 168)] | _ => []), (fun j => match j with | 4 => [11] | 6 => [12] | 8 => [4, 7] | _ => []), (fun j => match j with | _ => []), (fun j => match j with | _ => none)⟩) [(10, 169)] [11] mixT (by repeat (first | exact SubE.nil | refine SubE.cons _ _ _ rfl ?_)) ?_ (by kernel_rfl) (by kernel_rfl) (by kernel_rfl) ?_ ?_
            · exact less_two (Less.refl _) (less_app _ (.drop _ _ _ (less_app _ (less_app _ (Less.refl _)))))
            · refine ⟨?_, ?_, ?_, ?_, ?_, ?_, ?_, ?_, ?_, ?_, ?_, trivial⟩
              · (intro xx EF MF Q kk; (try refine JL.gon rfl rfl ?_); exact JL.q (OQ.move rfl) rfl (JL.nil (kk default nofun)))
              · (intro xx EF MF Q kk; (try refine JL.gon rfl rfl ?_); exact JL.q (OQ.neB (a := 0) (b := 0) rfl rfl (c := true) rfl) rfl (JL.nil (kk default nofun)))
              · (intro xx EF MF Q kk; (try refine JL.gon rfl rfl ?_); exact JL.q (OQ.move rfl) rfl (JL.nil (kk default nofun)))
              · (intro xx EF MF Q kk; (try refine JL.gon rfl rfl ?_); exact JL.q (OQ.move rfl) rfl (JL.nil (kk default nofun)))
              · (intro xx EF MF Q kk; (try refine JL.gon rfl rfl ?_); exact JL.jrecs0 (j := jp) (m := m / 2) va da hsa rfl rfl fun z => JL.nil (kk (z, (0, 0), 0) nofun))
              · (intro xx EF MF Q kk; (try refine JL.gon rfl rfl ?_); exact JL.q (OQ.fld rfl rfl rfl (by decide) rfl) rfl (JL.nil (kk default nofun)))
              · (intro xx EF MF Q kk; (try refine JL.gon rfl rfl ?_); exact JL.q (OQ.load slCj rfl .here (Row.cell (v := d.b.v) rfl)) rfl (JL.nil (kk default nofun)))
              · (intro xx EF MF Q kk; (try refine JL.gon rfl rfl ?_); exact JL.lit1 (v := d.b.v) Try.underlying34 slEj rfl rfl rfl rfl fun b _ => JL.nil (kk (gd, (0, 0), b) nofun))
              · (intro xx EF MF Q kk; (try refine JL.gon rfl rfl ?_); exact JL.q (OQ.callx (vs := [(xx 4).1.1.v, .slice (some ⟨(xx 7).2.2, 0, none⟩) 1 1]) goes_samel rfl (fun w' hw' => same31 (xx 4).1 (xx 7).2.2 w' (Holds.weak (show Holds w [] (((xx 4).1.1.E ++ (⟨(xx 7).2.2, Row 31 [d.b.v], true⟩ :: [])) ++ MF) w' from hw') (less_pre _ _)))) rfl (JL.nil (kk default nofun)))
              · (intro xx EF MF Q kk; (try refine JL.gon rfl rfl ?_); exact JL.q (OQ.not rfl) rfl (JL.nil (kk default nofun)))
              · (intro xx EF MF Q kk; (try refine JL.gon rfl rfl ?_); exact JL.q (OQ.pick_f rfl rfl) rfl (JL.nil (kk default nofun)))
            · intro xx hx
              show JE _ _ _ _ _ [(169, .bool false), (5, Pt h.x.p 0), (6, Pt jp 0), (8, N (m / 2)), (10, Pt b10 0), (11, zr.1.v), (16, N 0), (45, s.v), (46, N s.l.length), (47, N i)] (jnE jp (rstJ h bl d.b.l) (rstD h bl d.b.l) [] ++ [])
              clear hx xx vs Ms
              refine JE.next ?_
              refine JC.cond_false rfl rfl ?_
              repeat (first | refine JC.skip ?_ | refine JE.blk_normal ?_)
              exact JE.mid ⟨0, jp, rstJ h bl d.b.l, rstD h bl d.b.l⟩ ⟨⟨_, va⟩, da, hla⟩ (by repeat (first | exact SubE.nil | refine SubE.cons _ _ _ rfl ?_)) (Less.refl _)
        case false =>
          cases c2 : decide (d.what = 2)
          case true =>
            repeat (first | refine JL.q (by first | (apply OQ.load; exact intC; exact rfl; exact (.there (hasR (N := accC 83 64 (some qb) (bcs bl)) (hasR (N := zr.1.E) (hasR (N := jnE jp h bl []) .here)))); exact (Row.cell (v := .int .i64 d.what) rfl)) | (apply OQ.eqB (a := d.what) (b := 0); exact rfl; exact rfl; exact c0) | (apply OQ.assign; exact rfl) | (apply OQ.fld; exact rfl; exact rfl; exact rfl; exact (by decide); exact rfl)) rfl ?_ | refine JC.seq ?_ | refine JC.region ?_ | refine JC.block ?_ | refine JL.nil ?_ | refine JE.next ?_)
            refine JC.cond_false rfl rfl ?_
            repeat (first | refine JL.q (by first | (apply OQ.eqB (a := d.what) (b := 1); exact rfl; exact rfl; exact c1) | (apply OQ.assign; exact rfl)) rfl ?_ | refine JC.seq ?_ | refine JC.region ?_ | refine JL.nil ?_ | refine JE.next ?_)
            refine JC.cond_false rfl rfl ?_
            repeat (first | refine JL.q (by first | (apply OQ.eqB (a := d.what) (b := 2); exact rfl; exact rfl; exact c2) | (apply OQ.assign; exact rfl)) rfl ?_ | refine JC.seq ?_ | refine JC.region ?_ | refine JL.nil ?_ | refine JE.next ?_)
            refine JC.cond_true rfl rfl ?_
            repeat (first | refine JL.q (by (apply OQ.move; exact rfl)) rfl ?_ | refine JC.seq ?_ | refine JC.region ?_)
            refine JL.lessM (M' := dkE h.x bl [] ++ []) ?_ (by rw [List.append_nil]; exact .drop _ _ _ (less_app _ (less_app _ (.drop _ _ _ (less_pre _ _)))))
            by_cases hop : noOpen bl = 0
            · refine JL.callV (ι := Nat) (X := dkE h.x bl []) (vs := [Pt h.x.p 0]) (fun jp => .tuple #[Pt jp 0, .bool true]) (fun jp => jnE jp (opnJ h.x bl) (opnD bl) []) goes_lopens15 rfl rfl (dkE_wr _ _ _) (fun _ => jnE_wr _ _ _ _) (fun w' _ hw' => lopens15_yes h.x bl hd (by omega) hop w' hw') fun j2 => ?_
              have va := Jv.opn (x := h.x) hd.ok.b (by omega) hop
              have da := hd.opn hop
              have hla := (opnD_len hd hop).trans hml
              repeat (first | refine JL.q (by first | (apply OQ.extract; exact rfl; exact rfl) | (apply OQ.not; exact rfl) | (apply OQ.ptrNil; exact Try.underlying28; exact rfl; exact rfl) | (apply OQ.pick_f; exact rfl; exact rfl) | (apply OQ.move; exact rfl) | (apply OQ.assign; exact rfl)) rfl ?_ | refine JC.seq ?_ | refine JC.region ?_ | refine JL.nil ?_ | refine JE.next ?_ | refine JL.gon rfl rfl ?_)
              refine JC.cond_false rfl rfl ?_
              repeat (first | refine JC.skip ?_ | refine JE.blk_normal ?_)
              exact JE.mid ⟨0, j2, opnJ h.x bl, opnD bl⟩ ⟨⟨_, va⟩, da, hla⟩ (by repeat (first | exact SubE.nil | refine SubE.cons _ _ _ rfl ?_)) (Less.refl _)
            · have cO := fun {w' : World} {M : List Ent} (hw' : Holds w [] (dkE h.x bl [] ++ M) w') => lopens15_no h.x bl [] hd.ok (by omega) hop w' (dkR_of hw')
              repeat (first | refine JL.q (by first | (apply OQ.callx (vs := [Pt h.x.p 0]); exact goes_lopens15; exact rfl; exact (fun w' hw' => cO hw')) | (apply OQ.extract; exact rfl; exact rfl) | (apply OQ.not; exact rfl) | (apply OQ.ptrNil; exact Try.underlying28; exact rfl; exact rfl) | (apply OQ.pick_f; exact rfl; exact rfl) | (apply OQ.move; exact rfl) | (apply OQ.assign; exact rfl)) rfl ?_ | refine JC.seq ?_ | refine JC.region ?_ | refine JL.nil ?_ | refine JE.next ?_ | refine JL.gon rfl rfl ?_)
              refine JC.cond_true rfl rfl ?_
              repeat (first | refine JL.q (by first | (apply OQ.move; exact rfl) | (apply OQ.assign; exact rfl)) rfl ?_ | refine JC.seq ?_ | refine JC.region ?_ | refine JL.nil ?_ | refine JE.next ?_)
              refine JC.ret ?_
              repeat (first | refine JE.then_ret ?_ | refine JE.blk_ret ?_)
              exact JE.ret1 rfl (RV.tmp rfl) fun w' hw => ⟨rfl, hw.chg⟩
          case false =>
            repeat (first | refine JL.q (by first | (apply OQ.load; exact intC; exact rfl; exact (.there (hasR (N := accC 83 64 (some qb) (bcs bl)) (hasR (N := zr.1.E) (hasR (N := jnE jp h bl []) .here)))); exact (Row.cell (v := .int .i64 d.what) rfl)) | (apply OQ.eqB (a := d.what) (b := 0); exact rfl; exact rfl; exact c0) | (apply OQ.assign; exact rfl) | (apply OQ.fld; exact rfl; exact rfl; exact rfl; exact (by decide); exact rfl)) rfl ?_ | refine JC.seq ?_ | refine JC.region ?_ | refine JC.block ?_ | refine JL.nil ?_ | refine JE.next ?_)
            refine JC.cond_false rfl rfl ?_
            repeat (first | refine JL.q (by first | (apply OQ.eqB (a := d.what) (b := 1); exact rfl; exact rfl; exact c1) | (apply OQ.assign; exact rfl)) rfl ?_ | refine JC.seq ?_ | refine JC.region ?_ | refine JL.nil ?_ | refine JE.next ?_)
            refine JC.cond_false rfl rfl ?_
            repeat (first | refine JL.q (by first | (apply OQ.eqB (a := d.what) (b := 2); exact rfl; exact rfl; exact c2) | (apply OQ.assign; exact rfl)) rfl ?_ | refine JC.seq ?_ | refine JC.region ?_ | refine JL.nil ?_ | refine JE.next ?_)
            refine JC.cond_false rfl rfl ?_
            refine JC.seq ?_
            refine JC.quiet mixT (by kernel_rfl) ?_
            cases c3 : decide (d.n ≤ 4300)
            case false =>
              repeat (first | refine JQ.q (by first | (apply OQ.load; exact intC; exact rfl; exact (.there (hasR (N := accC 83 64 (some qb) (bcs bl)) (hasR (N := zr.1.E) (hasR (N := jnE jp h bl []) .here)))); exact (Row.cell (v := .int .i64 d.n) rfl)) | (apply OQ.leqB (a := d.n) (b := 4300); exact rfl; exact rfl; exact c3) | (apply OQ.pick_f; exact rfl; exact rfl) | (apply OQ.move; exact rfl) | (apply OQ.fld; exact rfl; exact rfl; exact rfl; exact (by decide); exact rfl)) rfl ?_ | refine JQ.nil ?_ | refine JE.next ?_ | refine JQ.gskip rfl rfl rfl rfl ?_ | refine JQ.gskipU rfl rfl rfl rfl ?_)
              refine JC.cond_false rfl rfl ?_
              repeat (first | refine JC.skip ?_ | refine JE.blk_normal ?_)
              exact JE.mid ⟨0, jp, h, bl⟩ ⟨⟨_, v⟩, hd, hml⟩ (by repeat (first | exact SubE.nil | refine SubE.cons _ _ _ rfl ?_)) (.drop _ _ _ (less_app _ (less_app _ (less_two (Less.refl _) (.nil _)))))
            have h4300 := of_decide_eq_true c3
            have cF := fun {A M : List Ent} {e61 : Ent} {w' : World} (hw' : Holds w [] (e61 :: (A ++ (zr.1.E ++ (jnE jp h bl [] ++ M)))) w') => fits_any jp h d.n (by omega) (by omega) (by omega) w' (ro_one (M := dkE h.x bl [] ++ M) (hw'.weak (.drop _ _ _ (less_app _ (less_app _ (Less.refl _))))))
            cases c4 : decide ((0 : Int) ≤ d.n)
            case false =>
              have e0 : decide (0 ≤ d.n ∧ nb d.n.toNat ≤ h.size - h.used) = false := decide_eq_false (fun hh => of_decide_eq_false c4 hh.1)
              rw [e0] at cF
              repeat (first | refine JQ.q (by first | (apply OQ.load; exact intC; exact rfl; exact (.there (hasR (N := accC 83 64 (some qb) (bcs bl)) (hasR (N := zr.1.E) (hasR (N := jnE jp h bl []) .here)))); exact (Row.cell (v := .int .i64 d.n) rfl)) | (apply OQ.leqB (a := d.n) (b := 4300); exact rfl; exact rfl; exact c3) | (apply OQ.callx (vs := [Pt jp 0, .int .i64 d.n]); exact goes_fits; exact rfl; exact (fun w' hw' => cF hw')) | (apply OQ.geqB (a := d.n) (b := 0); exact rfl; exact rfl; exact c4) | (apply OQ.neBl; exact Try.underlying4; exact rfl; exact rfl) | (apply OQ.pick_f; exact rfl; exact rfl) | (apply OQ.pick_t; exact rfl; exact rfl) | (apply OQ.move; exact rfl) | (apply OQ.fld; exact rfl; exact rfl; exact rfl; exact (by decide); exact rfl)) rfl ?_ | refine JQ.nil ?_ | refine JE.next ?_ | refine JQ.gon rfl rfl ?_ | refine JQ.gskip rfl rfl rfl rfl ?_)
              refine JC.cond_false rfl rfl ?_
              repeat (first | refine JC.skip ?_ | refine JE.blk_normal ?_)
              exact JE.mid ⟨0, jp, h, bl⟩ ⟨⟨_, v⟩, hd, hml⟩ (by repeat (first | exact SubE.nil | refine SubE.cons _ _ _ rfl ?_)) (.drop _ _ _ (less_app _ (less_app _ (less_two (Less.refl _) (.nil _)))))
            obtain ⟨k, hk⟩ := Int.eq_ofNat_of_zero_le (of_decide_eq_true c4)
            rw [hk] at cF c3 c4 h4300
            have hk43 : k ≤ 4300 := by omega
            have hmx : (max k 1 + 41) / 42 = nb k := by unfold nb; omega
            have eF : decide (0 ≤ (k : Int) ∧ nb (k : Int).toNat ≤ h.size - h.used) = decide (nb k ≤ m / 2 - room recs) := decide_eq_decide.2 (by rw [Int.toNat_natCast]; omega)
            rw [eF] at cF
            have hcs1 : d.cs[1]? = some (N k) := by
              show some (Value.int .i64 d.n) = _
              rw [hk]
            repeat (first | refine JQ.q (by first | (apply OQ.load; exact intC; exact rfl; exact (.there (hasR (N := accC 83 64 (some qb) (bcs bl)) (hasR (N := zr.1.E) (hasR (N := jnE jp h bl []) .here)))); exact (Row.cell hcs1)) | (apply OQ.leqB (a := (k : Int)) (b := 4300); exact rfl; exact rfl; exact c3) | (apply OQ.callx (vs := [Pt jp 0, N k]); exact goes_fits; exact rfl; exact (fun w' hw' => cF hw')) | (apply OQ.geqB (a := (k : Int)) (b := 0); exact rfl; exact rfl; exact c4) | (apply OQ.maxN (a := k) (c := 1); exact rfl; exact rfl) | (apply OQ.addN (a := max k 1) (b := 41); exact rfl; exact rfl; exact (by omega)) | (apply OQ.quoN (a := max k 1 + 41) (b := 42); exact rfl; exact rfl; exact (by decide); exact (by omega)) | (apply OQ.leqN (a := (max k 1 + 41) / 42) (b := m / 2 - room recs); exact rfl; exact rfl) | (apply OQ.neBl; exact Try.underlying4; exact rfl; exact rfl) | (apply OQ.pick_t; exact rfl; exact rfl) | (apply OQ.move; exact rfl) | (apply OQ.fld; exact rfl; exact rfl; exact rfl; exact (by decide); exact rfl)) rfl ?_ | refine JQ.nil ?_ | refine JE.next ?_ | refine JQ.gon rfl rfl ?_)
            rw [hmx, beq_self_eq_true]
            refine JC.cond_false rfl rfl ?_
            repeat (first | refine JC.skip ?_ | refine JE.blk_normal ?_)
            exact JE.mid ⟨0, jp, h, bl⟩ ⟨⟨_, v⟩, hd, hml⟩ (by repeat (first | exact SubE.nil | refine SubE.cons _ _ _ rfl ?_)) (.drop _ _ _ (less_app _ (less_app _ (less_two (Less.refl _) (.nil _)))))
    · rintro ⟨i2, j2, h2, bl2⟩ ⟨⟨recs2, v2⟩, hd2, hml2⟩
      dsimp only at v2 hd2 hml2 ⊢
      clear v hd hml hfs hu hr hn hge hsz hrl hsa hgl hrs hbv
      have hfs := v2.fs; have hr := v2.r; have hn := v2.n; have hge := room_ge recs2
      have hsz : h2.size = m / 2 := by rw [hn, hml2]
      have hrl := v2.rec_len
      have hdj := diskR_jv v2
      repeat (first | refine JL.q (by (apply OQ.move; exact rfl)) rfl ?_ | refine JC.seq ?_ | refine JC.region ?_)
      refine JL.callg (ι := Nat × Nat) (vs := [Pt h2.x.p 0]) (fun q => accV (some q) bl2.length) (fun q => accC 83 64 (some q) (bcs bl2)) goes_lblocks15 rfl rfl (fun _ => accC_wr _ _ _ _) (fun w' hw' => lblocks15_any h2.x bl2 [] hd2.ok (by omega) w' (dkR_jn hw')) fun q2 => ?_
      have hbv2 : accV (some q2) bl2.length = (⟨some ⟨q2.1, 0, none⟩, q2.2, bl2⟩ : SlE).v := rfl
      rw [hbv2]
      skip
      refine JL.callg (ι := GrOf (diskR bl2).2.2 bl2.length) (vs := [(⟨some ⟨q2.1, 0, none⟩, q2.2, bl2⟩ : SlE).v]) (fun z => .tuple #[.bool (diskR bl2).1, N (diskR bl2).2.1, z.1.v]) (fun z => z.1.E) goes_rdisk15 rfl rfl (fun z => z.1.wr) (fun w' hw' => rdisk15_any ⟨some ⟨q2.1, 0, none⟩, q2.2, bl2⟩ w' (ownB (A := []) hw' hd2.ok.b) (by show bl2.length ≤ _; omega)) fun zd => ?_
      obtain ⟨zg, hz1, hz2⟩ := zd
      rw [hdj] at hz1
      dsimp only
      repeat (first | refine JL.q (by first | (apply OQ.extract; exact rfl; exact rfl) | (apply OQ.move; exact rfl) | (apply OQ.assign; exact rfl)) rfl ?_ | refine JC.seq ?_ | refine JC.region ?_ | refine JL.nil ?_ | refine JE.next ?_)
      refine JL.perm (M' := jnE j2 h2 bl2 [] ++ (zg.E ++ (accC 83 64 (some q2) (bcs bl2) ++ []))) ?_ (perm_u _ _ _)
      skip
      refine JL.jrecs0 (m := m / 2) v2 hd2 hsz rfl rfl fun zr2 => ?_
      have cS2 := fun {w' : World} (hw' : Holds w [] (zr2.1.E ++ (jnE j2 h2 bl2 [] ++ (zg.E ++ (accC 83 64 (some q2) (bcs bl2) ++ [])))) w') => same_gr ⟨zg, hz1, hz2⟩ zr2 hrl (by omega) (zg.ok (hw'.weak (less_app _ (less_app _ (less_pre _ _))))) (zr2.1.ok (hw'.weak (less_pre _ _)))
      have cP := fun {M : List Ent} {w' : World} (hw' : Holds w [] (zr2.1.E ++ (jnE j2 h2 bl2 [] ++ M)) w') => dpend_any h2.x.p h2.x.a 0 (fun _ => rfl) w' (by
        obtain ⟨o, ho, hA⟩ := hw'.get (b := h2.x.p) (A := Row 111 (dkRow h2.x bl2 [])) (wr := true) (hasR (N := zr2.1.E) (.there .here))
        exact cell_of ho (Row.cell rfl _ hA))
      repeat (first | refine JL.q (by first | (apply OQ.callx (vs := [zg.v, zr2.1.v]); exact goes_samel; exact rfl; exact (fun w' hw' => cS2 hw')) | (apply OQ.not; exact rfl) | (apply OQ.pick_f; exact rfl; exact rfl) | (apply OQ.callx (vs := [Pt h2.x.p 0]); exact goes_pending; exact rfl; exact (fun w' hw' => cP hw')) | (apply OQ.neB (a := 0) (b := 0) (c := true); exact rfl; exact rfl; exact rfl) | (apply OQ.move; exact rfl)) rfl ?_ | refine JL.nil ?_ | refine JE.next ?_ | refine JL.gon rfl rfl ?_)
      refine JC.cond_false rfl rfl ?_
      repeat (first | refine JL.q (by first | (apply OQ.move; exact rfl) | (apply OQ.addN; exact rfl; exact rfl; exact (by (try simp only []); omega))) rfl ?_ | refine JC.region ?_ | refine JC.skip ?_ | refine JL.nil ?_ | refine JE.next ?_ | refine JE.blk_normal ?_)
      exact JE.again (i := Jt.mk i jp h bl) ⟨i + 1, j2, h2, bl2⟩ ⟨hi', ⟨⟨_, v2⟩, hd2, hml2⟩⟩ (by dsimp only; omega) (by repeat (first | exact SubE.nil | refine SubE.cons _ _ _ rfl ?_)) (less_app _ (less_two (Less.refl _) (.nil _)))
  · repeat (first | refine JL.q (by (apply OQ.assign; exact rfl)) rfl ?_ | refine JC.seq ?_ | refine JC.region ?_ | refine JC.exit ?_ | refine JL.nil ?_ | refine JE.next ?_ | refine JE.then_exit ?_ | refine JE.blk_hit ?_)
    refine JC.ret ?_
    skip
    exact JE.ret1 rfl (RV.tmp rfl) fun w' hw => ⟨rfl, hw.chg⟩
end Go.Proofs.Ytkadoibacliepaa
