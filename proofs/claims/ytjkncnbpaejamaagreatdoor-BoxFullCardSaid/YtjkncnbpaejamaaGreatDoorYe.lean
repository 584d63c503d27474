/-
  Of no statement by itself: the texts BoxH, BoxI, BoxJ, BoxK, BoxM, BoxU in one.
  Conditions: each theorem's own.
-/
import Derived.Test.YtjkncnbpaejamaaGreatDoorYd
set_option linter.unusedSimpArgs false
set_option linter.unusedVariables false
/-
  Of no statement by itself: the landed box's Expunge.
  Conditions: each theorem's own.
-/
namespace Go.Proofs.YtjkncnbpaejamaaGreatDoor
set_option maxRecDepth 10000
open Sl Dsk Jrn Sto Bx
theorem uniq17 {R : Rb} {n : Nat} (k : R.ok n) {a b : Ml} (ha : a ∈ R.ms) (hb : b ∈ R.ms) (hf : a.f = b.f) (hu : a.u = b.u) : a = b := by
  have hr := k.rise
  rcases List.mem_iff_getElem.1 ha with ⟨i, hi, rfl⟩
  rcases List.mem_iff_getElem.1 hb with ⟨j, hj, rfl⟩
  rcases Nat.lt_trichotomy i j with hij | hij | hij
  · have := List.pairwise_iff_getElem.1 hr i j hi hj hij hf; omega
  · subst hij; rfl
  · have := List.pairwise_iff_getElem.1 hr j i hj hi hij hf.symm; omega
theorem find_of {R : Rb} {n : Nat} (k : R.ok n) {m : Ml} (hm : m ∈ R.ms) : R.find m.f (m.u : Int) = some m := by
  cases h : R.find m.f (m.u : Int) with
  | none =>
    unfold Rb.find at h
    have := List.find?_eq_none.1 h m hm
    simp at this
  | some a =>
    obtain ⟨h1, h2, h3⟩ := find_mem h
    rw [uniq17 k h1 hm h2 (by omega)]
theorem perm4 (A B C X : List Ent) : (A ++ (B ++ (C ++ X))).Perm (X ++ (A ++ (B ++ C))) := by
  have := List.perm_append_comm (l₁ := A ++ (B ++ C)) (l₂ := X)
  simpa only [List.append_assoc] using this
theorem perm6 (b : Ent) (A B C X : List Ent) : (b :: (X ++ (A ++ (B ++ C)))).Perm (B ++ (b :: (A ++ (C ++ X)))) :=
  ((((perm4 A B C X).symm.trans (List.perm_append_comm_assoc A B (C ++ X))).cons b)).trans List.perm_middle.symm
theorem JC.permC {P : Program} {n : Nat} {w0 : World} {S : List Nat} {Q : Exit → Act → World → Prop} {c : Code} {E : Env} {M M' : List Ent} (h : JC P n w0 S Q c E M') (hp : M.Perm M') : JC P n w0 S Q c E M := ⟨fun a w ha hw => h.go a w ha (hw.perm' hp)⟩
theorem perm5 (Z O A B C : List Ent) : (Z ++ (O ++ (A ++ (B ++ C)))).Perm (B ++ ((Z ++ O) ++ (A ++ C))) := by
  have := List.perm_append_comm_assoc (Z ++ (O ++ A)) B C
  simpa only [List.append_assoc] using this
theorem szL_le (c : Nat) : ∀ {l : List Pq}, (∀ p ∈ l, szP p ≤ c) → szL l ≤ c * l.length
  | [], _ => by simp [szL]
  | p :: l, h => by
    have h1 := h p (by simp)
    have h2 := szL_le c (l := l) fun q hq => h q (by simp [hq])
    rw [szL_cons, List.length_cons, Nat.mul_add, Nat.mul_one]
    omega
theorem and4 : ∀ k : Fin 16, (BitVec.ofInt 64 ((k.val : Nat) : Int) &&& BitVec.ofInt 64 4).toNat = k.val / 4 % 2 * 4 := by decide +kernel
theorem OQ.and4 {P : Program} {n : Nat} {E : Env} {C : World → Prop} {dst : Option Tmp} {t t' ty : TypeId} {pos : String} {aft : Array Edge} {g : Option (Nat × Bool)} {x y : Operand} {a : Nat} (ha : a < 16) (hx : ev E x = some (N a)) (hy : ev E y = some (N 4)) : OQ P n E C ⟨dst, .binOp .and t x y t', ty, pos, aft, g⟩ (N (a / 4 % 2 * 4)) :=
  OQ.bin hx hy rfl fun _ => okInt (k := .i64) (show IntKind.i64.wrap ((BitVec.ofInt 64 (a : Int) &&& BitVec.ofInt 64 4).toNat : Int) = ((a / 4 % 2 * 4 : Nat) : Int) from by
    have := Go.Proofs.YtjkncnbpaejamaaGreatDoor.and4 ⟨a, ha⟩
    dsimp only at this
    rw [this]
    have h2 : a / 4 % 2 < 2 := Nat.mod_lt _ (by decide)
    have : a / 4 % 2 * 4 = 0 ∨ a / 4 % 2 * 4 = 4 := by omega
    rcases this with h | h <;> rw [h] <;> rfl)
def exL (R : Rb) (f : Bk) : List Nat := (R.ms.filter (goes f)).map Ml.u
def exQ (f : Bk) (m : Ml) : PqS := ⟨mKey f (m.u : Int), nilS, true⟩
/-- what an Expunge comes to -/
structure ExTo (x : Bz) (recs : List Bk) (vs : VL) (R : Rb) (n : Nat) (f : Bk) where
  code : Nat
  q : Acc
  l : List Nat
  hq : q = none → l = []
  z' : Sz
  recs' : List Bk
  vs' : VL
  R' : Rb
  ok : (Bz.mk x.b z').ok recs' vs' R' n
  p : z'.p = x.z.p
  out : (exL R f = [] ∧ code = 0 ∧ l = [] ∧ z' = x.z ∧ recs' = recs ∧ vs' = vs ∧ R' = R) ∨
    (exL R f ≠ [] ∧ Step x.z recs vs (expP R f) code z' recs' vs' ∧ ((code = 0 ∧ l = exL R f ∧ R' = R.expunge f) ∨ (code = 6 ∧ l = [] ∧ z' = x.z ∧ recs' = recs ∧ vs' = vs ∧ R' = R)))
structure Xl where
  i : Nat
  q1 : Acc
  q2 : Acc
theorem goes_bExp : Goes Tryz.prog 16 := ⟨_, Tryz.func16, rfl, by kernel_rfl⟩
set_option maxHeartbeats 32000000 in
theorem bExp_any (x : Bz) (recs : List Bk) (vs : VL) (R : Rb) (n : Nat) (k : x.ok recs vs R n) (f : Bk) (hf : f.length < 1000000000000000) (hn : R.ms.length ≤ 40000) (w : World) (h0 : Holds w (keys x.E) x.E w) (hT : TabAt (keys x.E) w) :
    Calls Tryz.prog 16 [Pt x.b 0, Z f].toArray w fun e w' => ∃ r : ExTo x recs vs R n f, e = .returned (.tuple #[accV r.q r.l.length, N r.code]) ∧ Holds w (keys x.E) (accE 3 r.q (uidsV r.l) ++ (Bz.mk x.b r.z').E) w' := by
  generalize keys x.E = S at h0 hT ⊢
  refine enter (n := 61) Tryz.func16 rfl rfl rfl h0 ?_
  repeat (first | refine JL.q (by first | (apply OQ.move; exact rfl) | (apply OQ.assign; exact rfl)) rfl ?_ | refine JC.seq ?_ | refine JC.region ?_ | refine JL.nil ?_ | refine JE.next ?_)
  refine JL.perm (M' := x.E ++ []) ?_ (by rw [List.append_nil])
  refine JL.blist (f := f) k hf (by omega) rfl rfl rfl fun ql => ?_
  rw [List.append_nil]
  obtain ⟨ql, hql⟩ := ql
  dsimp only
  obtain ⟨FS, hFS⟩ : ∃ FS, (R.ms.filter fun m => decide (m.f = f)) = FS := ⟨_, rfl⟩
  have hL : R.list f = FS.map Ml.u := by rw [← hFS]; rfl
  have hFm : ∀ m ∈ FS, m ∈ R.ms ∧ m.f = f := fun m hm => by
    rw [← hFS] at hm
    have := List.mem_filter.1 hm
    exact ⟨this.1, of_decide_eq_true this.2⟩
  have hFl : FS.length ≤ R.ms.length := by rw [← hFS]; exact List.length_filter_le _ _
  have hFg : FS.filter (goes f) = R.ms.filter (goes f) := by
    rw [← hFS, List.filter_filter]
    congr 1
    funext m
    unfold goes
    cases decide (m.f = f) <;> simp
  have hex : exL R f = (FS.filter (goes f)).map Ml.u := by rw [hFg]; rfl
  have hexP : expP R f = ((FS.filter (goes f)).map (exQ f)).map PqS.p := by rw [hFg, List.map_map]; rfl
  rw [hL] at hql ⊢
  obtain ⟨C, hC⟩ : ∃ C, accE 3 ql (uidsV (FS.map Ml.u)) = C := ⟨_, rfl⟩
  obtain ⟨X, hX⟩ : ∃ X, x.E = X := ⟨_, rfl⟩
  have hCl : (FS.map Ml.u).length = FS.length := List.length_map _
  rw [hC, hX, hCl]
  repeat (first | refine JL.q (by first | (apply OQ.lenV (q := ql) (k := FS.length); exact Tryz.underlying35; exact (fun e => by rw [← hCl, hql e]; rfl); exact rfl) | (apply OQ.move; exact rfl)) rfl ?_ | refine JC.block ?_ | refine JL.nil ?_ | refine JE.next ?_)
  refine JC.loop (fun z : Xl => [(0, Pt x.b 0), (1, Z f), (6, accV z.q1 ((FS.take z.i).filter (goes f)).length), (7, accV z.q2 ((FS.take z.i).filter (goes f)).length), (15, accV ql FS.length), (16, N FS.length), (17, N z.i)]) (fun z => accC 67 3 z.q2 ((((FS.take z.i).filter (goes f)).map (exQ f)).map PqS.cs) ++ (accE 3 z.q1 (uidsV (((FS.take z.i).filter (goes f)).map Ml.u)) ++ (C ++ X))) (fun z => FS.length - z.i) (fun z => z.i ≤ FS.length ∧ (z.q1 = none → (FS.take z.i).filter (goes f) = []) ∧ (z.q2 = none → (FS.take z.i).filter (goes f) = [])) ⟨0, none, none⟩ ⟨Nat.zero_le _, fun _ => rfl, fun _ => rfl⟩ (by repeat (first | exact SubE.nil | refine SubE.cons _ _ _ rfl ?_)) (Less.refl _) ?_
  rintro ⟨i, q1, q2⟩ ⟨hi, hq1, hq2⟩
  dsimp only at hi hq1 hq2 ⊢
  repeat (first | refine JL.q (by (apply OQ.lssN; exact rfl; exact rfl)) rfl ?_ | refine JC.seq ?_ | refine JC.region ?_ | refine JL.nil ?_ | refine JE.next ?_)
  refine JC.cond rfl (fun h => ?_) (fun h => ?_)
  · have hi' : i < FS.length := by have := of_decide_eq_true h; omega
    clear h
    cases ql with
    | none => have := hql rfl; rw [← hCl, this] at hi'; cases hi'
    | some rl =>
    obtain ⟨m, hm⟩ : ∃ m, FS[i]? = some m := ⟨FS[i], List.getElem?_eq_getElem hi'⟩
    have hmF : m ∈ FS := List.mem_of_getElem? hm
    obtain ⟨hmm, hmf⟩ := hFm m hmF
    have hfi : R.find f (m.u : Int) = some m := by rw [← hmf]; exact find_of k.r hmm
    have htk : (FS.take (i + 1)).filter (goes f) = (FS.take i).filter (goes f) ++ (if goes f m then [m] else []) := by
      have e : FS.take (i + 1) = FS.take i ++ [m] := by
        rw [List.take_succ_eq_append_getElem hi']
        rw [List.getElem?_eq_getElem hi', Option.some.injEq] at hm
        rw [hm]
      rw [e, List.filter_append]
      congr 1
      by_cases hg : goes f m = true
      · rw [if_pos hg, List.filter_cons_of_pos hg]; rfl
      · rw [if_neg hg, List.filter_cons_of_neg hg]; rfl
    have hpl : ((FS.take i).filter (goes f)).length ≤ i := by
      have := List.length_filter_le (goes f) (FS.take i)
      rw [List.length_take] at this
      omega
    generalize hPE : (FS.take i).filter (goes f) = PE at htk hpl hq1 hq2 ⊢
    have hul : m.u < 10 ^ 10 := k.r.u_lt hmm
    have hul2 : m.u < 10000000000 := by omega
    have hfl := k.r.fl m hmm
    have hzk : (uidsV (FS.map Ml.u))[i]? = some (N m.u) := by unfold uidsV; rw [List.getElem?_map, List.getElem?_map, hm]; rfl
    have hcell := Sl.Own.cell (e := 3) (sz := 1) (n := (uidsV (FS.map Ml.u)).length) (cap := rl.2) hzk
    have hCC : C = [⟨rl.1, Sl.Own 3 1 (uidsV (FS.map Ml.u)).length rl.2 (uidsV (FS.map Ml.u)), true⟩] := hC.symm
    have hH : Has (accC 67 3 q2 ((PE.map (exQ f)).map PqS.cs) ++ (accE 3 q1 (uidsV (PE.map Ml.u)) ++ (C ++ X))) rl.1 (Sl.Own 3 1 (uidsV (FS.map Ml.u)).length rl.2 (uidsV (FS.map Ml.u))) true := hasR (hasR (by rw [hCC]; exact .here))
    have hkv : accV (some rl) FS.length = .slice (some ⟨rl.1, 0, none⟩) FS.length rl.2 := rfl
    have hcell0 : ∀ o, Sl.Own 3 1 (uidsV (FS.map Ml.u)).length rl.2 (uidsV (FS.map Ml.u)) o → cellAt o (0 + i) = some (N m.u) := by rw [Nat.zero_add]; exact hcell
    obtain ⟨A, hA⟩ : ∃ A, accC 67 3 q2 ((PE.map (exQ f)).map PqS.cs) = A := ⟨_, rfl⟩
    obtain ⟨B, hB⟩ : ∃ B, accE 3 q1 (uidsV (PE.map Ml.u)) = B := ⟨_, rfl⟩
    rw [hA, hB] at hH ⊢
    rw [hkv]
    repeat (first | refine JL.q (by first | (apply OQ.idxS1 (i := i) (b := rl.1) (j := 0); exact Tryz.underlying35; exact bxIs; exact rfl; exact rfl; exact hi') | (apply OQ.load (v := N m.u); exact intC; exact rfl; exact hH; exact hcell0) | (apply OQ.move; exact rfl) | (apply OQ.assign; exact rfl)) rfl ?_ | refine JC.seq ?_ | refine JC.region ?_ | refine JC.block ?_ | refine JC.skip ?_ | refine JL.nil ?_ | refine JE.next ?_)
    refine JL.perm (M' := x.E ++ (A ++ (B ++ C))) ?_ (by rw [hX]; exact perm4 A B C X)
    refine JL.bfetch (f := f) (u := (m.u : Int)) k hf (by omega) (by omega) hT rfl rfl rfl rfl fun r => ?_
    rw [hfi, hX]
    obtain ⟨s, hs⟩ : ∃ s, tl1 r m.b = s := ⟨_, rfl⟩
    show JL Tryz.prog _ _ _ _ _ _ ((25, .tuple #[.agg (mlC m.u m.fl (tl1 r m.b)).toArray, N 0]) :: _) (accE 5 (some r) (m.v.map U8) ++ (X ++ (A ++ (B ++ C))))
    rw [hs]
    repeat (refine JL.q (by first | (apply OQ.extract; exact rfl; exact rfl) | (apply OQ.move; exact rfl)) rfl ?_)
    refine JL.alloc mlZ rfl fun b10 _ => ?_
    refine JL.store_all (cs := mlC m.u m.fl s) ml3 rfl rfl rfl rfl .here rfl ?_
    have hcf : ∀ o, Row 46 (mlC m.u m.fl s) o → cellAt o 1 = some (N m.fl) := Row.cell rfl
    have hgo : goes f m = !decide (((m.fl / 4 % 2 * 4 : Nat) : Int) = 0) := by
      unfold goes
      rw [decide_eq_true hmf, Bool.true_and]
      have h2 : m.fl / 4 % 2 < 2 := Nat.mod_lt _ (by decide)
      by_cases h : m.fl / 4 % 2 = 1
      · rw [decide_eq_true h, decide_eq_false (by omega)]; rfl
      · rw [decide_eq_false h, decide_eq_true (by omega)]; rfl
    cases hg : decide (((m.fl / 4 % 2 * 4 : Nat) : Int) = 0)
    · have hgo : goes f m = true := by rw [hgo, hg]; rfl
      rw [if_pos hgo] at htk
      repeat (first | refine JL.q (by first | (apply OQ.eqB (a := 0) (b := 0) (c := true); exact rfl; exact rfl; exact rfl) | (apply OQ.load (v := N m.fl); exact intC; exact rfl; exact .here; exact hcf) | (apply OQ.and4; exact hfl; exact rfl; exact rfl) | (apply OQ.neB (b := 0); exact rfl; exact rfl; exact hg) | (apply OQ.pick_t; exact rfl; exact rfl) | (apply OQ.move; exact rfl) | (apply OQ.assign; exact rfl) | (apply OQ.fld; exact rfl; exact rfl; exact rfl; exact (by decide); exact rfl)) rfl ?_ | refine JC.seq ?_ | refine JC.region ?_ | refine JL.nil ?_ | refine JE.next ?_ | refine JL.gon rfl rfl ?_)
      refine JC.cond_true rfl rfl ?_
      repeat (first | refine JL.q (by (apply OQ.move; exact rfl)) rfl ?_ | refine JC.seq ?_ | refine JC.region ?_)
      refine JL.less (M' := X ++ (A ++ (B ++ C))) (.drop _ _ _ (less_post _ _)) ?_
      refine JL.lit1 (v := N m.u) Tryz.underlying35 intE17 rfl rfl rfl rfl fun bl _ => ?_
      refine JL.perm (M' := B ++ (⟨bl, Row 3 [N m.u], true⟩ :: (A ++ (C ++ X)))) ?_ (by exact perm6 _ A B C X)
      rw [← hB]
      have hxl : (uidsV (PE.map Ml.u)).length = PE.length := by unfold uidsV; rw [List.length_map, List.length_map]
      refine JL.appendQ (xs := uidsV (PE.map Ml.u)) (cs := [N m.u]) (m := 1) (ad := some ⟨bl, 0, none⟩) (sc := 1) q1 Tryz.underlying35 intE17 (fun e => by rw [hq1 e]; rfl) (by rw [hxl]; rfl) rfl rfl (fun w' hw' => ?_) (by simp [Value.oneCell']) rfl (by rw [hxl]; omega) (by rw [hxl]; omega) rfl fun q' hq' => ?_
      · obtain ⟨o, ho, hA⟩ := hw'.get (b := bl) (A := Row 3 [N m.u]) (wr := true) (hasR .here)
        exact Reads.block ho (Row.all o hA)
      have e2 : uidsV (PE.map Ml.u) ++ [N m.u] = uidsV ((PE ++ [m]).map Ml.u) := by unfold uidsV; rw [List.map_append, List.map_append]; rfl
      have e3 : (uidsV (PE.map Ml.u) ++ [N m.u]).length = PE.length + 1 := by rw [List.length_append, hxl]; rfl
      rw [e3, e2]
      obtain ⟨B2, hB2⟩ : ∃ B2, accE 3 q' (uidsV ((PE ++ [m]).map Ml.u)) = B2 := ⟨_, rfl⟩
      rw [hB2]
      refine JL.less (M' := B2 ++ (A ++ (C ++ X))) (less_app2 (.drop _ _ _ (Less.refl _)) _) ?_
      refine JL.perm (M' := A ++ (B2 ++ (C ++ X))) ?_ (by exact List.perm_append_comm_assoc _ _ _)
      repeat (first | refine JL.q (by first | (apply OQ.callx (vs := [Z f, I64 m.u]); exact goes_mKey; exact rfl; exact (fun w' hw' => mKey_any f m.u hf (by omega) (by omega) w' (hT.holds hw'))) | (apply OQ.buildPg (key := mKey f (m.u : Int)) (b := true); exact rfl; exact rfl) | (apply OQ.move; exact rfl) | (apply OQ.assign; exact rfl)) rfl ?_ | refine JC.region ?_ | refine JL.nil ?_ | refine JE.next ?_)
      refine JL.litA (cs := (exQ f m).cs) Tryz.underlying70 prI rfl (by decide) (by decide) rfl rfl rfl fun bl2 _ => ?_
      rw [← hA]
      have hal : ((PE.map (exQ f)).map PqS.cs).length = PE.length := by rw [List.length_map, List.length_map]
      refine JL.appendC (c := (exQ f m).cs) (L := (PE.map (exQ f)).map PqS.cs) q2 Tryz.underlying70 prI (fun e => by rw [hq2 e]; rfl) (by rw [hal]; rfl) rfl rfl (fun u hu => List.all_eq_true.1 (PqS.one _) u hu) rfl (by decide) (by rw [hal]; omega) (by rw [hal]; omega) rfl fun b2 cap2 => ?_
      have e4 : ((PE.map (exQ f)).map PqS.cs ++ [(exQ f m).cs]).length = PE.length + 1 := by rw [List.length_append, hal]; rfl
      have e5 : (PE.map (exQ f)).map PqS.cs ++ [(exQ f m).cs] = ((PE ++ [m]).map (exQ f)).map PqS.cs := by rw [List.map_append, List.map_append]; rfl
      have e6 : (PE ++ [m]).length = PE.length + 1 := by rw [List.length_append]; rfl
      rw [e4, e5, ← hB2]
      repeat (first | refine JL.q (by first | (apply OQ.move; exact rfl) | (apply OQ.assign; exact rfl) | (apply OQ.addN; exact rfl; exact rfl; exact (by (try simp only []); omega))) rfl ?_ | refine JC.region ?_ | refine JL.nil ?_ | refine JE.next ?_ | refine JE.blk_normal ?_)
      rw [← hkv]
      refine JE.again (i := Xl.mk i q1 q2) (Xl.mk (i + 1) q' (some (b2, cap2))) ⟨hi', fun e => absurd (hq' e) (by simp), nofun⟩ (by dsimp only; omega) ?_ ?_
      · dsimp only
        rw [htk, e6]
        exact (by repeat (first | exact SubE.nil | refine SubE.cons _ _ _ rfl ?_))
      · dsimp only
        rw [htk]
        exact Less.refl _
    · have hgo : goes f m = false := by rw [hgo, hg]; rfl
      rw [if_neg (by rw [hgo]; decide), List.append_nil] at htk
      repeat (first | refine JL.q (by first | (apply OQ.eqB (a := 0) (b := 0) (c := true); exact rfl; exact rfl; exact rfl) | (apply OQ.load (v := N m.fl); exact intC; exact rfl; exact .here; exact hcf) | (apply OQ.and4; exact hfl; exact rfl; exact rfl) | (apply OQ.neB (b := 0); exact rfl; exact rfl; exact hg) | (apply OQ.pick_t; exact rfl; exact rfl) | (apply OQ.move; exact rfl) | (apply OQ.assign; exact rfl) | (apply OQ.fld; exact rfl; exact rfl; exact rfl; exact (by decide); exact rfl)) rfl ?_ | refine JC.seq ?_ | refine JC.region ?_ | refine JL.nil ?_ | refine JE.next ?_ | refine JL.gon rfl rfl ?_)
      refine JC.cond_false rfl rfl ?_
      refine JC.lessM (M' := X ++ (A ++ (B ++ C))) ?_ (.drop _ _ _ (less_post _ _))
      refine JC.permC (M' := A ++ (B ++ (C ++ X))) ?_ (perm4 A B C X).symm
      repeat (first | refine JL.q (by first | (apply OQ.move; exact rfl) | (apply OQ.addN; exact rfl; exact rfl; exact (by (try simp only []); omega))) rfl ?_ | refine JC.region ?_ | refine JC.skip ?_ | refine JL.nil ?_ | refine JE.next ?_ | refine JE.blk_normal ?_)
      rw [← hkv]
      refine JE.again (i := Xl.mk i q1 q2) (Xl.mk (i + 1) q1 q2) ⟨hi', fun e => by rw [htk]; exact hq1 e, fun e => by rw [htk]; exact hq2 e⟩ (by dsimp only; omega) ?_ ?_
      · dsimp only
        rw [htk]
        exact (by repeat (first | exact SubE.nil | refine SubE.cons _ _ _ rfl ?_))
      · dsimp only
        rw [htk, hA, hB]
        exact Less.refl _
  · have hi' : i = FS.length := by have := of_decide_eq_false h; omega
    subst hi'
    rw [List.take_length] at hq1 hq2 ⊢
    have hPl : (FS.filter (goes f)).length ≤ 40000 := by have := List.length_filter_le (goes f) FS; omega
    generalize FS.filter (goes f) = PE at hFg hex hexP hPl hq1 hq2 ⊢
    obtain ⟨B, hB⟩ : ∃ B, accE 3 q1 (uidsV (PE.map Ml.u)) = B := ⟨_, rfl⟩
    cases PE with
    | nil =>
      rw [hB]
      repeat (first | refine JL.q (by first | (apply OQ.lenV (q := q1) (k := 0); exact Tryz.underlying35; exact (fun _ => rfl); exact rfl) | (apply OQ.eqB (a := 0) (b := 0) (c := true); exact rfl; exact rfl; exact rfl) | (apply OQ.move; exact rfl)) rfl ?_ | refine JC.seq ?_ | refine JC.region ?_ | refine JC.exit ?_ | refine JL.nil ?_ | refine JE.next ?_ | refine JE.then_exit ?_ | refine JE.blk_hit ?_)
      refine JC.cond_true rfl rfl ?_
      repeat (first | refine JL.q (by (apply OQ.assign; exact rfl)) rfl ?_ | refine JC.seq ?_ | refine JC.region ?_ | refine JL.nil ?_ | refine JE.next ?_)
      refine JC.ret ?_
      repeat (refine JE.then_ret ?_)
      exact JE.ret2 rfl (RV.tmp rfl) (RV.tmp rfl) fun w' hw => ⟨⟨0, none, [], fun _ => rfl, x.z, recs, vs, R, k, rfl, .inl ⟨hex, rfl, rfl, rfl, rfl, rfl, rfl⟩⟩, rfl, hw.weak (by show Less x.E _; rw [hX]; exact less_app _ (less_app _ (less_post _ _)))⟩
    | cons m0 PE0 =>
    have hne : m0 :: PE0 ≠ [] := by simp
    have hex0 : exL R f ≠ [] := by rw [hex]; simp
    generalize m0 :: PE0 = PE at hFg hex hexP hPl hq1 hq2 hne hB ⊢
    cases q2 with
    | none => exact absurd (hq2 rfl) hne
    | some r2 =>
    obtain ⟨A, hA⟩ : ∃ A, accC 67 3 (some r2) ((PE.map (exQ f)).map PqS.cs) = A := ⟨_, rfl⟩
    rw [hA, hB]
    have hpos : 0 < PE.length := List.length_pos_iff.2 hne
    have g0 : decide ((PE.length : Int) = 0) = false := decide_eq_false (by omega)
    have hHb : Has (A ++ (B ++ (C ++ X))) x.b (Row 65 [Pt x.z.p 0]) true := by
      rw [← hX]
      exact hasR (hasR (hasR (hasR .here)))
    repeat (first | refine JL.q (by first | (apply OQ.lenV (q := q1) (k := PE.length); exact Tryz.underlying35; exact (fun e => by rw [hq1 e]; rfl); exact rfl) | (apply OQ.eqB (a := (PE.length : Int)) (b := 0); exact rfl; exact rfl; exact g0) | (apply OQ.move; exact rfl)) rfl ?_ | refine JC.seq ?_ | refine JC.region ?_ | refine JC.exit ?_ | refine JL.nil ?_ | refine JE.next ?_ | refine JE.then_exit ?_ | refine JE.blk_hit ?_)
    refine JC.cond_false rfl rfl ?_
    repeat (first | refine JL.q (by first | (apply OQ.load; exact bxC; exact rfl; exact hHb; exact (Row.cell (v := Pt x.z.p 0) rfl)) | (apply OQ.move; exact rfl) | (apply OQ.nilc; exact rfl) | (apply OQ.fld; exact rfl; exact rfl; exact rfl; exact (by decide); exact rfl)) rfl ?_ | refine JC.seq ?_ | refine JC.region ?_ | refine JC.skip ?_ | refine JE.next ?_)
    refine JL.perm (M' := x.z.E ++ (x.own ++ (A ++ (B ++ C)))) ?_ ((perm4 A B C X).trans (List.Perm.of_eq (by rw [← hX]; unfold Bz.E; rw [List.append_assoc])))
    have hsP : (SlP.mk (some ⟨r2.1, 0, none⟩) r2.2 (PE.map (exQ f))).ps = expP R f := hexP.symm
    have hmP : ∀ p ∈ expP R f, okP p = true ∧ szP p ≤ 60 := fun p hp => by
      unfold expP at hp
      obtain ⟨m, hm, rfl⟩ := List.mem_map.1 hp
      have hm := List.mem_filter.1 hm
      have hmf : m.f = f := by have := hm.2; unfold goes at this; simp only [Bool.and_eq_true, decide_eq_true_eq] at this; exact this.1
      have h1 := mKey_ok (k.r.fold m hm.1) (k.r.u_lt hm.1)
      rw [hmf] at h1
      refine ⟨?_, ?_⟩
      · unfold okP
        simp only [List.length_nil, Nat.lt_irrefl, decide_false, Bool.and_false, Bool.not_false, Bool.and_true, Bool.and_eq_true, decide_eq_true_eq]
        omega
      · unfold szP
        simp only [List.length_nil]
        omega
    have hokp : okL (expP R f) = true := List.all_eq_true.2 fun p hp => (hmP p hp).1
    have hszp : szL (expP R f) ≤ 2500000 := by
      have h1 := szL_le 60 fun p hp => (hmP p hp).2
      have h2 : (expP R f).length = PE.length := by rw [hexP, List.length_map, List.length_map]
      rw [h2] at h1
      omega
    refine JL.scom (s := ⟨some ⟨r2.1, 0, none⟩, r2.2, PE.map (exQ f)⟩) k.z (by rw [hsP]; exact hszp) (fun w' hw' => ?_) rfl (by show _ = some (Value.slice _ (PE.map (exQ f)).length _); rw [List.length_map]; rfl) rfl fun st => ?_
    · have h1 : Holds w S (accC 67 3 (some r2) ((PE.map (exQ f)).map PqS.cs) ++ []) w' := hw'.weak (by rw [List.append_nil, hA]; exact less_app _ (less_app _ (less_pre _ _)))
      have hn : ∀ p ∈ PE.map (exQ f), p.s = nilS := fun p hp => by obtain ⟨m, _, rfl⟩ := List.mem_map.1 hp; rfl
      refine ⟨gpS_ok (q := some r2) (l := PE.map (exQ f)) nofun h1 fun p hp => by rw [hn p hp]; exact nilS_ok w', fun _ a ea => ?_, fun p hp => ?_⟩
      · cases ea
        exact away_has (b := r2.1) hw' (.there (by rw [← hA]; exact .here))
      · rw [hn p hp]
        intro _ a ea
        cases ea
    obtain ⟨code, z2, recs2, vs2, sst⟩ := st
    rw [hsP] at sst
    have hbx := Step.box (x := x) sst hokp (expunge_bv k.r k.v f) (expunge_ok k.r f)
    dsimp only
    refine JL.perm (M' := B ++ ((z2.E ++ x.own) ++ (A ++ C))) ?_ (by exact perm5 z2.E x.own A B C)
    have hEq : z2.E ++ x.own = (Bz.mk x.b z2).E := by
      unfold Bz.E Bz.own
      rw [sst.2.1]
    rw [hEq]
    have hexl : (exL R f).length = PE.length := by rw [hex, List.length_map]
    have hval : Ending.returned (.tuple #[accV q1 PE.length, N 0]) = Ending.returned (.tuple #[accV q1 (exL R f).length, N 0]) := by rw [hexl]
    have hEnd : Less (accE 3 q1 (uidsV (exL R f)) ++ (Bz.mk x.b z2).E) (B ++ ((Bz.mk x.b z2).E ++ (A ++ C))) := by
      rw [hex, hB]
      exact less_app2 (less_pre _ _) _
    rcases hbx with ⟨h1, h2, h3⟩ | ⟨h1, h2, h3, h4⟩
    · subst h1
      repeat (first | refine JL.q (by first | (apply OQ.neB (a := 0) (b := 0) (c := true); exact rfl; exact rfl; exact rfl) | (apply OQ.move; exact rfl) | (apply OQ.assign; exact rfl)) rfl ?_ | refine JC.seq ?_ | refine JC.region ?_ | refine JL.nil ?_ | refine JE.next ?_)
      refine JC.cond_false rfl rfl ?_
      repeat (first | refine JL.q (by first | (apply OQ.move; exact rfl) | (apply OQ.assign; exact rfl)) rfl ?_ | refine JC.seq ?_ | refine JC.region ?_ | refine JC.skip ?_ | refine JL.nil ?_ | refine JE.next ?_)
      exact JC.ret (JE.ret2 rfl (RV.tmp rfl) (RV.tmp rfl) fun w' hw => ⟨⟨0, q1, exL R f, fun e => by rw [hex, hq1 e]; rfl, z2, recs2, vs2, R.expunge f, h3, sst.2.1, .inr ⟨hex0, sst, .inl ⟨rfl, rfl, rfl⟩⟩⟩, hval, hw.weak hEnd⟩)
    · subst h1
      repeat (first | refine JL.q (by first | (apply OQ.neB (a := 6) (b := 0) (c := false); exact rfl; exact rfl; exact rfl) | (apply OQ.move; exact rfl) | (apply OQ.assign; exact rfl)) rfl ?_ | refine JC.seq ?_ | refine JC.region ?_ | refine JL.nil ?_ | refine JE.next ?_)
      refine JC.cond_true rfl rfl ?_
      repeat (first | refine JL.q (by first | (apply OQ.move; exact rfl) | (apply OQ.assign; exact rfl)) rfl ?_ | refine JC.seq ?_ | refine JC.region ?_ | refine JL.nil ?_ | refine JE.next ?_)
      refine JC.ret ?_
      repeat (refine JE.then_ret ?_)
      exact JE.ret2 rfl (RV.tmp rfl) (RV.tmp rfl) fun w' hw => ⟨⟨6, none, [], fun _ => rfl, z2, recs2, vs2, R, by rw [h2, h3, h4]; exact k, sst.2.1, .inr ⟨hex0, sst, .inr ⟨rfl, rfl, h2, h3, h4, rfl⟩⟩⟩, rfl, hw.weak (by show Less (Bz.mk x.b z2).E _; exact less_app _ (less_pre _ _))⟩
end Go.Proofs.YtjkncnbpaejamaaGreatDoor

/-
  Of no statement by itself: the reference's SameInts; the laws' opened, laid; rules for calls of Deliver, Mark, Expunge.
  Conditions: each theorem's own.
-/
namespace Go.Proofs.YtjkncnbpaejamaaGreatDoor
set_option maxRecDepth 10000
open Sl Dsk Jrn Sto Bx
theorem SlI.ok.at {w : World} {s : SlI} (h : s.ok w) {i : Nat} (hi : i < s.l.length) : ∃ b j, s.ad = some ⟨b, j, none⟩ ∧ w.cell? ⟨b, j + i, none⟩ = some (I64 (s.l.getD i 0)) := by
  obtain ⟨b, j, e, c⟩ := h.reads.at (by rw [List.length_map]; omega)
  refine ⟨b, j, e, c i _ ?_⟩
  rw [List.getElem?_map, List.getD_eq_getElem?_getD, List.getElem?_eq_getElem hi]
  rfl
theorem take_eq {a b : List Int} {i : Nat} (hi : i < a.length) (hi2 : i < b.length) (ht : a.take i = b.take i) (h : a.getD i 0 = b.getD i 0) : a.take (i + 1) = b.take (i + 1) := by
  rw [List.getD_eq_getElem?_getD, List.getElem?_eq_getElem hi, List.getD_eq_getElem?_getD, List.getElem?_eq_getElem hi2] at h
  rw [List.take_succ_eq_append_getElem hi, List.take_succ_eq_append_getElem hi2, ht]
  exact congrArg (b.take i ++ [·]) h
theorem goes_rsi : Goes Tryz.prog 18 := ⟨_, Tryz.func18, rfl, by kernel_rfl⟩
set_option maxHeartbeats 8000000 in
theorem rsi_any (a b : SlI) (w : World) (ha : a.ok w) (hb : b.ok w) (hl : a.l.length < 9223372036854775808) (hl2 : b.l.length < 9223372036854775808) : Calls Tryz.prog 18 [a.v, b.v].toArray w fun e w' => e = .returned (.bool (decide (a.l = b.l))) ∧ Ext w w' := by
  refine enter (n := 26) Tryz.func18 rfl rfl rfl (Holds.start w []) ?_
  cases h0 : decide ((a.l.length : Int) = (b.l.length : Int))
  · rw [show decide (a.l = b.l) = false from decide_eq_false fun h => of_decide_eq_false h0 (by rw [h])]
    repeat (first | refine JL.q (by first | (apply OQ.len; exact Tryz.underlying35; exact rfl) | (apply OQ.neB; exact rfl; exact rfl; exact h0) | (apply OQ.move; exact rfl) | (apply OQ.assign; exact rfl)) rfl ?_ | refine JC.seq ?_ | refine JC.region ?_ | refine JL.nil ?_ | refine JE.next ?_)
    refine JC.cond rfl (fun _ => ?_) (fun h => by cases h)
    repeat (first | refine JL.q (by (apply OQ.assign; exact rfl)) rfl ?_ | refine JC.seq ?_ | refine JC.region ?_ | refine JL.nil ?_ | refine JE.next ?_)
    refine JC.ret ?_
    repeat (refine JE.then_ret ?_)
    exact JE.ret1 rfl (RV.tmp rfl) fun w' hw => ⟨rfl, hw.chg⟩
  · have hab : a.l.length = b.l.length := by have := of_decide_eq_true h0; omega
    repeat (first | refine JL.q (by first | (apply OQ.len; exact Tryz.underlying35; exact rfl) | (apply OQ.neB; exact rfl; exact rfl; exact h0) | (apply OQ.move; exact rfl) | (apply OQ.assign; exact rfl)) rfl ?_ | refine JC.seq ?_ | refine JC.region ?_ | refine JL.nil ?_ | refine JE.next ?_)
    refine JC.cond rfl (fun h => by cases h) (fun _ => ?_)
    repeat (first | refine JL.q (by (apply OQ.assign; exact rfl)) rfl ?_ | refine JC.seq ?_ | refine JC.region ?_ | refine JC.block ?_ | refine JC.skip ?_ | refine JL.nil ?_ | refine JE.next ?_)
    refine JC.loop (fun i : Nat => [(0, a.v), (1, b.v), (5, N i)]) (fun _ => []) (fun i => a.l.length - i) (fun i => i ≤ a.l.length ∧ a.l.take i = b.l.take i) 0 ⟨Nat.zero_le _, rfl⟩ (by repeat (first | exact SubE.nil | refine SubE.cons _ _ _ rfl ?_)) (Less.refl _) ?_
    rintro i ⟨hi, ht⟩
    repeat (first | refine JL.q (by first | (apply OQ.len; exact Tryz.underlying35; exact rfl) | (apply OQ.move; exact rfl) | (apply OQ.lssN; exact rfl; exact rfl)) rfl ?_ | refine JC.seq ?_ | refine JC.region ?_ | refine JL.nil ?_ | refine JE.next ?_)
    refine JC.cond rfl (fun h => ?_) (fun h => ?_)
    · have hi' : i < a.l.length := by have := of_decide_eq_true h; omega
      have hi2 : i < b.l.length := by omega
      clear h hi
      have hx := take_eq hi' hi2 ht
      have hbad : ¬ a.l.getD i 0 = b.l.getD i 0 → ¬ a.l = b.l := fun h e => h (by rw [e])
      obtain ⟨ba, ja, eA, cA⟩ := ha.at hi'
      obtain ⟨bb, jb, eB, cB⟩ := hb.at hi2
      have vA : a.v = .slice (some ⟨ba, ja, none⟩) a.l.length a.cap := by rw [← eA]; rfl
      have vB : b.v = .slice (some ⟨bb, jb, none⟩) b.l.length b.cap := by rw [← eB]; rfl
      generalize a.l.getD i 0 = p at hx hbad cA
      generalize b.l.getD i 0 = q at hx hbad cB
      cases h1 : decide (p = q)
      · rw [show decide (a.l = b.l) = false from decide_eq_false (hbad (of_decide_eq_false h1)), vA, vB]
        repeat (first | refine JC.seq ?_ | refine JC.block ?_ | refine JC.skip ?_ | refine JE.next ?_)
        refine JC.quiet mixT (by kernel_rfl) ?_
        repeat (first | refine JQ.q (by first | (apply OQ.idxS1 (i := i) (b := ba) (j := ja); exact Tryz.underlying35; exact bxIs; exact rfl; exact rfl; exact hi') | (apply OQ.idxS1 (i := i) (b := bb) (j := jb); exact Tryz.underlying35; exact bxIs; exact rfl; exact rfl; exact hi2) | (apply OQ.load_old; exact intC; exact rfl; exact (block_lt_of_cell cA); exact (by simp); exact cA) | (apply OQ.load_old; exact intC; exact rfl; exact (block_lt_of_cell cB); exact (by simp); exact cB) | (apply OQ.neB; exact rfl; exact rfl; exact h1) | (apply OQ.move; exact rfl)) rfl ?_ | refine JQ.nil ?_ | refine JE.next ?_)
        refine JC.cond rfl (fun _ => ?_) (fun h => by cases h)
        repeat (first | refine JL.q (by (apply OQ.assign; exact rfl)) rfl ?_ | refine JC.seq ?_ | refine JC.region ?_ | refine JL.nil ?_ | refine JE.next ?_)
        refine JC.ret ?_
        repeat (first | refine JE.then_ret ?_ | refine JE.blk_ret ?_)
        exact JE.ret1 rfl (RV.tmp rfl) fun w' hw => ⟨rfl, hw.chg⟩
      · rw [vA, vB]
        repeat (first | refine JC.seq ?_ | refine JC.block ?_ | refine JC.skip ?_ | refine JE.next ?_)
        refine JC.quiet mixT (by kernel_rfl) ?_
        repeat (first | refine JQ.q (by first | (apply OQ.idxS1 (i := i) (b := ba) (j := ja); exact Tryz.underlying35; exact bxIs; exact rfl; exact rfl; exact hi') | (apply OQ.idxS1 (i := i) (b := bb) (j := jb); exact Tryz.underlying35; exact bxIs; exact rfl; exact rfl; exact hi2) | (apply OQ.load_old; exact intC; exact rfl; exact (block_lt_of_cell cA); exact (by simp); exact cA) | (apply OQ.load_old; exact intC; exact rfl; exact (block_lt_of_cell cB); exact (by simp); exact cB) | (apply OQ.neB; exact rfl; exact rfl; exact h1) | (apply OQ.move; exact rfl)) rfl ?_ | refine JQ.nil ?_ | refine JE.next ?_)
        refine JC.cond rfl (fun h => by cases h) (fun _ => ?_)
        repeat (first | refine JL.q (by first | (apply OQ.move; exact rfl) | (apply OQ.assign; exact rfl) | (apply OQ.addN; exact rfl; exact rfl; exact (by (try simp only []); omega))) rfl ?_ | refine JC.region ?_ | refine JC.skip ?_ | refine JL.nil ?_ | refine JE.next ?_ | refine JE.blk_normal ?_)
        rw [← vA, ← vB]
        exact JE.again (i := i) (i + 1) ⟨hi', hx (of_decide_eq_true h1)⟩ (by omega) (by repeat (first | exact SubE.nil | refine SubE.cons _ _ _ rfl ?_)) (Less.refl _)
    · have hi' : i = a.l.length := by have := of_decide_eq_false h; omega
      subst hi'
      rw [List.take_length, hab, List.take_length] at ht
      rw [show decide (a.l = b.l) = true from decide_eq_true ht]
      repeat (first | refine JL.q (by (apply OQ.assign; exact rfl)) rfl ?_ | refine JC.seq ?_ | refine JC.region ?_ | refine JC.exit ?_ | refine JL.nil ?_ | refine JE.next ?_ | refine JE.then_exit ?_ | refine JE.blk_hit ?_)
      exact JC.ret (JE.ret1 rfl (RV.tmp rfl) fun w' hw => ⟨rfl, hw.chg⟩)
/-- a row of numbers of one's own -/
def accI (q : Acc) (L : List Nat) : SlI := match q with
  | none => ⟨none, 0, []⟩
  | some p => ⟨some ⟨p.1, 0, none⟩, p.2, L.map fun u => ((u : Nat) : Int)⟩
theorem accI_v {q : Acc} {L : List Nat} (h : q = none → L = []) : (accI q L).v = accV q L.length := by
  cases q with
  | none => rw [h rfl]; rfl
  | some p =>
    show Value.slice (some ⟨p.1, 0, none⟩) (L.map fun u => ((u : Nat) : Int)).length p.2 = Value.slice (some ⟨p.1, 0, none⟩) L.length p.2
    rw [List.length_map]
theorem accI_l {q : Acc} {L : List Nat} (h : q = none → L = []) : (accI q L).l = L.map fun u => ((u : Nat) : Int) := by
  cases q with
  | none => rw [h rfl]; rfl
  | some p => rfl
theorem accI_ok {w0 w : World} {S : List Nat} {M : List Ent} {q : Acc} {L : List Nat} (hw : Holds w0 S (accE 3 q (uidsV L) ++ M) w) : (accI q L).ok w := by
  cases q with
  | none => exact ⟨Nat.le_refl _, Reads.nil _ _⟩
  | some p =>
    have hw : Holds w0 S (⟨p.1, Sl.Own 3 1 (uidsV L).length p.2 (uidsV L), true⟩ :: M) w := hw
    obtain ⟨o, ho, hA⟩ := hw.get .here
    have hl : (uidsV L).length = L.length := List.length_map _
    refine ⟨?_, ?_⟩
    · show (L.map _).length ≤ p.2
      rw [List.length_map, ← hl]
      obtain ⟨sp, _, _, _, h⟩ := hA
      exact h
    · have e : (L.map fun u => ((u : Nat) : Int)).map (fun i => Value.int .i64 i) = uidsV L := by rw [List.map_map]; rfl
      show Reads w _ ((L.map fun u => ((u : Nat) : Int)).map fun i => Value.int .i64 i)
      rw [e]
      exact Reads.block ho (Sl.Own.cells o hA)
theorem accI_eq {q q2 : Acc} {L L2 : List Nat} (h : q = none → L = []) (h2 : q2 = none → L2 = []) : decide ((accI q L).l = (accI q2 L2).l) = decide (L = L2) := by
  rw [accI_l h, accI_l h2]
  refine decide_eq_decide.2 ⟨fun e => ?_, fun e => by rw [e]⟩
  have hj : Function.Injective fun u : Nat => (u : Int) := fun a b h => by have : ((a : Nat) : Int) = (b : Int) := h; omega
  exact (List.map_inj_right fun a b h => hj h).1 e
end Go.Proofs.YtjkncnbpaejamaaGreatDoor

/-
  Of no statement by itself: rules for calls of Deliver, Mark, Expunge; the laws' opened, laid.
  Conditions: each theorem's own.
-/
namespace Go.Proofs.YtjkncnbpaejamaaGreatDoor
set_option maxRecDepth 10000
open Sl Dsk Jrn Sto Bx
section
variable {n : Nat} {w0 : World} {S : List Nat} {ops : Array Oper} {Q : Exit → Act → World → Prop} {l : List Oper} {E : Env} {M : List Ent}
variable {d : Nat} {ty : TypeId} {pos : String} {aft : Array Edge} {x1 x2 x3 x4 : Operand} {ats : Array TypeId} {x : Bz} {recs : List Bk} {vs : VL} {R : Rb} {nd : Nat} {f : Bk} {u fl : Int} {s : Sl8}
theorem JL.bdeliver (k : x.ok recs vs R nd) (hn : nd + 1 ≤ 1000000) (hf : f.length < 1000000000000000) (hl : s.l.length ≤ 2000000) (hT : TabAt S w0) (hs : ∀ w, Holds w0 S (x.E ++ M) w → s.ok w ∧ Away s (keys x.E)) (e1 : ev E x1 = some (Pt x.b 0)) (e2 : ev E x2 = some (Z f)) (e3 : ev E x3 = some s.v) (hd : Nat.blt d n = true)
    (kk : ∀ r : DvTo x recs vs R nd f s.l, JL Tryz.prog n w0 S ops Q l ((d, .tuple #[N r.uid, N r.code]) :: E) ((Bz.mk x.b r.z').E ++ M)) : JL Tryz.prog n w0 S ops Q (⟨some d, .call ⟨.value (.func 12), #[x1, x2, x3], ats⟩, ty, pos, aft, none⟩ :: l) E (x.E ++ M) :=
  JL.callV (ι := DvTo x recs vs R nd f s.l) (xs := [x1, x2, x3]) (vs := [Pt x.b 0, Z f, s.v]) (fun r => .tuple #[N r.uid, N r.code]) (fun r => (Bz.mk x.b r.z').E) goes_bDeliver (by simp [evs, e1, e2, e3]) hd x.wr (fun r => Bz.wr _)
    (fun w h0 hw => bDeliver_any x recs vs R nd k hn f s hf hl w hw (hT.keys x.wr h0) (hs w h0).1 (hs w h0).2) kk
theorem JL.bmark (k : x.ok recs vs R nd) (hf : f.length < 1000000000000000) (hu0 : -9223372036854775808 ≤ u) (hu1 : u ≤ 9223372036854775807) (hz : ∀ m ∈ R.ms, m.b.length ≤ 2000000) (hT : TabAt S w0) (e1 : ev E x1 = some (Pt x.b 0)) (e2 : ev E x2 = some (Z f)) (e3 : ev E x3 = some (I64 u)) (e4 : ev E x4 = some (I64 fl)) (hd : Nat.blt d n = true)
    (kk : ∀ r : MkTo x recs vs R nd f u fl, JL Tryz.prog n w0 S ops Q l ((d, N r.code) :: E) ((Bz.mk x.b r.z').E ++ M)) : JL Tryz.prog n w0 S ops Q (⟨some d, .call ⟨.value (.func 14), #[x1, x2, x3, x4], ats⟩, ty, pos, aft, none⟩ :: l) E (x.E ++ M) :=
  JL.callV (ι := MkTo x recs vs R nd f u fl) (xs := [x1, x2, x3, x4]) (vs := [Pt x.b 0, Z f, I64 u, I64 fl]) (fun r => N r.code) (fun r => (Bz.mk x.b r.z').E) goes_bMark (by simp [evs, e1, e2, e3, e4]) hd x.wr (fun r => Bz.wr _)
    (fun w h0 hw => bMark_any x recs vs R nd k f u fl hf hu0 hu1 (fun m hm => by have := hz m hm; omega) hz w hw (hT.keys x.wr h0)) kk
theorem JL.bexp (k : x.ok recs vs R nd) (hf : f.length < 1000000000000000) (hn : R.ms.length ≤ 40000) (hT : TabAt S w0) (e1 : ev E x1 = some (Pt x.b 0)) (e2 : ev E x2 = some (Z f)) (hd : Nat.blt d n = true)
    (kk : ∀ r : ExTo x recs vs R nd f, JL Tryz.prog n w0 S ops Q l ((d, .tuple #[accV r.q r.l.length, N r.code]) :: E) (accE 3 r.q (uidsV r.l) ++ ((Bz.mk x.b r.z').E ++ M))) : JL Tryz.prog n w0 S ops Q (⟨some d, .call ⟨.value (.func 16), #[x1, x2], ats⟩, ty, pos, aft, none⟩ :: l) E (x.E ++ M) :=
  JL.callV (ι := ExTo x recs vs R nd f) (xs := [x1, x2]) (vs := [Pt x.b 0, Z f]) (fun r => .tuple #[accV r.q r.l.length, N r.code]) (fun r => accE 3 r.q (uidsV r.l) ++ (Bz.mk x.b r.z').E) goes_bExp (by simp [evs, e1, e2]) hd x.wr
    (fun r e he => (List.mem_append.1 he).elim (accE_wr _ _ _ e) (Bz.wr _ e)) (fun w h0 hw => bExp_any x recs vs R nd k f hf hn w hw (hT.keys x.wr h0)) fun r => by rw [List.append_assoc]; exact kk r
end
/-- a box that was opened -/
abbrev OpTo (x : Dp) (bl : List Bk) (ls : List Pq) := {b : Bz // b.z.ok (curF bl).2.2 (doL [] ls) ∧ b.z.h = opnJ x bl ∧ b.z.bl = opnD bl}
theorem goes_opened17 : Goes Tryz.prog 19 := ⟨_, Tryz.func19, rfl, by kernel_rfl⟩
set_option maxHeartbeats 4000000 in
theorem opened17_any (x : Dp) (bl : List Bk) (ls : List Pq) (hd : DkOk x bl []) (hno : noOpen bl = 0) (ho : decAll (curF bl).2.2 = some ls) (w : World) (h0 : Holds w (keys (dkE x bl [])) (dkE x bl []) w) :
    Calls Tryz.prog 19 [Pt x.p 0].toArray w fun e w' => ∃ y : OpTo x bl ls, e = .returned (Pt y.1.b 0) ∧ Holds w (keys (dkE x bl [])) y.1.E w' := by
  generalize keys (dkE x bl []) = S at h0 ⊢
  refine enter (n := 18) Tryz.func19 rfl rfl rfl h0 ?_
  repeat (first | refine JL.q (by first | (apply OQ.move; exact rfl) | (apply OQ.assign; exact rfl)) rfl ?_ | refine JC.seq ?_ | refine JC.region ?_ | refine JL.nil ?_ | refine JE.next ?_)
  refine JL.perm (M' := dkE x bl [] ++ []) ?_ (by rw [List.append_nil])
  refine JL.sopen hd hno ho rfl rfl fun z => ?_
  obtain ⟨z, k, hh, hbl⟩ := z
  dsimp only
  rw [List.append_nil]
  repeat (first | refine JL.q (by first | (apply OQ.extract; exact rfl; exact rfl) | (apply OQ.neB (a := 0) (b := 0) (c := true); exact rfl; exact rfl; exact rfl) | (apply OQ.ptrNil; exact Tryz.underlying63; exact rfl; exact rfl) | (apply OQ.pick_f; exact rfl; exact rfl) | (apply OQ.move; exact rfl) | (apply OQ.assign; exact rfl)) rfl ?_ | refine JC.seq ?_ | refine JC.region ?_ | refine JL.nil ?_ | refine JE.next ?_ | refine JL.gon rfl rfl ?_)
  refine JC.cond_false rfl rfl ?_
  repeat (first | refine JL.q (by (apply OQ.move; exact rfl)) rfl ?_ | refine JC.seq ?_ | refine JC.region ?_ | refine JC.skip ?_ | refine JE.next ?_)
  refine JL.callg (ι := Nat) (vs := [Pt z.p 0]) (fun b => Pt b 0) (fun b => [⟨b, Row 65 [Pt z.p 0], true⟩]) goes_bNew rfl rfl (fun b e he => by rw [List.mem_singleton] at he; subst he; rfl) (fun w' _ => bNew_any z.p w') fun b => ?_
  repeat (first | refine JL.q (by (apply OQ.assign; exact rfl)) rfl ?_ | refine JL.nil ?_ | refine JE.next ?_)
  refine JC.ret (JE.ret1 rfl (RV.tmp rfl) fun w' hw => ⟨⟨⟨b, z⟩, k, hh, hbl⟩, rfl, hw.perm' ?_⟩)
  exact List.perm_append_comm (l₁ := [_])
theorem goes_laid17 : Goes Tryz.prog 7 := ⟨_, Tryz.func7, rfl, by kernel_rfl⟩
/-- a box on a new disk -/
structure LdTo (size : Nat) where
  x : Dp
  b : Bz
  dk : DkOk x (newB size) []
  ok : b.ok (curF (newB size)).2.2 [] Rb.zero 0
  h : b.z.h = opnJ x (newB size)
  bl : b.z.bl = opnD (newB size)
set_option maxHeartbeats 4000000 in
theorem laid17_any (size : Nat) (h4 : 4 ≤ size) (h6 : size ≤ 65536) (w : World) :
    Calls Tryz.prog 7 [N size].toArray w fun e w' => ∃ y : LdTo size, e = .returned (.tuple #[Pt y.x.p 0, Pt y.b.b 0]) ∧ Holds w [] y.b.E w' := by
  refine enter (n := 20) Tryz.func7 rfl rfl rfl (Holds.start w []) ?_
  repeat (first | refine JL.q (by first | (apply OQ.move; exact rfl) | (apply OQ.assign; exact rfl)) rfl ?_ | refine JC.seq ?_ | refine JC.region ?_ | refine JL.nil ?_ | refine JE.next ?_)
  refine JL.dnew (k := size) (by omega) h6 rfl rfl fun x hx => ?_
  repeat (first | refine JL.q (by first | (apply OQ.extract; exact rfl; exact rfl) | (apply OQ.neB (a := 0) (b := 0) (c := true); exact rfl; exact rfl; exact rfl) | (apply OQ.ptrNil; exact Tryz.underlying27; exact rfl; exact rfl) | (apply OQ.pick_f; exact rfl; exact rfl) | (apply OQ.move; exact rfl) | (apply OQ.assign; exact rfl)) rfl ?_ | refine JC.seq ?_ | refine JC.region ?_ | refine JL.nil ?_ | refine JE.next ?_ | refine JL.gon rfl rfl ?_)
  refine JC.cond_false rfl rfl ?_
  repeat (first | refine JL.q (by (apply OQ.move; exact rfl)) rfl ?_ | refine JC.seq ?_ | refine JC.region ?_ | refine JC.skip ?_ | refine JE.next ?_)
  refine JL.callV (ι := OpTo x (newB size) []) (xs := [.tmp 18]) (vs := [Pt x.p 0]) (X := dkE x (newB size) []) (M0 := []) (fun y => Pt y.1.b 0) (fun y => y.1.E) goes_opened17 rfl rfl (dkE_wr _ _ _) (fun y => Bz.wr _) (fun w' _ hw => opened17_any x (newB size) [] hx (newB_no h4) (newB_dec size) w' hw) fun y => ?_
  obtain ⟨y, h1, h2, h3⟩ := y
  dsimp only
  rw [List.append_nil]
  repeat (first | refine JL.q (by (apply OQ.assign; exact rfl)) rfl ?_ | refine JL.nil ?_ | refine JE.next ?_)
  exact JC.ret (JE.ret2 rfl (RV.tmp rfl) (RV.tmp rfl) fun w' hw => ⟨⟨x, y, hx, ⟨h1, zero_bv, zero_ok⟩, h2, h3⟩, rfl, hw⟩)
end Go.Proofs.YtjkncnbpaejamaaGreatDoor

/-
  Of no statement by itself: room for what is put into a box; the laws' speaks (layer 17).
  Conditions: each theorem's own.
-/
namespace Go.Proofs.YtjkncnbpaejamaaGreatDoor
set_option maxRecDepth 10000
open Sl Dsk Jrn Sto Bx
theorem Step.fit {z z' : Sz} {recs recs' : List Bk} {vs vs' : VL} {ps : List Pq} {code : Nat} (st : Step z recs vs ps code z' recs' vs') (k : z.ok recs vs) (hok : okL ps = true) {B H g : Nat} (hB : szV (doL vs ps) ≤ B) (hH : nb B ≤ H) (hsz : z.h.size = H) (hg : z.h.g.toNat ≤ g) (hg2 : g < 4294967295) :
    code = 0 ∧ vs' = doL vs ps ∧ z'.h.size = H ∧ z'.h.g.toNat ≤ g + 1 ∧ z'.h.x.p = z.h.x.p := by
  have hb : (baseOf vs ps).length = szV (doL vs ps) := by
    unfold baseOf
    rw [encL_sz, szL_pairs]
  have h1 := st.zero k hok (by rw [hb, hsz]; unfold nb at hH ⊢; omega) (by omega)
  have h2 := st.keep k (by omega)
  exact ⟨h1.1, h1.2, h2.1.trans hsz, by omega, h2.2.1⟩
theorem goes_speaks17 : Goes Tryz.prog 6 := ⟨_, Tryz.func6, rfl, by kernel_rfl⟩
def inF : Bk := [105#8, 110#8]
theorem inF_ok : okF inF = true := by decide
theorem delP_ok {R : Rb} {n : Nat} (k : R.ok n) {f : Bk} (hf : okF f = true) (b : Bk) : okL (delP R f b) = true ∧ szL (delP R f b) ≤ 118 + b.length := by
  have h1 := R.next_le k f
  have h2 := k.le
  have h3 := mKey_ok hf (u := R.next f) (by omega)
  have h4 : (nKey f).length = f.length + 2 := by unfold nKey; simp
  have h5 := okF_len hf
  have h6 : (nV (R.next f + 1)).length = 8 := be64_len _ _
  refine ⟨?_, ?_⟩
  · unfold okL okP delP
    simp only [List.all_cons, List.all_nil, Bool.and_true, Bool.false_and, Bool.not_false, Bool.and_eq_true, decide_eq_true_eq, h4]
    omega
  · unfold szL szP delP
    simp only [List.map_cons, List.map_nil, List.sum_cons, List.sum_nil, List.length_cons, h4, h6]
    omega
theorem markP_ok {R : Rb} {n : Nat} (k : R.ok n) {f : Bk} {u fl : Int} {m : Ml} (hm : R.find f u = some m) : okL [markP f u fl m.b] = true ∧ szL [markP f u fl m.b] ≤ 61 + m.b.length := by
  obtain ⟨h1, h2, h3⟩ := find_mem hm
  have h4 := mKey_ok (k.fold m h1) (k.u_lt h1)
  rw [h2, h3] at h4
  refine ⟨?_, ?_⟩
  · unfold okL okP markP
    simp only [List.all_cons, List.all_nil, Bool.and_true, Bool.false_and, Bool.not_false, Bool.and_eq_true, decide_eq_true_eq]
    omega
  · unfold szL szP markP
    simp only [List.map_cons, List.map_nil, List.sum_cons, List.sum_nil, List.length_cons]
    omega
theorem expP_ok {R : Rb} {n : Nat} (k : R.ok n) (f : Bk) : okL (expP R f) = true ∧ ∀ vs, szV (doL vs (expP R f)) ≤ szV vs := by
  refine ⟨List.all_eq_true.2 fun p hp => ?_, fun vs => ?_⟩
  · unfold expP at hp
    obtain ⟨m, hm, rfl⟩ := List.mem_map.1 hp
    have hm := List.mem_filter.1 hm
    have hmf : m.f = f := by have := hm.2; unfold goes at this; simp only [Bool.and_eq_true, decide_eq_true_eq] at this; exact this.1
    have h1 := mKey_ok (k.fold m hm.1) (k.u_lt hm.1)
    rw [hmf] at h1
    unfold okP
    simp only [List.length_nil, Nat.lt_irrefl, decide_false, Bool.and_false, Bool.not_false, Bool.and_true, Bool.and_eq_true, decide_eq_true_eq]
    omega
  · unfold expP
    generalize R.ms.filter (goes f) = l
    induction l generalizing vs with
    | nil => exact Nat.le_refl _
    | cons m l ih => exact Nat.le_trans (ih (delV (mKey f (m.u : Int)) vs)) (delV_sz _ _)
set_option maxHeartbeats 16000000 in
theorem speaks17_any (w : World) (hT : TabOk w) : Calls Tryz.prog 6 [].toArray w fun e w' => e = .returned (.bool true) ∧ Ext w w' := by
  refine enter (n := 62) Tryz.func6 rfl rfl rfl (Holds.start w []) ?_
  have hTA : TabAt [] w := ⟨hT, by simp⟩
  repeat (first | refine JL.q (by (apply OQ.assign; exact rfl)) rfl ?_ | refine JC.seq ?_ | refine JC.region ?_ | refine JL.nil ?_ | refine JE.next ?_)
  refine JL.callg (ι := LdTo 40) (vs := [N 40]) (fun y => .tuple #[Pt y.x.p 0, Pt y.b.b 0]) (fun y => y.b.E) goes_laid17 rfl rfl (fun y => Bz.wr _) (fun w' _ => laid17_any 40 (by decide) (by decide) w') fun y => ?_
  obtain ⟨dx, x, dk, k, hh, hbl⟩ := y
  have hsz : x.z.h.size = 20 := by rw [hh]; rfl
  have hg : x.z.h.g.toNat ≤ 5 := by
    rw [hh]
    show (gm (newB 40) + 1#32).toNat ≤ 5
    rw [BitVec.toNat_add, (newB_cur 40).2]
    decide
  dsimp only
  rw [List.append_nil]
  repeat (first | refine JL.q (by first | (apply OQ.extract; exact rfl; exact rfl) | (apply OQ.ptrNil; exact Tryz.underlying28; exact rfl; exact rfl) | (apply OQ.move; exact rfl) | (apply OQ.assign; exact rfl)) rfl ?_ | refine JC.seq ?_ | refine JC.region ?_ | refine JL.nil ?_ | refine JE.next ?_)
  refine JC.cond_false rfl rfl ?_
  repeat (first | refine JL.q (by (apply OQ.move; exact rfl)) rfl ?_ | refine JC.seq ?_ | refine JC.region ?_ | refine JC.skip ?_ | refine JE.next ?_)
  refine JL.lit1 (v := U8 97) Tryz.underlying24 u8e rfl rfl rfl rfl fun bl _ => ?_
  refine JL.mark (r := [U8 97]) (te := 5) Tryz.underlying24 Tryz.underlying5 rfl .here rfl ?_
  refine JL.perm (M' := x.E ++ [⟨bl, Frz 5 [U8 97], true⟩]) ?_ (by exact List.perm_append_comm (l₁ := [_]))
  refine JL.bdeliver (f := inF) (s := ⟨some ⟨bl, 0, none⟩, 1, [97#8]⟩) k (by decide) (by decide) (by show 1 ≤ 2000000; decide) hTA (fun w' hw' => ⟨?_, ?_⟩) rfl rfl rfl rfl fun r => ?_
  · obtain ⟨o, ho, hA⟩ := hw'.get (hasR (N := x.E) (.here (b := bl)))
    exact ⟨Nat.le_refl _, Reads.block ho (Frz.all o hA)⟩
  · intro _ a ea
    cases ea
    exact away_has (b := bl) hw' .here
  obtain ⟨c1, u1, z1, recs1, vs1, R1, n1, k1, p1, o1⟩ := r
  dsimp only at k1 p1 o1 ⊢
  have hd1 := delP_ok k.r inF_ok [97#8]
  obtain ⟨st1, o1⟩ := (o1.resolve_left fun h => by rw [inF_ok] at h; exact absurd h.1 (by decide)).2
  have hv1 : szV (doL [] (delP Rb.zero inF [97#8])) ≤ 200 := by
    have := doL_sz (delP Rb.zero inF [97#8]) []
    have h0 : szV ([] : VL) = 0 := rfl
    have h2 : ([97#8] : Bk).length = 1 := rfl
    omega
  have f1 := st1.fit k.z hd1.1 (B := 200) (H := 20) (g := 5) hv1 (by decide) hsz hg (by decide)
  obtain ⟨rfl, rfl, rfl, rfl⟩ := o1.resolve_right fun h => by have := h.1; omega
  obtain ⟨_, rfl, sz1, g1, _⟩ := f1
  repeat (first | refine JL.q (by first | (apply OQ.extract; exact rfl; exact rfl) | (apply OQ.move; exact rfl) | (apply OQ.assign; exact rfl)) rfl ?_ | refine JC.seq ?_ | refine JC.region ?_ | refine JL.nil ?_ | refine JE.next ?_)
  refine JL.bmark (f := inF) (u := 1) (fl := 4) k1 (by decide) (by decide) (by decide) (fun m hm => ?_) hTA rfl rfl rfl rfl rfl fun r => ?_
  · have h : m = ⟨inF, 1, 0, [97#8]⟩ := by simpa [Rb.deliver, Rb.zero, Rb.next, Rb.next?] using hm
    rw [h]
    show 1 ≤ 2000000
    decide
  have hfi : (Rb.zero.deliver inF [97#8]).find inF 1 = some ⟨inF, 1, 0, [97#8]⟩ := by rfl
  obtain ⟨c2, z2, recs2, vs2, R2, k2, p2, o2⟩ := r
  dsimp only at k2 p2 o2 ⊢
  have o2 := (o2.resolve_left fun h => absurd h.1 (by decide)).resolve_left fun h => by rw [hfi] at h; cases h.2.1
  obtain ⟨_, m2, hm2, st2, o2⟩ := o2
  rw [hfi, Option.some.injEq] at hm2
  subst hm2
  have hd2 := markP_ok (fl := 4) k1.r hfi
  have hv2 : szV (doL (doL [] (delP Rb.zero inF [97#8])) [markP inF 1 4 [97#8]]) ≤ 300 := by
    have := doL_sz [markP inF 1 4 [97#8]] (doL [] (delP Rb.zero inF [97#8]))
    have h2 : ([97#8] : Bk).length = 1 := rfl
    have h3 := hd2.2
    dsimp only at h3
    omega
  have f2 := st2.fit k1.z hd2.1 (B := 300) (H := 20) (g := 6) hv2 (by decide) sz1 g1 (by decide)
  obtain ⟨rfl, rfl⟩ := o2.resolve_right fun h => by have := h.1; omega
  obtain ⟨_, rfl, sz2, g2, _⟩ := f2
  repeat (first | refine JL.q (by first | (apply OQ.move; exact rfl) | (apply OQ.assign; exact rfl)) rfl ?_ | refine JC.seq ?_ | refine JC.region ?_ | refine JL.nil ?_ | refine JE.next ?_)
  refine JL.bexp (f := inF) k2 (by decide) (by show 1 ≤ 40000; decide) hTA rfl rfl rfl fun r => ?_
  have hex : exL ((Rb.zero.deliver inF [97#8]).mark inF 1 (4 : Int).toNat) inF = [1] := by rfl
  obtain ⟨c3, q3, l3, hq3, z3, recs3, vs3, R3, k3, p3, o3⟩ := r
  dsimp only at k3 p3 o3 ⊢
  obtain ⟨_, st3, o3⟩ := o3.resolve_left fun h => by rw [hex] at h; cases h.1
  have hd3 := expP_ok k2.r inF
  have hv3 := Nat.le_trans (hd3.2 (doL (doL [] (delP Rb.zero inF [97#8])) [markP inF 1 4 [97#8]])) hv2
  have f3 := st3.fit k2.z hd3.1 (B := 300) (H := 20) (g := 7) hv3 (by decide) sz2 g2 (by decide)
  obtain ⟨rfl, rfl, rfl⟩ := o3.resolve_right fun h => by have := h.1; omega
  obtain ⟨_, rfl, sz3, g3, _⟩ := f3
  rw [hex] at hq3 ⊢
  repeat (first | refine JL.q (by first | (apply OQ.extract; exact rfl; exact rfl) | (apply OQ.move; exact rfl) | (apply OQ.assign; exact rfl)) rfl ?_ | refine JC.seq ?_ | refine JC.region ?_ | refine JL.nil ?_ | refine JE.next ?_)
  refine JL.perm (M' := (Bz.mk x.b z3).E ++ (accE 3 q3 (uidsV [1]) ++ [⟨bl, Frz 5 [U8 97], true⟩])) ?_ (by exact List.perm_append_comm_assoc _ _ _)
  refine JL.bdeliver (f := inF) (s := nilS) k3 (by decide) (by decide) (by show 0 ≤ 2000000; decide) hTA (fun w' hw' => ⟨nilS_ok w', fun _ a ea => by cases ea⟩) rfl rfl rfl rfl fun r => ?_
  obtain ⟨c4, u4, z4, recs4, vs4, R4, n4, k4, p4, o4⟩ := r
  dsimp only at k4 p4 o4 ⊢
  obtain ⟨st4, o4⟩ := (o4.resolve_left fun h => by rw [inF_ok] at h; exact absurd h.1 (by decide)).2
  have hd4 := delP_ok k3.r inF_ok nilS.l
  have hv4 : szV (doL (doL (doL (doL [] (delP Rb.zero inF [97#8])) [markP inF 1 4 [97#8]]) (expP ((Rb.zero.deliver inF [97#8]).mark inF 1 (4 : Int).toNat) inF)) (delP (((Rb.zero.deliver inF [97#8]).mark inF 1 (4 : Int).toNat).expunge inF) inF nilS.l)) ≤ 500 := by
    have := doL_sz (delP (((Rb.zero.deliver inF [97#8]).mark inF 1 (4 : Int).toNat).expunge inF) inF nilS.l) (doL (doL (doL [] (delP Rb.zero inF [97#8])) [markP inF 1 4 [97#8]]) (expP ((Rb.zero.deliver inF [97#8]).mark inF 1 (4 : Int).toNat) inF))
    have h2 : (nilS.l : Bk).length = 0 := rfl
    have h3 := hd4.2
    omega
  have f4 := st4.fit k3.z hd4.1 (B := 500) (H := 20) (g := 8) hv4 (by decide) sz3 g3 (by decide)
  obtain ⟨rfl, rfl, rfl, rfl⟩ := o4.resolve_right fun h => by have := h.1; omega
  have hu4 : (((Rb.zero.deliver inF [97#8]).mark inF 1 (4 : Int).toNat).expunge inF).next inF = 2 := by rfl
  have hu1 : Rb.zero.next inF = 1 := by rfl
  rw [hu4, hu1]
  repeat (first | refine JL.q (by first | (apply OQ.extract; exact rfl; exact rfl) | (apply OQ.eqB (a := 1) (b := 1) (c := true); exact rfl; exact rfl; exact rfl) | (apply OQ.eqB (a := 2) (b := 2) (c := true); exact rfl; exact rfl; exact rfl) | (apply OQ.eqB (a := 0) (b := 0) (c := true); exact rfl; exact rfl; exact rfl) | (apply OQ.pick_t; exact rfl; exact rfl) | (apply OQ.move; exact rfl) | (apply OQ.assign; exact rfl)) rfl ?_ | refine JC.seq ?_ | refine JC.region ?_ | refine JL.nil ?_ | refine JE.next ?_ | refine JL.gon rfl rfl ?_)
  try refine JL.gon rfl rfl ?_
  refine JL.lit1 (v := N 1) Tryz.underlying35 intE17 rfl rfl rfl rfl fun b2 _ => ?_
  have hsi : ∀ (w' : World), (accI q3 [1]).ok w' → SlI.ok w' ⟨some ⟨b2, 0, none⟩, 1, [1]⟩ → Calls Tryz.prog 18 [(accI q3 [1]).v, SlI.v ⟨some ⟨b2, 0, none⟩, 1, [1]⟩].toArray w' fun e w2 => e = .returned (.bool true) ∧ Ext w' w2 := fun w' h1 h2 => by
    have := rsi_any (accI q3 [1]) ⟨some ⟨b2, 0, none⟩, 1, [1]⟩ w' h1 h2 (by rw [accI_l hq3]; decide) (by show 1 < 9223372036854775808; decide)
    rw [accI_l hq3] at this
    exact this
  have hvv : (accI q3 [1]).v = accV q3 1 := accI_v hq3
  have hvs : accV q3 ([1] : List Nat).length = (accI q3 [1]).v := hvv.symm
  rw [hvs]
  repeat (first | refine JL.q (by first | (apply OQ.callx (vs := [(accI q3 [1]).v, SlI.v ⟨some ⟨b2, 0, none⟩, 1, [1]⟩]); exact goes_rsi; exact rfl; exact (fun w' hw' => hsi w' (accI_ok (hw'.weak (M' := accE 3 q3 (uidsV [1]) ++ [⟨bl, Frz 5 [U8 97], true⟩]) (.drop _ _ _ (less_post _ _)))) (by obtain ⟨o, ho, hA⟩ := hw'.get (.here (b := b2)); exact ⟨Nat.le_refl _, Reads.block ho (Row.all o hA)⟩))) | (apply OQ.pick_t; exact rfl; exact rfl) | (apply OQ.assign; exact rfl)) rfl ?_ | refine JL.nil ?_ | refine JE.next ?_ | refine JL.gon rfl rfl ?_)
  exact JC.ret (JE.ret1 rfl (RV.tmp rfl) fun w' hw => ⟨rfl, hw.chg⟩)
end Go.Proofs.YtjkncnbpaejamaaGreatDoor

/-
  Of no statement by itself: a row of calls to a box.
  Conditions: each theorem's own.
-/
namespace Go.Proofs.YtjkncnbpaejamaaGreatDoor
set_option maxRecDepth 10000
open Sl Dsk Jrn Sto Bx
structure CallH where
  what : Int
  u : Int
  fl : Int
  f : Bk
  s : Sl8
def CallH.cs (c : CallH) : List Value := [I64 c.what, I64 c.u, I64 c.fl, Z c.f, c.s.v]
def CallH.ok (w : World) (c : CallH) : Prop := (-9223372036854775808 ≤ c.u ∧ c.u ≤ 9223372036854775807) ∧ c.f.length < 9223372036854775808 ∧ c.s.ok w
structure SlH where
  ad : Option Addr
  cap : Nat
  l : List CallH
def SlH.v (s : SlH) : Value := .slice s.ad s.l.length s.cap
structure SlH.ok (w : World) (s : SlH) : Prop where
  len : s.l.length ≤ s.cap
  reads : Reads w s.ad (s.l.map CallH.cs).flatten
  all : ∀ c ∈ s.l, c.ok w
def noCallH : CallH := ⟨0, 0, 0, [], nilS⟩
theorem SlH.css (s : SlH) : ∀ c ∈ s.l.map CallH.cs, c.length = 5 := by
  intro c hc
  obtain ⟨d, _, rfl⟩ := List.mem_map.1 hc
  rfl
/-- the i-th call's cells -/
theorem SlH.ok.at {w : World} {s : SlH} (h : s.ok w) {i : Nat} (hi : i < s.l.length) : ∃ b j, s.ad = some ⟨b, j, none⟩ ∧ b < w.heap.size ∧ ∀ k u, ((s.l.getD i noCallH).cs)[k]? = some u → w.cell? ⟨b, j + i * 5 + k, none⟩ = some u := by
  have hl := chunk_len s.css
  rw [List.length_map] at hl
  have h0 : 0 < (s.l.map CallH.cs).flatten.length := by omega
  obtain ⟨b, j, e, hc⟩ := h.reads.at h0
  refine ⟨b, j, e, ?_, fun k u hu => ?_⟩
  · obtain ⟨v, hv⟩ : ∃ v, (s.l.map CallH.cs).flatten[0]? = some v := ⟨_, List.getElem?_eq_getElem h0⟩
    exact block_lt_of_cell (hc 0 v hv)
  · have hat := chunk_at (i := i) s.css (by rw [List.length_map]; exact hi)
    have e2 : (s.l.map CallH.cs).getD i [] = (s.l.getD i noCallH).cs := by simp [hi]
    rw [e2] at hat
    rw [← hat, List.getElem?_take] at hu
    split at hu
    · rw [List.getElem?_drop] at hu
      rw [Nat.add_assoc]
      exact hc _ u hu
    · cases hu
theorem SlH.mem {s : SlH} {i : Nat} (hi : i < s.l.length) : s.l.getD i noCallH ∈ s.l := by
  rw [List.getD_eq_getElem?_getD, List.getElem?_eq_getElem hi]
  exact List.getElem_mem hi
theorem caAg : aggT Tryz.prog 26 = true := by kernel_rfl
theorem ca5 : szT Tryz.prog 26 = some 5 := by kernel_rfl
theorem caZ : zc Tryz.prog 26 = some [I64 0, I64 0, I64 0, Z [], .slice none 0 0] := by kernel_rfl
end Go.Proofs.YtjkncnbpaejamaaGreatDoor

/-
  Of no statement by itself: what BoxFull gives.
  Conditions: each theorem's own.
-/
namespace Go.Proofs.YtjkncnbpaejamaaGreatDoor
set_option maxRecDepth 10000
open Sl Dsk Jrn Sto Bx
theorem exp_len (R : Rb) (f : Bk) : ((R.expunge f).list f).length + (exL R f).length = (R.list f).length := by
  unfold Rb.list Rb.expunge exL
  dsimp only
  rw [List.length_map, List.length_map, List.length_map]
  generalize R.ms = l
  induction l with
  | nil => rfl
  | cons m l ih =>
    have hgf : goes f m = true → m.f = f := fun h => by unfold goes at h; simp only [Bool.and_eq_true, decide_eq_true_eq] at h; exact h.1
    by_cases hg : goes f m = true
    · have hf := hgf hg
      rw [List.filter_cons_of_neg (by simp [hg]), List.filter_cons_of_pos hg, List.filter_cons_of_pos (p := fun m : Ml => decide (m.f = f)) (decide_eq_true hf), List.length_cons, List.length_cons]
      omega
    · rw [List.filter_cons_of_pos (p := fun m => !goes f m) (by simpa using hg), List.filter_cons_of_neg hg]
      by_cases hf : m.f = f
      · rw [List.filter_cons_of_pos (p := fun m : Ml => decide (m.f = f)) (decide_eq_true hf), List.filter_cons_of_pos (p := fun m : Ml => decide (m.f = f)) (decide_eq_true hf), List.length_cons, List.length_cons]
        omega
      · rw [List.filter_cons_of_neg (p := fun m : Ml => decide (m.f = f)) (by simpa using hf), List.filter_cons_of_neg (p := fun m : Ml => decide (m.f = f)) (by simpa using hf)]
        exact ih
theorem list_mark (R : Rb) (f : Bk) (u : Int) (fl : Nat) (g : Bk) : (R.mark f u fl).list g = R.list g := by
  unfold Rb.list Rb.mark
  dsimp only
  rw [List.filter_map, List.map_map]
  have e1 : (fun m : Ml => decide (m.f = g)) ∘ setF f u fl = fun m => decide (m.f = g) := by funext m; simp only [Function.comp, (setF_f f u fl m).1]
  have e2 : Ml.u ∘ setF f u fl = Ml.u := by funext m; simp only [Function.comp, (setF_f f u fl m).2.1]
  rw [e1, e2]
theorem find_list {R : Rb} {n : Nat} (k : R.ok n) {f : Bk} {u : Nat} (h : u ∈ R.list f) : ∃ m, R.find f (u : Int) = some m := by
  obtain ⟨m, hm, rfl⟩ := List.mem_map.1 h
  obtain ⟨h1, h2⟩ := List.mem_filter.1 hm
  rw [decide_eq_true_eq] at h2
  exact ⟨m, h2 ▸ find_of k h1⟩
structure Gs where
  i : Nat
  x : Bz
  recs : List Bk
  vs : VL
  R : Rb
structure Fs where
  i : Nat
  x : Bz
  recs : List Bk
  vs : VL
  R : Rb
  nd : Nat
  last : Nat
structure Fs.ok (b0 len : Nat) (s : Fs) : Prop where
  i : s.i ≤ len
  b : s.x.b = b0
  k : s.x.ok s.recs s.vs s.R s.nd
  nd : s.nd ≤ s.i
  ms : s.R.ms.length ≤ s.i
  bl : ∀ m ∈ s.R.ms, m.b.length ≤ 300
  last : s.last < s.R.next inF
set_option maxHeartbeats 32000000 in
theorem law_boxFull (size : Int) (calls : SlH) (w : World) (hs : calls.ok w) (hT : TabOk w) : Calls Tryz.prog 4 [I64 size, calls.v].toArray w fun e w' => e = .returned (.bool true) ∧ Ext w w' := by
  refine enter (n := 170) Tryz.func4 rfl rfl rfl (Holds.start w []) ?_
  have hTA : TabAt [] w := ⟨hT, by simp⟩
  have hsp := fun (w' : World) (h : Holds w [] [] w') => speaks17_any w' (hT.chg (by simp) h.chg)
  repeat (first | refine JL.q (by first | (apply OQ.callx (vs := []); exact goes_speaks17; exact rfl; exact hsp) | (apply OQ.not; exact rfl) | (apply OQ.assign; exact rfl)) rfl ?_ | refine JC.seq ?_ | refine JC.region ?_ | refine JL.nil ?_ | refine JE.next ?_)
  refine JC.cond_false rfl rfl ?_
  obtain ⟨len, hlen⟩ : ∃ len, calls.l.length = len := ⟨_, rfl⟩
  obtain ⟨g1, hg1⟩ : ∃ g1, decide (size < 4) = g1 := ⟨_, rfl⟩
  obtain ⟨g2, hg2⟩ : ∃ g2, decide (100 < size) = g2 := ⟨_, rfl⟩
  obtain ⟨g3, hg3⟩ : ∃ g3, decide ((60 : Int) < (calls.l.length : Int)) = g3 := ⟨_, rfl⟩
  cases g1
  case true =>
    repeat (first | refine JL.q (by first | (apply OQ.lssB (b := 4); exact rfl; exact rfl; exact hg1) | (apply OQ.pick_t; exact rfl; exact rfl) | (apply OQ.move; exact rfl)) rfl ?_ | refine JC.seq ?_ | refine JC.region ?_ | refine JC.skip ?_ | refine JL.nil ?_ | refine JE.next ?_ | refine JL.gskip rfl rfl rfl rfl ?_)
    refine JC.cond_true rfl rfl ?_
    repeat (first | refine JL.q (by (apply OQ.assign; exact rfl)) rfl ?_ | refine JC.seq ?_ | refine JC.region ?_ | refine JL.nil ?_ | refine JE.next ?_)
    refine JC.ret ?_
    repeat (refine JE.then_ret ?_)
    exact JE.ret1 rfl (RV.tmp rfl) fun w' hw => ⟨rfl, hw.chg⟩
  cases g2
  case true =>
    repeat (first | refine JL.q (by first | (apply OQ.lssB (b := 4); exact rfl; exact rfl; exact hg1) | (apply OQ.gtrB (b := 100); exact rfl; exact rfl; exact hg2) | (apply OQ.pick_t; exact rfl; exact rfl) | (apply OQ.pick_f; exact rfl; exact rfl) | (apply OQ.move; exact rfl)) rfl ?_ | refine JC.seq ?_ | refine JC.region ?_ | refine JC.skip ?_ | refine JL.nil ?_ | refine JE.next ?_ | refine JL.gon rfl rfl ?_ | refine JL.gskip rfl rfl rfl rfl ?_)
    refine JC.cond_true rfl rfl ?_
    repeat (first | refine JL.q (by (apply OQ.assign; exact rfl)) rfl ?_ | refine JC.seq ?_ | refine JC.region ?_ | refine JL.nil ?_ | refine JE.next ?_)
    refine JC.ret ?_
    repeat (refine JE.then_ret ?_)
    exact JE.ret1 rfl (RV.tmp rfl) fun w' hw => ⟨rfl, hw.chg⟩
  cases g3
  case true =>
    repeat (first | refine JL.q (by first | (apply OQ.lssB (b := 4); exact rfl; exact rfl; exact hg1) | (apply OQ.gtrB (b := 100); exact rfl; exact rfl; exact hg2) | (apply OQ.len (k := calls.l.length) (ad := calls.ad) (cap := calls.cap); exact Tryz.underlying22; exact rfl) | (apply OQ.gtrB (b := 60); exact rfl; exact rfl; exact hg3) | (apply OQ.pick_f; exact rfl; exact rfl) | (apply OQ.move; exact rfl)) rfl ?_ | refine JC.seq ?_ | refine JC.region ?_ | refine JC.skip ?_ | refine JL.nil ?_ | refine JE.next ?_ | refine JL.gon rfl rfl ?_)
    refine JC.cond_true rfl rfl ?_
    repeat (first | refine JL.q (by (apply OQ.assign; exact rfl)) rfl ?_ | refine JC.seq ?_ | refine JC.region ?_ | refine JL.nil ?_ | refine JE.next ?_)
    refine JC.ret ?_
    repeat (refine JE.then_ret ?_)
    exact JE.ret1 rfl (RV.tmp rfl) fun w' hw => ⟨rfl, hw.chg⟩
  obtain ⟨n, rfl⟩ : ∃ n : Nat, size = (n : Int) := ⟨size.toNat, by have := of_decide_eq_false hg1; omega⟩
  have h4 : 4 ≤ n := by have := of_decide_eq_false hg1; omega
  have h100 : n ≤ 100 := by have := of_decide_eq_false hg2; omega
  have h60 : len ≤ 60 := by have := of_decide_eq_false hg3; omega
  repeat (first | refine JL.q (by first | (apply OQ.lssB (b := 4); exact rfl; exact rfl; exact hg1) | (apply OQ.gtrB (b := 100); exact rfl; exact rfl; exact hg2) | (apply OQ.len (k := calls.l.length) (ad := calls.ad) (cap := calls.cap); exact Tryz.underlying22; exact rfl) | (apply OQ.gtrB (b := 60); exact rfl; exact rfl; exact hg3) | (apply OQ.pick_f; exact rfl; exact rfl) | (apply OQ.move; exact rfl)) rfl ?_ | refine JC.seq ?_ | refine JC.region ?_ | refine JC.skip ?_ | refine JL.nil ?_ | refine JE.next ?_ | refine JL.gon rfl rfl ?_)
  refine JC.cond_false rfl rfl ?_
  repeat (first | refine JL.q (by (apply OQ.move; exact rfl)) rfl ?_ | refine JC.seq ?_ | refine JC.region ?_ | refine JC.skip ?_ | refine JE.next ?_)
  refine JL.callg (ι := LdTo n) (vs := [N n]) (fun y => .tuple #[Pt y.x.p 0, Pt y.b.b 0]) (fun y => y.b.E) goes_laid17 rfl rfl (fun y => Bz.wr _) (fun w' _ => laid17_any n h4 (by omega) w') fun y => ?_
  obtain ⟨dx, x0, dk, k0, hh, hbl⟩ := y
  dsimp only
  rw [List.append_nil]
  repeat (first | refine JL.q (by first | (apply OQ.extract; exact rfl; exact rfl) | (apply OQ.ptrNil; exact Tryz.underlying28; exact rfl; exact rfl) | (apply OQ.move; exact rfl) | (apply OQ.assign; exact rfl)) rfl ?_ | refine JC.seq ?_ | refine JC.region ?_ | refine JL.nil ?_ | refine JE.next ?_)
  refine JC.cond_false rfl rfl ?_
  repeat (first | refine JL.q (by first | (apply OQ.len (k := calls.l.length) (ad := calls.ad) (cap := calls.cap); exact Tryz.underlying22; exact rfl) | (apply OQ.move; exact rfl) | (apply OQ.assign; exact rfl)) rfl ?_ | refine JC.seq ?_ | refine JC.region ?_ | refine JC.block ?_ | refine JC.skip ?_ | refine JL.nil ?_ | refine JE.next ?_)
  obtain ⟨b0, hb0⟩ : ∃ b0, x0.b = b0 := ⟨_, rfl⟩
  rw [hb0]
  refine JC.loop (fun s : Fs => [(1, calls.v), (6, Pt b0 0), (7, N s.last), (41, calls.v), (42, N calls.l.length), (43, N s.i)]) (fun s => s.x.E) (fun s => calls.l.length - s.i) (Fs.ok b0 calls.l.length) ⟨0, x0, _, [], Rb.zero, 0, 0⟩ ⟨Nat.zero_le _, hb0, k0, Nat.le_refl _, Nat.le_refl _, by simp [Rb.zero], by show 0 < 1; decide⟩ (by repeat (first | exact SubE.nil | refine SubE.cons _ _ _ rfl ?_)) (Less.refl _) ?_
  rintro ⟨i, x, recs, vs, R, nd, last⟩ ⟨hi, hb, k, hnd, hms, hbl2, hlast⟩
  dsimp only at hi hb k hnd hms hbl2 hlast ⊢
  subst hb
  repeat (first | refine JL.q (by (apply OQ.lssN; exact rfl; exact rfl)) rfl ?_ | refine JC.seq ?_ | refine JC.region ?_ | refine JL.nil ?_ | refine JE.next ?_)
  refine JC.cond rfl (fun h => ?_) (fun h => ?_)
  rotate_left
  · repeat (first | refine JL.q (by (apply OQ.assign; exact rfl)) rfl ?_ | refine JC.seq ?_ | refine JC.region ?_ | refine JC.exit ?_ | refine JL.nil ?_ | refine JE.next ?_ | refine JE.then_exit ?_ | refine JE.blk_hit ?_)
    exact JC.ret (JE.ret1 rfl (RV.tmp rfl) fun w' hw => ⟨rfl, hw.chg⟩)
  have hi' : i < calls.l.length := by have := of_decide_eq_true h; omega
  clear h
  obtain ⟨b, j, e, lb, hcell⟩ := hs.at hi'
  obtain ⟨hcu, hcf, hcs⟩ := hs.all _ (SlH.mem hi')
  generalize calls.l.getD i noCallH = c at hcell hcu hcf hcs
  have hsv : calls.v = .slice (some ⟨b, j, none⟩) calls.l.length calls.cap := by rw [← e]; rfl
  rw [hsv]
  repeat (first | refine JL.q (by first | (apply OQ.idxS (i := i); exact Tryz.underlying22; exact ca5; exact rfl; exact rfl; exact hi') | (apply OQ.load_agg_old (cs := c.cs); exact caAg; exact rfl; exact ca5; exact lb; exact (by simp); exact hcell)) rfl ?_ | refine JC.seq ?_ | refine JC.region ?_ | refine JC.block ?_ | refine JC.skip ?_ | refine JE.next ?_)
  refine JL.alloc caZ rfl fun b9 _ => ?_
  refine JL.store_all (cs := c.cs) ca5 rfl rfl rfl (by rfl) .here rfl ?_
  rw [← hsv]
  have hc4 : ∀ o, Row 26 c.cs o → cellAt o 4 = some c.s.v := Row.cell rfl
  have hc2 : ∀ o, Row 26 c.cs o → cellAt o 2 = some (I64 c.fl) := Row.cell rfl
  have hc0 : ∀ o, Row 26 c.cs o → cellAt o 0 = some (I64 c.what) := Row.cell rfl
  obtain ⟨g4, hg4⟩ : ∃ g4, decide ((300 : Int) < (c.s.l.length : Int)) = g4 := ⟨_, rfl⟩
  cases g4
  case true =>
    repeat (first | refine JL.q (by first | (apply OQ.load; exact bxSl; exact rfl; exact .here; exact hc4) | (apply OQ.len (k := c.s.l.length) (ad := c.s.ad) (cap := c.s.cap); exact Tryz.underlying24; exact rfl) | (apply OQ.gtrB (b := 300); exact rfl; exact rfl; exact hg4) | (apply OQ.fld; exact rfl; exact rfl; exact rfl; exact (by decide); exact rfl)) rfl ?_ | refine JC.seq ?_ | refine JC.region ?_ | refine JL.nil ?_ | refine JE.next ?_)
    refine JC.cond_true rfl rfl ?_
    repeat (first | refine JL.q (by (apply OQ.assign; exact rfl)) rfl ?_ | refine JC.seq ?_ | refine JC.region ?_ | refine JL.nil ?_ | refine JE.next ?_)
    refine JC.ret ?_
    repeat (first | refine JE.then_ret ?_ | refine JE.blk_ret ?_)
    exact JE.ret1 rfl (RV.tmp rfl) fun w' hw => ⟨rfl, hw.chg⟩
  have hcl : c.s.l.length ≤ 300 := by have := of_decide_eq_false hg4; omega
  repeat (first | refine JL.q (by first | (apply OQ.load; exact bxSl; exact rfl; exact .here; exact hc4) | (apply OQ.len (k := c.s.l.length) (ad := c.s.ad) (cap := c.s.cap); exact Tryz.underlying24; exact rfl) | (apply OQ.gtrB (b := 300); exact rfl; exact rfl; exact hg4) | (apply OQ.fld; exact rfl; exact rfl; exact rfl; exact (by decide); exact rfl)) rfl ?_ | refine JC.seq ?_ | refine JC.region ?_ | refine JL.nil ?_ | refine JE.next ?_)
  refine JC.cond_false rfl rfl ?_
  repeat (first | refine JL.q (by (apply OQ.move; exact rfl)) rfl ?_ | refine JC.seq ?_ | refine JC.region ?_ | refine JC.skip ?_ | refine JE.next ?_)
  refine JL.perm (M' := x.E ++ [⟨b9, Row 26 c.cs, true⟩]) ?_ (by exact List.perm_append_comm (l₁ := [_]))
  refine JL.blist (f := inF) k (by decide) (by omega) rfl rfl rfl fun q => ?_
  obtain ⟨q, hq⟩ := q
  dsimp only
  repeat (refine JL.q (by (apply OQ.move; exact rfl)) rfl ?_)
  refine JL.perm (M' := x.E ++ (accE 3 q (uidsV (R.list inF)) ++ [⟨b9, Row 26 c.cs, true⟩])) ?_ (by exact List.perm_append_comm_assoc _ _ _)
  refine JL.bnext (f := inF) k (by decide) rfl rfl rfl ?_
  have hHc : Has (x.E ++ (accE 3 q (uidsV (R.list inF)) ++ [(⟨b9, Row 26 c.cs, true⟩ : Ent)])) b9 (Row 26 c.cs) true := hasR (hasR .here)
  repeat (first | refine JL.q (by first | (apply OQ.load; exact intC; exact rfl; exact hHc; exact hc0) | (apply OQ.assign; exact rfl) | (apply OQ.fld; exact rfl; exact rfl; exact rfl; exact (by decide); exact rfl)) rfl ?_ | refine JC.seq ?_ | refine JC.region ?_ | refine JC.block ?_ | refine JL.nil ?_ | refine JE.next ?_)
  obtain ⟨h0, hh0⟩ : ∃ h, decide (c.what = 0) = h := ⟨_, rfl⟩
  obtain ⟨h1, hh1⟩ : ∃ h, decide (c.what = 1) = h := ⟨_, rfl⟩
  obtain ⟨h2, hh2⟩ : ∃ h, decide (c.what = 2) = h := ⟨_, rfl⟩
  cases h0
  case true =>
    repeat (first | refine JL.q (by first | (apply OQ.eqB (b := 0); exact rfl; exact rfl; exact hh0) | (apply OQ.assign; exact rfl)) rfl ?_ | refine JL.nil ?_ | refine JE.next ?_)
    refine JC.cond_true rfl rfl ?_
    repeat (first | refine JC.skip ?_ | refine JE.next ?_)
    refine JC.cond_true rfl rfl ?_
    have hnle := R.next_le k.r inF
    have hkle := k.r.le
    repeat (first | refine JL.q (by first | (apply OQ.load; exact bxSl; exact rfl; exact hHc; exact hc4) | (apply OQ.move; exact rfl) | (apply OQ.fld; exact rfl; exact rfl; exact rfl; exact (by decide); exact rfl)) rfl ?_ | refine JC.seq ?_ | refine JC.region ?_)
    refine JL.bdeliver (f := inF) (s := c.s) k (by omega) (by decide) (by omega) hTA (fun w' hw' => ⟨hcs.holds hw' rfl, away_old hw' x.wr hcs⟩) rfl rfl rfl rfl fun r => ?_
    obtain ⟨cd, uid, z2, recs2, vs2, R2, n2, k2, p2, o2⟩ := r
    dsimp only at k2 p2 o2 ⊢
    obtain ⟨st, o2⟩ := (o2.resolve_left fun h => by rw [inF_ok] at h; exact absurd h.1 (by decide)).2
    rcases o2 with ⟨rfl, rfl, rfl, rfl⟩ | ⟨rfl, rfl, rfl, _, _, _, _⟩
    · repeat (first | refine JL.q (by first | (apply OQ.extract; exact rfl; exact rfl) | (apply OQ.eqB (a := 0) (b := 6) (c := false); exact rfl; exact rfl; exact rfl) | (apply OQ.move; exact rfl) | (apply OQ.assign; exact rfl)) rfl ?_ | refine JC.seq ?_ | refine JC.region ?_ | refine JL.nil ?_ | refine JE.next ?_)
      refine JC.cond_false rfl rfl ?_
      repeat (first | refine JL.q (by (apply OQ.move; exact rfl)) rfl ?_ | refine JC.seq ?_ | refine JC.region ?_ | refine JC.skip ?_ | refine JE.next ?_)
      refine JL.bfetch (x := Bz.mk x.b z2) (f := inF) (u := (R.next inF : Int)) k2 (by decide) (by omega) (by omega) hTA rfl rfl rfl rfl fun r => ?_
      have hfi : (R.deliver inF c.s.l).find inF (R.next inF : Int) = some ⟨inF, R.next inF, 0, c.s.l⟩ := by rw [find_deliver k.r, if_pos ⟨rfl, rfl⟩]
      rw [hfi]
      obtain ⟨s, hs2⟩ : ∃ s, tl1 r c.s.l = s := ⟨_, rfl⟩
      have hsl : s.l = c.s.l := by rw [← hs2]; rfl
      show JL Tryz.prog _ _ _ _ _ _ ((115, .tuple #[.agg (mlC (R.next inF) 0 (tl1 r c.s.l)).toArray, N 0]) :: _) (accE 5 (some r) ((0#8 :: c.s.l).map U8) ++ _)
      rw [hs2]
      repeat (refine JL.q (by first | (apply OQ.extract; exact rfl; exact rfl) | (apply OQ.move; exact rfl)) rfl ?_)
      refine JL.alloc mlZ rfl fun b14 _ => ?_
      refine JL.store_all (cs := mlC (R.next inF) 0 s) ml3 rfl rfl rfl rfl .here rfl ?_
      have hm2 : ∀ o, Row 46 (mlC (R.next inF) 0 s) o → cellAt o 2 = some s.v := Row.cell rfl
      have hm1 : ∀ o, Row 46 (mlC (R.next inF) 0 s) o → cellAt o 1 = some (N 0) := Row.cell rfl
      have hk1 : decide ((R.next inF : Int) ≤ (last : Int)) = false := decide_eq_false (by omega)
      have hk2 : decide ((R.next inF : Int) = (R.next inF : Int)) = true := decide_eq_true rfl
      have hH9 : Has (⟨b14, Row 46 (mlC (R.next inF) 0 s), true⟩ :: (accE 5 (some r) ((0#8 :: c.s.l).map U8) ++ ((Bz.mk x.b z2).E ++ (accE 3 q (uidsV (R.list inF)) ++ [(⟨b9, Row 26 c.cs, true⟩ : Ent)])))) b9 (Row 26 c.cs) true := .there (hasR (hasR (hasR .here)))
      have hsm : ∀ {w' : World} {M' : List Ent}, Holds w [] (⟨b14, Row 46 (mlC (R.next inF) 0 s), true⟩ :: (accE 5 (some r) ((0#8 :: c.s.l).map U8) ++ M')) w' → Calls Tryz.prog 21 [s.v, c.s.v].toArray w' fun e w2 => e = .returned (.bool true) ∧ Ext w' w2 := fun {w' M'} hw' => by
        have ok1 : s.ok w' := by
          rw [← hs2]
          exact tl1_ok (M := M') (hw'.weak (.drop _ _ _ (Less.refl _)))
        have := same_any s c.s w' ok1 (hcs.holds hw' rfl) (by rw [hsl]; omega)
        rw [hsl, decide_eq_true rfl] at this
        exact this
      repeat (first | refine JL.q (by first | (apply OQ.neB (a := 0) (b := 0) (c := true); exact rfl; exact rfl; exact rfl) | (apply OQ.leqB (b := (last : Int)); exact rfl; exact rfl; exact hk1) | (apply OQ.neB (b := (R.next inF : Int)); exact rfl; exact rfl; exact hk2) | (apply OQ.load; exact bxSl; exact rfl; exact .here; exact hm2) | (apply OQ.load; exact bxSl; exact rfl; exact hH9; exact hc4) | (apply OQ.callx (vs := [s.v, c.s.v]); exact goes_same; exact rfl; exact (fun w' hw' => hsm hw')) | (apply OQ.not; exact rfl) | (apply OQ.load; exact intC; exact rfl; exact .here; exact hm1) | (apply OQ.pick_f; exact rfl; exact rfl) | (apply OQ.move; exact rfl) | (apply OQ.assign; exact rfl) | (apply OQ.fld; exact rfl; exact rfl; exact rfl; exact (by decide); exact rfl)) rfl ?_ | refine JC.seq ?_ | refine JC.region ?_ | refine JL.nil ?_ | refine JE.next ?_ | refine JL.gon rfl rfl ?_)
      refine JC.cond_false rfl rfl ?_
      repeat (first | refine JL.q (by first | (apply OQ.move; exact rfl) | (apply OQ.assign; exact rfl) | (apply OQ.addN; exact rfl; exact rfl; exact (by (try simp only []); omega))) rfl ?_ | refine JC.region ?_ | refine JC.skip ?_ | refine JL.nil ?_ | refine JE.next ?_ | refine JE.blk_normal ?_)
      refine JE.again (i := Fs.mk i x recs vs R nd last) (Fs.mk (i + 1) (Bz.mk x.b z2) recs2 vs2 (R.deliver inF c.s.l) (nd + 1) (R.next inF)) ⟨hi', rfl, k2, by dsimp only; omega, ?_, ?_, ?_⟩ (by dsimp only; omega) (by repeat (first | exact SubE.nil | refine SubE.cons _ _ _ rfl ?_)) (.drop _ _ _ (less_app _ (less_pre _ _)))
      · show (R.ms ++ [_]).length ≤ i + 1
        rw [List.length_append]
        exact Nat.add_le_add_right hms 1
      · intro m hm
        rcases List.mem_append.1 hm with hm | hm
        · exact hbl2 m hm
        · rw [List.mem_singleton] at hm
          subst hm
          exact hcl
      · show R.next inF < (R.deliver inF c.s.l).next inF
        unfold Rb.next
        rw [next_deliver, if_pos rfl]
        exact Nat.lt_succ_self _
    · repeat (first | refine JL.q (by first | (apply OQ.extract; exact rfl; exact rfl) | (apply OQ.eqB (a := 6) (b := 6) (c := true); exact rfl; exact rfl; exact rfl) | (apply OQ.move; exact rfl) | (apply OQ.assign; exact rfl)) rfl ?_ | refine JC.seq ?_ | refine JC.region ?_ | refine JL.nil ?_ | refine JE.next ?_)
      refine JC.cond_true rfl rfl ?_
      repeat (first | refine JL.q (by first | (apply OQ.neB (a := 0) (b := 0) (c := true); exact rfl; exact rfl; exact rfl) | (apply OQ.move; exact rfl)) rfl ?_ | refine JC.seq ?_ | refine JC.region ?_ | refine JL.gon rfl rfl ?_)
      try refine JL.gon rfl rfl ?_
      refine JL.blist (x := x) (f := inF) k (by decide) (by omega) rfl rfl rfl fun q3 => ?_
      obtain ⟨q3, hq3⟩ := q3
      dsimp only
      have hsi : ∀ (w' : World), (accI q3 (R.list inF)).ok w' → (accI q (R.list inF)).ok w' → Calls Tryz.prog 18 [(accI q3 (R.list inF)).v, (accI q (R.list inF)).v].toArray w' fun e w2 => e = .returned (.bool true) ∧ Ext w' w2 := fun w' h1 h2 => by
        have hle : (R.list inF).length ≤ i := by
          unfold Rb.list
          rw [List.length_map]
          exact Nat.le_trans (List.length_filter_le _ _) hms
        have := rsi_any (accI q3 (R.list inF)) (accI q (R.list inF)) w' h1 h2 (by rw [accI_l hq3, List.length_map]; omega) (by rw [accI_l hq, List.length_map]; omega)
        rw [accI_eq hq3 hq, decide_eq_true rfl] at this
        exact this
      rw [← accI_v hq3, ← accI_v hq]
      have hk2 : decide ((R.next inF : Int) = (R.next inF : Int)) = true := decide_eq_true rfl
      repeat (first | refine JL.q (by first | (apply OQ.callx (vs := [(accI q3 (R.list inF)).v, (accI q (R.list inF)).v]); exact goes_rsi; exact rfl; exact (fun w' hw' => hsi w' (accI_ok hw') (accI_ok (hw'.weak (M' := accE 3 q (uidsV (R.list inF)) ++ []) (by rw [List.append_nil]; exact less_app _ (less_app _ (less_pre _ _))))))) | (apply OQ.not; exact rfl) | (apply OQ.pick_f; exact rfl; exact rfl) | (apply OQ.move; exact rfl)) rfl ?_ | refine JL.gon rfl rfl ?_)
      try refine JL.gon rfl rfl ?_
      refine JL.perm (M' := x.E ++ (accE 3 q3 (uidsV (R.list inF)) ++ (accE 3 q (uidsV (R.list inF)) ++ [⟨b9, Row 26 c.cs, true⟩]))) ?_ (by exact List.perm_append_comm_assoc _ _ _)
      refine JL.bnext (f := inF) k (by decide) rfl rfl rfl ?_
      repeat (first | refine JL.q (by first | (apply OQ.neB (b := (R.next inF : Int)); exact rfl; exact rfl; exact hk2) | (apply OQ.pick_f; exact rfl; exact rfl) | (apply OQ.move; exact rfl)) rfl ?_ | refine JL.nil ?_ | refine JE.next ?_ | refine JL.gon rfl rfl ?_)
      refine JC.cond_false rfl rfl ?_
      repeat (first | refine JL.q (by first | (apply OQ.move; exact rfl) | (apply OQ.addN; exact rfl; exact rfl; exact (by (try simp only []); omega))) rfl ?_ | refine JC.region ?_ | refine JC.skip ?_ | refine JC.exit ?_ | refine JL.nil ?_ | refine JE.next ?_ | refine JE.blk_normal ?_ | refine JE.then_exit ?_ | refine JE.blk_hit ?_)
      exact JE.again (i := Fs.mk i x recs vs R nd last) (Fs.mk (i + 1) x recs vs R nd last) ⟨hi', rfl, k, by dsimp only; omega, by dsimp only; omega, hbl2, hlast⟩ (by dsimp only; omega) (by repeat (first | exact SubE.nil | refine SubE.cons _ _ _ rfl ?_)) (less_pre _ _)
  cases h1
  case true =>
    repeat (first | refine JL.q (by first | (apply OQ.eqB (b := 0); exact rfl; exact rfl; exact hh0) | (apply OQ.assign; exact rfl)) rfl ?_ | refine JL.nil ?_ | refine JE.next ?_)
    refine JC.cond_false rfl rfl ?_
    repeat (first | refine JL.q (by first | (apply OQ.eqB (b := 1); exact rfl; exact rfl; exact hh1) | (apply OQ.assign; exact rfl)) rfl ?_ | refine JC.region ?_ | refine JL.nil ?_ | refine JE.next ?_)
    refine JC.cond_true rfl rfl ?_
    have hnle := R.next_le k.r inF
    have hkle := k.r.le
    repeat (first | refine JL.q (by first | (apply OQ.load; exact bxSl; exact rfl; exact hHc; exact hc4) | (apply OQ.move; exact rfl) | (apply OQ.fld; exact rfl; exact rfl; exact rfl; exact (by decide); exact rfl)) rfl ?_ | refine JC.seq ?_ | refine JC.region ?_)
    refine JL.bdeliver (f := inF) (s := c.s) k (by omega) (by decide) (by omega) hTA (fun w' hw' => ⟨hcs.holds hw' rfl, away_old hw' x.wr hcs⟩) rfl rfl rfl rfl fun r => ?_
    obtain ⟨cd, uid, z2, recs2, vs2, R2, n2, k2, p2, o2⟩ := r
    dsimp only at k2 p2 o2 ⊢
    obtain ⟨st, o2⟩ := (o2.resolve_left fun h => by rw [inF_ok] at h; exact absurd h.1 (by decide)).2
    rcases o2 with ⟨rfl, rfl, rfl, rfl⟩ | ⟨rfl, rfl, rfl, _, _, _, _⟩
    · repeat (first | refine JL.q (by first | (apply OQ.extract; exact rfl; exact rfl) | (apply OQ.eqB (a := 0) (b := 6) (c := false); exact rfl; exact rfl; exact rfl) | (apply OQ.move; exact rfl) | (apply OQ.assign; exact rfl)) rfl ?_ | refine JC.seq ?_ | refine JC.region ?_ | refine JL.nil ?_ | refine JE.next ?_)
      refine JC.cond_false rfl rfl ?_
      repeat (first | refine JL.q (by (apply OQ.move; exact rfl)) rfl ?_ | refine JC.seq ?_ | refine JC.region ?_ | refine JC.skip ?_ | refine JE.next ?_)
      refine JL.bfetch (x := Bz.mk x.b z2) (f := inF) (u := (R.next inF : Int)) k2 (by decide) (by omega) (by omega) hTA rfl rfl rfl rfl fun r => ?_
      have hfi : (R.deliver inF c.s.l).find inF (R.next inF : Int) = some ⟨inF, R.next inF, 0, c.s.l⟩ := by rw [find_deliver k.r, if_pos ⟨rfl, rfl⟩]
      rw [hfi]
      obtain ⟨s, hs2⟩ : ∃ s, tl1 r c.s.l = s := ⟨_, rfl⟩
      have hsl : s.l = c.s.l := by rw [← hs2]; rfl
      show JL Tryz.prog _ _ _ _ _ _ ((115, .tuple #[.agg (mlC (R.next inF) 0 (tl1 r c.s.l)).toArray, N 0]) :: _) (accE 5 (some r) ((0#8 :: c.s.l).map U8) ++ _)
      rw [hs2]
      repeat (refine JL.q (by first | (apply OQ.extract; exact rfl; exact rfl) | (apply OQ.move; exact rfl)) rfl ?_)
      refine JL.alloc mlZ rfl fun b14 _ => ?_
      refine JL.store_all (cs := mlC (R.next inF) 0 s) ml3 rfl rfl rfl rfl .here rfl ?_
      have hm2 : ∀ o, Row 46 (mlC (R.next inF) 0 s) o → cellAt o 2 = some s.v := Row.cell rfl
      have hm1 : ∀ o, Row 46 (mlC (R.next inF) 0 s) o → cellAt o 1 = some (N 0) := Row.cell rfl
      have hk1 : decide ((R.next inF : Int) ≤ (last : Int)) = false := decide_eq_false (by omega)
      have hk2 : decide ((R.next inF : Int) = (R.next inF : Int)) = true := decide_eq_true rfl
      have hH9 : Has (⟨b14, Row 46 (mlC (R.next inF) 0 s), true⟩ :: (accE 5 (some r) ((0#8 :: c.s.l).map U8) ++ ((Bz.mk x.b z2).E ++ (accE 3 q (uidsV (R.list inF)) ++ [(⟨b9, Row 26 c.cs, true⟩ : Ent)])))) b9 (Row 26 c.cs) true := .there (hasR (hasR (hasR .here)))
      have hsm : ∀ {w' : World} {M' : List Ent}, Holds w [] (⟨b14, Row 46 (mlC (R.next inF) 0 s), true⟩ :: (accE 5 (some r) ((0#8 :: c.s.l).map U8) ++ M')) w' → Calls Tryz.prog 21 [s.v, c.s.v].toArray w' fun e w2 => e = .returned (.bool true) ∧ Ext w' w2 := fun {w' M'} hw' => by
        have ok1 : s.ok w' := by
          rw [← hs2]
          exact tl1_ok (M := M') (hw'.weak (.drop _ _ _ (Less.refl _)))
        have := same_any s c.s w' ok1 (hcs.holds hw' rfl) (by rw [hsl]; omega)
        rw [hsl, decide_eq_true rfl] at this
        exact this
      repeat (first | refine JL.q (by first | (apply OQ.neB (a := 0) (b := 0) (c := true); exact rfl; exact rfl; exact rfl) | (apply OQ.leqB (b := (last : Int)); exact rfl; exact rfl; exact hk1) | (apply OQ.neB (b := (R.next inF : Int)); exact rfl; exact rfl; exact hk2) | (apply OQ.load; exact bxSl; exact rfl; exact .here; exact hm2) | (apply OQ.load; exact bxSl; exact rfl; exact hH9; exact hc4) | (apply OQ.callx (vs := [s.v, c.s.v]); exact goes_same; exact rfl; exact (fun w' hw' => hsm hw')) | (apply OQ.not; exact rfl) | (apply OQ.load; exact intC; exact rfl; exact .here; exact hm1) | (apply OQ.pick_f; exact rfl; exact rfl) | (apply OQ.move; exact rfl) | (apply OQ.assign; exact rfl) | (apply OQ.fld; exact rfl; exact rfl; exact rfl; exact (by decide); exact rfl)) rfl ?_ | refine JC.seq ?_ | refine JC.region ?_ | refine JL.nil ?_ | refine JE.next ?_ | refine JL.gon rfl rfl ?_)
      refine JC.cond_false rfl rfl ?_
      repeat (first | refine JL.q (by first | (apply OQ.move; exact rfl) | (apply OQ.assign; exact rfl) | (apply OQ.addN; exact rfl; exact rfl; exact (by (try simp only []); omega))) rfl ?_ | refine JC.region ?_ | refine JC.skip ?_ | refine JL.nil ?_ | refine JE.next ?_ | refine JE.blk_normal ?_)
      refine JE.again (i := Fs.mk i x recs vs R nd last) (Fs.mk (i + 1) (Bz.mk x.b z2) recs2 vs2 (R.deliver inF c.s.l) (nd + 1) (R.next inF)) ⟨hi', rfl, k2, by dsimp only; omega, ?_, ?_, ?_⟩ (by dsimp only; omega) (by repeat (first | exact SubE.nil | refine SubE.cons _ _ _ rfl ?_)) (.drop _ _ _ (less_app _ (less_pre _ _)))
      · show (R.ms ++ [_]).length ≤ i + 1
        rw [List.length_append]
        exact Nat.add_le_add_right hms 1
      · intro m hm
        rcases List.mem_append.1 hm with hm | hm
        · exact hbl2 m hm
        · rw [List.mem_singleton] at hm
          subst hm
          exact hcl
      · show R.next inF < (R.deliver inF c.s.l).next inF
        unfold Rb.next
        rw [next_deliver, if_pos rfl]
        exact Nat.lt_succ_self _
    · repeat (first | refine JL.q (by first | (apply OQ.extract; exact rfl; exact rfl) | (apply OQ.eqB (a := 6) (b := 6) (c := true); exact rfl; exact rfl; exact rfl) | (apply OQ.move; exact rfl) | (apply OQ.assign; exact rfl)) rfl ?_ | refine JC.seq ?_ | refine JC.region ?_ | refine JL.nil ?_ | refine JE.next ?_)
      refine JC.cond_true rfl rfl ?_
      repeat (first | refine JL.q (by first | (apply OQ.neB (a := 0) (b := 0) (c := true); exact rfl; exact rfl; exact rfl) | (apply OQ.move; exact rfl)) rfl ?_ | refine JC.seq ?_ | refine JC.region ?_ | refine JL.gon rfl rfl ?_)
      try refine JL.gon rfl rfl ?_
      refine JL.blist (x := x) (f := inF) k (by decide) (by omega) rfl rfl rfl fun q3 => ?_
      obtain ⟨q3, hq3⟩ := q3
      dsimp only
      have hsi : ∀ (w' : World), (accI q3 (R.list inF)).ok w' → (accI q (R.list inF)).ok w' → Calls Tryz.prog 18 [(accI q3 (R.list inF)).v, (accI q (R.list inF)).v].toArray w' fun e w2 => e = .returned (.bool true) ∧ Ext w' w2 := fun w' h1 h2 => by
        have hle : (R.list inF).length ≤ i := by
          unfold Rb.list
          rw [List.length_map]
          exact Nat.le_trans (List.length_filter_le _ _) hms
        have := rsi_any (accI q3 (R.list inF)) (accI q (R.list inF)) w' h1 h2 (by rw [accI_l hq3, List.length_map]; omega) (by rw [accI_l hq, List.length_map]; omega)
        rw [accI_eq hq3 hq, decide_eq_true rfl] at this
        exact this
      rw [← accI_v hq3, ← accI_v hq]
      have hk2 : decide ((R.next inF : Int) = (R.next inF : Int)) = true := decide_eq_true rfl
      repeat (first | refine JL.q (by first | (apply OQ.callx (vs := [(accI q3 (R.list inF)).v, (accI q (R.list inF)).v]); exact goes_rsi; exact rfl; exact (fun w' hw' => hsi w' (accI_ok hw') (accI_ok (hw'.weak (M' := accE 3 q (uidsV (R.list inF)) ++ []) (by rw [List.append_nil]; exact less_app _ (less_app _ (less_pre _ _))))))) | (apply OQ.not; exact rfl) | (apply OQ.pick_f; exact rfl; exact rfl) | (apply OQ.move; exact rfl)) rfl ?_ | refine JL.gon rfl rfl ?_)
      try refine JL.gon rfl rfl ?_
      refine JL.perm (M' := x.E ++ (accE 3 q3 (uidsV (R.list inF)) ++ (accE 3 q (uidsV (R.list inF)) ++ [⟨b9, Row 26 c.cs, true⟩]))) ?_ (by exact List.perm_append_comm_assoc _ _ _)
      refine JL.bnext (f := inF) k (by decide) rfl rfl rfl ?_
      repeat (first | refine JL.q (by first | (apply OQ.neB (b := (R.next inF : Int)); exact rfl; exact rfl; exact hk2) | (apply OQ.pick_f; exact rfl; exact rfl) | (apply OQ.move; exact rfl)) rfl ?_ | refine JL.nil ?_ | refine JE.next ?_ | refine JL.gon rfl rfl ?_)
      refine JC.cond_false rfl rfl ?_
      repeat (first | refine JL.q (by first | (apply OQ.move; exact rfl) | (apply OQ.addN; exact rfl; exact rfl; exact (by (try simp only []); omega))) rfl ?_ | refine JC.region ?_ | refine JC.skip ?_ | refine JC.exit ?_ | refine JL.nil ?_ | refine JE.next ?_ | refine JE.blk_normal ?_ | refine JE.then_exit ?_ | refine JE.blk_hit ?_)
      exact JE.again (i := Fs.mk i x recs vs R nd last) (Fs.mk (i + 1) x recs vs R nd last) ⟨hi', rfl, k, by dsimp only; omega, by dsimp only; omega, hbl2, hlast⟩ (by dsimp only; omega) (by repeat (first | exact SubE.nil | refine SubE.cons _ _ _ rfl ?_)) (less_pre _ _)
  repeat (first | refine JL.q (by first | (apply OQ.eqB (b := 0); exact rfl; exact rfl; exact hh0) | (apply OQ.assign; exact rfl)) rfl ?_ | refine JL.nil ?_ | refine JE.next ?_)
  refine JC.cond_false rfl rfl ?_
  repeat (first | refine JL.q (by first | (apply OQ.eqB (b := 1); exact rfl; exact rfl; exact hh1) | (apply OQ.assign; exact rfl)) rfl ?_ | refine JC.region ?_ | refine JL.nil ?_ | refine JE.next ?_)
  refine JC.cond_false rfl rfl ?_
  repeat (first | refine JL.q (by first | (apply OQ.eqB (b := 2); exact rfl; exact rfl; exact hh2) | (apply OQ.assign; exact rfl)) rfl ?_ | refine JC.seq ?_ | refine JC.region ?_ | refine JL.nil ?_ | refine JE.next ?_)
  cases h2
  case true =>
    refine JC.cond_true rfl rfl ?_
    obtain ⟨L, hL⟩ : ∃ L, R.list inF = L := ⟨_, rfl⟩
    rw [hL] at hq ⊢
    have hLl : L.length ≤ i := by
      rw [← hL]
      unfold Rb.list
      rw [List.length_map]
      exact Nat.le_trans (List.length_filter_le _ _) hms
    repeat (first | refine JL.q (by first | (apply OQ.lenV (q := q) (k := L.length); exact Tryz.underlying35; exact (fun e => by rw [hq e]; rfl); exact rfl) | (apply OQ.move; exact rfl)) rfl ?_ | refine JC.seq ?_ | refine JC.region ?_ | refine JC.block ?_ | refine JL.nil ?_ | refine JE.next ?_)
    refine JC.loop (fun s : Gs => [(1, calls.v), (6, Pt x.b 0), (7, N last), (9, Pt b9 0), (41, calls.v), (42, N calls.l.length), (43, N i), (150, accV q L.length), (151, N L.length), (152, N s.i)]) (fun s => s.x.E ++ (accE 3 q (uidsV L) ++ [⟨b9, Row 26 c.cs, true⟩])) (fun s => L.length - s.i) (fun s => s.i ≤ L.length ∧ s.x.b = x.b ∧ s.x.ok s.recs s.vs s.R nd ∧ s.R.list inF = L ∧ s.R.next inF = R.next inF ∧ s.R.ms.length ≤ i ∧ ∀ m ∈ s.R.ms, m.b.length ≤ 300) ⟨0, x, recs, vs, R⟩ ⟨Nat.zero_le _, rfl, k, hL, rfl, hms, hbl2⟩ (by repeat (first | exact SubE.nil | refine SubE.cons _ _ _ rfl ?_)) (Less.refl _) ?_
    rintro ⟨i2, y, recs2, vs2, R2⟩ ⟨hi2, hyb, k2, hL2, hnx2, hms2, hbl3⟩
    dsimp only at hi2 hyb k2 hL2 hnx2 hms2 hbl3 ⊢
    repeat (first | refine JL.q (by (apply OQ.lssN; exact rfl; exact rfl)) rfl ?_ | refine JC.seq ?_ | refine JC.region ?_ | refine JL.nil ?_ | refine JE.next ?_)
    refine JC.cond rfl (fun h => ?_) (fun h => ?_)
    · have hi3 : i2 < L.length := by have := of_decide_eq_true h; omega
      clear h
      cases q with
      | none => rw [hq rfl] at hi3; cases hi3
      | some rq =>
      obtain ⟨u, hu⟩ : ∃ u, L[i2]? = some u := ⟨L[i2], List.getElem?_eq_getElem hi3⟩
      have huL : u ∈ R2.list inF := by rw [hL2]; exact List.mem_of_getElem? hu
      obtain ⟨m, hm⟩ := find_list k2.r huL
      have hul := list_lt k2.r huL
      have hul2 : u < 10000000000 := by omega
      have hzk : (uidsV L)[i2]? = some (N u) := by unfold uidsV; rw [List.getElem?_map, hu]; rfl
      have hcell0 : ∀ o, Sl.Own 3 1 (uidsV L).length rq.2 (uidsV L) o → cellAt o (0 + i2) = some (N u) := by rw [Nat.zero_add]; exact Sl.Own.cell hzk
      have hHq : Has (y.E ++ (accE 3 (some rq) (uidsV L) ++ [(⟨b9, Row 26 c.cs, true⟩ : Ent)])) rq.1 (Sl.Own 3 1 (uidsV L).length rq.2 (uidsV L)) true := hasR .here
      have hHy : Has (y.E ++ (accE 3 (some rq) (uidsV L) ++ [(⟨b9, Row 26 c.cs, true⟩ : Ent)])) b9 (Row 26 c.cs) true := hasR (hasR .here)
      have hkv : accV (some rq) L.length = .slice (some ⟨rq.1, 0, none⟩) L.length rq.2 := rfl
      have hf1 : (0 : Int) ≤ c.fl % 16 := Int.emod_nonneg _ (by decide)
      have hf2 : c.fl % 16 < 16 := Int.emod_lt_of_pos _ (by decide)
      rw [hkv, ← hyb]
      repeat (first | refine JL.q (by first | (apply OQ.idxS1 (i := i2) (b := rq.1) (j := 0); exact Tryz.underlying35; exact bxIs; exact rfl; exact rfl; exact hi3) | (apply OQ.load (v := N u); exact intC; exact rfl; exact hHq; exact hcell0) | (apply OQ.load (v := I64 c.fl); exact intC; exact rfl; exact hHy; exact hc2) | (apply OQ.andI (k := 4) (a := c.fl) (m := 15) (r := 16); exact (by decide); exact (by decide); exact (by decide); exact rfl; exact rfl) | (apply OQ.move; exact rfl) | (apply OQ.assign; exact rfl) | (apply OQ.fld; exact rfl; exact rfl; exact rfl; exact (by decide); exact rfl)) rfl ?_ | refine JC.seq ?_ | refine JC.region ?_ | refine JC.block ?_ | refine JC.skip ?_ | refine JL.nil ?_ | refine JE.next ?_)
      refine JL.bmark (x := y) (f := inF) (u := (u : Int)) (fl := c.fl % 16) k2 (by decide) (by omega) (by omega) (fun m hm => by have := hbl3 m hm; omega) hTA rfl rfl rfl rfl rfl fun r => ?_
      obtain ⟨cd, z3, recs3, vs3, R3, k3, p3, o3⟩ := r
      dsimp only at k3 p3 o3 ⊢
      have o3 := (o3.resolve_left fun h => by omega).resolve_left fun h => by rw [hm] at h; cases h.2.1
      obtain ⟨_, m2, hm2, st3, o3⟩ := o3
      have hR : (cd = 0 ∨ cd = 6) ∧ R3.list inF = L ∧ R3.next inF = R.next inF ∧ R3.ms.length ≤ i ∧ ∀ m ∈ R3.ms, m.b.length ≤ 300 := by
        rcases o3 with ⟨h1, h2⟩ | ⟨h1, _, _, _, h2⟩
        · rw [h2, list_mark]
          refine ⟨.inl h1, hL2, hnx2, by show (List.map _ _).length ≤ i; rw [List.length_map]; exact hms2, fun m hm => ?_⟩
          obtain ⟨m', hm', rfl⟩ := List.mem_map.1 hm
          rw [(setF_f _ _ _ m').2.2]
          exact hbl3 m' hm'
        · rw [h2]; exact ⟨.inr h1, hL2, hnx2, hms2, hbl3⟩
      obtain ⟨hcd, hL3, hnx3, hms3, hbl4⟩ := hR
      have hg6 : ∃ g, decide (((cd : Nat) : Int) = 0) = g ∧ (g = false → cd = 6) := ⟨_, rfl, fun h => hcd.resolve_left fun e => of_decide_eq_false h (by rw [e]; rfl)⟩
      obtain ⟨g6, hg6, hg6'⟩ := hg6
      have hgb : g6 = false → decide (((cd : Nat) : Int) = 6) = true := fun h => decide_eq_true (by rw [hg6' h]; rfl)
      cases g6
      case' false => have hg7 := hgb rfl
      case' true => have hg7 := hg6
      all_goals clear hgb hg6'
      all_goals (repeat (first | refine JL.q (by first | (apply OQ.neB (b := 0); exact rfl; exact rfl; exact hg6) | (apply OQ.neB (b := 6); exact rfl; exact rfl; exact hg7) | (apply OQ.pick_f; exact rfl; exact rfl) | (apply OQ.pick_t; exact rfl; exact rfl) | (apply OQ.move; exact rfl) | (apply OQ.assign; exact rfl)) rfl ?_ | refine JC.seq ?_ | refine JC.region ?_ | refine JL.nil ?_ | refine JE.next ?_ | refine JL.gon rfl rfl ?_ | refine JL.gskip rfl rfl rfl rfl ?_))
      all_goals refine JC.cond_false rfl rfl ?_
      all_goals (repeat (first | refine JL.q (by first | (apply OQ.move; exact rfl) | (apply OQ.addN; exact rfl; exact rfl; exact (by (try simp only []); omega))) rfl ?_ | refine JC.region ?_ | refine JC.skip ?_ | refine JL.nil ?_ | refine JE.next ?_ | refine JE.blk_normal ?_))
      all_goals rw [← hkv]
      all_goals exact JE.again (i := Gs.mk i2 y recs2 vs2 R2) (Gs.mk (i2 + 1) (Bz.mk y.b z3) recs3 vs3 R3) ⟨hi3, rfl, k3, hL3, hnx3, hms3, hbl4⟩ (by dsimp only; omega) (by repeat (first | exact SubE.nil | refine SubE.cons _ _ _ rfl ?_)) (Less.refl _)
    · repeat (first | refine JL.q (by first | (apply OQ.move; exact rfl) | (apply OQ.addN; exact rfl; exact rfl; exact (by (try simp only []); omega))) rfl ?_ | refine JC.region ?_ | refine JC.exit ?_ | refine JL.nil ?_ | refine JE.next ?_ | refine JE.blk_normal ?_ | refine JE.then_exit ?_ | refine JE.blk_hit ?_)
      exact JE.again (i := Fs.mk i x recs vs R nd last) (Fs.mk (i + 1) y recs2 vs2 R2 nd last) ⟨hi', hyb, k2, by dsimp only; omega, by dsimp only; omega, hbl3, by dsimp only; rw [hnx2]; exact hlast⟩ (by dsimp only; omega) (by repeat (first | exact SubE.nil | refine SubE.cons _ _ _ rfl ?_)) (less_pre _ _)
  refine JC.cond_false rfl rfl ?_
  repeat (first | refine JL.q (by (apply OQ.move; exact rfl)) rfl ?_ | refine JC.seq ?_ | refine JC.region ?_)
  refine JL.bexp (f := inF) k (by decide) (by omega) hTA rfl rfl rfl fun r => ?_
  obtain ⟨cd, qe, le, hqe, z2, recs2, vs2, R2, k2, p2, o2⟩ := r
  dsimp only at hqe k2 p2 o2 ⊢
  have hR : (cd = 0 ∨ cd = 6) ∧ (R2.list inF).length + le.length = (R.list inF).length ∧ R2.next inF = R.next inF ∧ R2.ms.length ≤ R.ms.length ∧ ∀ m ∈ R2.ms, m ∈ R.ms := by
    rcases o2 with ⟨_, h1, h2, _, _, _, h6⟩ | ⟨_, _, ⟨h1, h2, h3⟩ | ⟨h1, h2, _, _, _, h6⟩⟩
    · rw [h2, h6]; exact ⟨.inl h1, rfl, rfl, Nat.le_refl _, fun m h => h⟩
    · rw [h2, h3]; exact ⟨.inl h1, exp_len R inF, rfl, List.length_filter_le _ _, fun m h => (List.mem_filter.1 h).1⟩
    · rw [h2, h6]; exact ⟨.inr h1, rfl, rfl, Nat.le_refl _, fun m h => h⟩
  obtain ⟨hcd, hlen2, hnx2, hms2, hin2⟩ := hR
  have hLl : (R.list inF).length ≤ i := by
    unfold Rb.list
    rw [List.length_map]
    exact Nat.le_trans (List.length_filter_le _ _) hms
  have hk3 : decide ((((R2.list inF).length : Nat) : Int) = (((R.list inF).length : Nat) : Int) - ((le.length : Nat) : Int)) = true := decide_eq_true (by omega)
  have hk2 : decide ((R2.next inF : Int) = (R.next inF : Int)) = true := decide_eq_true (by rw [hnx2])
  have hg6 : ∃ g, decide (((cd : Nat) : Int) = 0) = g ∧ (g = false → cd = 6) := ⟨_, rfl, fun h => hcd.resolve_left fun e => of_decide_eq_false h (by rw [e]; rfl)⟩
  obtain ⟨g6, hg6, hg6'⟩ := hg6
  have hgb : g6 = false → decide (((cd : Nat) : Int) = 6) = true := fun h => decide_eq_true (by rw [hg6' h]; rfl)
  cases g6
  case' false => have hg7 := hgb rfl
  case' true => have hg7 := hg6
  all_goals clear hgb hg6'
  all_goals (repeat (first | refine JL.q (by first | (apply OQ.extract; exact rfl; exact rfl) | (apply OQ.neB (b := 0); exact rfl; exact rfl; exact hg6) | (apply OQ.neB (b := 6); exact rfl; exact rfl; exact hg7) | (apply OQ.pick_f; exact rfl; exact rfl) | (apply OQ.pick_t; exact rfl; exact rfl) | (apply OQ.move; exact rfl) | (apply OQ.assign; exact rfl)) rfl ?_ | refine JC.seq ?_ | refine JC.region ?_ | refine JL.nil ?_ | refine JE.next ?_ | refine JL.gon rfl rfl ?_ | refine JL.gskip rfl rfl rfl rfl ?_))
  all_goals (try refine JL.gon rfl rfl ?_)
  all_goals refine JL.perm (M' := (Bz.mk x.b z2).E ++ (accE 3 qe (uidsV le) ++ (accE 3 q (uidsV (R.list inF)) ++ [⟨b9, Row 26 c.cs, true⟩]))) ?_ (by exact List.perm_append_comm_assoc _ _ _)
  all_goals refine JL.blist (x := Bz.mk x.b z2) (f := inF) k2 (by decide) (by omega) rfl rfl rfl fun q4 => ?_
  all_goals obtain ⟨q4, hq4⟩ := q4
  all_goals dsimp only
  all_goals (repeat (first | refine JL.q (by first | (apply OQ.lenV (q := q4) (k := (R2.list inF).length); exact Tryz.underlying35; exact (fun e => by rw [hq4 e]; rfl); exact rfl) | (apply OQ.lenV (q := q) (k := (R.list inF).length); exact Tryz.underlying35; exact (fun e => by rw [hq e]; rfl); exact rfl) | (apply OQ.lenV (q := qe) (k := le.length); exact Tryz.underlying35; exact (fun e => by rw [hqe e]; rfl); exact rfl) | (apply OQ.subI (a := (((R.list inF).length : Nat) : Int)) (b := ((le.length : Nat) : Int)); exact rfl; exact rfl; exact (by omega); exact (by omega)) | (apply OQ.neB (a := (((R2.list inF).length : Nat) : Int)) (b := (((R.list inF).length : Nat) : Int) - ((le.length : Nat) : Int)); exact rfl; exact rfl; exact hk3) | (apply OQ.pick_f; exact rfl; exact rfl) | (apply OQ.move; exact rfl)) rfl ?_ | refine JL.gon rfl rfl ?_))
  all_goals (try refine JL.gon rfl rfl ?_)
  all_goals refine JL.perm (M' := (Bz.mk x.b z2).E ++ (accE 3 q4 (uidsV (R2.list inF)) ++ (accE 3 qe (uidsV le) ++ (accE 3 q (uidsV (R.list inF)) ++ [⟨b9, Row 26 c.cs, true⟩])))) ?_ (by exact List.perm_append_comm_assoc _ _ _)
  all_goals refine JL.bnext (x := Bz.mk x.b z2) (f := inF) k2 (by decide) rfl rfl rfl ?_
  all_goals (repeat (first | refine JL.q (by first | (apply OQ.neB (b := (R.next inF : Int)); exact rfl; exact rfl; exact hk2) | (apply OQ.pick_f; exact rfl; exact rfl) | (apply OQ.move; exact rfl)) rfl ?_ | refine JL.nil ?_ | refine JE.next ?_ | refine JL.gon rfl rfl ?_))
  all_goals refine JC.cond_false rfl rfl ?_
  all_goals (repeat (first | refine JL.q (by first | (apply OQ.move; exact rfl) | (apply OQ.addN; exact rfl; exact rfl; exact (by (try simp only []); omega))) rfl ?_ | refine JC.region ?_ | refine JC.skip ?_ | refine JL.nil ?_ | refine JE.next ?_ | refine JE.blk_normal ?_))
  all_goals exact JE.again (i := Fs.mk i x recs vs R nd last) (Fs.mk (i + 1) (Bz.mk x.b z2) recs2 vs2 R2 nd last) ⟨hi', rfl, k2, by dsimp only; omega, by dsimp only; omega, fun m hm => hbl2 m (hin2 m hm), by dsimp only; rw [hnx2]; exact hlast⟩ (by dsimp only; omega) (by repeat (first | exact SubE.nil | refine SubE.cons _ _ _ rfl ?_)) (less_pre _ _)
end Go.Proofs.YtjkncnbpaejamaaGreatDoor
