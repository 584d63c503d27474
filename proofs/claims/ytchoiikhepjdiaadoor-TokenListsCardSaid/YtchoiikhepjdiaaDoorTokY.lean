/-
  Of no statement by itself: what despatchlaw10's TokenLists gives, over what token's functions owe (TokenOk).
  Conditions: TokenOk, and the theorem's own.
-/
import Derived.Test.YtchoiikhepjdiaaDoorBf
namespace Go.Proofs.YtchoiikhepjdiaaDoor
set_option maxRecDepth 10000
open Sl Fld Tok
theorem OQ.idxSk {P : Program} {n : Nat} {E : Env} {C : World → Prop} {dst : Option Tmp} {t ty e : TypeId} {pos : String} {aft : Array Edge} {g : Option (Nat × Bool)} {x y : Operand} {len cap b j i : Nat} {k : IntKind} (hu : P.underlying t = some (.slice e)) (hz : szT P e = some 1) (hx : ev E x = some (.slice (some ⟨b, j, none⟩) len cap)) (hy : ev E y = some (.int k (i : Int))) (hi : i < len) :
    OQ P n E C ⟨dst, .indexAddr t x y, ty, pos, aft, g⟩ (.pointer (some ⟨b, j + i, none⟩)) :=
  OQ.run fun a ha w _ => by
    have h1 := ha.eval hx
    have h2 := ha.eval hy
    have h3 : (underlying t).run P w = .ok (.slice e) w := run_underlying hu w
    simp [execOp, h1, h2, Instr.indexAt, asIntOf, Sem.run_bind, h3, hi, sizeOf_run hz, add_off]
/-- ids, each with which blanks stand ahead -/
def ps (l : List (List Fld.By)) (b : List Fld.By) (i : Nat) : List (List Fld.By × Nat) := (List.range i).map fun j => (l.getD j [], (b.getD (j % b.length) 0 &&& 3).toNat)
theorem ps_succ (l : List (List Fld.By)) (b : List Fld.By) (i : Nat) : ps l b (i + 1) = ps l b i ++ [(l.getD i [], (b.getD (i % b.length) 0 &&& 3).toNat)] := by
  unfold ps
  rw [List.range_succ, List.map_append]
  rfl
theorem ps_fst (l : List (List Fld.By)) (b : List Fld.By) : (ps l b l.length).map (·.1) = l := by
  unfold ps
  rw [List.map_map]
  apply List.ext_getElem
  · simp
  · intro i h1 h2
    simp [List.getD_eq_getElem?_getD, h2]
theorem text_succ (a : List (List Fld.By × Nat)) (p : List Fld.By × Nat) : textB (a ++ [p]) = textB a ++ (gap p.2 ++ [60] ++ p.1 ++ [62]) := by
  unfold textB
  rw [List.flatMap_append]
  simp
theorem gap_len (k : Nat) : (gap k).length ≤ 10 := by
  match k with
  | 0 => decide
  | 1 => decide
  | 2 => decide
  | 3 => decide
  | k + 4 => show ([] : List Fld.By).length ≤ 10; decide
theorem and3 (c : Fld.By) : (c &&& 3).toNat < 4 := by
  have h : ∀ c : Fin 256, (BitVec.ofNat 8 c.val &&& 3).toNat < 4 := by decide +kernel
  simpa using h ⟨c.toNat, c.isLt⟩
def gapV : List Value := [Z [], Z [32], Z [9, 40, 120, 41], Z [40, 97, 32, 40, 98, 41, 32, 99, 41, 32]]
theorem gapV_at {k : Nat} (h : k < 4) : gapV[0 + k]? = some (Z (gap k)) := by
  match k, h with
  | 0, _ => rfl
  | 1, _ => rfl
  | 2, _ => rfl
  | 3, _ => rfl
theorem addrS_len (u : List Fld.By) : (addrS u).1.length ≤ u.length := by
  unfold addrS
  split
  · simp
  · rw [List.length_append, List.length_map, List.length_take, List.length_drop]; omega
theorem addrB_len (s : List Fld.By) : (addrB s).1.length ≤ s.length := by
  unfold addrB
  have hb := bareB_len s
  split
  · have h1 := trim_short (bareB s).1
    generalize trim (bareB s).1 = t at h1
    unfold addrT
    split
    · split
      · have h2 := addrS_len (trim (ang t.dropLast))
        have h3 := trim_short (ang t.dropLast)
        have h4 : (ang t.dropLast).length ≤ t.dropLast.length := by
          unfold ang
          rw [List.length_reverse]
          have := (List.takeWhile_sublist (fun d : Fld.By => !(d == 60)) (l := t.dropLast.reverse)).length_le
          rwa [List.length_reverse] at this
        rw [List.length_dropLast] at h4
        omega
      · simp
    · have := addrS_len t
      omega
  · simp
set_option maxHeartbeats 64000000 in
theorem law_tokenLists (hT : TokenOk) (d : SlZ) (bs : Sl8) (s : List Bt) (w : World) (hd : d.ok w) (hb : bs.ok w) : Calls Tryd.prog 11 [d.v, bs.v, Z s].toArray w fun e w' => e = .returned (.bool true) ∧ Ext w w' := by
  refine enter (n := 168) Tryd.func11 rfl rfl rfl (Holds.start w []) ?_
  have cs := fun w' => speaks10_any hT w'
  repeat (first | refine JL.q (by first | (apply OQ.callx (vs := []); exact goes_speaks10; exact rfl; exact (fun w' _ => cs w')) | (apply OQ.not; exact rfl) | (apply OQ.move; exact rfl) | (apply OQ.assign; exact rfl) | (apply OQ.len; exact rfl; exact rfl) | (apply OQ.addN; exact rfl; exact rfl; exact (by (try simp only []); omega)) | (apply OQ.remN; exact rfl; exact rfl; exact (by (try simp only []); omega)) | (apply OQ.lssN; exact rfl; exact rfl)) rfl ?_ | refine JC.seq ?_ | refine JC.region ?_ | refine JC.block ?_ | refine JC.skip ?_ | refine JC.exit ?_ | refine JL.nil ?_ | refine JE.next ?_ | refine JE.blk_normal ?_ | refine JE.then_exit ?_ | refine JE.blk_hit ?_ | refine JE.blk_miss rfl ?_ | refine JE.then_ret ?_ | refine JE.blk_ret ?_ | refine JC.label ?_ | refine JL.gon rfl rfl ?_ | refine JL.gskip rfl rfl rfl rfl ?_ | refine JL.gskipU rfl rfl rfl rfl ?_)
  refine JC.cond rfl (fun h => by cases h) (fun _ => ?_)
  cases g0 : decide ((20 : Int) < (d.l.length : Int)) <;> cases g1 : decide ((500 : Int) < (s.length : Int)) <;> cases g2 : decide ((bs.l.length : Int) = 0)
  all_goals (repeat (first | refine JL.q (by first | (apply OQ.lenS; exact Tryd.underlying9; exact rfl) | (apply OQ.len; exact Tryd.underlying48; exact rfl) | (apply OQ.gtrB (b := 20); exact rfl; exact rfl; exact g0) | (apply OQ.gtrB (b := 500); exact rfl; exact rfl; exact g1) | (apply OQ.eqB (b := 0); exact rfl; exact rfl; exact g2) | (apply OQ.pick_t; exact rfl; exact rfl) | (apply OQ.pick_f; exact rfl; exact rfl) | (apply OQ.move; exact rfl) | (apply OQ.assign; exact rfl) | (apply OQ.len; exact rfl; exact rfl) | (apply OQ.addN; exact rfl; exact rfl; exact (by (try simp only []); omega)) | (apply OQ.remN; exact rfl; exact rfl; exact (by (try simp only []); omega)) | (apply OQ.lssN; exact rfl; exact rfl)) rfl ?_ | refine JC.seq ?_ | refine JC.region ?_ | refine JC.block ?_ | refine JC.skip ?_ | refine JC.exit ?_ | refine JL.nil ?_ | refine JE.next ?_ | refine JE.blk_normal ?_ | refine JE.then_exit ?_ | refine JE.blk_hit ?_ | refine JE.blk_miss rfl ?_ | refine JE.then_ret ?_ | refine JE.blk_ret ?_ | refine JC.label ?_ | refine JL.gon rfl rfl ?_ | refine JL.gskip rfl rfl rfl rfl ?_ | refine JL.gskipU rfl rfl rfl rfl ?_))
  all_goals refine JC.cond rfl (fun h => ?_) (fun h => ?_)
  all_goals first | (exfalso; revert h; decide) | skip
  all_goals clear h
  all_goals first
    | ((repeat (first | refine JL.q (by first | (apply OQ.move; exact rfl) | (apply OQ.assign; exact rfl) | (apply OQ.len; exact rfl; exact rfl) | (apply OQ.addN; exact rfl; exact rfl; exact (by (try simp only []); omega)) | (apply OQ.remN; exact rfl; exact rfl; exact (by (try simp only []); omega)) | (apply OQ.lssN; exact rfl; exact rfl)) rfl ?_ | refine JC.seq ?_ | refine JC.region ?_ | refine JC.block ?_ | refine JC.skip ?_ | refine JC.exit ?_ | refine JL.nil ?_ | refine JE.next ?_ | refine JE.blk_normal ?_ | refine JE.then_exit ?_ | refine JE.blk_hit ?_ | refine JE.blk_miss rfl ?_ | refine JE.then_ret ?_ | refine JE.blk_ret ?_ | refine JC.label ?_ | refine JL.gon rfl rfl ?_ | refine JL.gskip rfl rfl rfl rfl ?_ | refine JL.gskipU rfl rfl rfl rfl ?_))
       refine JC.ret ?_
       (repeat (first | refine JL.q (by first | (apply OQ.move; exact rfl) | (apply OQ.assign; exact rfl) | (apply OQ.len; exact rfl; exact rfl) | (apply OQ.addN; exact rfl; exact rfl; exact (by (try simp only []); omega)) | (apply OQ.remN; exact rfl; exact rfl; exact (by (try simp only []); omega)) | (apply OQ.lssN; exact rfl; exact rfl)) rfl ?_ | refine JC.seq ?_ | refine JC.region ?_ | refine JC.block ?_ | refine JC.skip ?_ | refine JC.exit ?_ | refine JL.nil ?_ | refine JE.next ?_ | refine JE.blk_normal ?_ | refine JE.then_exit ?_ | refine JE.blk_hit ?_ | refine JE.blk_miss rfl ?_ | refine JE.then_ret ?_ | refine JE.blk_ret ?_ | refine JC.label ?_ | refine JL.gon rfl rfl ?_ | refine JL.gskip rfl rfl rfl rfl ?_ | refine JL.gskipU rfl rfl rfl rfl ?_))
       exact JE.ret1 rfl (RV.tmp rfl) fun w' hw => ⟨rfl, hw.chg⟩)
    | skip
  have hdl : d.l.length ≤ 20 := by have := of_decide_eq_false g0; omega
  have hsl : s.length ≤ 500 := by have := of_decide_eq_false g1; omega
  have hbl : 0 < bs.l.length := by have := of_decide_eq_false g2; omega
  repeat (first | refine JL.q (by first | (apply OQ.len; exact Tryd.underlying48; exact rfl) | (apply OQ.move; exact rfl) | (apply OQ.assign; exact rfl) | (apply OQ.len; exact rfl; exact rfl) | (apply OQ.addN; exact rfl; exact rfl; exact (by (try simp only []); omega)) | (apply OQ.remN; exact rfl; exact rfl; exact (by (try simp only []); omega)) | (apply OQ.lssN; exact rfl; exact rfl)) rfl ?_ | refine JC.seq ?_ | refine JC.region ?_ | refine JC.block ?_ | refine JC.skip ?_ | refine JC.exit ?_ | refine JL.nil ?_ | refine JE.next ?_ | refine JE.blk_normal ?_ | refine JE.then_exit ?_ | refine JE.blk_hit ?_ | refine JE.blk_miss rfl ?_ | refine JE.then_ret ?_ | refine JE.blk_ret ?_ | refine JC.label ?_ | refine JL.gon rfl rfl ?_ | refine JL.gskip rfl rfl rfl rfl ?_ | refine JL.gskipU rfl rfl rfl rfl ?_)
  refine JC.joinB (ι := Unit) (fun _ => [(0, d.v), (2, Z s), (7, Z (textB (ps d.l bs.l d.l.length)))]) (fun _ => []) (fun _ => ∀ x ∈ d.l, 0 < x.length ∧ x.length ≤ 200 ∧ ∀ c ∈ x, idok c = true) ?_ ?_
  · refine JC.loop (fun i : Nat => [(0, d.v), (1, bs.v), (2, Z s), (7, Z (textB (ps d.l bs.l i))), (33, d.v), (34, N d.l.length), (35, N i)]) (fun _ => []) (fun i => d.l.length - i)
      (fun i => i ≤ d.l.length ∧ (textB (ps d.l bs.l i)).length ≤ 212 * i ∧ ∀ j, j < i → 0 < (d.l.getD j []).length ∧ (d.l.getD j []).length ≤ 200 ∧ ∀ c ∈ d.l.getD j [], idok c = true) 0 ⟨Nat.zero_le _, Nat.le_refl _, fun j h => by omega⟩ (by repeat (first | exact SubE.nil | refine SubE.cons _ _ _ rfl ?_)) (Less.refl _) ?_
    rintro i ⟨hi, htl, hsh⟩
    repeat (first | refine JL.q (by first | (apply OQ.move; exact rfl) | (apply OQ.assign; exact rfl) | (apply OQ.len; exact rfl; exact rfl) | (apply OQ.addN; exact rfl; exact rfl; exact (by (try simp only []); omega)) | (apply OQ.remN; exact rfl; exact rfl; exact (by (try simp only []); omega)) | (apply OQ.lssN; exact rfl; exact rfl)) rfl ?_ | refine JC.seq ?_ | refine JC.region ?_ | refine JC.block ?_ | refine JC.skip ?_ | refine JC.exit ?_ | refine JL.nil ?_ | refine JE.next ?_ | refine JE.blk_normal ?_ | refine JE.then_exit ?_ | refine JE.blk_hit ?_ | refine JE.blk_miss rfl ?_ | refine JE.then_ret ?_ | refine JE.blk_ret ?_ | refine JC.label ?_ | refine JL.gon rfl rfl ?_ | refine JL.gskip rfl rfl rfl rfl ?_ | refine JL.gskipU rfl rfl rfl rfl ?_)
    refine JC.cond rfl (fun h => ?_) (fun h => ?_)
    · have hi' : i < d.l.length := of_decide_eq_true h
      clear h hi
      obtain ⟨bx, jx, eX, lx, cx⟩ := hd.at (show 0 < d.l.length by omega)
      have cxi := cx i hi'
      have vD : d.v = .slice (some ⟨bx, jx, none⟩) d.l.length d.cap := by rw [← eX]; rfl
      have him : i % bs.l.length < bs.l.length := Nat.mod_lt _ hbl
      obtain ⟨bb, jb, hbe, hbc⟩ := hb.reads.at (by simp; omega)
      have hcb := hbc (i % bs.l.length) _ (map_at U8 0 him)
      have vB : bs.v = .slice (some ⟨bb, jb, none⟩) bs.l.length bs.cap := by rw [← hbe]; rfl
      have hsucc := ps_succ d.l bs.l i
      have hts := text_succ (ps d.l bs.l i) (d.l.getD i [], (bs.l.getD (i % bs.l.length) 0 &&& 3).toNat)
      rw [← hsucc] at hts
      have hk4 := and3 (bs.l.getD (i % bs.l.length) 0)
      have hnext : 0 < (d.l.getD i []).length → (d.l.getD i []).length ≤ 200 → (∀ c ∈ d.l.getD i [], idok c = true) → ∀ j, j < i + 1 → 0 < (d.l.getD j []).length ∧ (d.l.getD j []).length ≤ 200 ∧ ∀ c ∈ d.l.getD j [], idok c = true := by
        intro h1 h2 h3 j hj
        by_cases e : j = i
        · rw [e]; exact ⟨h1, h2, h3⟩
        · exact hsh j (by omega)
      dsimp only at hts
      generalize textB (ps d.l bs.l i) = T at htl hts ⊢
      generalize bs.l.getD (i % bs.l.length) 0 = bc at hcb hts hk4
      generalize d.l.getD i [] = x at cxi hts hnext
      cases k1 : decide ((x.length : Int) = 0) <;> cases k2 : decide ((200 : Int) < (x.length : Int))
      all_goals (repeat (first | refine JL.q (by first | (apply OQ.idxS1; exact Tryd.underlying48; exact strS; exact (congrArg some vD); exact rfl; exact hi') | (apply OQ.load_old; exact strC; exact rfl; exact lx; exact (by simp); exact cxi) | (apply OQ.lenS; exact Tryd.underlying9; exact rfl) | (apply OQ.eqB (b := 0); exact rfl; exact rfl; exact k1) | (apply OQ.gtrB (b := 200); exact rfl; exact rfl; exact k2) | (apply OQ.pick_t; exact rfl; exact rfl) | (apply OQ.pick_f; exact rfl; exact rfl) | (apply OQ.move; exact rfl) | (apply OQ.assign; exact rfl) | (apply OQ.len; exact rfl; exact rfl) | (apply OQ.addN; exact rfl; exact rfl; exact (by (try simp only []); omega)) | (apply OQ.remN; exact rfl; exact rfl; exact (by (try simp only []); omega)) | (apply OQ.lssN; exact rfl; exact rfl)) rfl ?_ | refine JC.seq ?_ | refine JC.region ?_ | refine JC.block ?_ | refine JC.skip ?_ | refine JC.exit ?_ | refine JL.nil ?_ | refine JE.next ?_ | refine JE.blk_normal ?_ | refine JE.then_exit ?_ | refine JE.blk_hit ?_ | refine JE.blk_miss rfl ?_ | refine JE.then_ret ?_ | refine JE.blk_ret ?_ | refine JC.label ?_ | refine JL.gon rfl rfl ?_ | refine JL.gskip rfl rfl rfl rfl ?_ | refine JL.gskipU rfl rfl rfl rfl ?_))
      all_goals refine JC.cond rfl (fun h => ?_) (fun h => ?_)
      all_goals first | (exfalso; revert h; decide) | skip
      all_goals clear h
      all_goals first
        | ((repeat (first | refine JL.q (by first | (apply OQ.move; exact rfl) | (apply OQ.assign; exact rfl) | (apply OQ.len; exact rfl; exact rfl) | (apply OQ.addN; exact rfl; exact rfl; exact (by (try simp only []); omega)) | (apply OQ.remN; exact rfl; exact rfl; exact (by (try simp only []); omega)) | (apply OQ.lssN; exact rfl; exact rfl)) rfl ?_ | refine JC.seq ?_ | refine JC.region ?_ | refine JC.block ?_ | refine JC.skip ?_ | refine JC.exit ?_ | refine JL.nil ?_ | refine JE.next ?_ | refine JE.blk_normal ?_ | refine JE.then_exit ?_ | refine JE.blk_hit ?_ | refine JE.blk_miss rfl ?_ | refine JE.then_ret ?_ | refine JE.blk_ret ?_ | refine JC.label ?_ | refine JL.gon rfl rfl ?_ | refine JL.gskip rfl rfl rfl rfl ?_ | refine JL.gskipU rfl rfl rfl rfl ?_))
           refine JC.ret ?_
           (repeat (first | refine JL.q (by first | (apply OQ.move; exact rfl) | (apply OQ.assign; exact rfl) | (apply OQ.len; exact rfl; exact rfl) | (apply OQ.addN; exact rfl; exact rfl; exact (by (try simp only []); omega)) | (apply OQ.remN; exact rfl; exact rfl; exact (by (try simp only []); omega)) | (apply OQ.lssN; exact rfl; exact rfl)) rfl ?_ | refine JC.seq ?_ | refine JC.region ?_ | refine JC.block ?_ | refine JC.skip ?_ | refine JC.exit ?_ | refine JL.nil ?_ | refine JE.next ?_ | refine JE.blk_normal ?_ | refine JE.then_exit ?_ | refine JE.blk_hit ?_ | refine JE.blk_miss rfl ?_ | refine JE.then_ret ?_ | refine JE.blk_ret ?_ | refine JC.label ?_ | refine JL.gon rfl rfl ?_ | refine JL.gskip rfl rfl rfl rfl ?_ | refine JL.gskipU rfl rfl rfl rfl ?_))
           exact JE.ret1 rfl (RV.tmp rfl) fun w' hw => ⟨rfl, hw.chg⟩)
        | skip
      have hx0 : 0 < x.length := by have := of_decide_eq_false k1; omega
      have hx2 : x.length ≤ 200 := by have := of_decide_eq_false k2; omega
      repeat (first | refine JL.q (by first | (apply OQ.move; exact rfl) | (apply OQ.assign; exact rfl) | (apply OQ.len; exact rfl; exact rfl) | (apply OQ.addN; exact rfl; exact rfl; exact (by (try simp only []); omega)) | (apply OQ.remN; exact rfl; exact rfl; exact (by (try simp only []); omega)) | (apply OQ.lssN; exact rfl; exact rfl)) rfl ?_ | refine JC.seq ?_ | refine JC.region ?_ | refine JC.block ?_ | refine JC.skip ?_ | refine JC.exit ?_ | refine JL.nil ?_ | refine JE.next ?_ | refine JE.blk_normal ?_ | refine JE.then_exit ?_ | refine JE.blk_hit ?_ | refine JE.blk_miss rfl ?_ | refine JE.then_ret ?_ | refine JE.blk_ret ?_ | refine JC.label ?_ | refine JL.gon rfl rfl ?_ | refine JL.gskip rfl rfl rfl rfl ?_ | refine JL.gskipU rfl rfl rfl rfl ?_)
      refine JC.joinB (ι := Unit) (fun _ => [(0, d.v), (1, bs.v), (2, Z s), (7, Z T), (8, N i), (9, Z x), (33, d.v), (34, N d.l.length), (35, N i)]) (fun _ => []) (fun _ => ∀ c ∈ x, idok c = true) ?_ ?_
      · refine JC.loop (fun j : Nat => [(0, d.v), (1, bs.v), (2, Z s), (7, Z T), (8, N i), (9, Z x), (10, N j), (33, d.v), (34, N d.l.length), (35, N i)]) (fun _ => []) (fun j => x.length - j) (fun j => j ≤ x.length ∧ ∀ m, m < j → idok (x.getD m 0) = true) 0 ⟨Nat.zero_le _, fun m h => by omega⟩ (by repeat (first | exact SubE.nil | refine SubE.cons _ _ _ rfl ?_)) (Less.refl _) ?_
        rintro j ⟨hj, hok⟩
        repeat (first | refine JL.q (by first | (apply OQ.lenS; exact Tryd.underlying9; exact rfl) | (apply OQ.move; exact rfl) | (apply OQ.assign; exact rfl) | (apply OQ.len; exact rfl; exact rfl) | (apply OQ.addN; exact rfl; exact rfl; exact (by (try simp only []); omega)) | (apply OQ.remN; exact rfl; exact rfl; exact (by (try simp only []); omega)) | (apply OQ.lssN; exact rfl; exact rfl)) rfl ?_ | refine JC.seq ?_ | refine JC.region ?_ | refine JC.block ?_ | refine JC.skip ?_ | refine JC.exit ?_ | refine JL.nil ?_ | refine JE.next ?_ | refine JE.blk_normal ?_ | refine JE.then_exit ?_ | refine JE.blk_hit ?_ | refine JE.blk_miss rfl ?_ | refine JE.then_ret ?_ | refine JE.blk_ret ?_ | refine JC.label ?_ | refine JL.gon rfl rfl ?_ | refine JL.gskip rfl rfl rfl rfl ?_ | refine JL.gskipU rfl rfl rfl rfl ?_)
        refine JC.cond rfl (fun h => ?_) (fun h => ?_)
        · have hj' : j < x.length := of_decide_eq_true h
          clear h hj
          have hidx := fun {n : Nat} {E : Env} {C : World → Prop} {dst : Option Tmp} {ty : TypeId} {pos : String} {aft : Array Edge} {g : Option (Nat × Bool)} {x y : Operand} => idxAt10 hj' (n := n) (E := E) (C := C) (dst := dst) (ty := ty) (pos := pos) (aft := aft) (g := g) (x := x) (y := y)
          have hnx : idok (x.getD j 0) = true → ∀ m, m < j + 1 → idok (x.getD m 0) = true := by
            intro h m hm
            by_cases e : m = j
            · rw [e]; exact h
            · exact hok m (by omega)
          generalize x.getD j 0 = c at hidx hnx
          cases q1 : decide ((c.toNat : Int) < 33)
          focus cases q2 : decide ((126 : Int) < (c.toNat : Int))
          focus cases q3 : decide ((c.toNat : Int) = 60)
          focus cases q4 : decide ((c.toNat : Int) = 62)
          focus cases q5 : decide ((c.toNat : Int) = 40)
          focus cases q6 : decide ((c.toNat : Int) = 41)
          focus cases q7 : decide ((c.toNat : Int) = 34)
          focus cases q8 : decide ((c.toNat : Int) = 92)
          all_goals (repeat (first | refine JL.q (by first | (apply hidx; exact rfl; exact rfl) | (apply OQ.lssB (b := 33); exact rfl; exact rfl; exact q1) | (apply OQ.gtrB (b := 126); exact rfl; exact rfl; exact q2) | (apply OQ.eqB (b := 60); exact rfl; exact rfl; exact q3) | (apply OQ.eqB (b := 62); exact rfl; exact rfl; exact q4) | (apply OQ.eqB (b := 40); exact rfl; exact rfl; exact q5) | (apply OQ.eqB (b := 41); exact rfl; exact rfl; exact q6) | (apply OQ.eqB (b := 34); exact rfl; exact rfl; exact q7) | (apply OQ.eqB (b := 92); exact rfl; exact rfl; exact q8) | (apply OQ.pick_t; exact rfl; exact rfl) | (apply OQ.pick_f; exact rfl; exact rfl) | (apply OQ.move; exact rfl) | (apply OQ.assign; exact rfl) | (apply OQ.len; exact rfl; exact rfl) | (apply OQ.addN; exact rfl; exact rfl; exact (by (try simp only []); omega)) | (apply OQ.remN; exact rfl; exact rfl; exact (by (try simp only []); omega)) | (apply OQ.lssN; exact rfl; exact rfl)) rfl ?_ | refine JC.seq ?_ | refine JC.region ?_ | refine JC.block ?_ | refine JC.skip ?_ | refine JC.exit ?_ | refine JL.nil ?_ | refine JE.next ?_ | refine JE.blk_normal ?_ | refine JE.then_exit ?_ | refine JE.blk_hit ?_ | refine JE.blk_miss rfl ?_ | refine JE.then_ret ?_ | refine JE.blk_ret ?_ | refine JC.label ?_ | refine JL.gon rfl rfl ?_ | refine JL.gskip rfl rfl rfl rfl ?_ | refine JL.gskipU rfl rfl rfl rfl ?_))
          all_goals refine JC.cond rfl (fun h => ?_) (fun h => ?_)
          all_goals first | (exfalso; revert h; decide) | skip
          all_goals clear h
          all_goals first
            | ((repeat (first | refine JL.q (by first | (apply OQ.move; exact rfl) | (apply OQ.assign; exact rfl) | (apply OQ.len; exact rfl; exact rfl) | (apply OQ.addN; exact rfl; exact rfl; exact (by (try simp only []); omega)) | (apply OQ.remN; exact rfl; exact rfl; exact (by (try simp only []); omega)) | (apply OQ.lssN; exact rfl; exact rfl)) rfl ?_ | refine JC.seq ?_ | refine JC.region ?_ | refine JC.block ?_ | refine JC.skip ?_ | refine JC.exit ?_ | refine JL.nil ?_ | refine JE.next ?_ | refine JE.blk_normal ?_ | refine JE.then_exit ?_ | refine JE.blk_hit ?_ | refine JE.blk_miss rfl ?_ | refine JE.then_ret ?_ | refine JE.blk_ret ?_ | refine JC.label ?_ | refine JL.gon rfl rfl ?_ | refine JL.gskip rfl rfl rfl rfl ?_ | refine JL.gskipU rfl rfl rfl rfl ?_))
               refine JC.ret ?_
               (repeat (first | refine JL.q (by first | (apply OQ.move; exact rfl) | (apply OQ.assign; exact rfl) | (apply OQ.len; exact rfl; exact rfl) | (apply OQ.addN; exact rfl; exact rfl; exact (by (try simp only []); omega)) | (apply OQ.remN; exact rfl; exact rfl; exact (by (try simp only []); omega)) | (apply OQ.lssN; exact rfl; exact rfl)) rfl ?_ | refine JC.seq ?_ | refine JC.region ?_ | refine JC.block ?_ | refine JC.skip ?_ | refine JC.exit ?_ | refine JL.nil ?_ | refine JE.next ?_ | refine JE.blk_normal ?_ | refine JE.then_exit ?_ | refine JE.blk_hit ?_ | refine JE.blk_miss rfl ?_ | refine JE.then_ret ?_ | refine JE.blk_ret ?_ | refine JC.label ?_ | refine JL.gon rfl rfl ?_ | refine JL.gskip rfl rfl rfl rfl ?_ | refine JL.gskipU rfl rfl rfl rfl ?_))
               exact JE.ret1 rfl (RV.tmp rfl) fun w' hw => ⟨rfl, hw.chg⟩)
            | skip
          have hc : idok c = true := by
            unfold idok
            have a1 := of_decide_eq_false q1
            have a2 := of_decide_eq_false q2
            rw [decide_eq_true (show 33 ≤ c.toNat by omega), decide_eq_true (show c.toNat ≤ 126 by omega), beq_eq_false_iff_ne.2 (not_of 60 q3), beq_eq_false_iff_ne.2 (not_of 62 q4), beq_eq_false_iff_ne.2 (not_of 40 q5), beq_eq_false_iff_ne.2 (not_of 41 q6), beq_eq_false_iff_ne.2 (not_of 34 q7), beq_eq_false_iff_ne.2 (not_of 92 q8)]
            rfl
          repeat (first | refine JL.q (by first | (apply OQ.move; exact rfl) | (apply OQ.assign; exact rfl) | (apply OQ.len; exact rfl; exact rfl) | (apply OQ.addN; exact rfl; exact rfl; exact (by (try simp only []); omega)) | (apply OQ.remN; exact rfl; exact rfl; exact (by (try simp only []); omega)) | (apply OQ.lssN; exact rfl; exact rfl)) rfl ?_ | refine JC.seq ?_ | refine JC.region ?_ | refine JC.block ?_ | refine JC.skip ?_ | refine JC.exit ?_ | refine JL.nil ?_ | refine JE.next ?_ | refine JE.blk_normal ?_ | refine JE.then_exit ?_ | refine JE.blk_hit ?_ | refine JE.blk_miss rfl ?_ | refine JE.then_ret ?_ | refine JE.blk_ret ?_ | refine JC.label ?_ | refine JL.gon rfl rfl ?_ | refine JL.gskip rfl rfl rfl rfl ?_ | refine JL.gskipU rfl rfl rfl rfl ?_)
          exact JE.again (i := j) (j + 1) ⟨hj', hnx hc⟩ (by omega) (by repeat (first | exact SubE.nil | refine SubE.cons _ _ _ rfl ?_)) (Less.refl _)
        · have hj' : ¬ j < x.length := of_decide_eq_false h
          clear h
          repeat (first | refine JL.q (by first | (apply OQ.move; exact rfl) | (apply OQ.assign; exact rfl) | (apply OQ.len; exact rfl; exact rfl) | (apply OQ.addN; exact rfl; exact rfl; exact (by (try simp only []); omega)) | (apply OQ.remN; exact rfl; exact rfl; exact (by (try simp only []); omega)) | (apply OQ.lssN; exact rfl; exact rfl)) rfl ?_ | refine JC.seq ?_ | refine JC.region ?_ | refine JC.block ?_ | refine JC.skip ?_ | refine JC.exit ?_ | refine JL.nil ?_ | refine JE.next ?_ | refine JE.blk_normal ?_ | refine JE.then_exit ?_ | refine JE.blk_hit ?_ | refine JE.blk_miss rfl ?_ | refine JE.then_ret ?_ | refine JE.blk_ret ?_ | refine JC.label ?_ | refine JL.gon rfl rfl ?_ | refine JL.gskip rfl rfl rfl rfl ?_ | refine JL.gskipU rfl rfl rfl rfl ?_)
          refine JE.mid () (fun c hc => ?_) (by repeat (first | exact SubE.nil | refine SubE.cons _ _ _ rfl ?_)) (Less.refl _)
          obtain ⟨m, hm, rfl⟩ := List.mem_iff_getElem.1 hc
          have := hok m (by omega)
          rwa [List.getD_eq_getElem?_getD, List.getElem?_eq_getElem hm] at this
      rintro ⟨⟩ hxk
      have hgl := gap_len (bc &&& 3).toNat
      have cg := gapV_at hk4
      have hTl : (textB (ps d.l bs.l (i + 1))).length ≤ 212 * (i + 1) := by
        rw [hts]
        simp only [List.length_append, List.length_cons, List.length_nil]
        omega
      repeat (first | refine JL.q (by first | (apply OQ.move; exact rfl) | (apply OQ.assign; exact rfl) | (apply OQ.len; exact rfl; exact rfl) | (apply OQ.addN; exact rfl; exact rfl; exact (by (try simp only []); omega)) | (apply OQ.remN; exact rfl; exact rfl; exact (by (try simp only []); omega)) | (apply OQ.lssN; exact rfl; exact rfl)) rfl ?_ | refine JC.seq ?_ | refine JC.region ?_ | refine JC.block ?_ | refine JC.skip ?_ | refine JC.exit ?_ | refine JL.nil ?_ | refine JE.next ?_ | refine JE.blk_normal ?_ | refine JE.then_exit ?_ | refine JE.blk_hit ?_ | refine JE.blk_miss rfl ?_ | refine JE.then_ret ?_ | refine JE.blk_ret ?_ | refine JC.label ?_ | refine JL.gon rfl rfl ?_ | refine JL.gskip rfl rfl rfl rfl ?_ | refine JL.gskipU rfl rfl rfl rfl ?_)
      refine JL.litL (xs := [.const (Z []), .const (Z [32]), .const (Z [9, 40, 120, 41]), .const (Z [40, 97, 32, 40, 98, 41, 32, 99, 41, 32])]) (vs := gapV) Tryd.underlying48 strE rfl rfl rfl rfl (by intro v hv; simp only [gapV, List.mem_cons, List.not_mem_nil, or_false] at hv; rcases hv with rfl | rfl | rfl | rfl <;> rfl) rfl (by decide) (by decide) rfl fun bg _ => ?_
      repeat (first | refine JL.q (by first | (apply OQ.len; exact Tryd.underlying25; exact rfl) | (apply OQ.idxS1; exact Tryd.underlying25; exact u8s; exact (congrArg some vB); exact rfl; exact him) | (apply OQ.load_old; exact u8c; exact rfl; exact (block_lt_of_cell hcb); exact (by simp); exact hcb) | (apply OQ.and8 (b := 3#8); exact rfl; exact rfl) | (apply OQ.idxSk (j := 0) (i := (bc &&& 3).toNat); exact Tryd.underlying48; exact strS; exact rfl; exact rfl; exact hk4) | (apply OQ.load; exact strC; exact rfl; exact .here; exact (Row.cell cg)) | (apply OQ.addS (l := gap (bc &&& 3).toNat) (r := [60]); exact rfl; exact rfl; exact (by simp only [List.length_cons, List.length_nil]; omega)) | (apply OQ.addS (r := x); exact rfl; exact rfl; exact (by simp only [List.length_append, List.length_cons, List.length_nil]; omega)) | (apply OQ.addS (r := [62]); exact rfl; exact rfl; exact (by simp only [List.length_append, List.length_cons, List.length_nil]; omega)) | (apply OQ.addS (l := T) (r := gap (bc &&& 3).toNat ++ [60] ++ x ++ [62]); exact rfl; exact rfl; exact (by simp only [List.length_append, List.length_cons, List.length_nil]; omega)) | (apply OQ.move; exact rfl) | (apply OQ.assign; exact rfl) | (apply OQ.len; exact rfl; exact rfl) | (apply OQ.addN; exact rfl; exact rfl; exact (by (try simp only []); omega)) | (apply OQ.remN; exact rfl; exact rfl; exact (by (try simp only []); omega)) | (apply OQ.lssN; exact rfl; exact rfl)) rfl ?_ | refine JC.seq ?_ | refine JC.region ?_ | refine JC.block ?_ | refine JC.skip ?_ | refine JC.exit ?_ | refine JL.nil ?_ | refine JE.next ?_ | refine JE.blk_normal ?_ | refine JE.then_exit ?_ | refine JE.blk_hit ?_ | refine JE.blk_miss rfl ?_ | refine JE.then_ret ?_ | refine JE.blk_ret ?_ | refine JC.label ?_ | refine JL.gon rfl rfl ?_ | refine JL.gskip rfl rfl rfl rfl ?_ | refine JL.gskipU rfl rfl rfl rfl ?_)
      refine JE.again (i := i) (i + 1) ⟨hi', hTl, hnext hx0 hx2 hxk⟩ (by omega) ?_ (.nil _)
      rw [hts]
      exact (by repeat (first | exact SubE.nil | refine SubE.cons _ _ _ rfl ?_))
    · have hi' : ¬ i < d.l.length := of_decide_eq_false h
      obtain rfl : i = d.l.length := by omega
      clear h
      repeat (first | refine JL.q (by first | (apply OQ.move; exact rfl) | (apply OQ.assign; exact rfl) | (apply OQ.len; exact rfl; exact rfl) | (apply OQ.addN; exact rfl; exact rfl; exact (by (try simp only []); omega)) | (apply OQ.remN; exact rfl; exact rfl; exact (by (try simp only []); omega)) | (apply OQ.lssN; exact rfl; exact rfl)) rfl ?_ | refine JC.seq ?_ | refine JC.region ?_ | refine JC.block ?_ | refine JC.skip ?_ | refine JC.exit ?_ | refine JL.nil ?_ | refine JE.next ?_ | refine JE.blk_normal ?_ | refine JE.then_exit ?_ | refine JE.blk_hit ?_ | refine JE.blk_miss rfl ?_ | refine JE.then_ret ?_ | refine JE.blk_ret ?_ | refine JC.label ?_ | refine JL.gon rfl rfl ?_ | refine JL.gskip rfl rfl rfl rfl ?_ | refine JL.gskipU rfl rfl rfl rfl ?_)
      refine JE.mid () (fun x hx => ?_) (by repeat (first | exact SubE.nil | refine SubE.cons _ _ _ rfl ?_)) (Less.refl _)
      obtain ⟨m, hm, rfl⟩ := List.mem_iff_getElem.1 hx
      have := hsh m hm
      rwa [List.getD_eq_getElem?_getD, List.getElem?_eq_getElem hm] at this
  rintro ⟨⟩ hall
  have hfs := ps_fst d.l bs.l
  have hmem : ∀ p ∈ ps d.l bs.l d.l.length, 0 < p.1.length ∧ p.1.length ≤ 200 ∧ ∀ c ∈ p.1, idok c = true := by
    intro p hp
    have : p.1 ∈ d.l := by rw [← hfs]; exact List.mem_map_of_mem hp
    exact hall _ this
  have hids := ids_text (ps := ps d.l bs.l d.l.length) fun p hp => ⟨(hmem p hp).1, (hmem p hp).2.2⟩
  have hlen : (textB (ps d.l bs.l d.l.length)).length < 1000000 := by
    have h : ∀ l : List (List Fld.By × Nat), (∀ p ∈ l, p.1.length ≤ 200) → (textB l).length ≤ 212 * l.length := by
      intro l
      induction l with
      | nil => intro _; exact Nat.le_refl _
      | cons p l ih =>
        intro h
        have h1 := ih fun q hq => h q (by simp [hq])
        have h2 := h p (by simp)
        have h3 := gap_len p.2
        have e : textB (p :: l) = (gap p.2 ++ 60 :: p.1 ++ [62]) ++ textB l := rfl
        rw [e]
        simp only [List.length_append, List.length_cons, List.length_nil]
        omega
    have h1 := h (ps d.l bs.l d.l.length) fun p hp => (hmem p hp).2.1
    have h2 : (ps d.l bs.l d.l.length).length = d.l.length := by unfold ps; simp
    omega
  rw [hfs] at hids
  clear hmem
  generalize textB (ps d.l bs.l d.l.length) = T at hids hlen ⊢
  have a1 := fun w' => hT.ids T w' hlen
  rw [hids] at a1
  dsimp only at a1
  obtain ⟨adx, capx, ll⟩ := d
  dsimp only at hdl hd hall hfs a1 ⊢
  have hll : decide ((ll.length : Int) = (ll.length : Int)) = true := decide_eq_true rfl
  repeat (first | refine JL.q (by first | (apply OQ.move; exact rfl) | (apply OQ.assign; exact rfl) | (apply OQ.len; exact rfl; exact rfl) | (apply OQ.addN; exact rfl; exact rfl; exact (by (try simp only []); omega)) | (apply OQ.remN; exact rfl; exact rfl; exact (by (try simp only []); omega)) | (apply OQ.lssN; exact rfl; exact rfl)) rfl ?_ | refine JC.seq ?_ | refine JC.region ?_ | refine JC.block ?_ | refine JC.skip ?_ | refine JC.exit ?_ | refine JL.nil ?_ | refine JE.next ?_ | refine JE.blk_normal ?_ | refine JE.then_exit ?_ | refine JE.blk_hit ?_ | refine JE.blk_miss rfl ?_ | refine JE.then_ret ?_ | refine JE.blk_ret ?_ | refine JC.label ?_ | refine JL.gon rfl rfl ?_ | refine JL.gskip rfl rfl rfl rfl ?_ | refine JL.gskipU rfl rfl rfl rfl ?_)
  refine JL.callw (vs := [Z T]) (S' := []) (ι := { y : SlZ // y.l = ll }) (fun y => .tuple #[y.1.v, N 0]) (fun y w2 => y.1.ok w2) [] goes_tids rfl rfl (fun w' _ => (a1 w').mono fun e w2 ⟨y, h1, h2, h3, h4⟩ => ⟨⟨y, h4⟩, h1, h2, h3⟩) (.nil _) (by simp) ?_
  rintro ⟨⟨ady, capy, ly⟩, hy⟩ w1 hw1 oky
  dsimp only at hy oky ⊢
  subst hy
  replace hd := hd.holds hw1 rfl
  have hE := hw1.chg
  repeat (first | refine JL.q (by first | (apply OQ.extract; exact rfl; exact rfl) | (apply OQ.neB (b := 0); exact rfl; exact rfl; exact rfl) | (apply OQ.len; exact Tryd.underlying48; exact rfl) | (apply OQ.neB; exact rfl; exact rfl; exact hll) | (apply OQ.pick_f; exact rfl; exact rfl) | (apply OQ.move; exact rfl) | (apply OQ.assign; exact rfl) | (apply OQ.len; exact rfl; exact rfl) | (apply OQ.addN; exact rfl; exact rfl; exact (by (try simp only []); omega)) | (apply OQ.remN; exact rfl; exact rfl; exact (by (try simp only []); omega)) | (apply OQ.lssN; exact rfl; exact rfl)) rfl ?_ | refine JC.seq ?_ | refine JC.region ?_ | refine JC.block ?_ | refine JC.skip ?_ | refine JC.exit ?_ | refine JL.nil ?_ | refine JE.next ?_ | refine JE.blk_normal ?_ | refine JE.then_exit ?_ | refine JE.blk_hit ?_ | refine JE.blk_miss rfl ?_ | refine JE.then_ret ?_ | refine JE.blk_ret ?_ | refine JC.label ?_ | refine JL.gon rfl rfl ?_ | refine JL.gskip rfl rfl rfl rfl ?_ | refine JL.gskipU rfl rfl rfl rfl ?_)
  refine JC.cond rfl (fun h => by cases h) (fun _ => ?_)
  repeat (first | refine JL.q (by first | (apply OQ.len; exact Tryd.underlying48; exact rfl) | (apply OQ.move; exact rfl) | (apply OQ.assign; exact rfl) | (apply OQ.len; exact rfl; exact rfl) | (apply OQ.addN; exact rfl; exact rfl; exact (by (try simp only []); omega)) | (apply OQ.remN; exact rfl; exact rfl; exact (by (try simp only []); omega)) | (apply OQ.lssN; exact rfl; exact rfl)) rfl ?_ | refine JC.seq ?_ | refine JC.region ?_ | refine JC.block ?_ | refine JC.skip ?_ | refine JC.exit ?_ | refine JL.nil ?_ | refine JE.next ?_ | refine JE.blk_normal ?_ | refine JE.then_exit ?_ | refine JE.blk_hit ?_ | refine JE.blk_miss rfl ?_ | refine JE.then_ret ?_ | refine JE.blk_ret ?_ | refine JC.label ?_ | refine JL.gon rfl rfl ?_ | refine JL.gskip rfl rfl rfl rfl ?_ | refine JL.gskipU rfl rfl rfl rfl ?_)
  refine JC.joinB (ι := Unit) (fun _ => [(2, Z s)]) (fun _ => []) (fun _ => True) ?_ ?_
  · refine JC.loop (fun i : Nat => [(2, Z s), (11, SlZ.v ⟨ady, capy, ly⟩), (0, SlZ.v ⟨adx, capx, ly⟩), (133, N ly.length), (134, N i)]) (fun _ => []) (fun i => ly.length - i) (fun i => i ≤ ly.length) 0 (Nat.zero_le _) (by repeat (first | exact SubE.nil | refine SubE.cons _ _ _ rfl ?_)) (Less.refl _) ?_
    intro i hi
    repeat (first | refine JL.q (by first | (apply OQ.move; exact rfl) | (apply OQ.assign; exact rfl) | (apply OQ.len; exact rfl; exact rfl) | (apply OQ.addN; exact rfl; exact rfl; exact (by (try simp only []); omega)) | (apply OQ.remN; exact rfl; exact rfl; exact (by (try simp only []); omega)) | (apply OQ.lssN; exact rfl; exact rfl)) rfl ?_ | refine JC.seq ?_ | refine JC.region ?_ | refine JC.block ?_ | refine JC.skip ?_ | refine JC.exit ?_ | refine JL.nil ?_ | refine JE.next ?_ | refine JE.blk_normal ?_ | refine JE.then_exit ?_ | refine JE.blk_hit ?_ | refine JE.blk_miss rfl ?_ | refine JE.then_ret ?_ | refine JE.blk_ret ?_ | refine JC.label ?_ | refine JL.gon rfl rfl ?_ | refine JL.gskip rfl rfl rfl rfl ?_ | refine JL.gskipU rfl rfl rfl rfl ?_)
    refine JC.cond rfl (fun h => ?_) (fun h => ?_)
    · have hi' : i < ly.length := of_decide_eq_true h
      clear h
      obtain ⟨bx, jx, eX, lx, cx⟩ := hd.at (show 0 < (SlZ.l ⟨adx, capx, ly⟩).length by show 0 < ly.length; omega)
      obtain ⟨by', jy, eY, ly', cy⟩ := oky.at (show 0 < (SlZ.l ⟨ady, capy, ly⟩).length by show 0 < ly.length; omega)
      have cxi := cx i hi'
      have cyi := cy i hi'
      replace eX : adx = _ := eX
      replace eY : ady = _ := eY
      subst eX eY
      replace cxi : w1.cell? ⟨bx, jx + i, none⟩ = some (Z (ly.getD i [])) := cxi
      have hgg : decide (ly.getD i [] = ly.getD i []) = true := decide_eq_true rfl
      replace cyi : w1.cell? ⟨by', jy + i, none⟩ = some (Z (ly.getD i [])) := cyi
      repeat (first | refine JL.q (by first | (apply OQ.move; exact rfl) | (apply OQ.assign; exact rfl) | (apply OQ.len; exact rfl; exact rfl) | (apply OQ.addN; exact rfl; exact rfl; exact (by (try simp only []); omega)) | (apply OQ.remN; exact rfl; exact rfl; exact (by (try simp only []); omega)) | (apply OQ.lssN; exact rfl; exact rfl)) rfl ?_ | refine JC.seq ?_ | refine JC.region ?_ | refine JC.block ?_ | refine JC.skip ?_ | refine JC.exit ?_ | refine JL.nil ?_ | refine JE.next ?_ | refine JE.blk_normal ?_ | refine JE.then_exit ?_ | refine JE.blk_hit ?_ | refine JE.blk_miss rfl ?_ | refine JE.then_ret ?_ | refine JE.blk_ret ?_ | refine JC.label ?_ | refine JL.gon rfl rfl ?_ | refine JL.gskip rfl rfl rfl rfl ?_ | refine JL.gskipU rfl rfl rfl rfl ?_)
      refine JC.quiet mixT (by kernel_rfl) ?_
      repeat (first | refine JL.q (by first | (apply OQ.idxS1; exact Tryd.underlying48; exact strS; exact rfl; exact rfl; exact hi') | (apply OQ.load_old; exact strC; exact rfl; exact lx; exact (by simp); exact cxi) | (apply OQ.load_old; exact strC; exact rfl; exact ly'; exact (by simp); exact cyi) | (apply OQ.neSB; exact rfl; exact rfl; exact hgg) | (apply OQ.move; exact rfl) | (apply OQ.assign; exact rfl) | (apply OQ.len; exact rfl; exact rfl) | (apply OQ.addN; exact rfl; exact rfl; exact (by (try simp only []); omega)) | (apply OQ.remN; exact rfl; exact rfl; exact (by (try simp only []); omega)) | (apply OQ.lssN; exact rfl; exact rfl)) rfl ?_ | refine JQ.q (by first | (apply OQ.idxS1; exact Tryd.underlying48; exact strS; exact rfl; exact rfl; exact hi') | (apply OQ.load_old; exact strC; exact rfl; exact lx; exact (by simp); exact cxi) | (apply OQ.load_old; exact strC; exact rfl; exact ly'; exact (by simp); exact cyi) | (apply OQ.neSB; exact rfl; exact rfl; exact hgg) | (apply OQ.move; exact rfl) | (apply OQ.assign; exact rfl) | (apply OQ.len; exact rfl; exact rfl) | (apply OQ.addN; exact rfl; exact rfl; exact (by (try simp only []); omega)) | (apply OQ.remN; exact rfl; exact rfl; exact (by (try simp only []); omega)) | (apply OQ.lssN; exact rfl; exact rfl)) rfl ?_ | refine JC.seq ?_ | refine JC.region ?_ | refine JC.block ?_ | refine JC.skip ?_ | refine JC.exit ?_ | refine JL.nil ?_ | refine JQ.nil ?_ | refine JQ.nil_tail ?_ | refine JE.next ?_ | refine JE.blk_normal ?_ | refine JE.then_exit ?_ | refine JE.blk_hit ?_ | refine JE.blk_miss rfl ?_ | refine JE.then_ret ?_ | refine JE.blk_ret ?_ | refine JC.label ?_ | refine JL.gon rfl rfl ?_ | refine JQ.gon rfl rfl ?_ | refine JL.gskip rfl rfl rfl rfl ?_ | refine JQ.gskip rfl rfl rfl rfl ?_ | refine JL.gskipU rfl rfl rfl rfl ?_ | refine JQ.gskipU rfl rfl rfl rfl ?_)
      refine JC.cond rfl (fun h => by cases h) (fun _ => ?_)
      repeat (first | refine JL.q (by first | (apply OQ.move; exact rfl) | (apply OQ.assign; exact rfl) | (apply OQ.len; exact rfl; exact rfl) | (apply OQ.addN; exact rfl; exact rfl; exact (by (try simp only []); omega)) | (apply OQ.remN; exact rfl; exact rfl; exact (by (try simp only []); omega)) | (apply OQ.lssN; exact rfl; exact rfl)) rfl ?_ | refine JQ.q (by first | (apply OQ.move; exact rfl) | (apply OQ.assign; exact rfl) | (apply OQ.len; exact rfl; exact rfl) | (apply OQ.addN; exact rfl; exact rfl; exact (by (try simp only []); omega)) | (apply OQ.remN; exact rfl; exact rfl; exact (by (try simp only []); omega)) | (apply OQ.lssN; exact rfl; exact rfl)) rfl ?_ | refine JC.seq ?_ | refine JC.region ?_ | refine JC.block ?_ | refine JC.skip ?_ | refine JC.exit ?_ | refine JL.nil ?_ | refine JQ.nil ?_ | refine JQ.nil_tail ?_ | refine JE.next ?_ | refine JE.blk_normal ?_ | refine JE.then_exit ?_ | refine JE.blk_hit ?_ | refine JE.blk_miss rfl ?_ | refine JE.then_ret ?_ | refine JE.blk_ret ?_ | refine JC.label ?_ | refine JL.gon rfl rfl ?_ | refine JQ.gon rfl rfl ?_ | refine JL.gskip rfl rfl rfl rfl ?_ | refine JQ.gskip rfl rfl rfl rfl ?_ | refine JL.gskipU rfl rfl rfl rfl ?_ | refine JQ.gskipU rfl rfl rfl rfl ?_)
      exact JE.again (i := i) (i + 1) hi' (by omega) (by repeat (first | exact SubE.nil | refine SubE.cons _ _ _ rfl ?_)) (Less.refl _)
    · clear h
      repeat (first | refine JL.q (by first | (apply OQ.move; exact rfl) | (apply OQ.assign; exact rfl) | (apply OQ.len; exact rfl; exact rfl) | (apply OQ.addN; exact rfl; exact rfl; exact (by (try simp only []); omega)) | (apply OQ.remN; exact rfl; exact rfl; exact (by (try simp only []); omega)) | (apply OQ.lssN; exact rfl; exact rfl)) rfl ?_ | refine JQ.q (by first | (apply OQ.move; exact rfl) | (apply OQ.assign; exact rfl) | (apply OQ.len; exact rfl; exact rfl) | (apply OQ.addN; exact rfl; exact rfl; exact (by (try simp only []); omega)) | (apply OQ.remN; exact rfl; exact rfl; exact (by (try simp only []); omega)) | (apply OQ.lssN; exact rfl; exact rfl)) rfl ?_ | refine JC.seq ?_ | refine JC.region ?_ | refine JC.block ?_ | refine JC.skip ?_ | refine JC.exit ?_ | refine JL.nil ?_ | refine JQ.nil ?_ | refine JQ.nil_tail ?_ | refine JE.next ?_ | refine JE.blk_normal ?_ | refine JE.then_exit ?_ | refine JE.blk_hit ?_ | refine JE.blk_miss rfl ?_ | refine JE.then_ret ?_ | refine JE.blk_ret ?_ | refine JC.label ?_ | refine JL.gon rfl rfl ?_ | refine JQ.gon rfl rfl ?_ | refine JL.gskip rfl rfl rfl rfl ?_ | refine JQ.gskip rfl rfl rfl rfl ?_ | refine JL.gskipU rfl rfl rfl rfl ?_ | refine JQ.gskipU rfl rfl rfl rfl ?_)
      exact JE.mid () trivial (by repeat (first | exact SubE.nil | refine SubE.cons _ _ _ rfl ?_)) (Less.refl _)
  rintro ⟨⟩ _
  have c1 := fun w' => hT.addr s w' (by omega)
  have hal := addrB_len s
  have haa := @addr_addr s
  generalize (addrB s).1 = b at c1 hal haa
  generalize (addrB s).2 = k1 at c1 haa
  have c2 := fun w' => hT.addr b w' (by omega)
  cases hk : decide ((k1 : Int) = 0)
  · generalize (addrB b).1 = b2 at c2
    generalize (addrB b).2 = k2 at c2
    repeat (first | refine JL.q (by first | (apply OQ.callx (vs := [Z s]); exact goes_taddr; exact rfl; exact (fun w' _ => c1 w')) | (apply OQ.callx (vs := [Z b]); exact goes_taddr; exact rfl; exact (fun w' _ => c2 w')) | (apply OQ.extract; exact rfl; exact rfl) | (apply OQ.neB (b := 0); exact rfl; exact rfl; exact hk) | (apply OQ.pick_t; exact rfl; exact rfl) | (apply OQ.move; exact rfl) | (apply OQ.assign; exact rfl) | (apply OQ.len; exact rfl; exact rfl) | (apply OQ.addN; exact rfl; exact rfl; exact (by (try simp only []); omega)) | (apply OQ.remN; exact rfl; exact rfl; exact (by (try simp only []); omega)) | (apply OQ.lssN; exact rfl; exact rfl)) rfl ?_ | refine JQ.q (by first | (apply OQ.callx (vs := [Z s]); exact goes_taddr; exact rfl; exact (fun w' _ => c1 w')) | (apply OQ.callx (vs := [Z b]); exact goes_taddr; exact rfl; exact (fun w' _ => c2 w')) | (apply OQ.extract; exact rfl; exact rfl) | (apply OQ.neB (b := 0); exact rfl; exact rfl; exact hk) | (apply OQ.pick_t; exact rfl; exact rfl) | (apply OQ.move; exact rfl) | (apply OQ.assign; exact rfl) | (apply OQ.len; exact rfl; exact rfl) | (apply OQ.addN; exact rfl; exact rfl; exact (by (try simp only []); omega)) | (apply OQ.remN; exact rfl; exact rfl; exact (by (try simp only []); omega)) | (apply OQ.lssN; exact rfl; exact rfl)) rfl ?_ | refine JC.seq ?_ | refine JC.region ?_ | refine JC.block ?_ | refine JC.skip ?_ | refine JC.exit ?_ | refine JL.nil ?_ | refine JQ.nil ?_ | refine JQ.nil_tail ?_ | refine JE.next ?_ | refine JE.blk_normal ?_ | refine JE.then_exit ?_ | refine JE.blk_hit ?_ | refine JE.blk_miss rfl ?_ | refine JE.then_ret ?_ | refine JE.blk_ret ?_ | refine JC.label ?_ | refine JL.gon rfl rfl ?_ | refine JQ.gon rfl rfl ?_ | refine JL.gskip rfl rfl rfl rfl ?_ | refine JQ.gskip rfl rfl rfl rfl ?_ | refine JL.gskipU rfl rfl rfl rfl ?_ | refine JQ.gskipU rfl rfl rfl rfl ?_)
    refine JC.ret ?_
    exact JE.ret1 rfl (RV.tmp rfl) fun w' hw => ⟨rfl, hE.trans hw.chg⟩
  · rw [haa (by have := of_decide_eq_true hk; omega)] at c2
    have hb2 : decide (b = b) = true := decide_eq_true rfl
    repeat (first | refine JL.q (by first | (apply OQ.callx (vs := [Z s]); exact goes_taddr; exact rfl; exact (fun w' _ => c1 w')) | (apply OQ.callx (vs := [Z b]); exact goes_taddr; exact rfl; exact (fun w' _ => c2 w')) | (apply OQ.extract; exact rfl; exact rfl) | (apply OQ.neB (b := 0); exact rfl; exact rfl; exact hk) | (apply OQ.eqB (b := 0); exact rfl; exact rfl; exact rfl) | (apply OQ.eqSB; exact rfl; exact rfl; exact hb2) | (apply OQ.pick_t; exact rfl; exact rfl) | (apply OQ.pick_f; exact rfl; exact rfl) | (apply OQ.move; exact rfl) | (apply OQ.assign; exact rfl) | (apply OQ.len; exact rfl; exact rfl) | (apply OQ.addN; exact rfl; exact rfl; exact (by (try simp only []); omega)) | (apply OQ.remN; exact rfl; exact rfl; exact (by (try simp only []); omega)) | (apply OQ.lssN; exact rfl; exact rfl)) rfl ?_ | refine JQ.q (by first | (apply OQ.callx (vs := [Z s]); exact goes_taddr; exact rfl; exact (fun w' _ => c1 w')) | (apply OQ.callx (vs := [Z b]); exact goes_taddr; exact rfl; exact (fun w' _ => c2 w')) | (apply OQ.extract; exact rfl; exact rfl) | (apply OQ.neB (b := 0); exact rfl; exact rfl; exact hk) | (apply OQ.eqB (b := 0); exact rfl; exact rfl; exact rfl) | (apply OQ.eqSB; exact rfl; exact rfl; exact hb2) | (apply OQ.pick_t; exact rfl; exact rfl) | (apply OQ.pick_f; exact rfl; exact rfl) | (apply OQ.move; exact rfl) | (apply OQ.assign; exact rfl) | (apply OQ.len; exact rfl; exact rfl) | (apply OQ.addN; exact rfl; exact rfl; exact (by (try simp only []); omega)) | (apply OQ.remN; exact rfl; exact rfl; exact (by (try simp only []); omega)) | (apply OQ.lssN; exact rfl; exact rfl)) rfl ?_ | refine JC.seq ?_ | refine JC.region ?_ | refine JC.block ?_ | refine JC.skip ?_ | refine JC.exit ?_ | refine JL.nil ?_ | refine JQ.nil ?_ | refine JQ.nil_tail ?_ | refine JE.next ?_ | refine JE.blk_normal ?_ | refine JE.then_exit ?_ | refine JE.blk_hit ?_ | refine JE.blk_miss rfl ?_ | refine JE.then_ret ?_ | refine JE.blk_ret ?_ | refine JC.label ?_ | refine JL.gon rfl rfl ?_ | refine JQ.gon rfl rfl ?_ | refine JL.gskip rfl rfl rfl rfl ?_ | refine JQ.gskip rfl rfl rfl rfl ?_ | refine JL.gskipU rfl rfl rfl rfl ?_ | refine JQ.gskipU rfl rfl rfl rfl ?_)
    refine JC.ret ?_
    exact JE.ret1 rfl (RV.tmp rfl) fun w' hw => ⟨rfl, hE.trans hw.chg⟩
end Go.Proofs.YtchoiikhepjdiaaDoor
