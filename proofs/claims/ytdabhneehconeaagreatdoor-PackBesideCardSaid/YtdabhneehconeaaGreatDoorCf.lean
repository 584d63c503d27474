/-
  Of no statement by itself: the texts MibX, PkC, MibY, PkD, PkF, PkE, PkG, Plain, FieP, EnvP in one.
  Conditions: each theorem's own.
-/
import Derived.Test.YtdabhneehconeaaGreatDoorCe
import Derived.Test.YtdabhneehconeaaGreatDoorProg
import Derived.Test.YtdabhneehconeaaGreatDoorRows
import Derived.ProofKit
import Derived.OpenShut
import Derived.Below
import Derived.Stop.Joined
import Derived.ChangeMaps5
import Derived.Deep.SlicePairs
import Derived.Test.YtdabhneehconeaaGreatDoorTie
import Derived.SevenTiedAt
import Derived.LaidMore
import Derived.Lay
set_option linter.unusedSimpArgs false
set_option linter.unusedVariables false
/-
  Of no statement by itself: what the landed mime's write and Write give.
  Conditions: each theorem's own.
-/
namespace Go.Proofs.YtdabhneehconeaaGreatDoor
set_option maxRecDepth 10000
open Sl Fld Mim Tok
theorem goes_lwriteM : Goes Tryz.prog 15 := ⟨_, Tryz.func15, rfl, by kernel_rfl⟩
theorem esc_lenM : ∀ v : List Fld.By, (esc v).length ≤ 2 * v.length
  | [] => Nat.le_refl _
  | c :: v => by
    have := esc_lenM v
    show ((if c = 34 ∨ c = 92 then [92, c] else [c]) ++ esc v : List Fld.By).length ≤ _
    rw [List.length_append, List.length_cons]
    split <;> simp only [List.length_cons, List.length_nil] <;> omega
theorem parW_lenM (p : List Fld.By × List Fld.By) : (parW p).length ≤ p.1.length + 2 * p.2.length + 5 := by
  have := esc_lenM p.2
  unfold parW
  split <;> simp only [List.length_append, List.length_cons, List.length_nil] <;> omega
theorem pars_lenM (b : Nat) : ∀ l : List (List Fld.By × List Fld.By), (∀ p ∈ l, p.1.length ≤ b ∧ p.2.length ≤ b) → (l.flatMap parW).length ≤ (3 * b + 5) * l.length
  | [], _ => Nat.le_refl _
  | p :: l, h => by
    have h1 := parW_lenM p
    have h2 := h p (by simp)
    have h3 := pars_lenM b l fun q hq => h q (by simp [hq])
    rw [List.flatMap_cons, List.length_append, List.length_cons, Nat.mul_succ]
    omega
theorem row_own2 {e : TypeId} {p : Pr} : ∀ o, Row e (pc p) o → Sl.Own e 2 1 1 ([p].flatMap pc) o := by
  rintro o rfl
  exact ⟨[], by simp [pc], by simp [pc], by simp [pc], Nat.le_refl _⟩
theorem finW_is (f : List Fld.PrB) (b : List Fld.By) : (writeK f b = 0 ∧ finW f b = .ok (f, b)) ∨ (writeK f b ≠ 0 ∧ finW f b = .error (writeK f b)) := by
  unfold finW
  by_cases h : writeK f b = 0
  · exact .inl ⟨h, if_pos h⟩
  · exact .inr ⟨h, if_neg h⟩
theorem wperm4 (Y A B : List Ent) : (Y ++ (A ++ (B ++ []))).Perm (A ++ (B ++ (Y ++ []))) := by
  rw [List.append_nil, List.append_nil, ← List.append_assoc A B Y]
  exact List.perm_append_comm
theorem wperm5 (Z A B Y : List Ent) : (Z ++ (A ++ (B ++ (Y ++ [])))).Perm (A ++ (B ++ (Y ++ (Z ++ [])))) := by
  rw [List.append_nil, List.append_nil, ← List.append_assoc B Y Z, ← List.append_assoc A (B ++ Y) Z]
  exact List.perm_append_comm
theorem wperm6 (a b : Ent) (L : List Ent) : (a :: b :: (L ++ [])).Perm (L ++ [a, b]) := by
  rw [List.append_nil]
  exact List.perm_append_comm (l₁ := [a, b]) (l₂ := L)
theorem wperm8 (Y : List Ent) (a b : Ent) (B : List Ent) : (Y ++ (a :: b :: (B ++ []))).Perm (a :: b :: (B ++ (Y ++ []))) := wperm4 Y [a, b] B
theorem wperm9 (Z : List Ent) (a b : Ent) (B Y : List Ent) : (Z ++ (a :: b :: (B ++ (Y ++ [])))).Perm (a :: b :: (B ++ (Y ++ (Z ++ [])))) := wperm5 Z [a, b] B Y
theorem less_appR {A' A : List Ent} (h : Less A' A) (B : List Ent) : Less (A' ++ B) (A ++ B) := by
  induction h with
  | nil M => exact less_app M (Less.refl _)
  | keep _ _ _ _ _ _ h _ ih => exact .keep _ _ _ _ _ _ h ih
  | drop _ _ _ _ ih => exact .drop _ _ _ ih
theorem mapE_mem {α β : Type} {f : α → Except Nat β} : ∀ {l : List α} {xs : List β}, mapE f l = .ok xs → xs.length = l.length ∧ ∀ x ∈ xs, ∃ a, f a = .ok x
  | [], xs, h => by cases h; exact ⟨rfl, nofun⟩
  | a :: l, xs, h => by
    unfold mapE at h
    cases e1 : f a with
    | error e => rw [e1] at h; cases h
    | ok y =>
      rw [e1] at h
      cases e2 : mapE f l with
      | error e => rw [e2] at h; cases h
      | ok ys =>
        rw [e2] at h
        cases h
        obtain ⟨h1, h2⟩ := mapE_mem e2
        refine ⟨by rw [List.length_cons, List.length_cons, h1], fun x hx => ?_⟩
        rcases List.mem_cons.1 hx with rfl | hx
        · exact ⟨a, e1⟩
        · exact h2 x hx
theorem partsW_len (Qe : List Fld.By → List Fld.By) (k : Nat) {p : Part} {b : List Fld.By} (h : partsW (subW Qe k) p = .ok b) (hb : (parB p.ps bdN).length ≤ 1000) (h5 : p.parts.length ≤ 5) : b.length ≤ 10700000 := by
  unfold partsW at h
  split at h
  · cases h
  · split at h
    · cases h
    · rename_i g hg
      split at h
      · cases h
      · rename_i xs hx
        split at h
        · cases h
          obtain ⟨n1, n2⟩ := mapE_mem hx
          have h1 := upTo_len (bd := parB p.ps bdN) (l := xs.map fun x : List Fld.PrB × List Fld.By => writeO x.1 x.2) (m := 2097152) (fun q hq => by
            obtain ⟨x, hx, rfl⟩ := List.mem_map.1 hq
            obtain ⟨a, ha⟩ := n2 x hx
            cases k with
            | zero => cases hg
            | succ k => cases hg; exact written_len (writeP_K Qe k ha))
          rw [List.length_map] at h1
          have h2 : xs.length * ((parB p.ps bdN).length + 2097152 + 6) ≤ 5 * (1000 + 2097152 + 6) := Nat.mul_le_mul (by omega) (by omega)
          show (upTo (parB p.ps bdN) (xs.map fun x : List Fld.PrB × List Fld.By => writeO x.1 x.2) ++ (45 :: 45 :: (parB p.ps bdN ++ [45, 45]) ++ [13, 10])).length ≤ _
          rw [List.length_append]
          have h3 : (45 :: 45 :: (parB p.ps bdN ++ [45, 45]) ++ [13, 10] : List Fld.By).length = (parB p.ps bdN).length + 6 := by simp
          omega
        · cases h
set_option maxHeartbeats 64000000 in
theorem write_step (Qe : List Fld.By → List Fld.By) (k others : Nat) (hko : k + others = 8) (ih : ∀ k', k = k' + 1 → WritesAs Qe k' (others + 1)) : WritesAs Qe k others := by
  intro p cs w hE hp hq hlo
  have cwp := fun (M : List Ent) (w' : World) (hw' : Holds w [] M w') => wparts_any Qe k others hko ih p cs w' (hE.holds hw') (hp.ext hw'.chg) hq hlo
  obtain ⟨ps, body, ad, cap, subs, rfl, ⟨okp, lp⟩, ⟨okb, lb⟩, hcap, hr, hsl, hsub⟩ := hp
  obtain ⟨l1, l2, l3, l4, l5, l6, l7, l8⟩ := hlo
  have hq0 := hq.1
  clear hq ih l8 hsub hr
  have hv : (writeB p.kind p.ps).length ≤ 40000 := by
    have h1 := pars_lenM 1000 p.ps (fun q hq => l3 q hq)
    have h2 : (3 * 1000 + 5) * p.ps.length ≤ (3 * 1000 + 5) * 10 := Nat.mul_le_mul_left _ l2
    unfold writeB
    rw [List.length_append]
    omega
  have ct := fun (M : List Ent) (w' : World) (hw' : Holds w [] M w') => writeA_any p.kind ps w' (okp.holds hw' rfl) (by omega) (by rw [lp]; omega) (fun q hq => by rw [lp] at hq; have := l3 q hq; omega)
  rw [lp] at ct
  refine enter (n := 75) Tryz.func47 rfl rfl rfl (Holds.start w []) ?_
  refine JC.seq (JC.region (JL.box (r := [Z p.kind, ps.v, .int .i64 p.code, body.v, .slice ad p.parts.length cap]) rfl rfl rfl fun b2 _ => ?_))
  refine JL.alloc ltZ12 rfl fun b4 _ => ?_
  have h30 : decide (((3 : Nat) : Int) = 0) = false := rfl
  have h00 : decide (((0 : Nat) : Int) = 0) = true := rfl
  cases hR : rightP p.kind p.ps
  · rw [hR, if_neg (by decide), if_neg (by decide)] at ct
    rw [writeP_wrong Qe k hR]
    repeat (first | refine JL.q (by first | (apply OQ.load; exact strC; exact rfl; exact (.there .here); exact (Row.cell (v := Z p.kind) rfl)) | (apply OQ.load; exact prC; exact rfl; exact (.there .here); exact (Row.cell (v := ps.v) rfl)) | (apply OQ.callx (vs := [Z p.kind, ps.v]); exact goes_writeA; exact rfl; exact (ct _)) | (apply OQ.extract; exact rfl; exact rfl) | (apply OQ.neB (a := ((3 : Nat) : Int)) (b := 0); exact rfl; exact rfl; exact h30) | (apply OQ.move; exact rfl) | (apply OQ.assign; exact rfl) | (apply OQ.fld; exact rfl; exact rfl; exact rfl; exact (by decide); exact rfl)) rfl ?_ | refine JC.seq ?_ | refine JC.region ?_ | refine JL.nil ?_ | refine JE.next ?_)
    refine JC.cond rfl (fun _ => ?_) (fun h => by cases h)
    repeat (first | refine JL.q (by first | (apply build_L0) | (apply OQ.move; exact rfl)) rfl ?_ | refine JC.seq ?_ | refine JC.region ?_)
    refine JL.store_all (cs := [nil2.v, nilS.v]) ltS12 rfl rfl rfl rfl .here rfl ?_
    repeat (first | refine JL.q (by (apply OQ.assign; exact rfl)) rfl ?_ | refine JL.nil ?_ | refine JE.next ?_)
    refine JC.ret ?_
    repeat (refine JE.then_ret ?_)
    exact JE.ret3 rfl (RV.cell_agg ltA12 ltS12 rfl .here rfl Row.all) (RV.tmp rfl) (RV.tmp rfl) fun w' hw => ⟨WA.err, rfl, hw.weak (.nil _)⟩
  rw [hR, if_pos rfl, if_pos rfl] at ct
  generalize hWv : writeB p.kind p.ps = W at ct hv
  repeat (first | refine JL.q (by first | (apply OQ.load; exact strC; exact rfl; exact (.there .here); exact (Row.cell (v := Z p.kind) rfl)) | (apply OQ.load; exact prC; exact rfl; exact (.there .here); exact (Row.cell (v := ps.v) rfl)) | (apply OQ.callx (vs := [Z p.kind, ps.v]); exact goes_writeA; exact rfl; exact (ct _)) | (apply OQ.extract; exact rfl; exact rfl) | (apply OQ.neB (a := ((0 : Nat) : Int)) (b := 0); exact rfl; exact rfl; exact h00) | (apply OQ.move; exact rfl) | (apply OQ.assign; exact rfl) | (apply OQ.fld; exact rfl; exact rfl; exact rfl; exact (by decide); exact rfl)) rfl ?_ | refine JC.seq ?_ | refine JC.region ?_ | refine JL.nil ?_ | refine JE.next ?_)
  refine JC.cond rfl (fun h => by cases h) (fun _ => ?_)
  repeat (first | refine JL.q (by first | (apply OQ.buildF (a := ctW) (b := W); exact rfl; exact rfl) | (apply OQ.move; exact rfl)) rfl ?_ | refine JC.seq ?_ | refine JC.region ?_ | refine JC.skip ?_ | refine JE.next ?_)
  refine JL.litA (cs := pc (ctW, W)) Tryz.underlying27 fieldI rfl (by decide) (by decide) rfl rfl rfl fun b5 _ => ?_
  repeat (refine JL.q (by (apply OQ.fld; exact rfl; exact rfl; exact rfl; exact (by decide); exact rfl)) rfl ?_)
  refine JL.store_eq (b := b4) (r := [nil2.v, nilS.v]) (r' := [accV (some (b5, 1)) [(ctW, W)].length, nilS.v]) rfl rfl rfl rfl rfl (.there .here) (show 0 < 2 from Nat.zero_lt_succ _) rfl ?_
  refine JL.perm (M' := ⟨b4, Row 29 [accV (some (b5, 1)) [(ctW, W)].length, nilS.v], true⟩ :: ⟨b2, Row 59 [Z p.kind, ps.v, .int .i64 p.code, body.v, .slice ad p.parts.length cap], true⟩ :: [⟨b5, Row 65 (pc (ctW, W)), true⟩]) ?_ (List.perm_append_comm (l₁ := [_]) (l₂ := [_, _]))
  refine JL.less (M' := ⟨b4, Row 29 [accV (some (b5, 1)) [(ctW, W)].length, nilS.v], true⟩ :: ⟨b2, Row 59 [Z p.kind, ps.v, .int .i64 p.code, body.v, .slice ad p.parts.length cap], true⟩ :: (accP 65 (some (b5, 1)) [(ctW, W)] ++ [])) (.keep _ _ _ _ _ _ (fun _ h => h) (.keep _ _ _ _ _ _ (fun _ h => h) (.keep _ _ _ _ _ _ (fun o h => row_own2 o h) (.nil _)))) ?_
  have ch := fun w' => hasp_any p.kind ps.v (.int .i64 p.code) body.v (.slice ad p.parts.length cap) rfl w'
  cases hMu : multiB p.kind
  · rw [hMu] at ch
    have hLeaf := writeP_leaf Qe k hR hMu
    have hc : p.code = 0 ∨ p.code = 1 := by omega
    have hn : namB p.code = some (ceV p.code) := by rcases hc with h | h <;> rw [h] <;> rfl
    have cn := fun (M : List Ent) (w' : World) (hw' : Holds w [] M w') => nameof_any p.code w' (hE.holds hw')
    rw [hn] at cn
    have hcl : (ceV p.code).length ≤ 100 := by rcases hc with h | h <;> rw [h] <;> decide
    generalize hCe : ceV p.code = C at cn hcl hLeaf
    have cb := fun (M : List Ent) (w' : World) (hw' : Holds w [] M w') => wbody_any Qe p.kind ps.v (.slice ad p.parts.length cap) p.code body w' rfl (okb.holds hw' rfl) (by rw [lb]; omega) hc
    have hbw : (bodyW Qe p.code body.l).length ≤ 1000000 := by
      unfold bodyW
      rcases hc with h | h
      · rw [h, if_neg (by decide), if_neg (by decide), lb]; omega
      · rw [h, if_pos rfl]
        have h1 := Arm.lnB_len (Arm.encB body.l) (Arm.encB body.l).length
        have h2 := Arm.encB_len body.l
        unfold Arm.linesB
        rw [lb] at h1 h2 ⊢
        omega
    rw [lb] at cb hbw
    rw [hWv] at hLeaf
    generalize bodyW Qe p.code p.body = BB at cb hLeaf hbw
    cases g1 : decide ((0 : Int) < (p.parts.length : Int))
    rotate_left
    · rw [if_pos (.inr (.inr (fun h => by rw [h] at g1; cases g1)))] at hLeaf
      rw [hLeaf]
      repeat (first | refine JL.q (by first | (apply OQ.load_agg (cs := [Z p.kind, ps.v, .int .i64 p.code, body.v, .slice ad p.parts.length cap]); exact ptA9; exact ptS; exact rfl; exact (.there .here); exact rfl; exact Row.all) | (apply OQ.callx (vs := [.agg #[Z p.kind, ps.v, .int .i64 p.code, body.v, .slice ad p.parts.length cap]]); exact goes_hasp; exact rfl; exact (fun w' _ => ch w'))) rfl ?_ | refine JC.seq ?_ | refine JC.region ?_ | refine JL.nil ?_ | refine JE.next ?_)
      refine JC.cond rfl (fun h => by cases h) (fun _ => ?_)
      repeat (first | refine JL.q (by first | (apply OQ.load; exact inC12w; exact rfl; exact (.there .here); exact (Row.cell (v := .int .i64 p.code) rfl)) | (apply OQ.callx (vs := [.int .i64 p.code]); exact goes_nameof; exact rfl; exact (cn _)) | (apply OQ.extract; exact rfl; exact rfl) | (apply OQ.not; exact rfl) | (apply OQ.load; exact ptC12; exact rfl; exact (.there .here); exact (Row.cell (v := .slice ad p.parts.length cap) rfl)) | (apply OQ.len; exact Tryz.underlying57; exact rfl) | (apply OQ.gtrB (b := 0); exact rfl; exact rfl; exact g1) | (apply OQ.pick_f; exact rfl; exact rfl) | (apply OQ.move; exact rfl) | (apply OQ.assign; exact rfl) | (apply OQ.fld; exact rfl; exact rfl; exact rfl; exact (by decide); exact rfl)) rfl ?_ | refine JC.seq ?_ | refine JC.region ?_ | refine JL.nil ?_ | refine JE.next ?_ | refine JL.gon rfl rfl ?_)
      refine JC.cond rfl (fun _ => ?_) (fun h => by cases h)
      repeat (first | refine JL.q (by (apply build_L0)) rfl ?_ | refine JC.seq ?_ | refine JC.region ?_)
      refine JL.store_all (cs := [nil2.v, nilS.v]) ltS12 rfl rfl rfl rfl .here rfl ?_
      repeat (first | refine JL.q (by (apply OQ.assign; exact rfl)) rfl ?_ | refine JL.nil ?_ | refine JE.next ?_)
      refine JC.ret ?_
      repeat (refine JE.then_ret ?_)
      exact JE.ret3 rfl (RV.cell_agg ltA12 ltS12 rfl .here rfl Row.all) (RV.tmp rfl) (RV.tmp rfl) fun w' hw => ⟨WA.err, rfl, hw.weak (.nil _)⟩
    rw [if_neg (by
      rintro (h | h | h)
      · omega
      · omega
      · exact h (List.length_eq_zero_iff.1 (by have := of_decide_eq_false g1; omega)))] at hLeaf
    repeat (first | refine JL.q (by first | (apply OQ.load_agg (cs := [Z p.kind, ps.v, .int .i64 p.code, body.v, .slice ad p.parts.length cap]); exact ptA9; exact ptS; exact rfl; exact (.there .here); exact rfl; exact Row.all) | (apply OQ.callx (vs := [.agg #[Z p.kind, ps.v, .int .i64 p.code, body.v, .slice ad p.parts.length cap]]); exact goes_hasp; exact rfl; exact (fun w' _ => ch w'))) rfl ?_ | refine JC.seq ?_ | refine JC.region ?_ | refine JL.nil ?_ | refine JE.next ?_)
    refine JC.cond rfl (fun h => by cases h) (fun _ => ?_)
    repeat (first | refine JL.q (by first | (apply OQ.load; exact inC12w; exact rfl; exact (.there .here); exact (Row.cell (v := .int .i64 p.code) rfl)) | (apply OQ.callx (vs := [.int .i64 p.code]); exact goes_nameof; exact rfl; exact (cn _)) | (apply OQ.extract; exact rfl; exact rfl) | (apply OQ.not; exact rfl) | (apply OQ.load; exact ptC12; exact rfl; exact (.there .here); exact (Row.cell (v := .slice ad p.parts.length cap) rfl)) | (apply OQ.len; exact Tryz.underlying57; exact rfl) | (apply OQ.gtrB (b := 0); exact rfl; exact rfl; exact g1) | (apply OQ.pick_f; exact rfl; exact rfl) | (apply OQ.move; exact rfl) | (apply OQ.assign; exact rfl) | (apply OQ.fld; exact rfl; exact rfl; exact rfl; exact (by decide); exact rfl)) rfl ?_ | refine JC.seq ?_ | refine JC.region ?_ | refine JL.nil ?_ | refine JE.next ?_ | refine JL.gon rfl rfl ?_)
    refine JC.cond rfl (fun h => by cases h) (fun _ => ?_)
    repeat (first | refine JL.q (by first | (apply OQ.load; exact fsC12; exact rfl; exact .here; exact (Row.cell (v := accV (some (b5, 1)) [(ctW, W)].length) rfl)) | (apply OQ.buildF (a := ceW) (b := C); exact rfl; exact rfl) | (apply OQ.move; exact rfl) | (apply OQ.fld; exact rfl; exact rfl; exact rfl; exact (by decide); exact rfl)) rfl ?_ | refine JC.seq ?_ | refine JC.region ?_ | refine JC.skip ?_ | refine JE.next ?_)
    refine JL.litA (cs := pc (ceW, C)) Tryz.underlying27 fieldI rfl (by decide) (by decide) rfl rfl rfl fun b6 _ => ?_
    refine JL.perm (M' := ⟨b6, Row 65 ([(ceW, C)].flatMap pc), true⟩ :: (accP 65 (some (b5, 1)) [(ctW, W)] ++ [⟨b4, Row 29 [accV (some (b5, 1)) [(ctW, W)].length, nilS.v], true⟩, ⟨b2, Row 59 [Z p.kind, ps.v, .int .i64 p.code, body.v, .slice ad p.parts.length cap], true⟩])) ?_ (List.Perm.cons _ (wperm6 _ _ _))
    refine JL.appendPP (L2 := [(ceW, C)]) (L := [(ctW, W)]) (some (b5, 1)) Tryz.underlying27 fieldI nofun rfl (Nat.zero_lt_succ _) rfl rfl rfl (by show (1 + 1) * 32 ≤ 140737488355328; decide) (by show 1 + 1 < 9223372036854775808; decide) rfl fun b7 cap7 => ?_
    refine JL.perm (M' := ⟨b4, Row 29 [accV (some (b5, 1)) [(ctW, W)].length, nilS.v], true⟩ :: ⟨b2, Row 59 [Z p.kind, ps.v, .int .i64 p.code, body.v, .slice ad p.parts.length cap], true⟩ :: (accP 65 (some (b7, cap7)) [(ctW, W), (ceW, C)] ++ [])) ?_ (wperm6 _ _ _).symm
    repeat (refine JL.q (by (apply OQ.fld; exact rfl; exact rfl; exact rfl; exact (by decide); exact rfl)) rfl ?_)
    refine JL.store_eq (b := b4) (r := [accV (some (b5, 1)) [(ctW, W)].length, nilS.v]) (r' := [accV (some (b7, cap7)) [(ctW, W), (ceW, C)].length, nilS.v]) rfl rfl rfl rfl rfl .here (show 0 < 2 from Nat.zero_lt_succ _) rfl ?_
    repeat (first | refine JL.q (by (apply OQ.load_agg (cs := [Z p.kind, ps.v, .int .i64 p.code, body.v, .slice ad p.parts.length cap]); exact ptA9; exact ptS; exact rfl; exact (.there .here); exact rfl; exact Row.all)) rfl ?_ | refine JC.region ?_ | refine JL.nil ?_ | refine JE.next ?_)
    refine JL.callg (ι := { y : Sl8 // Ans y BB }) (vs := [.agg #[Z p.kind, ps.v, .int .i64 p.code, body.v, .slice ad p.parts.length cap]]) (fun y => y.1.v) (fun y => y.1.ents) goes_wbody rfl rfl (fun y => y.1.ents_wr) (cb _) ?_
    intro y
    refine JL.perm (M' := ⟨b4, Row 29 [accV (some (b7, cap7)) [(ctW, W), (ceW, C)].length, nilS.v], true⟩ :: ⟨b2, Row 59 [Z p.kind, ps.v, .int .i64 p.code, body.v, .slice ad p.parts.length cap], true⟩ :: (accP 65 (some (b7, cap7)) [(ctW, W), (ceW, C)] ++ (y.1.ents ++ []))) ?_ (wperm8 y.1.ents _ _ _)
    repeat (refine JL.q (by (apply OQ.fld; exact rfl; exact rfl; exact rfl; exact (by decide); exact rfl)) rfl ?_)
    refine JL.store_eq (b := b4) (j := 1) (r := [accV (some (b7, cap7)) [(ctW, W), (ceW, C)].length, nilS.v]) (r' := [accV (some (b7, cap7)) [(ctW, W), (ceW, C)].length, y.1.v]) rfl rfl rfl rfl rfl .here (show 1 < 2 by decide) rfl ?_
    have hF1 : [(ctW, W), (ceW, C)].length ≤ 1000000 := by show 2 ≤ 1000000; decide
    have hF2 : ∀ q ∈ [(ctW, W), (ceW, C)], q.1.length < 9223372036854775808 ∧ q.2.length < 9223372036854775808 := by
      intro q hq
      simp only [List.mem_cons, List.not_mem_nil, or_false] at hq
      have e1 : ctW.length = 12 := rfl
      have e2 : ceW.length = 25 := rfl
      rcases hq with rfl | rfl <;> dsimp only <;> omega
    have cl : ∀ w', Holds w [] (⟨b4, Row 29 [accV (some (b7, cap7)) [(ctW, W), (ceW, C)].length, y.1.v], true⟩ :: ⟨b2, Row 59 [Z p.kind, ps.v, .int .i64 p.code, body.v, .slice ad p.parts.length cap], true⟩ :: (accP 65 (some (b7, cap7)) [(ctW, W), (ceW, C)] ++ (y.1.ents ++ []))) w' → Calls Tryz.prog 15 [.agg #[accV (some (b7, cap7)) [(ctW, W), (ceW, C)].length, y.1.v]].toArray w' fun e w2 => ∃ z : { z : Sl8 // Ans z (writeO [(ctW, W), (ceW, C)] BB) }, e = .returned (.tuple #[z.1.v, N (writeK [(ctW, W), (ceW, C)] BB)]) ∧ Holds w' [] z.1.ents w2 := fun w' hw' => by
      have okf : (accLp (some (b7, cap7)) [(ctW, W), (ceW, C)]).ok w' := accLp_ok (Sl.Holds.weak hw' (.drop _ _ _ (.drop _ _ _ (Less.refl _))))
      have oks : y.1.ok w' := Sl8.ents_ok (Sl.Holds.weak hw' (.drop _ _ _ (.drop _ _ _ (less_app _ (Less.refl _))))) y.2.none
      have h1 := lwriteN_any _ _ w' okf oks (fun q hq => hF2 q hq) (by show [(ctW, W), (ceW, C)].length ≤ _; exact hF1) (by rw [y.2.val]; omega)
      rw [accLp_v, y.2.val] at h1
      exact h1
    repeat (first | refine JL.q (by first | (apply OQ.neB (a := ((0 : Nat) : Int)) (b := 0); exact rfl; exact rfl; exact h00) | (apply OQ.move; exact rfl)) rfl ?_ | refine JC.seq ?_ | refine JC.region ?_ | refine JL.nil ?_ | refine JE.next ?_)
    refine JC.cond rfl (fun h => by cases h) (fun _ => ?_)
    repeat (first | refine JL.q (by (apply OQ.load_agg (cs := [accV (some (b7, cap7)) [(ctW, W), (ceW, C)].length, y.1.v]); exact ltA12; exact ltS12; exact rfl; exact .here; exact rfl; exact Row.all)) rfl ?_ | refine JC.seq ?_ | refine JC.region ?_ | refine JC.skip ?_ | refine JE.next ?_)
    refine JL.callg (ι := { z : Sl8 // Ans z (writeO [(ctW, W), (ceW, C)] BB) }) (vs := [.agg #[accV (some (b7, cap7)) [(ctW, W), (ceW, C)].length, y.1.v]]) (fun z => .tuple #[z.1.v, N (writeK [(ctW, W), (ceW, C)] BB)]) (fun z => z.1.ents) goes_lwriteM rfl rfl (fun z => z.1.ents_wr) cl ?_
    intro z
    refine JL.perm (M' := ⟨b4, Row 29 [accV (some (b7, cap7)) [(ctW, W), (ceW, C)].length, y.1.v], true⟩ :: ⟨b2, Row 59 [Z p.kind, ps.v, .int .i64 p.code, body.v, .slice ad p.parts.length cap], true⟩ :: (accP 65 (some (b7, cap7)) [(ctW, W), (ceW, C)] ++ (y.1.ents ++ (z.1.ents ++ [])))) ?_ (wperm9 z.1.ents _ _ _ _)
    rcases finW_is [(ctW, W), (ceW, C)] BB with ⟨hk, hW⟩ | ⟨hk, hW⟩
    · rw [hLeaf, hW]
      rw [hk]
      repeat (first | refine JL.q (by first | (apply OQ.extract; exact rfl; exact rfl) | (apply OQ.neB (a := ((0 : Nat) : Int)) (b := 0); exact rfl; exact rfl; exact h00) | (apply OQ.move; exact rfl) | (apply OQ.assign; exact rfl)) rfl ?_ | refine JC.seq ?_ | refine JC.region ?_ | refine JL.nil ?_ | refine JE.next ?_)
      refine JC.cond rfl (fun h => by cases h) (fun _ => ?_)
      repeat (first | refine JL.q (by first | (apply OQ.load_agg (cs := [accV (some (b7, cap7)) [(ctW, W), (ceW, C)].length, y.1.v]); exact ltA12; exact ltS12; exact rfl; exact .here; exact rfl; exact Row.all) | (apply OQ.move; exact rfl)) rfl ?_ | refine JC.seq ?_ | refine JC.region ?_ | refine JC.skip ?_ | refine JE.next ?_)
      refine JL.store_all (cs := [accV (some (b7, cap7)) [(ctW, W), (ceW, C)].length, y.1.v]) ltS12 rfl rfl rfl rfl .here rfl ?_
      repeat (first | refine JL.q (by (apply OQ.assign; exact rfl)) rfl ?_ | refine JL.nil ?_ | refine JE.next ?_)
      refine JC.ret ?_
      skip
      refine JE.ret3 rfl (RV.cell_agg (cs := [accV (some (b7, cap7)) [(ctW, W), (ceW, C)].length, y.1.v]) ltA12 ltS12 rfl .here rfl Row.all) (RV.tmp rfl) (RV.tmp rfl) fun w' hw => ⟨⟨accLp (some (b7, cap7)) [(ctW, W), (ceW, C)], y.1, z.1, rfl, y.2.val, fun x hx => ?_, accLp_n, y.2.none, z.2.none⟩, ?_, ?_⟩
      · cases hx
        exact z.2.val
      · show _ = Ending.returned (.tuple #[.agg #[(accLp (some (b7, cap7)) [(ctW, W), (ceW, C)]).v, y.1.v], z.1.v, _])
        rw [accLp_v]
        rfl
      · have h1 : Holds w [] (accP 65 (some (b7, cap7)) [(ctW, W), (ceW, C)] ++ (y.1.ents ++ z.1.ents)) w' := Sl.Holds.weak hw (.drop _ _ _ (.drop _ _ _ (less_app2 (less_app2 (less_pre _ _) _) _)))
        show Holds w [] ((accLp (some (b7, cap7)) [(ctW, W), (ceW, C)]).ents ++ (y.1.ents ++ z.1.ents)) w'
        exact Sl.Holds.weak h1 (less_appR (accP_ents _ _) _)
    · rw [hLeaf, hW]
      have hne : decide ((writeK [(ctW, W), (ceW, C)] BB : Int) = 0) = false := decide_eq_false (by omega)
      repeat (first | refine JL.q (by first | (apply OQ.extract; exact rfl; exact rfl) | (apply OQ.neB (b := 0); exact rfl; exact rfl; exact hne) | (apply OQ.move; exact rfl) | (apply OQ.assign; exact rfl)) rfl ?_ | refine JC.seq ?_ | refine JC.region ?_ | refine JL.nil ?_ | refine JE.next ?_)
      refine JC.cond rfl (fun _ => ?_) (fun h => by cases h)
      repeat (first | refine JL.q (by first | (apply build_L0) | (apply OQ.move; exact rfl)) rfl ?_ | refine JC.seq ?_ | refine JC.region ?_)
      refine JL.store_all (cs := [nil2.v, nilS.v]) ltS12 rfl rfl rfl rfl .here rfl ?_
      repeat (first | refine JL.q (by (apply OQ.assign; exact rfl)) rfl ?_ | refine JL.nil ?_ | refine JE.next ?_)
      refine JC.ret ?_
      repeat (refine JE.then_ret ?_)
      exact JE.ret3 rfl (RV.cell_agg ltA12 ltS12 rfl .here rfl Row.all) (RV.tmp rfl) (RV.tmp rfl) fun w' hw => ⟨WA.err, rfl, hw.weak (.nil _)⟩
  · rw [hMu] at ch
    have hMul := writeP_multi Qe k hR hMu
    rw [hWv] at hMul
    have hpn : ∀ e, partsW (subW Qe k) p = .error e → e ≠ 0 := fun e he => partsW_ne (fun g hg q e' hq' => by
      cases k with
      | zero => cases hg
      | succ k => cases hg; exact writeP_ne Qe k hq') he
    have hbl : ∀ b, partsW (subW Qe k) p = .ok b → b.length ≤ 4294967296 := fun b hb => by
      have := partsW_len Qe k hb (by
        unfold parB
        cases hf : p.ps.find? fun q => decide (q.1 = bdN) with
        | none => exact Nat.zero_le _
        | some q => exact (l3 q (List.mem_of_find?_eq_some hf)).2) l7
      omega
    generalize partsW (subW Qe k) p = R at cwp hMul hpn hbl
    repeat (first | refine JL.q (by first | (apply OQ.load_agg (cs := [Z p.kind, ps.v, .int .i64 p.code, body.v, .slice ad p.parts.length cap]); exact ptA9; exact ptS; exact rfl; exact (.there .here); exact rfl; exact Row.all) | (apply OQ.callx (vs := [.agg #[Z p.kind, ps.v, .int .i64 p.code, body.v, .slice ad p.parts.length cap]]); exact goes_hasp; exact rfl; exact (fun w' _ => ch w'))) rfl ?_ | refine JC.seq ?_ | refine JC.region ?_ | refine JL.nil ?_ | refine JE.next ?_)
    refine JC.cond rfl (fun _ => ?_) (fun h => by cases h)
    repeat (first | refine JL.q (by first | (apply OQ.load_agg (cs := [Z p.kind, ps.v, .int .i64 p.code, body.v, .slice ad p.parts.length cap]); exact ptA9; exact ptS; exact rfl; exact (.there .here); exact rfl; exact Row.all) | (apply OQ.move; exact rfl)) rfl ?_ | refine JC.region ?_)
    refine JL.callg (ι := { y : Sl8 // Ans y (okB R) }) (vs := [.agg #[Z p.kind, ps.v, .int .i64 p.code, body.v, .slice ad p.parts.length cap], N others]) (fun y => .tuple #[y.1.v, N (codeL R)]) (fun y => y.1.ents) goes_wparts rfl rfl (fun y => y.1.ents_wr) (cwp _) ?_
    intro y
    refine JL.perm (M' := ⟨b4, Row 29 [accV (some (b5, 1)) [(ctW, W)].length, nilS.v], true⟩ :: ⟨b2, Row 59 [Z p.kind, ps.v, .int .i64 p.code, body.v, .slice ad p.parts.length cap], true⟩ :: (accP 65 (some (b5, 1)) [(ctW, W)] ++ (y.1.ents ++ []))) ?_ (wperm8 y.1.ents _ _ _)
    repeat (refine JL.q (by first | (apply OQ.extract; exact rfl; exact rfl) | (apply OQ.move; exact rfl) | (apply OQ.fld; exact rfl; exact rfl; exact rfl; exact (by decide); exact rfl)) rfl ?_)
    refine JL.store_eq (b := b4) (j := 1) (r := [accV (some (b5, 1)) [(ctW, W)].length, nilS.v]) (r' := [accV (some (b5, 1)) [(ctW, W)].length, y.1.v]) rfl rfl rfl rfl rfl .here (show 1 < 2 by decide) rfl ?_
    cases R with
    | error e =>
      have hMul : writeP Qe k p = .error e := hMul
      have hne : decide ((e : Int) = 0) = false := decide_eq_false (by have := hpn e rfl; omega)
      rw [hMul]
      repeat (first | refine JL.q (by first | (apply OQ.neB (a := (e : Int)) (b := 0); exact rfl; exact rfl; exact hne) | (apply OQ.move; exact rfl) | (apply OQ.assign; exact rfl)) rfl ?_ | refine JC.seq ?_ | refine JC.region ?_ | refine JL.nil ?_ | refine JE.next ?_)
      refine JC.cond rfl (fun _ => ?_) (fun h => by cases h)
      repeat (first | refine JL.q (by first | (apply build_L0) | (apply OQ.move; exact rfl)) rfl ?_ | refine JC.seq ?_ | refine JC.region ?_)
      refine JL.store_all (cs := [nil2.v, nilS.v]) ltS12 rfl rfl rfl rfl .here rfl ?_
      repeat (first | refine JL.q (by (apply OQ.assign; exact rfl)) rfl ?_ | refine JL.nil ?_ | refine JE.next ?_)
      refine JC.ret ?_
      repeat (refine JE.then_ret ?_)
      exact JE.ret3 rfl (RV.cell_agg ltA12 ltS12 rfl .here rfl Row.all) (RV.tmp rfl) (RV.tmp rfl) fun w' hw => ⟨WA.err, rfl, hw.weak (.nil _)⟩
    | ok BB =>
      have hMul : writeP Qe k p = finW [(ctW, W)] BB := hMul
      have hbw := hbl BB rfl
      obtain ⟨y, hy⟩ := y
      have hy : Ans y BB := hy
      have hF1 : [(ctW, W)].length ≤ 1000000 := by show 1 ≤ 1000000; decide
      have hF2 : ∀ q ∈ [(ctW, W)], q.1.length < 9223372036854775808 ∧ q.2.length < 9223372036854775808 := by
        intro q hq
        have e1 : ctW.length = 12 := rfl
        rw [List.mem_singleton.1 hq]
        dsimp only
        omega
      have cl : ∀ w', Holds w [] (⟨b4, Row 29 [accV (some (b5, 1)) [(ctW, W)].length, y.v], true⟩ :: ⟨b2, Row 59 [Z p.kind, ps.v, .int .i64 p.code, body.v, .slice ad p.parts.length cap], true⟩ :: (accP 65 (some (b5, 1)) [(ctW, W)] ++ (y.ents ++ []))) w' → Calls Tryz.prog 15 [.agg #[accV (some (b5, 1)) [(ctW, W)].length, y.v]].toArray w' fun e w2 => ∃ z : { z : Sl8 // Ans z (writeO [(ctW, W)] BB) }, e = .returned (.tuple #[z.1.v, N (writeK [(ctW, W)] BB)]) ∧ Holds w' [] z.1.ents w2 := fun w' hw' => by
        have okf : (accLp (some (b5, 1)) [(ctW, W)]).ok w' := accLp_ok (Sl.Holds.weak hw' (.drop _ _ _ (.drop _ _ _ (Less.refl _))))
        have oks : y.ok w' := Sl8.ents_ok (Sl.Holds.weak hw' (.drop _ _ _ (.drop _ _ _ (less_app _ (Less.refl _))))) hy.none
        have h1 := lwriteN_any _ _ w' okf oks (fun q hq => hF2 q hq) (by show [(ctW, W)].length ≤ _; exact hF1) (by rw [hy.val]; omega)
        rw [accLp_v, hy.val] at h1
        exact h1
      repeat (first | refine JL.q (by first | (apply OQ.neB (a := ((0 : Nat) : Int)) (b := 0); exact rfl; exact rfl; exact h00) | (apply OQ.move; exact rfl) | (apply OQ.assign; exact rfl)) rfl ?_ | refine JC.seq ?_ | refine JC.region ?_ | refine JL.nil ?_ | refine JE.next ?_)
      refine JC.cond rfl (fun h => by cases h) (fun _ => ?_)
      repeat (first | refine JL.q (by (apply OQ.load_agg (cs := [accV (some (b5, 1)) [(ctW, W)].length, y.v]); exact ltA12; exact ltS12; exact rfl; exact .here; exact rfl; exact Row.all)) rfl ?_ | refine JC.seq ?_ | refine JC.region ?_ | refine JC.skip ?_ | refine JE.next ?_)
      refine JL.callg (ι := { z : Sl8 // Ans z (writeO [(ctW, W)] BB) }) (vs := [.agg #[accV (some (b5, 1)) [(ctW, W)].length, y.v]]) (fun z => .tuple #[z.1.v, N (writeK [(ctW, W)] BB)]) (fun z => z.1.ents) goes_lwriteM rfl rfl (fun z => z.1.ents_wr) cl ?_
      intro z
      refine JL.perm (M' := ⟨b4, Row 29 [accV (some (b5, 1)) [(ctW, W)].length, y.v], true⟩ :: ⟨b2, Row 59 [Z p.kind, ps.v, .int .i64 p.code, body.v, .slice ad p.parts.length cap], true⟩ :: (accP 65 (some (b5, 1)) [(ctW, W)] ++ (y.ents ++ (z.1.ents ++ [])))) ?_ (wperm9 z.1.ents _ _ _ _)
      rcases finW_is [(ctW, W)] BB with ⟨hk, hW⟩ | ⟨hk, hW⟩
      · rw [hMul, hW]
        rw [hk]
        repeat (first | refine JL.q (by first | (apply OQ.extract; exact rfl; exact rfl) | (apply OQ.neB (a := ((0 : Nat) : Int)) (b := 0); exact rfl; exact rfl; exact h00) | (apply OQ.move; exact rfl) | (apply OQ.assign; exact rfl)) rfl ?_ | refine JC.seq ?_ | refine JC.region ?_ | refine JL.nil ?_ | refine JE.next ?_)
        refine JC.cond rfl (fun h => by cases h) (fun _ => ?_)
        repeat (first | refine JL.q (by first | (apply OQ.load_agg (cs := [accV (some (b5, 1)) [(ctW, W)].length, y.v]); exact ltA12; exact ltS12; exact rfl; exact .here; exact rfl; exact Row.all) | (apply OQ.move; exact rfl)) rfl ?_ | refine JC.seq ?_ | refine JC.region ?_ | refine JC.skip ?_ | refine JE.next ?_)
        refine JL.store_all (cs := [accV (some (b5, 1)) [(ctW, W)].length, y.v]) ltS12 rfl rfl rfl rfl .here rfl ?_
        repeat (first | refine JL.q (by (apply OQ.assign; exact rfl)) rfl ?_ | refine JL.nil ?_ | refine JE.next ?_)
        refine JC.ret ?_
        skip
        refine JE.ret3 rfl (RV.cell_agg (cs := [accV (some (b5, 1)) [(ctW, W)].length, y.v]) ltA12 ltS12 rfl .here rfl Row.all) (RV.tmp rfl) (RV.tmp rfl) fun w' hw => ⟨⟨accLp (some (b5, 1)) [(ctW, W)], y, z.1, rfl, hy.val, fun x hx => ?_, accLp_n, hy.none, z.2.none⟩, ?_, ?_⟩
        · cases hx
          exact z.2.val
        · show _ = Ending.returned (.tuple #[.agg #[(accLp (some (b5, 1)) [(ctW, W)]).v, y.v], z.1.v, _])
          rw [accLp_v]
          rfl
        · have h1 : Holds w [] (accP 65 (some (b5, 1)) [(ctW, W)] ++ (y.ents ++ z.1.ents)) w' := Sl.Holds.weak hw (.drop _ _ _ (.drop _ _ _ (less_app2 (less_app2 (less_pre _ _) _) _)))
          show Holds w [] ((accLp (some (b5, 1)) [(ctW, W)]).ents ++ (y.ents ++ z.1.ents)) w'
          exact Sl.Holds.weak h1 (less_appR (accP_ents _ _) _)
      · rw [hMul, hW]
        have hne : decide ((writeK [(ctW, W)] BB : Int) = 0) = false := decide_eq_false (by omega)
        repeat (first | refine JL.q (by first | (apply OQ.extract; exact rfl; exact rfl) | (apply OQ.neB (b := 0); exact rfl; exact rfl; exact hne) | (apply OQ.move; exact rfl) | (apply OQ.assign; exact rfl)) rfl ?_ | refine JC.seq ?_ | refine JC.region ?_ | refine JL.nil ?_ | refine JE.next ?_)
        refine JC.cond rfl (fun _ => ?_) (fun h => by cases h)
        repeat (first | refine JL.q (by first | (apply build_L0) | (apply OQ.move; exact rfl)) rfl ?_ | refine JC.seq ?_ | refine JC.region ?_)
        refine JL.store_all (cs := [nil2.v, nilS.v]) ltS12 rfl rfl rfl rfl .here rfl ?_
        repeat (first | refine JL.q (by (apply OQ.assign; exact rfl)) rfl ?_ | refine JL.nil ?_ | refine JE.next ?_)
        refine JC.ret ?_
        repeat (refine JE.then_ret ?_)
        exact JE.ret3 rfl (RV.cell_agg ltA12 ltS12 rfl .here rfl Row.all) (RV.tmp rfl) (RV.tmp rfl) fun w' hw => ⟨WA.err, rfl, hw.weak (.nil _)⟩
theorem write_any (Qe : List Fld.By → List Fld.By) : ∀ (k others : Nat), k + others = 8 → WritesAs Qe k others
  | 0, others, h => write_step Qe 0 others h nofun
  | k + 1, others, h => write_step Qe (k + 1) others h fun k' e => by
    cases e
    exact write_any Qe k (others + 1) (by omega)
end Go.Proofs.YtdabhneehconeaaGreatDoor

/-
  Of no statement by itself: what the landed pack's fieldsOf and partOf give.
  Conditions: each theorem's own.
-/
namespace Go.Proofs.YtdabhneehconeaaGreatDoor
set_option maxRecDepth 10000
open Sl Fld Tok Mim Pck
theorem goes_flds : Goes Tryz.prog 27 := ⟨_, Tryz.func27, rfl, by kernel_rfl⟩
theorem goes_part : Goes Tryz.prog 26 := ⟨_, Tryz.func26, rfl, by kernel_rfl⟩
theorem pack_aenc : Goes Tryz.prog 48 := ⟨_, Tryz.func48, rfl, by kernel_rfl⟩
theorem row_ownN {e : TypeId} {sz n : Nat} {r : List Value} (h : r.length = n * sz) : ∀ o, Row e r o → Sl.Own e sz n n r o := by
  rintro o rfl
  exact ⟨[], by simp, by simp [h], h, Nat.le_refl _⟩
def four (e : Evp) : List Pr := [(frW, e.fr), (toW, e.to), (idW, 60 :: e.id ++ [62]), (thW, 60 :: e.th ++ [62])]
set_option maxHeartbeats 16000000 in
theorem flds_any (e : EnS) (w : World) (he : e.ok w) (hlo : e.low) : Calls Tryz.prog 27 [.agg e.cs.toArray].toArray w fun x w' => ∃ r : Nat × Nat, x = .returned (accV (some r) (fieldsE e.en).length) ∧ Holds w [] (accP 65 (some r) (fieldsE e.en)) w' := by
  have l3 := hlo.id
  have l4 := hlo.th
  have l6 := hlo.bu
  refine enter (n := 33) Tryz.func27 rfl rfl rfl (Holds.start w []) ?_
  refine JC.seq (JC.region (JL.box (r := e.cs) rfl rfl rfl fun b1 _ => ?_))
  repeat (first | refine JL.q (by first | (apply OQ.load; exact strC; exact rfl; exact .here; exact (Row.cell (v := Z e.fr) rfl)) | (apply OQ.load; exact strC; exact rfl; exact .here; exact (Row.cell (v := Z e.to) rfl)) | (apply OQ.load; exact strC; exact rfl; exact .here; exact (Row.cell (v := Z e.id) rfl)) | (apply OQ.load; exact strC; exact rfl; exact .here; exact (Row.cell (v := Z e.th) rfl)) | (apply OQ.addS (l := [60]) (r := e.id); exact rfl; exact rfl; exact (by simp; omega)) | (apply OQ.addS (l := 60 :: e.id) (r := [62]); exact rfl; exact rfl; exact (by simp; omega)) | (apply OQ.addS (l := [60]) (r := e.th); exact rfl; exact rfl; exact (by simp; omega)) | (apply OQ.addS (l := 60 :: e.th) (r := [62]); exact rfl; exact rfl; exact (by simp; omega)) | (apply OQ.buildF (a := frW) (b := e.fr); exact rfl; exact rfl) | (apply OQ.buildF (a := toW) (b := e.to); exact rfl; exact rfl) | (apply OQ.buildF (a := idW) (b := 60 :: e.id ++ [62]); exact rfl; exact rfl) | (apply OQ.buildF (a := thW) (b := 60 :: e.th ++ [62]); exact rfl; exact rfl) | (apply OQ.assign; exact rfl) | (apply OQ.fld; exact rfl; exact rfl; exact rfl; exact (by decide); exact rfl)) rfl ?_ | refine JC.seq ?_ | refine JC.region ?_ | refine JL.nil ?_ | refine JE.next ?_)
  refine JL.litN (xs := [.tmp 6, .tmp 9, .tmp 14, .tmp 19]) (css := (four e.en).map pc) Tryz.underlying27 fieldI (by decide) rfl rfl rfl (by decide) (by decide) (by intro c hc; obtain ⟨p, _, rfl⟩ := List.mem_map.1 hc; rfl) rfl fun b3 _ => ?_
  refine JL.less (M' := accP 65 (some (b3, 4)) (four e.en) ++ [⟨b1, Row 24 e.cs, true⟩]) (.keep _ _ _ _ _ _ (row_ownN rfl) (Less.refl _)) ?_
  have eF : fieldsE e.en = four e.en ++ (if e.bu.l = [] then [] else [(keW, Arm.encB e.bu.l)]) := rfl
  rw [eF]
  cases g0 : decide ((0 : Int) < (e.bu.l.length : Int))
  · rw [if_pos (List.eq_nil_of_length_eq_zero (by have := of_decide_eq_false g0; omega)), List.append_nil]
    repeat (first | refine JL.q (by first | (apply OQ.load; exact bsCP; exact rfl; exact (.there .here); exact (Row.cell (v := e.bu.v) rfl)) | (apply OQ.len; exact Tryz.underlying22; exact rfl) | (apply OQ.gtrB (b := 0); exact rfl; exact rfl; exact g0) | (apply OQ.assign; exact rfl) | (apply OQ.fld; exact rfl; exact rfl; exact rfl; exact (by decide); exact rfl)) rfl ?_ | refine JC.seq ?_ | refine JC.region ?_ | refine JL.nil ?_ | refine JE.next ?_)
    refine JC.cond rfl (fun h => by cases h) (fun _ => ?_)
    repeat (first | refine JL.q (by first | (apply OQ.move; exact rfl) | (apply OQ.assign; exact rfl)) rfl ?_ | refine JC.seq ?_ | refine JC.region ?_ | refine JC.skip ?_ | refine JL.nil ?_ | refine JE.next ?_)
    refine JC.ret ?_
    skip
    exact JE.ret1 rfl (RV.tmp rfl) fun w' hw => ⟨(b3, 4), rfl, hw.weak (less_pre _ _)⟩
  · rw [if_neg (fun h => by have := of_decide_eq_true g0; rw [h] at this; simp at this)]
    repeat (first | refine JL.q (by first | (apply OQ.load; exact bsCP; exact rfl; exact (.there .here); exact (Row.cell (v := e.bu.v) rfl)) | (apply OQ.len; exact Tryz.underlying22; exact rfl) | (apply OQ.gtrB (b := 0); exact rfl; exact rfl; exact g0) | (apply OQ.assign; exact rfl) | (apply OQ.fld; exact rfl; exact rfl; exact rfl; exact (by decide); exact rfl)) rfl ?_ | refine JC.seq ?_ | refine JC.region ?_ | refine JL.nil ?_ | refine JE.next ?_)
    refine JC.cond rfl (fun _ => ?_) (fun h => by cases h)
    repeat (first | refine JL.q (by first | (apply OQ.load; exact bsCP; exact rfl; exact (.there .here); exact (Row.cell (v := e.bu.v) rfl)) | (apply OQ.callx (vs := [e.bu.v]); exact pack_aenc; exact rfl; exact (fun w' hw' => aenc_any e.bu w' (he.bu.holds hw' rfl) (by omega))) | (apply OQ.buildF (a := keW) (b := Arm.encB e.bu.l); exact rfl; exact rfl) | (apply OQ.move; exact rfl) | (apply OQ.fld; exact rfl; exact rfl; exact rfl; exact (by decide); exact rfl)) rfl ?_ | refine JC.region ?_)
    refine JL.litA (cs := pc (keW, Arm.encB e.bu.l)) Tryz.underlying27 fieldI rfl (by decide) (by decide) rfl rfl rfl fun bl _ => ?_
    refine JL.perm (M' := ⟨bl, Row 65 (pc (keW, Arm.encB e.bu.l)), true⟩ :: ⟨b1, Row 24 e.cs, true⟩ :: (accP 65 (some (b3, 4)) (four e.en) ++ [])) ?_ (.cons _ (by rw [List.append_nil]; exact List.perm_append_comm (l₂ := [_])))
    refine JL.appendP (p := (keW, Arm.encB e.bu.l)) (L := four e.en) (some (b3, 4)) Tryz.underlying27 fieldI nofun rfl rfl rfl (show 5 * 32 ≤ 140737488355328 by decide) (show 5 < 9223372036854775808 by decide) rfl fun b' cap' => ?_
    repeat (first | refine JL.q (by first | (apply OQ.move; exact rfl) | (apply OQ.assign; exact rfl)) rfl ?_ | refine JC.seq ?_ | refine JC.region ?_ | refine JL.nil ?_ | refine JE.next ?_)
    refine JC.ret ?_
    skip
    exact JE.ret1 rfl (RV.tmp rfl) fun w' hw => ⟨(b', cap'), rfl, hw.weak (less_pre _ _)⟩
/-! ### the part -/
/-- the part of an envelope as an answer -/
structure PO (e : EnS) where
  cs : List Value
  M : List Ent
  len : cs.length = 5
  one : cs.all Value.oneCell' = true
  wr : ∀ x ∈ M, x.wr = true
  is : ∀ (w0 : World) (S : List Nat) (w' : World), e.ok w' → Holds w0 S M w' → IsPart 3 w' (partE e.en) cs
theorem OQ.buildLf {n : Nat} {E : Env} {C : World → Prop} {dst : Option Tmp} {ty : TypeId} {pos : String} {aft : Array Edge} {g : Option (Nat × Bool)} {y : Operand} {a : List Bt} {s : Sl8} (hy : ev E y = some s.v) : OQ Tryz.prog n E C ⟨dst, .build 59 #[(0, .const (Z a)), (2, .const (.int .i64 1)), (3, y)], ty, pos, aft, g⟩ (.agg ([Z a, nil2.v, .int .i64 1, s.v, .slice none 0 0] : List Value).toArray) := by
  refine OQ.run fun k hk w _ => ?_
  have h1 := hk.eval hy
  have h3 := run_build (P := Tryz.prog) w 59 #[(0, Z a), (2, .int .i64 1), (3, s.v)] ([Z a, nil2.v, .int .i64 1, s.v, .slice none 0 0] : List Value).toArray (by unfold Sl8.v; kernel_rfl)
  have e1 : ∀ v, k.eval (.const v) = v := fun _ => rfl
  simp [execOp, e1, h1, Sem.run_bind, h3]
theorem OQ.buildVe {n : Nat} {E : Env} {C : World → Prop} {dst : Option Tmp} {ty : TypeId} {pos : String} {aft : Array Edge} {g : Option (Nat × Bool)} {y : Operand} {a : List Bt} {b : Nat} (hy : ev E y = some (.slice (some ⟨b, 0, none⟩) 10 10)) : OQ Tryz.prog n E C ⟨dst, .build 59 #[(0, .const (Z a)), (3, y)], ty, pos, aft, g⟩ (.agg ([Z a, nil2.v, .int .i64 0, .slice (some ⟨b, 0, none⟩) 10 10, .slice none 0 0] : List Value).toArray) := by
  refine OQ.run fun k hk w _ => ?_
  have h1 := hk.eval hy
  have h3 := run_build (P := Tryz.prog) w 59 #[(0, Z a), (3, .slice (some ⟨b, 0, none⟩) 10 10)] ([Z a, nil2.v, .int .i64 0, .slice (some ⟨b, 0, none⟩) 10 10, .slice none 0 0] : List Value).toArray (by kernel_rfl)
  have e1 : ∀ v, k.eval (.const v) = v := fun _ => rfl
  simp [execOp, e1, h1, Sem.run_bind, h3]
theorem OQ.buildEn {n : Nat} {E : Env} {C : World → Prop} {dst : Option Tmp} {ty : TypeId} {pos : String} {aft : Array Edge} {g : Option (Nat × Bool)} {y z : Operand} {a : List Bt} {b c : Nat} (hy : ev E y = some (.slice (some ⟨b, 0, none⟩) 2 2)) (hz : ev E z = some (.slice (some ⟨c, 0, none⟩) 2 2)) : OQ Tryz.prog n E C ⟨dst, .build 59 #[(0, .const (Z a)), (1, y), (4, z)], ty, pos, aft, g⟩ (.agg ([Z a, .slice (some ⟨b, 0, none⟩) 2 2, .int .i64 0, nilS.v, .slice (some ⟨c, 0, none⟩) 2 2] : List Value).toArray) := by
  refine OQ.run fun k hk w _ => ?_
  have h1 := hk.eval hy
  have h2 := hk.eval hz
  have h3 := run_build (P := Tryz.prog) w 59 #[(0, Z a), (1, .slice (some ⟨b, 0, none⟩) 2 2), (4, .slice (some ⟨c, 0, none⟩) 2 2)] ([Z a, .slice (some ⟨b, 0, none⟩) 2 2, .int .i64 0, nilS.v, .slice (some ⟨c, 0, none⟩) 2 2] : List Value).toArray (by kernel_rfl)
  have e1 : ∀ v, k.eval (.const v) = v := fun _ => rfl
  simp [execOp, e1, h1, h2, Sem.run_bind, h3]
theorem buildPm {n : Nat} {E : Env} {C : World → Prop} {dst : Option Tmp} {ty : TypeId} {pos : String} {aft : Array Edge} {g : Option (Nat × Bool)} {a b : List Bt} : OQ Tryz.prog n E C ⟨dst, .build 63 #[(0, .const (Z a)), (1, .const (Z b))], ty, pos, aft, g⟩ (.agg (pc (a, b)).toArray) := OQ.pure rfl rfl (by kernel_rfl)
def leafV (k : List Bt) (s : Sl8) : List Value := [Z k, nil2.v, .int .i64 1, s.v, .slice none 0 0]
def verV (b : Nat) : List Value := [Z verK, nil2.v, .int .i64 0, .slice (some ⟨b, 0, none⟩) 10 10, .slice none 0 0]
theorem leafV_is {k : List Bt} {s : Sl8} {w : World} (h : s.ok w) : IsPart 1 w (.mk k [] 1 s.l []) (leafV k s) :=
  ⟨nil2, s, none, 0, [], rfl, ⟨nil2_ok w, rfl⟩, ⟨h, rfl⟩, Nat.le_refl _, Reads.nil _ _, rfl, nofun⟩
theorem sealV_is {e : EnS} {b4 b5 b6 : Nat} {w0 w : World} {S : List Nat} (he : e.ok w) (h0 : e.pl = false) (hw : Holds w0 S [⟨b6, Row 59 (verV b5 ++ leafV octK e.ci), true⟩, ⟨b5, Frz 5 (veB.map U8), true⟩, ⟨b4, Row 63 (pc (bdN, bdV) ++ pc (prN, verK)), true⟩] w) :
    IsPart 3 w (partE e.en) [Z encK, .slice (some ⟨b4, 0, none⟩) 2 2, .int .i64 0, nilS.v, .slice (some ⟨b6, 0, none⟩) 2 2] := by
  obtain ⟨o4, h4, a4⟩ := hw.get (b := b4) (.there (.there .here))
  obtain ⟨o5, h5, a5⟩ := hw.get (b := b5) (.there .here)
  obtain ⟨o6, h6, a6⟩ := hw.get (b := b6) .here
  have e0 : partE e.en = .mk encK parsE 0 [] [.mk verK [] 0 veB [], .mk octK [] 1 e.ci.l []] := by
    unfold partE
    rw [show e.en.pl = false from h0]
    rfl
  rw [e0]
  refine ⟨⟨some ⟨b4, 0, none⟩, 2, parsE⟩, nilS, some ⟨b6, 0, none⟩, 2, [verV b5, leafV octK e.ci], rfl, ⟨⟨show 2 ≤ 2 by decide, Reads.block h4 (Row.all _ a4)⟩, rfl⟩, ⟨nilS_ok w, rfl⟩, show 2 ≤ 2 by decide, Reads.block h6 (Row.all _ a6), rfl, fun i hi => ?_⟩
  have hi : i < 2 := hi
  match i, hi with
  | 0, _ => exact ⟨nil2, ⟨some ⟨b5, 0, none⟩, 10, veB⟩, none, 0, [], rfl, ⟨nil2_ok w, rfl⟩, ⟨⟨show 10 ≤ 10 by decide, Reads.block h5 (Frz.all _ a5)⟩, rfl⟩, Nat.le_refl _, Reads.nil _ _, rfl, nofun⟩
  | 1, _ => exact (leafV_is (k := octK) he.ci).up
set_option maxHeartbeats 16000000 in
theorem part_any (e : EnS) (w : World) (he : e.ok w) : Calls Tryz.prog 26 [.agg e.cs.toArray].toArray w fun x w' => ∃ y : PO e, x = .returned (.agg y.cs.toArray) ∧ Holds w [] y.M w' := by
  refine enter (n := 20) Tryz.func26 rfl rfl rfl (Holds.start w []) ?_
  refine JC.seq (JC.region (JL.box (r := e.cs) rfl rfl rfl fun b1 _ => ?_))
  refine JL.alloc (r := pz) ?_ ?_ fun b2 _ => ?_
  exact ptZ9
  rfl
  repeat (first | refine JL.q (by first | (apply OQ.load; exact bsCP; exact rfl; exact (.there .here); exact (Row.cell (v := e.ci.v) rfl)) | (apply OQ.buildLf (a := octK) (s := e.ci); exact rfl) | (apply OQ.fld; exact rfl; exact rfl; exact rfl; exact (by decide); exact rfl)) rfl ?_ | refine JC.seq ?_ | refine JC.region ?_ | refine JL.nil ?_ | refine JE.next ?_)
  refine JL.alloc (r := pz) ?_ ?_ fun b3 _ => ?_
  exact ptZ9
  rfl
  refine JL.store_all (cs := leafV octK e.ci) ptS rfl rfl rfl rfl .here rfl ?_
  cases hp : e.pl
  rotate_left
  · repeat (first | refine JL.q (by first | (apply OQ.load; exact boCp; exact rfl; exact (.there (.there .here)); exact (Row.cell (v := .bool e.pl) rfl)) | (apply OQ.fld; exact rfl; exact rfl; exact rfl; exact (by decide); exact rfl)) rfl ?_ | refine JC.seq ?_ | refine JC.region ?_ | refine JL.nil ?_ | refine JE.next ?_)
    rw [hp]
    refine JC.cond rfl (fun _ => ?_) (fun h => by cases h)
    repeat (first | refine JL.q (by (apply OQ.fld; exact rfl; exact rfl; exact rfl; exact (by decide); exact rfl)) rfl ?_ | refine JC.seq ?_ | refine JC.region ?_)
    refine JL.store_eq (v := Z tpN) (r' := leafV tpN e.ci) strS rfl rfl rfl rfl .here (show 0 < 5 by decide) rfl ?_
    repeat (first | refine JL.q (by (apply OQ.load_agg (cs := leafV tpN e.ci); exact ptA9; exact ptS; exact rfl; exact .here; exact rfl; exact Row.all)) rfl ?_ | refine JC.seq ?_ | refine JC.region ?_ | refine JL.nil ?_ | refine JE.next ?_)
    refine JL.store_all (cs := leafV tpN e.ci) ptS rfl rfl rfl rfl (.there .here) rfl ?_
    repeat (first | refine JL.nil ?_ | refine JE.next ?_)
    refine JC.ret ?_
    repeat (refine JE.then_ret ?_)
    exact JE.ret1 rfl (RV.cell_agg (cs := leafV tpN e.ci) ptA9 ptS rfl (.there .here) rfl Row.all) fun w' hw => ⟨⟨leafV tpN e.ci, [], rfl, rfl, nofun, fun w0 S w2 h2 _ => by
      have h3 := (leafV_is (k := tpN) h2.ci).mono (k := 3) (by omega)
      unfold partE
      rw [show e.en.pl = true from hp]
      exact h3⟩, rfl, hw.weak (.nil _)⟩
  · repeat (first | refine JL.q (by first | (apply OQ.load; exact boCp; exact rfl; exact (.there (.there .here)); exact (Row.cell (v := .bool e.pl) rfl)) | (apply OQ.fld; exact rfl; exact rfl; exact rfl; exact (by decide); exact rfl)) rfl ?_ | refine JC.seq ?_ | refine JC.region ?_ | refine JL.nil ?_ | refine JE.next ?_)
    rw [hp]
    refine JC.cond rfl (fun h => by cases h) (fun _ => ?_)
    repeat (first | refine JL.q (by first | (apply buildPm (a := bdN) (b := bdV)) | (apply buildPm (a := prN) (b := verK))) rfl ?_ | refine JC.seq ?_ | refine JC.region ?_ | refine JC.skip ?_ | refine JE.next ?_)
    refine JL.litA2 (cs := pc (bdN, bdV)) (ds := pc (prN, verK)) Tryz.underlying56 paramI rfl (by decide) (by decide) rfl rfl rfl rfl rfl fun b4 _ => ?_
    refine JL.litL (xs := veB.map fun c => .const (U8 c)) (vs := veB.map U8) Tryz.underlying22 u8e rfl rfl rfl rfl (fun v hv => by obtain ⟨c, _, rfl⟩ := List.mem_map.1 hv; rfl) rfl (by decide) (by decide) rfl fun b5 _ => ?_
    refine JL.mark (r := veB.map U8) (te := 5) Tryz.underlying22 Tryz.underlying5 rfl .here rfl ?_
    repeat (refine JL.q (by first | (apply OQ.buildVe (a := verK) (b := b5); exact rfl) | (apply OQ.load_agg (cs := leafV octK e.ci); exact ptA9; exact ptS; exact rfl; exact (.there (.there .here)); exact rfl; exact Row.all)) rfl ?_)
    refine JL.litA2 (cs := verV b5) (ds := leafV octK e.ci) Tryz.underlying57 ptI12 rfl (by decide) (by decide) rfl rfl rfl rfl rfl fun b6 _ => ?_
    repeat (refine JL.q (by (apply OQ.buildEn (a := encK) (b := b4) (c := b6); exact rfl; exact rfl)) rfl ?_)
    refine JL.store_all (cs := [Z encK, .slice (some ⟨b4, 0, none⟩) 2 2, .int .i64 0, nilS.v, .slice (some ⟨b6, 0, none⟩) 2 2]) ptS rfl rfl rfl rfl (.there (.there (.there (.there .here)))) rfl ?_
    repeat (first | refine JL.nil ?_ | refine JE.next ?_)
    refine JC.ret ?_
    skip
    exact JE.ret1 rfl (RV.cell_agg (cs := [Z encK, .slice (some ⟨b4, 0, none⟩) 2 2, .int .i64 0, nilS.v, .slice (some ⟨b6, 0, none⟩) 2 2]) ptA9 ptS rfl (.there (.there (.there (.there .here)))) rfl Row.all) fun w' hw => ⟨⟨[Z encK, .slice (some ⟨b4, 0, none⟩) 2 2, .int .i64 0, nilS.v, .slice (some ⟨b6, 0, none⟩) 2 2], [⟨b6, Row 59 (verV b5 ++ leafV octK e.ci), true⟩, ⟨b5, Frz 5 (veB.map U8), true⟩, ⟨b4, Row 63 (pc (bdN, bdV) ++ pc (prN, verK)), true⟩], rfl, rfl, by simp, fun w0 S w2 h2 hw2 => sealV_is h2 hp hw2⟩, rfl, hw.weak (less_pre [_, _, _] _)⟩
end Go.Proofs.YtdabhneehconeaaGreatDoor

/-
  Of no statement by itself: what the landed mime's Write gives; what Write owes (MimeW).
  Conditions: each theorem's own.
-/
namespace Go.Proofs.YtdabhneehconeaaGreatDoor
set_option maxRecDepth 10000
open Sl Fld Mim Tok
set_option maxHeartbeats 16000000 in
theorem mwrite_any (Qe : List Fld.By → List Fld.By) (p : Part) (cs : List Value) (w : World) (hE : EncOk w) (hp : IsPart 10 w p cs) (hq : noQ 9 p) (hlo : lowP 10 p) : Calls Tryz.prog 25 [.agg cs.toArray].toArray w
    fun e w' => ∃ x : WA (writeP Qe 8 p), e = .returned (.tuple #[.agg #[x.f.v, x.s.v], N (codeE (writeP Qe 8 p))]) ∧ Holds w [] x.ents w' := by
  have cw := fun (M : List Ent) (w' : World) (hw' : Holds w [] M w') => write_any Qe 8 0 rfl p cs w' (hE.holds hw') (hp.ext hw'.chg) hq hlo
  obtain ⟨ps, body, ad, cap, subs, rfl, _⟩ := hp
  refine enter (n := 15) Tryz.func25 rfl rfl rfl (Holds.start w []) ?_
  refine JC.seq (JC.region (JL.box (r := [Z p.kind, ps.v, .int .i64 p.code, body.v, .slice ad p.parts.length cap]) rfl rfl rfl fun b1 _ => ?_))
  refine JL.alloc ltZ12 rfl fun b2 _ => ?_
  repeat (first | refine JL.q (by first | (apply OQ.load_agg (cs := [Z p.kind, ps.v, .int .i64 p.code, body.v, .slice ad p.parts.length cap]); exact ptA9; exact ptS; exact rfl; exact (.there .here); exact rfl; exact Row.all) | (apply OQ.assign; exact rfl)) rfl ?_ | refine JC.seq ?_ | refine JC.region ?_ | refine JL.nil ?_ | refine JE.next ?_)
  refine JL.callg (ι := WA (writeP Qe 8 p)) (vs := [.agg #[Z p.kind, ps.v, .int .i64 p.code, body.v, .slice ad p.parts.length cap], N 0]) (fun x => .tuple #[.agg #[x.f.v, x.s.v], x.m.v, N (codeE (writeP Qe 8 p))]) (fun x => x.ents) goes_mwriteU rfl rfl (fun x => x.wr) (cw _) ?_
  intro x
  refine JL.perm (M' := ⟨b2, Row 29 [nil2.v, nilS.v], true⟩ :: ⟨b1, Row 59 [Z p.kind, ps.v, .int .i64 p.code, body.v, .slice ad p.parts.length cap], true⟩ :: (x.ents ++ [])) ?_ (wperm6 _ _ _).symm
  repeat (refine JL.q (by first | (apply OQ.extract; exact rfl; exact rfl) | (apply OQ.move; exact rfl)) rfl ?_)
  refine JL.alloc ltZ12 rfl fun b4 _ => ?_
  refine JL.store_all (cs := [x.f.v, x.s.v]) ltS12 rfl rfl rfl rfl .here rfl ?_
  repeat (first | refine JL.q (by first | (apply OQ.load_agg (cs := [x.f.v, x.s.v]); exact ltA12; exact ltS12; exact rfl; exact .here; exact rfl; exact Row.all) | (apply OQ.move; exact rfl) | (apply OQ.assign; exact rfl)) rfl ?_ | refine JC.seq ?_ | refine JC.region ?_ | refine JL.nil ?_ | refine JE.next ?_)
  refine JL.store_all (cs := [x.f.v, x.s.v]) ltS12 rfl rfl rfl rfl (.there .here) rfl ?_
  repeat (first | refine JL.q (by (apply OQ.assign; exact rfl)) rfl ?_ | refine JL.nil ?_ | refine JE.next ?_)
  refine JC.ret ?_
  skip
  exact JE.ret2 rfl (RV.cell_agg (cs := [x.f.v, x.s.v]) ltA12 ltS12 rfl (.there .here) rfl Row.all) (RV.tmp rfl) fun w' hw => ⟨x, rfl, hw.weak (.drop _ _ _ (.drop _ _ _ (.drop _ _ _ (less_pre _ _))))⟩
end Go.Proofs.YtdabhneehconeaaGreatDoor

/-
  Of no statement by itself: what the landed pack's Write gives.
  Conditions: each theorem's own.
-/
namespace Go.Proofs.YtdabhneehconeaaGreatDoor
set_option maxRecDepth 10000
open Sl Fld Tok Mim Pck
theorem goes_pwrite : Goes Tryz.prog 8 := ⟨_, Tryz.func8, rfl, by kernel_rfl⟩
theorem goes_pmime : Goes Tryz.prog 25 := ⟨_, Tryz.func25, rfl, by kernel_rfl⟩
theorem fdS13 : szT Tryz.prog 27 = some 1 := by kernel_rfl
theorem fdC13 : scal Tryz.prog 27 = true := by kernel_rfl
/-- a letter as an answer -/
structure W2 (r : Except Nat (List Pr × List Bt)) where
  f : Sl2
  s : Sl8
  hf : f.l = fstE r
  hs : s.l = sndE r
  nf : f.ad = none → f.l = []
  ns : s.ad = none → s.l = []
def W2.ents {r : Except Nat (List Pr × List Bt)} (x : W2 r) : List Ent := x.f.ents ++ x.s.ents
theorem W2.wr {r : Except Nat (List Pr × List Bt)} (x : W2 r) : ∀ e ∈ x.ents, e.wr = true := fun e he => by
  rcases List.mem_append.1 he with h | h
  · exact x.f.ents_wr e h
  · exact x.s.ents_wr e h
def W2.err {e : Nat} : W2 (.error e) := ⟨nil2, nilS, rfl, rfl, fun _ => rfl, fun _ => rfl⟩
theorem part_low {e : Evp} (hc : e.ci.length ≤ 4000) : lowP 10 (partE e) := by
  unfold partE
  cases e.pl with
  | true => exact ⟨by show tpN.length ≤ 1000; decide, by show 0 ≤ 10; decide, fun q hq => (by cases hq), by show (0 : Int) ≤ 1; decide, by show (1 : Int) ≤ 2; decide, hc, by show 0 ≤ 5; decide, fun q hq => (by cases hq)⟩
  | false =>
    refine ⟨by show encK.length ≤ 1000; decide, by show 2 ≤ 10; decide, fun q hq => ?_, by show (0 : Int) ≤ 0; decide, by show (0 : Int) ≤ 2; decide, by show 0 ≤ 4000; decide, by show 2 ≤ 5; decide, fun q hq => ?_⟩
    · have hq : q ∈ parsE := hq
      simp only [parsE, List.mem_cons, List.not_mem_nil, or_false] at hq
      rcases hq with rfl | rfl
      · exact ⟨by decide, by decide⟩
      · exact ⟨by decide, by decide⟩
    · have hq : q ∈ ([.mk verK [] 0 veB [], .mk octK [] 1 e.ci []] : List Part) := hq
      simp only [List.mem_cons, List.not_mem_nil, or_false] at hq
      rcases hq with rfl | rfl
      · exact ⟨by show verK.length ≤ 1000; decide, by show 0 ≤ 10; decide, fun q hq => (by cases hq), by show (0 : Int) ≤ 0; decide, by show (0 : Int) ≤ 2; decide, by show veB.length ≤ 4000; decide, by show 0 ≤ 5; decide, fun q hq => (by cases hq)⟩
      · exact ⟨by show octK.length ≤ 1000; decide, by show 0 ≤ 10; decide, fun q hq => (by cases hq), by show (0 : Int) ≤ 1; decide, by show (1 : Int) ≤ 2; decide, hc, by show 0 ≤ 5; decide, fun q hq => (by cases hq)⟩
set_option maxHeartbeats 64000000 in
theorem pwrite_any (Qe : List Fld.By → List Fld.By) (e : EnS) (w : World) (he : e.ok w) (hlo : e.low) (hE : EncOk w) (hR : AllOk w) : Calls Tryz.prog 8 [.agg e.cs.toArray].toArray w
    fun x w' => ∃ y : W2 (wrE Qe e.en), x = .returned (.tuple #[.agg #[y.f.v, y.s.v], N (codeE (wrE Qe e.en))]) ∧ Holds w [] y.ents w' := by
  have l1 := hlo.fr
  have l2 := hlo.to
  have l5 := hlo.ci
  have l6 := hlo.bu
  have cf := fun w' => find_any e w' (by omega) (by omega)
  refine enter (n := 39) Tryz.func8 rfl rfl rfl (Holds.start w []) ?_
  refine JC.seq (JC.region (JL.box (r := e.cs) rfl rfl rfl fun b1 _ => ?_))
  refine JL.alloc ltZ12 rfl fun b2 _ => ?_
  have g0 : decide ((1049600 : Int) < (e.ci.l.length : Int)) = false := decide_eq_false (by omega)
  cases g1 : decide ((3000 : Int) < (e.bu.l.length : Int))
  rotate_left
  · have hW : wrE Qe e.en = .error 4 := by
      unfold wrE
      rw [if_pos (.inr (by show 3000 < e.bu.l.length; have := of_decide_eq_true g1; omega))]
    rw [hW]
    repeat (first | refine JL.q (by first | (apply OQ.load; exact bsCP; exact rfl; exact (.there .here); exact (Row.cell (v := e.ci.v) rfl)) | (apply OQ.load; exact bsCP; exact rfl; exact (.there .here); exact (Row.cell (v := e.bu.v) rfl)) | (apply OQ.len; exact Tryz.underlying22; exact rfl) | (apply OQ.gtrB (a := (e.ci.l.length : Int)) (b := 1049600); exact rfl; exact rfl; exact g0) | (apply OQ.gtrB (a := (e.bu.l.length : Int)) (b := 3000); exact rfl; exact rfl; exact g1) | (apply OQ.pick_f; exact rfl; exact rfl) | (apply OQ.move; exact rfl) | (apply OQ.assign; exact rfl) | (apply OQ.fld; exact rfl; exact rfl; exact rfl; exact (by decide); exact rfl)) rfl ?_ | refine JC.seq ?_ | refine JC.region ?_ | refine JL.nil ?_ | refine JE.next ?_ | refine JL.gon rfl rfl ?_)
    refine JC.cond rfl (fun _ => ?_) (fun h => by cases h)
    repeat (first | refine JL.q (by (apply build_L0)) rfl ?_ | refine JC.seq ?_ | refine JC.region ?_)
    refine JL.store_all (cs := [nil2.v, nilS.v]) ltS12 rfl rfl rfl rfl .here rfl ?_
    repeat (first | refine JL.q (by (apply OQ.assign; exact rfl)) rfl ?_ | refine JL.nil ?_ | refine JE.next ?_)
    refine JC.ret ?_
    repeat (refine JE.then_ret ?_)
    exact JE.ret2 rfl (RV.cell_agg (cs := [nil2.v, nilS.v]) ltA12 ltS12 rfl .here rfl Row.all) (RV.tmp rfl) fun w' hw => ⟨W2.err, rfl, hw.weak (.nil _)⟩
  have hb : e.bu.l.length ≤ 3000 := by have := of_decide_eq_false g1; omega
  have hnl : ¬ (1049600 < e.en.ci.length ∨ 3000 < e.en.bu.length) := by
    show ¬ (1049600 < e.ci.l.length ∨ 3000 < e.bu.l.length)
    omega
  repeat (first | refine JL.q (by first | (apply OQ.load; exact bsCP; exact rfl; exact (.there .here); exact (Row.cell (v := e.ci.v) rfl)) | (apply OQ.load; exact bsCP; exact rfl; exact (.there .here); exact (Row.cell (v := e.bu.v) rfl)) | (apply OQ.len; exact Tryz.underlying22; exact rfl) | (apply OQ.gtrB (a := (e.ci.l.length : Int)) (b := 1049600); exact rfl; exact rfl; exact g0) | (apply OQ.gtrB (a := (e.bu.l.length : Int)) (b := 3000); exact rfl; exact rfl; exact g1) | (apply OQ.pick_f; exact rfl; exact rfl) | (apply OQ.move; exact rfl) | (apply OQ.assign; exact rfl) | (apply OQ.fld; exact rfl; exact rfl; exact rfl; exact (by decide); exact rfl)) rfl ?_ | refine JC.seq ?_ | refine JC.region ?_ | refine JL.nil ?_ | refine JE.next ?_ | refine JL.gon rfl rfl ?_)
  refine JC.cond rfl (fun h => by cases h) (fun _ => ?_)
  repeat (first | refine JC.seq ?_ | refine JC.skip ?_ | refine JE.next ?_)
  have hr : (adB e.fr && (adB e.to && (idB e.id && (idB e.th && decide ((e.bu.l.length : Int) ≤ 3000))))) = rightE e.en := by
    rw [decide_eq_true (p := (e.bu.l.length : Int) ≤ 3000) (by omega), Bool.and_true]
    rfl
  refine JC.quiet mixP (by kernel_rfl) ?_
  repeat (first | refine JQ.q (by first | (apply OQ.load_agg (cs := e.cs); exact enA; exact enZ; exact rfl; exact (.there .here); exact rfl; exact Row.all) | (apply OQ.callx (vs := [.agg e.cs.toArray]); exact goes_find; exact rfl; exact (fun w' _ => cf w')) | (apply OQ.load_agg_old (cs := fiV true true true true true) (j := 0); exact fiA; exact rfl; exact fiS; exact hR.lt; exact (by simp); exact hR.cell) | (apply OQ.neFi; exact rfl; exact rfl; exact hr)) rfl ?_ | refine JQ.nil ?_ | refine JE.next ?_)
  clear cf
  cases hri : rightE e.en
  · have hW : wrE Qe e.en = .error 3 := by
      unfold wrE
      rw [if_neg hnl, if_pos hri]
    rw [hW]
    refine JC.cond rfl (fun _ => ?_) (fun h => by cases h)
    repeat (first | refine JL.q (by (apply build_L0)) rfl ?_ | refine JC.seq ?_ | refine JC.region ?_)
    refine JL.store_all (cs := [nil2.v, nilS.v]) ltS12 rfl rfl rfl rfl .here rfl ?_
    repeat (first | refine JL.q (by (apply OQ.assign; exact rfl)) rfl ?_ | refine JL.nil ?_ | refine JE.next ?_)
    refine JC.ret ?_
    repeat (refine JE.then_ret ?_)
    exact JE.ret2 rfl (RV.cell_agg (cs := [nil2.v, nilS.v]) ltA12 ltS12 rfl .here rfl Row.all) (RV.tmp rfl) fun w' hw => ⟨W2.err, rfl, hw.weak (.nil _)⟩
  have hpw := part_write Qe e.en (by show e.ci.l.length ≤ 10000; omega)
  have hW : wrE Qe e.en = .ok (fieldsE e.en ++ headE e.en, bodyE e.en) := by
    unfold wrE
    rw [if_neg hnl, if_neg (by rw [hri]; decide), hpw]
  rw [hW]
  clear hW hr
  refine JC.cond rfl (fun h => by cases h) (fun _ => ?_)
  have cpart := fun (M : List Ent) (w' : World) (hw' : Holds w [] M w') => part_any e w' (he.holds hw')
  repeat (first | refine JL.q (by (apply OQ.load_agg (cs := e.cs); exact enA; exact enZ; exact rfl; exact (.there .here); exact rfl; exact Row.all)) rfl ?_ | refine JC.seq ?_ | refine JC.region ?_ | refine JC.skip ?_ | refine JE.next ?_)
  refine JL.callg (ι := PO e) (vs := [.agg e.cs.toArray]) (fun y => .agg y.cs.toArray) (fun y => y.M) goes_part rfl rfl (fun y => y.wr) (cpart _) ?_
  intro y
  have cw : ∀ w', Holds w [] (y.M ++ [⟨b2, Row 29 [nil2.v, nilS.v], true⟩, ⟨b1, Row 24 e.cs, true⟩]) w' → Calls Tryz.prog 25 [.agg y.cs.toArray].toArray w'
      fun x w2 => ∃ z : WA (.ok (headE e.en, bodyE e.en)), x = .returned (.tuple #[.agg #[z.f.v, z.s.v], N 0]) ∧ Holds w' [] z.ents w2 := fun w' hw' => by
    have hip : IsPart 3 w' (partE e.en) y.cs := y.is w [] w' (he.holds hw') (Sl.Holds.weak hw' (less_pre _ _))
    have := mwrite_any Qe (partE e.en) y.cs w' (hE.holds hw') (hip.mono (by omega)) (part_noQ e.en) (part_low (by show e.ci.l.length ≤ 4000; omega))
    rw [hpw] at this
    exact this
  refine JL.callg (ι := WA (.ok (headE e.en, bodyE e.en))) (vs := [.agg y.cs.toArray]) (fun x => .tuple #[.agg #[x.f.v, x.s.v], N 0]) (fun x => x.ents) goes_pmime rfl rfl (fun x => x.wr) cw ?_
  intro x
  refine JL.less (M' := (x.f.ents ++ x.s.ents) ++ [⟨b2, Row 29 [nil2.v, nilS.v], true⟩, ⟨b1, Row 24 e.cs, true⟩]) (by
    show Less _ ((x.f.ents ++ (x.s.ents ++ x.m.ents)) ++ (y.M ++ _))
    rw [List.append_assoc, List.append_assoc, List.append_assoc]
    exact less_app2 (less_app2 (less_app _ (less_app _ (Less.refl _))) _) _) ?_
  repeat (refine JL.q (by first | (apply OQ.extract; exact rfl; exact rfl) | (apply OQ.move; exact rfl)) rfl ?_)
  refine JL.alloc ltZ12 rfl fun b4 _ => ?_
  refine JL.store_all (cs := [x.f.v, x.s.v]) ltS12 rfl rfl rfl rfl .here rfl ?_
  have h00 : decide (((0 : Nat) : Int) = 0) = true := rfl
  repeat (first | refine JL.q (by first | (apply OQ.neB (a := ((0 : Nat) : Int)) (b := 0); exact rfl; exact rfl; exact h00) | (apply OQ.move; exact rfl) | (apply OQ.assign; exact rfl)) rfl ?_ | refine JC.seq ?_ | refine JC.region ?_ | refine JL.nil ?_ | refine JE.next ?_)
  refine JC.cond rfl (fun h => by cases h) (fun _ => ?_)
  repeat (first | refine JC.seq ?_ | refine JC.skip ?_ | refine JE.next ?_)
  clear cw cpart
  have cfl := fun (M : List Ent) (w' : World) (hw' : Holds w [] M w') => flds_any e w' (he.holds hw') hlo
  have hfl := fields_len (e := e.en) hri hb l1 l2
  have hhl := (head_all e.en).2.2.1
  have xf : x.f.l = headE e.en := x.hf
  let vs : Nat → Nat × Nat → Value := fun j z => match j with
    | 0 => .agg e.cs.toArray
    | 1 => accV (some z) (fieldsE e.en).length
    | 2 => Pt b4 0
    | 3 => x.f.v
    | 4 => accV (some z) (fieldsE e.en ++ headE e.en).length
    | 5 => Pt b4 0
    | _ => N 0
  let Ms : Nat → Nat × Nat → List Ent := fun j z => match j with
    | 1 => accP 65 (some z) (fieldsE e.en)
    | 4 => accP 65 (some z) (fieldsE e.en ++ headE e.en)
    | 6 => [⟨b4, Row 29 [accV (some z) (fieldsE e.en ++ headE e.en).length, x.s.v], true⟩]
    | 7 => [⟨b4, Row 29 [x.f.v, x.s.v], true⟩]
    | 8 => x.f.ents
    | 9 => x.s.ents
    | 10 => [⟨b2, Row 29 [nil2.v, nilS.v], true⟩]
    | 11 => [⟨b1, Row 24 e.cs, true⟩]
    | _ => []
  refine JC.growR (g := ⟨[(2, Pt b2 0), (4, Pt b4 0), (1, Pt b1 0)], 12, vs, Ms, (fun j => match j with | 1 => [(0, 32)] | 3 => [(2, 34)] | 4 => [(1, 33), (3, 35)] | 6 => [(5, 37), (4, 36)] | _ => []), (fun j => match j with | 0 => [11] | 3 => [7] | 4 => [1, 8] | 6 => [7] | _ => []), (fun j => match j with | 4 => [1] | 6 => [7] | _ => []), (fun j => match j with | 6 => some 4 | _ => none), fun _ => [], fun _ a b => a = b⟩) [] [6, 10, 4, 9] mixP (by repeat (first | exact SubE.nil | refine SubE.cons _ _ _ rfl ?_)) (fun _ _ => .nil) (less_eq (by show _ :: (x.f.ents ++ (x.s.ents ++ (_ :: _ :: ([] ++ [])))) = _ :: ((x.f.ents ++ x.s.ents) ++ _); rw [List.append_assoc]; rfl)) (by kernel_rfl) (by kernel_rfl) (by kernel_rfl) ?_ ?_
  · refine ⟨?_, ?_, ?_, ?_, ?_, ?_, ?_, trivial⟩
    · (intro x' EF MF Q kk; exact JL.q (OQ.load_agg (cs := e.cs) enA enZ rfl .here rfl Row.all) rfl (JL.nil (kk default nofun)))
    · (intro x' EF MF Q kk; exact JL.callg (ι := Nat × Nat) (vs := [.agg e.cs.toArray]) (fun r => accV (some r) (fieldsE e.en).length) (fun r => accP 65 (some r) (fieldsE e.en)) goes_flds rfl rfl (fun r x hx => by rw [List.mem_singleton.1 hx]) (cfl _) fun r => JL.nil (kk r nofun))
    · (intro x' EF MF Q kk; exact JL.q (OQ.fldx (o := 0) rfl rfl rfl (by decide) rfl rfl) rfl (JL.nil (kk default nofun)))
    · (intro x' EF MF Q kk; exact JL.q (OQ.load fdC13 rfl .here (Row.cell (v := x.f.v) rfl)) rfl (JL.nil (kk default nofun)))
    · intro x' EF MF Q kk
      refine JL.append (b := (x' 1).1) (cap := (x' 1).2) (k := (fieldsE e.en).length) (xs := (fieldsE e.en).flatMap pc) (cs := x.f.cells) (m := x.f.l.length) (ad := x.f.ad) (sc := x.f.cap) (fun b' cap' => (accP 65 (some (b', cap')) (fieldsE e.en ++ headE e.en) ++ (x.f.ents ++ [])) ++ MF) Tryz.underlying27 fieldI rfl rfl (fun b' cap' => ?_) (by rw [show x.f.cells = x.f.l.flatMap pc from rfl, pc_len]; omega) (fun w' hw' => by
        have h1 : Holds w [] ((accP 65 (some (x' 1)) (fieldsE e.en) ++ (x.f.ents ++ [])) ++ MF) w' := hw'
        rw [List.append_nil, List.append_assoc] at h1
        exact (Sl2.ents_ok (M := MF) (Sl.Holds.weak h1 (less_app _ (Less.refl _))) x.nf).reads) (fun v hv => by obtain ⟨p, _, hp⟩ := List.mem_flatMap.1 hv; exact Sl.pc_one v hp) rfl (by decide) (by rw [xf]; omega) (by rw [xf]; omega) rfl fun b' cap' => ?_
      · show Repl (⟨(x' 1).1, Sl.Own 65 2 (fieldsE e.en).length (x' 1).2 ((fieldsE e.en).flatMap pc), true⟩ :: ((x.f.ents ++ []) ++ MF)) _ _ _ _ (⟨b', Sl.Own 65 2 (fieldsE e.en ++ headE e.en).length cap' ((fieldsE e.en ++ headE e.en).flatMap pc), true⟩ :: ((x.f.ents ++ []) ++ MF))
        rw [List.length_append, List.flatMap_append, show x.f.cells = (headE e.en).flatMap pc from congrArg (List.flatMap pc) xf, xf]
        exact .here
      · have e2 : (fieldsE e.en).length + x.f.l.length = (fieldsE e.en ++ headE e.en).length := by rw [List.length_append, xf]
        rw [e2]
        exact JL.nil (kk (b', cap') nofun)
    · (intro x' EF MF Q kk; exact JL.q (OQ.fldx (o := 0) rfl rfl rfl (by decide) rfl rfl) rfl (JL.nil (kk default nofun)))
    · (intro x' EF MF Q kk; exact JL.store_eq (v := accV (some (x' 4)) (fieldsE e.en ++ headE e.en).length) (r' := [accV (some (x' 4)) (fieldsE e.en ++ headE e.en).length, x.s.v]) fdS13 rfl rfl (accV_one _ _) (accV_cells _ _) .here (by simp) rfl (JL.nil (kk (x' 4) (fun k h => by cases h; rfl))))
  intro x' hx
  have z6 : x' 6 = x' 4 := hx 6 4 (by decide) rfl
  show JE _ _ _ _ _ [(2, Pt b2 0), (4, Pt b4 0), (1, Pt b1 0)] ([⟨b4, Row 29 [accV (some (x' 6)) (fieldsE e.en ++ headE e.en).length, x.s.v], true⟩] ++ ([⟨b2, Row 29 [nil2.v, nilS.v], true⟩] ++ (accP 65 (some (x' 4)) (fieldsE e.en ++ headE e.en) ++ (x.s.ents ++ []))))
  rw [z6]
  clear z6 hx
  generalize x' 4 = z
  clear x' vs Ms cfl
  repeat (first | refine JL.q (by (apply OQ.load_agg (cs := [accV (some z) (fieldsE e.en ++ headE e.en).length, x.s.v]); exact ltA12; exact ltS12; exact rfl; exact .here; exact rfl; exact Row.all)) rfl ?_ | refine JC.seq ?_ | refine JC.region ?_ | refine JE.next ?_)
  refine JL.store_all (cs := [accV (some z) (fieldsE e.en ++ headE e.en).length, x.s.v]) ltS12 rfl rfl rfl rfl (.there .here) rfl ?_
  repeat (first | refine JL.q (by (apply OQ.assign; exact rfl)) rfl ?_ | refine JL.nil ?_ | refine JE.next ?_)
  refine JC.ret ?_
  skip
  refine JE.ret2 rfl (RV.cell_agg (cs := [accV (some z) (fieldsE e.en ++ headE e.en).length, x.s.v]) ltA12 ltS12 rfl (.there .here) rfl Row.all) (RV.tmp rfl) fun w' hw => ?_
  refine ⟨⟨accLp (some z) (fieldsE e.en ++ headE e.en), x.s, rfl, x.hs, nofun, x.ns⟩, rfl, ?_⟩
  have h1 : Holds w [] (accP 65 (some z) (fieldsE e.en ++ headE e.en) ++ (x.s.ents ++ [])) w' := hw.weak (.drop _ _ _ (.drop _ _ _ (Less.refl _)))
  rw [List.append_nil] at h1
  show Holds w [] ((accLp (some z) (fieldsE e.en ++ headE e.en)).ents ++ x.s.ents) w'
  exact Sl.Holds.weak h1 (less_appR accLpents9 _)
end Go.Proofs.YtdabhneehconeaaGreatDoor

/-
  Of no statement by itself: what despatchlaw13's speaks gives.
  Conditions: the tables of mime and pack in their variables.
-/
namespace Go.Proofs.YtdabhneehconeaaGreatDoor
set_option maxRecDepth 10000
open Sl Fld Tok Mim Pck
theorem goes_speaks13 : Goes Tryz.prog 6 := ⟨_, Tryz.func6, rfl, by kernel_rfl⟩
def eg1 (th : List Bt) : EnS := ⟨[97, 64, 98], [99, 64, 100], [49, 64, 97], th, false, nilS, nilS⟩
theorem eg1_ok (th : List Bt) (w : World) : (eg1 th).ok w := ⟨nilS_ok w, nilS_ok w⟩
theorem eg1_low {th : List Bt} (h : th.length ≤ 300) : (eg1 th).low := ⟨by show 3 ≤ 300; decide, by show 3 ≤ 300; decide, by show 3 ≤ 300; decide, h, by show 0 ≤ 3000; decide, by show 0 ≤ 4000; decide⟩
theorem eg_right : rightE (eg1 [116]).en = true := by decide +kernel
theorem eg_wrong : rightE (eg1 [116, 32, 117]).en = false := by decide +kernel
theorem eg_wr (Qe : List Fld.By → List Fld.By) : wrE Qe (eg1 [116]).en = .ok (fieldsE (eg1 [116]).en ++ headE (eg1 [116]).en, bodyE (eg1 [116]).en) := wr_is Qe eg_right (by show 0 ≤ 10000; decide) (by show 0 ≤ 3000; decide)
theorem eg_er (Qe : List Fld.By → List Fld.By) : wrE Qe (eg1 [116, 32, 117]).en = .error 3 := by
  unfold wrE
  rw [if_neg (by show ¬ (1049600 < 0 ∨ 3000 < 0); decide), if_pos eg_wrong]
theorem eg_five : (fieldsE (eg1 [116]).en ++ headE (eg1 [116]).en).length = 5 := by decide +kernel
set_option maxHeartbeats 16000000 in
theorem speaks13_any (w : World) (hE : EncOk w) (hR : AllOk w) : Calls Tryz.prog 6 ([] : List Value).toArray w fun e w' => e = .returned (.bool true) ∧ Ext w w' := by
  have c1 := fun (M : List Ent) (w' : World) (hw' : Holds w [] M w') => pwrite_any (fun b => b) (eg1 [116]) w' (eg1_ok _ _) (eg1_low (by decide)) (hE.holds hw') (hR.holds hw')
  have c2 := fun (M : List Ent) (w' : World) (hw' : Holds w [] M w') => pwrite_any (fun b => b) (eg1 [116, 32, 117]) w' (eg1_ok _ _) (eg1_low (by decide)) (hE.holds hw') (hR.holds hw')
  rw [eg_wr] at c1
  rw [eg_er] at c2
  have h5 := eg_five
  generalize fieldsE (eg1 [116]).en ++ headE (eg1 [116]).en = L at c1 h5
  generalize bodyE (eg1 [116]).en = B at c1
  refine enter (n := 30) Tryz.func6 rfl rfl rfl (Holds.start w []) ?_
  repeat (first | refine JL.q (by (apply OQ.assign; exact rfl)) rfl ?_ | refine JC.seq ?_ | refine JC.region ?_ | refine JL.nil ?_ | refine JE.next ?_)
  refine JL.q (v := .agg (eg1 [116]).cs.toArray) (OQ.pure rfl rfl (by kernel_rfl)) rfl ?_
  refine JL.alloc en0 rfl fun b1 _ => ?_
  refine JL.store_all (cs := (eg1 [116]).cs) enZ rfl rfl rfl rfl .here rfl ?_
  repeat (first | refine JL.q (by (apply OQ.load_agg (cs := (eg1 [116]).cs); exact enA; exact enZ; exact rfl; exact .here; exact rfl; exact Row.all)) rfl ?_ | refine JC.seq ?_ | refine JC.region ?_ | refine JL.nil ?_ | refine JE.next ?_)
  refine JL.callg (ι := W2 (.ok (L, B))) (vs := [.agg (eg1 [116]).cs.toArray]) (fun y => .tuple #[.agg #[y.f.v, y.s.v], N 0]) (fun y => y.ents) goes_pwrite rfl rfl (fun y => y.wr) (c1 _) ?_
  intro y
  have hy : y.f.l.length = 5 := by rw [y.hf]; exact h5
  refine JL.less (M' := [⟨b1, Row 24 (eg1 [116]).cs, true⟩]) (less_app _ (Less.refl _)) ?_
  repeat (refine JL.q (by first | (apply OQ.extract; exact rfl; exact rfl) | (apply OQ.move; exact rfl)) rfl ?_)
  refine JL.alloc ltZ12 rfl fun b2 _ => ?_
  refine JL.store_all (cs := [y.f.v, y.s.v]) ltS12 rfl rfl rfl rfl .here rfl ?_
  repeat (first | refine JL.q (by first | (apply OQ.assign; exact rfl) | (apply OQ.fld; exact rfl; exact rfl; exact rfl; exact (by decide); exact rfl)) rfl ?_ | refine JC.seq ?_ | refine JC.region ?_ | refine JL.nil ?_ | refine JE.next ?_)
  refine JL.store_eq (v := Z [116, 32, 117]) (r' := (eg1 [116, 32, 117]).cs) strS rfl rfl rfl rfl (.there .here) (show 3 < 7 by decide) rfl ?_
  repeat (first | refine JL.q (by (apply OQ.load_agg (cs := (eg1 [116, 32, 117]).cs); exact enA; exact enZ; exact rfl; exact (.there .here); exact rfl; exact Row.all)) rfl ?_ | refine JC.seq ?_ | refine JC.region ?_ | refine JL.nil ?_ | refine JE.next ?_)
  refine JL.callg (ι := W2 (.error 3)) (vs := [.agg (eg1 [116, 32, 117]).cs.toArray]) (fun y => .tuple #[.agg #[y.f.v, y.s.v], N 3]) (fun y => y.ents) goes_pwrite rfl rfl (fun y => y.wr) (c2 _) ?_
  intro z
  refine JL.less (M' := [⟨b2, Row 29 [y.f.v, y.s.v], true⟩, ⟨b1, Row 24 (eg1 [116, 32, 117]).cs, true⟩]) (less_app _ (Less.refl _)) ?_
  repeat (refine JL.q (by first | (apply OQ.extract; exact rfl; exact rfl) | (apply OQ.move; exact rfl)) rfl ?_)
  refine JL.alloc ltZ12 rfl fun b3 _ => ?_
  refine JL.store_all (cs := [z.f.v, z.s.v]) ltS12 rfl rfl rfl rfl .here rfl ?_
  have h0 : decide (((0 : Nat) : Int) = 0) = true := rfl
  have h3 : decide (((3 : Nat) : Int) = 3) = true := rfl
  have hl : decide ((y.f.l.length : Int) = 5) = true := decide_eq_true (by omega)
  repeat (first | refine JL.q (by first | (apply OQ.eqB (a := ((0 : Nat) : Int)) (b := 0); exact rfl; exact rfl; exact h0) | (apply OQ.load; exact fdC13; exact rfl; exact (.there .here); exact (Row.cell (v := y.f.v) rfl)) | (apply OQ.len; exact Tryz.underlying27; exact rfl) | (apply OQ.eqB (a := (y.f.l.length : Int)) (b := 5); exact rfl; exact rfl; exact hl) | (apply OQ.eqB (a := ((3 : Nat) : Int)) (b := 3); exact rfl; exact rfl; exact h3) | (apply OQ.pick_t; exact rfl; exact rfl) | (apply OQ.move; exact rfl) | (apply OQ.assign; exact rfl) | (apply OQ.fld; exact rfl; exact rfl; exact rfl; exact (by decide); exact rfl)) rfl ?_ | refine JC.seq ?_ | refine JC.region ?_ | refine JL.nil ?_ | refine JE.next ?_ | refine JL.gon rfl rfl ?_)
  refine JC.ret ?_
  skip
  exact JE.ret1 rfl (RV.tmp rfl) fun w' hw => ⟨rfl, hw.chg⟩
end Go.Proofs.YtdabhneehconeaaGreatDoor

/-
  Of no statement by itself: what the landed pack's Beside, and the reference's Beside, Address and Id (layer 13) give.
  Conditions: each theorem's own.
-/
namespace Go.Proofs.YtdabhneehconeaaGreatDoor
set_option maxRecDepth 10000
namespace Sl
section
variable {P : Program} {n : Nat} {w0 : World} {S : List Nat} {ops : Array Oper} {Q : Exit → Act → World → Prop} {l : List Oper} {E : Env} {M : List Ent} {d : Nat} {t tx e ty : TypeId} {pos : String} {aft : Array Edge} {x y : Operand}
theorem append_zero {w : World} {i : TypeInfo} (hu : P.underlying t = some (.slice e)) (hk : P.underlying tx = some .string) (hi : P.info? e = some i) :
    (Builtin.append_ #[t, tx] ty #[.slice none 0 0, Z []]).run P w = .ok (.slice none 0 0) w := by
  simp [Builtin.append_, Z, strB, run_underlying hu, run_underlying hk, sizeOf, typeInfo, hi, Builtin.lenOf, Builtin.firstCells, storeCells]
  rw [if_pos (show (⟨#[]⟩ : ByteArray) = ByteArray.empty from rfl)]
  rfl
/-- append of a string's bytes, of none too -/
theorem JL.appendZq {r : List Bt} {xs : List Value} (q : Acc) (hu : P.underlying t = some (.slice e)) (hk : P.underlying tx = some .string) (hi : EI P e (.int .u8 0) 1 1) (hq : q = none → xs = []) (hx : ev E x = some (accV q xs.length)) (hy : ev E y = some (Z r))
    (hsm : (xs.length + r.length) ≤ 140737488355328) (hd : Nat.blt d n = true)
    (kk : ∀ q' : Acc, (q' = none → xs ++ r.map U8 = []) → JL P n w0 S ops Q l ((d, accV q' (xs ++ r.map U8).length) :: E) (accE e q' (xs ++ r.map U8) ++ M)) : JL P n w0 S ops Q (⟨some d, .call ⟨.builtin .append, #[x, y], #[t, tx]⟩, ty, pos, aft, none⟩ :: l) E (accE e q xs ++ M) := by
  by_cases h0 : r = []
  · subst h0
    cases q with
    | none =>
      obtain rfl := hq rfl
      refine ⟨fun a w ha hw => wpList_plain rfl fun K hK => ?_⟩
      obtain ⟨i, hi1, _⟩ := hi.get
      have hx' : a.eval x = .slice none 0 0 := ha.eval hx
      unfold Oper.wp
      simp only [execOp, resolve, invoke, builtin, Sem.run_bind, Sem.run_pure, Result.andThen_ok, List.map_toArray, List.map_cons, List.map_nil, hx', ha.eval hy]
      rw [append_zero hu hk hi1]
      exact hK _ _ ((kk none fun _ => rfl).go _ _ (ha.put d _ hd) hw)
    | some p =>
      have e1 : (xs ++ ([] : List Bt).map U8).length = xs.length + ([] : List Bt).length := by simp
      refine JL.appendS (b := p.1) (cap := p.2) (k := xs.length) (xs := xs) (fun b' cap' => accE e (some (b', cap')) (xs ++ ([] : List Bt).map U8) ++ M) hu hk hi hx hy (fun b' cap' => ?_) hsm hd fun b' cap' => ?_
      · show Repl (⟨p.1, Sl.Own e 1 xs.length p.2 xs, true⟩ :: M) _ _ _ _ (⟨b', Sl.Own e 1 (xs ++ ([] : List Bt).map U8).length cap' (xs ++ ([] : List Bt).map U8), true⟩ :: M)
        rw [e1]
        exact .here
      · have := kk (some (b', cap')) nofun
        rw [e1] at this
        exact this
  · exact JL.appendZ q hu hk hi hq hx hy h0 hsm hd fun p => kk (some p) nofun
end
end Sl
open Sl Fld Tok Mim Pck
theorem goes_bes : Goes Tryz.prog 12 := ⟨_, Tryz.func12, rfl, by kernel_rfl⟩
theorem goes_radr : Goes Tryz.prog 18 := ⟨_, Tryz.func18, rfl, by kernel_rfl⟩
theorem goes_rid : Goes Tryz.prog 19 := ⟨_, Tryz.func19, rfl, by kernel_rfl⟩
theorem goes_raddr10 : Goes Tryz.prog 34 := ⟨_, Tryz.func34, rfl, by kernel_rfl⟩
theorem st4A : Tryz.prog.underlying 67 = some (.array 4 9) := Tryz.underlying67
/-! ### the landed Beside -/
def four4 (e : EnS) : List (List Bt) := [e.fr, e.to, e.id, e.th]
def besU (l : List (List Bt)) : List Bt := l.flatMap fun t => t ++ [10]
theorem besU_snoc (l : List (List Bt)) (t : List Bt) : besU (l ++ [t]) = (besU l ++ t) ++ [10] := by
  unfold besU
  rw [List.flatMap_append]
  simp
theorem bes_four (e : EnS) : besU (four4 e) = besB e.en := by
  unfold besU four4 besB
  simp [EnS.en]
theorem besU_len (e : EnS) (h : e.low) : ∀ i, (besU ((four4 e).take i)).length ≤ 1300 := by
  have := h.fr
  have := h.to
  have := h.id
  have := h.th
  intro i
  match i with
  | 0 => exact Nat.zero_le _
  | 1 => simp [besU, four4]; omega
  | 2 => simp [besU, four4]; omega
  | 3 => simp [besU, four4]; omega
  | i + 4 => simp [besU, four4]; omega
set_option maxHeartbeats 16000000 in
theorem bes_any (e : EnS) (w : World) (hlo : e.low) : Calls Tryz.prog 12 [.agg e.cs.toArray].toArray w fun x w' => ∃ y : { y : Sl8 // Ans y (besB e.en) }, x = .returned y.1.v ∧ Holds w [] y.1.ents w' := by
  have hlen := besU_len e hlo
  have hl1 := hlo.fr
  have hl2 := hlo.to
  have hl3 := hlo.id
  have hl4 := hlo.th
  refine enter (n := 26) Tryz.func12 rfl rfl rfl (Holds.start w []) ?_
  refine JC.seq (JC.region (JL.box (r := e.cs) rfl rfl rfl fun b1 _ => ?_))
  repeat (first | refine JL.q (by first | (apply OQ.load; exact strC; exact rfl; exact .here; exact (Row.cell (v := Z e.fr) rfl)) | (apply OQ.load; exact strC; exact rfl; exact .here; exact (Row.cell (v := Z e.to) rfl)) | (apply OQ.load; exact strC; exact rfl; exact .here; exact (Row.cell (v := Z e.id) rfl)) | (apply OQ.load; exact strC; exact rfl; exact .here; exact (Row.cell (v := Z e.th) rfl)) | (apply OQ.assign; exact rfl) | (apply OQ.fld; exact rfl; exact rfl; exact rfl; exact (by decide); exact rfl)) rfl ?_ | refine JC.seq ?_ | refine JC.region ?_ | refine JL.nil ?_ | refine JE.next ?_)
  refine JL.q (v := .agg ((four4 e).map Z).toArray) (OQ.run fun k hk w _ => ?_) rfl ?_
  · have e1 := hk.eval (x := .tmp 7) (v := Z e.fr) rfl
    have e2 := hk.eval (x := .tmp 9) (v := Z e.to) rfl
    have e3 := hk.eval (x := .tmp 11) (v := Z e.id) rfl
    have e4 := hk.eval (x := .tmp 13) (v := Z e.th) rfl
    have h3 := run_build (P := Tryz.prog) w 67 #[(0, Z e.fr), (1, Z e.to), (2, Z e.id), (3, Z e.th)] ((four4 e).map Z).toArray (by kernel_rfl)
    simp [execOp, e1, e2, e3, e4, Sem.run_bind, h3]
  repeat (first | refine JL.q (by (apply OQ.move; exact rfl)) rfl ?_ | refine JC.block ?_ | refine JL.nil ?_ | refine JE.next ?_)
  refine JC.loop (fun i : Nat × Acc => [(1, Pt b1 0), (14, .agg ((four4 e).map Z).toArray), (15, N i.1), (3, accV i.2 ((besU ((four4 e).take i.1)).map U8).length)]) (fun i => accE 5 i.2 ((besU ((four4 e).take i.1)).map U8) ++ []) (fun i => 4 - i.1) (fun i => i.1 ≤ 4 ∧ (i.2 = none → (besU ((four4 e).take i.1)).map U8 = [])) (0, none) ⟨Nat.zero_le _, fun _ => rfl⟩ (by repeat (first | exact SubE.nil | refine SubE.cons _ _ _ rfl ?_)) (.nil _) ?_
  rintro ⟨i, q⟩ ⟨hi, hq⟩
  dsimp only at hi hq ⊢
  have hli := hlen i
  generalize hX : besU ((four4 e).take i) = X at hq hli
  repeat (first | refine JL.q (by (apply OQ.lssN; exact rfl; exact rfl)) rfl ?_ | refine JC.seq ?_ | refine JC.region ?_ | refine JL.nil ?_ | refine JE.next ?_)
  refine JC.cond rfl (fun h => ?_) (fun h => ?_)
  · have hi' : i < 4 := of_decide_eq_true h
    clear h hi
    have hnx : besU ((four4 e).take (i + 1)) = (X ++ (four4 e).getD i []) ++ [10] := by
      rw [List.take_add_one, ← hX]
      have : (four4 e)[i]? = some ((four4 e).getD i []) := by
        rw [List.getD_eq_getElem?_getD, List.getElem?_eq_getElem (show i < (four4 e).length from hi')]
        rfl
      rw [this]
      exact besU_snoc _ _
    have hl5 := hlen (i + 1)
    rw [hnx] at hl5
    simp only [List.length_append, List.length_cons, List.length_nil] at hl5
    repeat (first | refine JL.q (by first | (apply OQ.index (cs := (four4 e).map Z); exact st4A; exact strS; exact strC; exact rfl; exact rfl; exact hi'; exact (map_at Z [] (show i < (four4 e).length from hi'))) | (apply OQ.move; exact rfl) | (apply OQ.assign; exact rfl)) rfl ?_ | refine JC.seq ?_ | refine JC.region ?_ | refine JC.block ?_ | refine JC.skip ?_ | refine JL.nil ?_ | refine JE.next ?_)
    generalize (four4 e).getD i [] = t at hnx hl5
    refine JL.appendZq (r := t) (xs := X.map U8) q Tryz.underlying22 Tryz.underlying9 u8e hq rfl rfl (by rw [List.length_map]; omega) rfl fun q1 hq1 => ?_
    repeat (first | refine JL.q (by first | (apply OQ.move; exact rfl) | (apply OQ.assign; exact rfl)) rfl ?_ | refine JC.region ?_ | refine JL.nil ?_ | refine JE.next ?_)
    refine JL.litL (xs := [.const (U8 10)]) (vs := [U8 10]) Tryz.underlying22 u8e rfl rfl rfl rfl (fun v hv => by rw [List.mem_singleton.1 hv]; rfl) rfl (by decide) (by decide) rfl fun bl _ => ?_
    refine JL.perm (M' := accE 5 q1 (X.map U8 ++ t.map U8) ++ [⟨bl, Row 5 [U8 10], true⟩]) ?_ (by rw [List.append_nil]; exact (List.perm_append_comm (l₁ := [_])))
    refine JL.appendQ (cs := [U8 10]) (m := 1) (ad := some ⟨bl, 0, none⟩) (sc := 1) q1 Tryz.underlying22 u8e hq1 rfl rfl rfl (fun w' hw' => by
      obtain ⟨o, ho, hA⟩ := hw'.get (b := bl) (A := Row 5 [U8 10]) (wr := true) (by
        cases q1 with
        | none => exact .here
        | some p => exact .there .here)
      exact Reads.block ho (Row.all _ hA)) (fun v hv => by rw [List.mem_singleton.1 hv]; rfl) rfl (by simp only [List.length_append, List.length_map]; omega) (by simp only [List.length_append, List.length_map]; omega) rfl fun q2 hq2 => ?_
    have hfin : (X.map U8 ++ t.map U8) ++ [U8 10] = (besU ((four4 e).take (i + 1))).map U8 := by
      rw [hnx, List.map_append, List.map_append]
      rfl
    rw [hfin] at hq2 ⊢
    repeat (first | refine JL.q (by first | (apply OQ.move; exact rfl) | (apply OQ.assign; exact rfl) | (apply OQ.addN; exact rfl; exact rfl; exact (by (try simp only []); omega))) rfl ?_ | refine JC.region ?_ | refine JL.nil ?_ | refine JE.next ?_ | refine JE.blk_normal ?_)
    exact JE.again (i := (i, q)) (i + 1, q2) ⟨hi', hq2⟩ (by show 4 - (i + 1) < 4 - i; omega) (by repeat (first | exact SubE.nil | refine SubE.cons _ _ _ rfl ?_)) (less_app2 (.nil _) _)
  · have hi' : ¬ i < 4 := of_decide_eq_false h
    obtain rfl : i = 4 := by omega
    have hX2 : X = besB e.en := by rw [← hX]; exact bes_four e
    subst hX2
    repeat (first | refine JL.q (by first | (apply OQ.move; exact rfl) | (apply OQ.assign; exact rfl)) rfl ?_ | refine JC.seq ?_ | refine JC.region ?_ | refine JC.exit ?_ | refine JL.nil ?_ | refine JE.next ?_ | refine JE.then_exit ?_ | refine JE.blk_hit ?_)
    refine JC.ret ?_
    skip
    refine JE.ret1 rfl (RV.tmp rfl) fun w' hw => ?_
    have hnil : q = none → besB e.en = [] := fun h => List.map_eq_nil_iff.1 (hq h)
    refine ⟨⟨accS q (besB e.en), accS_l hnil, accS_none⟩, ?_, ?_⟩
    · rw [accS_v, List.length_map]
    · rw [List.append_nil] at hw
      exact Sl.Holds.weak hw (accS_ents q _)
/-! ### the reference's -/
set_option maxHeartbeats 8000000 in
theorem radr_any (s : List Bt) (w : World) (hl : s.length < 1000000) : Calls Tryz.prog 18 [Z s].toArray w fun e w' => e = .returned (.bool (adB s)) ∧ Ext w w' := by
  refine enter (n := 17) Tryz.func18 rfl rfl rfl (Holds.start w []) ?_
  have ca := fun w' => raddr_any s w' hl
  unfold adB
  generalize (addrB s).1 = a at ca ⊢
  generalize (addrB s).2 = k at ca ⊢
  have ik : decide ((k : Int) = 0) = decide (k = 0) := decide_eq_decide.2 (by omega)
  rw [← ik]
  cases h1 : decide ((k : Int) = 0)
  case true =>
    cases h2 : decide (a = s)
    all_goals (repeat (first | refine JL.q (by first | (apply OQ.callx (vs := [Z s]); exact goes_raddr10; exact rfl; exact (fun w' _ => ca w')) | (apply OQ.extract; exact rfl; exact rfl) | (apply OQ.eqB (a := (k : Int)) (b := 0); exact rfl; exact rfl; exact h1) | (apply OQ.eqSB (l := a) (r := s); exact rfl; exact rfl; exact h2) | (apply OQ.pick_t; exact rfl; exact rfl) | (apply OQ.move; exact rfl) | (apply OQ.assign; exact rfl)) rfl ?_ | refine JC.seq ?_ | refine JC.region ?_ | refine JL.nil ?_ | refine JE.next ?_ | refine JL.gon rfl rfl ?_))
    all_goals refine JC.ret ?_
    all_goals (skip)
    all_goals exact JE.ret1 rfl (RV.tmp rfl) fun w' hw => ⟨rfl, hw.chg⟩
  repeat (first | refine JL.q (by first | (apply OQ.callx (vs := [Z s]); exact goes_raddr10; exact rfl; exact (fun w' _ => ca w')) | (apply OQ.extract; exact rfl; exact rfl) | (apply OQ.eqB (a := (k : Int)) (b := 0); exact rfl; exact rfl; exact h1) | (apply OQ.pick_f; exact rfl; exact rfl) | (apply OQ.move; exact rfl) | (apply OQ.assign; exact rfl)) rfl ?_ | refine JC.seq ?_ | refine JC.region ?_ | refine JL.nil ?_ | refine JE.next ?_ | refine JL.gskip rfl rfl rfl rfl ?_)
  refine JC.ret ?_
  skip
  exact JE.ret1 rfl (RV.tmp rfl) fun w' hw => ⟨rfl, hw.chg⟩
theorem idok_ways (c : Fld.By) : (decide ((c.toNat : Int) < 33) || (decide ((126 : Int) < (c.toNat : Int)) || (decide ((c.toNat : Int) = 60) || (decide ((c.toNat : Int) = 62) || (decide ((c.toNat : Int) = 40) || (decide ((c.toNat : Int) = 41) || (decide ((c.toNat : Int) = 34) || decide ((c.toNat : Int) = 92)))))))) = !idok c := by
  have h : ∀ c : Fin 256, (decide (((BitVec.ofNat 8 c.val).toNat : Int) < 33) || (decide ((126 : Int) < ((BitVec.ofNat 8 c.val).toNat : Int)) || (decide (((BitVec.ofNat 8 c.val).toNat : Int) = 60) || (decide (((BitVec.ofNat 8 c.val).toNat : Int) = 62) || (decide (((BitVec.ofNat 8 c.val).toNat : Int) = 40) || (decide (((BitVec.ofNat 8 c.val).toNat : Int) = 41) || (decide (((BitVec.ofNat 8 c.val).toNat : Int) = 34) || decide (((BitVec.ofNat 8 c.val).toNat : Int) = 92)))))))) = !idok (BitVec.ofNat 8 c.val) := by decide +kernel
  have := h ⟨c.toNat, c.isLt⟩
  rwa [BitVec.ofNat_toNat, BitVec.setWidth_eq] at this
theorem idB_bad {s : List Bt} (h : s.all idok = false) : idB s = false := by
  unfold idB
  rw [h]
  rfl
set_option maxHeartbeats 16000000 in
theorem rid_any (s : List Bt) (w : World) (hl : s.length < 9223372036854775808) : Calls Tryz.prog 19 [Z s].toArray w fun e w' => e = .returned (.bool (idB s)) ∧ Ext w w' := by
  refine enter (n := 52) Tryz.func19 rfl rfl rfl (Holds.start w []) ?_
  repeat (first | refine JL.q (by (apply OQ.assign; exact rfl)) rfl ?_ | refine JC.seq ?_ | refine JC.region ?_ | refine JC.block ?_ | refine JL.nil ?_ | refine JE.next ?_)
  refine JC.loop (fun i : Nat => [(0, Z s), (3, N i)]) (fun _ => []) (fun i => s.length - i) (fun i => i ≤ s.length ∧ (s.take i).all idok = true) 0 ⟨Nat.zero_le _, rfl⟩ (by repeat (first | exact SubE.nil | refine SubE.cons _ _ _ rfl ?_)) (Less.refl _) ?_
  rintro i ⟨hi, ha⟩
  repeat (first | refine JL.q (by first | (apply OQ.lenS; exact Tryz.underlying9; exact rfl) | (apply OQ.move; exact rfl) | (apply OQ.lssN; exact rfl; exact rfl)) rfl ?_ | refine JC.seq ?_ | refine JC.region ?_ | refine JL.nil ?_ | refine JE.next ?_)
  refine JC.cond rfl (fun h => ?_) (fun h => ?_)
  · have hi' : i < s.length := of_decide_eq_true h
    clear h hi
    have hx := all_take idok s 0 hi'
    have hbad := all_bad idok s 0 hi'
    have hw := idok_ways (s.getD i 0)
    rw [ha, Bool.true_and] at hx
    have hidx := fun {n : Nat} {E : Env} {C : World → Prop} {dst : Option Tmp} {ty : TypeId} {pos : String} {aft : Array Edge} {g : Option (Nat × Bool)} {x y : Operand} => idxAt hi' (n := n) (E := E) (C := C) (dst := dst) (ty := ty) (pos := pos) (aft := aft) (g := g) (x := x) (y := y)
    generalize s.getD i 0 = c at hx hbad hw hidx
    cases h1 : decide ((c.toNat : Int) < 33)
    focus cases h2 : decide ((126 : Int) < (c.toNat : Int))
    focus cases h3 : decide ((c.toNat : Int) = 60)
    focus cases h4 : decide ((c.toNat : Int) = 62)
    focus cases h5 : decide ((c.toNat : Int) = 40)
    focus cases h6 : decide ((c.toNat : Int) = 41)
    focus cases h7 : decide ((c.toNat : Int) = 34)
    focus cases h8 : decide ((c.toNat : Int) = 92)
    all_goals (try rw [h1] at hw)
    all_goals (try rw [h2] at hw)
    all_goals (try rw [h3] at hw)
    all_goals (try rw [h4] at hw)
    all_goals (try rw [h5] at hw)
    all_goals (try rw [h6] at hw)
    all_goals (try rw [h7] at hw)
    all_goals (try rw [h8] at hw)
    all_goals simp only [Bool.false_or, Bool.true_or, Bool.or_false, Bool.or_true] at hw
    all_goals (repeat (first | refine JL.q (by first | (apply hidx; exact rfl; exact rfl) | (apply OQ.lssB (b := 33); exact rfl; exact rfl; exact h1) | (apply OQ.gtrB (b := 126); exact rfl; exact rfl; exact h2) | (apply OQ.eqB (b := 60); exact rfl; exact rfl; exact h3) | (apply OQ.eqB (b := 62); exact rfl; exact rfl; exact h4) | (apply OQ.eqB (b := 40); exact rfl; exact rfl; exact h5) | (apply OQ.eqB (b := 41); exact rfl; exact rfl; exact h6) | (apply OQ.eqB (b := 34); exact rfl; exact rfl; exact h7) | (apply OQ.eqB (b := 92); exact rfl; exact rfl; exact h8) | (apply OQ.pick_t; exact rfl; exact rfl) | (apply OQ.pick_f; exact rfl; exact rfl) | (apply OQ.move; exact rfl) | (apply OQ.assign; exact rfl)) rfl ?_ | refine JC.seq ?_ | refine JC.region ?_ | refine JC.block ?_ | refine JC.skip ?_ | refine JL.nil ?_ | refine JE.next ?_ | refine JL.gon rfl rfl ?_ | refine JL.gskip rfl rfl rfl rfl ?_))
    all_goals refine JC.cond rfl (fun h => ?_) (fun h => ?_)
    all_goals first | (exfalso; revert h; decide) | skip
    all_goals (clear h)
    all_goals first
      | (have hnb : idok c = false := by
           cases hk : idok c
           · rfl
           · rw [hk] at hw; cases hw
         rw [idB_bad (hbad hnb)]
         (repeat (first | refine JL.q (by (apply OQ.assign; exact rfl)) rfl ?_ | refine JC.seq ?_ | refine JC.region ?_ | refine JL.nil ?_ | refine JE.next ?_))
         refine JC.ret ?_
         (repeat (first | refine JE.then_ret ?_ | refine JE.blk_ret ?_))
         exact JE.ret1 rfl (RV.tmp rfl) fun w' hw => ⟨rfl, hw.chg⟩)
      | (have hnb : idok c = true := by
           cases hk : idok c
           · rw [hk] at hw; cases hw
           · rfl
         (repeat (first | refine JL.q (by first | (apply OQ.move; exact rfl) | (apply OQ.assign; exact rfl) | (apply OQ.addN; exact rfl; exact rfl; exact (by (try simp only []); omega))) rfl ?_ | refine JC.region ?_ | refine JC.skip ?_ | refine JL.nil ?_ | refine JE.next ?_ | refine JE.blk_normal ?_))
         exact JE.again (i := i) (i + 1) ⟨hi', by rw [hx, hnb]⟩ (by omega) (by repeat (first | exact SubE.nil | refine SubE.cons _ _ _ rfl ?_)) (Less.refl _))
  · have hi' : ¬ i < s.length := of_decide_eq_false h
    obtain rfl : i = s.length := by omega
    clear h hi hi'
    rw [List.take_length] at ha
    have hI : idB s = (decide ((1 : Int) ≤ (s.length : Int)) && decide ((s.length : Int) ≤ 200)) := by
      unfold idB
      rw [ha, Bool.true_and]
      congr 1
      · exact decide_eq_decide.2 (by omega)
      · exact decide_eq_decide.2 (by omega)
    rw [hI]
    cases h1 : decide ((1 : Int) ≤ (s.length : Int))
    focus skip
    rotate_left
    cases h2 : decide ((s.length : Int) ≤ 200)
    all_goals (repeat (first | refine JL.q (by first | (apply OQ.lenS; exact Tryz.underlying9; exact rfl) | (apply OQ.geqB (b := 1); exact rfl; exact rfl; exact h1) | (apply OQ.leqB (b := 200); exact rfl; exact rfl; exact h2) | (apply OQ.pick_t; exact rfl; exact rfl) | (apply OQ.pick_f; exact rfl; exact rfl) | (apply OQ.move; exact rfl) | (apply OQ.assign; exact rfl)) rfl ?_ | refine JC.seq ?_ | refine JC.region ?_ | refine JC.exit ?_ | refine JL.nil ?_ | refine JE.next ?_ | refine JE.then_exit ?_ | refine JE.blk_hit ?_ | refine JL.gon rfl rfl ?_ | refine JL.gskip rfl rfl rfl rfl ?_))
    all_goals refine JC.ret ?_
    all_goals (skip)
    all_goals exact JE.ret1 rfl (RV.tmp rfl) fun w' hw => ⟨rfl, hw.chg⟩
end Go.Proofs.YtdabhneehconeaaGreatDoor

/-
  Of no statement by itself: PackBeside.
  Conditions: the tables of mime and pack in their variables.
-/
namespace Go.Proofs.YtdabhneehconeaaGreatDoor
set_option maxRecDepth 10000
open Sl Fld Tok Mim Pck
theorem goes_same13 : Goes Tryz.prog 11 := ⟨_, Tryz.func11, rfl, by kernel_rfl⟩
/-- two answers of Beside -/
structure Two8 (a b : List Bt) where
  x : { y : Sl8 // Ans y a }
  y : { y : Sl8 // Ans y b }
instance {a b : List Bt} : Inhabited (Two8 a b) := ⟨⟨⟨⟨some ⟨0, 0, none⟩, 0, a⟩, rfl, nofun⟩, ⟨⟨some ⟨0, 0, none⟩, 0, b⟩, rfl, nofun⟩⟩⟩
theorem bes_low (e : EnS) (h : e.low) : (besB e.en).length ≤ 1300 := by
  rw [← bes_four]
  exact besU_len e h 4
set_option maxHeartbeats 32000000 in
theorem law_packBeside (a b : EnS) (w : World) (ha : a.ok w) (hb : b.ok w) (hE : EncOk w) (hR : AllOk w) : Calls Tryz.prog 4 [.agg a.cs.toArray, .agg b.cs.toArray].toArray w fun e w' => e = .returned (.bool true) ∧ Ext w w' := by
  refine enter (n := 95) Tryz.func4 rfl rfl rfl (Holds.start w []) ?_
  refine JC.seq (JC.region (JL.box (r := a.cs) rfl rfl rfl fun b2 _ => ?_))
  refine JL.box (r := b.cs) rfl rfl rfl fun b3 _ => ?_
  have cs := fun w' (h1 : EncOk w') (h2 : AllOk w') => speaks13_any w' h1 h2
  repeat (first | refine JL.q (by first | (apply OQ.callx (vs := []); exact goes_speaks13; exact rfl; exact (fun w' hw' => cs w' (hE.holds hw') (hR.holds hw'))) | (apply OQ.not; exact rfl) | (apply OQ.assign; exact rfl)) rfl ?_ | refine JC.seq ?_ | refine JC.region ?_ | refine JL.nil ?_ | refine JE.next ?_)
  refine JC.cond rfl (fun h => by cases h) (fun _ => ?_)
  repeat (first | refine JC.seq ?_ | refine JC.region ?_ | refine JC.skip ?_ | refine JE.next ?_)
  have k1 := great13_any a
  have k2 := great13_any b
  cases h1 : greatE a
  focus cases h2 : greatE b
  rotate_left
  · rw [h1] at k1
    rw [h2] at k2
    repeat (first | refine JL.q (by first | (apply OQ.load_agg (cs := a.cs); exact enA; exact enZ; exact rfl; exact (.there .here); exact rfl; exact Row.all) | (apply OQ.load_agg (cs := b.cs); exact enA; exact enZ; exact rfl; exact .here; exact rfl; exact Row.all) | (apply OQ.callx (vs := [.agg a.cs.toArray]); exact goes_great13; exact rfl; exact (fun w' _ => k1 w')) | (apply OQ.callx (vs := [.agg b.cs.toArray]); exact goes_great13; exact rfl; exact (fun w' _ => k2 w')) | (apply OQ.pick_t; exact rfl; exact rfl) | (apply OQ.pick_f; exact rfl; exact rfl) | (apply OQ.move; exact rfl)) rfl ?_ | refine JL.nil ?_ | refine JE.next ?_ | refine JL.gon rfl rfl ?_ | refine JL.gskip rfl rfl rfl rfl ?_)
    refine JC.cond rfl (fun _ => ?_) (fun h => by cases h)
    repeat (first | refine JL.q (by (apply OQ.assign; exact rfl)) rfl ?_ | refine JC.seq ?_ | refine JC.region ?_ | refine JL.nil ?_ | refine JE.next ?_)
    refine JC.ret ?_
    repeat (refine JE.then_ret ?_)
    exact JE.ret1 rfl (RV.tmp rfl) fun w' hw => ⟨rfl, hw.chg⟩
  · rw [h1] at k1
    repeat (first | refine JL.q (by first | (apply OQ.load_agg (cs := a.cs); exact enA; exact enZ; exact rfl; exact (.there .here); exact rfl; exact Row.all) | (apply OQ.callx (vs := [.agg a.cs.toArray]); exact goes_great13; exact rfl; exact (fun w' _ => k1 w')) | (apply OQ.pick_t; exact rfl; exact rfl) | (apply OQ.move; exact rfl)) rfl ?_ | refine JL.nil ?_ | refine JE.next ?_ | refine JL.gskip rfl rfl rfl rfl ?_)
    refine JC.cond rfl (fun _ => ?_) (fun h => by cases h)
    repeat (first | refine JL.q (by (apply OQ.assign; exact rfl)) rfl ?_ | refine JC.seq ?_ | refine JC.region ?_ | refine JL.nil ?_ | refine JE.next ?_)
    refine JC.ret ?_
    repeat (refine JE.then_ret ?_)
    exact JE.ret1 rfl (RV.tmp rfl) fun w' hw => ⟨rfl, hw.chg⟩
  rw [h1] at k1
  rw [h2] at k2
  have la := greatE_no h1
  have lb := greatE_no h2
  have a1 := la.fr
  have a2 := la.to
  have a3 := la.id
  have a4 := la.th
  have e1 := lb.fr
  have e2 := lb.to
  have e3 := lb.id
  have e4 := lb.th
  have c1 := fun w' => radr_any a.fr w' (by omega)
  have c2 := fun w' => radr_any a.to w' (by omega)
  have c3 := fun w' => rid_any a.id w' (by omega)
  have c4 := fun w' => rid_any a.th w' (by omega)
  have d1 := fun w' => radr_any b.fr w' (by omega)
  have d2 := fun w' => radr_any b.to w' (by omega)
  have d3 := fun w' => rid_any b.id w' (by omega)
  have d4 := fun w' => rid_any b.th w' (by omega)
  have R1 : rightE a.en = (adB a.fr && (adB a.to && (idB a.id && idB a.th))) := rfl
  have R2 : rightE b.en = (adB b.fr && (adB b.to && (idB b.id && idB b.th))) := rfl
  cases p1 : adB a.fr
  rotate_left
  focus cases p2 : adB a.to
  rotate_left
  focus cases p3 : idB a.id
  rotate_left
  focus cases p4 : idB a.th
  rotate_left
  focus cases q1 : adB b.fr
  rotate_left
  focus cases q2 : adB b.to
  rotate_left
  focus cases q3 : idB b.id
  rotate_left
  focus cases q4 : idB b.th
  all_goals (try rw [p1] at c1 R1)
  all_goals (try rw [p2] at c2 R1)
  all_goals (try rw [p3] at c3 R1)
  all_goals (try rw [p4] at c4 R1)
  all_goals (try rw [q1] at d1 R2)
  all_goals (try rw [q2] at d2 R2)
  all_goals (try rw [q3] at d3 R2)
  all_goals (try rw [q4] at d4 R2)
  all_goals (repeat (first | refine JL.q (by first | (apply OQ.load_agg (cs := a.cs); exact enA; exact enZ; exact rfl; exact (.there .here); exact rfl; exact Row.all) | (apply OQ.load_agg (cs := b.cs); exact enA; exact enZ; exact rfl; exact .here; exact rfl; exact Row.all) | (apply OQ.callx (vs := [.agg a.cs.toArray]); exact goes_great13; exact rfl; exact (fun w' _ => k1 w')) | (apply OQ.callx (vs := [.agg b.cs.toArray]); exact goes_great13; exact rfl; exact (fun w' _ => k2 w')) | (apply OQ.load; exact strC; exact rfl; exact (.there .here); exact (Row.cell (v := Z a.fr) rfl)) | (apply OQ.load; exact strC; exact rfl; exact (.there .here); exact (Row.cell (v := Z a.to) rfl)) | (apply OQ.load; exact strC; exact rfl; exact (.there .here); exact (Row.cell (v := Z a.id) rfl)) | (apply OQ.load; exact strC; exact rfl; exact (.there .here); exact (Row.cell (v := Z a.th) rfl)) | (apply OQ.load; exact strC; exact rfl; exact .here; exact (Row.cell (v := Z b.fr) rfl)) | (apply OQ.load; exact strC; exact rfl; exact .here; exact (Row.cell (v := Z b.to) rfl)) | (apply OQ.load; exact strC; exact rfl; exact .here; exact (Row.cell (v := Z b.id) rfl)) | (apply OQ.load; exact strC; exact rfl; exact .here; exact (Row.cell (v := Z b.th) rfl)) | (apply OQ.callx (vs := [Z a.fr]); exact goes_radr; exact rfl; exact (fun w' _ => c1 w')) | (apply OQ.callx (vs := [Z a.to]); exact goes_radr; exact rfl; exact (fun w' _ => c2 w')) | (apply OQ.callx (vs := [Z a.id]); exact goes_rid; exact rfl; exact (fun w' _ => c3 w')) | (apply OQ.callx (vs := [Z a.th]); exact goes_rid; exact rfl; exact (fun w' _ => c4 w')) | (apply OQ.callx (vs := [Z b.fr]); exact goes_radr; exact rfl; exact (fun w' _ => d1 w')) | (apply OQ.callx (vs := [Z b.to]); exact goes_radr; exact rfl; exact (fun w' _ => d2 w')) | (apply OQ.callx (vs := [Z b.id]); exact goes_rid; exact rfl; exact (fun w' _ => d3 w')) | (apply OQ.callx (vs := [Z b.th]); exact goes_rid; exact rfl; exact (fun w' _ => d4 w')) | (apply OQ.not; exact rfl) | (apply OQ.pick_t; exact rfl; exact rfl) | (apply OQ.pick_f; exact rfl; exact rfl) | (apply OQ.move; exact rfl) | (apply OQ.fld; exact rfl; exact rfl; exact rfl; exact (by decide); exact rfl)) rfl ?_ | refine JL.nil ?_ | refine JE.next ?_ | refine JL.gon rfl rfl ?_ | refine JL.gskip rfl rfl rfl rfl ?_))
  all_goals refine JC.cond rfl (fun h => ?_) (fun h => ?_)
  all_goals first | (exfalso; revert h; decide) | skip
  all_goals clear h
  all_goals first
    | ((repeat (first | refine JL.q (by first | (apply OQ.assign; exact rfl) | (apply OQ.fld; exact rfl; exact rfl; exact rfl; exact (by decide); exact rfl)) rfl ?_ | refine JC.seq ?_ | refine JC.region ?_ | refine JC.skip ?_ | refine JL.nil ?_ | refine JE.next ?_))
       refine JC.ret ?_
       (repeat (refine JE.then_ret ?_))
       exact JE.ret1 rfl (RV.tmp rfl) fun w' hw => ⟨rfl, hw.chg⟩)
    | skip
  have hone := bes_one (a := a.en) (b := b.en) R1 R2
  have hr : (decide (a.fr = b.fr) && (decide (a.to = b.to) && (decide (a.id = b.id) && decide (a.th = b.th)))) = decide (besB a.en = besB b.en) := by
    rw [Bool.eq_iff_iff]
    simp only [Bool.and_eq_true, decide_eq_true_eq]
    exact hone.symm
  clear c1 c2 c3 c4 d1 d2 d3 d4 k1 k2 hone R1 R2
  refine JC.skip (JE.next ?_)
  refine JC.mid (ι := Bool) (fun r => [(2, Pt b2 0), (3, Pt b3 0), (5, .bool r)]) (fun _ => [⟨b3, Row 24 b.cs, true⟩, ⟨b2, Row 24 a.cs, true⟩]) (fun r => r = decide (besB a.en = besB b.en)) ?_ ?_
  · cases o1 : decide (a.fr = b.fr)
    rotate_left
    focus cases o2 : decide (a.to = b.to)
    rotate_left
    focus cases o3 : decide (a.id = b.id)
    rotate_left
    focus cases o4 : decide (a.th = b.th)
    all_goals (try rw [o1] at hr)
    all_goals (try rw [o2] at hr)
    all_goals (try rw [o3] at hr)
    all_goals (try rw [o4] at hr)
    all_goals (repeat (first | refine JL.q (by first | (apply OQ.load; exact strC; exact rfl; exact (.there .here); exact (Row.cell (v := Z a.fr) rfl)) | (apply OQ.load; exact strC; exact rfl; exact (.there .here); exact (Row.cell (v := Z a.to) rfl)) | (apply OQ.load; exact strC; exact rfl; exact (.there .here); exact (Row.cell (v := Z a.id) rfl)) | (apply OQ.load; exact strC; exact rfl; exact (.there .here); exact (Row.cell (v := Z a.th) rfl)) | (apply OQ.load; exact strC; exact rfl; exact .here; exact (Row.cell (v := Z b.fr) rfl)) | (apply OQ.load; exact strC; exact rfl; exact .here; exact (Row.cell (v := Z b.to) rfl)) | (apply OQ.load; exact strC; exact rfl; exact .here; exact (Row.cell (v := Z b.id) rfl)) | (apply OQ.load; exact strC; exact rfl; exact .here; exact (Row.cell (v := Z b.th) rfl)) | (apply OQ.eqSB (l := a.fr) (r := b.fr); exact rfl; exact rfl; exact o1) | (apply OQ.eqSB (l := a.to) (r := b.to); exact rfl; exact rfl; exact o2) | (apply OQ.eqSB (l := a.id) (r := b.id); exact rfl; exact rfl; exact o3) | (apply OQ.eqSB (l := a.th) (r := b.th); exact rfl; exact rfl; exact o4) | (apply OQ.pick_t; exact rfl; exact rfl) | (apply OQ.pick_f; exact rfl; exact rfl) | (apply OQ.move; exact rfl) | (apply OQ.assign; exact rfl) | (apply OQ.fld; exact rfl; exact rfl; exact rfl; exact (by decide); exact rfl)) rfl ?_ | refine JC.region ?_ | refine JL.nil ?_ | refine JL.gon rfl rfl ?_ | refine JL.gskip rfl rfl rfl rfl ?_))
    all_goals exact JE.mid _ hr (by repeat (first | exact SubE.nil | refine SubE.cons _ _ _ rfl ?_)) (Less.refl _)
  rintro r hr2
  clear hr
  have ca := fun (M : List Ent) (w' : World) (_ : Holds w [] M w') => bes_any a w' la
  have cb := fun (M : List Ent) (w' : World) (_ : Holds w [] M w') => bes_any b w' lb
  have na := bes_low a la
  have nb := bes_low b lb
  let vs : Nat → Two8 (besB a.en) (besB b.en) → Value := fun j z => match j with
    | 0 => .agg a.cs.toArray
    | 1 => z.x.1.v
    | 2 => .agg b.cs.toArray
    | 3 => z.y.1.v
    | 4 => .bool r
    | 5 => .bool r
    | _ => .bool true
  let Ms : Nat → Two8 (besB a.en) (besB b.en) → List Ent := fun j z => match j with
    | 1 => z.x.1.ents
    | 3 => z.y.1.ents
    | 8 => [⟨b3, Row 24 b.cs, true⟩]
    | 9 => [⟨b2, Row 24 a.cs, true⟩]
    | _ => []
  repeat (refine JC.seq ?_)
  refine JC.growR (g := ⟨[(2, Pt b2 0), (3, Pt b3 0), (5, .bool r)], 10, vs, Ms, (fun j => match j with | 1 => [(0, 88)] | 3 => [(2, 90)] | 4 => [(1, 89), (3, 91)] | 6 => [(4, 92), (5, 93)] | 7 => [(6, 94)] | _ => []), (fun j => match j with | 0 => [9] | 2 => [8] | 4 => [1, 3] | _ => []), fun _ => [], fun _ => none, fun _ => [], fun _ _ _ => True⟩) [(7, 4)] [] mixP (by repeat (first | exact SubE.nil | refine SubE.cons _ _ _ rfl ?_)) (fun _ _ => .nil) (Less.refl _) (by kernel_rfl) (by kernel_rfl) (by kernel_rfl) ?_ ?_
  · refine ⟨?_, ?_, ?_, ?_, ?_, ?_, ?_, ?_, trivial⟩
    · (intro x' EF MF Q kk; exact JL.q (OQ.load_agg (cs := a.cs) enA enZ rfl .here rfl Row.all) rfl (JL.nil (kk default nofun)))
    · (intro x' EF MF Q kk; exact JL.callg (ι := { y : Sl8 // Ans y (besB a.en) }) (vs := [.agg a.cs.toArray]) (fun y => y.1.v) (fun y => y.1.ents) goes_bes rfl rfl (fun y => y.1.ents_wr) (ca _) fun y => JL.nil (kk ⟨y, (default : Two8 (besB a.en) (besB b.en)).y⟩ nofun))
    · (intro x' EF MF Q kk; exact JL.q (OQ.load_agg (cs := b.cs) enA enZ rfl .here rfl Row.all) rfl (JL.nil (kk default nofun)))
    · (intro x' EF MF Q kk; exact JL.callg (ι := { y : Sl8 // Ans y (besB b.en) }) (vs := [.agg b.cs.toArray]) (fun y => y.1.v) (fun y => y.1.ents) goes_bes rfl rfl (fun y => y.1.ents_wr) (cb _) fun y => JL.nil (kk ⟨(default : Two8 (besB a.en) (besB b.en)).x, y⟩ nofun))
    · intro x' EF MF Q kk
      refine JL.q (OQ.callx (vs := [(x' 1).x.1.v, (x' 3).y.1.v]) goes_same13 rfl (fun w' hw' => ?_)) rfl (JL.nil (kk default nofun))
      have h1 : Holds w [] (((x' 1).x.1.ents ++ ((x' 3).y.1.ents ++ [])) ++ MF) w' := hw'
      rw [List.append_nil, List.append_assoc] at h1
      have := same_any (x' 1).x.1 (x' 3).y.1 w' (Sl8.ents_ok h1 (x' 1).x.2.none) (Sl8.ents_ok (Sl.Holds.weak h1 (less_app _ (Less.refl _))) (x' 3).y.2.none) (by rw [(x' 1).x.2.val]; omega)
      rw [(x' 1).x.2.val, (x' 3).y.2.val, ← hr2] at this
      exact this
    · (intro x' EF MF Q kk; exact JL.q (OQ.move rfl) rfl (JL.nil (kk default nofun)))
    · (intro x' EF MF Q kk; exact JL.q (OQ.eqbT Tryz.underlying4 rfl rfl) rfl (JL.nil (kk default nofun)))
    · (intro x' EF MF Q kk; exact JL.q (OQ.assign rfl) rfl (JL.nil (kk default nofun)))
  intro x' _
  repeat (refine JE.next ?_)
  refine JC.ret ?_
  skip
  exact JE.ret1 rfl (RV.tmp rfl) fun w' hw => ⟨rfl, hw.chg⟩
end Go.Proofs.YtdabhneehconeaaGreatDoor

/-
  Of no statement by itself: what a plain row's proof opens its arguments with (keys, bytes, slices of bytes and of int).
  Conditions: each theorem's own.
-/
namespace Go.Proofs.YtdabhneehconeaaGreatDoor
set_option maxRecDepth 10000
open Go.ChangeShapes Go.WideShapes Go.ChangeAt Go.RowKit
open Sl
set_option linter.unusedVariables false
theorem ownQ : ownKnob Tryz.prog.godebug = none := by kernel_rfl
theorem laidOutQ : laidOutB Tryz.prog = true := by kernel_rfl
theorem u8_of {z : Int} (h : (Lit.int .u8 z).wf = true) : U8 (BitVec.ofInt 8 z) = .int .u8 z := by
  have h0 : 0 ≤ z ∧ z ≤ 255 := by
    have h1 : (decide (0 ≤ z) && decide (z ≤ 255)) = true := h
    simpa using h1
  have h2 : ((BitVec.ofInt 8 z).toNat : Int) = z := by
    rw [BitVec.toNat_ofInt]
    omega
  unfold U8
  rw [h2]
def bits8 (zs : List Int) : List (BitVec 8) := zs.map (BitVec.ofInt 8)
theorem sl8_of {H : Type} {enc : TypeId × Value → H} {W : World} {fuel : Nat} {v : Value} {x : DataW H × List MemPlace} (h : DataW.trod enc Tryz.prog W 0 (fun _ => true) true fuel 22 [v] = some x) : ∃ k : Sl8, v = k.v ∧ k.ok W ∧ k.cap ≤ maxLen := by
  rcases open_ints (show Tryz.prog.underlying 22 = some (.slice 5) by kernel_rfl) (show Tryz.prog.underlying 5 = some (.int .u8) by kernel_rfl) (by kernel_rfl) h with ⟨hcs, _⟩ | ⟨x, l, c, zs, hcs, _, hl, hm, hz, _, hcell, hwz⟩
  · cases hcs
    exact ⟨⟨none, 0, []⟩, rfl, ⟨by simp, Reads.nil _ _⟩, by decide⟩
  · cases hcs
    simp only [if_true] at hz
    have hlen : (bits8 (zs.take l)).length = l := by simp [bits8]; omega
    refine ⟨⟨some x, c, bits8 (zs.take l)⟩, by simp [Sl8.v, hlen], ⟨by rw [hlen]; exact hl, ?_⟩, hm⟩
    intro i v hv
    have hi : i < l := by
      have := (List.getElem?_eq_some_iff.1 hv).1
      simpa [hlen] using this
    have hc := hcell i (by omega)
    obtain ⟨b, o, sp⟩ := x
    cases sp with
    | some s =>
      have hc := hcell 0 (by omega)
      simp only [World.cell?, Addr.add, if_true] at hc
      split at hc <;> simp at hc
    | none =>
      refine ⟨b, o, rfl, ?_⟩
      have e1 : zs.getD i 0 = zs[i]'(by omega) := by simp [List.getD, show i < zs.length by omega]
      have e2 := u8_of (hwz (zs[i]'(by omega)) (List.getElem_mem _))
      have e3 : v = .int .u8 (zs.getD i 0) := by
        simp only [bits8, List.map_map, List.getElem?_map, List.getElem?_take] at hv
        rw [if_pos hi, List.getElem?_eq_getElem (by omega)] at hv
        simp only [Option.map_some, Function.comp, Option.some.injEq] at hv
        rw [← hv, e2, e1]
      rw [e3]
      have e4 : (⟨b, o, none⟩ : Addr).add i = ⟨b, o + i, none⟩ := by
        unfold Addr.add
        split
        · subst i; rfl
        · rfl
      rw [e4] at hc
      exact hc
end Go.Proofs.YtdabhneehconeaaGreatDoor

/-
  Of no statement by itself: what a plain row's proof opens pairs of strings and slices of them with.
  Conditions: each theorem's own.
-/
namespace Go.Proofs.YtdabhneehconeaaGreatDoor
set_option maxRecDepth 10000
open Go.ChangeShapes Go.WideShapes Go.ChangeAt Go.RowKit
open Sl Fld
set_option linter.unusedVariables false
theorem z_of (s : ByteArray) : ∃ l : List Bt, Value.string s = Z l ∧ l.length = s.size := ⟨bytesOf s, by show _ = Value.string _; rw [strB_bytesOf], bytesOf_length s⟩
end Go.Proofs.YtdabhneehconeaaGreatDoor

/-
  Of no statement by itself: what a row's proof opens an envelope with; that the tables of mime and pack lie in their variables, out of what the card lists; the witness world.
  Conditions: each theorem's own.
-/
namespace Go.Proofs.YtdabhneehconeaaGreatDoor
set_option maxRecDepth 10000
open Go.ChangeShapes Go.WideShapes Go.ChangeAt Go.RowKit
open Sl Fld Mim Pck
set_option linter.unusedVariables false
def fldIs (P : Program) (t : TypeId) (i : Nat) (ty : TypeId) (off : Nat) : Bool := match (P.fieldsOf t)[i]? with
  | some f => f.type == ty && f.offset == off
  | none => false
theorem fldIs_get {P : Program} {t : TypeId} {i : Nat} {ty : TypeId} {off : Nat} (h : fldIs P t i ty off = true) : ∃ f, (P.fieldsOf t)[i]? = some f ∧ f.type = ty ∧ f.offset = off := by
  unfold fldIs at h
  split at h
  · next f e =>
    simp only [Bool.and_eq_true, beq_iff_eq] at h
    exact ⟨f, e, h.1, h.2⟩
  · cases h
theorem env_of {H : Type} {enc : TypeId × Value → H} {W : World} {base fuel : Nat} {v : Value} {x : DataW H × List MemPlace} (hok : Value.okWide Tryz.prog W .any base 24 v) (h : DataW.trod enc Tryz.prog W 0 (fun _ => true) true fuel 24 v.cells.toList = some x) :
    ∃ e : EnS, v = .agg e.cs.toArray ∧ e.ok W := by
  have ht : Tryz.prog.underlying 24 = some (.struct (Tryz.prog.fieldsOf 24)) := by kernel_rfl
  have ct : Tryz.prog.cellsOf 24 = 7 := by kernel_rfl
  have c0 : Tryz.prog.cellsOf 9 = 1 := by kernel_rfl
  have c1 : Tryz.prog.cellsOf 22 = 1 := by kernel_rfl
  have c2 : Tryz.prog.cellsOf 4 = 1 := by kernel_rfl
  have hs : Tryz.prog.underlying 9 = some .string := by kernel_rfl
  have hb : Tryz.prog.underlying 4 = some .bool := by kernel_rfl
  obtain ⟨xs, n, _, _, hl, hlen, hf⟩ := DataW.trod_struct ht h
  have hsz : (Tryz.prog.fieldsOf 24).size = 7 := by kernel_rfl
  rw [hsz] at hlen
  have g : ∀ {i ty off}, fldIs Tryz.prog 24 i ty off = true → i < 7 → ∃ y, DataW.trod enc Tryz.prog W 0 (fun _ => true) true n ty ((v.cells.toList.drop off).take (Tryz.prog.cellsOf ty)) = some y := fun {i ty off} h1 h2 => by
    obtain ⟨f, e1, rfl, rfl⟩ := fldIs_get h1
    exact ⟨xs[i], by rw [hf i f e1, List.getElem?_eq_getElem (by omega)]⟩
  simp only [Value.okWide, ht] at hok
  obtain ⟨c, rfl, hcz, _⟩ := hok
  rw [ct] at hcz
  obtain ⟨y0, g0⟩ := g (i := 0) (ty := 9) (off := 0) (by kernel_rfl) (by decide)
  obtain ⟨y1, g1⟩ := g (i := 1) (ty := 9) (off := 1) (by kernel_rfl) (by decide)
  obtain ⟨y2, g2⟩ := g (i := 2) (ty := 9) (off := 2) (by kernel_rfl) (by decide)
  obtain ⟨y3, g3⟩ := g (i := 3) (ty := 9) (off := 3) (by kernel_rfl) (by decide)
  obtain ⟨y4, g4⟩ := g (i := 4) (ty := 4) (off := 4) (by kernel_rfl) (by decide)
  obtain ⟨y5, g5⟩ := g (i := 5) (ty := 22) (off := 5) (by kernel_rfl) (by decide)
  obtain ⟨y6, g6⟩ := g (i := 6) (ty := 22) (off := 6) (by kernel_rfl) (by decide)
  rw [c0] at g0 g1 g2 g3
  rw [c2] at g4
  rw [c1] at g5 g6
  obtain ⟨l⟩ := c
  rw [show (Value.agg ⟨l⟩).cells.toList = l from rfl] at g0 g1 g2 g3 g4 g5 g6
  match l, hcz with
  | [a0, a1, a2, a3, a4, a5, a6], _ =>
    obtain ⟨s0, q0, _, _⟩ := DataW.trod_string hs g0
    obtain ⟨s1, q1, _, _⟩ := DataW.trod_string hs g1
    obtain ⟨s2, q2, _, _⟩ := DataW.trod_string hs g2
    obtain ⟨s3, q3, _, _⟩ := DataW.trod_string hs g3
    obtain ⟨b4, q4, _⟩ := DataW.trod_bool hb g4
    obtain ⟨k5, r5, ok5, _⟩ := sl8_of (v := a5) g5
    obtain ⟨k6, r6, ok6, _⟩ := sl8_of (v := a6) g6
    obtain ⟨l0, z0, _⟩ := z_of s0
    obtain ⟨l1, z1, _⟩ := z_of s1
    obtain ⟨l2, z2, _⟩ := z_of s2
    obtain ⟨l3, z3, _⟩ := z_of s3
    simp at q0 q1 q2 q3 q4
    refine ⟨⟨l0, l1, l2, l3, b4, k5, k6⟩, ?_, ⟨ok5, ok6⟩⟩
    rw [q0, q1, q2, q3, q4, r5, r6, z0, z1, z2, z3]
    rfl
theorem laid_plain13 : ((Rows.packBesideRow.laid).all fun x => x.2.handleName?.isNone) = true := by kernel_rfl
/-- The witness world meets the condition. -/
theorem wit_met (os : Os) (args : Array Value) : laidMetH Tryz.prog Rows.packBesideRow.laid ((World.laidAll Tryz.prog os Rows.packBesideRow.laid).forCall (fun _ _ => 0) ⟨#[], args, []⟩).memory := by
  rw [MakeChecks.laidMetH_plain _ _ _ laid_plain13]
  exact laidMet_laidAll _ (by kernel_rfl) (by kernel_rfl)
theorem wit_shape (os : Os) : (World.laidAll Tryz.prog os Rows.packBesideRow.laid).Shaped Tryz.prog := World.shaped_of_ZipB (by kernel_rfl) (by kernel_rfl)
theorem ro_of {W : World} {fuel : Nat} {cs : List Value} {s : List UInt8} {c : Int} {x : DataW Unit × List MemPlace} (h : DataW.trod (fun _ => ()) Tryz.prog W 0 (fun _ => true) false fuel 163 cs = some x) (hx : x.1 = .agg [.lit (.string s), .lit (.int .i64 c)]) : cs = [.string ⟨s.toArray⟩, .int .i64 c] := by
  obtain ⟨y0, y1, n, rfl, hl, g0, g1⟩ := trod_struct2 Tryz.underlying163 h
  have c9 : Tryz.prog.cellsOf 9 = 1 := by kernel_rfl
  have c3 : Tryz.prog.cellsOf 3 = 1 := by kernel_rfl
  have c2 : Tryz.prog.cellsOf 163 = 2 := by kernel_rfl
  dsimp only at g0 g1 hx
  rw [c9] at g0
  rw [c3] at g1
  rw [c2] at hl
  obtain ⟨s', q0, e0, _⟩ := DataW.trod_string (show Tryz.prog.underlying 9 = some .string by kernel_rfl) g0
  obtain ⟨z, q1, e1, _⟩ := DataW.trod_int (show Tryz.prog.underlying 3 = some (.int .i64) by kernel_rfl) g1
  rw [e0, e1] at hx
  simp only [DataW.agg.injEq, List.cons.injEq, DataW.lit.injEq, Lit.string.injEq, Lit.int.injEq, and_true, true_and] at hx
  obtain ⟨rfl, rfl⟩ := hx
  match cs, hl with
  | [a, b], _ =>
    simp at q0 q1
    rw [q0, q1]
theorem bo_of {W : World} {fuel : Nat} {cs : List Value} {c : Bool} {x : DataW Unit × List MemPlace} (h : DataW.trod (fun _ => ()) Tryz.prog W 0 (fun _ => true) false fuel 4 cs = some x) (hx : x.1 = .lit (.bool c)) : cs = [.bool c] := by
  obtain ⟨b, rfl, rfl⟩ := DataW.trod_bool (show Tryz.prog.underlying 4 = some .bool by kernel_rfl) h
  simp only [DataW.lit.injEq, Lit.bool.injEq] at hx
  rw [hx]
theorem tables_of_laid {W : World} (h : laidMetH Tryz.prog Rows.packBesideRow.laid W) : EncOk W ∧ AllOk W := by
  rw [MakeChecks.laidMetH_plain _ _ _ laid_plain13] at h
  have h' : laidMet Tryz.prog (("unicode/utf8.acceptRanges", Rows.laid_unicode_utf8_acceptRanges) :: ("despatch/mime.encodings", Rows.laid_despatch_mime_encodings) :: ("despatch/pack.allRight", Rows.laid_despatch_pack_allRight) :: [("unicode.CaseRanges", Rows.laid_unicode_CaseRanges), ("unicode/utf8.first", Rows.laid_unicode_utf8_first)]) W := h
  obtain ⟨ps, ⟨g1, t1, cs1, f1, p1, q1, _, _, _, _, ⟨g2, t2, cs2, f2, p2, q2, hg, ht, hvar, hd, ⟨g3, t3, cs3, f3, p3, q3, hg3, ht3, hvar3, hd3, _, _⟩, _⟩, _⟩, _⟩ := h'
  constructor
  · have hg' : Tryz.prog.globalNamed "despatch/mime.encodings" = some 1 := by kernel_rfl
    obtain rfl := Option.some.inj (hg'.symm.trans hg)
    have ht' : (Tryz.prog.globals[1]?).map (·.type) = some 164 := by kernel_rfl
    obtain rfl := Option.some.inj (ht'.symm.trans ht)
    obtain ⟨xs, m, _, ex, hcl, hxl, hel⟩ := DataW.trod_array tbU hd
    have c2 : Tryz.prog.cellsOf 163 = 2 := by kernel_rfl
    have c12 : Tryz.prog.cellsOf 164 = 12 := by kernel_rfl
    rw [c12] at hcl
    simp only [c2] at hel
    have hx := congrArg Prod.fst ex
    dsimp only at hx
    unfold Rows.laid_despatch_mime_encodings at hx
    rw [DataW.agg.injEq] at hx
    match xs, hxl with
    | [x0, x1, x2, x3, x4, x5], _ =>
      simp only [List.map_cons, List.map_nil, List.cons.injEq, and_true] at hx
      obtain ⟨e0, e1, e2, e3, e4, e5⟩ := hx
      have r0 := ro_of (hel 0 (by decide)) e0.symm
      have r1 := ro_of (hel 1 (by decide)) e1.symm
      have r2 := ro_of (hel 2 (by decide)) e2.symm
      have r3 := ro_of (hel 3 (by decide)) e3.symm
      have r4 := ro_of (hel 4 (by decide)) e4.symm
      have r5 := ro_of (hel 5 (by decide)) e5.symm
      have hcs : cs2.toList = encT := by
        generalize cs2.toList = l at *
        match l, hcl with
        | [a0, a1, a2, a3, a4, a5, a6, a7, a8, a9, a10, a11], _ =>
          simp at r0 r1 r2 r3 r4 r5
          rw [r0.1, r0.2, r1.1, r1.2, r2.1, r2.2, r3.1, r3.2, r4.1, r4.2, r5.1, r5.2]
          rfl
      unfold World.var? at hvar
      rw [hg'] at hvar
      simp only [Option.bind_some] at hvar
      split at hvar
      · rename_i cs e fr hb
        refine ⟨e, fr, ?_⟩
        rw [hb, Option.some.inj hvar, ← hcs]
      · cases hvar
  · have hg' : Tryz.prog.globalNamed "despatch/pack.allRight" = some 0 := by kernel_rfl
    obtain rfl := Option.some.inj (hg'.symm.trans hg3)
    have ht' : (Tryz.prog.globals[0]?).map (·.type) = some 53 := by kernel_rfl
    obtain rfl := Option.some.inj (ht'.symm.trans ht3)
    obtain ⟨xs, m, _, ex, hcl, hxl, hel⟩ := DataW.trod_array (show Tryz.prog.underlying 53 = some (.array 5 4) by kernel_rfl) hd3
    have c2 : Tryz.prog.cellsOf 4 = 1 := by kernel_rfl
    have c12 : Tryz.prog.cellsOf 53 = 5 := by kernel_rfl
    rw [c12] at hcl
    simp only [c2] at hel
    have hx := congrArg Prod.fst ex
    dsimp only at hx
    unfold Rows.laid_despatch_pack_allRight at hx
    rw [DataW.agg.injEq] at hx
    match xs, hxl with
    | [x0, x1, x2, x3, x4], _ =>
      simp only [List.map_cons, List.map_nil, List.cons.injEq, and_true] at hx
      obtain ⟨e0, e1, e2, e3, e4⟩ := hx
      have r0 := bo_of (hel 0 (by decide)) e0.symm
      have r1 := bo_of (hel 1 (by decide)) e1.symm
      have r2 := bo_of (hel 2 (by decide)) e2.symm
      have r3 := bo_of (hel 3 (by decide)) e3.symm
      have r4 := bo_of (hel 4 (by decide)) e4.symm
      have hcs : cs3.toList = fiV true true true true true := by
        generalize cs3.toList = l at *
        match l, hcl with
        | [a0, a1, a2, a3, a4], _ =>
          simp at r0 r1 r2 r3 r4
          rw [r0, r1, r2, r3, r4]
          rfl
      unfold World.var? at hvar3
      rw [hg'] at hvar3
      simp only [Option.bind_some] at hvar3
      split at hvar3
      · rename_i cs e fr hb
        refine ⟨e, fr, ?_⟩
        rw [hb, Option.some.inj hvar3, ← hcs]
      · cases hvar3
end Go.Proofs.YtdabhneehconeaaGreatDoor
