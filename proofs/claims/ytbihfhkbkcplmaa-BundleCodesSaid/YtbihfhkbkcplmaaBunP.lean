/-
  Of no statement by itself: what the code's Encode gives, and what despatchlaw18.speaks answers, in a seat without curve.
  Conditions: each theorem's own.
-/
import Derived.Test.YtbihfhkbkcplmaaTyp
import Derived.Test.YtbihfhkbkcplmaaSlo
import Derived.Test.YtbihfhkbkcplmaaSlk
import Derived.Test.YtbihfhkbkcplmaaSlm
import Derived.Test.YtbihfhkbkcplmaaSlj
import Derived.Laws.Tables
import Derived.Great.FillDense
namespace Go.Proofs.Ytbihfhkbkcplmaa
set_option maxRecDepth 10000
open Sl
abbrev By := BitVec 8
theorem k32s : szT Try.prog 23 = some 32 := by kernel_rfl
theorem k32a : aggT Try.prog 23 = true := by kernel_rfl
theorem s5 : szT Try.prog 5 = some 1 := by kernel_rfl
theorem c5 : scal Try.prog 5 = true := by kernel_rfl
theorem e8k : EI Try.prog 5 (.int .u8 0) 1 1 := by unfold EI; kernel_rfl
theorem Y_cell (l : List By) : (l.map U8).all Value.oneCell' = true := by simp [Value.oneCell']
theorem of_u8 (l : List By) : ∀ v ∈ l.map U8, v.oneCell' = true := by
  intro v hv
  obtain ⟨x, _, rfl⟩ := List.mem_map.1 hv
  rfl
section
variable {P : Program} {n : Nat} {E : Env} {C : World → Prop} {dst : Option Tmp} {ty t t' : TypeId} {pos : String} {aft : Array Edge} {g : Option (Nat × Bool)} {x y : Operand} {v u : Value} {cs : List Value}
/-- a literal of a struct of two parts -/
theorem OQ.build2 (hx : ev E x = some v) (hy : ev E y = some u) (h : P.built t [(0, v), (1, u)] = some cs.toArray) : OQ P n E C ⟨dst, .build t #[(0, x), (1, y)], ty, pos, aft, g⟩ (.agg cs.toArray) :=
  OQ.run fun a ha w _ => by
    have h1 := ha.eval hx
    have h2 := ha.eval hy
    have r := run_build w t #[(0, v), (1, u)] cs.toArray (by simpa using h)
    simp [execOp, h1, h2, r]
end
theorem fill2 (place : Nat → Option (Nat × Nat)) (h0 : place 0 = some (0, 32)) (h1 : place 1 = some (32, 32)) (a b : List By) (ha : a.length = 32) (hb : b.length = 32) :
    Instr.fill place (((List.replicate 64 (0 : By)).map U8).toArray) [(0, .agg (a.map U8).toArray), (1, .agg (b.map U8).toArray)] = some ((a ++ b).map U8).toArray := by
  have e : Instr.fill place (((List.replicate 64 (0 : By)).map U8).toArray) [(0, .agg (a.map U8).toArray), (1, .agg (b.map U8).toArray)] =
      Instr.fill (fun i => some (i * 32, 32)) (((List.replicate 64 (0 : By)).map U8).toArray) [(0, .agg (a.map U8).toArray), (1, .agg (b.map U8).toArray)] := by
    simp [Instr.fill, h0, h1]
  rw [e]
  obtain ⟨r, h6, h7, h8⟩ := Great.fill_dense (s := 32) (by decide) [.agg (a.map U8).toArray, .agg (b.map U8).toArray] 0 (((List.replicate 64 (0 : By)).map U8).toArray) (by simp [Value.cells, ha, hb]) (by simp)
  simp only [List.zipIdx_cons, List.zipIdx_nil, List.map_cons, List.map_nil] at h6
  have hr : r = ((a ++ b).map U8).toArray := by
    apply Array.ext_getElem?
    intro k
    rw [h8 k]
    by_cases hk : k < 32
    · rw [if_pos (by simp; omega)]
      simp [Nat.div_eq_of_lt hk, Nat.mod_eq_of_lt hk, Value.cells, List.getElem?_append, ha, hk]
    · by_cases hk2 : k < 64
      · rw [if_pos (by simp; omega)]
        have d : k / 32 = 1 := by omega
        have m : k % 32 = k - 32 := by omega
        simp [d, m, Value.cells, List.getElem?_append, ha, hk]
      · rw [if_neg (by simp; omega), Array.getElem?_eq_none (by simp; omega), Array.getElem?_eq_none (by simp; omega)]
  rw [← hr]
  exact h6
theorem half0 {a b : List By} (_ha : a.length = 32) : (((a ++ b).map U8).drop 0).take (a.map U8).length = a.map U8 := by
  simp [List.map_append]
theorem half1 {a b : List By} (ha : a.length = 32) : (((a ++ b).map U8).drop 32).take (b.map U8).length = b.map U8 := by
  rw [List.map_append, List.drop_left' (by rw [List.length_map]; exact ha), List.take_of_length_le (Nat.le_refl _)]
theorem b64s : szT Try.prog 25 = some 64 := by kernel_rfl
theorem b64a : aggT Try.prog 25 = true := by kernel_rfl
theorem b64z : zc Try.prog 25 = some ((List.replicate 64 (0 : By)).map U8) := by kernel_rfl
theorem bundle_built (a b : List By) (ha : a.length = 32) (hb : b.length = 32) : Try.prog.built 25 [(0, .agg (a.map U8).toArray), (1, .agg (b.map U8).toArray)] = some ((a ++ b).map U8).toArray := by
  have h : Try.prog.built 25 [(0, .agg (a.map U8).toArray), (1, .agg (b.map U8).toArray)] = Instr.fill (fun i => #[(0, 32), (32, 32)][i]?) (((List.replicate 64 (0 : By)).map U8).toArray) [(0, .agg (a.map U8).toArray), (1, .agg (b.map U8).toArray)] := by kernel_rfl
  rw [h]
  exact fill2 _ rfl rfl a b ha hb
theorem goes_bencode : Goes Try.prog 6 := ⟨_, Try.func6, rfl, by kernel_rfl⟩
theorem goes_speaks18 : Goes Try.prog 4 := ⟨_, Try.func4, rfl, by kernel_rfl⟩
set_option maxHeartbeats 4000000 in
theorem bencode_any (a b : List By) (ha : a.length = 32) (hb : b.length = 32) (w : World) :
    Calls Try.prog 6 [.agg ((a ++ b).map U8).toArray].toArray w fun e w' => ∃ x : Nat × Nat, e = .returned (.slice (some ⟨x.1, 0, none⟩) 65 x.2) ∧ Holds w [] [⟨x.1, Own 5 1 65 x.2 ((1 :: (a ++ b)).map U8), true⟩] w' := by
  have hla : (a.map U8).length = 32 := by rw [List.length_map]; exact ha
  have hlb : (b.map U8).length = 32 := by rw [List.length_map]; exact hb
  have i0 := half0 (b := b) ha
  have i1 := half1 (b := b) ha
  rw [hla] at i0
  rw [hlb] at i1
  have r0 : ∀ {w0 w' : World} {M : List Ent} {S : List Nat} {b1 : Nat} {A : Obj → Prop} {wr : Bool}, Holds w0 S M w' → Has M b1 A wr → (∀ o, A o → Row 25 ((a ++ b).map U8) o) → Reads w' (some ⟨b1, 0, none⟩) (a.map U8) ∧ Reads w' (some ⟨b1, 32, none⟩) (b.map U8) := fun hw' hM hA => by
    obtain ⟨o, ho, h⟩ := hw'.get hM
    have h := hA o h
    exact ⟨Reads.block ho (Row.cells (by rw [hla]; exact i0) o h), Reads.block ho (Row.cells (by rw [hlb]; exact i1) o h)⟩
  refine enter (n := 16) Try.func6 rfl rfl rfl (Holds.start w []) ?_
  repeat (first | refine JL.q (by first | (apply OQ.move; exact rfl) | (apply OQ.assign; exact rfl) | (apply OQ.len; exact rfl; exact rfl) | (apply OQ.fld; exact rfl; exact rfl; exact rfl; exact (by decide); exact rfl)) rfl ?_ | refine JC.seq ?_ | refine JC.region ?_ | refine JC.block ?_ | refine JC.skip ?_ | refine JC.exit ?_ | refine JL.nil ?_ | refine JE.next ?_ | refine JE.blk_normal ?_ | refine JE.then_exit ?_ | refine JE.blk_hit ?_ | refine JE.blk_miss rfl ?_ | refine JE.then_ret ?_ | refine JE.blk_ret ?_ | refine JC.label ?_ | refine JL.gon rfl rfl ?_ | refine JL.gskip rfl rfl rfl rfl ?_)
  refine JL.box (r := (a ++ b).map U8) rfl rfl rfl fun b1 _ => ?_
  repeat (first | refine JL.q (by first | (apply OQ.move; exact rfl) | (apply OQ.assign; exact rfl) | (apply OQ.len; exact rfl; exact rfl) | (apply OQ.fld; exact rfl; exact rfl; exact rfl; exact (by decide); exact rfl)) rfl ?_ | refine JC.seq ?_ | refine JC.region ?_ | refine JC.block ?_ | refine JC.skip ?_ | refine JC.exit ?_ | refine JL.nil ?_ | refine JE.next ?_ | refine JE.blk_normal ?_ | refine JE.then_exit ?_ | refine JE.blk_hit ?_ | refine JE.blk_miss rfl ?_ | refine JE.then_ret ?_ | refine JE.blk_ret ?_ | refine JC.label ?_ | refine JL.gon rfl rfl ?_ | refine JL.gskip rfl rfl rfl rfl ?_)
  refine JL.make0 (c := 65) Try.underlying26 e8k rfl rfl (by decide) rfl fun b3 _ => ?_
  repeat (first | refine JL.q (by first | (apply OQ.move; exact rfl) | (apply OQ.assign; exact rfl) | (apply OQ.len; exact rfl; exact rfl) | (apply OQ.fld; exact rfl; exact rfl; exact rfl; exact (by decide); exact rfl)) rfl ?_ | refine JC.seq ?_ | refine JC.region ?_ | refine JC.block ?_ | refine JC.skip ?_ | refine JC.exit ?_ | refine JL.nil ?_ | refine JE.next ?_ | refine JE.blk_normal ?_ | refine JE.then_exit ?_ | refine JE.blk_hit ?_ | refine JE.blk_miss rfl ?_ | refine JE.then_ret ?_ | refine JE.blk_ret ?_ | refine JC.label ?_ | refine JL.gon rfl rfl ?_ | refine JL.gskip rfl rfl rfl rfl ?_)
  refine JL.lit1 Try.underlying26 e8k rfl rfl rfl rfl fun bl _ => ?_
  refine JL.append (cs := [U8 (1 : By)]) (fun b' cap' => [⟨bl, Row 5 [U8 (1 : By)], true⟩, ⟨b', Own 5 1 1 cap' ([] ++ [U8 (1 : By)]), true⟩, ⟨b1, Row 25 ((a ++ b).map U8), true⟩]) Try.underlying26 e8k rfl rfl (by intro _ _; repeat (first | exact Repl.here | apply Repl.there)) rfl (fun w' hw' => ?_) (by simp [Value.oneCell']) rfl (by decide) (by decide) (by decide) rfl fun b4 cap4 => ?_
  · obtain ⟨o, ho, hA⟩ := hw'.get .here
    exact Reads.block ho (Row.all _ hA)
  repeat (first | refine JL.q (by first | (apply OQ.slA; exact Try.underlying23; exact s5; exact rfl) | (apply OQ.move; exact rfl) | (apply OQ.assign; exact rfl) | (apply OQ.len; exact rfl; exact rfl) | (apply OQ.fld; exact rfl; exact rfl; exact rfl; exact (by decide); exact rfl)) rfl ?_ | refine JC.seq ?_ | refine JC.region ?_ | refine JC.block ?_ | refine JC.skip ?_ | refine JC.exit ?_ | refine JL.nil ?_ | refine JE.next ?_ | refine JE.blk_normal ?_ | refine JE.then_exit ?_ | refine JE.blk_hit ?_ | refine JE.blk_miss rfl ?_ | refine JE.then_ret ?_ | refine JE.blk_ret ?_ | refine JC.label ?_ | refine JL.gon rfl rfl ?_ | refine JL.gskip rfl rfl rfl rfl ?_)
  refine JL.append (cs := a.map U8) (fun b' cap' => [⟨bl, Row 5 [U8 (1 : By)], true⟩, ⟨b', Own 5 1 33 cap' ([] ++ [U8 (1 : By)] ++ a.map U8), true⟩, ⟨b1, Row 25 ((a ++ b).map U8), true⟩]) Try.underlying26 e8k rfl rfl (by intro _ _; repeat (first | exact Repl.here | apply Repl.there)) hla (fun w' hw' => (r0 hw' (.there (.there .here)) fun _ h => h).1) (of_u8 _) rfl (by decide) (by decide) (by decide) rfl fun b5 cap5 => ?_
  repeat (first | refine JL.q (by first | (apply OQ.slA; exact Try.underlying23; exact s5; exact rfl) | (apply OQ.move; exact rfl) | (apply OQ.assign; exact rfl) | (apply OQ.len; exact rfl; exact rfl) | (apply OQ.fld; exact rfl; exact rfl; exact rfl; exact (by decide); exact rfl)) rfl ?_ | refine JC.seq ?_ | refine JC.region ?_ | refine JC.block ?_ | refine JC.skip ?_ | refine JC.exit ?_ | refine JL.nil ?_ | refine JE.next ?_ | refine JE.blk_normal ?_ | refine JE.then_exit ?_ | refine JE.blk_hit ?_ | refine JE.blk_miss rfl ?_ | refine JE.then_ret ?_ | refine JE.blk_ret ?_ | refine JC.label ?_ | refine JL.gon rfl rfl ?_ | refine JL.gskip rfl rfl rfl rfl ?_)
  refine JL.append (cs := b.map U8) (fun b' cap' => [⟨bl, Row 5 [U8 (1 : By)], true⟩, ⟨b', Own 5 1 65 cap' ([] ++ [U8 (1 : By)] ++ a.map U8 ++ b.map U8), true⟩, ⟨b1, Row 25 ((a ++ b).map U8), true⟩]) Try.underlying26 e8k rfl rfl (by intro _ _; repeat (first | exact Repl.here | apply Repl.there)) hlb (fun w' hw' => (r0 hw' (.there (.there .here)) fun _ h => h).2) (of_u8 _) rfl (by decide) (by decide) (by decide) rfl fun b6 cap6 => ?_
  repeat (first | refine JL.q (by first | (apply OQ.move; exact rfl) | (apply OQ.assign; exact rfl) | (apply OQ.len; exact rfl; exact rfl) | (apply OQ.fld; exact rfl; exact rfl; exact rfl; exact (by decide); exact rfl)) rfl ?_ | refine JC.seq ?_ | refine JC.region ?_ | refine JC.block ?_ | refine JC.skip ?_ | refine JC.exit ?_ | refine JL.nil ?_ | refine JE.next ?_ | refine JE.blk_normal ?_ | refine JE.then_exit ?_ | refine JE.blk_hit ?_ | refine JE.blk_miss rfl ?_ | refine JE.then_ret ?_ | refine JE.blk_ret ?_ | refine JC.label ?_ | refine JL.gon rfl rfl ?_ | refine JL.gskip rfl rfl rfl rfl ?_)
  refine JC.ret (JE.ret1 rfl (RV.tmp rfl) fun w' hw => ⟨(b6, cap6), rfl, hw.weak (.drop _ _ _ (.keep _ _ _ _ _ _ (fun o ho => ?_) (Less.nil _)))⟩)
  rw [show (1 :: (a ++ b)).map U8 = [] ++ [U8 (1 : By)] ++ a.map U8 ++ b.map U8 by simp]
  exact ho
def seven : List By := 7 :: List.replicate 31 0
set_option maxHeartbeats 4000000 in
theorem speaks18_any (w : World) : Calls Try.prog 4 ([] : List Value).toArray w fun e w' => e = .returned (.bool true) ∧ Ext w w' := by
  have he := bencode_any seven (List.replicate 32 0) rfl rfl
  refine enter (n := 20) Try.func4 rfl rfl rfl (Holds.start w []) ?_
  repeat (first | refine JL.q (by first | (apply OQ.move; exact rfl) | (apply OQ.assign; exact rfl) | (apply OQ.len; exact rfl; exact rfl) | (apply OQ.fld; exact rfl; exact rfl; exact rfl; exact (by decide); exact rfl)) rfl ?_ | refine JC.seq ?_ | refine JC.region ?_ | refine JC.block ?_ | refine JC.skip ?_ | refine JC.exit ?_ | refine JL.nil ?_ | refine JE.next ?_ | refine JE.blk_normal ?_ | refine JE.then_exit ?_ | refine JE.blk_hit ?_ | refine JE.blk_miss rfl ?_ | refine JE.then_ret ?_ | refine JE.blk_ret ?_ | refine JC.label ?_ | refine JL.gon rfl rfl ?_ | refine JL.gskip rfl rfl rfl rfl ?_)
  refine JL.q (OQ.pure (v := .agg (seven.map U8).toArray) rfl rfl (by kernel_rfl)) rfl ?_
  refine JL.q (OQ.pure (v := .agg ((seven ++ List.replicate 32 (0 : By)).map U8).toArray) rfl rfl (by kernel_rfl)) rfl ?_
  refine JL.callg (ι := Nat × Nat) (vs := [.agg ((seven ++ List.replicate 32 (0 : By)).map U8).toArray]) (fun x => .slice (some ⟨x.1, 0, none⟩) 65 x.2) (fun x => [⟨x.1, Own 5 1 65 x.2 ((1 :: (seven ++ List.replicate 32 (0 : By))).map U8), true⟩]) goes_bencode rfl rfl (fun i => by simp) (fun w' _ => he w') ?_
  rintro ⟨bx, cap⟩
  try dsimp only
  repeat (first | refine JL.q (by first | (apply OQ.len (k := 65); exact Try.underlying26; exact rfl) | (apply OQ.eqi_t; exact rfl; exact rfl; exact rfl) | (apply OQ.idxS (sz := 1) (i := 0); exact Try.underlying26; exact s5; exact rfl; exact rfl; exact (by decide)) | (apply OQ.idxS (sz := 1) (i := 1); exact Try.underlying26; exact s5; exact rfl; exact rfl; exact (by decide)) | (apply OQ.load (v := U8 1); exact c5; exact rfl; exact .here; exact (Own.cell rfl)) | (apply OQ.load (v := U8 7); exact c5; exact rfl; exact .here; exact (Own.cell rfl)) | (apply OQ.pick_t; exact rfl; exact rfl) | (apply OQ.move; exact rfl) | (apply OQ.assign; exact rfl) | (apply OQ.len; exact rfl; exact rfl) | (apply OQ.fld; exact rfl; exact rfl; exact rfl; exact (by decide); exact rfl)) rfl ?_ | refine JC.seq ?_ | refine JC.region ?_ | refine JC.block ?_ | refine JC.skip ?_ | refine JC.exit ?_ | refine JL.nil ?_ | refine JE.next ?_ | refine JE.blk_normal ?_ | refine JE.then_exit ?_ | refine JE.blk_hit ?_ | refine JE.blk_miss rfl ?_ | refine JE.then_ret ?_ | refine JE.blk_ret ?_ | refine JC.label ?_ | refine JL.gon rfl rfl ?_ | refine JL.gskip rfl rfl rfl rfl ?_)
  exact JC.ret (JE.ret1 rfl (RV.tmp rfl) fun w' hw => ⟨rfl, hw.chg⟩)
end Go.Proofs.Ytbihfhkbkcplmaa
