/-
  Of no statement by itself: armor's addBytes (and strings.IndexByte, by its bodies and the model's own entry).
  Conditions: each theorem's own.
-/
import Derived.Test.YtdaplnidogkmkaaArmI
import Derived.Test.YtdaplnidogkmkaaSlr
namespace Go.Proofs.Ytdaplnidogkmkaa
open Sl Arm
/-! ### strings.IndexByte -/
def ix (c : Bt) : Int := firstIdx (strB sgL) (c.toNat : Int).toNat.toUInt8
theorem ix_is (c : Bt) : max 0 (ix c) = (pl c : Int) := by
  have h : ∀ c : Fin 256, max 0 (ix (BitVec.ofNat 8 c.val)) = (pl (BitVec.ofNat 8 c.val) : Int) := by decide +kernel
  have := h ⟨c.toNat, c.isLt⟩
  simpa using this
structure IsIdx (P : Program) (f : FuncId) : Prop where
  go : ∃ fn, P.funcs[f]? = some fn ∧ (fn.name == "runtime.NumGoroutine") = false ∧ fn.body.isNone = true ∧ Extern.findNext fn = none ∧ Extern.find fn = some Extern.BytealgIndexByte.indexByte
theorem OQ.idxb {P : Program} {n : Nat} {E : Env} {C : World → Prop} {dst : Option Tmp} {ty : TypeId} {pos : String} {aft : Array Edge} {g : Option (Nat × Bool)} {f : FuncId} {ats : Array TypeId} {x y : Operand} {c : Bt} (hf : IsIdx P f) (hx : ev E x = some (Z sgL)) (hy : ev E y = some (U8 c)) :
    OQ P n E C ⟨dst, .call ⟨.value (.func f), #[x, y], ats⟩, ty, pos, aft, g⟩ (.int .i64 (ix c)) := by
  refine ⟨fun ac hk w hw => ?_⟩
  obtain ⟨fn, h1, h2, h3, h4, h5⟩ := hf.go
  have r := run_callFunc_extern h1 h2 h3 h4 h5 #[Z sgL, U8 c] w
  rw [run_indexByte_string] at r
  unfold Oper.quietAt
  have r' : (execOp ac.eval ⟨dst, .call ⟨.value (.func f), #[x, y], ats⟩, ty, pos, aft, g⟩).run P w = .ok (.value (.int .i64 (ix c))) w := by
    simp only [Result.andThen] at r
    have k1 := hk.eval hx
    have k2 := hk.eval hy
    have e : (.ok (.value (.int .i64 (ix c))) w : Result Next) = (callFunc f #[Z sgL, U8 c]).run P w := r.symm
    rw [e]
    simp [execOp, resolve, Sem.run_bind, Act.eval, Deferred.ofValue, invoke, k1, k2]
    simp [Act.eval] at k1 k2
    simp [k1, k2]
  rw [r']
  exact ⟨rfl, rfl⟩
theorem is_idx : IsIdx Try.prog 26 := ⟨_, Try.func26, rfl, rfl, by kernel_rfl, by kernel_rfl⟩
theorem goes_idx1 : Goes Try.prog 25 := ⟨_, Try.func25, rfl, by kernel_rfl⟩
theorem goes_idx2 : Goes Try.prog 24 := ⟨_, Try.func24, rfl, by kernel_rfl⟩
theorem idx1_any (c : Bt) (w : World) : Calls Try.prog 25 [Z sgL, U8 c].toArray w fun e w' => e = .returned (.int .i64 (ix c)) ∧ Ext w w' := by
  refine enter (n := 8) Try.func25 rfl rfl rfl (Holds.start w []) ?_
  repeat (first | refine JL.q (by first | (apply OQ.idxb; exact is_idx; exact rfl; exact rfl) | (apply OQ.move; exact rfl) | (apply OQ.assign; exact rfl) | (apply OQ.len; exact rfl; exact rfl) | (apply OQ.or32; exact rfl; exact rfl) | (apply OQ.shr32; exact rfl; exact rfl) | (apply OQ.shl32; exact rfl; exact rfl) | (apply OQ.addN; exact rfl; exact rfl; exact (by (try simp only []); omega)) | (apply OQ.subN; exact rfl; exact rfl; exact (by (try simp only []); omega); exact (by (try simp only []); omega)) | (apply OQ.mulN; exact rfl; exact rfl; exact (by (try simp only []); omega)) | (apply OQ.lssN; exact rfl; exact rfl) | (apply OQ.conv32_8; exact rfl; exact rfl; exact rfl)) rfl ?_ | refine JC.seq ?_ | refine JC.region ?_ | refine JC.block ?_ | refine JC.skip ?_ | refine JC.exit ?_ | refine JL.nil ?_ | refine JE.next ?_ | refine JE.blk_normal ?_ | refine JE.then_exit ?_ | refine JE.blk_hit ?_ | refine JE.blk_miss rfl ?_ | refine JE.then_ret ?_ | refine JE.blk_ret ?_ | refine JC.label ?_ | refine JL.gon rfl rfl ?_ | refine JL.gskip rfl rfl rfl rfl ?_)
  exact JC.ret (JE.ret1 rfl (RV.tmp rfl) fun w' hw => ⟨rfl, hw.chg⟩)
theorem idx2_any (c : Bt) (w : World) : Calls Try.prog 24 [Z sgL, U8 c].toArray w fun e w' => e = .returned (.int .i64 (ix c)) ∧ Ext w w' := by
  refine enter (n := 8) Try.func24 rfl rfl rfl (Holds.start w []) ?_
  repeat (first | refine JL.q (by first | (apply OQ.callx; exact goes_idx1; exact rfl; exact (fun w' _ => idx1_any c w')) | (apply OQ.move; exact rfl) | (apply OQ.assign; exact rfl) | (apply OQ.len; exact rfl; exact rfl) | (apply OQ.or32; exact rfl; exact rfl) | (apply OQ.shr32; exact rfl; exact rfl) | (apply OQ.shl32; exact rfl; exact rfl) | (apply OQ.addN; exact rfl; exact rfl; exact (by (try simp only []); omega)) | (apply OQ.subN; exact rfl; exact rfl; exact (by (try simp only []); omega); exact (by (try simp only []); omega)) | (apply OQ.mulN; exact rfl; exact rfl; exact (by (try simp only []); omega)) | (apply OQ.lssN; exact rfl; exact rfl) | (apply OQ.conv32_8; exact rfl; exact rfl; exact rfl)) rfl ?_ | refine JC.seq ?_ | refine JC.region ?_ | refine JC.block ?_ | refine JC.skip ?_ | refine JC.exit ?_ | refine JL.nil ?_ | refine JE.next ?_ | refine JE.blk_normal ?_ | refine JE.then_exit ?_ | refine JE.blk_hit ?_ | refine JE.blk_miss rfl ?_ | refine JE.then_ret ?_ | refine JE.blk_ret ?_ | refine JC.label ?_ | refine JL.gon rfl rfl ?_ | refine JL.gskip rfl rfl rfl rfl ?_)
  exact JC.ret (JE.ret1 rfl (RV.tmp rfl) fun w' hw => ⟨rfl, hw.chg⟩)
/-! ### addBytes -/
theorem JC.joinB {P : Program} {n : Nat} {w0 : World} {S : List Nat} {Q Q' : Exit → Act → World → Prop} {E : Env} {M : List Ent} {ι : Type} {id : Nat} (Ei : ι → Env) (Mi : ι → List Ent) (I : ι → Prop) {p q : Code} (h : JC P n w0 S (Exit.inBlock id (Exit.then (fun a' w' => ∃ i, I i ∧ Knows n (Ei i) a' ∧ Holds w0 S (Mi i) w') Q)) p E M)
    (k : ∀ i, I i → JC P n w0 S Q' q (Ei i) (Mi i)) : JC P n w0 S (Exit.inBlock id (Exit.then (q.wp P Q') Q)) p E M :=
  ⟨fun a w ha hw => wp_mono (h.go a w ha hw) fun e a' w' he => by
    cases e with
    | normal => obtain ⟨i, hi, h1, h2⟩ := he; exact (k i hi).go a' w' h1 h2
    | exit id' =>
      by_cases hid : id' = id
      · subst hid
        have he : (if id' = id' then (Exit.then (fun a' w' => ∃ i, I i ∧ Knows n (Ei i) a' ∧ Holds w0 S (Mi i) w') Q) .normal a' w' else _) := he
        rw [if_pos rfl] at he
        obtain ⟨i, hi, h1, h2⟩ := he
        show (if id' = id' then _ else _)
        rw [if_pos rfl]
        exact (k i hi).go a' w' h1 h2
      · have he : (if id' = id then _ else (Exit.then _ Q) (.exit id') a' w') := he
        rw [if_neg hid] at he
        show (if id' = id then _ else _)
        rw [if_neg hid]
        exact he
    | goto _ => exact he
    | ret => exact he
    | panic _ => exact he
    | outgrown => exact he⟩
theorem OQ.maxP {P : Program} {n : Nat} {E : Env} {C : World → Prop} {dst : Option Tmp} {ty t t' : TypeId} {pos : String} {aft : Array Edge} {g : Option (Nat × Bool)} {x y : Operand} {c : Int} {m : Nat} (hx : ev E x = some (.int .i64 0)) (hy : ev E y = some (.int .i64 c)) (h : max 0 c = (m : Int)) : OQ P n E C ⟨dst, .call ⟨.builtin .max, #[x, y], #[t, t']⟩, ty, pos, aft, g⟩ (N m) :=
  OQ.to (OQ.maxI hx hy) (by rw [h])
theorem lead_nil : lead [] = 0 := rfl
theorem lead_cons (c : Arm.By) (g : List Arm.By) : lead (c :: g) = if c = 61 then 0 else lead g + 1 := by
  unfold lead
  rw [List.takeWhile_cons]
  by_cases hc : c = 61
  · rw [if_pos hc, hc]; rfl
  · rw [if_neg hc, if_pos (bne_iff_ne.2 hc)]; rfl
theorem lead_le : ∀ g : List Arm.By, lead g ≤ g.length
  | [] => Nat.zero_le _
  | c :: g => by
    rw [lead_cons, List.length_cons]
    have := lead_le g
    split <;> omega
theorem lead_ne : ∀ (g : List Arm.By) {i : Nat}, i < lead g → g.getD i 0 ≠ 61
  | [], i, h => by rw [lead_nil] at h; omega
  | c :: g, i, h => by
    rw [lead_cons] at h
    by_cases hc : c = 61
    · rw [if_pos hc] at h; omega
    · rw [if_neg hc] at h
      cases i with
      | zero => simpa using hc
      | succ i =>
        rw [List.getD_cons_succ]
        exact lead_ne g (by omega)
theorem lead_eq : ∀ (g : List Arm.By), lead g < g.length → g.getD (lead g) 0 = 61
  | [], h => by simp at h
  | c :: g, h => by
    rw [lead_cons] at h ⊢
    by_cases hc : c = 61
    · rw [if_pos hc]; simpa using hc
    · rw [if_neg hc] at h ⊢
      rw [List.getD_cons_succ]
      exact lead_eq g (by rw [List.length_cons] at h; omega)
theorem goes_addBytes : Goes Try.prog 20 := ⟨_, Try.func20, rfl, by kernel_rfl⟩
theorem dec4_len (g : List Arm.By) : (dec4 g).length = lead g - 1 := by simp [dec4]
theorem dec4_take (g : List Arm.By) (h4 : g.length ≤ 4) {i : Nat} (h : i < lead g - 1) : (dec4 g).take (i + 1) = (dec4 g).take i ++ [(BitVec.ofNat 32 (acc g (lead g)) >>> (8 * (2 - i))).setWidth 8] := by
  have hl := lead_le g
  rw [take_one _ 0 (by rw [dec4_len]; exact h), byte_bits (by have := (acc_ok g (i := lead g) (by omega)).1; omega)]
  congr 2
  simp [dec4, List.getD_eq_getElem?_getD, h]
set_option maxHeartbeats 8000000 in
theorem addBytes_any (b k cap : Nat) (xs : List Bt) (g : Sl8) (w : World) (hg : g.ok w) (h4 : g.l.length ≤ 4) (hne : g.l ≠ [] → ∀ a, g.ad = some a → a.block ≠ b) {o : Obj} (ho : w.heap[b]? = some o) (hA : Sl.Own 5 1 k cap (xs.map U8) o) (hk : k ≤ 1000000000) :
    Calls Try.prog 20 [.slice (some ⟨b, 0, none⟩) k cap, g.v].toArray w fun e w' => ∃ q : Nat × Nat, e = .returned (.slice (some ⟨q.1, 0, none⟩) (k + (dec4 g.l).length) q.2) ∧ Holds w [b] [⟨q.1, Sl.Own 5 1 (k + (dec4 g.l).length) q.2 ((xs ++ dec4 g.l).map U8), true⟩] w' := by
  refine enter (n := 49) Try.func20 rfl rfl rfl (Holds.one ho hA) ?_
  have hl := lead_le g.l
  repeat (first | refine JL.q (by first | (apply OQ.move; exact rfl) | (apply OQ.assign; exact rfl) | (apply OQ.len; exact rfl; exact rfl) | (apply OQ.or32; exact rfl; exact rfl) | (apply OQ.shr32; exact rfl; exact rfl) | (apply OQ.shl32; exact rfl; exact rfl) | (apply OQ.addN; exact rfl; exact rfl; exact (by (try simp only []); omega)) | (apply OQ.subN; exact rfl; exact rfl; exact (by (try simp only []); omega); exact (by (try simp only []); omega)) | (apply OQ.mulN; exact rfl; exact rfl; exact (by (try simp only []); omega)) | (apply OQ.lssN; exact rfl; exact rfl) | (apply OQ.conv32_8; exact rfl; exact rfl; exact rfl)) rfl ?_ | refine JC.seq ?_ | refine JC.region ?_ | refine JC.block ?_ | refine JC.skip ?_ | refine JC.exit ?_ | refine JL.nil ?_ | refine JE.next ?_ | refine JE.blk_normal ?_ | refine JE.then_exit ?_ | refine JE.blk_hit ?_ | refine JE.blk_miss rfl ?_ | refine JE.then_ret ?_ | refine JE.blk_ret ?_ | refine JC.label ?_ | refine JL.gon rfl rfl ?_ | refine JL.gskip rfl rfl rfl rfl ?_)
  refine JC.joinB (ι := Unit) (fun _ => [(0, .slice (some ⟨b, 0, none⟩) k cap), (5, U32 (BitVec.ofNat 32 (acc g.l (lead g.l)))), (6, I ((lead g.l : Int) - 1))]) (fun _ => [⟨b, Sl.Own 5 1 k cap (xs.map U8), true⟩]) (fun _ => True) ?_ ?_
  · refine JC.loop (fun i : Nat => [(0, .slice (some ⟨b, 0, none⟩) k cap), (11, g.v), (12, N g.l.length), (13, N i), (5, U32 (BitVec.ofNat 32 (acc g.l i))), (6, I ((i : Int) - 1))])
      (fun _ => [⟨b, Sl.Own 5 1 k cap (xs.map U8), true⟩]) (fun i => lead g.l + 1 - i) (fun i => i ≤ lead g.l) 0 (Nat.zero_le _) (by repeat (first | exact SubE.nil | refine SubE.cons _ _ _ rfl ?_)) (Less.refl _) ?_
    intro i hi
    repeat (first | refine JL.q (by first | (apply OQ.move; exact rfl) | (apply OQ.assign; exact rfl) | (apply OQ.len; exact rfl; exact rfl) | (apply OQ.or32; exact rfl; exact rfl) | (apply OQ.shr32; exact rfl; exact rfl) | (apply OQ.shl32; exact rfl; exact rfl) | (apply OQ.addN; exact rfl; exact rfl; exact (by (try simp only []); omega)) | (apply OQ.subN; exact rfl; exact rfl; exact (by (try simp only []); omega); exact (by (try simp only []); omega)) | (apply OQ.mulN; exact rfl; exact rfl; exact (by (try simp only []); omega)) | (apply OQ.lssN; exact rfl; exact rfl) | (apply OQ.conv32_8; exact rfl; exact rfl; exact rfl)) rfl ?_ | refine JC.seq ?_ | refine JC.region ?_ | refine JC.block ?_ | refine JC.skip ?_ | refine JC.exit ?_ | refine JL.nil ?_ | refine JE.next ?_ | refine JE.blk_normal ?_ | refine JE.then_exit ?_ | refine JE.blk_hit ?_ | refine JE.blk_miss rfl ?_ | refine JE.then_ret ?_ | refine JE.blk_ret ?_ | refine JC.label ?_ | refine JL.gon rfl rfl ?_ | refine JL.gskip rfl rfl rfl rfl ?_)
    refine JC.cond rfl (fun h => ?_) (fun h => ?_)
    · have hi' : i < g.l.length := of_decide_eq_true h
      clear h
      obtain ⟨ba, ja, hae, hca⟩ := hg.reads.at (by simp; omega)
      have hc := hca i _ (map_at U8 0 hi')
      have hbn : ba ≠ b := hne (List.length_pos_iff.1 (by omega)) ⟨ba, ja, none⟩ hae
      have hav : g.v = .slice (some ⟨ba, ja, none⟩) g.l.length g.cap := by rw [← hae]; rfl
      have h61 : i < lead g.l ↔ ¬ g.l.getD i 0 = 61 := ⟨fun h => lead_ne g.l h, fun h => Nat.lt_of_le_of_ne hi fun e => h (by rw [e]; exact lead_eq g.l (by omega))⟩
      have hacc := acc_bits g.l (i := i) (by omega)
      have hix := ix_is (g.l.getD i 0)
      generalize g.l.getD i 0 = c at hc h61 hacc hix
      rw [hav]
      repeat (first | refine JL.q (by first | (apply OQ.idxS1; exact Try.underlying22; exact u8s; exact rfl; exact rfl; exact hi') | (apply OQ.load_old; exact u8c; exact rfl; exact (block_lt_of_cell hc); exact (by simpa using hbn); exact hc) | (apply OQ.eq8 (b := 61#8); exact rfl; exact rfl) | (apply OQ.move; exact rfl) | (apply OQ.assign; exact rfl) | (apply OQ.len; exact rfl; exact rfl) | (apply OQ.or32; exact rfl; exact rfl) | (apply OQ.shr32; exact rfl; exact rfl) | (apply OQ.shl32; exact rfl; exact rfl) | (apply OQ.addN; exact rfl; exact rfl; exact (by (try simp only []); omega)) | (apply OQ.subN; exact rfl; exact rfl; exact (by (try simp only []); omega); exact (by (try simp only []); omega)) | (apply OQ.mulN; exact rfl; exact rfl; exact (by (try simp only []); omega)) | (apply OQ.lssN; exact rfl; exact rfl) | (apply OQ.conv32_8; exact rfl; exact rfl; exact rfl)) rfl ?_ | refine JC.seq ?_ | refine JC.region ?_ | refine JC.block ?_ | refine JC.skip ?_ | refine JC.exit ?_ | refine JL.nil ?_ | refine JE.next ?_ | refine JE.blk_normal ?_ | refine JE.then_exit ?_ | refine JE.blk_hit ?_ | refine JE.blk_miss rfl ?_ | refine JE.then_ret ?_ | refine JE.blk_ret ?_ | refine JC.label ?_ | refine JL.gon rfl rfl ?_ | refine JL.gskip rfl rfl rfl rfl ?_)
      refine JC.cond rfl (fun h => ?_) (fun h => ?_)
      · have hc61 : c = 61 := of_decide_eq_true h
        have hil : i = lead g.l := by
          have := mt h61.1 (by simpa using hc61)
          omega
        subst hil
        repeat (first | refine JL.q (by first | (apply OQ.move; exact rfl) | (apply OQ.assign; exact rfl) | (apply OQ.len; exact rfl; exact rfl) | (apply OQ.or32; exact rfl; exact rfl) | (apply OQ.shr32; exact rfl; exact rfl) | (apply OQ.shl32; exact rfl; exact rfl) | (apply OQ.addN; exact rfl; exact rfl; exact (by (try simp only []); omega)) | (apply OQ.subN; exact rfl; exact rfl; exact (by (try simp only []); omega); exact (by (try simp only []); omega)) | (apply OQ.mulN; exact rfl; exact rfl; exact (by (try simp only []); omega)) | (apply OQ.lssN; exact rfl; exact rfl) | (apply OQ.conv32_8; exact rfl; exact rfl; exact rfl)) rfl ?_ | refine JC.seq ?_ | refine JC.region ?_ | refine JC.block ?_ | refine JC.skip ?_ | refine JC.exit ?_ | refine JL.nil ?_ | refine JE.next ?_ | refine JE.blk_normal ?_ | refine JE.then_exit ?_ | refine JE.blk_hit ?_ | refine JE.blk_miss rfl ?_ | refine JE.then_ret ?_ | refine JE.blk_ret ?_ | refine JC.label ?_ | refine JL.gon rfl rfl ?_ | refine JL.gskip rfl rfl rfl rfl ?_)
        exact JE.mid () trivial (by repeat (first | exact SubE.nil | refine SubE.cons _ _ _ rfl ?_)) (Less.refl _)
      · have hc61 : ¬ c = 61 := of_decide_eq_false h
        have hil := h61.2 hc61
        repeat (first | refine JL.q (by first | (apply OQ.callx (vs := [Z sgL, U8 c]); exact goes_idx2; exact rfl; exact (fun w' _ => idx2_any c w')) | (apply OQ.convN_32; exact rfl; exact rfl; exact rfl) | (apply OQ.maxP; exact rfl; exact rfl; exact hix) | (apply OQ.shl32 (k := 6 * (3 - i)); exact rfl; exact rfl) | (apply OQ.addI (b := 1); exact rfl; exact rfl; exact (by omega); exact (by omega)) | (apply OQ.move; exact rfl) | (apply OQ.assign; exact rfl) | (apply OQ.len; exact rfl; exact rfl) | (apply OQ.or32; exact rfl; exact rfl) | (apply OQ.shr32; exact rfl; exact rfl) | (apply OQ.shl32; exact rfl; exact rfl) | (apply OQ.addN; exact rfl; exact rfl; exact (by (try simp only []); omega)) | (apply OQ.subN; exact rfl; exact rfl; exact (by (try simp only []); omega); exact (by (try simp only []); omega)) | (apply OQ.mulN; exact rfl; exact rfl; exact (by (try simp only []); omega)) | (apply OQ.lssN; exact rfl; exact rfl) | (apply OQ.conv32_8; exact rfl; exact rfl; exact rfl)) rfl ?_ | refine JC.seq ?_ | refine JC.region ?_ | refine JC.block ?_ | refine JC.skip ?_ | refine JC.exit ?_ | refine JL.nil ?_ | refine JE.next ?_ | refine JE.blk_normal ?_ | refine JE.then_exit ?_ | refine JE.blk_hit ?_ | refine JE.blk_miss rfl ?_ | refine JE.then_ret ?_ | refine JE.blk_ret ?_ | refine JC.label ?_ | refine JL.gon rfl rfl ?_ | refine JL.gskip rfl rfl rfl rfl ?_)
        rw [hacc]
        refine JE.again (i := i) (i + 1) hil (by show lead g.l + 1 - (i + 1) < lead g.l + 1 - i; omega) ?_ (Less.refl _)
        rw [show (((i + 1 : Nat) : Int) - 1) = (i : Int) - 1 + 1 by omega]
        exact (by repeat (first | exact SubE.nil | refine SubE.cons _ _ _ rfl ?_))
    · have hi' : ¬ i < g.l.length := of_decide_eq_false h
      have hil : i = lead g.l := by omega
      subst hil
      repeat (first | refine JL.q (by first | (apply OQ.move; exact rfl) | (apply OQ.assign; exact rfl) | (apply OQ.len; exact rfl; exact rfl) | (apply OQ.or32; exact rfl; exact rfl) | (apply OQ.shr32; exact rfl; exact rfl) | (apply OQ.shl32; exact rfl; exact rfl) | (apply OQ.addN; exact rfl; exact rfl; exact (by (try simp only []); omega)) | (apply OQ.subN; exact rfl; exact rfl; exact (by (try simp only []); omega); exact (by (try simp only []); omega)) | (apply OQ.mulN; exact rfl; exact rfl; exact (by (try simp only []); omega)) | (apply OQ.lssN; exact rfl; exact rfl) | (apply OQ.conv32_8; exact rfl; exact rfl; exact rfl)) rfl ?_ | refine JC.seq ?_ | refine JC.region ?_ | refine JC.block ?_ | refine JC.skip ?_ | refine JC.exit ?_ | refine JL.nil ?_ | refine JE.next ?_ | refine JE.blk_normal ?_ | refine JE.then_exit ?_ | refine JE.blk_hit ?_ | refine JE.blk_miss rfl ?_ | refine JE.then_ret ?_ | refine JE.blk_ret ?_ | refine JC.label ?_ | refine JL.gon rfl rfl ?_ | refine JL.gskip rfl rfl rfl rfl ?_)
      exact JE.mid () trivial (by repeat (first | exact SubE.nil | refine SubE.cons _ _ _ rfl ?_)) (Less.refl _)
  intro _ _
  have hT : lead g.l ≤ 4 := by omega
  have htk := fun {i : Nat} (h : i < lead g.l - 1) => dec4_take g.l h4 h
  have hdl := dec4_len g.l
  generalize lead g.l = t at hT htk hdl ⊢
  generalize BitVec.ofNat 32 (acc g.l t) = nn at htk ⊢
  repeat (first | refine JL.q (by first | (apply OQ.move; exact rfl) | (apply OQ.assign; exact rfl) | (apply OQ.len; exact rfl; exact rfl) | (apply OQ.or32; exact rfl; exact rfl) | (apply OQ.shr32; exact rfl; exact rfl) | (apply OQ.shl32; exact rfl; exact rfl) | (apply OQ.addN; exact rfl; exact rfl; exact (by (try simp only []); omega)) | (apply OQ.subN; exact rfl; exact rfl; exact (by (try simp only []); omega); exact (by (try simp only []); omega)) | (apply OQ.mulN; exact rfl; exact rfl; exact (by (try simp only []); omega)) | (apply OQ.lssN; exact rfl; exact rfl) | (apply OQ.conv32_8; exact rfl; exact rfl; exact rfl)) rfl ?_ | refine JC.seq ?_ | refine JC.region ?_ | refine JC.block ?_ | refine JC.skip ?_ | refine JC.exit ?_ | refine JL.nil ?_ | refine JE.next ?_ | refine JE.blk_normal ?_ | refine JE.then_exit ?_ | refine JE.blk_hit ?_ | refine JE.blk_miss rfl ?_ | refine JE.then_ret ?_ | refine JE.blk_ret ?_ | refine JC.label ?_ | refine JL.gon rfl rfl ?_ | refine JL.gskip rfl rfl rfl rfl ?_)
  refine JC.loop (fun q : Nat × Nat × Nat => [(0, .slice (some ⟨q.2.1, 0, none⟩) (k + q.1) q.2.2), (5, U32 nn), (34, I ((t : Int) - 1)), (35, N q.1)])
    (fun q => [⟨q.2.1, Sl.Own 5 1 (k + q.1) q.2.2 ((xs ++ (dec4 g.l).take q.1).map U8), true⟩])
    (fun q => 4 - q.1) (fun q => q.1 ≤ t - 1) (0, b, cap) (Nat.zero_le _) (by repeat (first | exact SubE.nil | refine SubE.cons _ _ _ rfl ?_)) (.keep _ _ _ _ _ _ (fun o h => by simpa using h) (.nil _)) ?_
  rintro ⟨i, b', cap'⟩ hi
  simp only at hi
  dsimp only
  repeat (first | refine JL.q (by first | (apply OQ.lssI (b := (t : Int) - 1); exact rfl; exact rfl) | (apply OQ.move; exact rfl) | (apply OQ.assign; exact rfl) | (apply OQ.len; exact rfl; exact rfl) | (apply OQ.or32; exact rfl; exact rfl) | (apply OQ.shr32; exact rfl; exact rfl) | (apply OQ.shl32; exact rfl; exact rfl) | (apply OQ.addN; exact rfl; exact rfl; exact (by (try simp only []); omega)) | (apply OQ.subN; exact rfl; exact rfl; exact (by (try simp only []); omega); exact (by (try simp only []); omega)) | (apply OQ.mulN; exact rfl; exact rfl; exact (by (try simp only []); omega)) | (apply OQ.lssN; exact rfl; exact rfl) | (apply OQ.conv32_8; exact rfl; exact rfl; exact rfl)) rfl ?_ | refine JC.seq ?_ | refine JC.region ?_ | refine JC.block ?_ | refine JC.skip ?_ | refine JC.exit ?_ | refine JL.nil ?_ | refine JE.next ?_ | refine JE.blk_normal ?_ | refine JE.then_exit ?_ | refine JE.blk_hit ?_ | refine JE.blk_miss rfl ?_ | refine JE.then_ret ?_ | refine JE.blk_ret ?_ | refine JC.label ?_ | refine JL.gon rfl rfl ?_ | refine JL.gskip rfl rfl rfl rfl ?_)
  refine JC.cond rfl (fun h => ?_) (fun h => ?_)
  · have hi0 : (i : Int) < (t : Int) - 1 := of_decide_eq_true h
    have hi' : i < t - 1 := by omega
    clear h hi hi0
    have eS := htk hi'
    generalize (dec4 g.l).take i = T at eS ⊢
    repeat (first | refine JL.q (by first | (apply OQ.shr32 (k := 8 * (2 - i)); exact rfl; exact rfl) | (apply OQ.move; exact rfl) | (apply OQ.assign; exact rfl) | (apply OQ.len; exact rfl; exact rfl) | (apply OQ.or32; exact rfl; exact rfl) | (apply OQ.shr32; exact rfl; exact rfl) | (apply OQ.shl32; exact rfl; exact rfl) | (apply OQ.addN; exact rfl; exact rfl; exact (by (try simp only []); omega)) | (apply OQ.subN; exact rfl; exact rfl; exact (by (try simp only []); omega); exact (by (try simp only []); omega)) | (apply OQ.mulN; exact rfl; exact rfl; exact (by (try simp only []); omega)) | (apply OQ.lssN; exact rfl; exact rfl) | (apply OQ.conv32_8; exact rfl; exact rfl; exact rfl)) rfl ?_ | refine JC.seq ?_ | refine JC.region ?_ | refine JC.block ?_ | refine JC.skip ?_ | refine JC.exit ?_ | refine JL.nil ?_ | refine JE.next ?_ | refine JE.blk_normal ?_ | refine JE.then_exit ?_ | refine JE.blk_hit ?_ | refine JE.blk_miss rfl ?_ | refine JE.then_ret ?_ | refine JE.blk_ret ?_ | refine JC.label ?_ | refine JL.gon rfl rfl ?_ | refine JL.gskip rfl rfl rfl rfl ?_)
    refine JL.push1 (xs := (xs ++ T).map U8) (fun b'' cap'' => [⟨b'', Sl.Own 5 1 (k + i + 1) cap'' ((xs ++ T).map U8 ++ [U8 ((nn >>> (8 * (2 - i))).setWidth 8)]), true⟩]) Try.underlying22 u8e rfl rfl rfl rfl (fun _ => rfl) (by intro _ _; repeat (first | exact Repl.here | apply Repl.there)) (by omega) (by omega) rfl rfl fun bl b'' cap'' => ?_
    repeat (first | refine JL.q (by first | (apply OQ.move; exact rfl) | (apply OQ.assign; exact rfl) | (apply OQ.len; exact rfl; exact rfl) | (apply OQ.or32; exact rfl; exact rfl) | (apply OQ.shr32; exact rfl; exact rfl) | (apply OQ.shl32; exact rfl; exact rfl) | (apply OQ.addN; exact rfl; exact rfl; exact (by (try simp only []); omega)) | (apply OQ.subN; exact rfl; exact rfl; exact (by (try simp only []); omega); exact (by (try simp only []); omega)) | (apply OQ.mulN; exact rfl; exact rfl; exact (by (try simp only []); omega)) | (apply OQ.lssN; exact rfl; exact rfl) | (apply OQ.conv32_8; exact rfl; exact rfl; exact rfl)) rfl ?_ | refine JC.seq ?_ | refine JC.region ?_ | refine JC.block ?_ | refine JC.skip ?_ | refine JC.exit ?_ | refine JL.nil ?_ | refine JE.next ?_ | refine JE.blk_normal ?_ | refine JE.then_exit ?_ | refine JE.blk_hit ?_ | refine JE.blk_miss rfl ?_ | refine JE.then_ret ?_ | refine JE.blk_ret ?_ | refine JC.label ?_ | refine JL.gon rfl rfl ?_ | refine JL.gskip rfl rfl rfl rfl ?_)
    refine JE.again (i := (i, b', cap')) (i + 1, b'', cap'') hi' (by show 4 - (i + 1) < 4 - i; omega) (by repeat (first | exact SubE.nil | refine SubE.cons _ _ _ rfl ?_)) (.keep _ _ _ _ _ _ (fun o h => ?_) (.nil _))
    dsimp only
    rw [eS, ← List.append_assoc, List.map_append]
    exact h
  · have hi0 : ¬ (i : Int) < (t : Int) - 1 := of_decide_eq_false h
    obtain rfl : i = t - 1 := by omega
    clear h hi hi0
    rw [List.take_of_length_le (by omega), ← hdl]
    repeat (first | refine JL.q (by first | (apply OQ.move; exact rfl) | (apply OQ.assign; exact rfl) | (apply OQ.len; exact rfl; exact rfl) | (apply OQ.or32; exact rfl; exact rfl) | (apply OQ.shr32; exact rfl; exact rfl) | (apply OQ.shl32; exact rfl; exact rfl) | (apply OQ.addN; exact rfl; exact rfl; exact (by (try simp only []); omega)) | (apply OQ.subN; exact rfl; exact rfl; exact (by (try simp only []); omega); exact (by (try simp only []); omega)) | (apply OQ.mulN; exact rfl; exact rfl; exact (by (try simp only []); omega)) | (apply OQ.lssN; exact rfl; exact rfl) | (apply OQ.conv32_8; exact rfl; exact rfl; exact rfl)) rfl ?_ | refine JC.seq ?_ | refine JC.region ?_ | refine JC.block ?_ | refine JC.skip ?_ | refine JC.exit ?_ | refine JL.nil ?_ | refine JE.next ?_ | refine JE.blk_normal ?_ | refine JE.then_exit ?_ | refine JE.blk_hit ?_ | refine JE.blk_miss rfl ?_ | refine JE.then_ret ?_ | refine JE.blk_ret ?_ | refine JC.label ?_ | refine JL.gon rfl rfl ?_ | refine JL.gskip rfl rfl rfl rfl ?_)
    refine JC.ret (JE.ret1 rfl (RV.tmp rfl) ?_)
    exact fun w' hw => ⟨(b', cap'), rfl, hw⟩
end Go.Proofs.Ytdaplnidogkmkaa
