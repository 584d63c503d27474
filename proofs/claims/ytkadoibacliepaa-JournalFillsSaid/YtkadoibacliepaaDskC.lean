/-
  Of no statement by itself: slices.Backward over what is pending, the landed disk's undo.
  Conditions: each theorem's own.
-/
import Derived.Test.YtkadoibacliepaaDskB
import Derived.Test.YtkadoibacliepaaSlrw
namespace Go.Proofs.Ytkadoibacliepaa
set_option maxRecDepth 10000
open Sl Dsk
theorem pdC : scal Try.prog 25 = true := by kernel_rfl
theorem wc_tail (w : Nat × Bk) : ((wc w).drop 1).take (bc w.2).length = bc w.2 := by simp [wc]
section
variable {P : Program} {n : Nat} {E : Env} {dst : Option Tmp} {t ty : TypeId} {pos : String} {aft : Array Edge} {g : Option (Nat × Bool)} {x : Operand} {b j : Nat} {v : Value} {W : World} {cs : List Value}
theorem load_w (hs : scal P t = true) (hx : ev E x = some (.pointer (some ⟨b, j, none⟩))) (hc : W.cell? ⟨b, j, none⟩ = some v) : OQ P n E (fun w => w = W) ⟨dst, .load t x, ty, pos, aft, g⟩ v := OQ.load_at (fun _ hw => hw ▸ loadVar_scal hs hc) hx
theorem load_wA {sz : Nat} (ha : aggT P t = true) (hz : szT P t = some sz) (hl : cs.length = sz) (hx : ev E x = some (.pointer (some ⟨b, j, none⟩))) (hc : ∀ i u, cs[i]? = some u → W.cell? ⟨b, j + i, none⟩ = some u) : OQ P n E (fun w => w = W) ⟨dst, .load t x, ty, pos, aft, g⟩ (.agg cs.toArray) := OQ.load_at (fun _ hw => hw ▸ loadVar_agg ha (hl ▸ hz) hc) hx
end
def backF (b : Nat) : Value := .func (.func 92) #[] #[Pt b 0]
theorem goes_back : Goes Try.prog 81 := ⟨_, Try.func81, rfl, by kernel_rfl⟩
theorem back_any (v : Value) (hv : v.cells = #[v]) (w : World) : Calls Try.prog 81 [v].toArray w fun e w' => ∃ b : Nat, e = .returned (backF b) ∧ Holds w [] [⟨b, Row 109 [v], true⟩] w' := by
  refine enter (n := 4) Try.func81 rfl rfl rfl (Holds.start w []) ?_
  refine JC.seq (JC.region (JL.box (r := [v]) rfl (by rw [hv]) rfl fun b _ => ?_))
  repeat (first | refine JL.q (by first | (apply OQ.mkF (caps := [Pt b 0]); exact rfl) | (apply OQ.move; exact rfl) | (apply OQ.assign; exact rfl) | (apply OQ.nilc; exact rfl) | (apply OQ.len; exact rfl; exact rfl) | (apply OQ.lssN; exact rfl; exact rfl) | (apply OQ.gtrN; exact rfl; exact rfl) | (apply OQ.idxS; exact rfl; exact rfl; exact rfl; exact rfl; exact (by (try simp only []); omega)) | (apply OQ.fld; exact rfl; exact rfl; exact rfl; exact (by decide); exact rfl)) rfl ?_ | refine JC.seq ?_ | refine JC.region ?_ | refine JC.block ?_ | refine JC.skip ?_ | refine JC.exit ?_ | refine JL.nil ?_ | refine JE.next ?_ | refine JE.blk_normal ?_ | refine JE.then_exit ?_ | refine JE.blk_hit ?_ | refine JE.blk_miss rfl ?_ | refine JE.then_ret ?_ | refine JE.blk_ret ?_ | refine JC.label ?_ | refine JL.gon rfl rfl ?_ | refine JL.gskip rfl rfl rfl rfl ?_ | refine JL.gskipU rfl rfl rfl rfl ?_)
  exact JC.ret (JE.ret1 rfl (RV.tmp rfl) fun w' hw => ⟨b, rfl, hw⟩)
def iv (m : Nat) : Nat → Int
  | 0 => (m : Int) - 1
  | k + 1 => iv m k - 1
theorem iv_eq (m : Nat) : ∀ k, iv m k = (m : Int) - 1 - k
  | 0 => by simp [iv]
  | k + 1 => by rw [iv, iv_eq m k]; omega
set_option maxHeartbeats 4000000 in
theorem back_seq (b1 : Nat) (a : Acc) (m : Nat) (hm : m ≤ 1000000) (ha : a = none → m = 0) (f : Nat → Nat × Bk) (hf : ∀ k, k < m → (f k).2.length = 64) :
    SeqB Try.prog 92 #[Pt b1 0] (fun k => (N (m - 1 - k), .agg (wc (f k)).toArray))
      (fun k W => W.cell? ⟨b1, 0, none⟩ = some (accV a m) ∧ (k < m → ∀ r, a = some r → ∀ i u, (wc (f k))[i]? = some u → W.cell? ⟨r.1, 0 + (m - 1 - k) * 65 + i, none⟩ = some u)) m := by
  intro l J X W hR hJ hY h0
  refine callsIn_wide.2 ?_
  refine enterF (n := 19) (vs := [.func (.yield l) #[] #[], Pt b1 0]) Try.func92 rfl rfl rfl ?_
  repeat (first | refine FL.q (by first | (apply load_w; exact wsC; exact rfl; exact (hR 0 W h0).1) | (apply OQ.lenV; exact Try.underlying109; exact ha; exact rfl) | (apply OQ.subI (a := m) (b := 1); exact rfl; exact rfl; exact (by omega); exact (by omega)) | (apply OQ.move; exact rfl) | (apply OQ.assign; exact rfl) | (apply OQ.nilc; exact rfl) | (apply OQ.len; exact rfl; exact rfl) | (apply OQ.lssN; exact rfl; exact rfl) | (apply OQ.gtrN; exact rfl; exact rfl) | (apply OQ.idxS; exact rfl; exact rfl; exact rfl; exact rfl; exact (by (try simp only []); omega)) | (apply OQ.fld; exact rfl; exact rfl; exact rfl; exact (by decide); exact rfl)) rfl rfl ?_ | refine FC.seq ?_ | refine FC.region ?_ | refine FC.block ?_ | refine FC.skip ?_ | refine FC.exit ?_ | refine FL.nil ?_ | refine FE.next ?_ | refine FE.blk_normal ?_ | refine FE.then_exit ?_ | refine FE.blk_hit ?_ | refine FE.blk_miss rfl ?_ | refine FE.then_ret ?_ | refine FE.blk_ret ?_)
  refine FC.loop (fun k : Nat => [(0, .func (.yield l) #[] #[]), (1, Pt b1 0), (3, .int .i64 (iv m k))]) (fun k w => k ≤ m ∧ J k w) (fun k => m - k) 0 ⟨Nat.zero_le _, h0⟩ (by repeat (first | exact SubE.nil | refine SubE.cons _ _ _ rfl ?_)) ?_
  rintro k w ⟨hk, hJk⟩
  obtain ⟨g1, g2⟩ := hR k w hJk
  have e := iv_eq m k
  by_cases hkm : k < m
  · have e2 : iv m k = ((m - 1 - k : Nat) : Int) := by omega
    have h1 : decide ((0 : Int) ≤ ((m - 1 - k : Nat) : Int)) = true := decide_eq_true (by omega)
    have e3 : iv m (k + 1) = ((m - 1 - k : Nat) : Int) - 1 := by rw [← e2]; rfl
    cases a with
    | none => exact absurd (ha rfl) (by omega)
    | some r =>
    have g2 := g2 hkm r rfl
    have hl : (wc (f k)).length = 65 := by rw [wc, List.length_cons, bc_len (hf k hkm)]
    have hYk := hY k w hkm hJk
    rw [e2]
    repeat (first | refine FL.q (by first | (apply OQ.geqB (b := 0); exact rfl; exact rfl; exact h1) | (apply OQ.move; exact rfl) | (apply OQ.assign; exact rfl) | (apply OQ.nilc; exact rfl) | (apply OQ.len; exact rfl; exact rfl) | (apply OQ.lssN; exact rfl; exact rfl) | (apply OQ.gtrN; exact rfl; exact rfl) | (apply OQ.idxS; exact rfl; exact rfl; exact rfl; exact rfl; exact (by (try simp only []); omega)) | (apply OQ.fld; exact rfl; exact rfl; exact rfl; exact (by decide); exact rfl)) rfl rfl ?_ | refine FC.seq ?_ | refine FC.region ?_ | refine FC.block ?_ | refine FC.skip ?_ | refine FC.exit ?_ | refine FL.nil ?_ | refine FE.next ?_ | refine FE.blk_normal ?_ | refine FE.then_exit ?_ | refine FE.blk_hit ?_ | refine FE.blk_miss rfl ?_ | refine FE.then_ret ?_ | refine FE.blk_ret ?_)
    refine FC.cond rfl (fun _ => ?_) (fun h => by cases h)
    repeat (first | refine FL.q (by first | (apply load_w; exact wsC; exact rfl; exact g1) | (apply OQ.idxS (i := m - 1 - k); exact Try.underlying109; exact dwB; exact rfl; exact rfl; exact (by omega)) | (apply load_wA; exact dwAg; exact dwB; exact hl; exact rfl; exact g2) | (apply OQ.move; exact rfl) | (apply OQ.assign; exact rfl) | (apply OQ.nilc; exact rfl) | (apply OQ.len; exact rfl; exact rfl) | (apply OQ.lssN; exact rfl; exact rfl) | (apply OQ.gtrN; exact rfl; exact rfl) | (apply OQ.idxS; exact rfl; exact rfl; exact rfl; exact rfl; exact (by (try simp only []); omega)) | (apply OQ.fld; exact rfl; exact rfl; exact rfl; exact (by decide); exact rfl)) rfl rfl ?_ | refine FC.seq ?_ | refine FC.region ?_ | refine FC.block ?_ | refine FC.skip ?_ | refine FC.exit ?_ | refine FL.nil ?_ | refine FE.next ?_ | refine FE.blk_normal ?_ | refine FE.then_exit ?_ | refine FE.blk_hit ?_ | refine FE.blk_miss rfl ?_ | refine FE.then_ret ?_ | refine FE.blk_ret ?_)
    refine FL.yield2 (v := N (m - 1 - k)) (v' := .agg (wc (f k)).toArray) rfl rfl rfl rfl hYk ?_
    rintro ee W' (⟨rfl, hJ'⟩ | ⟨rfl, hX'⟩)
    · refine ⟨true, rfl, ?_⟩
      repeat (first | refine FL.q (by first | (apply OQ.not; exact rfl) | (apply OQ.move; exact rfl) | (apply OQ.assign; exact rfl) | (apply OQ.nilc; exact rfl) | (apply OQ.len; exact rfl; exact rfl) | (apply OQ.lssN; exact rfl; exact rfl) | (apply OQ.gtrN; exact rfl; exact rfl) | (apply OQ.idxS; exact rfl; exact rfl; exact rfl; exact rfl; exact (by (try simp only []); omega)) | (apply OQ.fld; exact rfl; exact rfl; exact rfl; exact (by decide); exact rfl)) rfl rfl ?_ | refine FC.seq ?_ | refine FC.region ?_ | refine FC.block ?_ | refine FC.skip ?_ | refine FC.exit ?_ | refine FL.nil ?_ | refine FE.next ?_ | refine FE.blk_normal ?_ | refine FE.then_exit ?_ | refine FE.blk_hit ?_ | refine FE.blk_miss rfl ?_ | refine FE.then_ret ?_ | refine FE.blk_ret ?_)
      refine FC.cond rfl (fun h => by cases h) (fun _ => ?_)
      repeat (first | refine FL.q (by first | (apply OQ.subI (a := ((m - 1 - k : Nat) : Int)) (b := 1); exact rfl; exact rfl; exact (by omega); exact (by omega)) | (apply OQ.move; exact rfl) | (apply OQ.assign; exact rfl) | (apply OQ.nilc; exact rfl) | (apply OQ.len; exact rfl; exact rfl) | (apply OQ.lssN; exact rfl; exact rfl) | (apply OQ.gtrN; exact rfl; exact rfl) | (apply OQ.idxS; exact rfl; exact rfl; exact rfl; exact rfl; exact (by (try simp only []); omega)) | (apply OQ.fld; exact rfl; exact rfl; exact rfl; exact (by decide); exact rfl)) rfl rfl ?_ | refine FC.seq ?_ | refine FC.region ?_ | refine FC.block ?_ | refine FC.skip ?_ | refine FC.exit ?_ | refine FL.nil ?_ | refine FE.next ?_ | refine FE.blk_normal ?_ | refine FE.then_exit ?_ | refine FE.blk_hit ?_ | refine FE.blk_miss rfl ?_ | refine FE.then_ret ?_ | refine FE.blk_ret ?_)
      rw [← e3]
      exact FE.again (i := k) (k + 1) ⟨hkm, hJ'⟩ (by omega) (by repeat (first | exact SubE.nil | refine SubE.cons _ _ _ rfl ?_))
    · refine ⟨false, rfl, ?_⟩
      repeat (first | refine FL.q (by first | (apply OQ.not; exact rfl) | (apply OQ.move; exact rfl) | (apply OQ.assign; exact rfl) | (apply OQ.nilc; exact rfl) | (apply OQ.len; exact rfl; exact rfl) | (apply OQ.lssN; exact rfl; exact rfl) | (apply OQ.gtrN; exact rfl; exact rfl) | (apply OQ.idxS; exact rfl; exact rfl; exact rfl; exact rfl; exact (by (try simp only []); omega)) | (apply OQ.fld; exact rfl; exact rfl; exact rfl; exact (by decide); exact rfl)) rfl rfl ?_ | refine FC.seq ?_ | refine FC.region ?_ | refine FC.block ?_ | refine FC.skip ?_ | refine FC.exit ?_ | refine FL.nil ?_ | refine FE.next ?_ | refine FE.blk_normal ?_ | refine FE.then_exit ?_ | refine FE.blk_hit ?_ | refine FE.blk_miss rfl ?_ | refine FE.then_ret ?_ | refine FE.blk_ret ?_)
      refine FC.cond rfl (fun _ => ?_) (fun h => by cases h)
      refine FC.ret ?_
      repeat (first | refine FL.q (by first | (apply OQ.move; exact rfl) | (apply OQ.assign; exact rfl) | (apply OQ.nilc; exact rfl) | (apply OQ.len; exact rfl; exact rfl) | (apply OQ.lssN; exact rfl; exact rfl) | (apply OQ.gtrN; exact rfl; exact rfl) | (apply OQ.idxS; exact rfl; exact rfl; exact rfl; exact rfl; exact (by (try simp only []); omega)) | (apply OQ.fld; exact rfl; exact rfl; exact rfl; exact (by decide); exact rfl)) rfl rfl ?_ | refine FC.seq ?_ | refine FC.region ?_ | refine FC.block ?_ | refine FC.skip ?_ | refine FC.exit ?_ | refine FL.nil ?_ | refine FE.next ?_ | refine FE.blk_normal ?_ | refine FE.then_exit ?_ | refine FE.blk_hit ?_ | refine FE.blk_miss rfl ?_ | refine FE.then_ret ?_ | refine FE.blk_ret ?_)
      exact FE.ret0 rfl ⟨⟨_, rfl⟩, .inr hX'⟩
  · have h1 : decide ((0 : Int) ≤ iv m k) = false := decide_eq_false (by omega)
    obtain rfl : k = m := by omega
    repeat (first | refine FL.q (by first | (apply OQ.geqB (b := 0); exact rfl; exact rfl; exact h1) | (apply OQ.move; exact rfl) | (apply OQ.assign; exact rfl) | (apply OQ.nilc; exact rfl) | (apply OQ.len; exact rfl; exact rfl) | (apply OQ.lssN; exact rfl; exact rfl) | (apply OQ.gtrN; exact rfl; exact rfl) | (apply OQ.idxS; exact rfl; exact rfl; exact rfl; exact rfl; exact (by (try simp only []); omega)) | (apply OQ.fld; exact rfl; exact rfl; exact rfl; exact (by decide); exact rfl)) rfl rfl ?_ | refine FC.seq ?_ | refine FC.region ?_ | refine FC.block ?_ | refine FC.skip ?_ | refine FC.exit ?_ | refine FL.nil ?_ | refine FE.next ?_ | refine FE.blk_normal ?_ | refine FE.then_exit ?_ | refine FE.blk_hit ?_ | refine FE.blk_miss rfl ?_ | refine FE.then_ret ?_ | refine FE.blk_ret ?_)
    refine FC.cond rfl (fun h => by cases h) (fun _ => ?_)
    repeat (first | refine FL.q (by first | (apply OQ.move; exact rfl) | (apply OQ.assign; exact rfl) | (apply OQ.nilc; exact rfl) | (apply OQ.len; exact rfl; exact rfl) | (apply OQ.lssN; exact rfl; exact rfl) | (apply OQ.gtrN; exact rfl; exact rfl) | (apply OQ.idxS; exact rfl; exact rfl; exact rfl; exact rfl; exact (by (try simp only []); omega)) | (apply OQ.fld; exact rfl; exact rfl; exact rfl; exact (by decide); exact rfl)) rfl rfl ?_ | refine FC.seq ?_ | refine FC.region ?_ | refine FC.block ?_ | refine FC.skip ?_ | refine FC.exit ?_ | refine FL.nil ?_ | refine FE.next ?_ | refine FE.blk_normal ?_ | refine FE.then_exit ?_ | refine FE.blk_hit ?_ | refine FE.blk_miss rfl ?_ | refine FE.then_ret ?_ | refine FE.blk_ret ?_)
    exact FE.end0 rfl ⟨⟨_, rfl⟩, .inl hJk⟩
def undoM (x : Dp) (b14 b3 b1 : Nat) (s : List Bk × List (Nat × Bk)) : List Ent :=
  ⟨x.p, Row 111 [.slice (some ⟨x.q, 0, none⟩) s.1.length x.cap, .slice none 0 0], true⟩ :: ⟨x.q, Sl.Own 83 64 s.1.length x.cap (bcs s.1).flatten, true⟩ :: (accC 115 65 x.a (wcs s.2) ++ [⟨b14, Row 109 [accV x.a s.2.length], true⟩, ⟨b3, Row 109 [accV x.a s.2.length], true⟩, ⟨b1, Row 25 [Pt x.p 0], true⟩])
theorem cells_rowD {e : TypeId} {l : List Value} : ∀ o, Row e l o → o.isCells = true := by rintro o rfl; rfl
theorem cells_ownD {e : TypeId} {k sz cap : Nat} {l : List Value} : ∀ o, Sl.Own e sz k cap l o → o.isCells = true := by rintro o ⟨_, rfl, _⟩; rfl
theorem cells_accC {e : TypeId} {sz : Nat} {q : Acc} {L : List (List Value)} : ∀ x ∈ accC e sz q L, ∀ o, x.A o → o.isCells = true := by
  cases q with
  | none => nofun
  | some p => intro x hx; rw [List.mem_singleton.1 hx]; exact cells_ownD
theorem cells_undo (x : Dp) (b14 b3 b1 : Nat) (s : List Bk × List (Nat × Bk)) : ∀ e ∈ undoM x b14 b3 b1 s, ∀ o, e.A o → o.isCells = true := by
  intro e he
  rcases List.mem_cons.1 he with rfl | he
  · exact cells_rowD
  rcases List.mem_cons.1 he with rfl | he
  · exact cells_ownD
  rcases List.mem_append.1 he with he | he
  · exact cells_accC e he
  · simp only [List.mem_cons, List.not_mem_nil, or_false] at he
    rcases he with rfl | rfl | rfl <;> exact cells_rowD
theorem goes_undo : Goes Try.prog 60 := ⟨_, Try.func60, rfl, by kernel_rfl⟩
theorem accV_dsk (q : Acc) (k : Nat) : (accV q k).cells = #[accV q k] ∧ (accV q k).oneCell' = true := by cases q <;> exact ⟨rfl, rfl⟩
theorem callFn (f : FuncId) (args : Array Value) (w : World) (h : Goes Try.prog f) : (callFunc f args).run Try.prog w = .ok (.enter f args) w := by
  obtain ⟨fn, h1, h2, h3⟩ := h
  have h2' : ¬ fn.body = none := fun h => by rw [h] at h2; cases h2
  have h3' : ¬ fn.name = "runtime.NumGoroutine" := by simpa using h3
  simp [callFunc, program, Sem.run_bind, Sem.run, h1, h2', h3']
theorem goes_back1 : Goes Try.prog 92 := ⟨_, Try.func92, rfl, by kernel_rfl⟩
/-- the disk's blocks and struct, nothing pending; and the writes that were -/
def undoE (x : Dp) (s : List Bk × List (Nat × Bk)) : List Ent :=
  ⟨x.p, Row 111 [.slice (some ⟨x.q, 0, none⟩) s.1.length x.cap, .slice none 0 0], true⟩ :: ⟨x.q, Sl.Own 83 64 s.1.length x.cap (bcs s.1).flatten, true⟩ :: accC 115 65 x.a (wcs s.2)
set_option maxHeartbeats 16000000 in
theorem undo_any (x : Dp) (bl : List Bk) (pd : List (Nat × Bk)) (h : DkOk x bl pd) (w : World) (hw : Holds w (keys (dkE x bl pd)) (dkE x bl pd) w) :
    Calls Try.prog 60 [Pt x.p 0].toArray w fun e w' => e = .returned (accV x.a pd.length) ∧ Holds w (keys (dkE x bl pd)) (undoE x (undo bl pd)) w' := by
  generalize hS : keys (dkE x bl pd) = S at hw ⊢
  have hm := h.m
  refine enterM (n := 39) Try.func60 rfl rfl rfl hw ?_
  repeat (first | refine JL.q (by first | (apply OQ.move; exact rfl) | (apply OQ.assign; exact rfl) | (apply OQ.nilc; exact rfl) | (apply OQ.len; exact rfl; exact rfl) | (apply OQ.lssN; exact rfl; exact rfl) | (apply OQ.gtrN; exact rfl; exact rfl) | (apply OQ.idxS; exact rfl; exact rfl; exact rfl; exact rfl; exact (by (try simp only []); omega)) | (apply OQ.fld; exact rfl; exact rfl; exact rfl; exact (by decide); exact rfl)) rfl ?_ | refine JC.seq ?_ | refine JC.region ?_ | refine JC.block ?_ | refine JC.skip ?_ | refine JC.exit ?_ | refine JL.nil ?_ | refine JE.next ?_ | refine JE.blk_normal ?_ | refine JE.then_exit ?_ | refine JE.blk_hit ?_ | refine JE.blk_miss rfl ?_ | refine JE.then_ret ?_ | refine JE.blk_ret ?_ | refine JC.label ?_ | refine JL.gon rfl rfl ?_ | refine JL.gskip rfl rfl rfl rfl ?_ | refine JL.gskipU rfl rfl rfl rfl ?_)
  refine JL.box (r := [Pt x.p 0]) rfl rfl rfl fun b1 _ => ?_
  repeat (first | refine JL.q (by first | (apply OQ.load; exact pdC; exact rfl; exact .here; exact (Row.cell (v := Pt x.p 0) rfl)) | (apply OQ.load; exact wsC; exact rfl; exact (.there .here); exact (Row.cell (v := accV x.a pd.length) rfl)) | (apply OQ.move; exact rfl) | (apply OQ.assign; exact rfl) | (apply OQ.nilc; exact rfl) | (apply OQ.len; exact rfl; exact rfl) | (apply OQ.lssN; exact rfl; exact rfl) | (apply OQ.gtrN; exact rfl; exact rfl) | (apply OQ.idxS; exact rfl; exact rfl; exact rfl; exact rfl; exact (by (try simp only []); omega)) | (apply OQ.fld; exact rfl; exact rfl; exact rfl; exact (by decide); exact rfl)) rfl ?_ | refine JC.seq ?_ | refine JC.region ?_ | refine JC.block ?_ | refine JC.skip ?_ | refine JC.exit ?_ | refine JL.nil ?_ | refine JE.next ?_ | refine JE.blk_normal ?_ | refine JE.then_exit ?_ | refine JE.blk_hit ?_ | refine JE.blk_miss rfl ?_ | refine JE.then_ret ?_ | refine JE.blk_ret ?_ | refine JC.label ?_ | refine JL.gon rfl rfl ?_ | refine JL.gskip rfl rfl rfl rfl ?_ | refine JL.gskipU rfl rfl rfl rfl ?_)
  refine JL.alloc (r := [.slice none 0 0]) (by kernel_rfl) rfl fun b3 _ => ?_
  refine JL.store_eq (b := b3) (r := [.slice none 0 0]) (r' := [accV x.a pd.length]) ws1 rfl rfl (accV_dsk _ _).2 (accV_dsk _ _).1 .here (show 0 < 1 by decide) rfl ?_
  repeat (first | refine JL.q (by first | (apply OQ.load; exact pdC; exact rfl; exact (.there .here); exact (Row.cell (v := Pt x.p 0) rfl)) | (apply OQ.move; exact rfl) | (apply OQ.assign; exact rfl) | (apply OQ.nilc; exact rfl) | (apply OQ.len; exact rfl; exact rfl) | (apply OQ.lssN; exact rfl; exact rfl) | (apply OQ.gtrN; exact rfl; exact rfl) | (apply OQ.idxS; exact rfl; exact rfl; exact rfl; exact rfl; exact (by (try simp only []); omega)) | (apply OQ.fld; exact rfl; exact rfl; exact rfl; exact (by decide); exact rfl)) rfl ?_ | refine JC.seq ?_ | refine JC.region ?_ | refine JC.block ?_ | refine JC.skip ?_ | refine JC.exit ?_ | refine JL.nil ?_ | refine JE.next ?_ | refine JE.blk_normal ?_ | refine JE.then_exit ?_ | refine JE.blk_hit ?_ | refine JE.blk_miss rfl ?_ | refine JE.then_ret ?_ | refine JE.blk_ret ?_ | refine JC.label ?_ | refine JL.gon rfl rfl ?_ | refine JL.gskip rfl rfl rfl rfl ?_ | refine JL.gskipU rfl rfl rfl rfl ?_)
  refine JL.store_eq (b := x.p) (r := dkRow x bl pd) (r' := [.slice (some ⟨x.q, 0, none⟩) bl.length x.cap, .slice none 0 0]) ws1 rfl rfl rfl rfl (.there (.there .here)) (show 1 < 2 by decide) rfl ?_
  repeat (first | refine JL.q (by first | (apply OQ.load; exact wsC; exact rfl; exact .here; exact (Row.cell (v := accV x.a pd.length) rfl)) | (apply OQ.move; exact rfl) | (apply OQ.assign; exact rfl) | (apply OQ.nilc; exact rfl) | (apply OQ.len; exact rfl; exact rfl) | (apply OQ.lssN; exact rfl; exact rfl) | (apply OQ.gtrN; exact rfl; exact rfl) | (apply OQ.idxS; exact rfl; exact rfl; exact rfl; exact rfl; exact (by (try simp only []); omega)) | (apply OQ.fld; exact rfl; exact rfl; exact rfl; exact (by decide); exact rfl)) rfl ?_ | refine JC.seq ?_ | refine JC.region ?_ | refine JC.block ?_ | refine JC.skip ?_ | refine JC.exit ?_ | refine JL.nil ?_ | refine JE.next ?_ | refine JE.blk_normal ?_ | refine JE.then_exit ?_ | refine JE.blk_hit ?_ | refine JE.blk_miss rfl ?_ | refine JE.then_ret ?_ | refine JE.blk_ret ?_ | refine JC.label ?_ | refine JL.gon rfl rfl ?_ | refine JL.gskip rfl rfl rfl rfl ?_ | refine JL.gskipU rfl rfl rfl rfl ?_)
  refine JL.callg (ι := Nat) (vs := [accV x.a pd.length]) (fun b => backF b) (fun b => [⟨b, Row 109 [accV x.a pd.length], true⟩]) goes_back rfl rfl (fun b e he => by rw [List.mem_singleton.1 he]) (fun w' _ => back_any _ (accV_dsk _ _).1 w') fun b14 => ?_
  repeat (first | refine JL.q (by first | (apply OQ.move; exact rfl) | (apply OQ.assign; exact rfl) | (apply OQ.nilc; exact rfl) | (apply OQ.len; exact rfl; exact rfl) | (apply OQ.lssN; exact rfl; exact rfl) | (apply OQ.gtrN; exact rfl; exact rfl) | (apply OQ.idxS; exact rfl; exact rfl; exact rfl; exact rfl; exact (by (try simp only []); omega)) | (apply OQ.fld; exact rfl; exact rfl; exact rfl; exact (by decide); exact rfl)) rfl ?_ | refine JC.seq ?_ | refine JC.region ?_ | refine JC.block ?_ | refine JC.skip ?_ | refine JC.exit ?_ | refine JL.nil ?_ | refine JE.next ?_ | refine JE.blk_normal ?_ | refine JE.then_exit ?_ | refine JE.blk_hit ?_ | refine JE.blk_miss rfl ?_ | refine JE.then_ret ?_ | refine JE.blk_ret ?_ | refine JC.label ?_ | refine JL.gon rfl rfl ?_ | refine JL.gskip rfl rfl rfl rfl ?_ | refine JL.gskipU rfl rfl rfl rfl ?_)
  have eM0 : undoM x b14 b3 b1 (undoN bl pd 0) = undoM x b14 b3 b1 (bl, pd) := by rw [undoN_zero]
  refine JC.rangeW (ι := Nat) (τ := Nat × Nat) (κ := Empty) (S := S) (gf := 92) (lb := #[Pt b14 0]) (fun k => (N (pd.length - 1 - k), .agg (wc (nth (undoN bl pd k).2 (pd.length - 1 - k))).toArray))
    (fun k W => W.cell? ⟨b14, 0, none⟩ = some (accV x.a pd.length) ∧ (k < pd.length → ∀ r, x.a = some r → ∀ i u, (wc (nth (undoN bl pd k).2 (pd.length - 1 - k)))[i]? = some u → W.cell? ⟨r.1, 0 + (pd.length - 1 - k) * 65 + i, none⟩ = some u)) pd.length
    (fun k => undoM x b14 b3 b1 (undoN bl pd k)) (fun k i => i = k ∧ k ≤ pd.length) (fun t => ⟨t.2, Row 115 (wc (nth (undoN bl pd t.1).2 (pd.length - 1 - t.1))), true⟩ :: undoM x b14 b3 b1 (undoN bl pd t.1)) (fun k t => [(1, Pt b1 0), (3, Pt b3 0), (4, N (pd.length - 1 - k)), (5, Pt t.2 0)]) (fun k t => t.1 = k) (fun e => e.elim) (fun _ => False)
    rfl (fun args w => callFn _ _ _ goes_back1) (back_seq b14 x.a pd.length h.m (fun e => by rw [h.a e]; rfl) _ fun k hk => ?_) ?_ (fun i => cells_undo x b14 b3 b1 _) ?_ nofun 0 ⟨rfl, Nat.zero_le _⟩ ?_ rfl rfl ?_ ?_ ?_ nofun
  · exact ((h.ok.undoN k (by omega)).p _ (nth_mem (by rw [(undoN_len bl pd k (by omega)).2]; omega))).2
  · rintro k i W ⟨rfl, hk⟩ hH
    have hl2 := (undoN_len bl pd i hk).2
    have okk := h.ok.undoN i hk
    refine ⟨?_, fun hkm r hr j u hu => ?_⟩
    · obtain ⟨o, ho, hA⟩ := hH.get (b := b14) (A := Row 109 [accV x.a (undoN bl pd i).2.length]) (wr := true) (.there (.there (hasR .here)))
      rw [← hl2]
      exact cell_of ho (Row.cell rfl _ hA)
    · obtain ⟨o, ho, hA⟩ := hH.get (b := r.1) (A := Sl.Own 115 65 (wcs (undoN bl pd i).2).length r.2 (wcs (undoN bl pd i).2).flatten) (wr := true) (by unfold undoM; rw [hr]; exact .there (.there .here))
      have hlt : pd.length - 1 - i < (undoN bl pd i).2.length := by omega
      have hc := Own.chunk (i := pd.length - 1 - i) (wcs_len okk) (by rw [wcs_n]; exact hlt) o hA
      rw [wcs_at hlt] at hc
      rw [Nat.zero_add]
      exact cells_of ho hc j u hu
  · intro t e he
    rcases List.mem_cons.1 he with rfl | he
    · exact cells_rowD
    · exact cells_undo x b14 b3 b1 _ e he
  · intro w' hw'
    rw [eM0]
    exact hw'.perm' (List.perm_append_comm (l₁ := [_, _, _]))
  · rintro l k i w1 ⟨rfl, hk⟩ hkm hH
    generalize wrs (undoM x b14 b3 b1 (undoN bl pd i)) = S1
    refine JR.seq (JR.region rfl (lo_then lo_asgQ) (JL.q (OQ.assign rfl) rfl (JL.nil (JE.nextR (JR.region rfl lo_asgQ ?_)))))
    refine JL.alloc dwZ rfl fun b5 _ => ?_
    have ok2 := ((h.ok.undoN i hk).p _ (nth_mem (by rw [(undoN_len bl pd i hk).2]; omega : pd.length - 1 - i < _))).2
    refine JL.store_all (cs := wc (nth (undoN bl pd i).2 (pd.length - 1 - i))) dwB rfl rfl (by rw [wc, List.length_cons, bc_len ok2]) (by rw [wc, List.all_cons, bc_cell]; rfl) .here rfl (JL.nil ?_)
    exact JE.asg (i, b5) rfl (by repeat (first | exact SubE.nil | refine SubE.cons _ _ _ rfl ?_)) (Less.refl _)
  · rintro l k ⟨k', b5⟩ w1 rfl hkm hH
    generalize wrs _ = S1
    have hk : k' ≤ pd.length := by have : k' < pd.length := hkm; omega
    obtain ⟨r, hr⟩ : ∃ r, x.a = some r := by
      cases e : x.a with
      | none => have := h.a e; subst this; exact absurd hkm (by simp)
      | some r => exact ⟨r, rfl⟩
    have hl := undoN_len bl pd k' hk
    have ok := h.ok.undoN k' hk
    have hs := undoN_succ (bl := bl) hkm
    obtain ⟨lb, hlb⟩ : ∃ lb, (undoN bl pd k').1 = lb := ⟨_, rfl⟩
    obtain ⟨ws, hws⟩ : ∃ ws, (undoN bl pd k').2 = ws := ⟨_, rfl⟩
    have hU : undoN bl pd k' = (lb, ws) := by rw [← hlb, ← hws]
    rw [hlb, hws] at hl ok
    rw [hU] at hs
    dsimp only at hl hs ⊢
    rw [hU]
    dsimp only
    obtain ⟨i, hi'⟩ : ∃ i, pd.length - 1 - k' = i := ⟨_, rfl⟩
    have hi : i < ws.length := by omega
    rw [hi'] at hs ⊢
    obtain ⟨w, hww⟩ : ∃ w, nth ws i = w := ⟨_, rfl⟩
    obtain ⟨hw1, hw2⟩ := ok.p _ (nth_mem hi)
    have ew : (wcs ws).getD i [] = wc w := by rw [wcs_at hi, hww]
    rw [hww] at hw1 hw2 ⊢
    have eM : undoM x b14 b3 b1 (lb, ws) = [⟨x.p, Row 111 [.slice (some ⟨x.q, 0, none⟩) lb.length x.cap, .slice none 0 0], true⟩, ⟨x.q, Sl.Own 83 64 lb.length x.cap (bcs lb).flatten, true⟩, ⟨r.1, Sl.Own 115 65 (wcs ws).length r.2 (wcs ws).flatten, true⟩, ⟨b14, Row 109 [accV (some r) ws.length], true⟩, ⟨b3, Row 109 [accV (some r) ws.length], true⟩, ⟨b1, Row 25 [Pt x.p 0], true⟩] := by
      unfold undoM
      rw [hr]
      rfl
    have eL : (wcs ws).set i (((wcs ws).getD i []).take 1 ++ bc (old lb w.1) ++ ((wcs ws).getD i []).drop (1 + 64)) = wcs (ws.set i (w.1, old lb w.1)) := by
      have e1 : (wc w).drop (1 + 64) = [] := List.drop_of_length_le (by rw [wc, List.length_cons, bc_len hw2]; exact Nat.le_refl _)
      rw [ew, e1, List.append_nil]
      show (wcs ws).set i (wc (w.1, old lb w.1)) = _
      simp [wcs, List.map_set]
    have eM2 : undoM x b14 b3 b1 (undoN bl pd (k' + 1)) = [⟨x.p, Row 111 [.slice (some ⟨x.q, 0, none⟩) lb.length x.cap, .slice none 0 0], true⟩, ⟨x.q, Sl.Own 83 64 lb.length x.cap ((bcs lb).set w.1 (bc w.2)).flatten, true⟩, ⟨r.1, Sl.Own 115 65 (wcs ws).length r.2 ((wcs ws).set i (((wcs ws).getD i []).take 1 ++ bc (old lb w.1) ++ ((wcs ws).getD i []).drop (1 + 64))).flatten, true⟩, ⟨b14, Row 109 [accV (some r) ws.length], true⟩, ⟨b3, Row 109 [accV (some r) ws.length], true⟩, ⟨b1, Row 25 [Pt x.p 0], true⟩] := by
      have e3 : (ws.set i (w.1, old lb w.1)).length = ws.length := List.length_set
      rw [hs, eL, bcs_set]
      unfold undoM Dsk.step
      rw [hr]
      dsimp only
      rw [hww, List.length_set, e3, wcs_n ws]
      show _ :: _ :: ([(⟨r.1, Sl.Own 115 65 (wcs (ws.set i (w.1, old lb w.1))).length r.2 _, true⟩ : Ent)] ++ _) = _
      rw [wcs_n, e3]
      rfl
    rw [eM]
    refine JR.block ?_
    show JR _ _ _ _ _ _ _ _ [(1, Pt b1 0), (3, Pt b3 0), (4, N i), (5, Pt b5 0)] _
    let vs : Nat → Nat → Value := fun j y => match j with
      | 0 => accV (some r) ws.length
      | 1 => N i
      | 2 => Pt x.p 0
      | 3 => Pt x.p 0
      | 4 => Pt x.p 0
      | 5 => .slice (some ⟨x.q, 0, none⟩) lb.length x.cap
      | 6 => Pt b5 0
      | 7 => N w.1
      | 8 => Pt x.p 0
      | 9 => Pt x.p 0
      | 10 => Pt x.p 0
      | 11 => .slice (some ⟨x.q, 0, none⟩) lb.length x.cap
      | 12 => Pt b5 0
      | 13 => N w.1
      | 14 => Pt x.q (0 + w.1 * 64)
      | 15 => .agg (bc (old lb w.1)).toArray
      | 16 => Pt b5 1
      | 17 => .agg (bc w.2).toArray
      | 18 => Pt r.1 (0 + i * 65)
      | 19 => Pt r.1 (0 + i * 65 + 1)
      | 21 => Pt x.q (0 + w.1 * 64)
      | _ => N 0
    let Ms : Nat → Nat → List Ent := fun j y => match j with
      | 20 => [⟨r.1, Sl.Own 115 65 (wcs ws).length r.2 ((wcs ws).set i (((wcs ws).getD i []).take 1 ++ bc (old lb w.1) ++ ((wcs ws).getD i []).drop (1 + 64))).flatten, true⟩]
      | 22 => [⟨x.q, Sl.Own 83 64 lb.length x.cap ((bcs lb).set w.1 (bc w.2)).flatten, true⟩]
      | 23 => [⟨b5, Row 115 (wc w), true⟩]
      | 24 => [⟨x.p, Row 111 [.slice (some ⟨x.q, 0, none⟩) lb.length x.cap, .slice none 0 0], true⟩]
      | 25 => [⟨x.q, Sl.Own 83 64 lb.length x.cap (bcs lb).flatten, true⟩]
      | 26 => [⟨r.1, Sl.Own 115 65 (wcs ws).length r.2 (wcs ws).flatten, true⟩]
      | 27 => [⟨b14, Row 109 [accV (some r) ws.length], true⟩]
      | 28 => [⟨b3, Row 109 [accV (some r) ws.length], true⟩]
      | 29 => [⟨b1, Row 25 [Pt x.p 0], true⟩]
      | _ => []
    refine JR.growR (g := ⟨[(1, Pt b1 0), (3, Pt b3 0), (4, N i), (5, Pt b5 0)], 30, vs, Ms, (fun j => match j with | 3 => [(2, 19)] | 4 => [(3, 20)] | 5 => [(4, 21)] | 7 => [(6, 23)] | 9 => [(8, 25)] | 10 => [(9, 26)] | 11 => [(10, 27)] | 13 => [(12, 29)] | 14 => [(11, 28), (13, 30)] | 15 => [(14, 31)] | 17 => [(16, 33)] | 18 => [(0, 17), (1, 18)] | 19 => [(18, 35)] | 20 => [(19, 36), (15, 32)] | 21 => [(5, 22), (7, 24)] | 22 => [(21, 37), (17, 34)] | _ => []), (fun j => match j with | 0 => [28] | 2 => [29] | 5 => [24] | 7 => [23] | 8 => [29] | 11 => [24] | 13 => [23] | 15 => [25] | 17 => [23] | 20 => [26] | 22 => [25] | _ => []), (fun j => match j with | 20 => [26] | 22 => [25] | _ => []), (fun j => match j with | _ => none), fun _ => [], fun _ _ _ => True⟩) [] [24, 22, 20, 27, 28, 29] rfl (lo_blk lo_roundX) mixT (by repeat (first | exact SubE.nil | refine SubE.cons _ _ _ rfl ?_)) (fun _ _ => .nil) ?_ (by kernel_rfl) (by kernel_rfl) (by kernel_rfl) ?_ ?_
    · exact Less.refl _
    · refine ⟨?_, ?_, ?_, ?_, ?_, ?_, ?_, ?_, ?_, ?_, ?_, ?_, ?_, ?_, ?_, ?_, ?_, ?_, ?_, ?_, ?_, ?_, ?_, trivial⟩
      · (intro xx EF MF Q kk; (try refine JL.gon rfl rfl ?_); exact JL.q (OQ.load wsC rfl .here (Row.cell (v := accV (some r) ws.length) rfl)) rfl (JL.nil (kk default nofun)))
      · (intro xx EF MF Q kk; (try refine JL.gon rfl rfl ?_); exact JL.q (OQ.move rfl) rfl (JL.nil (kk default nofun)))
      · (intro xx EF MF Q kk; (try refine JL.gon rfl rfl ?_); exact JL.q (OQ.load pdC rfl .here (Row.cell (v := Pt x.p 0) rfl)) rfl (JL.nil (kk default nofun)))
      · (intro xx EF MF Q kk; (try refine JL.gon rfl rfl ?_); exact JL.q (OQ.nilc rfl) rfl (JL.nil (kk default nofun)))
      · (intro xx EF MF Q kk; (try refine JL.gon rfl rfl ?_); exact JL.q (OQ.fld rfl rfl rfl (by decide) rfl) rfl (JL.nil (kk default nofun)))
      · (intro xx EF MF Q kk; (try refine JL.gon rfl rfl ?_); exact JL.q (OQ.load bsC rfl .here (Row.cell (v := .slice (some ⟨x.q, 0, none⟩) lb.length x.cap) rfl)) rfl (JL.nil (kk default nofun)))
      · (intro xx EF MF Q kk; (try refine JL.gon rfl rfl ?_); exact JL.q (OQ.fld rfl rfl rfl (by decide) rfl) rfl (JL.nil (kk default nofun)))
      · (intro xx EF MF Q kk; (try refine JL.gon rfl rfl ?_); exact JL.q (OQ.load intC rfl .here (Row.cell (v := N w.1) rfl)) rfl (JL.nil (kk default nofun)))
      · (intro xx EF MF Q kk; (try refine JL.gon rfl rfl ?_); exact JL.q (OQ.load pdC rfl .here (Row.cell (v := Pt x.p 0) rfl)) rfl (JL.nil (kk default nofun)))
      · (intro xx EF MF Q kk; (try refine JL.gon rfl rfl ?_); exact JL.q (OQ.nilc rfl) rfl (JL.nil (kk default nofun)))
      · (intro xx EF MF Q kk; (try refine JL.gon rfl rfl ?_); exact JL.q (OQ.fld rfl rfl rfl (by decide) rfl) rfl (JL.nil (kk default nofun)))
      · (intro xx EF MF Q kk; (try refine JL.gon rfl rfl ?_); exact JL.q (OQ.load bsC rfl .here (Row.cell (v := .slice (some ⟨x.q, 0, none⟩) lb.length x.cap) rfl)) rfl (JL.nil (kk default nofun)))
      · (intro xx EF MF Q kk; (try refine JL.gon rfl rfl ?_); exact JL.q (OQ.fld rfl rfl rfl (by decide) rfl) rfl (JL.nil (kk default nofun)))
      · (intro xx EF MF Q kk; (try refine JL.gon rfl rfl ?_); exact JL.q (OQ.load intC rfl .here (Row.cell (v := N w.1) rfl)) rfl (JL.nil (kk default nofun)))
      · (intro xx EF MF Q kk; (try refine JL.gon rfl rfl ?_); exact JL.q (OQ.idxS Try.underlying22 dkB rfl rfl hw1) rfl (JL.nil (kk default nofun)))
      · (intro xx EF MF Q kk; (try refine JL.gon rfl rfl ?_); exact JL.q (OQ.to (OQ.loadC (L := bcs lb) (i := w.1) dkAg dkB rfl (Nat.zero_add _) .here (bcs_len ok) (by rw [bcs_n]; exact hw1)) (by rw [bcs_at hw1]; rfl)) rfl (JL.nil (kk default nofun)))
      · (intro xx EF MF Q kk; (try refine JL.gon rfl rfl ?_); exact JL.q (OQ.fld rfl rfl rfl (by decide) rfl) rfl (JL.nil (kk default nofun)))
      · (intro xx EF MF Q kk; (try refine JL.gon rfl rfl ?_); exact JL.q (OQ.load_agg (cs := bc w.2) dkAg dkB rfl .here (bc_len hw2) (Row.cells (wc_tail w))) rfl (JL.nil (kk default nofun)))
      · (intro xx EF MF Q kk; (try refine JL.gon rfl rfl ?_); exact JL.q (OQ.idxS Try.underlying109 dwB rfl rfl hi) rfl (JL.nil (kk default nofun)))
      · (intro xx EF MF Q kk; (try refine JL.gon rfl rfl ?_); exact JL.q (OQ.fld rfl rfl rfl (by decide) rfl) rfl (JL.nil (kk default nofun)))
      · (intro xx EF MF Q kk; exact JL.storeP (L := wcs ws) (i := i) (off := 1) dkB rfl (by rw [Nat.zero_add]) rfl (bc_len (ok.old hw1)) (bc_cell _) (wcs_len ok) rfl (by rw [wcs_n]; exact hi) (by decide) .here (JL.nil (kk default nofun)))
      · (intro xx EF MF Q kk; (try refine JL.gon rfl rfl ?_); exact JL.q (OQ.idxS Try.underlying22 dkB rfl rfl hw1) rfl (JL.nil (kk default nofun)))
      · (intro xx EF MF Q kk; exact JL.storeC (L := bcs lb) (i := w.1) dkB rfl (Nat.zero_add _) rfl (bc_len hw2) (bc_cell _) (bcs_len ok) (bcs_n lb) hw1 .here (JL.nil (kk default nofun)))
    · intro xx hx
      refine JE.blk_normal (JE.roundN (k' + 1) ⟨rfl, hkm⟩ ?_)
      rw [eM2]
      exact Less.refl _
  · rintro D _ ⟨rfl, _⟩
    have hl2 := (undoN_len bl pd pd.length (Nat.le_refl _)).2
    repeat (first | refine KL.q (by first | (apply OQ.load; exact wsC; exact rfl; exact (.there (.there (.there (hasR (.there .here))))); exact (Row.cell (v := accV x.a (undoN bl pd pd.length).2.length) rfl)) | (apply OQ.move; exact rfl) | (apply OQ.assign; exact rfl) | (apply OQ.nilc; exact rfl) | (apply OQ.len; exact rfl; exact rfl) | (apply OQ.lssN; exact rfl; exact rfl) | (apply OQ.gtrN; exact rfl; exact rfl) | (apply OQ.idxS; exact rfl; exact rfl; exact rfl; exact rfl; exact (by (try simp only []); omega)) | (apply OQ.fld; exact rfl; exact rfl; exact rfl; exact (by decide); exact rfl)) rfl ?_ | refine KC.seq ?_ | refine KC.region ?_ | refine KC.skip ?_ | refine KL.nil ?_ | refine KE.next ?_ | refine KE.blk_normal ?_ | refine KE.then_ret ?_)
    refine KC.ret ?_
    refine KE.ret1 rfl rfl fun w' hw' => ⟨?_, hw'.weak ?_⟩
    · rw [hl2]
    · exact .keep _ _ _ _ _ _ (fun _ h => h) (.keep _ _ _ _ _ _ (fun _ h => h) (less_pre _ _))
end Go.Proofs.Ytkadoibacliepaa
