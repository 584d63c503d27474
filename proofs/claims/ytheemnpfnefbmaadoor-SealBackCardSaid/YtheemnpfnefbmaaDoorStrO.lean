/-
  Of no statement by itself: what the reference's Order and Block give.
  Conditions: each theorem's own.
-/
import Derived.Test.YtheemnpfnefbmaaDoorStrM
namespace Go.Proofs.YtheemnpfnefbmaaDoor
open Sl Sha Str

theorem Sl.Has.of_mem {M : List Ent} {b : Nat} {A : Obj → Prop} {wr : Bool} (h : ⟨b, A, wr⟩ ∈ M) : Has M b A wr := by
  induction M with
  | nil => cases h
  | cons e M ih =>
    simp only [List.mem_cons] at h
    rcases h with h | h
    · subst h; exact .here
    · exact .there (ih h)
theorem Sl.Holds.perm {w0 w : World} {S : List Nat} {M M' : List Ent} (h : Holds w0 S M w) (hp : M.Perm M') : Holds w0 S M' w :=
  ⟨h.chg, (hp.map Ent.b).nodup_iff.1 h.nodup, fun e he => h.all e (hp.mem_iff.2 he)⟩
theorem JL.perm {P : Program} {n : Nat} {w0 : World} {S : List Nat} {ops : Array Oper} {Q : Exit → Act → World → Prop} {l : List Oper} {E : Env} {M M' : List Ent} (hp : M.Perm M') (h : JL P n w0 S ops Q l E M') : JL P n w0 S ops Q l E M := ⟨fun a w ha hw => h.go a w ha (hw.perm hp)⟩
theorem JL.store_own {P : Program} {n : Nat} {w0 : World} {S : List Nat} {ops : Array Oper} {Q : Exit → Act → World → Prop} {l : List Oper} {E : Env} {M M' : List Ent} {b j k cap : Nat} {t e ty : TypeId} {pos : String} {aft : Array Edge} {v : Value} {x y : Operand} {xs xs' : List Value}
    (hz : szT P t = some 1) (hx : ev E x = some (.pointer (some ⟨b, j, none⟩))) (hy : ev E y = some v) (hv : v.oneCell' = true) (hcl : v.cells = #[v]) (hu : Upd M b (Own e 1 k cap xs) (Own e 1 k cap xs') M') (hj : j < xs.length) (he : xs.set j v = xs')
    (kk : JL P n w0 S ops Q l E M') : JL P n w0 S ops Q (⟨none, .store t x y, ty, pos, aft, none⟩ :: l) E M :=
  JL.store hx hy hz hv hcl hu (by
    rintro o ⟨sp, rfl, h2, h3, h4⟩
    subst he
    refine ⟨_, _, rfl, by simp only [List.size_toArray, List.length_append]; omega, sp, ?_, by simpa using h2, by simpa using h3, h4⟩
    simp only [List.setIfInBounds_toArray]
    rw [List.set_append_left _ _ hj]) kk
theorem row_ownG {e : TypeId} {xs : List Value} {n : Nat} (h : xs.length = n) : ∀ o, Row e xs o → Own e 1 n n xs o := by
  rintro o rfl
  exact ⟨[], by simp, by simp [h], by simp [h], Nat.le_refl _⟩

theorem goes_order : Goes Tryd.prog 32 := ⟨_, Tryd.func32, rfl, by kernel_rfl⟩
theorem goes_rblock : Goes Tryd.prog 16 := ⟨_, Tryd.func16, rfl, by kernel_rfl⟩
theorem ei24 : EI Tryd.prog 24 (.int .u32 0) 1 4 := by unfold EI; kernel_rfl
theorem ei3 : EI Tryd.prog 3 (.int .i64 0) 1 8 := by unfold EI; kernel_rfl
theorem ei58 : EI Tryd.prog 58 (.slice none 0 0) 1 24 := by unfold EI; kernel_rfl
theorem is58 : szT Tryd.prog 58 = some 1 := by kernel_rfl
theorem ic58 : scal Tryd.prog 58 = true := by kernel_rfl

/-- the order's rows: one of eight, and the row of these -/
def d8 : List Nat := [7, 6, 5, 4, 3, 2, 1, 0]
def osl (f : Nat → Nat) (i : Nat) : Value := .slice (some ⟨f i, 0, none⟩) 4 4
def ordE (bo : Nat) (f : Nat → Nat) : List Ent := ⟨bo, Row 58 [osl f 0, osl f 1, osl f 2, osl f 3, osl f 4, osl f 5, osl f 6, osl f 7], true⟩ :: d8.map fun i => ⟨f i, Row 3 ((o4 i).map N), true⟩
theorem ordE_wr (bo : Nat) (f : Nat → Nat) : ∀ e ∈ ordE bo f, e.wr = true := by
  intro e he
  simp only [ordE, d8, List.map_cons, List.map_nil, List.mem_cons, List.not_mem_nil, or_false] at he
  rcases he with rfl | rfl | rfl | rfl | rfl | rfl | rfl | rfl | rfl <;> rfl
theorem ordE_mem (bo : Nat) (f : Nat → Nat) (i : Nat) (h : i < 8) : (⟨f i, Row 3 ((o4 i).map N), true⟩ : Ent) ∈ ordE bo f := by
  have : i = 0 ∨ i = 1 ∨ i = 2 ∨ i = 3 ∨ i = 4 ∨ i = 5 ∨ i = 6 ∨ i = 7 := by omega
  rcases this with rfl | rfl | rfl | rfl | rfl | rfl | rfl | rfl <;> simp [ordE, d8]
theorem ordE_has (bo : Nat) (f : Nat → Nat) (i : Nat) (h : i < 8) (M : List Ent) : Has (ordE bo f ++ M) (f i) (Row 3 ((o4 i).map N)) true := Has.of_mem (List.mem_append_left _ (ordE_mem bo f i h))
theorem ordE_has0 (bo : Nat) (f : Nat → Nat) (i : Nat) (h : i < 8) : Has (ordE bo f) (f i) (Row 3 ((o4 i).map N)) true := Has.of_mem (ordE_mem bo f i h)
theorem osl_get (f : Nat → Nat) (i : Nat) (h : i < 8) : [osl f 0, osl f 1, osl f 2, osl f 3, osl f 4, osl f 5, osl f 6, osl f 7][i]? = some (osl f i) := by
  have : i = 0 ∨ i = 1 ∨ i = 2 ∨ i = 3 ∨ i = 4 ∨ i = 5 ∨ i = 6 ∨ i = 7 := by omega
  rcases this with rfl | rfl | rfl | rfl | rfl | rfl | rfl | rfl <;> rfl
theorem N_cells (l : List Nat) : ∀ v ∈ l.map N, v.cells = #[v] := by
  intro v hv
  obtain ⟨x, _, rfl⟩ := List.mem_map.1 hv
  rfl

set_option maxHeartbeats 8000000 in
theorem order_any (w : World) : Calls Tryd.prog 32 ([] : List Value).toArray w fun e w' => ∃ i : Nat × (Nat → Nat), e = .returned (.slice (some ⟨i.1, 0, none⟩) 8 8) ∧ Holds w [] (ordE i.1 i.2) w' := by
  refine enter (n := 10) Tryd.func32 rfl rfl rfl (Holds.start w []) ?_
  repeat (first | refine JL.q (by first | (apply OQ.move; exact rfl) | (apply OQ.assign; exact rfl) | (apply OQ.add32; exact rfl; exact rfl) | (apply OQ.shr32; exact rfl; exact rfl) | (apply OQ.addN; exact rfl; exact rfl; exact (by (try simp only []); omega)) | (apply OQ.lssN; exact rfl; exact rfl) | (apply OQ.conv32_8; exact rfl; exact rfl; exact rfl) | (apply OQ.idxS0; exact rfl; exact rfl; exact rfl; exact rfl; exact (by (try simp only []); omega))) rfl ?_ | refine JC.seq ?_ | refine JC.region ?_ | refine JC.block ?_ | refine JC.skip ?_ | refine JC.exit ?_ | refine JL.nil ?_ | refine JE.next ?_ | refine JE.blk_normal ?_ | refine JE.then_exit ?_ | refine JE.blk_hit ?_ | refine JE.blk_miss rfl ?_ | refine JE.then_ret ?_ | refine JE.blk_ret ?_ | refine JC.label ?_ | refine JL.gon rfl rfl ?_ | refine JL.gskip rfl rfl rfl rfl ?_)
  refine JL.litL (xs := [.const (N 0), .const (N 4), .const (N 8), .const (N 12)]) (vs := (o4 0).map N) Tryd.underlying58 ei3 rfl rfl rfl (allN _) (N_cells _) rfl (by decide) (by decide) rfl fun b0 _ => ?_
  refine JL.litL (xs := [.const (N 1), .const (N 5), .const (N 9), .const (N 13)]) (vs := (o4 1).map N) Tryd.underlying58 ei3 rfl rfl rfl (allN _) (N_cells _) rfl (by decide) (by decide) rfl fun b1 _ => ?_
  refine JL.litL (xs := [.const (N 2), .const (N 6), .const (N 10), .const (N 14)]) (vs := (o4 2).map N) Tryd.underlying58 ei3 rfl rfl rfl (allN _) (N_cells _) rfl (by decide) (by decide) rfl fun b2 _ => ?_
  refine JL.litL (xs := [.const (N 3), .const (N 7), .const (N 11), .const (N 15)]) (vs := (o4 3).map N) Tryd.underlying58 ei3 rfl rfl rfl (allN _) (N_cells _) rfl (by decide) (by decide) rfl fun b3 _ => ?_
  refine JL.litL (xs := [.const (N 0), .const (N 5), .const (N 10), .const (N 15)]) (vs := (o4 4).map N) Tryd.underlying58 ei3 rfl rfl rfl (allN _) (N_cells _) rfl (by decide) (by decide) rfl fun b4 _ => ?_
  refine JL.litL (xs := [.const (N 1), .const (N 6), .const (N 11), .const (N 12)]) (vs := (o4 5).map N) Tryd.underlying58 ei3 rfl rfl rfl (allN _) (N_cells _) rfl (by decide) (by decide) rfl fun b5 _ => ?_
  refine JL.litL (xs := [.const (N 2), .const (N 7), .const (N 8), .const (N 13)]) (vs := (o4 6).map N) Tryd.underlying58 ei3 rfl rfl rfl (allN _) (N_cells _) rfl (by decide) (by decide) rfl fun b6 _ => ?_
  refine JL.litL (xs := [.const (N 3), .const (N 4), .const (N 9), .const (N 14)]) (vs := (o4 7).map N) Tryd.underlying58 ei3 rfl rfl rfl (allN _) (N_cells _) rfl (by decide) (by decide) rfl fun b7 _ => ?_
  let f : Nat → Nat := fun i => match i with | 0 => b0 | 1 => b1 | 2 => b2 | 3 => b3 | 4 => b4 | 5 => b5 | 6 => b6 | _ => b7
  refine JL.litL (xs := [.tmp 1, .tmp 2, .tmp 3, .tmp 4, .tmp 5, .tmp 6, .tmp 7, .tmp 8]) (vs := [osl f 0, osl f 1, osl f 2, osl f 3, osl f 4, osl f 5, osl f 6, osl f 7]) Tryd.underlying56 ei58 rfl rfl rfl rfl (by simp [osl, Value.cells]) rfl (by decide) (by decide) rfl fun b9 _ => ?_
  repeat (first | refine JL.q (by first | (apply OQ.move; exact rfl) | (apply OQ.assign; exact rfl) | (apply OQ.add32; exact rfl; exact rfl) | (apply OQ.shr32; exact rfl; exact rfl) | (apply OQ.addN; exact rfl; exact rfl; exact (by (try simp only []); omega)) | (apply OQ.lssN; exact rfl; exact rfl) | (apply OQ.conv32_8; exact rfl; exact rfl; exact rfl) | (apply OQ.idxS0; exact rfl; exact rfl; exact rfl; exact rfl; exact (by (try simp only []); omega))) rfl ?_ | refine JC.seq ?_ | refine JC.region ?_ | refine JC.block ?_ | refine JC.skip ?_ | refine JC.exit ?_ | refine JL.nil ?_ | refine JE.next ?_ | refine JE.blk_normal ?_ | refine JE.then_exit ?_ | refine JE.blk_hit ?_ | refine JE.blk_miss rfl ?_ | refine JE.then_ret ?_ | refine JE.blk_ret ?_ | refine JC.label ?_ | refine JL.gon rfl rfl ?_ | refine JL.gskip rfl rfl rfl rfl ?_)
  refine JC.ret ?_
  repeat (first | refine JL.q (by first | (apply OQ.move; exact rfl) | (apply OQ.assign; exact rfl) | (apply OQ.add32; exact rfl; exact rfl) | (apply OQ.shr32; exact rfl; exact rfl) | (apply OQ.addN; exact rfl; exact rfl; exact (by (try simp only []); omega)) | (apply OQ.lssN; exact rfl; exact rfl) | (apply OQ.conv32_8; exact rfl; exact rfl; exact rfl) | (apply OQ.idxS0; exact rfl; exact rfl; exact rfl; exact rfl; exact (by (try simp only []); omega))) rfl ?_ | refine JC.seq ?_ | refine JC.region ?_ | refine JC.block ?_ | refine JC.skip ?_ | refine JC.exit ?_ | refine JL.nil ?_ | refine JE.next ?_ | refine JE.blk_normal ?_ | refine JE.then_exit ?_ | refine JE.blk_hit ?_ | refine JE.blk_miss rfl ?_ | refine JE.then_ret ?_ | refine JE.blk_ret ?_ | refine JC.label ?_ | refine JL.gon rfl rfl ?_ | refine JL.gskip rfl rfl rfl rfl ?_)
  exact JE.ret1 rfl (RV.tmp rfl) fun w' hw => ⟨(b9, f), rfl, hw⟩

def needJ : Nat → List (Nat × Nat)
  | 3 => [(1, 61), (2, 62)]
  | 4 => [(3, 63)]
  | 5 => [(4, 64)]
  | 6 => [(5, 65)]
  | 7 => [(0, 60), (6, 66)]
  | 8 => [(7, 67)]
  | 12 => [(10, 70), (11, 71)]
  | 13 => [(12, 72)]
  | 14 => [(13, 73)]
  | 15 => [(14, 74)]
  | 16 => [(9, 69), (15, 75)]
  | 17 => [(16, 76)]
  | 21 => [(19, 79), (20, 80)]
  | 22 => [(21, 81)]
  | 23 => [(22, 82)]
  | 24 => [(23, 83)]
  | 25 => [(18, 78), (24, 84)]
  | 26 => [(25, 85)]
  | 30 => [(28, 88), (29, 89)]
  | 31 => [(30, 90)]
  | 32 => [(31, 91)]
  | 33 => [(32, 92)]
  | 34 => [(27, 87), (33, 93)]
  | 35 => [(34, 94)]
  | 36 => [(8, 68), (17, 77), (26, 86), (35, 95)]
  | 37 => [(36, 96)]
  | 39 => [(38, 14), (37, 97)]
  | _ => []
def inpJ : Nat → List Nat
  | 4 => [42]
  | 6 => [42]
  | 8 => [40]
  | 13 => [42]
  | 15 => [42]
  | 17 => [40]
  | 22 => [42]
  | 24 => [42]
  | 26 => [40]
  | 31 => [42]
  | 33 => [42]
  | 35 => [40]
  | 39 => [38]
  | _ => []
def eatJ : Nat → List Nat
  | 39 => [38]
  | _ => []
def srcJ : Nat → Option Nat
  | 39 => some 38
  | _ => none

set_option maxHeartbeats 16000000 in
set_option maxRecDepth 8000 in
theorem rblock_any (key : List B) (ctr : W) (nonce : List B) (hk : key.length = 32) (hn : nonce.length = 12) (w : World) :
    Calls Tryd.prog 16 [.agg (key.map U8).toArray, U32 ctr, .agg (nonce.map U8).toArray].toArray w fun e w' => ∃ x : Nat × Nat, e = .returned (.slice (some ⟨x.1, 0, none⟩) 64 x.2) ∧ Holds w [] [⟨x.1, Own 5 1 64 x.2 ((ks key ctr nonce).map U8), true⟩] w' := by
  refine enter (n := 143) Tryd.func16 rfl rfl rfl (Holds.start w []) ?_
  repeat (first | refine JL.q (by first | (apply OQ.move; exact rfl) | (apply OQ.assign; exact rfl) | (apply OQ.add32; exact rfl; exact rfl) | (apply OQ.shr32; exact rfl; exact rfl) | (apply OQ.addN; exact rfl; exact rfl; exact (by (try simp only []); omega)) | (apply OQ.lssN; exact rfl; exact rfl) | (apply OQ.conv32_8; exact rfl; exact rfl; exact rfl) | (apply OQ.idxS0; exact rfl; exact rfl; exact rfl; exact rfl; exact (by (try simp only []); omega))) rfl ?_ | refine JC.seq ?_ | refine JC.region ?_ | refine JC.block ?_ | refine JC.skip ?_ | refine JC.exit ?_ | refine JL.nil ?_ | refine JE.next ?_ | refine JE.blk_normal ?_ | refine JE.then_exit ?_ | refine JE.blk_hit ?_ | refine JE.blk_miss rfl ?_ | refine JE.then_ret ?_ | refine JE.blk_ret ?_ | refine JC.label ?_ | refine JL.gon rfl rfl ?_ | refine JL.gskip rfl rfl rfl rfl ?_)
  refine JL.box (r := key.map U8) rfl rfl rfl fun b3 _ => ?_
  refine JL.box (r := nonce.map U8) rfl rfl rfl fun b5 _ => ?_
  repeat (first | refine JL.q (by first | (apply OQ.move; exact rfl) | (apply OQ.assign; exact rfl) | (apply OQ.add32; exact rfl; exact rfl) | (apply OQ.shr32; exact rfl; exact rfl) | (apply OQ.addN; exact rfl; exact rfl; exact (by (try simp only []); omega)) | (apply OQ.lssN; exact rfl; exact rfl) | (apply OQ.conv32_8; exact rfl; exact rfl; exact rfl) | (apply OQ.idxS0; exact rfl; exact rfl; exact rfl; exact rfl; exact (by (try simp only []); omega))) rfl ?_ | refine JC.seq ?_ | refine JC.region ?_ | refine JC.block ?_ | refine JC.skip ?_ | refine JC.exit ?_ | refine JL.nil ?_ | refine JE.next ?_ | refine JE.blk_normal ?_ | refine JE.then_exit ?_ | refine JE.blk_hit ?_ | refine JE.blk_miss rfl ?_ | refine JE.then_ret ?_ | refine JE.blk_ret ?_ | refine JC.label ?_ | refine JL.gon rfl rfl ?_ | refine JL.gskip rfl rfl rfl rfl ?_)
  refine JL.litL (xs := [.const (U32 0x61707865), .const (U32 0x3320646e), .const (U32 0x79622d32), .const (U32 0x6b206574)]) (vs := c4.map U32) Tryd.underlying54 ei24 rfl rfl rfl (all32q _) (by simp [Value.cells]) rfl (by decide) (by decide) rfl fun b7 _ => ?_
  repeat (first | refine JL.q (by first | (apply OQ.move; exact rfl) | (apply OQ.assign; exact rfl) | (apply OQ.add32; exact rfl; exact rfl) | (apply OQ.shr32; exact rfl; exact rfl) | (apply OQ.addN; exact rfl; exact rfl; exact (by (try simp only []); omega)) | (apply OQ.lssN; exact rfl; exact rfl) | (apply OQ.conv32_8; exact rfl; exact rfl; exact rfl) | (apply OQ.idxS0; exact rfl; exact rfl; exact rfl; exact rfl; exact (by (try simp only []); omega))) rfl ?_ | refine JC.seq ?_ | refine JC.region ?_ | refine JC.block ?_ | refine JC.skip ?_ | refine JC.exit ?_ | refine JL.nil ?_ | refine JE.next ?_ | refine JE.blk_normal ?_ | refine JE.then_exit ?_ | refine JE.blk_hit ?_ | refine JE.blk_miss rfl ?_ | refine JE.then_ret ?_ | refine JE.blk_ret ?_ | refine JC.label ?_ | refine JL.gon rfl rfl ?_ | refine JL.gskip rfl rfl rfl rfl ?_)
  refine JC.loop (ι := Nat × Nat × Nat) (fun i => [(1, U32 ctr), (3, Pt b3 0), (5, Pt b5 0), (7, .slice (some ⟨i.2.1, 0, none⟩) (4 + i.1) i.2.2), (8, N (4 * i.1))])
    (fun i => [⟨i.2.1, Own 24 1 (4 + i.1) i.2.2 ((c4 ++ wds key i.1).map U32), true⟩, ⟨b5, Row 26 (nonce.map U8), true⟩, ⟨b3, Row 23 (key.map U8), true⟩])
    (fun i => 8 - i.1) (fun i => i.1 ≤ 8) (0, b7, 4) (by dsimp only; omega) (by repeat (first | exact SubE.nil | refine SubE.cons _ _ _ rfl ?_)) (.keep _ _ _ _ _ _ (row_ownG rfl) (Less.refl _)) ?_
  rintro ⟨j, b7, cap7⟩ hj
  dsimp only at hj ⊢
  repeat (first | refine JL.q (by first | (apply OQ.move; exact rfl) | (apply OQ.assign; exact rfl) | (apply OQ.add32; exact rfl; exact rfl) | (apply OQ.shr32; exact rfl; exact rfl) | (apply OQ.addN; exact rfl; exact rfl; exact (by (try simp only []); omega)) | (apply OQ.lssN; exact rfl; exact rfl) | (apply OQ.conv32_8; exact rfl; exact rfl; exact rfl) | (apply OQ.idxS0; exact rfl; exact rfl; exact rfl; exact rfl; exact (by (try simp only []); omega))) rfl ?_ | refine JC.seq ?_ | refine JC.region ?_ | refine JC.block ?_ | refine JC.skip ?_ | refine JC.exit ?_ | refine JL.nil ?_ | refine JE.next ?_ | refine JE.blk_normal ?_ | refine JE.then_exit ?_ | refine JE.blk_hit ?_ | refine JE.blk_miss rfl ?_ | refine JE.then_ret ?_ | refine JE.blk_ret ?_ | refine JC.label ?_ | refine JL.gon rfl rfl ?_ | refine JL.gskip rfl rfl rfl rfl ?_)
  refine JC.cond rfl (fun h => ?_) (fun h => ?_)
  · have hj' : j < 8 := by
      have : 4 * j < 32 := of_decide_eq_true h
      omega
    clear h hj
    have hw4 := w4_cells key j (by omega)
    have hgt : ∀ k, k < 4 → (w4 key j)[k]? = some (key.getD (4 * j + k) 0) := fun k hk => by
      have : k = 0 ∨ k = 1 ∨ k = 2 ∨ k = 3 := by omega
      rcases this with rfl | rfl | rfl | rfl <;> rfl
    repeat (first | refine JL.q (by first | (apply OQ.slA_lohi; exact Tryd.underlying23; exact s5; exact rfl; exact rfl; exact rfl; exact (show 4 * j < 32 by omega); exact (show 4 * j ≤ 4 * j + 4 by omega); exact (show 4 * j + 4 ≤ 32 by omega)) | (apply OQ.move; exact rfl) | (apply OQ.assign; exact rfl) | (apply OQ.add32; exact rfl; exact rfl) | (apply OQ.shr32; exact rfl; exact rfl) | (apply OQ.addN; exact rfl; exact rfl; exact (by (try simp only []); omega)) | (apply OQ.lssN; exact rfl; exact rfl) | (apply OQ.conv32_8; exact rfl; exact rfl; exact rfl) | (apply OQ.idxS0; exact rfl; exact rfl; exact rfl; exact rfl; exact (by (try simp only []); omega))) rfl ?_ | refine JC.seq ?_ | refine JC.region ?_ | refine JC.block ?_ | refine JC.skip ?_ | refine JC.exit ?_ | refine JL.nil ?_ | refine JE.next ?_ | refine JE.blk_normal ?_ | refine JE.then_exit ?_ | refine JE.blk_hit ?_ | refine JE.blk_miss rfl ?_ | refine JE.then_ret ?_ | refine JE.blk_ret ?_ | refine JC.label ?_ | refine JL.gon rfl rfl ?_ | refine JL.gskip rfl rfl rfl rfl ?_)
    rw [Nat.add_sub_cancel_left]
    repeat (first | refine JL.q (by first | (apply OQ.callx; exact goes_rword; exact rfl; exact (fun w' hw' => rword_any key j b3 (0 + 4 * j) (32 - 4 * j) w' (fun k hk => by obtain ⟨o, ho, hA⟩ := hw'.get (.there (.there .here)); exact cells_of ho (Row.cells hw4 _ hA) k _ (by rw [List.getElem?_map, hgt k hk]; rfl)))) | (apply OQ.move; exact rfl) | (apply OQ.assign; exact rfl) | (apply OQ.add32; exact rfl; exact rfl) | (apply OQ.shr32; exact rfl; exact rfl) | (apply OQ.addN; exact rfl; exact rfl; exact (by (try simp only []); omega)) | (apply OQ.lssN; exact rfl; exact rfl) | (apply OQ.conv32_8; exact rfl; exact rfl; exact rfl) | (apply OQ.idxS0; exact rfl; exact rfl; exact rfl; exact rfl; exact (by (try simp only []); omega))) rfl ?_ | refine JC.seq ?_ | refine JC.region ?_ | refine JC.block ?_ | refine JC.skip ?_ | refine JC.exit ?_ | refine JL.nil ?_ | refine JE.next ?_ | refine JE.blk_normal ?_ | refine JE.then_exit ?_ | refine JE.blk_hit ?_ | refine JE.blk_miss rfl ?_ | refine JE.then_ret ?_ | refine JE.blk_ret ?_ | refine JC.label ?_ | refine JL.gon rfl rfl ?_ | refine JL.gskip rfl rfl rfl rfl ?_)
    refine JL.lit1 Tryd.underlying54 ei24 rfl rfl rfl rfl fun b30 _ => ?_
    refine JL.append (cs := [U32 (wd key j)]) (fun b' cap' => [⟨b30, Row 24 [U32 (wd key j)], true⟩, ⟨b', Own 24 1 (4 + j + 1) cap' ((c4 ++ wds key j).map U32 ++ [U32 (wd key j)]), true⟩, ⟨b5, Row 26 (nonce.map U8), true⟩, ⟨b3, Row 23 (key.map U8), true⟩]) Tryd.underlying54 ei24 rfl rfl (by intro _ _; repeat (first | exact Repl.here | apply Repl.there)) rfl (fun w' hw' => ?_) (by simp [Value.oneCell']) rfl (by decide) (by omega) (by omega) rfl fun b7' cap7' => ?_
    · obtain ⟨o, ho, hA⟩ := hw'.get .here
      exact Reads.block ho (Row.all _ hA)
    repeat (first | refine JL.q (by first | (apply OQ.move; exact rfl) | (apply OQ.assign; exact rfl) | (apply OQ.add32; exact rfl; exact rfl) | (apply OQ.shr32; exact rfl; exact rfl) | (apply OQ.addN; exact rfl; exact rfl; exact (by (try simp only []); omega)) | (apply OQ.lssN; exact rfl; exact rfl) | (apply OQ.conv32_8; exact rfl; exact rfl; exact rfl) | (apply OQ.idxS0; exact rfl; exact rfl; exact rfl; exact rfl; exact (by (try simp only []); omega))) rfl ?_ | refine JC.seq ?_ | refine JC.region ?_ | refine JC.block ?_ | refine JC.skip ?_ | refine JC.exit ?_ | refine JL.nil ?_ | refine JE.next ?_ | refine JE.blk_normal ?_ | refine JE.then_exit ?_ | refine JE.blk_hit ?_ | refine JE.blk_miss rfl ?_ | refine JE.then_ret ?_ | refine JE.blk_ret ?_ | refine JC.label ?_ | refine JL.gon rfl rfl ?_ | refine JL.gskip rfl rfl rfl rfl ?_)
    rw [show 4 * j + 4 = 4 * (j + 1) by omega]
    exact JE.again (ι := Nat × Nat × Nat) (i := (j, b7, cap7)) (j + 1, b7', cap7') (by dsimp only; omega) (by dsimp only; omega) (by repeat (first | exact SubE.nil | refine SubE.cons _ _ _ rfl ?_)) (.drop _ _ _ (.keep _ _ _ _ _ _ (fun o ho => by simpa [wds, List.append_assoc, Nat.add_assoc] using ho) (Less.refl _)))
  · have hj' : ¬ j < 8 := by
      have : ¬ 4 * j < 32 := of_decide_eq_false h
      omega
    obtain rfl : j = 8 := by omega
    clear h hj hj'
    repeat (first | refine JL.q (by first | (apply OQ.move; exact rfl) | (apply OQ.assign; exact rfl) | (apply OQ.add32; exact rfl; exact rfl) | (apply OQ.shr32; exact rfl; exact rfl) | (apply OQ.addN; exact rfl; exact rfl; exact (by (try simp only []); omega)) | (apply OQ.lssN; exact rfl; exact rfl) | (apply OQ.conv32_8; exact rfl; exact rfl; exact rfl) | (apply OQ.idxS0; exact rfl; exact rfl; exact rfl; exact rfl; exact (by (try simp only []); omega))) rfl ?_ | refine JC.seq ?_ | refine JC.region ?_ | refine JC.block ?_ | refine JC.skip ?_ | refine JC.exit ?_ | refine JL.nil ?_ | refine JE.next ?_ | refine JE.blk_normal ?_ | refine JE.then_exit ?_ | refine JE.blk_hit ?_ | refine JE.blk_miss rfl ?_ | refine JE.then_ret ?_ | refine JE.blk_ret ?_ | refine JC.label ?_ | refine JL.gon rfl rfl ?_ | refine JL.gskip rfl rfl rfl rfl ?_)
    refine JL.lit1 Tryd.underlying54 ei24 rfl rfl rfl rfl fun b34 _ => ?_
    refine JL.append (cs := [U32 ctr]) (fun b' cap' => [⟨b34, Row 24 [U32 ctr], true⟩, ⟨b', Own 24 1 (4 + 8 + 1) cap' ((c4 ++ wds key 8).map U32 ++ [U32 ctr]), true⟩, ⟨b5, Row 26 (nonce.map U8), true⟩, ⟨b3, Row 23 (key.map U8), true⟩]) Tryd.underlying54 ei24 rfl rfl (by intro _ _; repeat (first | exact Repl.here | apply Repl.there)) rfl (fun w' hw' => ?_) (by simp [Value.oneCell']) rfl (by decide) (by decide) (by decide) rfl fun b7' cap7' => ?_
    · obtain ⟨o, ho, hA⟩ := hw'.get .here
      exact Reads.block ho (Row.all _ hA)
    repeat (first | refine JL.q (by first | (apply OQ.move; exact rfl) | (apply OQ.assign; exact rfl) | (apply OQ.add32; exact rfl; exact rfl) | (apply OQ.shr32; exact rfl; exact rfl) | (apply OQ.addN; exact rfl; exact rfl; exact (by (try simp only []); omega)) | (apply OQ.lssN; exact rfl; exact rfl) | (apply OQ.conv32_8; exact rfl; exact rfl; exact rfl) | (apply OQ.idxS0; exact rfl; exact rfl; exact rfl; exact rfl; exact (by (try simp only []); omega))) rfl ?_ | refine JC.seq ?_ | refine JC.region ?_ | refine JC.block ?_ | refine JC.skip ?_ | refine JC.exit ?_ | refine JL.nil ?_ | refine JE.next ?_ | refine JE.blk_normal ?_ | refine JE.then_exit ?_ | refine JE.blk_hit ?_ | refine JE.blk_miss rfl ?_ | refine JE.then_ret ?_ | refine JE.blk_ret ?_ | refine JC.label ?_ | refine JL.gon rfl rfl ?_ | refine JL.gskip rfl rfl rfl rfl ?_)
    refine JC.loop (ι := Nat × Nat × Nat) (fun i => [(5, Pt b5 0), (7, .slice (some ⟨i.2.1, 0, none⟩) (13 + i.1) i.2.2), (9, N (4 * i.1))])
      (fun i => [⟨i.2.1, Own 24 1 (13 + i.1) i.2.2 ((c4 ++ wds key 8 ++ [ctr] ++ wds nonce i.1).map U32), true⟩, ⟨b5, Row 26 (nonce.map U8), true⟩])
      (fun i => 3 - i.1) (fun i => i.1 ≤ 3) (0, b7', cap7') (by dsimp only; omega) (by repeat (first | exact SubE.nil | refine SubE.cons _ _ _ rfl ?_)) (.drop _ _ _ (.keep _ _ _ _ _ _ (fun o ho => by simpa [wds] using ho) (.keep _ _ _ _ _ _ (fun _ h => h) (Less.nil _)))) ?_
    rintro ⟨j, b7, cap7⟩ hj
    dsimp only at hj ⊢
    repeat (first | refine JL.q (by first | (apply OQ.move; exact rfl) | (apply OQ.assign; exact rfl) | (apply OQ.add32; exact rfl; exact rfl) | (apply OQ.shr32; exact rfl; exact rfl) | (apply OQ.addN; exact rfl; exact rfl; exact (by (try simp only []); omega)) | (apply OQ.lssN; exact rfl; exact rfl) | (apply OQ.conv32_8; exact rfl; exact rfl; exact rfl) | (apply OQ.idxS0; exact rfl; exact rfl; exact rfl; exact rfl; exact (by (try simp only []); omega))) rfl ?_ | refine JC.seq ?_ | refine JC.region ?_ | refine JC.block ?_ | refine JC.skip ?_ | refine JC.exit ?_ | refine JL.nil ?_ | refine JE.next ?_ | refine JE.blk_normal ?_ | refine JE.then_exit ?_ | refine JE.blk_hit ?_ | refine JE.blk_miss rfl ?_ | refine JE.then_ret ?_ | refine JE.blk_ret ?_ | refine JC.label ?_ | refine JL.gon rfl rfl ?_ | refine JL.gskip rfl rfl rfl rfl ?_)
    refine JC.cond rfl (fun h => ?_) (fun h => ?_)
    · have hj' : j < 3 := by
        have : 4 * j < 12 := of_decide_eq_true h
        omega
      clear h hj
      have hw4 := w4_cells nonce j (by omega)
      have hgt : ∀ k, k < 4 → (w4 nonce j)[k]? = some (nonce.getD (4 * j + k) 0) := fun k hk => by
        have : k = 0 ∨ k = 1 ∨ k = 2 ∨ k = 3 := by omega
        rcases this with rfl | rfl | rfl | rfl <;> rfl
      repeat (first | refine JL.q (by first | (apply OQ.slA_lohi; exact Tryd.underlying26; exact s5; exact rfl; exact rfl; exact rfl; exact (show 4 * j < 12 by omega); exact (show 4 * j ≤ 4 * j + 4 by omega); exact (show 4 * j + 4 ≤ 12 by omega)) | (apply OQ.move; exact rfl) | (apply OQ.assign; exact rfl) | (apply OQ.add32; exact rfl; exact rfl) | (apply OQ.shr32; exact rfl; exact rfl) | (apply OQ.addN; exact rfl; exact rfl; exact (by (try simp only []); omega)) | (apply OQ.lssN; exact rfl; exact rfl) | (apply OQ.conv32_8; exact rfl; exact rfl; exact rfl) | (apply OQ.idxS0; exact rfl; exact rfl; exact rfl; exact rfl; exact (by (try simp only []); omega))) rfl ?_ | refine JC.seq ?_ | refine JC.region ?_ | refine JC.block ?_ | refine JC.skip ?_ | refine JC.exit ?_ | refine JL.nil ?_ | refine JE.next ?_ | refine JE.blk_normal ?_ | refine JE.then_exit ?_ | refine JE.blk_hit ?_ | refine JE.blk_miss rfl ?_ | refine JE.then_ret ?_ | refine JE.blk_ret ?_ | refine JC.label ?_ | refine JL.gon rfl rfl ?_ | refine JL.gskip rfl rfl rfl rfl ?_)
      rw [Nat.add_sub_cancel_left]
      repeat (first | refine JL.q (by first | (apply OQ.callx; exact goes_rword; exact rfl; exact (fun w' hw' => rword_any nonce j b5 (0 + 4 * j) (12 - 4 * j) w' (fun k hk => by obtain ⟨o, ho, hA⟩ := hw'.get (.there .here); exact cells_of ho (Row.cells hw4 _ hA) k _ (by rw [List.getElem?_map, hgt k hk]; rfl)))) | (apply OQ.move; exact rfl) | (apply OQ.assign; exact rfl) | (apply OQ.add32; exact rfl; exact rfl) | (apply OQ.shr32; exact rfl; exact rfl) | (apply OQ.addN; exact rfl; exact rfl; exact (by (try simp only []); omega)) | (apply OQ.lssN; exact rfl; exact rfl) | (apply OQ.conv32_8; exact rfl; exact rfl; exact rfl) | (apply OQ.idxS0; exact rfl; exact rfl; exact rfl; exact rfl; exact (by (try simp only []); omega))) rfl ?_ | refine JC.seq ?_ | refine JC.region ?_ | refine JC.block ?_ | refine JC.skip ?_ | refine JC.exit ?_ | refine JL.nil ?_ | refine JE.next ?_ | refine JE.blk_normal ?_ | refine JE.then_exit ?_ | refine JE.blk_hit ?_ | refine JE.blk_miss rfl ?_ | refine JE.then_ret ?_ | refine JE.blk_ret ?_ | refine JC.label ?_ | refine JL.gon rfl rfl ?_ | refine JL.gskip rfl rfl rfl rfl ?_)
      refine JL.lit1 Tryd.underlying54 ei24 rfl rfl rfl rfl fun b46 _ => ?_
      refine JL.append (cs := [U32 (wd nonce j)]) (fun b' cap' => [⟨b46, Row 24 [U32 (wd nonce j)], true⟩, ⟨b', Own 24 1 (13 + j + 1) cap' ((c4 ++ wds key 8 ++ [ctr] ++ wds nonce j).map U32 ++ [U32 (wd nonce j)]), true⟩, ⟨b5, Row 26 (nonce.map U8), true⟩]) Tryd.underlying54 ei24 rfl rfl (by intro _ _; repeat (first | exact Repl.here | apply Repl.there)) rfl (fun w' hw' => ?_) (by simp [Value.oneCell']) rfl (by decide) (by omega) (by omega) rfl fun b7' cap7' => ?_
      · obtain ⟨o, ho, hA⟩ := hw'.get .here
        exact Reads.block ho (Row.all _ hA)
      repeat (first | refine JL.q (by first | (apply OQ.move; exact rfl) | (apply OQ.assign; exact rfl) | (apply OQ.add32; exact rfl; exact rfl) | (apply OQ.shr32; exact rfl; exact rfl) | (apply OQ.addN; exact rfl; exact rfl; exact (by (try simp only []); omega)) | (apply OQ.lssN; exact rfl; exact rfl) | (apply OQ.conv32_8; exact rfl; exact rfl; exact rfl) | (apply OQ.idxS0; exact rfl; exact rfl; exact rfl; exact rfl; exact (by (try simp only []); omega))) rfl ?_ | refine JC.seq ?_ | refine JC.region ?_ | refine JC.block ?_ | refine JC.skip ?_ | refine JC.exit ?_ | refine JL.nil ?_ | refine JE.next ?_ | refine JE.blk_normal ?_ | refine JE.then_exit ?_ | refine JE.blk_hit ?_ | refine JE.blk_miss rfl ?_ | refine JE.then_ret ?_ | refine JE.blk_ret ?_ | refine JC.label ?_ | refine JL.gon rfl rfl ?_ | refine JL.gskip rfl rfl rfl rfl ?_)
      rw [show 4 * j + 4 = 4 * (j + 1) by omega]
      exact JE.again (ι := Nat × Nat × Nat) (i := (j, b7, cap7)) (j + 1, b7', cap7') (by dsimp only; omega) (by dsimp only; omega) (by repeat (first | exact SubE.nil | refine SubE.cons _ _ _ rfl ?_)) (.drop _ _ _ (.keep _ _ _ _ _ _ (fun o ho => by rw [show wds nonce (j + 1) = wds nonce j ++ [wd nonce j] from rfl]; simpa [List.append_assoc, Nat.add_assoc] using ho) (Less.refl _)))
    · have hj' : ¬ j < 3 := by
        have : ¬ 4 * j < 12 := of_decide_eq_false h
        omega
      obtain rfl : j = 3 := by omega
      clear h hj hj'
      rw [show c4 ++ wds key 8 ++ [ctr] ++ wds nonce 3 = sbegin key ctr nonce from rfl]
      have hks : ks key ctr nonce = block (sbegin key ctr nonce) := rfl
      have hs := sbegin_length key ctr nonce
      generalize sbegin key ctr nonce = s at hks hs ⊢
      have hsl : (s.map U32).length = 16 := by simpa using hs
      repeat (first | refine JL.q (by first | (apply OQ.move; exact rfl) | (apply OQ.assign; exact rfl) | (apply OQ.add32; exact rfl; exact rfl) | (apply OQ.shr32; exact rfl; exact rfl) | (apply OQ.addN; exact rfl; exact rfl; exact (by (try simp only []); omega)) | (apply OQ.lssN; exact rfl; exact rfl) | (apply OQ.conv32_8; exact rfl; exact rfl; exact rfl) | (apply OQ.idxS0; exact rfl; exact rfl; exact rfl; exact rfl; exact (by (try simp only []); omega))) rfl ?_ | refine JC.seq ?_ | refine JC.region ?_ | refine JC.block ?_ | refine JC.skip ?_ | refine JC.exit ?_ | refine JL.nil ?_ | refine JE.next ?_ | refine JE.blk_normal ?_ | refine JE.then_exit ?_ | refine JE.blk_hit ?_ | refine JE.blk_miss rfl ?_ | refine JE.then_ret ?_ | refine JE.blk_ret ?_ | refine JC.label ?_ | refine JL.gon rfl rfl ?_ | refine JL.gskip rfl rfl rfl rfl ?_)
      refine JL.litZ Tryd.underlying54 ei24 rfl fun b48 _ => ?_
      repeat (first | refine JL.q (by first | (apply OQ.move; exact rfl) | (apply OQ.assign; exact rfl) | (apply OQ.add32; exact rfl; exact rfl) | (apply OQ.shr32; exact rfl; exact rfl) | (apply OQ.addN; exact rfl; exact rfl; exact (by (try simp only []); omega)) | (apply OQ.lssN; exact rfl; exact rfl) | (apply OQ.conv32_8; exact rfl; exact rfl; exact rfl) | (apply OQ.idxS0; exact rfl; exact rfl; exact rfl; exact rfl; exact (by (try simp only []); omega))) rfl ?_ | refine JC.seq ?_ | refine JC.region ?_ | refine JC.block ?_ | refine JC.skip ?_ | refine JC.exit ?_ | refine JL.nil ?_ | refine JE.next ?_ | refine JE.blk_normal ?_ | refine JE.then_exit ?_ | refine JE.blk_hit ?_ | refine JE.blk_miss rfl ?_ | refine JE.then_ret ?_ | refine JE.blk_ret ?_ | refine JC.label ?_ | refine JL.gon rfl rfl ?_ | refine JL.gskip rfl rfl rfl rfl ?_)
      refine JL.append (cs := s.map U32) (fun b' cap' => [⟨b', Own 24 1 (0 + 16) cap' ([] ++ s.map U32), true⟩, ⟨b7, Own 24 1 16 cap7 (s.map U32), true⟩, ⟨b5, Row 26 (nonce.map U8), true⟩]) Tryd.underlying54 ei24 rfl rfl (by intro _ _; repeat (first | exact Repl.here | apply Repl.there)) hsl (fun w' hw' => ?_) (fun v hv => List.all_eq_true.1 (all32q s) v hv) rfl (by decide) (by decide) (by decide) rfl fun b10 cap10 => ?_
      · obtain ⟨o, ho, hA⟩ := hw'.get (.there .here)
        exact Reads.block ho (Own.cells _ hA)
      rw [List.nil_append, Nat.zero_add]
      repeat (first | refine JL.q (by first | (apply OQ.move; exact rfl) | (apply OQ.assign; exact rfl) | (apply OQ.add32; exact rfl; exact rfl) | (apply OQ.shr32; exact rfl; exact rfl) | (apply OQ.addN; exact rfl; exact rfl; exact (by (try simp only []); omega)) | (apply OQ.lssN; exact rfl; exact rfl) | (apply OQ.conv32_8; exact rfl; exact rfl; exact rfl) | (apply OQ.idxS0; exact rfl; exact rfl; exact rfl; exact rfl; exact (by (try simp only []); omega))) rfl ?_ | refine JC.seq ?_ | refine JC.region ?_ | refine JC.block ?_ | refine JC.skip ?_ | refine JC.exit ?_ | refine JL.nil ?_ | refine JE.next ?_ | refine JE.blk_normal ?_ | refine JE.then_exit ?_ | refine JE.blk_hit ?_ | refine JE.blk_miss rfl ?_ | refine JE.then_ret ?_ | refine JE.blk_ret ?_ | refine JC.label ?_ | refine JL.gon rfl rfl ?_ | refine JL.gskip rfl rfl rfl rfl ?_)
      refine JL.callg (ι := Nat × (Nat → Nat)) (fun i => .slice (some ⟨i.1, 0, none⟩) 8 8) (fun i => ordE i.1 i.2) goes_order rfl rfl (fun i => ordE_wr _ _) (fun w' _ => order_any w') ?_
      rintro ⟨bo, f⟩
      dsimp only
      refine JL.perm List.perm_append_comm ?_
      repeat (first | refine JL.q (by first | (apply OQ.move; exact rfl) | (apply OQ.assign; exact rfl) | (apply OQ.add32; exact rfl; exact rfl) | (apply OQ.shr32; exact rfl; exact rfl) | (apply OQ.addN; exact rfl; exact rfl; exact (by (try simp only []); omega)) | (apply OQ.lssN; exact rfl; exact rfl) | (apply OQ.conv32_8; exact rfl; exact rfl; exact rfl) | (apply OQ.idxS0; exact rfl; exact rfl; exact rfl; exact rfl; exact (by (try simp only []); omega))) rfl ?_ | refine JC.seq ?_ | refine JC.region ?_ | refine JC.block ?_ | refine JC.skip ?_ | refine JC.exit ?_ | refine JL.nil ?_ | refine JE.next ?_ | refine JE.blk_normal ?_ | refine JE.then_exit ?_ | refine JE.blk_hit ?_ | refine JE.blk_miss rfl ?_ | refine JE.then_ret ?_ | refine JE.blk_ret ?_ | refine JC.label ?_ | refine JL.gon rfl rfl ?_ | refine JL.gskip rfl rfl rfl rfl ?_)
      refine JC.loop (fun r : Nat => [(7, .slice (some ⟨b7, 0, none⟩) 16 cap7), (10, .slice (some ⟨b10, 0, none⟩) 16 cap10), (11, .slice (some ⟨bo, 0, none⟩) 8 8), (12, N r)])
        (fun r => ⟨b10, Own 24 1 16 cap10 ((st s (8 * r)).map U32), true⟩ :: ⟨b7, Own 24 1 16 cap7 (s.map U32), true⟩ :: ordE bo f)
        (fun r => 10 - r) (fun r => r ≤ 10) 0 (by omega) (by repeat (first | exact SubE.nil | refine SubE.cons _ _ _ rfl ?_)) (.keep _ _ _ _ _ _ (fun _ h => h) (.keep _ _ _ _ _ _ (fun _ h => h) (.drop _ _ _ (Less.refl _)))) ?_
      intro r hr
      repeat (first | refine JL.q (by first | (apply OQ.move; exact rfl) | (apply OQ.assign; exact rfl) | (apply OQ.add32; exact rfl; exact rfl) | (apply OQ.shr32; exact rfl; exact rfl) | (apply OQ.addN; exact rfl; exact rfl; exact (by (try simp only []); omega)) | (apply OQ.lssN; exact rfl; exact rfl) | (apply OQ.conv32_8; exact rfl; exact rfl; exact rfl) | (apply OQ.idxS0; exact rfl; exact rfl; exact rfl; exact rfl; exact (by (try simp only []); omega))) rfl ?_ | refine JC.seq ?_ | refine JC.region ?_ | refine JC.block ?_ | refine JC.skip ?_ | refine JC.exit ?_ | refine JL.nil ?_ | refine JE.next ?_ | refine JE.blk_normal ?_ | refine JE.then_exit ?_ | refine JE.blk_hit ?_ | refine JE.blk_miss rfl ?_ | refine JE.then_ret ?_ | refine JE.blk_ret ?_ | refine JC.label ?_ | refine JL.gon rfl rfl ?_ | refine JL.gskip rfl rfl rfl rfl ?_)
      refine JC.cond rfl (fun h => ?_) (fun h => ?_)
      · have hr' : r < 10 := of_decide_eq_true h
        clear h hr
        repeat (first | refine JL.q (by first | (apply OQ.move; exact rfl) | (apply OQ.assign; exact rfl) | (apply OQ.add32; exact rfl; exact rfl) | (apply OQ.shr32; exact rfl; exact rfl) | (apply OQ.addN; exact rfl; exact rfl; exact (by (try simp only []); omega)) | (apply OQ.lssN; exact rfl; exact rfl) | (apply OQ.conv32_8; exact rfl; exact rfl; exact rfl) | (apply OQ.idxS0; exact rfl; exact rfl; exact rfl; exact rfl; exact (by (try simp only []); omega))) rfl ?_ | refine JC.seq ?_ | refine JC.region ?_ | refine JC.block ?_ | refine JC.skip ?_ | refine JC.exit ?_ | refine JL.nil ?_ | refine JE.next ?_ | refine JE.blk_normal ?_ | refine JE.then_exit ?_ | refine JE.blk_hit ?_ | refine JE.blk_miss rfl ?_ | refine JE.then_ret ?_ | refine JE.blk_ret ?_ | refine JC.label ?_ | refine JL.gon rfl rfl ?_ | refine JL.gskip rfl rfl rfl rfl ?_)
        refine JC.loop (fun q : Nat => [(7, .slice (some ⟨b7, 0, none⟩) 16 cap7), (10, .slice (some ⟨b10, 0, none⟩) 16 cap10), (11, .slice (some ⟨bo, 0, none⟩) 8 8), (12, N r), (13, N q)])
          (fun q => ⟨b10, Own 24 1 16 cap10 ((st s (8 * r + q)).map U32), true⟩ :: ⟨b7, Own 24 1 16 cap7 (s.map U32), true⟩ :: ordE bo f)
          (fun q => 8 - q) (fun q => q ≤ 8) 0 (by omega) (by repeat (first | exact SubE.nil | refine SubE.cons _ _ _ rfl ?_)) (Less.refl _) ?_
        intro q hq
        repeat (first | refine JL.q (by first | (apply OQ.move; exact rfl) | (apply OQ.assign; exact rfl) | (apply OQ.add32; exact rfl; exact rfl) | (apply OQ.shr32; exact rfl; exact rfl) | (apply OQ.addN; exact rfl; exact rfl; exact (by (try simp only []); omega)) | (apply OQ.lssN; exact rfl; exact rfl) | (apply OQ.conv32_8; exact rfl; exact rfl; exact rfl) | (apply OQ.idxS0; exact rfl; exact rfl; exact rfl; exact rfl; exact (by (try simp only []); omega))) rfl ?_ | refine JC.seq ?_ | refine JC.region ?_ | refine JC.block ?_ | refine JC.skip ?_ | refine JC.exit ?_ | refine JL.nil ?_ | refine JE.next ?_ | refine JE.blk_normal ?_ | refine JE.then_exit ?_ | refine JE.blk_hit ?_ | refine JE.blk_miss rfl ?_ | refine JE.then_ret ?_ | refine JE.blk_ret ?_ | refine JC.label ?_ | refine JL.gon rfl rfl ?_ | refine JL.gskip rfl rfl rfl rfl ?_)
        refine JC.cond rfl (fun h => ?_) (fun h => ?_)
        · have hq' : q < 8 := of_decide_eq_true h
          clear h hq
          have hv16 : (st s (8 * r + q)).length = 16 := by rw [st_length, hs]
          have hnext : st s (8 * r + (q + 1)) = put4 (st s (8 * r + q)) q (q4 (st s (8 * r + q)) q) 4 := by
            rw [← Nat.add_assoc, st, qs, show (8 * r + q) % 8 = q by omega]
          generalize st s (8 * r + q) = v at hv16 hnext
          have hlt := fun k hk => oi_lt q hq' k hk
          have hget : ∀ k, k < 4 → (v.map U32)[oi q k]? = some (U32 (v.getD (oi q k) 0)) := fun k hk => w_get (by rw [hv16]; exact hlt k hk)
          repeat (first | refine JL.q (by first | (apply OQ.move; exact rfl) | (apply OQ.assign; exact rfl) | (apply OQ.add32; exact rfl; exact rfl) | (apply OQ.shr32; exact rfl; exact rfl) | (apply OQ.addN; exact rfl; exact rfl; exact (by (try simp only []); omega)) | (apply OQ.lssN; exact rfl; exact rfl) | (apply OQ.conv32_8; exact rfl; exact rfl; exact rfl) | (apply OQ.idxS0; exact rfl; exact rfl; exact rfl; exact rfl; exact (by (try simp only []); omega))) rfl ?_ | refine JC.seq ?_ | refine JC.region ?_ | refine JC.block ?_ | refine JC.skip ?_ | refine JC.exit ?_ | refine JL.nil ?_ | refine JE.next ?_ | refine JE.blk_normal ?_ | refine JE.then_exit ?_ | refine JE.blk_hit ?_ | refine JE.blk_miss rfl ?_ | refine JE.then_ret ?_ | refine JE.blk_ret ?_ | refine JC.label ?_ | refine JL.gon rfl rfl ?_ | refine JL.gskip rfl rfl rfl rfl ?_)
          let vs : Nat → X → Value := fun i x => if i < 36 then (match i % 9 with
            | 0 => .slice (some ⟨b10, 0, none⟩) 16 cap10
            | 1 => .slice (some ⟨bo, 0, none⟩) 8 8
            | 2 => N q
            | 3 => Pt bo q
            | 4 => osl f q
            | 5 => Pt (f q) (i / 9)
            | 6 => N (oi q (i / 9))
            | 7 => Pt b10 (oi q (i / 9))
            | _ => U32 (v.getD (oi q (i / 9)) 0)) else match i with
            | 38 => Pt x.1 0
            | 36 => .agg (([v.getD (oi q 0) 0, v.getD (oi q 1) 0, v.getD (oi q 2) 0, v.getD (oi q 3) 0] : List W).map U32).toArray
            | _ => .agg ((q4 v q).map U32).toArray
          let Ms : Nat → X → List Ent := fun i x => match i with
            | 38 => [⟨x.1, Row 27 ((List.replicate 4 (0 : W)).map U32), true⟩]
            | 39 => [⟨x.1, Row 27 ((q4 v q).map U32), true⟩]
            | 40 => [⟨b10, Own 24 1 16 cap10 (v.map U32), true⟩]
            | 41 => [⟨b7, Own 24 1 16 cap7 (s.map U32), true⟩]
            | 42 => ordE bo f
            | _ => []
          refine JC.grow (g := ⟨[(7, .slice (some ⟨b7, 0, none⟩) 16 cap7), (10, .slice (some ⟨b10, 0, none⟩) 16 cap10), (11, .slice (some ⟨bo, 0, none⟩) 8 8), (12, N r), (13, N q)], 43, vs, Ms, needJ, inpJ, eatJ, srcJ⟩) [(38, 14)] [39, 40, 41, 42] mixQ (by repeat (first | exact SubE.nil | refine SubE.cons _ _ _ rfl ?_)) (Less.refl _) (by kernel_rfl) (by kernel_rfl) (by kernel_rfl) ?_ ?_
          · refine ⟨?_, ?_, ?_, ?_, ?_, ?_, ?_, ?_, ?_, ?_, ?_, ?_, ?_, ?_, ?_, ?_, ?_, ?_, ?_, ?_, ?_, ?_, ?_, ?_, ?_, ?_, ?_, ?_, ?_, ?_, ?_, ?_, ?_, ?_, ?_, ?_, ?_, ?_, ?_, ?_, trivial⟩
            iterate 36 (focus (intro x EF MF Q kk; (try refine JL.gon rfl rfl ?_); exact JL.q (by first | (apply OQ.idxS0; exact Tryd.underlying56; exact is58; exact rfl; exact rfl; exact hq') | (apply OQ.load; exact ic58; exact rfl; exact .here; exact (Row.cell (osl_get f q hq'))) | (apply OQ.idxS0; exact Tryd.underlying58; exact i1s; exact rfl; exact rfl; exact (by decide)) | (apply OQ.load; exact i1c; exact rfl; exact (ordE_has bo f q hq' _); exact (Row.cell (o4_get q _ (by decide)))) | (apply OQ.idxS0; exact Tryd.underlying54; exact q1s; exact rfl; exact rfl; exact (hlt _ (by decide))) | (apply OQ.load; exact q1c; exact rfl; exact .here; exact (Own.cell (hget _ (by decide)))) | (apply OQ.move; exact rfl) | (apply OQ.assign; exact rfl) | (apply OQ.add32; exact rfl; exact rfl) | (apply OQ.shr32; exact rfl; exact rfl) | (apply OQ.addN; exact rfl; exact rfl; exact (by (try simp only []); omega)) | (apply OQ.lssN; exact rfl; exact rfl) | (apply OQ.conv32_8; exact rfl; exact rfl; exact rfl) | (apply OQ.idxS0; exact rfl; exact rfl; exact rfl; exact rfl; exact (by (try simp only []); omega))) rfl (JL.nil (kk default nofun))))
            · intro x EF MF Q kk
              exact JL.q (OQ.pure (v := .agg (([v.getD (oi q 0) 0, v.getD (oi q 1) 0, v.getD (oi q 2) 0, v.getD (oi q 3) 0] : List W).map U32).toArray) rfl rfl (by kernel_rfl)) rfl (JL.nil (kk (0, 0) nofun))
            · intro x EF MF Q kk
              exact JL.q (OQ.callx goes_rquarter rfl fun w' _ => rquarter_any _ _ _ _ w') rfl (JL.nil (kk (0, 0) nofun))
            · intro x EF MF Q kk
              exact JL.alloc q4z rfl fun b _ => JL.nil (kk (b, 0) nofun)
            · intro x EF MF Q kk
              exact JL.store_all q4s rfl rfl rfl (all32q _) .here rfl (JL.nil (kk (x 38) (fun k h => by cases h; rfl)))
          · intro x hx
            have h39 := hx 39 38 (by decide) rfl
            show JE _ _ _ _ _ [(14, Pt (x 38).1 0), (7, .slice (some ⟨b7, 0, none⟩) 16 cap7), (10, .slice (some ⟨b10, 0, none⟩) 16 cap10), (11, .slice (some ⟨bo, 0, none⟩) 8 8), (12, N r), (13, N q)] (⟨(x 39).1, Row 27 ((q4 v q).map U32), true⟩ :: ⟨b10, Own 24 1 16 cap10 (v.map U32), true⟩ :: ⟨b7, Own 24 1 16 cap7 (s.map U32), true⟩ :: ordE bo f)
            rw [h39]
            generalize (x 38).1 = b14
            clear hx h39 x vs Ms
            repeat (first | refine JL.q (by first | (apply OQ.move; exact rfl) | (apply OQ.assign; exact rfl) | (apply OQ.add32; exact rfl; exact rfl) | (apply OQ.shr32; exact rfl; exact rfl) | (apply OQ.addN; exact rfl; exact rfl; exact (by (try simp only []); omega)) | (apply OQ.lssN; exact rfl; exact rfl) | (apply OQ.conv32_8; exact rfl; exact rfl; exact rfl) | (apply OQ.idxS0; exact rfl; exact rfl; exact rfl; exact rfl; exact (by (try simp only []); omega))) rfl ?_ | refine JC.seq ?_ | refine JC.region ?_ | refine JC.block ?_ | refine JC.skip ?_ | refine JC.exit ?_ | refine JL.nil ?_ | refine JE.next ?_ | refine JE.blk_normal ?_ | refine JE.then_exit ?_ | refine JE.blk_hit ?_ | refine JE.blk_miss rfl ?_ | refine JE.then_ret ?_ | refine JE.blk_ret ?_ | refine JC.label ?_ | refine JL.gon rfl rfl ?_ | refine JL.gskip rfl rfl rfl rfl ?_)
            refine JC.loop (fun k : Nat => [(7, .slice (some ⟨b7, 0, none⟩) 16 cap7), (10, .slice (some ⟨b10, 0, none⟩) 16 cap10), (11, .slice (some ⟨bo, 0, none⟩) 8 8), (12, N r), (13, N q), (14, Pt b14 0), (15, N k)])
              (fun k => ⟨b14, Row 27 ((q4 v q).map U32), true⟩ :: ⟨b10, Own 24 1 16 cap10 ((put4 v q (q4 v q) k).map U32), true⟩ :: ⟨b7, Own 24 1 16 cap7 (s.map U32), true⟩ :: ordE bo f)
              (fun k => 4 - k) (fun k => k ≤ 4) 0 (by omega) (by repeat (first | exact SubE.nil | refine SubE.cons _ _ _ rfl ?_)) (Less.refl _) ?_
            intro k hk
            repeat (first | refine JL.q (by first | (apply OQ.move; exact rfl) | (apply OQ.assign; exact rfl) | (apply OQ.add32; exact rfl; exact rfl) | (apply OQ.shr32; exact rfl; exact rfl) | (apply OQ.addN; exact rfl; exact rfl; exact (by (try simp only []); omega)) | (apply OQ.lssN; exact rfl; exact rfl) | (apply OQ.conv32_8; exact rfl; exact rfl; exact rfl) | (apply OQ.idxS0; exact rfl; exact rfl; exact rfl; exact rfl; exact (by (try simp only []); omega))) rfl ?_ | refine JC.seq ?_ | refine JC.region ?_ | refine JC.block ?_ | refine JC.skip ?_ | refine JC.exit ?_ | refine JL.nil ?_ | refine JE.next ?_ | refine JE.blk_normal ?_ | refine JE.then_exit ?_ | refine JE.blk_hit ?_ | refine JE.blk_miss rfl ?_ | refine JE.then_ret ?_ | refine JE.blk_ret ?_ | refine JC.label ?_ | refine JL.gon rfl rfl ?_ | refine JL.gskip rfl rfl rfl rfl ?_)
            refine JC.cond rfl (fun h => ?_) (fun h => ?_)
            · have hk' : k < 4 := of_decide_eq_true h
              clear h hk
              repeat (first | refine JL.q (by first | (apply OQ.move; exact rfl) | (apply OQ.assign; exact rfl) | (apply OQ.add32; exact rfl; exact rfl) | (apply OQ.shr32; exact rfl; exact rfl) | (apply OQ.addN; exact rfl; exact rfl; exact (by (try simp only []); omega)) | (apply OQ.lssN; exact rfl; exact rfl) | (apply OQ.conv32_8; exact rfl; exact rfl; exact rfl) | (apply OQ.idxS0; exact rfl; exact rfl; exact rfl; exact rfl; exact (by (try simp only []); omega))) rfl ?_ | refine JC.seq ?_ | refine JC.region ?_ | refine JC.block ?_ | refine JC.skip ?_ | refine JC.exit ?_ | refine JL.nil ?_ | refine JE.next ?_ | refine JE.blk_normal ?_ | refine JE.then_exit ?_ | refine JE.blk_hit ?_ | refine JE.blk_miss rfl ?_ | refine JE.then_ret ?_ | refine JE.blk_ret ?_ | refine JC.label ?_ | refine JL.gon rfl rfl ?_ | refine JL.gskip rfl rfl rfl rfl ?_)
              refine JC.tail 12 mixQ (by kernel_rfl) ?_
              simp only [List.take_succ_cons, List.take_zero, List.drop_succ_cons, List.drop_zero]
              have hput : ((put4 v q (q4 v q) k).map U32).length = 16 := by rw [List.length_map, put4_length, hv16]
              have hq4 : ((q4 v q).map U32)[k]? = some (U32 ((q4 v q).getD k 0)) := w_get (by rw [q4_length]; exact hk')
              repeat (first | refine JL.q (by first | (apply OQ.idxS0; exact Tryd.underlying56; exact is58; exact rfl; exact rfl; exact hq') | (apply OQ.load; exact ic58; exact rfl; exact (.there (.there (.there .here))); exact (Row.cell (osl_get f q hq'))) | (apply OQ.idxS0 (len := 4); exact Tryd.underlying58; exact i1s; exact rfl; exact rfl; exact hk') | (apply OQ.load; exact i1c; exact rfl; exact (.there (.there (.there (ordE_has0 bo f q hq')))); exact (Row.cell (o4_get q k hk'))) | (apply OQ.idxA0; exact Tryd.underlying27; exact q1s; exact rfl; exact rfl; exact hk') | (apply OQ.load; exact q1c; exact rfl; exact .here; exact (Row.cell hq4)) | (apply OQ.idxS0; exact Tryd.underlying54; exact q1s; exact rfl; exact rfl; exact (hlt k hk')) | (apply OQ.move; exact rfl) | (apply OQ.assign; exact rfl) | (apply OQ.add32; exact rfl; exact rfl) | (apply OQ.shr32; exact rfl; exact rfl) | (apply OQ.addN; exact rfl; exact rfl; exact (by (try simp only []); omega)) | (apply OQ.lssN; exact rfl; exact rfl) | (apply OQ.conv32_8; exact rfl; exact rfl; exact rfl) | (apply OQ.idxS0; exact rfl; exact rfl; exact rfl; exact rfl; exact (by (try simp only []); omega))) rfl ?_ | refine JQ.q (by first | (apply OQ.idxS0; exact Tryd.underlying56; exact is58; exact rfl; exact rfl; exact hq') | (apply OQ.load; exact ic58; exact rfl; exact (.there (.there (.there .here))); exact (Row.cell (osl_get f q hq'))) | (apply OQ.idxS0 (len := 4); exact Tryd.underlying58; exact i1s; exact rfl; exact rfl; exact hk') | (apply OQ.load; exact i1c; exact rfl; exact (.there (.there (.there (ordE_has0 bo f q hq')))); exact (Row.cell (o4_get q k hk'))) | (apply OQ.idxA0; exact Tryd.underlying27; exact q1s; exact rfl; exact rfl; exact hk') | (apply OQ.load; exact q1c; exact rfl; exact .here; exact (Row.cell hq4)) | (apply OQ.idxS0; exact Tryd.underlying54; exact q1s; exact rfl; exact rfl; exact (hlt k hk')) | (apply OQ.move; exact rfl) | (apply OQ.assign; exact rfl) | (apply OQ.add32; exact rfl; exact rfl) | (apply OQ.shr32; exact rfl; exact rfl) | (apply OQ.addN; exact rfl; exact rfl; exact (by (try simp only []); omega)) | (apply OQ.lssN; exact rfl; exact rfl) | (apply OQ.conv32_8; exact rfl; exact rfl; exact rfl) | (apply OQ.idxS0; exact rfl; exact rfl; exact rfl; exact rfl; exact (by (try simp only []); omega))) rfl ?_ | refine JC.seq ?_ | refine JC.region ?_ | refine JC.block ?_ | refine JC.skip ?_ | refine JC.exit ?_ | refine JL.nil ?_ | refine JQ.nil ?_ | refine JQ.nil_tail ?_ | refine JE.next ?_ | refine JE.blk_normal ?_ | refine JE.then_exit ?_ | refine JE.blk_hit ?_ | refine JE.blk_miss rfl ?_ | refine JE.then_ret ?_ | refine JE.blk_ret ?_ | refine JC.label ?_ | refine JL.gon rfl rfl ?_ | refine JQ.gon rfl rfl ?_ | refine JL.gskip rfl rfl rfl rfl ?_ | refine JQ.gskip rfl rfl rfl rfl ?_)
              refine JL.store_own (xs' := (put4 v q (q4 v q) (k + 1)).map U32) q1s rfl rfl rfl rfl (.there .here) (by rw [hput]; exact hlt k hk') (by rw [put4, List.map_set]) ?_
              repeat (first | refine JL.q (by first | (apply OQ.move; exact rfl) | (apply OQ.assign; exact rfl) | (apply OQ.add32; exact rfl; exact rfl) | (apply OQ.shr32; exact rfl; exact rfl) | (apply OQ.addN; exact rfl; exact rfl; exact (by (try simp only []); omega)) | (apply OQ.lssN; exact rfl; exact rfl) | (apply OQ.conv32_8; exact rfl; exact rfl; exact rfl) | (apply OQ.idxS0; exact rfl; exact rfl; exact rfl; exact rfl; exact (by (try simp only []); omega))) rfl ?_ | refine JQ.q (by first | (apply OQ.move; exact rfl) | (apply OQ.assign; exact rfl) | (apply OQ.add32; exact rfl; exact rfl) | (apply OQ.shr32; exact rfl; exact rfl) | (apply OQ.addN; exact rfl; exact rfl; exact (by (try simp only []); omega)) | (apply OQ.lssN; exact rfl; exact rfl) | (apply OQ.conv32_8; exact rfl; exact rfl; exact rfl) | (apply OQ.idxS0; exact rfl; exact rfl; exact rfl; exact rfl; exact (by (try simp only []); omega))) rfl ?_ | refine JC.seq ?_ | refine JC.region ?_ | refine JC.block ?_ | refine JC.skip ?_ | refine JC.exit ?_ | refine JL.nil ?_ | refine JQ.nil ?_ | refine JQ.nil_tail ?_ | refine JE.next ?_ | refine JE.blk_normal ?_ | refine JE.then_exit ?_ | refine JE.blk_hit ?_ | refine JE.blk_miss rfl ?_ | refine JE.then_ret ?_ | refine JE.blk_ret ?_ | refine JC.label ?_ | refine JL.gon rfl rfl ?_ | refine JQ.gon rfl rfl ?_ | refine JL.gskip rfl rfl rfl rfl ?_ | refine JQ.gskip rfl rfl rfl rfl ?_)
              exact JE.again (i := k) (k + 1) (by omega) (by omega) (by repeat (first | exact SubE.nil | refine SubE.cons _ _ _ rfl ?_)) (Less.refl _)
            · have hk' : ¬ k < 4 := of_decide_eq_false h
              obtain rfl : k = 4 := by omega
              clear h hk hk'
              rw [← hnext]
              repeat (first | refine JL.q (by first | (apply OQ.move; exact rfl) | (apply OQ.assign; exact rfl) | (apply OQ.add32; exact rfl; exact rfl) | (apply OQ.shr32; exact rfl; exact rfl) | (apply OQ.addN; exact rfl; exact rfl; exact (by (try simp only []); omega)) | (apply OQ.lssN; exact rfl; exact rfl) | (apply OQ.conv32_8; exact rfl; exact rfl; exact rfl) | (apply OQ.idxS0; exact rfl; exact rfl; exact rfl; exact rfl; exact (by (try simp only []); omega))) rfl ?_ | refine JQ.q (by first | (apply OQ.move; exact rfl) | (apply OQ.assign; exact rfl) | (apply OQ.add32; exact rfl; exact rfl) | (apply OQ.shr32; exact rfl; exact rfl) | (apply OQ.addN; exact rfl; exact rfl; exact (by (try simp only []); omega)) | (apply OQ.lssN; exact rfl; exact rfl) | (apply OQ.conv32_8; exact rfl; exact rfl; exact rfl) | (apply OQ.idxS0; exact rfl; exact rfl; exact rfl; exact rfl; exact (by (try simp only []); omega))) rfl ?_ | refine JC.seq ?_ | refine JC.region ?_ | refine JC.block ?_ | refine JC.skip ?_ | refine JC.exit ?_ | refine JL.nil ?_ | refine JQ.nil ?_ | refine JQ.nil_tail ?_ | refine JE.next ?_ | refine JE.blk_normal ?_ | refine JE.then_exit ?_ | refine JE.blk_hit ?_ | refine JE.blk_miss rfl ?_ | refine JE.then_ret ?_ | refine JE.blk_ret ?_ | refine JC.label ?_ | refine JL.gon rfl rfl ?_ | refine JQ.gon rfl rfl ?_ | refine JL.gskip rfl rfl rfl rfl ?_ | refine JQ.gskip rfl rfl rfl rfl ?_)
              exact JE.again (i := q) (q + 1) (by omega) (by omega) (by repeat (first | exact SubE.nil | refine SubE.cons _ _ _ rfl ?_)) (.drop _ _ _ (Less.refl _))
        · have hq' : ¬ q < 8 := of_decide_eq_false h
          obtain rfl : q = 8 := by omega
          clear h hq hq'
          repeat (first | refine JL.q (by first | (apply OQ.move; exact rfl) | (apply OQ.assign; exact rfl) | (apply OQ.add32; exact rfl; exact rfl) | (apply OQ.shr32; exact rfl; exact rfl) | (apply OQ.addN; exact rfl; exact rfl; exact (by (try simp only []); omega)) | (apply OQ.lssN; exact rfl; exact rfl) | (apply OQ.conv32_8; exact rfl; exact rfl; exact rfl) | (apply OQ.idxS0; exact rfl; exact rfl; exact rfl; exact rfl; exact (by (try simp only []); omega))) rfl ?_ | refine JQ.q (by first | (apply OQ.move; exact rfl) | (apply OQ.assign; exact rfl) | (apply OQ.add32; exact rfl; exact rfl) | (apply OQ.shr32; exact rfl; exact rfl) | (apply OQ.addN; exact rfl; exact rfl; exact (by (try simp only []); omega)) | (apply OQ.lssN; exact rfl; exact rfl) | (apply OQ.conv32_8; exact rfl; exact rfl; exact rfl) | (apply OQ.idxS0; exact rfl; exact rfl; exact rfl; exact rfl; exact (by (try simp only []); omega))) rfl ?_ | refine JC.seq ?_ | refine JC.region ?_ | refine JC.block ?_ | refine JC.skip ?_ | refine JC.exit ?_ | refine JL.nil ?_ | refine JQ.nil ?_ | refine JQ.nil_tail ?_ | refine JE.next ?_ | refine JE.blk_normal ?_ | refine JE.then_exit ?_ | refine JE.blk_hit ?_ | refine JE.blk_miss rfl ?_ | refine JE.then_ret ?_ | refine JE.blk_ret ?_ | refine JC.label ?_ | refine JL.gon rfl rfl ?_ | refine JQ.gon rfl rfl ?_ | refine JL.gskip rfl rfl rfl rfl ?_ | refine JQ.gskip rfl rfl rfl rfl ?_)
          exact JE.again (i := r) (r + 1) (by omega) (by omega) (by repeat (first | exact SubE.nil | refine SubE.cons _ _ _ rfl ?_)) (Less.refl _)
      · have hr' : ¬ r < 10 := of_decide_eq_false h
        obtain rfl : r = 10 := by omega
        clear h hr hr'
        have hv16 : (st s (8 * 10)).length = 16 := by rw [st_length, hs]
        have hbls : ∀ i, bl s (i + 1) = bl s i ++ le4 ((st s 80).getD i 0 + s.getD i 0) := fun _ => rfl
        rw [show st s (8 * 10) = st s 80 from rfl] at hv16 ⊢
        generalize hv : st s 80 = v at hv16 hbls ⊢
        repeat (first | refine JL.q (by first | (apply OQ.move; exact rfl) | (apply OQ.assign; exact rfl) | (apply OQ.add32; exact rfl; exact rfl) | (apply OQ.shr32; exact rfl; exact rfl) | (apply OQ.addN; exact rfl; exact rfl; exact (by (try simp only []); omega)) | (apply OQ.lssN; exact rfl; exact rfl) | (apply OQ.conv32_8; exact rfl; exact rfl; exact rfl) | (apply OQ.idxS0; exact rfl; exact rfl; exact rfl; exact rfl; exact (by (try simp only []); omega))) rfl ?_ | refine JQ.q (by first | (apply OQ.move; exact rfl) | (apply OQ.assign; exact rfl) | (apply OQ.add32; exact rfl; exact rfl) | (apply OQ.shr32; exact rfl; exact rfl) | (apply OQ.addN; exact rfl; exact rfl; exact (by (try simp only []); omega)) | (apply OQ.lssN; exact rfl; exact rfl) | (apply OQ.conv32_8; exact rfl; exact rfl; exact rfl) | (apply OQ.idxS0; exact rfl; exact rfl; exact rfl; exact rfl; exact (by (try simp only []); omega))) rfl ?_ | refine JC.seq ?_ | refine JC.region ?_ | refine JC.block ?_ | refine JC.skip ?_ | refine JC.exit ?_ | refine JL.nil ?_ | refine JQ.nil ?_ | refine JQ.nil_tail ?_ | refine JE.next ?_ | refine JE.blk_normal ?_ | refine JE.then_exit ?_ | refine JE.blk_hit ?_ | refine JE.blk_miss rfl ?_ | refine JE.then_ret ?_ | refine JE.blk_ret ?_ | refine JC.label ?_ | refine JL.gon rfl rfl ?_ | refine JQ.gon rfl rfl ?_ | refine JL.gskip rfl rfl rfl rfl ?_ | refine JQ.gskip rfl rfl rfl rfl ?_)
        refine JL.litZ Tryd.underlying33 e5 rfl fun b16 _ => ?_
        repeat (first | refine JL.q (by first | (apply OQ.move; exact rfl) | (apply OQ.assign; exact rfl) | (apply OQ.add32; exact rfl; exact rfl) | (apply OQ.shr32; exact rfl; exact rfl) | (apply OQ.addN; exact rfl; exact rfl; exact (by (try simp only []); omega)) | (apply OQ.lssN; exact rfl; exact rfl) | (apply OQ.conv32_8; exact rfl; exact rfl; exact rfl) | (apply OQ.idxS0; exact rfl; exact rfl; exact rfl; exact rfl; exact (by (try simp only []); omega))) rfl ?_ | refine JQ.q (by first | (apply OQ.move; exact rfl) | (apply OQ.assign; exact rfl) | (apply OQ.add32; exact rfl; exact rfl) | (apply OQ.shr32; exact rfl; exact rfl) | (apply OQ.addN; exact rfl; exact rfl; exact (by (try simp only []); omega)) | (apply OQ.lssN; exact rfl; exact rfl) | (apply OQ.conv32_8; exact rfl; exact rfl; exact rfl) | (apply OQ.idxS0; exact rfl; exact rfl; exact rfl; exact rfl; exact (by (try simp only []); omega))) rfl ?_ | refine JC.seq ?_ | refine JC.region ?_ | refine JC.block ?_ | refine JC.skip ?_ | refine JC.exit ?_ | refine JL.nil ?_ | refine JQ.nil ?_ | refine JQ.nil_tail ?_ | refine JE.next ?_ | refine JE.blk_normal ?_ | refine JE.then_exit ?_ | refine JE.blk_hit ?_ | refine JE.blk_miss rfl ?_ | refine JE.then_ret ?_ | refine JE.blk_ret ?_ | refine JC.label ?_ | refine JL.gon rfl rfl ?_ | refine JQ.gon rfl rfl ?_ | refine JL.gskip rfl rfl rfl rfl ?_ | refine JQ.gskip rfl rfl rfl rfl ?_)
        refine JC.loop (ι := Nat × Nat × Nat) (fun i => [(7, .slice (some ⟨b7, 0, none⟩) 16 cap7), (10, .slice (some ⟨b10, 0, none⟩) 16 cap10), (16, .slice (some ⟨i.2.1, 0, none⟩) (4 * i.1) i.2.2), (17, N i.1)])
          (fun i => [⟨i.2.1, Own 5 1 (4 * i.1) i.2.2 ((bl s i.1).map U8), true⟩, ⟨b10, Own 24 1 16 cap10 (v.map U32), true⟩, ⟨b7, Own 24 1 16 cap7 (s.map U32), true⟩])
          (fun i => 16 - i.1) (fun i => i.1 ≤ 16) (0, b16, 0) (by dsimp only; omega) (by repeat (first | exact SubE.nil | refine SubE.cons _ _ _ rfl ?_)) (.keep _ _ _ _ _ _ (fun _ h => h) (.keep _ _ _ _ _ _ (fun _ h => h) (.keep _ _ _ _ _ _ (fun _ h => h) (Less.nil _)))) ?_
        rintro ⟨i, b16, cap16⟩ hi
        dsimp only at hi ⊢
        repeat (first | refine JL.q (by first | (apply OQ.move; exact rfl) | (apply OQ.assign; exact rfl) | (apply OQ.add32; exact rfl; exact rfl) | (apply OQ.shr32; exact rfl; exact rfl) | (apply OQ.addN; exact rfl; exact rfl; exact (by (try simp only []); omega)) | (apply OQ.lssN; exact rfl; exact rfl) | (apply OQ.conv32_8; exact rfl; exact rfl; exact rfl) | (apply OQ.idxS0; exact rfl; exact rfl; exact rfl; exact rfl; exact (by (try simp only []); omega))) rfl ?_ | refine JQ.q (by first | (apply OQ.move; exact rfl) | (apply OQ.assign; exact rfl) | (apply OQ.add32; exact rfl; exact rfl) | (apply OQ.shr32; exact rfl; exact rfl) | (apply OQ.addN; exact rfl; exact rfl; exact (by (try simp only []); omega)) | (apply OQ.lssN; exact rfl; exact rfl) | (apply OQ.conv32_8; exact rfl; exact rfl; exact rfl) | (apply OQ.idxS0; exact rfl; exact rfl; exact rfl; exact rfl; exact (by (try simp only []); omega))) rfl ?_ | refine JC.seq ?_ | refine JC.region ?_ | refine JC.block ?_ | refine JC.skip ?_ | refine JC.exit ?_ | refine JL.nil ?_ | refine JQ.nil ?_ | refine JQ.nil_tail ?_ | refine JE.next ?_ | refine JE.blk_normal ?_ | refine JE.then_exit ?_ | refine JE.blk_hit ?_ | refine JE.blk_miss rfl ?_ | refine JE.then_ret ?_ | refine JE.blk_ret ?_ | refine JC.label ?_ | refine JL.gon rfl rfl ?_ | refine JQ.gon rfl rfl ?_ | refine JL.gskip rfl rfl rfl rfl ?_ | refine JQ.gskip rfl rfl rfl rfl ?_)
        refine JC.cond rfl (fun h => ?_) (fun h => ?_)
        · have hi' : i < 16 := of_decide_eq_true h
          clear h hi
          repeat (first | refine JL.q (by first | (apply OQ.move; exact rfl) | (apply OQ.assign; exact rfl) | (apply OQ.add32; exact rfl; exact rfl) | (apply OQ.shr32; exact rfl; exact rfl) | (apply OQ.addN; exact rfl; exact rfl; exact (by (try simp only []); omega)) | (apply OQ.lssN; exact rfl; exact rfl) | (apply OQ.conv32_8; exact rfl; exact rfl; exact rfl) | (apply OQ.idxS0; exact rfl; exact rfl; exact rfl; exact rfl; exact (by (try simp only []); omega))) rfl ?_ | refine JQ.q (by first | (apply OQ.move; exact rfl) | (apply OQ.assign; exact rfl) | (apply OQ.add32; exact rfl; exact rfl) | (apply OQ.shr32; exact rfl; exact rfl) | (apply OQ.addN; exact rfl; exact rfl; exact (by (try simp only []); omega)) | (apply OQ.lssN; exact rfl; exact rfl) | (apply OQ.conv32_8; exact rfl; exact rfl; exact rfl) | (apply OQ.idxS0; exact rfl; exact rfl; exact rfl; exact rfl; exact (by (try simp only []); omega))) rfl ?_ | refine JC.seq ?_ | refine JC.region ?_ | refine JC.block ?_ | refine JC.skip ?_ | refine JC.exit ?_ | refine JL.nil ?_ | refine JQ.nil ?_ | refine JQ.nil_tail ?_ | refine JE.next ?_ | refine JE.blk_normal ?_ | refine JE.then_exit ?_ | refine JE.blk_hit ?_ | refine JE.blk_miss rfl ?_ | refine JE.then_ret ?_ | refine JE.blk_ret ?_ | refine JC.label ?_ | refine JL.gon rfl rfl ?_ | refine JQ.gon rfl rfl ?_ | refine JL.gskip rfl rfl rfl rfl ?_ | refine JQ.gskip rfl rfl rfl rfl ?_)
          refine JC.quiet mixQ (by kernel_rfl) ?_
          repeat (first | refine JL.q (by first | (apply OQ.idxS0; exact Tryd.underlying54; exact q1s; exact rfl; exact rfl; exact hi') | (apply OQ.load (b := b10); exact q1c; exact rfl; exact (.there .here); exact (Own.cell (w_get (by omega)))) | (apply OQ.load (b := b7); exact q1c; exact rfl; exact (.there (.there .here)); exact (Own.cell (w_get (by omega)))) | (apply OQ.move; exact rfl) | (apply OQ.assign; exact rfl) | (apply OQ.add32; exact rfl; exact rfl) | (apply OQ.shr32; exact rfl; exact rfl) | (apply OQ.addN; exact rfl; exact rfl; exact (by (try simp only []); omega)) | (apply OQ.lssN; exact rfl; exact rfl) | (apply OQ.conv32_8; exact rfl; exact rfl; exact rfl) | (apply OQ.idxS0; exact rfl; exact rfl; exact rfl; exact rfl; exact (by (try simp only []); omega))) rfl ?_ | refine JQ.q (by first | (apply OQ.idxS0; exact Tryd.underlying54; exact q1s; exact rfl; exact rfl; exact hi') | (apply OQ.load (b := b10); exact q1c; exact rfl; exact (.there .here); exact (Own.cell (w_get (by omega)))) | (apply OQ.load (b := b7); exact q1c; exact rfl; exact (.there (.there .here)); exact (Own.cell (w_get (by omega)))) | (apply OQ.move; exact rfl) | (apply OQ.assign; exact rfl) | (apply OQ.add32; exact rfl; exact rfl) | (apply OQ.shr32; exact rfl; exact rfl) | (apply OQ.addN; exact rfl; exact rfl; exact (by (try simp only []); omega)) | (apply OQ.lssN; exact rfl; exact rfl) | (apply OQ.conv32_8; exact rfl; exact rfl; exact rfl) | (apply OQ.idxS0; exact rfl; exact rfl; exact rfl; exact rfl; exact (by (try simp only []); omega))) rfl ?_ | refine JC.seq ?_ | refine JC.region ?_ | refine JC.block ?_ | refine JC.skip ?_ | refine JC.exit ?_ | refine JL.nil ?_ | refine JQ.nil ?_ | refine JQ.nil_tail ?_ | refine JE.next ?_ | refine JE.blk_normal ?_ | refine JE.then_exit ?_ | refine JE.blk_hit ?_ | refine JE.blk_miss rfl ?_ | refine JE.then_ret ?_ | refine JE.blk_ret ?_ | refine JC.label ?_ | refine JL.gon rfl rfl ?_ | refine JQ.gon rfl rfl ?_ | refine JL.gskip rfl rfl rfl rfl ?_ | refine JQ.gskip rfl rfl rfl rfl ?_)
          have hnx := hbls i
          generalize v.getD i 0 + s.getD i 0 = z at hnx
          refine JL.litL (xs := [.tmp 130, .tmp 133, .tmp 136, .tmp 139]) (vs := (le4 z).map U8) Tryd.underlying33 e5 rfl rfl rfl (all8 _) (by simp [Value.cells]) rfl (by decide) (by decide) rfl fun b140 _ => ?_
          refine JL.append (cs := (le4 z).map U8) (fun b' cap' => [⟨b140, Row 5 ((le4 z).map U8), true⟩, ⟨b', Own 5 1 (4 * i + 4) cap' ((bl s i).map U8 ++ (le4 z).map U8), true⟩, ⟨b10, Own 24 1 16 cap10 (v.map U32), true⟩, ⟨b7, Own 24 1 16 cap7 (s.map U32), true⟩]) Tryd.underlying33 e5 rfl rfl (by intro _ _; repeat (first | exact Repl.here | apply Repl.there)) rfl (fun w' hw' => ?_) (of_u8 _) rfl (by decide) (by omega) (by omega) rfl fun b16' cap16' => ?_
          · obtain ⟨o, ho, hA⟩ := hw'.get .here
            exact Reads.block ho (Row.all _ hA)
          rw [← List.map_append, ← hnx, show 4 * i + 4 = 4 * (i + 1) by omega]
          repeat (first | refine JL.q (by first | (apply OQ.move; exact rfl) | (apply OQ.assign; exact rfl) | (apply OQ.add32; exact rfl; exact rfl) | (apply OQ.shr32; exact rfl; exact rfl) | (apply OQ.addN; exact rfl; exact rfl; exact (by (try simp only []); omega)) | (apply OQ.lssN; exact rfl; exact rfl) | (apply OQ.conv32_8; exact rfl; exact rfl; exact rfl) | (apply OQ.idxS0; exact rfl; exact rfl; exact rfl; exact rfl; exact (by (try simp only []); omega))) rfl ?_ | refine JQ.q (by first | (apply OQ.move; exact rfl) | (apply OQ.assign; exact rfl) | (apply OQ.add32; exact rfl; exact rfl) | (apply OQ.shr32; exact rfl; exact rfl) | (apply OQ.addN; exact rfl; exact rfl; exact (by (try simp only []); omega)) | (apply OQ.lssN; exact rfl; exact rfl) | (apply OQ.conv32_8; exact rfl; exact rfl; exact rfl) | (apply OQ.idxS0; exact rfl; exact rfl; exact rfl; exact rfl; exact (by (try simp only []); omega))) rfl ?_ | refine JC.seq ?_ | refine JC.region ?_ | refine JC.block ?_ | refine JC.skip ?_ | refine JC.exit ?_ | refine JL.nil ?_ | refine JQ.nil ?_ | refine JQ.nil_tail ?_ | refine JE.next ?_ | refine JE.blk_normal ?_ | refine JE.then_exit ?_ | refine JE.blk_hit ?_ | refine JE.blk_miss rfl ?_ | refine JE.then_ret ?_ | refine JE.blk_ret ?_ | refine JC.label ?_ | refine JL.gon rfl rfl ?_ | refine JQ.gon rfl rfl ?_ | refine JL.gskip rfl rfl rfl rfl ?_ | refine JQ.gskip rfl rfl rfl rfl ?_)
          exact JE.again (ι := Nat × Nat × Nat) (i := (i, b16, cap16)) (i + 1, b16', cap16') (by dsimp only; omega) (by dsimp only; omega) (by repeat (first | exact SubE.nil | refine SubE.cons _ _ _ rfl ?_)) (.drop _ _ _ (Less.refl _))
        · have hi' : ¬ i < 16 := of_decide_eq_false h
          obtain rfl : i = 16 := by omega
          clear h hi hi'
          rw [hks]
          repeat (first | refine JL.q (by first | (apply OQ.move; exact rfl) | (apply OQ.assign; exact rfl) | (apply OQ.add32; exact rfl; exact rfl) | (apply OQ.shr32; exact rfl; exact rfl) | (apply OQ.addN; exact rfl; exact rfl; exact (by (try simp only []); omega)) | (apply OQ.lssN; exact rfl; exact rfl) | (apply OQ.conv32_8; exact rfl; exact rfl; exact rfl) | (apply OQ.idxS0; exact rfl; exact rfl; exact rfl; exact rfl; exact (by (try simp only []); omega))) rfl ?_ | refine JQ.q (by first | (apply OQ.move; exact rfl) | (apply OQ.assign; exact rfl) | (apply OQ.add32; exact rfl; exact rfl) | (apply OQ.shr32; exact rfl; exact rfl) | (apply OQ.addN; exact rfl; exact rfl; exact (by (try simp only []); omega)) | (apply OQ.lssN; exact rfl; exact rfl) | (apply OQ.conv32_8; exact rfl; exact rfl; exact rfl) | (apply OQ.idxS0; exact rfl; exact rfl; exact rfl; exact rfl; exact (by (try simp only []); omega))) rfl ?_ | refine JC.seq ?_ | refine JC.region ?_ | refine JC.block ?_ | refine JC.skip ?_ | refine JC.exit ?_ | refine JL.nil ?_ | refine JQ.nil ?_ | refine JQ.nil_tail ?_ | refine JE.next ?_ | refine JE.blk_normal ?_ | refine JE.then_exit ?_ | refine JE.blk_hit ?_ | refine JE.blk_miss rfl ?_ | refine JE.then_ret ?_ | refine JE.blk_ret ?_ | refine JC.label ?_ | refine JL.gon rfl rfl ?_ | refine JQ.gon rfl rfl ?_ | refine JL.gskip rfl rfl rfl rfl ?_ | refine JQ.gskip rfl rfl rfl rfl ?_)
          refine JC.ret ?_
          repeat (first | refine JL.q (by first | (apply OQ.move; exact rfl) | (apply OQ.assign; exact rfl) | (apply OQ.add32; exact rfl; exact rfl) | (apply OQ.shr32; exact rfl; exact rfl) | (apply OQ.addN; exact rfl; exact rfl; exact (by (try simp only []); omega)) | (apply OQ.lssN; exact rfl; exact rfl) | (apply OQ.conv32_8; exact rfl; exact rfl; exact rfl) | (apply OQ.idxS0; exact rfl; exact rfl; exact rfl; exact rfl; exact (by (try simp only []); omega))) rfl ?_ | refine JQ.q (by first | (apply OQ.move; exact rfl) | (apply OQ.assign; exact rfl) | (apply OQ.add32; exact rfl; exact rfl) | (apply OQ.shr32; exact rfl; exact rfl) | (apply OQ.addN; exact rfl; exact rfl; exact (by (try simp only []); omega)) | (apply OQ.lssN; exact rfl; exact rfl) | (apply OQ.conv32_8; exact rfl; exact rfl; exact rfl) | (apply OQ.idxS0; exact rfl; exact rfl; exact rfl; exact rfl; exact (by (try simp only []); omega))) rfl ?_ | refine JC.seq ?_ | refine JC.region ?_ | refine JC.block ?_ | refine JC.skip ?_ | refine JC.exit ?_ | refine JL.nil ?_ | refine JQ.nil ?_ | refine JQ.nil_tail ?_ | refine JE.next ?_ | refine JE.blk_normal ?_ | refine JE.then_exit ?_ | refine JE.blk_hit ?_ | refine JE.blk_miss rfl ?_ | refine JE.then_ret ?_ | refine JE.blk_ret ?_ | refine JC.label ?_ | refine JL.gon rfl rfl ?_ | refine JQ.gon rfl rfl ?_ | refine JL.gskip rfl rfl rfl rfl ?_ | refine JQ.gskip rfl rfl rfl rfl ?_)
          exact JE.ret1 rfl (RV.tmp rfl) fun w' hw => ⟨(b16, cap16), rfl, hw.weak (.keep _ _ _ _ _ _ (fun _ h => h) (Less.nil _))⟩
end Go.Proofs.YtheemnpfnefbmaaDoor
