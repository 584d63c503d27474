/-
  Of no statement by itself: the texts ArmH, MibC, Slal, MimU, TokS, TokW, MimW, MimX, Slwb, MimY, MibD, MimT, LetS, TokF, TokG, TokH, TokJ, TokK, ArmS, MimP, TokX, TokB, TokA, TokI, TokP, TokR, Same, MimQ, FibA, FieR, Sle, FieX, FieG in one.
  Conditions: each theorem's own.
-/
import Derived.Test.YtbbmhkdfdgnkpaaGreatDoorCb
import Derived.Laws.Tables
set_option linter.unusedSimpArgs false
set_option linter.unusedVariables false
/-
  Of no statement by itself: armor's groups: the iterator that hands out a slice's parts of k bytes.
  Conditions: each theorem's own.
-/
namespace Go.Proofs.YtbbmhkdfdgnkpaaGreatDoor
set_option maxRecDepth 10000
open Sl
/-- the j-th part of k bytes -/
def Sl8.part (s : Sl8) (k j : Nat) : Sl8 := ⟨if s.cap = k * j then s.ad else s.ad.map (·.add (k * j * 1)), s.cap - k * j, (s.l.drop (k * j)).take k⟩
theorem part_v (s : Sl8) (k j : Nat) (h : k * j ≤ s.l.length) : (s.part k j).v = .slice (if s.cap = k * j then s.ad else s.ad.map (·.add (k * j * 1))) (min (k * j + k) s.l.length - k * j) (s.cap - k * j) := by
  show Value.slice _ ((s.l.drop (k * j)).take k).length _ = _
  rw [List.length_take, List.length_drop]
  congr 1
  omega
theorem part_ok {s : Sl8} {w : World} (h : s.ok w) (k j : Nat) : (s.part k j).ok w := by
  refine ⟨?_, ?_⟩
  · show ((s.l.drop (k * j)).take k).length ≤ s.cap - k * j
    have := h.len
    rw [List.length_take, List.length_drop]
    omega
  · show Reads w _ (((s.l.drop (k * j)).take k).map U8)
    by_cases h0 : s.l.length ≤ k * j
    · rw [List.drop_eq_nil_of_le h0]
      simpa using Reads.nil _ _
    · obtain ⟨b, i, hae, hc⟩ := h.reads.at (by simp; omega)
      have hcap : ¬ s.cap = k * j := by have := h.len; omega
      rw [show (s.part k j).ad = some ⟨b, i + k * j, none⟩ by
        show (if s.cap = k * j then s.ad else s.ad.map (·.add (k * j * 1))) = _
        rw [if_neg hcap, hae]
        simp [add_off]]
      intro t v hv
      refine ⟨b, i + k * j, rfl, ?_⟩
      have hv' : (s.l.map U8)[k * j + t]? = some v := by
        rw [List.getElem?_map] at hv ⊢
        rw [List.getElem?_take] at hv
        split at hv
        · rw [List.getElem?_drop] at hv; exact hv
        · simp at hv
      have := hc (k * j + t) v hv'
      rwa [← Nat.add_assoc] at this
def parts (s : Sl8) (k : Nat) : Nat := (s.l.length + k - 1) / k
theorem parts_lt {s : Sl8} {k j : Nat} (hk : 0 < k) : j < parts s k ↔ k * j < s.l.length := by
  unfold parts
  rw [Nat.lt_div_iff_mul_lt hk, Nat.mul_comm]
  omega
theorem OQ.slPart {P : Program} {n : Nat} {E : Env} {C : World → Prop} {dst : Option Tmp} {t ty e : TypeId} {pos : String} {aft : Array Edge} {g : Option (Nat × Bool)} {x y z : Operand} {s : Sl8} {k j : Nat} (hu : P.underlying t = some (.slice e)) (hz : szT P e = some 1) (hx : ev E x = some s.v) (hl : ev E y = some (N (k * j))) (hh : ev E z = some (N (min (k * j + k) s.l.length))) (h : k * j ≤ s.l.length) (hc : s.l.length ≤ s.cap) :
    OQ P n E C ⟨dst, .slice t x (some y) (some z) none, ty, pos, aft, g⟩ (s.part k j).v := by
  rw [part_v s k j h]
  exact OQ.slS_lohi hu hz hx hl hh (by omega) (by omega)
theorem OQ.clos2 {P : Program} {n : Nat} {E : Env} {C : World → Prop} {dst : Option Tmp} {ty : TypeId} {pos : String} {aft : Array Edge} {g : Option (Nat × Bool)} {f : FuncId} {x y : Operand} {vx vy : Value} (hx : ev E x = some vx) (hy : ev E y = some vy) : OQ P n E C ⟨dst, .makeFunc (.func f) #[] #[x, y], ty, pos, aft, g⟩ (.func (.func f) #[] #[vx, vy]) :=
  OQ.run fun a ha w _ => by simp [execOp, ha.eval hx, ha.eval hy, Instr.makeFunc]
theorem goes_groups : Goes Tryz.prog 82 := ⟨_, Tryz.func82, rfl, by kernel_rfl⟩
theorem groups_any (s : Sl8) (k : Nat) (w : World) : Calls Tryz.prog 82 [s.v, N k].toArray w fun e w' => ∃ q : Nat × Nat, e = .returned (.func (.func 114) #[] #[Pt q.1 0, Pt q.2 0]) ∧ Holds w [] [⟨q.2, Row 3 [N k], true⟩, ⟨q.1, Row 22 [s.v], true⟩] w' := by
  refine enter (n := 6) Tryz.func82 rfl rfl rfl (Holds.start w []) ?_
  repeat (first | refine JC.seq ?_ | refine JC.region ?_)
  refine JL.box rfl rfl rfl fun b1 _ => ?_
  refine JL.box rfl rfl rfl fun b2 _ => ?_
  repeat (first | refine JL.q (by first | (apply OQ.clos2; exact rfl; exact rfl) | (apply OQ.assign; exact rfl)) rfl ?_ | refine JC.seq ?_ | refine JC.region ?_ | refine JL.nil ?_ | refine JE.next ?_)
  refine JC.ret (JE.ret1 rfl (RV.tmp rfl) ?_)
  exact fun w' hw => ⟨(b1, b2), rfl, hw⟩
theorem load_fix {P : Program} {n : Nat} {E : Env} {dst : Option Tmp} {t ty : TypeId} {pos : String} {aft : Array Edge} {g : Option (Nat × Bool)} {x : Operand} {b j : Nat} {v : Value} {W : World} {o : Obj} (hs : scal P t = true) (hx : ev E x = some (.pointer (some ⟨b, j, none⟩))) (ho : W.heap[b]? = some o) (hA : cellAt o j = some v) : OQ P n E (fun w => w = W) ⟨dst, .load t x, ty, pos, aft, g⟩ v :=
  OQ.load_at (fun _ hw => by rw [hw]; exact loadVar_scal hs (cell_of ho hA)) hx
set_option maxHeartbeats 4000000 in
theorem groups_stops (s : Sl8) (k b1 b2 : Nat) (hk : 0 < k) (hc : s.l.length ≤ s.cap) (hl : s.l.length + k < 9223372036854775808) (W0 : World) {o1 o2 : Obj} (h1 : W0.heap[b1]? = some o1) (h1' : cellAt o1 0 = some s.v) (h2 : W0.heap[b2]? = some o2) (h2' : cellAt o2 0 = some (N k)) :
    SeqStopsK Fence.wide 2 Tryz.prog 114 #[Pt b1 0, Pt b2 0] (fun j => #[(s.part k j).v]) (KeepL [b1, b2]) (fun xs => xs = List.range (parts s k)) (fun _ => True) (parts s k) W0 := by
  intro l J Jx W hW hJ hJx hY h0
  have hb1 : b1 < W0.heap.size := (Array.getElem?_eq_some_iff.1 h1).1
  have hb2 : b2 < W0.heap.size := (Array.getElem?_eq_some_iff.1 h2).1
  refine callsIn_wide.2 ?_
  refine enterF (n := 24) (vs := [.func (.yield l) #[] #[], Pt b1 0, Pt b2 0]) Tryz.func114 rfl rfl rfl ?_
  refine FC.seq (FC.region (FL.q (OQ.assign rfl) rfl rfl (FL.nil (FE.next ?_))))
  refine FC.block (FC.loop (fun j : Nat => [(0, .func (.yield l) #[] #[]), (1, Pt b1 0), (2, Pt b2 0), (4, N (k * j))])
    (fun j w => j ≤ parts s k ∧ J (List.range j) w ∧ w.heap[b1]? = some o1 ∧ w.heap[b2]? = some o2) (fun j => parts s k - j) 0 ⟨Nat.zero_le _, h0, (hW.block b1 hb1).trans h1, (hW.block b2 hb2).trans h2⟩ (by repeat (first | exact SubE.nil | refine SubE.cons _ _ _ rfl ?_)) ?_)
  rintro j w ⟨hj, hJj, g1, g2⟩
  dsimp only
  repeat (first | refine FL.q (by first | (apply load_fix; exact rfl; exact rfl; exact g1; exact h1') | (apply OQ.len; exact Tryz.underlying22; exact rfl) | (apply OQ.move; exact rfl) | (apply OQ.lssN; exact rfl; exact rfl)) rfl rfl ?_ | refine FC.seq ?_ | refine FC.region ?_ | refine FL.nil ?_ | refine FE.next ?_)
  refine FC.cond rfl (fun h => ?_) (fun h => ?_)
  · have hjl : k * j < s.l.length := of_decide_eq_true h
    have hjp : j < parts s k := (parts_lt hk).2 hjl
    clear h
    repeat (first | refine FL.q (by first | (apply load_fix; exact rfl; exact rfl; exact g1; exact h1') | (apply load_fix; exact rfl; exact rfl; exact g2; exact h2') | (apply OQ.len; exact Tryz.underlying22; exact rfl) | (apply OQ.minN; exact rfl; exact rfl) | (apply OQ.slPart; exact Tryz.underlying22; exact u8s; exact rfl; exact rfl; exact rfl; exact (by omega); exact hc) | (apply OQ.move; exact rfl) | (apply OQ.addN; exact rfl; exact rfl; exact (by (try simp only []); omega))) rfl rfl ?_ | refine FC.seq ?_ | refine FC.region ?_ | refine FC.block ?_ | refine FC.skip ?_ | refine FE.next ?_)
    refine FL.yield (v := (s.part k j).v) ?_ ?_ ?_ (hY (List.range j) j w hJj (by simpa using hjp)) ?_
    · rfl
    · rfl
    · rfl
    rintro e W' (⟨rfl, hJ', hk'⟩ | ⟨rfl, hJx'⟩)
    · refine ⟨true, rfl, ?_⟩
      have g1' := (hk'.same b1 (by simp)).trans g1
      have g2' := (hk'.same b2 (by simp)).trans g2
      repeat (first | refine FL.q (by (apply OQ.not; exact rfl)) rfl rfl ?_ | refine FL.nil ?_ | refine FE.next ?_)
      refine FC.cond rfl (fun h => by cases h) (fun _ => ?_)
      repeat (first | refine FL.q (by first | (apply load_fix; exact rfl; exact rfl; exact g2'; exact h2') | (apply OQ.move; exact rfl) | (apply OQ.assign; exact rfl) | (apply OQ.addN; exact rfl; exact rfl; exact (by (try simp only []); omega))) rfl rfl ?_ | refine FC.region ?_ | refine FC.skip ?_ | refine FL.nil ?_ | refine FE.next ?_ | refine FE.blk_normal ?_)
      refine FE.again (i := j) (j + 1) ⟨by omega, by rw [List.range_succ]; exact hJ', g1', g2'⟩ (by show parts s k - (j + 1) < parts s k - j; omega) ?_
      rw [show k * (j + 1) = k * j + k from Nat.mul_succ k j]
      exact (by repeat (first | exact SubE.nil | refine SubE.cons _ _ _ rfl ?_))
    · refine ⟨false, rfl, ?_⟩
      repeat (first | refine FL.q (by (apply OQ.not; exact rfl)) rfl rfl ?_ | refine FL.nil ?_ | refine FE.next ?_)
      refine FC.cond rfl (fun _ => ?_) (fun h => by cases h)
      refine FC.ret ?_
      repeat (first | refine FE.then_ret ?_ | refine FE.blk_ret ?_)
      exact FE.ret0 rfl ⟨⟨_, rfl⟩, .inr ⟨_, trivial, hJx'⟩⟩
  · have hjp : j = parts s k := by
      have : ¬ k * j < s.l.length := of_decide_eq_false h
      have := mt (parts_lt (s := s) hk).1 this
      omega
    clear h
    subst hjp
    repeat (first | refine FC.exit ?_ | refine FE.then_exit ?_ | refine FE.blk_hit ?_)
    exact FE.end0 rfl ⟨⟨_, rfl⟩, .inl ⟨_, rfl, hJj⟩⟩
end Go.Proofs.YtbbmhkdfdgnkpaaGreatDoor

/-
  Of no statement by itself: the landed mime's eachLine: the iterator that hands out where lines begin, and the lines.
  Conditions: each theorem's own.
-/
namespace Go.Proofs.YtbbmhkdfdgnkpaaGreatDoor
set_option maxRecDepth 10000
open Sl Fld Mim
/-- where the k-th line begins -/
def atN (l : List Fld.By) : Nat → Nat
  | 0 => 0
  | k + 1 => atN l k + rawN (l.drop (atN l k))
theorem atN_le (l : List Fld.By) : ∀ k, atN l k ≤ l.length
  | 0 => Nat.zero_le _
  | k + 1 => by
    have := atN_le l k
    have h := rawN_le (l.drop (atN l k))
    rw [List.length_drop] at h
    show atN l k + _ ≤ _
    omega
theorem lin_nil {d : List Fld.By} : linB d = [] ↔ d = [] := by
  constructor
  · intro h
    by_cases hd : d = []
    · exact hd
    · obtain ⟨e, h1, _⟩ := lin_step hd
      rw [h1] at h
      cases h
  · rintro rfl; rfl
theorem lin_at (l : List Fld.By) : ∀ k, (linB (l.drop (atN l k))).length = (linB l).length - k
  | 0 => rfl
  | k + 1 => by
    have ih := lin_at l k
    by_cases hd : l.drop (atN l k) = []
    · have e : atN l (k + 1) = atN l k := by
        show atN l k + rawN (l.drop (atN l k)) = _
        rw [hd]
        rfl
      rw [e, ih]
      rw [hd] at ih
      have : (linB ([] : List Fld.By)).length = 0 := rfl
      omega
    · obtain ⟨e, h1, _⟩ := lin_step hd
      rw [h1, List.length_cons, List.drop_drop] at ih
      show (linB (l.drop (atN l k + rawN (l.drop (atN l k))))).length = _
      omega
theorem atN_lt (l : List Fld.By) (k : Nat) : k < (linB l).length ↔ atN l k < l.length := by
  have h := lin_at l k
  have h2 : (linB (l.drop (atN l k))).length = 0 ↔ l.length ≤ atN l k := by
    rw [List.length_eq_zero_iff, lin_nil, List.drop_eq_nil_iff]
  omega
theorem atN_end (l : List Fld.By) : atN l (linB l).length = l.length := by
  have := mt (atN_lt l (linB l).length).2 (by omega)
  have := atN_le l (linB l).length
  omega
/-- what round k is handed -/
def encL (s : Sl8) (k : Nat) : Value × Value := (N (atN s.l k), (s.mid (atN s.l k) (atN s.l (k + 1))).v)
theorem goes_each : Goes Tryz.prog 19 := ⟨_, Tryz.func19, rfl, by kernel_rfl⟩
def eachF (b : Nat) : Value := .func (.func 28) #[] #[Pt b 0]
theorem each_any (s : Sl8) (w : World) : Calls Tryz.prog 19 [s.v].toArray w fun e w' => ∃ b : Nat, e = .returned (eachF b) ∧ Holds w [] [⟨b, Row 22 [s.v], true⟩] w' := by
  refine enter (n := 4) Tryz.func19 rfl rfl rfl (Holds.start w []) ?_
  refine JC.seq (JC.region (JL.box (r := [s.v]) rfl rfl rfl fun b _ => ?_))
  repeat (first | refine JL.q (by first | (apply OQ.mkF (caps := [Pt b 0]); exact rfl) | (apply OQ.assign; exact rfl)) rfl ?_ | refine JC.seq ?_ | refine JC.region ?_ | refine JL.nil ?_ | refine JE.next ?_)
  refine JC.ret (JE.ret1 rfl (RV.tmp rfl) ?_)
  exact fun w' hw => ⟨b, rfl, hw⟩
/-- the block that a slice's bytes stand in -/
def blkS (s : Sl8) : List Nat := match s.l, s.ad with
  | _ :: _, some a => [a.block]
  | _, _ => []
theorem blkS_lt {s : Sl8} {w : World} (h : s.ok w) : ∀ k ∈ blkS s, k < w.heap.size := by
  obtain ⟨ad, cap, l⟩ := s
  intro k hk
  cases l with
  | nil => cases hk
  | cons c r =>
    cases ad with
    | none => cases hk
    | some a =>
      obtain rfl := List.mem_singleton.1 hk
      exact h.lt (by simp) a rfl
theorem ok_keep {s : Sl8} {w w' : World} (h : s.ok w) (hk : ∀ k ∈ blkS s, w'.heap[k]? = w.heap[k]?) : s.ok w' := by
  obtain ⟨ad, cap, l⟩ := s
  refine ⟨h.len, fun i v hv => ?_⟩
  obtain ⟨b, j, e, c⟩ := h.reads i v hv
  refine ⟨b, j, e, ?_⟩
  dsimp only at hv e
  subst e
  cases l with
  | nil => simp at hv
  | cons c' r =>
    have hb : w'.heap[b]? = w.heap[b]? := hk b (List.mem_singleton.2 rfl)
    unfold World.cell? at c ⊢
    rw [hb]
    exact c
theorem line_raw (s : Sl8) (k : Nat) : (s.mid (atN s.l k) (atN s.l (k + 1))).l = lineB s.l (atN s.l k) := by
  show (s.l.take (atN s.l k + rawN (s.l.drop (atN s.l k)))).drop (atN s.l k) = (s.l.drop (atN s.l k)).take (rawN (s.l.drop (atN s.l k)))
  rw [List.drop_take]
  congr 1
  omega
theorem fi_raw (d : List Fld.By) : rawN d = if fi 10 d < d.length then fi 10 d + 1 else d.length := rfl
set_option maxHeartbeats 8000000 in
theorem each_stops (s : Sl8) (b1 : Nat) (hl : s.l.length ≤ 4611686018427387904) (W0 : World) (hs : s.ok W0) {o1 : Obj} (h1 : W0.heap[b1]? = some o1) (h1' : cellAt o1 0 = some s.v) :
    SeqN Tryz.prog 28 #[Pt b1 0] (encL s) (b1 :: blkS s) (linB s.l).length W0 := by
  intro l J X W hW hJ hY h0
  have hb1 : b1 < W0.heap.size := (Array.getElem?_eq_some_iff.1 h1).1
  have hcap := hs.len
  refine callsIn_wide.2 ?_
  refine enterF (n := 33) (vs := [.func (.yield l) #[] #[], Pt b1 0]) Tryz.func28 rfl rfl rfl ?_
  refine FC.seq (FC.region (FL.q (OQ.assign rfl) rfl rfl (FL.nil (FE.next ?_))))
  refine FC.block (FC.loop (fun k : Nat => [(0, .func (.yield l) #[] #[]), (1, Pt b1 0), (3, N (atN s.l k))])
    (fun k w => k ≤ (linB s.l).length ∧ J k w ∧ w.heap[b1]? = some o1 ∧ s.ok w) (fun k => (linB s.l).length - k) 0 ⟨Nat.zero_le _, h0, (hW.block b1 hb1).trans h1, ok_keep hs fun k hk => hW.block k (blkS_lt hs k hk)⟩ (by repeat (first | exact SubE.nil | refine SubE.cons _ _ _ rfl ?_)) ?_)
  rintro k w ⟨hk, hJk, g1, ok⟩
  repeat (first | refine FL.q (by first | (apply load_fix; exact rfl; exact rfl; exact g1; exact h1') | (apply OQ.len; exact Tryz.underlying22; exact rfl) | (apply OQ.move; exact rfl) | (apply OQ.lssN; exact rfl; exact rfl)) rfl rfl ?_ | refine FC.seq ?_ | refine FC.region ?_ | refine FL.nil ?_ | refine FE.next ?_)
  refine FC.cond rfl (fun h => ?_) (fun h => ?_)
  · have hkl : atN s.l k < s.l.length := of_decide_eq_true h
    have hkp : k < (linB s.l).length := (atN_lt s.l k).2 hkl
    have hle : atN s.l k ≤ s.l.length := by omega
    clear h
    repeat (first | refine FL.q (by first | (apply load_fix; exact rfl; exact rfl; exact g1; exact h1') | (apply OQ.snd (s := s); exact Tryz.underlying22; exact u8s; exact rfl; exact rfl; exact hle) | (apply OQ.move; exact rfl)) rfl rfl ?_ | refine FC.seq ?_ | refine FC.region ?_ | refine FC.block ?_ | refine FC.skip ?_ | refine FE.next ?_)
    refine FL.callx (vs := [(s.snd (atN s.l k)).v, U8 10]) goes_bixb rfl rfl (bixb_any (s.snd (atN s.l k)) 10 w (ok.snd _ hle)) fun w' hx => ?_
    have hJk := hJ k w w' hJk hx
    have g1 := (hx.block _ (Array.getElem?_eq_some_iff.1 g1).1 (by simp)).trans g1
    have ok := ok.ext hx
    have hdl : (s.snd (atN s.l k)).l = s.l.drop (atN s.l k) := rfl
    have hn : atN s.l (k + 1) = atN s.l k + rawN (s.l.drop (atN s.l k)) := rfl
    have hle2 := atN_le s.l (k + 1)
    have hge : atN s.l k ≤ atN s.l (k + 1) := by omega
    have henc : encL s k = (N (atN s.l k), (s.mid (atN s.l k) (atN s.l (k + 1))).v) := rfl
    have hYk := hY k w' hkp hJk
    rw [henc] at hYk
    dsimp only at hYk
    have hdn : (s.l.drop (atN s.l k)).length = s.l.length - atN s.l k := List.length_drop
    have hraw := fi_raw (s.l.drop (atN s.l k))
    rw [hdl]
    refine FL.q (v := N (if fi 10 (s.l.drop (atN s.l k)) < (s.l.drop (atN s.l k)).length then fi 10 (s.l.drop (atN s.l k)) + 1 else 0)) ?_ rfl rfl ?_
    · by_cases hf : fi 10 (s.l.drop (atN s.l k)) < (s.l.drop (atN s.l k)).length
      · rw [if_pos hf]
        exact OQ.to (OQ.addI (a := ixC 10 (s.l.drop (atN s.l k))) (b := 1) rfl rfl (by unfold ixC; rw [if_pos hf]; omega) (by unfold ixC; rw [if_pos hf]; omega)) (by unfold ixC; rw [if_pos hf]; rfl)
      · rw [if_neg hf]
        exact OQ.to (OQ.addI (a := ixC 10 (s.l.drop (atN s.l k))) (b := 1) rfl rfl (by unfold ixC; rw [if_neg hf]; omega) (by unfold ixC; rw [if_neg hf]; omega)) (by unfold ixC; rw [if_neg hf]; rfl)
    refine FL.q (OQ.assign rfl) rfl rfl (FL.nil (FE.next ?_))
    refine FC.mid [(0, .func (.yield l) #[] #[]), (1, Pt b1 0), (3, N (atN s.l k)), (4, N (rawN (s.l.drop (atN s.l k))))] ?_ ?_
    · by_cases hf : fi 10 (s.l.drop (atN s.l k)) < (s.l.drop (atN s.l k)).length
      · rw [if_pos hf] at hraw ⊢
        rw [hraw]
        have h0 : decide (((fi 10 (s.l.drop (atN s.l k)) + 1 : Nat) : Int) = 0) = false := decide_eq_false (by omega)
        repeat (first | refine FL.q (by first | (apply OQ.eqB (b := 0); exact rfl; exact rfl; exact h0) | (apply OQ.move; exact rfl)) rfl rfl ?_ | refine FC.seq ?_ | refine FC.region ?_ | refine FL.nil ?_ | refine FE.next ?_)
        refine FC.cond rfl (fun h => by cases h) (fun _ => FC.skip (FE.mid (by repeat (first | exact SubE.nil | refine SubE.cons _ _ _ rfl ?_))))
      · rw [if_neg hf] at hraw ⊢
        rw [hraw, hdn]
        have h0 : decide (((0 : Nat) : Int) = 0) = true := rfl
        repeat (first | refine FL.q (by first | (apply OQ.eqB (b := 0); exact rfl; exact rfl; exact h0) | (apply OQ.move; exact rfl)) rfl rfl ?_ | refine FC.seq ?_ | refine FC.region ?_ | refine FL.nil ?_ | refine FE.next ?_)
        refine FC.cond rfl (fun _ => ?_) (fun h => by cases h)
        repeat (first | refine FL.q (by first | (apply load_fix; exact rfl; exact rfl; exact g1; exact h1') | (apply OQ.len; exact Tryz.underlying22; exact rfl) | (apply OQ.move; exact rfl) | (apply OQ.assign; exact rfl) | (apply OQ.subN; exact rfl; exact rfl; exact (by (try simp only []); omega); exact (by (try simp only []); omega))) rfl rfl ?_ | refine FC.region ?_ | refine FL.nil ?_)
        exact FE.mid (by repeat (first | exact SubE.nil | refine SubE.cons _ _ _ rfl ?_))
    rw [show rawN (s.l.drop (atN s.l k)) = atN s.l (k + 1) - atN s.l k by omega]
    have hsum : atN s.l k + (atN s.l (k + 1) - atN s.l k) = atN s.l (k + 1) := by omega
    refine FC.seq (FC.seq (FC.region ?_))
    refine FL.q (OQ.move rfl) rfl rfl ?_
    refine FL.q (OQ.move rfl) rfl rfl ?_
    refine FL.q (load_fix rfl rfl g1 h1') rfl rfl ?_
    refine FL.q (OQ.move rfl) rfl rfl ?_
    refine FL.q (OQ.move rfl) rfl rfl ?_
    refine FL.q (OQ.move rfl) rfl rfl ?_
    refine FL.q (OQ.to (OQ.addN (a := atN s.l k) (b := atN s.l (k + 1) - atN s.l k) rfl rfl (by omega)) (congrArg N hsum)) rfl rfl ?_
    refine FL.q (OQ.mid8 (s := s) (lo := atN s.l k) (hi := atN s.l (k + 1)) Tryz.underlying22 u8s rfl rfl rfl hge hle2 hcap) rfl rfl ?_
    refine FL.yield2 (v := N (atN s.l k)) (v' := (s.mid (atN s.l k) (atN s.l (k + 1))).v) rfl rfl rfl rfl hYk ?_
    rintro e W' (⟨rfl, hJ', hk'⟩ | ⟨rfl, hX'⟩)
    · refine ⟨true, rfl, ?_⟩
      have g1' := (hk'.same b1 (by simp)).trans g1
      have ok' := ok_keep ok fun b hb => hk'.same b (by simp [hb])
      repeat (first | refine FL.q (by (apply OQ.not; exact rfl)) rfl rfl ?_ | refine FL.nil ?_ | refine FE.next ?_)
      refine FC.cond rfl (fun h => by cases h) (fun _ => ?_)
      refine FC.skip (FE.next (FC.region ?_))
      refine FL.q (OQ.move rfl) rfl rfl ?_
      refine FL.q (OQ.move rfl) rfl rfl ?_
      refine FL.q (OQ.to (OQ.addN (a := atN s.l k) (b := atN s.l (k + 1) - atN s.l k) rfl rfl (by omega)) (congrArg N hsum)) rfl rfl ?_
      repeat (first | refine FL.q (by (apply OQ.assign; exact rfl)) rfl rfl ?_ | refine FL.nil ?_ | refine FE.blk_normal ?_)
      exact FE.again (i := k) (k + 1) ⟨hkp, hJ', g1', ok'⟩ (by omega) (by repeat (first | exact SubE.nil | refine SubE.cons _ _ _ rfl ?_))
    · refine ⟨false, rfl, ?_⟩
      repeat (first | refine FL.q (by (apply OQ.not; exact rfl)) rfl rfl ?_ | refine FL.nil ?_ | refine FE.next ?_)
      refine FC.cond rfl (fun _ => ?_) (fun h => by cases h)
      refine FC.ret ?_
      repeat (first | refine FE.then_ret ?_ | refine FE.blk_ret ?_)
      exact FE.ret0 rfl ⟨⟨_, rfl⟩, .inr hX'⟩
  · have hkp : k = (linB s.l).length := by
      have : ¬ atN s.l k < s.l.length := of_decide_eq_false h
      have := mt (atN_lt s.l k).1 this
      omega
    clear h
    subst hkp
    repeat (first | refine FC.exit ?_ | refine FE.then_exit ?_ | refine FE.blk_hit ?_)
    exact FE.end0 rfl ⟨⟨_, rfl⟩, .inl hJk⟩
end Go.Proofs.YtbbmhkdfdgnkpaaGreatDoor

/-
  Of no statement by itself: slices of slices of bytes that begin as nil and are appended to; for any program P.
  Conditions: each rule's own hypotheses.
-/
namespace Go.Proofs.YtbbmhkdfdgnkpaaGreatDoor
open Sl
theorem JL.less {P : Program} {n : Nat} {w0 : World} {S : List Nat} {ops : Array Oper} {Q : Exit → Act → World → Prop} {l : List Oper} {E : Env} {M M' : List Ent} (hM : Less M' M) (h : JL P n w0 S ops Q l E M') : JL P n w0 S ops Q l E M :=
  ⟨fun a w ha hw => h.go a w ha (hw.weak hM)⟩
def accL (q : Acc) (rs : List Sl8) : SlL := match q with
  | none => ⟨none, 0, []⟩
  | some p => ⟨some ⟨p.1, 0, none⟩, p.2, rs⟩
theorem accL_v (q : Acc) (rs : List Sl8) : (accL q rs).v = accV q (rs.map Sl8.v).length := by
  cases q with
  | none => rfl
  | some p => show Value.slice _ rs.length _ = Value.slice _ (rs.map Sl8.v).length _; rw [List.length_map]; rfl
theorem accL_rs {q : Acc} {rs : List Sl8} (h : q = none → rs = []) : (accL q rs).rs = rs := by
  cases q with
  | none => exact (h rfl).symm
  | some p => rfl
theorem accL_ok {w0 w : World} {S : List Nat} {e : TypeId} {q : Acc} {rs : List Sl8} (hw : Holds w0 S (accE e q (rs.map Sl8.v) ++ flatE rs) w) (h0 : ∀ x ∈ rs, x.ad = none → x.l = []) : (accL q rs).ok w := by
  cases q with
  | none => exact ⟨Nat.le_refl _, Reads.nil _ _, fun y hy => by cases hy⟩
  | some p =>
    refine ownL_ok (e := e) (A := accE e (some p) (rs.map Sl8.v)) (wr := true) hw ?_ h0
    show Has (⟨p.1, Sl.Own e 1 (rs.map Sl8.v).length p.2 (rs.map Sl8.v), true⟩ :: flatE rs) _ _ _
    rw [List.length_map]
    exact .here
theorem flat_snoc {e : TypeId} (rs : List Sl8) (q : Acc) (l : List Bt) : Less (flatE (rs ++ [accS q l])) (flatE rs ++ accE e q (l.map U8)) := by
  unfold flatE
  rw [List.flatMap_append]
  refine less_app2 ?_ _
  show Less ((accS q l).ents ++ []) _
  rw [List.append_nil]
  exact accS_ents q l
theorem accV_cells (q : Acc) (k : Nat) : (accV q k).cells = #[accV q k] := by cases q <;> rfl
theorem accV_one (q : Acc) (k : Nat) : (accV q k).oneCell' = true := by cases q <;> rfl
end Go.Proofs.YtbbmhkdfdgnkpaaGreatDoor

/-
  Of no statement by itself: how long what stands between a boundary's lines may be; pure; no program stands here.
  Conditions: none.
-/
namespace Go.Proofs.YtbbmhkdfdgnkpaaGreatDoor
namespace Mim
open Fld
def sumL : List (List By × List By) → Nat
  | [] => 0
  | q :: r => q.1.length + q.2.length + sumL r
theorem linR_sum : ∀ b x : List By, sumL (linR b x) ≤ b.length + x.length ∧ (linR b x).length ≤ b.length + 1
  | [], x => by
    unfold linR
    split
    · exact ⟨Nat.zero_le _, Nat.zero_le _⟩
    · simp [sumL]
  | c :: b, x => by
    unfold linR
    split
    · obtain ⟨i1, i2⟩ := linR_sum b []
      simp only [List.length_nil, Nat.add_zero] at i1
      constructor
      · unfold sumL
        split
        · next h13 =>
          have : 0 < x.length := by cases x with
            | nil => cases h13
            | cons y x => simp
          simp only [List.length_dropLast, List.length_cons, List.length_nil]; omega
        · simp only [List.length_cons, List.length_nil]; omega
      · simp only [List.length_cons]; omega
    · obtain ⟨i1, i2⟩ := linR_sum b (x ++ [c])
      simp only [List.length_append, List.length_cons, List.length_nil] at i1 i2 ⊢
      omega
theorem colR_sum (bd : List By) : ∀ (r : List (List By × List By)) (p o : List By), (colR bd r p o).1.length + sumL (colR bd r p o).2 ≤ sumL r + p.length + o.length
  | [], p, o => by simp only [colR, sumL]; omega
  | (l, e) :: r, p, o => by
    unfold colR
    split
    · have := colR_sum bd r e (o ++ p ++ l)
      simp only [List.length_append, sumL] at this ⊢
      omega
    · simp only [sumL]; omega
theorem splL_sum (bd : List By) : ∀ (n : Nat) (r : List (List By × List By)) (out o : List (List By)), r.length ≤ n → splL bd r out = some o → o.length ≤ out.length + r.length ∧ ∀ y ∈ o, y ∈ out ∨ y.length ≤ sumL r := by
  intro n
  induction n with
  | zero =>
    intro r out o hr h
    obtain rfl : r = [] := List.eq_nil_of_length_eq_zero (by omega)
    rw [splL] at h
    cases h
  | succ n ih =>
    intro r out o hr h
    cases r with
    | nil => rw [splL] at h; cases h
    | cons q r =>
      obtain ⟨l, e⟩ := q
      rw [splL] at h
      have k1 := colR_len bd r [] []
      have k2 := colR_sum bd r [] []
      simp only [List.length_nil, Nat.add_zero, List.length_cons] at k2 hr
      split at h
      · obtain ⟨i1, i2⟩ := ih _ _ _ (by omega) h
        rw [List.length_append] at i1
        simp only [List.length_cons, List.length_nil] at i1
        refine ⟨by simp only [List.length_cons]; omega, fun y hy => ?_⟩
        rcases i2 y hy with hy | hy
        · rcases List.mem_append.1 hy with hy | hy
          · exact .inl hy
          · rw [List.mem_singleton.1 hy]; exact .inr (by simp only [sumL]; omega)
        · exact .inr (by simp only [sumL]; omega)
      · split at h
        · cases h
          exact ⟨Nat.le_add_right _ _, fun y hy => .inl hy⟩
        · cases h
theorem sum_drop (f : List By × List By → Bool) : ∀ r : List (List By × List By), sumL (r.dropWhile f) ≤ sumL r ∧ (r.dropWhile f).length ≤ r.length
  | [] => ⟨Nat.le_refl _, Nat.le_refl _⟩
  | q :: r => by
    rw [List.dropWhile_cons]
    obtain ⟨i1, i2⟩ := sum_drop f r
    split
    · simp only [sumL, List.length_cons]; omega
    · exact ⟨Nat.le_refl _, Nat.le_refl _⟩
end Mim
end Go.Proofs.YtbbmhkdfdgnkpaaGreatDoor

/-
  Of no statement by itself: atoms, values without comments, addresses, ids, parameters: pure; no program stands here.
  Conditions: none but each lemma's own.
-/
namespace Go.Proofs.YtbbmhkdfdgnkpaaGreatDoor
namespace Tok
open Fld
def inB (c : By) (s : List By) : Bool := s.any fun d => d == c
def spec : List By := [40, 41, 60, 62, 64, 44, 59, 58, 92, 34, 47, 91, 93, 63, 61, 46]
def plainB (c : By) : Bool := decide (33 ≤ c.toNat) && decide (c.toNat ≤ 126) && !inB c spec
def looseB (c : By) : Bool := plainB c || inB c [46, 47, 58, 63]
def atomB (s : List By) : Bool := s.all plainB && decide (0 < s.length)
def simpleB (s : List By) : Bool := s.all looseB && decide (0 < s.length)
/-! ### values without comments -/
/-- from a place on: how deep, inside of a quoted text or not, what is told so far -/
def bareR : List By → Nat → Bool → List By → List By × Nat
  | [], d, q, o => if 0 < d ∨ q = true then ([], 3) else (o, 0)
  | c :: r, d, q, o =>
    if c = 92 ∧ (0 < d ∨ q = true) then
      match r with
      | [] => ([], 3)
      | c2 :: r' => bareR r' d q (if q then o ++ [c, c2] else o)
    else if q then bareR r d (!(c == 34)) (o ++ [c])
    else if c = 40 then (if 9 < d + 1 then ([], 5) else bareR r (d + 1) q o)
    else if c = 41 then (if d = 0 then ([], 3) else bareR r (d - 1) q (if d - 1 = 0 then o ++ [32] else o))
    else if d = 0 then bareR r d (c == 34) (o ++ [c])
    else bareR r d q o
def bareB (s : List By) : List By × Nat := bareR s 0 false []
/-! ### addresses -/
/-- where a byte stands first, or the end -/
def fst (c : By) (s : List By) : Nat := (s.takeWhile fun d => !(d == c)).length
/-! ### ids -/
/-! ### parameters -/
def kindB (s : List By) : Bool := decide (fst 47 s < s.length) && (atomB (s.take (fst 47 s)) && atomB (s.drop (fst 47 s + 1)))
/-- a quoted text's bytes behind its first ", and what stands from its end on -/
def unqR : List By → List By → List By × List By
  | [], o => (o, [])
  | c :: r, o => if c = 34 then (o, c :: r) else if c = 92 then (match r with | [] => (o, []) | c2 :: r' => unqR r' (o ++ [c2])) else unqR r (o ++ [c])
def partB (s : List By) : Option (List By × List By) :=
  if fst 61 s = s.length then none
  else if atomB (trim (s.take (fst 61 s))) = false then none
  else if simpleB (trim (s.drop (fst 61 s + 1))) then some ((trim (s.take (fst 61 s))).map small, trim (s.drop (fst 61 s + 1)))
  else if (trim (s.drop (fst 61 s + 1))).length < 2 ∨ ¬ (trim (s.drop (fst 61 s + 1))).getD 0 0 = 34 then none
  else if (unqR (trim (s.drop (fst 61 s + 1))).tail []).2 = [34] ∧ (unqR (trim (s.drop (fst 61 s + 1))).tail []).1.all sok = true then
    some ((trim (s.take (fst 61 s))).map small, (unqR (trim (s.drop (fst 61 s + 1))).tail []).1)
  else none
/-- the parts between ; outside of quoted texts: those told so far, the one begun -/
def semR : List By → Bool → List By → List (List By)
  | [], _, x => [x]
  | c :: r, q, x =>
    if q = true ∧ c = 92 then
      match r with
      | [] => [x ++ [c]]
      | c2 :: r' => semR r' q (x ++ [c, c2])
    else if c = 34 then semR r (!q) (x ++ [c])
    else if c = 59 ∧ q = false then x :: semR r q []
    else semR r q (x ++ [c])
def semB (s : List By) : List (List By) := semR s false []
def paramsT (s : List By) : List By × List (List By × List By) × Nat :=
  if kindB (trim ((semB s).headD [])) = false then ([], [], 3)
  else match (semB s).tail.mapM partB with
    | none => ([], [], 3)
    | some l => ((trim ((semB s).headD [])).map small, l, 0)
def paramsB (s : List By) : List By × List (List By × List By) × Nat := if (bareB s).2 = 0 then paramsT (bareB s).1 else ([], [], (bareB s).2)
def rightP (k : List By) (l : List (List By × List By)) : Bool :=
  l.all (fun p => atomB p.1 && decide (p.1.map small = p.1) && p.2.all sok) && kindB k && decide (k.map small = k)
def esc (s : List By) : List By := s.flatMap fun c => if c = 34 ∨ c = 92 then [92, c] else [c]
def parW (p : List By × List By) : List By := [59, 32] ++ p.1 ++ [61] ++ (if simpleB p.2 then p.2 else [34] ++ esc p.2 ++ [34])
def writeB (k : List By) (l : List (List By × List By)) : List By := k ++ l.flatMap parW
/-! ### from byte to byte -/
theorem bare_cons (c : Fld.By) (r : List Fld.By) (d : Nat) (q : Bool) (o : List Fld.By) (h : ¬ (c = 92 ∧ (0 < d ∨ q = true))) : bareR (c :: r) d q o = if q then bareR r d (!(c == 34)) (o ++ [c])
    else if c = 40 then (if 9 < d + 1 then ([], 5) else bareR r (d + 1) q o)
    else if c = 41 then (if d = 0 then ([], 3) else bareR r (d - 1) q (if d - 1 = 0 then o ++ [32] else o))
    else if d = 0 then bareR r d (c == 34) (o ++ [c])
    else bareR r d q o := by
  conv => lhs; rw [bareR.eq_def]
  dsimp only
  rw [if_neg h]
theorem bare_q92 (c2 : Fld.By) (r : List Fld.By) (d : Nat) (o : List Fld.By) : bareR (92 :: c2 :: r) d true o = bareR r d true (o ++ [92] ++ [c2]) := by simp [bareR]
theorem bare_q92e (d : Nat) (o : List Fld.By) : bareR [92] d true o = ([], 3) := by simp [bareR]
theorem bare_q {c : Fld.By} (h : ¬ c = 92) (r : List Fld.By) (d : Nat) (o : List Fld.By) : bareR (c :: r) d true o = bareR r d (!(c == 34)) (o ++ [c]) := by rw [bare_cons _ _ _ _ _ (fun k => h k.1), if_pos rfl]
theorem bare_d92 {d : Nat} (h : 0 < d) (c2 : Fld.By) (r : List Fld.By) (o : List Fld.By) : bareR (92 :: c2 :: r) d false o = bareR r d false o := by simp [bareR, h]
theorem bare_d92e {d : Nat} (h : 0 < d) (o : List Fld.By) : bareR [92] d false o = ([], 3) := by simp [bareR, h]
theorem bare_40 (r : List Fld.By) (d : Nat) (o : List Fld.By) : bareR (40 :: r) d false o = if 9 < d + 1 then ([], 5) else bareR r (d + 1) false o := by
  rw [bare_cons _ _ _ _ _ (by rintro ⟨h, _⟩; revert h; decide), if_neg (by decide), if_pos rfl]
theorem bare_41 (r : List Fld.By) (d : Nat) (o : List Fld.By) : bareR (41 :: r) d false o = if d = 0 then ([], 3) else bareR r (d - 1) false (if d - 1 = 0 then o ++ [32] else o) := by
  rw [bare_cons _ _ _ _ _ (by rintro ⟨h, _⟩; revert h; decide), if_neg (by decide), if_neg (by decide), if_pos rfl]
theorem bare_0 {c : Fld.By} (h1 : ¬ c = 40) (h2 : ¬ c = 41) (r : List Fld.By) (o : List Fld.By) : bareR (c :: r) 0 false o = bareR r 0 (c == 34) (o ++ [c]) := by
  rw [bare_cons _ _ _ _ _ (by rintro ⟨_, h | h⟩; exact absurd h (by decide); cases h), if_neg (by decide), if_neg h1, if_neg h2, if_pos rfl]
theorem bare_s {c : Fld.By} {d : Nat} (h0 : ¬ c = 92) (h1 : ¬ c = 40) (h2 : ¬ c = 41) (hd : ¬ d = 0) (r : List Fld.By) (o : List Fld.By) : bareR (c :: r) d false o = bareR r d false o := by
  rw [bare_cons _ _ _ _ _ (fun k => h0 k.1), if_neg (by decide), if_neg h1, if_neg h2, if_neg hd]
theorem bare_end (d : Nat) (q : Bool) (o : List Fld.By) : bareR [] d q o = if (decide ((0 : Int) < (d : Int)) || q) = true then ([], 3) else (o, 0) := by
  rw [bareR]
  congr 1
  rw [Bool.or_eq_true, decide_eq_true_eq]
  exact propext (or_congr (by omega) Iff.rfl)
theorem bare_len : ∀ (n : Nat) (r : List Fld.By) (d : Nat) (q : Bool) (o : List Fld.By), r.length ≤ n → (bareR r d q o).1.length ≤ o.length + r.length := by
  intro n
  induction n with
  | zero =>
    intro r d q o h
    obtain rfl : r = [] := List.eq_nil_of_length_eq_zero (by omega)
    rw [bare_end]
    split <;> simp
  | succ n ih =>
    intro r d q o h
    match r, h with
    | [], _ => rw [bare_end]; split <;> simp
    | c :: r, h =>
      simp only [List.length_cons] at h ⊢
      by_cases h9 : c = 92 ∧ (0 < d ∨ q = true)
      · obtain ⟨rfl, hq⟩ := h9
        match r, h with
        | [], _ =>
          cases q
          · rw [bare_d92e (by simpa using hq)]; simp
          · rw [bare_q92e]; simp
        | c2 :: r, h =>
          simp only [List.length_cons] at h ⊢
          cases q
          · rw [bare_d92 (by simpa using hq)]
            have := ih r d false o (by omega)
            omega
          · rw [bare_q92]
            have := ih r d true (o ++ [92] ++ [c2]) (by omega)
            simp only [List.length_append, List.length_cons, List.length_nil] at this
            omega
      · rw [bare_cons c r d q o h9]
        have h0 := ih r d (!(c == 34)) (o ++ [c]) (by omega)
        have h1 := ih r (d + 1) q o (by omega)
        have h2 := ih r (d - 1) q (if d - 1 = 0 then o ++ [32] else o) (by omega)
        have h3 := ih r d (c == 34) (o ++ [c]) (by omega)
        have h4 := ih r d q o (by omega)
        have h5 : (if d - 1 = 0 then o ++ [32] else o).length ≤ o.length + 1 := by split <;> simp
        simp only [List.length_append, List.length_cons, List.length_nil] at h0 h3
        generalize (if d - 1 = 0 then o ++ [32] else o) = o2 at h2 h5 ⊢
        split
        · omega
        split
        · split
          · simp
          · omega
        split
        · split
          · simp
          · omega
        split
        · omega
        · omega
theorem bareB_len (s : List Fld.By) : (bareB s).1.length ≤ s.length := by
  have := bare_len s.length s 0 false [] (Nat.le_refl _)
  simp only [List.length_nil, Nat.zero_add] at this
  exact this
theorem unq_34 (r o : List Fld.By) : unqR (34 :: r) o = (o, 34 :: r) := by rw [unqR.eq_def]; rfl
theorem unq_92e (o : List Fld.By) : unqR [92] o = (o, []) := by rw [unqR.eq_def]; rfl
theorem unq_92 (c2 : Fld.By) (r o : List Fld.By) : unqR (92 :: c2 :: r) o = unqR r (o ++ [c2]) := by
  conv => lhs; rw [unqR.eq_def]
  rfl
theorem unq_c {c : Fld.By} (h1 : ¬ c = 34) (h2 : ¬ c = 92) (r o : List Fld.By) : unqR (c :: r) o = unqR r (o ++ [c]) := by
  conv => lhs; rw [unqR.eq_def]
  dsimp only
  rw [if_neg h1, if_neg h2]
theorem unq_e (o : List Fld.By) : unqR [] o = (o, []) := rfl
end Tok
end Go.Proofs.YtbbmhkdfdgnkpaaGreatDoor

/-
  Of no statement by itself: what the reference's in, Plain, Loose, Atom, Simple, Value and Lower (layer 10) give.
  Conditions: each theorem's own.
-/
namespace Go.Proofs.YtbbmhkdfdgnkpaaGreatDoor
set_option maxRecDepth 10000
open Sl Fld Tok
theorem idxAt10 {s : List Fld.By} {i : Nat} (h : i < s.length) {n : Nat} {E : Env} {C : World → Prop} {dst : Option Tmp} {ty : TypeId} {pos : String} {aft : Array Edge} {g : Option (Nat × Bool)} {x y : Operand} (hx : ev E x = some (Z s)) (hy : ev E y = some (N i)) : OQ Tryz.prog n E C ⟨dst, .index 9 x y, ty, pos, aft, g⟩ (U8 (s.getD i 0)) := OQ.idxZ Tryz.underlying9 hx hy h
end Go.Proofs.YtbbmhkdfdgnkpaaGreatDoor

/-
  Of no statement by itself: what the reference's Boundary and mark (layer 12) give.
  Conditions: each theorem's own.
-/
namespace Go.Proofs.YtbbmhkdfdgnkpaaGreatDoor
set_option maxRecDepth 10000
open Sl Fld Tok Mim
end Go.Proofs.YtbbmhkdfdgnkpaaGreatDoor

/-
  Of no statement by itself: what the reference's Lines (layer 12) gives.
  Conditions: each theorem's own.
-/
namespace Go.Proofs.YtbbmhkdfdgnkpaaGreatDoor
set_option maxRecDepth 10000
open Sl Fld Mim
namespace Mim
end Mim
structure LnT where
  i : Nat
  rs : List Sl8
  es : List Sl8
  zs : List Sl8
  b1 : Nat
  c1 : Nat
  b2 : Nat
  c2 : Nat
  b3 : Nat
  c3 : Nat
end Go.Proofs.YtbbmhkdfdgnkpaaGreatDoor

/-
  Of no statement by itself: loops whose rounds leave worlds that are the new beginning; over X's partial knowledge, for any program P.
  Conditions: each rule's own hypotheses.
-/
namespace Go.Proofs.YtbbmhkdfdgnkpaaGreatDoor
open Sl
theorem JC.reb {P : Program} {n : Nat} {w0 : World} {S S' : List Nat} {Q : Exit → Act → World → Prop} {c : Code} {E : Env} {M M' : List Ent} (hM : ∀ w1, Holds w0 S M w1 → Holds w1 S' M' w1) (h : ∀ w1, Holds w0 S M w1 → JC P n w1 S' Q c E M') : JC P n w0 S Q c E M :=
  ⟨fun a w ha hw => (h w hw).go a w ha (hM w hw)⟩
end Go.Proofs.YtbbmhkdfdgnkpaaGreatDoor

/-
  Of no statement by itself: what the reference's Split (layer 12) gives.
  Conditions: each theorem's own.
-/
namespace Go.Proofs.YtbbmhkdfdgnkpaaGreatDoor
set_option maxRecDepth 10000
open Sl Fld Mim
theorem bsC12 : scal Tryz.prog 22 = true := by kernel_rfl
theorem sleS : szT Tryz.prog 22 = some 1 := by kernel_rfl
theorem SlL.ok.at {w : World} {s : SlL} (h : s.ok w) {i : Nat} (hi : i < s.rs.length) : ∃ b j, s.ad = some ⟨b, j, none⟩ ∧ b < w.heap.size ∧ w.cell? ⟨b, j + i, none⟩ = some (s.rs.getD i nilS).v ∧ (s.rs.getD i nilS).ok w := by
  have h1 : (s.rs.map Sl8.v)[i]? = some (s.rs.getD i nilS).v := map_at Sl8.v nilS hi
  obtain ⟨b, j, e1, c1⟩ := h.reads _ _ h1
  refine ⟨b, j, e1, block_lt_of_cell c1, c1, h.all _ ?_⟩
  rw [List.getD_eq_getElem?_getD, List.getElem?_eq_getElem hi]
  exact List.getElem_mem hi
theorem ls_at {α : Type} {s : SlL} {xs : List α} {f : α → List Bt} {d : α} (h : s.ls = xs.map f) {i : Nat} (hi : i < xs.length) : i < s.rs.length ∧ (s.rs.getD i nilS).l = f (xs.getD i d) := by
  have hl : s.rs.length = xs.length := by rw [← List.length_map (f := Sl8.l)]; show s.ls.length = _; rw [h, List.length_map]
  refine ⟨by omega, ?_⟩
  have h1 : (s.rs.map Sl8.l)[i]? = (xs.map f)[i]? := by show s.ls[i]? = _; rw [h]
  rw [List.getElem?_map, List.getElem?_map, List.getElem?_eq_getElem hi, List.getElem?_eq_getElem (show i < s.rs.length by omega)] at h1
  rw [List.getD_eq_getElem?_getD, List.getD_eq_getElem?_getD, List.getElem?_eq_getElem hi, List.getElem?_eq_getElem (show i < s.rs.length by omega)]
  exact Option.some.inj h1
theorem drop_at {α : Type} {xs : List α} {i : Nat} (d : α) (h : i < xs.length) : xs.drop i = xs.getD i d :: xs.drop (i + 1) := by
  rw [List.drop_eq_getElem_cons h, List.getD_eq_getElem?_getD, List.getElem?_eq_getElem h]; rfl
theorem mark_le (bd s : List Fld.By) : markB bd s = 0 ∨ markB bd s = 1 ∨ markB bd s = 2 := by
  unfold markB
  split
  · exact .inr (.inl rfl)
  · split
    · exact .inr (.inr rfl)
    · exact .inl rfl
theorem splL_1 {bd l e : List Fld.By} {r : List (List Fld.By × List Fld.By)} {o : List (List Fld.By)} (h : markB bd l = 1) : splL bd ((l, e) :: r) o = splL bd (colR bd r [] []).2 (o ++ [(colR bd r [] []).1]) := by
  rw [splL]; simp [h]
theorem splL_2 {bd l e : List Fld.By} {r : List (List Fld.By × List Fld.By)} {o : List (List Fld.By)} (h : markB bd l = 2) : splL bd ((l, e) :: r) o = some o := by
  rw [splL]; simp [h]
def spOut (o : Option (List (List Fld.By))) : List (List Fld.By) × Nat := match o with
  | none => ([], 3)
  | some out => (out, 0)
theorem spltB_is (b : List Fld.By) {bd : List Fld.By} (h : boundB bd = true) : spltB b bd = spOut (splL bd ((linB b).dropWhile fun x => markB bd x.1 != 1) []) := by
  unfold spltB spOut
  rw [if_neg (by rw [h]; decide)]
  cases splL bd ((linB b).dropWhile fun x => markB bd x.1 != 1) [] <;> rfl
structure SpT where
  i : Nat
  os : List Sl8
  zs : List Sl8
  bo : Nat
  co : Nat
structure PtT where
  i : Nat
  o : List Bt
  b : Nat
  c : Nat
end Go.Proofs.YtbbmhkdfdgnkpaaGreatDoor

/-
  Of no statement by itself: what the landed mime's Split gives.
  Conditions: each theorem's own.
-/
namespace Go.Proofs.YtbbmhkdfdgnkpaaGreatDoor
set_option maxRecDepth 10000
open Sl Fld Mim
/-- slices of bytes as an answer: a slice of them, each one's bytes in memory of its own -/
structure SpA (out : List (List Bt)) where
  q : Acc
  rs : List Sl8
  hrs : rs.map Sl8.l = out
  hq : q = none → rs = []
  h0 : ∀ x ∈ rs, x.ad = none → x.l = []
def SpA.v {out : List (List Bt)} (z : SpA out) : Value := accV z.q (z.rs.map Sl8.v).length
def SpA.ents {out : List (List Bt)} (z : SpA out) : List Ent := accE 22 z.q (z.rs.map Sl8.v) ++ flatE z.rs
theorem SpA.wr {out : List (List Bt)} (z : SpA out) : ∀ e ∈ z.ents, e.wr = true := fun e he => by
  rcases List.mem_append.1 he with h | h
  · exact accE_wr _ _ _ e h
  · obtain ⟨x, _, hx⟩ := List.mem_flatMap.1 h
    exact x.ents_wr e hx
theorem goes_msplitL : Goes Tryz.prog 8 := ⟨_, Tryz.func8, rfl, by kernel_rfl⟩
theorem mixMi : Tryz.prog.follows .mixedOrders = true := by kernel_rfl
theorem lsZ : zc Tryz.prog 24 = some [.slice none 0 0] := by kernel_rfl
theorem erZ : zc Tryz.prog 25 = some [.int .i64 0] := by kernel_rfl
theorem stZ : zc Tryz.prog 9 = some [Z []] := by kernel_rfl
theorem boZ : zc Tryz.prog 4 = some [.bool false] := by kernel_rfl
theorem inZ : zc Tryz.prog 3 = some [.int .i64 0] := by kernel_rfl
theorem lsS : szT Tryz.prog 24 = some 1 := by kernel_rfl
theorem erS : szT Tryz.prog 25 = some 1 := by kernel_rfl
theorem stS12 : szT Tryz.prog 9 = some 1 := by kernel_rfl
theorem inS12 : szT Tryz.prog 3 = some 1 := by kernel_rfl
theorem bsS12 : szT Tryz.prog 22 = some 1 := by kernel_rfl
theorem lsC : scal Tryz.prog 24 = true := by kernel_rfl
theorem erC : scal Tryz.prog 25 = true := by kernel_rfl
theorem stC12 : scal Tryz.prog 9 = true := by kernel_rfl
theorem inC12 : scal Tryz.prog 3 = true := by kernel_rfl
theorem bsC8 : scal Tryz.prog 22 = true := by kernel_rfl
theorem slE12 : EI Tryz.prog 22 (.slice none 0 0) 1 24 := by unfold EI; kernel_rfl
/-- how far the loop is -/
structure SpZ where
  st : Option Nat
  q : Acc
  rs : List Sl8
section
variable (s : Sl8) (bd : List Bt) (be b2 b4 b5 b6 b7 b8 b9 b10 : Nat)
def spA (z : SpZ) : List Ent := [⟨be, Row 22 [s.v], false⟩, ⟨b10, Row 3 [N (z.st.getD 0)], true⟩, ⟨b9, Row 4 [.bool z.st.isSome], true⟩]
def spB : List Ent := [⟨b7, Row 9 [Z (45 :: 45 :: (bd ++ [45, 45]))], true⟩, ⟨b6, Row 9 [Z (45 :: 45 :: bd)], true⟩, ⟨b5, Row 25 [.int .i64 0], true⟩, ⟨b4, Row 24 [.slice none 0 0], true⟩, ⟨b2, Row 22 [s.v], true⟩]
def spM (z : SpZ) : List Ent := spA s be b9 b10 z ++ ⟨b8, Row 24 [accV z.q (z.rs.map Sl8.v).length], true⟩ :: (spB s bd b2 b4 b5 b6 b7 ++ (accE 22 z.q (z.rs.map Sl8.v) ++ flatE z.rs))
def spX (z : SpZ) : List Ent := ⟨b5, Row 25 [.int .i64 0], true⟩ :: ⟨b4, Row 24 [accV z.q (z.rs.map Sl8.v).length], true⟩ :: (accE 22 z.q (z.rs.map Sl8.v) ++ flatE z.rs)
end
def spI (s : Sl8) (bd : List Bt) (k : Nat) (z : SpZ) : Prop := ScanB bd s.l (atN s.l k) z.st (z.rs.map Sl8.l) ∧ (z.q = none → z.rs = []) ∧ (∀ x ∈ z.rs, x.ad = none → x.l = []) ∧ z.rs.length ≤ k
def spF (s : Sl8) (bd : List Bt) (z : SpZ) : Prop := goalB bd s.l = some (z.rs.map Sl8.l) ∧ (z.q = none → z.rs = []) ∧ (∀ x ∈ z.rs, x.ad = none → x.l = [])
theorem cells_row {e : TypeId} {l : List Value} : ∀ o, Row e l o → o.isCells = true := by rintro o rfl; rfl
theorem cells_own {e : TypeId} {k sz cap : Nat} {l : List Value} : ∀ o, Sl.Own e sz k cap l o → o.isCells = true := by rintro o ⟨_, rfl, _⟩; rfl
theorem cells_accE {e : TypeId} {q : Acc} {l : List Value} : ∀ x ∈ accE e q l, ∀ o, x.A o → o.isCells = true := by
  intro x hx o hA
  cases q with
  | none => cases hx
  | some p =>
    rw [List.mem_singleton.1 hx] at hA
    exact cells_own o hA
theorem cells_ents {x : Sl8} : ∀ e ∈ x.ents, ∀ o, e.A o → o.isCells = true := by
  intro e he o hA
  obtain ⟨ad, cap, l⟩ := x
  cases ad with
  | none => cases he
  | some a =>
    unfold Sl8.ents at he
    rw [List.mem_singleton.1 he] at hA
    obtain ⟨⟨c, e, fr, rfl, _⟩, _⟩ := hA
    rfl
theorem cells_flat {rs : List Sl8} : ∀ e ∈ flatE rs, ∀ o, e.A o → o.isCells = true := by
  intro e he o hA
  obtain ⟨x, _, hx⟩ := List.mem_flatMap.1 he
  exact cells_ents e hx o hA
theorem has_left {M N : List Ent} {b : Nat} {A : Obj → Prop} {wr : Bool} (h : Has M b A wr) : Has (M ++ N) b A wr := by
  induction h with
  | here => exact .here
  | there _ ih => exact .there ih
theorem has_right (N : List Ent) {M : List Ent} {b : Nat} {A : Obj → Prop} {wr : Bool} (h : Has M b A wr) : Has (N ++ M) b A wr := by
  induction N with
  | nil => exact h
  | cons e N ih => exact .there ih
theorem less_eq {M M' : List Ent} (h : M' = M) : Less M' M := h ▸ Less.refl _
theorem less_nilR (M : List Ent) : Less (M ++ []) M := by
  rw [List.append_nil]
  exact Less.refl _
theorem less_nilL (M : List Ent) : Less M (M ++ []) := by
  rw [List.append_nil]
  exact Less.refl _
theorem mark_1 {bd x : List Fld.By} : markB bd x = 1 ↔ cutR x = 45 :: 45 :: bd := by
  unfold markB
  by_cases h1 : cutR x = 45 :: 45 :: bd
  · rw [if_pos h1]; exact ⟨fun _ => h1, fun _ => rfl⟩
  · rw [if_neg h1]
    refine ⟨fun h => ?_, fun h => absurd h h1⟩
    split at h <;> cases h
theorem mark_2 {bd x : List Fld.By} : markB bd x = 2 ↔ cutR x = 45 :: 45 :: (bd ++ [45, 45]) := by
  unfold markB
  by_cases h1 : cutR x = 45 :: 45 :: bd
  · rw [if_pos h1, h1]
    refine ⟨fun h => absurd h (by decide), fun h => ?_⟩
    have := congrArg List.length h
    simp at this
  · rw [if_neg h1]
    by_cases h2 : cutR x = 45 :: 45 :: (bd ++ [45, 45])
    · rw [if_pos h2]; exact ⟨fun _ => h2, fun _ => rfl⟩
    · rw [if_neg h2]; exact ⟨fun h => absurd h (by decide), fun h => absurd h h2⟩
theorem scan_le {bd b : List Fld.By} {k bg : Nat} {out : List (List Fld.By)} (h : ScanB bd b k (some bg) out) : bg ≤ k := h.1
theorem mid_len (s : Sl8) (lo hi : Nat) : (s.mid lo hi).l.length ≤ s.l.length := by
  show ((s.l.take hi).drop lo).length ≤ _
  rw [List.length_drop, List.length_take]
  omega
set_option maxHeartbeats 64000000 in
theorem msplit_any (s : Sl8) (bd : List Bt) (w : World) (hs : s.ok w) (hl : s.l.length ≤ 1073741824) (hb : bd.length ≤ 1000) : Calls Tryz.prog 8 [s.v, Z bd].toArray w fun e w' => ∃ z : SpA (spltB s.l bd).1, e = .returned (.tuple #[z.v, N (spltB s.l bd).2]) ∧ Holds w [] z.ents w' := by
  have hN : (linB s.l).length ≤ s.l.length + 1 := (linR_sum s.l []).2
  refine enterM (n := 64) Tryz.func8 rfl rfl rfl (Holds.start w []) ?_
  refine JC.seq (JC.region (JL.box (r := [s.v]) rfl rfl rfl fun b2 _ => ?_))
  refine JL.alloc lsZ rfl fun b4 _ => ?_
  refine JL.alloc erZ rfl fun b5 _ => ?_
  have cb := fun w' => mbnd_any bd w' (by omega)
  cases hB : boundB bd
  · rw [hB] at cb
    have e1 : spltB s.l bd = ([], 1) := by
      unfold spltB
      rw [if_pos hB]
    rw [e1]
    repeat (first | refine JL.q (by first | (apply OQ.callx (vs := [Z bd]); exact goes_mbnd; exact rfl; exact (fun w' _ => cb w')) | (apply OQ.not; exact rfl) | (apply OQ.move; exact rfl)) rfl ?_ | refine JC.seq ?_ | refine JC.region ?_ | refine JL.nil ?_ | refine JE.next ?_)
    refine JC.cond rfl (fun _ => ?_) (fun h => by cases h)
    refine JC.seq (JC.region ?_)
    refine JL.store_eq (v := .slice none 0 0) (r' := [.slice none 0 0]) lsS rfl rfl rfl rfl (.there .here) (by decide) rfl ?_
    refine JL.store_eq (v := .int .i64 1) (r' := [.int .i64 1]) erS rfl rfl rfl rfl .here (by decide) rfl ?_
    refine JL.nil (JE.next ?_)
    refine JC.ret ?_
    refine JE.then_ret ?_
    refine JE.ret2M rfl (RV.cell rfl lsC (.there .here) (Row.cell (v := .slice none 0 0) rfl)) (RV.cell rfl erC .here (Row.cell (v := .int .i64 1) rfl)) fun w' hw => ?_
    exact ⟨⟨none, [], rfl, fun _ => rfl, by simp⟩, rfl, hw.weak (.nil _)⟩
  rw [hB] at cb
  have hsp := splt_goal (b := s.l) hB
  rw [hsp]
  clear hsp
  have e2 := fun w' => mbetw_any bd w' (by omega)
  have e3 := fun w' => mlastl_any bd w' (by omega)
  repeat (first | refine JL.q (by first | (apply OQ.callx (vs := [Z bd]); exact goes_mbnd; exact rfl; exact (fun w' _ => cb w')) | (apply OQ.not; exact rfl) | (apply OQ.move; exact rfl)) rfl ?_ | refine JC.seq ?_ | refine JC.region ?_ | refine JL.nil ?_ | refine JE.next ?_)
  refine JC.cond rfl (fun h => by cases h) (fun _ => ?_)
  repeat (first | refine JL.q (by first | (apply OQ.callx (vs := [Z bd]); exact goes_mbetw; exact rfl; exact (fun w' _ => e2 w')) | (apply OQ.callx (vs := [Z bd]); exact goes_mlastl; exact rfl; exact (fun w' _ => e3 w')) | (apply OQ.move; exact rfl)) rfl ?_ | refine JC.seq ?_ | refine JC.region ?_ | refine JC.skip ?_ | refine JE.next ?_)
  refine JL.alloc stZ rfl fun b6 _ => ?_
  refine JL.alloc stZ rfl fun b7 _ => ?_
  refine JL.store_eq (v := Z (45 :: 45 :: bd)) (r' := [Z (45 :: 45 :: bd)]) stS12 rfl rfl rfl rfl (.there .here) (by decide) rfl ?_
  refine JL.store_eq (v := Z (45 :: 45 :: (bd ++ [45, 45]))) (r' := [Z (45 :: 45 :: (bd ++ [45, 45]))]) stS12 rfl rfl rfl rfl .here (by decide) rfl ?_
  repeat (first | refine JC.seq ?_ | refine JC.region ?_ | refine JL.nil ?_ | refine JE.next ?_)
  refine JL.alloc lsZ rfl fun b8 _ => ?_
  repeat (first | refine JC.seq ?_ | refine JC.region ?_ | refine JL.nil ?_ | refine JE.next ?_)
  refine JL.alloc boZ rfl fun b9 _ => ?_
  refine JL.alloc inZ rfl fun b10 _ => ?_
  refine JL.store_eq (v := .bool false) (r' := [.bool false]) boS rfl rfl rfl rfl (.there .here) (by decide) rfl ?_
  refine JL.store_eq (v := .int .i64 0) (r' := [.int .i64 0]) inS12 rfl rfl rfl rfl .here (by decide) rfl ?_
  repeat (first | refine JL.q (by (apply OQ.load; exact bsC8; exact rfl; exact (by repeat (first | exact Has.here | apply Has.there)); exact (Row.cell (v := s.v) rfl))) rfl ?_ | refine JC.seq ?_ | refine JC.region ?_ | refine JL.nil ?_ | refine JE.next ?_)
  refine JL.callg (ι := Nat) (vs := [s.v]) (fun b => eachF b) (fun b => [⟨b, Row 22 [s.v], true⟩]) goes_each rfl rfl (fun b e he => by rw [List.mem_singleton.1 he]) (fun w' _ => each_any s w') fun be => ?_
  repeat (first | refine JC.block ?_ | refine JL.nil ?_ | refine JE.next ?_)
  refine JC.rangeN (ι := SpZ) (κ := SpZ) (encL s) (be :: blkS s) (linB s.l).length (spM s bd be b2 b4 b5 b6 b7 b8 b9 b10) (spI s bd) (spX b4 b5) (spF s bd) rfl (enters_of Tryz.func28 (by kernel_rfl) rfl) ?hseq ?hcell ?hcelx ?hL ⟨none, none, []⟩ ⟨scan_start bd s.l, fun _ => rfl, by simp, Nat.le_refl _⟩ ?hMz rfl rfl rfl rfl (fun _ _ => rfl) (fun _ _ => rfl) ?hbody ?hdone ?hstop
  case hseq =>
    intro W hW
    obtain ⟨o1, h1, h1'⟩ := hW.get (b := be) (A := Row 22 [s.v]) (wr := true) (by repeat (first | exact Has.here | apply Has.there))
    exact each_stops s be (by omega) W (hs.holds hW rfl) h1 (Row.cell rfl _ h1')
  case hcell =>
    intro z e he o hA
    unfold spM spA spB at he
    simp only [List.mem_cons, List.mem_append, List.not_mem_nil, or_false] at he
    rcases he with (rfl | rfl | rfl) | rfl | (rfl | rfl | rfl | rfl | rfl) | h | h
    all_goals first | exact cells_row o hA | skip
    · exact cells_accE e h o hA
    · exact cells_flat e h o hA
  case hcelx =>
    intro z e he o hA
    unfold spX at he
    simp only [List.mem_cons, List.mem_append] at he
    rcases he with rfl | rfl | h | h
    · exact cells_row o hA
    · exact cells_row o hA
    · exact cells_accE e h o hA
    · exact cells_flat e h o hA
  case hL =>
    intro z k hk
    rcases List.mem_cons.1 hk with rfl | hk
    · exact .inr ⟨_, by unfold spM spA spB; exact (by repeat (first | exact Has.here | apply Has.there))⟩
    · exact .inl (blkS_lt hs k hk)
  case hMz =>
    intro w' hw'
    exact hw'.weak2 (.keep _ _ _ _ _ _ _ (fun _ h => h) (by simp) (.keep _ _ _ _ _ _ _ (fun _ h => h) (by simp) (.keep _ _ _ _ _ _ _ (fun _ h => h) (by simp) (.keep _ _ _ _ _ _ _ (fun _ h => h) (by simp) (.keep _ _ _ _ _ _ _ (fun _ h => h) (by simp) (.keep _ _ _ _ _ _ _ (fun _ h => h) (by simp) (.keep _ _ _ _ _ _ _ (fun _ h => h) (by simp) (.keep _ _ _ _ _ _ _ (fun _ h => h) (by simp) (.keep _ _ _ _ _ _ _ (fun _ h => h) (by simp) (.nil _))))))))))
  case hbody =>
    rintro l k ⟨st, q, rs⟩ w1 ⟨hsc, hq, h0, hrl⟩ hk hx hge
    dsimp only at hsc hq h0 hrl
    have hat : atN s.l k < s.l.length := (atN_lt s.l k).1 hk
    have hle2 := atN_le s.l (k + 1)
    have hge2 : atN s.l k ≤ atN s.l (k + 1) := Nat.le_add_right _ _
    have hcap := hs.len
    have oks : ∀ {M'} w', Holds w1 (wrs (spM s bd be b2 b4 b5 b6 b7 b8 b9 b10 ⟨st, q, rs⟩)) M' w' → s.ok w' := fun w' hw' => hs.ext (hw'.rebound hx hge)
    generalize wrs (spM s bd be b2 b4 b5 b6 b7 b8 b9 b10 ⟨st, q, rs⟩) = S1 at oks ⊢
    have hyl : (s.mid (atN s.l k) (atN s.l (k + 1))).l = lineB s.l (atN s.l k) := line_raw s k
    have hyn := mid_len s (atN s.l k) (atN s.l (k + 1))
    have hyN : (s.mid (atN s.l k) (atN s.l (k + 1))).l.length = atN s.l (k + 1) - atN s.l k := by
      show ((s.l.take (atN s.l (k + 1))).drop (atN s.l k)).length = _
      rw [List.length_drop, List.length_take]
      omega
    have oky : ∀ {M'} w', Holds w1 S1 M' w' → (s.mid (atN s.l k) (atN s.l (k + 1))).ok w' := fun w' hw' => (oks w' hw').mid hge2 hle2
    show JR _ _ _ _ _ _ _ _ ((12, (s.mid (atN s.l k) (atN s.l (k + 1))).v) :: (11, N (atN s.l k)) :: _) _
    generalize (s.mid (atN s.l k) (atN s.l (k + 1))) = y at hyl hyn hyN oky ⊢
    have n1 : (wendB y.l).length ≤ y.l.length := by
      obtain ⟨m, _, e⟩ := wend_take y.l
      rw [e, List.length_take]
      omega
    have ok1 : ∀ {M'} w', Holds w1 S1 M' w' → (y.hd (wendB y.l)).ok w' := fun w' hw' => wend_ok (oky w' hw')
    have ok2 : ∀ {M'} w', Holds w1 S1 M' w' → ((y.hd (wendB y.l)).hd (cutR (wendB y.l))).ok w' := fun w' hw' => by
      obtain ⟨m, _, e⟩ := cutR_take (wendB y.l)
      rw [e]
      exact Sl8.hd_ok (ok1 w' hw') m
    have c28 : ∀ {M'} w', Holds w1 S1 M' w' → Calls Tryz.prog 21 [y.v].toArray w' fun e w2 => e = .returned (y.hd (wendB y.l)).v ∧ Ext w' w2 := fun w' hw' => mwend_any y w' (oky w' hw') (by omega)
    have c29 : ∀ {M'} w', Holds w1 S1 M' w' → Calls Tryz.prog 20 [(y.hd (wendB y.l)).v, Z [32, 9]].toArray w' fun e w2 => e = .returned ((y.hd (wendB y.l)).hd (cutR (wendB y.l))).v ∧ Ext w' w2 := fun w' hw' => btr_any (y.hd (wendB y.l)) w' (ok1 w' hw') (by show (wendB y.l).length < _; omega)
    refine JR.perm (M' := ⟨b8, Row 24 [accV q (rs.map Sl8.v).length], true⟩ :: ([⟨be, Row 22 [s.v], false⟩, ⟨b10, Row 3 [N (st.getD 0)], true⟩, ⟨b9, Row 4 [.bool st.isSome], true⟩, ⟨b7, Row 9 [Z (45 :: 45 :: (bd ++ [45, 45]))], true⟩, ⟨b6, Row 9 [Z (45 :: 45 :: bd)], true⟩, ⟨b5, Row 25 [.int .i64 0], true⟩, ⟨b4, Row 24 [.slice none 0 0], true⟩, ⟨b2, Row 22 [s.v], true⟩] ++ (accE 22 q (rs.map Sl8.v) ++ flatE rs))) List.perm_middle ?_
    repeat (first | refine JL.q (by first | (apply OQ.callx (vs := [y.v]); exact goes_mwend; exact rfl; exact c28) | (apply OQ.callx (vs := [(y.hd (wendB y.l)).v, Z [32, 9]]); exact goes_btr; exact rfl; exact c29) | (apply OQ.move; exact rfl) | (apply OQ.assign; exact rfl)) rfl ?_ | refine JR.seq ?_ | refine JR.block ?_ | refine JL.nil ?_ | with_reducible refine JE.nextR ?_ | refine JR.region rfl (by first | with_reducible exact lo_roundQ | with_reducible exact lo_then lo_roundQ | with_reducible exact lo_blk lo_roundQ | with_reducible exact lo_then (lo_blk lo_roundQ) | with_reducible exact lo_roundX | with_reducible exact lo_then lo_roundX | with_reducible exact lo_blk lo_roundX | with_reducible exact lo_then (lo_blk lo_roundX) | with_reducible exact lo_then (lo_then (lo_blk lo_roundX))) ?_)
    have hcut : ((y.hd (wendB y.l)).hd (cutR (wendB y.l))).l = cutR (wendB y.l) := rfl
    obtain ⟨p, hp⟩ : ∃ p, decide (cutR (wendB y.l) = 45 :: 45 :: bd) = p := ⟨_, rfl⟩
    obtain ⟨e, he⟩ : ∃ e, decide (cutR (wendB y.l) = 45 :: 45 :: (bd ++ [45, 45])) = e := ⟨_, rfl⟩
    have m1 := mark_1 (bd := bd) (x := wendB y.l)
    have m2 := mark_2 (bd := bd) (x := wendB y.l)
    have m0 := mark_le bd (wendB y.l)
    generalize (y.hd (wendB y.l)).hd (cutR (wendB y.l)) = y2 at hcut ok2 ⊢
    generalize cutR (wendB y.l) = cw at hcut hp he m1 m2
    obtain ⟨MM, hMM⟩ : ∃ MM, MM = ⟨b8, Row 24 [accV q (rs.map Sl8.v).length], true⟩ :: ([⟨be, Row 22 [s.v], false⟩, ⟨b10, Row 3 [N (st.getD 0)], true⟩, ⟨b9, Row 4 [.bool st.isSome], true⟩, ⟨b7, Row 9 [Z (45 :: 45 :: (bd ++ [45, 45]))], true⟩, ⟨b6, Row 9 [Z (45 :: 45 :: bd)], true⟩, ⟨b5, Row 25 [.int .i64 0], true⟩, ⟨b4, Row 24 [.slice none 0 0], true⟩, ⟨b2, Row 22 [s.v], true⟩] ++ (accE 22 q (rs.map Sl8.v) ++ flatE rs)) := ⟨_, rfl⟩
    have h6 : Has MM b6 (Row 9 [Z (45 :: 45 :: bd)]) true := hMM ▸ (by repeat (first | exact Has.here | apply Has.there))
    have h7 : Has MM b7 (Row 9 [Z (45 :: 45 :: (bd ++ [45, 45]))]) true := hMM ▸ (by repeat (first | exact Has.here | apply Has.there))
    have h9 : Has MM b9 (Row 4 [.bool st.isSome]) true := hMM ▸ (by repeat (first | exact Has.here | apply Has.there))
    rw [← hMM]
    let vs : Nat → Nat → Value := fun j _ => match j with
      | 0 => y2.v
      | 1 => Z cw
      | 2 => Z (45 :: 45 :: bd)
      | 3 => .bool p
      | 4 => y2.v
      | 5 => Z cw
      | 6 => Z (45 :: 45 :: (bd ++ [45, 45]))
      | 7 => .bool e
      | 8 => .bool p
      | _ => .bool e
    let Ms : Nat → Nat → List Ent := fun j _ => match j with
      | 10 => MM
      | _ => []
    have cv : ∀ {E : Env} {M' : List Ent} {x : Operand} {dst : Option Tmp} {ty : TypeId} {pos : String} {aft : Array Edge} {g : Option (Nat × Bool)}, ev E x = some y2.v → OQ Tryz.prog 64 E (Holds w1 S1 M') ⟨dst, .convert 22 9 x, ty, pos, aft, g⟩ (Z cw) := fun h => OQ.to (OQ.b2s Tryz.underlying22 Tryz.underlying5 Tryz.underlying9 h ok2) (congrArg Z hcut)
    refine JR.growR (g := ⟨[(13, y2.v), (11, N (atN s.l k)), (12, y.v), (2, Pt b2 0), (4, Pt b4 0), (5, Pt b5 0), (6, Pt b6 0), (7, Pt b7 0), (8, Pt b8 0), (9, Pt b9 0), (10, Pt b10 0)], 11, vs, Ms, (fun j => match j with | 1 => [(0, 30)] | 3 => [(1, 31), (2, 32)] | 5 => [(4, 34)] | 7 => [(5, 35), (6, 36)] | 8 => [(3, 33)] | 9 => [(7, 37)] | _ => []), (fun j => match j with | 2 => [10] | 6 => [10] | _ => []), (fun _ => []), (fun _ => none), fun _ => [], fun _ _ _ => True⟩) [(8, 14), (9, 15)] [10] rfl (by repeat (first | with_reducible exact lo_roundX | with_reducible apply lo_then | with_reducible apply lo_blk)) mixMi (by repeat (first | exact SubE.nil | refine SubE.cons _ _ _ rfl ?_)) (fun _ _ => .nil) (less_nilR _) (by kernel_rfl) (by kernel_rfl) (by kernel_rfl) ?_ ?_
    · refine ⟨?_, ?_, ?_, ?_, ?_, ?_, ?_, ?_, ?_, ?_, trivial⟩
      · (intro x EF MF Q kk; exact JL.q (OQ.move rfl) rfl (JL.nil (kk default nofun)))
      · (intro x EF MF Q kk; exact JL.q (cv rfl) rfl (JL.nil (kk default nofun)))
      · (intro x EF MF Q kk; exact JL.q (OQ.load stC12 rfl (has_left (has_left h6)) (Row.cell (v := Z (45 :: 45 :: bd)) rfl)) rfl (JL.nil (kk default nofun)))
      · (intro x EF MF Q kk; exact JL.q (OQ.eqSB (l := cw) (r := 45 :: 45 :: bd) rfl rfl hp) rfl (JL.nil (kk default nofun)))
      · (intro x EF MF Q kk; exact JL.q (OQ.move rfl) rfl (JL.nil (kk default nofun)))
      · (intro x EF MF Q kk; exact JL.q (cv rfl) rfl (JL.nil (kk default nofun)))
      · (intro x EF MF Q kk; exact JL.q (OQ.load stC12 rfl (has_left (has_left h7)) (Row.cell (v := Z (45 :: 45 :: (bd ++ [45, 45]))) rfl)) rfl (JL.nil (kk default nofun)))
      · (intro x EF MF Q kk; exact JL.q (OQ.eqSB (l := cw) (r := 45 :: 45 :: (bd ++ [45, 45])) rfl rfl he) rfl (JL.nil (kk default nofun)))
      · (intro x EF MF Q kk; exact JL.q (OQ.assign rfl) rfl (JL.nil (kk default nofun)))
      · (intro x EF MF Q kk; exact JL.q (OQ.assign rfl) rfl (JL.nil (kk default nofun)))
    intro x hxx
    refine JE.less (M' := MM) (less_nilL MM) ?_
    show JE _ _ _ _ _ [(14, .bool p), (15, .bool e), (13, y2.v), (11, N (atN s.l k)), (12, y.v), (2, Pt b2 0), (4, Pt b4 0), (5, Pt b5 0), (6, Pt b6 0), (7, Pt b7 0), (8, Pt b8 0), (9, Pt b9 0), (10, Pt b10 0)] MM
    clear hxx x vs Ms cv ok2 hcut c28 c29 ok1
    have hmk : (markB bd (wendB y.l) = 0 ∧ p = false ∧ e = false) ∨ (markB bd (wendB y.l) = 1 ∧ p = true ∧ e = false) ∨ (markB bd (wendB y.l) = 2 ∧ p = false ∧ e = true) := by
      rcases m0 with h | h | h
      · refine .inl ⟨h, hp ▸ decide_eq_false fun k => ?_, he ▸ decide_eq_false fun k => ?_⟩
        · rw [m1.2 k] at h; cases h
        · rw [m2.2 k] at h; cases h
      · refine .inr (.inl ⟨h, hp ▸ decide_eq_true (m1.1 h), he ▸ decide_eq_false fun k => ?_⟩)
        rw [m2.2 k] at h; cases h
      · refine .inr (.inr ⟨h, hp ▸ decide_eq_false fun k => ?_, he ▸ decide_eq_true (m2.1 h)⟩)
        rw [m1.2 k] at h; cases h
    rw [hyl] at hmk
    clear m1 m2 m0 hp he
    have hnext : atN s.l (k + 1) = atN s.l k + rawN (s.l.drop (atN s.l k)) := rfl
    have hsum : atN s.l k + y.l.length = atN s.l (k + 1) := by omega
    refine JE.nextR (JR.seq (JR.seq (JR.region rfl (by repeat (first | with_reducible exact lo_roundX | with_reducible apply lo_then | with_reducible apply lo_blk)) ?_)))
    cases st with
    | none =>
      obtain rfl : rs = [] := by simpa using hsc.1
      have hsc : ScanB bd s.l (atN s.l k) none [] := hsc
      rcases hmk with ⟨hm, rfl, rfl⟩ | ⟨hm, rfl, rfl⟩ | ⟨hm, rfl, rfl⟩
      · repeat (first | refine JL.q (by first | (apply OQ.load; exact boC; exact rfl; exact h9; exact (Row.cell (v := .bool false) rfl)) | (apply OQ.pick_f; exact rfl; exact rfl) | (apply OQ.move; exact rfl)) rfl ?_ | refine JL.nil ?_ | with_reducible refine JE.nextR ?_ | refine JL.gskip rfl rfl rfl rfl ?_ | refine JL.gskipU rfl rfl rfl rfl ?_)
        refine JR.cond rfl (fun h => by cases h) (fun _ => ?_)
        repeat (first | refine JL.q (by first | (apply OQ.load; exact boC; exact rfl; exact h9; exact (Row.cell (v := .bool false) rfl)) | (apply OQ.pick_f; exact rfl; exact rfl) | (apply OQ.move; exact rfl)) rfl ?_ | refine JR.seq ?_ | refine JL.nil ?_ | with_reducible refine JE.nextR ?_ | refine JR.skip ?_ | refine JL.gskip rfl rfl rfl rfl ?_ | refine JR.region rfl (by first | with_reducible exact lo_roundQ | with_reducible exact lo_then lo_roundQ | with_reducible exact lo_blk lo_roundQ | with_reducible exact lo_then (lo_blk lo_roundQ) | with_reducible exact lo_roundX | with_reducible exact lo_then lo_roundX | with_reducible exact lo_blk lo_roundX | with_reducible exact lo_then (lo_blk lo_roundX) | with_reducible exact lo_then (lo_then (lo_blk lo_roundX))) ?_)
        refine JR.cond rfl (fun h => by cases h) (fun _ => ?_)
        repeat (first | refine JL.q (by (apply OQ.move; exact rfl)) rfl ?_ | refine JR.seq ?_ | refine JL.nil ?_ | with_reducible refine JE.nextR ?_ | refine JR.skip ?_ | refine JR.region rfl (by first | with_reducible exact lo_roundQ | with_reducible exact lo_then lo_roundQ | with_reducible exact lo_blk lo_roundQ | with_reducible exact lo_then (lo_blk lo_roundQ) | with_reducible exact lo_roundX | with_reducible exact lo_then lo_roundX | with_reducible exact lo_blk lo_roundX | with_reducible exact lo_then (lo_blk lo_roundX) | with_reducible exact lo_then (lo_then (lo_blk lo_roundX))) ?_)
        refine JR.cond rfl (fun h => by cases h) (fun _ => ?_)
        repeat (first | with_reducible refine JE.blk_normal ?_ | refine JR.skip ?_)
        subst hMM
        refine JE.perm (M' := spM s bd be b2 b4 b5 b6 b7 b8 b9 b10 ⟨none, q, []⟩) (List.perm_middle (l₁ := spA s be b9 b10 ⟨none, q, []⟩)).symm ?_
        exact JE.roundN ⟨none, q, []⟩ ⟨scan_skip hat hsc (by rw [hm]; decide), fun _ => rfl, by simp, Nat.zero_le _⟩ (Less.refl _)
      · repeat (first | refine JL.q (by first | (apply OQ.load; exact boC; exact rfl; exact h9; exact (Row.cell (v := .bool false) rfl)) | (apply OQ.pick_f; exact rfl; exact rfl) | (apply OQ.move; exact rfl)) rfl ?_ | refine JL.nil ?_ | with_reducible refine JE.nextR ?_ | refine JL.gskip rfl rfl rfl rfl ?_ | refine JL.gskipU rfl rfl rfl rfl ?_)
        refine JR.cond rfl (fun h => by cases h) (fun _ => ?_)
        repeat (first | refine JL.q (by first | (apply OQ.load; exact boC; exact rfl; exact h9; exact (Row.cell (v := .bool false) rfl)) | (apply OQ.pick_f; exact rfl; exact rfl) | (apply OQ.move; exact rfl)) rfl ?_ | refine JR.seq ?_ | refine JL.nil ?_ | with_reducible refine JE.nextR ?_ | refine JR.skip ?_ | refine JL.gskip rfl rfl rfl rfl ?_ | refine JR.region rfl (by first | with_reducible exact lo_roundQ | with_reducible exact lo_then lo_roundQ | with_reducible exact lo_blk lo_roundQ | with_reducible exact lo_then (lo_blk lo_roundQ) | with_reducible exact lo_roundX | with_reducible exact lo_then lo_roundX | with_reducible exact lo_blk lo_roundX | with_reducible exact lo_then (lo_blk lo_roundX) | with_reducible exact lo_then (lo_then (lo_blk lo_roundX))) ?_)
        refine JR.cond rfl (fun h => by cases h) (fun _ => ?_)
        repeat (first | refine JL.q (by (apply OQ.move; exact rfl)) rfl ?_ | refine JR.seq ?_ | refine JL.nil ?_ | with_reducible refine JE.nextR ?_ | refine JR.skip ?_ | refine JR.region rfl (by first | with_reducible exact lo_roundQ | with_reducible exact lo_then lo_roundQ | with_reducible exact lo_blk lo_roundQ | with_reducible exact lo_then (lo_blk lo_roundQ) | with_reducible exact lo_roundX | with_reducible exact lo_then lo_roundX | with_reducible exact lo_blk lo_roundX | with_reducible exact lo_then (lo_blk lo_roundX) | with_reducible exact lo_then (lo_then (lo_blk lo_roundX))) ?_)
        refine JR.cond rfl (fun _ => ?_) (fun h => by cases h)
        repeat (first | refine JL.q (by first | (apply OQ.to; exact (OQ.addN (a := atN s.l k) (b := y.l.length) rfl rfl (by omega)); exact (congrArg N hsum)) | (apply OQ.move; exact rfl) | (apply OQ.len; exact rfl; exact rfl)) rfl ?_ | refine JR.region rfl (by first | with_reducible exact lo_roundQ | with_reducible exact lo_then lo_roundQ | with_reducible exact lo_blk lo_roundQ | with_reducible exact lo_then (lo_blk lo_roundQ) | with_reducible exact lo_roundX | with_reducible exact lo_then lo_roundX | with_reducible exact lo_blk lo_roundX | with_reducible exact lo_then (lo_blk lo_roundX) | with_reducible exact lo_then (lo_then (lo_blk lo_roundX))) ?_)
        subst hMM
        refine JL.store_eq (v := .bool true) (r' := [.bool true]) boS rfl rfl rfl rfl (by repeat (first | exact Upd.here | apply Upd.there)) (by decide) rfl ?_
        refine JL.store_eq (v := N (atN s.l (k + 1))) (r' := [N (atN s.l (k + 1))]) inS12 rfl rfl rfl rfl (by repeat (first | exact Upd.here | apply Upd.there)) (by simp) rfl ?_
        repeat (first | refine JL.nil ?_ | with_reducible refine JE.blk_normal ?_)
        refine JE.perm (M' := spM s bd be b2 b4 b5 b6 b7 b8 b9 b10 ⟨some (atN s.l (k + 1)), q, []⟩) (List.perm_middle (l₁ := spA s be b9 b10 ⟨some (atN s.l (k + 1)), q, []⟩)).symm ?_
        exact JE.roundN ⟨some (atN s.l (k + 1)), q, []⟩ ⟨scan_met hat hsc hm, fun _ => rfl, by simp, Nat.zero_le _⟩ (Less.refl _)
      · repeat (first | refine JL.q (by first | (apply OQ.load; exact boC; exact rfl; exact h9; exact (Row.cell (v := .bool false) rfl)) | (apply OQ.pick_f; exact rfl; exact rfl) | (apply OQ.move; exact rfl)) rfl ?_ | refine JL.nil ?_ | with_reducible refine JE.nextR ?_ | refine JL.gskip rfl rfl rfl rfl ?_ | refine JL.gskipU rfl rfl rfl rfl ?_)
        refine JR.cond rfl (fun h => by cases h) (fun _ => ?_)
        repeat (first | refine JL.q (by first | (apply OQ.load; exact boC; exact rfl; exact h9; exact (Row.cell (v := .bool false) rfl)) | (apply OQ.pick_f; exact rfl; exact rfl) | (apply OQ.move; exact rfl)) rfl ?_ | refine JR.seq ?_ | refine JL.nil ?_ | with_reducible refine JE.nextR ?_ | refine JR.skip ?_ | refine JL.gskip rfl rfl rfl rfl ?_ | refine JR.region rfl (by first | with_reducible exact lo_roundQ | with_reducible exact lo_then lo_roundQ | with_reducible exact lo_blk lo_roundQ | with_reducible exact lo_then (lo_blk lo_roundQ) | with_reducible exact lo_roundX | with_reducible exact lo_then lo_roundX | with_reducible exact lo_blk lo_roundX | with_reducible exact lo_then (lo_blk lo_roundX) | with_reducible exact lo_then (lo_then (lo_blk lo_roundX))) ?_)
        refine JR.cond rfl (fun h => by cases h) (fun _ => ?_)
        repeat (first | refine JL.q (by (apply OQ.move; exact rfl)) rfl ?_ | refine JR.seq ?_ | refine JL.nil ?_ | with_reducible refine JE.nextR ?_ | refine JR.skip ?_ | refine JR.region rfl (by first | with_reducible exact lo_roundQ | with_reducible exact lo_then lo_roundQ | with_reducible exact lo_blk lo_roundQ | with_reducible exact lo_then (lo_blk lo_roundQ) | with_reducible exact lo_roundX | with_reducible exact lo_then lo_roundX | with_reducible exact lo_blk lo_roundX | with_reducible exact lo_then (lo_blk lo_roundX) | with_reducible exact lo_then (lo_then (lo_blk lo_roundX))) ?_)
        refine JR.cond rfl (fun h => by cases h) (fun _ => ?_)
        repeat (first | with_reducible refine JE.blk_normal ?_ | refine JR.skip ?_)
        subst hMM
        refine JE.perm (M' := spM s bd be b2 b4 b5 b6 b7 b8 b9 b10 ⟨none, q, []⟩) (List.perm_middle (l₁ := spA s be b9 b10 ⟨none, q, []⟩)).symm ?_
        exact JE.roundN ⟨none, q, []⟩ ⟨scan_skip hat hsc (by rw [hm]; decide), fun _ => rfl, by simp, Nat.zero_le _⟩ (Less.refl _)
    | some bg =>
      have hble : bg ≤ atN s.l k := scan_le hsc
      by_cases hm0 : markB bd (wendB (lineB s.l (atN s.l k))) = 0
      · obtain ⟨hm, rfl, rfl⟩ : markB bd (wendB (lineB s.l (atN s.l k))) = 0 ∧ p = false ∧ e = false := by
          rcases hmk with h | h | h
          · exact h
          · rw [h.1] at hm0; cases hm0
          · rw [h.1] at hm0; cases hm0
        repeat (first | refine JL.q (by first | (apply OQ.load; exact boC; exact rfl; exact h9; exact (Row.cell (v := .bool true) rfl)) | (apply OQ.pick_t; exact rfl; exact rfl) | (apply OQ.pick_f; exact rfl; exact rfl) | (apply OQ.move; exact rfl)) rfl ?_ | refine JL.nil ?_ | with_reducible refine JE.nextR ?_ | refine JL.gon rfl rfl ?_)
        refine JR.cond rfl (fun h => by cases h) (fun _ => ?_)
        repeat (first | refine JL.q (by first | (apply OQ.load; exact boC; exact rfl; exact h9; exact (Row.cell (v := .bool true) rfl)) | (apply OQ.pick_t; exact rfl; exact rfl) | (apply OQ.move; exact rfl)) rfl ?_ | refine JR.seq ?_ | refine JL.nil ?_ | with_reducible refine JE.nextR ?_ | refine JR.skip ?_ | refine JL.gon rfl rfl ?_ | refine JR.region rfl (by first | with_reducible exact lo_roundQ | with_reducible exact lo_then lo_roundQ | with_reducible exact lo_blk lo_roundQ | with_reducible exact lo_then (lo_blk lo_roundQ) | with_reducible exact lo_roundX | with_reducible exact lo_then lo_roundX | with_reducible exact lo_blk lo_roundX | with_reducible exact lo_then (lo_blk lo_roundX) | with_reducible exact lo_then (lo_then (lo_blk lo_roundX))) ?_)
        refine JR.cond rfl (fun h => by cases h) (fun _ => ?_)
        repeat (first | refine JL.q (by (apply OQ.move; exact rfl)) rfl ?_ | refine JR.seq ?_ | refine JL.nil ?_ | with_reducible refine JE.nextR ?_ | refine JR.skip ?_ | refine JR.region rfl (by first | with_reducible exact lo_roundQ | with_reducible exact lo_then lo_roundQ | with_reducible exact lo_blk lo_roundQ | with_reducible exact lo_then (lo_blk lo_roundQ) | with_reducible exact lo_roundX | with_reducible exact lo_then lo_roundX | with_reducible exact lo_blk lo_roundX | with_reducible exact lo_then (lo_blk lo_roundX) | with_reducible exact lo_then (lo_then (lo_blk lo_roundX))) ?_)
        refine JR.cond rfl (fun h => by cases h) (fun _ => ?_)
        repeat (first | with_reducible refine JE.blk_normal ?_ | refine JR.skip ?_)
        subst hMM
        refine JE.perm (M' := spM s bd be b2 b4 b5 b6 b7 b8 b9 b10 ⟨some bg, q, rs⟩) (List.perm_middle (l₁ := spA s be b9 b10 ⟨some bg, q, rs⟩)).symm ?_
        exact JE.roundN ⟨some bg, q, rs⟩ ⟨scan_more hat hsc hm, hq, h0, by show rs.length ≤ k + 1; omega⟩ (Less.refl _)
      · have hmk : (markB bd (wendB (lineB s.l (atN s.l k))) = 1 ∧ p = true ∧ e = false) ∨ (markB bd (wendB (lineB s.l (atN s.l k))) = 2 ∧ p = false ∧ e = true) := by
          rcases hmk with h | h | h
          · exact absurd h.1 hm0
          · exact .inl h
          · exact .inr h
        -- what stands between
        have okx : ∀ {M'} w', Holds w1 S1 M' w' → (s.mid bg (atN s.l k)).ok w' := fun w' hw' => (oks w' hw').mid hble (by omega)
        have hxl : (s.mid bg (atN s.l k)).l = (s.l.take (atN s.l k)).drop bg := rfl
        have hxn := mid_len s bg (atN s.l k)
        have hmid : ∀ {E : Env} {M' : List Ent} {x y z : Operand} {dst : Option Tmp} {ty : TypeId} {pos : String} {aft : Array Edge} {g : Option (Nat × Bool)}, ev E x = some s.v → ev E y = some (N bg) → ev E z = some (N (atN s.l k)) → OQ Tryz.prog 64 E (Holds w1 S1 M') ⟨dst, .slice 22 x (some y) (some z) none, ty, pos, aft, g⟩ (s.mid bg (atN s.l k)).v := fun h1 h2 h3 => OQ.mid8 (s := s) (lo := bg) (hi := atN s.l k) Tryz.underlying22 u8s h1 h2 h3 hble (by omega) hcap
        generalize s.mid bg (atN s.l k) = x at okx hxl hxn hmid
        have hun : (wendB x.l).length ≤ x.l.length := by
          obtain ⟨m, _, e⟩ := wend_take x.l
          rw [e, List.length_take]
          omega
        have oku : ∀ {M'} w', Holds w1 S1 M' w' → (x.hd (wendB x.l)).ok w' := fun w' hw' => wend_ok (okx w' hw')
        have c50 : ∀ {M'} w', Holds w1 S1 M' w' → Calls Tryz.prog 21 [x.v].toArray w' fun e w2 => e = .returned (x.hd (wendB x.l)).v ∧ Ext w' w2 := fun w' hw' => mwend_any x w' (okx w' hw') (by omega)
        have hul : (x.hd (wendB x.l)).l = wendB x.l := rfl
        generalize x.hd (wendB x.l) = u at oku c50 hul
        have hulen : u.l.length ≤ 1073741824 := by rw [hul]; omega
        have c51 : ∀ {M'} w', Holds w1 S1 M' w' → Calls Tryz.prog 22 [u.v].toArray w' fun e w2 => ∃ z : { z : Acc // z = none → u.l = [] }, e = .returned (accV z.1 u.l.length) ∧ Holds w' [] (accE 5 z.1 (u.l.map U8)) w2 := fun w' hw' => (clone_any u w' (oku w' hw') (by omega)).mono fun e w2 ⟨z, h1, h2, h3⟩ => ⟨⟨z, h2⟩, h1, h3⟩
        have hrsl : (rs.map Sl8.v).length ≤ 1073741825 := by rw [List.length_map]; omega
        have hq1 : q = none → rs.map Sl8.v = [] := fun h => by rw [hq h]; rfl
        subst hMM
        have inh : Inhabited { z : Acc // z = none → u.l = [] } := ⟨⟨some (0, 0), nofun⟩⟩
        let vs : Nat → { z : Acc // z = none → u.l = [] } × Acc × Nat → Value := fun j y => match j with
          | 0 => accV q (rs.map Sl8.v).length
          | 1 => s.v
          | 2 => N bg
          | 3 => N (atN s.l k)
          | 4 => x.v
          | 5 => u.v
          | 6 => accV y.1.1 u.l.length
          | 7 => .slice (some ⟨y.2.2, 0, none⟩) 1 1
          | _ => accV y.2.1 (rs.map Sl8.v ++ [accV y.1.1 u.l.length]).length
        let Ms : Nat → { z : Acc // z = none → u.l = [] } × Acc × Nat → List Ent := fun j y => match j with
          | 6 => accE 5 y.1.1 (u.l.map U8)
          | 7 => [⟨y.2.2, Row 22 [accV y.1.1 u.l.length], true⟩]
          | 8 => accE 22 y.2.1 (rs.map Sl8.v ++ [accV y.1.1 u.l.length])
          | 9 => [⟨b8, Row 24 [accV y.2.1 (rs.map Sl8.v ++ [accV y.1.1 u.l.length]).length], true⟩]
          | 10 => [⟨b8, Row 24 [accV q (rs.map Sl8.v).length], true⟩]
          | 11 => [⟨be, Row 22 [s.v], false⟩, ⟨b10, Row 3 [N bg], true⟩, ⟨b9, Row 4 [.bool true], true⟩, ⟨b7, Row 9 [Z (45 :: 45 :: (bd ++ [45, 45]))], true⟩, ⟨b6, Row 9 [Z (45 :: 45 :: bd)], true⟩, ⟨b5, Row 25 [.int .i64 0], true⟩, ⟨b4, Row 24 [.slice none 0 0], true⟩, ⟨b2, Row 22 [s.v], true⟩]
          | 12 => accE 22 q (rs.map Sl8.v)
          | 13 => flatE rs
          | _ => []
        have h2 : Has ([⟨be, Row 22 [s.v], false⟩, ⟨b10, Row 3 [N bg], true⟩, ⟨b9, Row 4 [.bool true], true⟩, ⟨b7, Row 9 [Z (45 :: 45 :: (bd ++ [45, 45]))], true⟩, ⟨b6, Row 9 [Z (45 :: 45 :: bd)], true⟩, ⟨b5, Row 25 [.int .i64 0], true⟩, ⟨b4, Row 24 [.slice none 0 0], true⟩, ⟨b2, Row 22 [s.v], true⟩]) b2 (Row 22 [s.v]) true := (by repeat (first | exact Has.here | apply Has.there))
        have h10 : Has ([⟨be, Row 22 [s.v], false⟩, ⟨b10, Row 3 [N bg], true⟩, ⟨b9, Row 4 [.bool true], true⟩, ⟨b7, Row 9 [Z (45 :: 45 :: (bd ++ [45, 45]))], true⟩, ⟨b6, Row 9 [Z (45 :: 45 :: bd)], true⟩, ⟨b5, Row 25 [.int .i64 0], true⟩, ⟨b4, Row 24 [.slice none 0 0], true⟩, ⟨b2, Row 22 [s.v], true⟩]) b10 (Row 3 [N bg]) true := (by repeat (first | exact Has.here | apply Has.there))
        let Rl : Nat → { z : Acc // z = none → u.l = [] } × Acc × Nat → { z : Acc // z = none → u.l = [] } × Acc × Nat → Prop := fun i a b => match i with
          | 9 => a.1 = b.1 ∧ a.2.1 = b.2.1
          | 8 => a.1 = b.1 ∧ a.2.1 ≠ none
          | _ => a.1 = b.1
        rcases hmk with ⟨hm, rfl, rfl⟩ | ⟨hm, rfl, rfl⟩
        · repeat (first | refine JL.q (by first | (apply OQ.load; exact boC; exact rfl; exact h9; exact (Row.cell (v := .bool true) rfl)) | (apply OQ.pick_t; exact rfl; exact rfl) | (apply OQ.move; exact rfl)) rfl ?_ | refine JL.nil ?_ | with_reducible refine JE.nextR ?_ | refine JL.gon rfl rfl ?_ | refine JL.gskip rfl rfl rfl rfl ?_)
          refine JR.cond rfl (fun _ => ?_) (fun h => by cases h)
          refine JR.growR (g := ⟨[(11, N (atN s.l k)), (12, y.v), (2, Pt b2 0), (4, Pt b4 0), (5, Pt b5 0), (6, Pt b6 0), (7, Pt b7 0), (8, Pt b8 0), (9, Pt b9 0), (10, Pt b10 0), (14, .bool true), (15, .bool false)], 14, vs, Ms, (fun j => match j with | 4 => [(1, 46), (2, 47), (3, 48)] | 5 => [(4, 49)] | 6 => [(5, 50)] | 7 => [(6, 51)] | 8 => [(0, 45), (7, 52)] | 9 => [(8, 53)] | _ => []), (fun j => match j with | 0 => [10] | 1 => [11] | 2 => [11] | 8 => [12, 7] | 9 => [10] | _ => []), (fun j => match j with | 8 => [12, 7] | 9 => [10] | _ => []), (fun j => match j with | 7 => some 6 | 8 => some 7 | 9 => some 8 | _ => none), fun _ => [], Rl⟩) [] [9, 11, 8, 13, 6] rfl (by repeat (first | with_reducible exact lo_roundX | with_reducible apply lo_then | with_reducible apply lo_blk)) mixMi (by repeat (first | exact SubE.nil | refine SubE.cons _ _ _ rfl ?_)) (fun _ _ => .nil) ?_ (by kernel_rfl) (by kernel_rfl) (by kernel_rfl) ?_ ?_
          · exact less_eq (by show _ ++ (_ ++ (_ ++ (flatE rs ++ []))) = _; rw [List.append_nil]; rfl)
          · refine ⟨?_, ?_, ?_, ?_, ?_, ?_, ?_, ?_, ?_, ?_, trivial⟩
            · (intro z EF MF Q kk; exact JL.q (OQ.load lsC rfl .here (Row.cell (v := accV q (rs.map Sl8.v).length) rfl)) rfl (JL.nil (kk default nofun)))
            · (intro z EF MF Q kk; exact JL.q (OQ.load bsC8 rfl (has_left (has_left h2)) (Row.cell (v := s.v) rfl)) rfl (JL.nil (kk default nofun)))
            · (intro z EF MF Q kk; exact JL.q (OQ.load inC12 rfl (has_left (has_left h10)) (Row.cell (v := N bg) rfl)) rfl (JL.nil (kk default nofun)))
            · (intro z EF MF Q kk; exact JL.q (OQ.move rfl) rfl (JL.nil (kk default nofun)))
            · (intro z EF MF Q kk; exact JL.q (hmid rfl rfl rfl) rfl (JL.nil (kk default nofun)))
            · (intro z EF MF Q kk; exact JL.q (OQ.callx (vs := [x.v]) goes_mwend rfl c50) rfl (JL.nil (kk default nofun)))
            · (intro z EF MF Q kk; exact JL.callg (vs := [u.v]) (ι := { z : Acc // z = none → u.l = [] }) (fun z => accV z.1 u.l.length) (fun z => accE 5 z.1 (u.l.map U8)) goes_clone rfl rfl (fun z => accE_wr _ _ _) c51 fun z => JL.nil (kk (z, default, 0) nofun))
            · (intro z EF MF Q kk; exact JL.lit1 (v := accV (z 6).1.1 u.l.length) Tryz.underlying24 slE12 rfl rfl (accV_cells _ _) rfl fun bl _ => JL.nil (kk ((z 6).1, default, bl) (fun k h => by cases h; rfl)))
            · intro z EF MF Q kk
              show JL _ _ _ _ _ _ _ _ ((accE 22 q (rs.map Sl8.v) ++ ([⟨(z 7).2.2, Row 22 [accV (z 7).1.1 u.l.length], true⟩] ++ [])) ++ MF)
              rw [List.append_assoc]
              refine JL.appendQ (xs := rs.map Sl8.v) (cs := [accV (z 7).1.1 u.l.length]) (m := 1) (ad := some ⟨(z 7).2.2, 0, none⟩) (sc := 1) q Tryz.underlying24 slE12 hq1 rfl rfl rfl (fun w' hw' => ?_) (fun v hv => by rw [List.mem_singleton.1 hv]; exact accV_one _ _) rfl (by omega) (by omega) rfl fun q' hq' => ?_
              · obtain ⟨o, ho, hA⟩ := hw'.get (b := (z 7).2.2) (A := Row 22 [accV (z 7).1.1 u.l.length]) (wr := true) (has_right _ .here)
                exact Reads.block ho (Row.all _ hA)
              · exact JL.nil (JE.less (less_app2 (.drop _ _ _ (Less.refl _)) _) (kk ((z 7).1, q', 0) (fun k h => by cases h; exact ⟨rfl, fun h => by have := hq' h; simp at this⟩)))
            · (intro z EF MF Q kk; exact JL.store_eq (v := accV (z 8).2.1 (rs.map Sl8.v ++ [accV (z 8).1.1 u.l.length]).length) (r' := [accV (z 8).2.1 (rs.map Sl8.v ++ [accV (z 8).1.1 u.l.length]).length]) lsS rfl rfl (accV_one _ _) (accV_cells _ _) .here (by simp) rfl (JL.nil (kk ((z 8).1, (z 8).2.1, 0) (fun k h => by cases h; exact ⟨rfl, rfl⟩))))
          intro z hz
          have z7 : (z 7).1 = (z 6).1 := hz 7 6 (by decide) rfl
          have z8 : (z 8).1 = (z 7).1 ∧ (z 8).2.1 ≠ none := hz 8 7 (by decide) rfl
          have z9 : (z 9).1 = (z 8).1 ∧ (z 9).2.1 = (z 8).2.1 := hz 9 8 (by decide) rfl
          obtain ⟨c, hc⟩ : ∃ c, (z 6).1 = c := ⟨_, rfl⟩
          have e8 : (z 8).1 = c := z8.1.trans (z7.trans hc)
          have e9 : (z 9).1 = c := z9.1.trans e8
          obtain ⟨q', hq'⟩ : ∃ q', (z 8).2.1 = q' := ⟨_, rfl⟩
          have e9' : (z 9).2.1 = q' := z9.2.trans hq'
          have emap : (rs ++ [accS c.1 u.l]).map Sl8.v = rs.map Sl8.v ++ [accV c.1 u.l.length] := by rw [List.map_append, List.map_cons, List.map_nil, accS_v]
          show JE _ _ _ _ _ [(11, N (atN s.l k)), (12, y.v), (2, Pt b2 0), (4, Pt b4 0), (5, Pt b5 0), (6, Pt b6 0), (7, Pt b7 0), (8, Pt b8 0), (9, Pt b9 0), (10, Pt b10 0), (14, .bool true), (15, .bool false)] _
          refine JE.less (M' := ⟨b8, Row 24 [accV q' ((rs ++ [accS c.1 u.l]).map Sl8.v).length], true⟩ :: ([⟨be, Row 22 [s.v], false⟩, ⟨b10, Row 3 [N bg], true⟩, ⟨b9, Row 4 [.bool true], true⟩, ⟨b7, Row 9 [Z (45 :: 45 :: (bd ++ [45, 45]))], true⟩, ⟨b6, Row 9 [Z (45 :: 45 :: bd)], true⟩, ⟨b5, Row 25 [.int .i64 0], true⟩, ⟨b4, Row 24 [.slice none 0 0], true⟩, ⟨b2, Row 22 [s.v], true⟩] ++ (accE 22 q' ((rs ++ [accS c.1 u.l]).map Sl8.v) ++ flatE (rs ++ [accS c.1 u.l])))) ?_ ?_
          · show Less _ ([⟨b8, Row 24 [accV (z 9).2.1 (rs.map Sl8.v ++ [accV (z 9).1.1 u.l.length]).length], true⟩] ++ ([⟨be, Row 22 [s.v], false⟩, ⟨b10, Row 3 [N bg], true⟩, ⟨b9, Row 4 [.bool true], true⟩, ⟨b7, Row 9 [Z (45 :: 45 :: (bd ++ [45, 45]))], true⟩, ⟨b6, Row 9 [Z (45 :: 45 :: bd)], true⟩, ⟨b5, Row 25 [.int .i64 0], true⟩, ⟨b4, Row 24 [.slice none 0 0], true⟩, ⟨b2, Row 22 [s.v], true⟩] ++ (accE 22 (z 8).2.1 (rs.map Sl8.v ++ [accV (z 8).1.1 u.l.length]) ++ (flatE rs ++ (accE 5 (z 6).1.1 (u.l.map U8) ++ [])))))
            rw [e9, e9', e8, hq', hc, emap, List.append_nil]
            exact .keep _ _ _ _ _ _ (fun _ h => h) (less_app2 (less_app2 (flat_snoc rs c.1 u.l) _) _)
          have hq2 : q' = none → rs ++ [accS c.1 u.l] = [] := fun h => absurd (hq'.trans h) z8.2
          have h02 : ∀ y ∈ rs ++ [accS c.1 u.l], y.ad = none → y.l = [] := fun y hy => by
            rcases List.mem_append.1 hy with h | h
            · exact h0 y h
            · rw [List.mem_singleton.1 h]; exact accS_none
          have hmap : (rs ++ [accS c.1 u.l]).map Sl8.l = rs.map Sl8.l ++ [wendB ((s.l.take (atN s.l k)).drop bg)] := by
            rw [List.map_append, List.map_cons, List.map_nil, accS_l c.2, hul, hxl]
          have hlen2 : (rs ++ [accS c.1 u.l]).length = rs.length + 1 := List.length_append
          generalize rs ++ [accS c.1 u.l] = rs2 at hq2 h02 hmap hlen2 ⊢
          clear z7 z8 z9 e8 e9 hc hq' e9' emap hz z vs Ms Rl
          refine JE.nextR ?_
          repeat (first | refine JL.q (by first | (apply OQ.load; exact boC; exact rfl; exact (by repeat (first | exact Has.here | apply Has.there)); exact (Row.cell (v := .bool true) rfl)) | (apply OQ.pick_t; exact rfl; exact rfl) | (apply OQ.move; exact rfl)) rfl ?_ | refine JR.seq ?_ | refine JL.nil ?_ | with_reducible refine JE.nextR ?_ | refine JL.gon rfl rfl ?_ | refine JR.region rfl (by first | with_reducible exact lo_roundQ | with_reducible exact lo_then lo_roundQ | with_reducible exact lo_blk lo_roundQ | with_reducible exact lo_then (lo_blk lo_roundQ) | with_reducible exact lo_roundX | with_reducible exact lo_then lo_roundX | with_reducible exact lo_blk lo_roundX | with_reducible exact lo_then (lo_blk lo_roundX) | with_reducible exact lo_then (lo_then (lo_blk lo_roundX))) ?_)
          refine JR.cond rfl (fun h => by cases h) (fun _ => ?_)
          repeat (first | refine JL.q (by (apply OQ.move; exact rfl)) rfl ?_ | refine JR.seq ?_ | refine JL.nil ?_ | with_reducible refine JE.nextR ?_ | refine JR.skip ?_ | refine JR.region rfl (by first | with_reducible exact lo_roundQ | with_reducible exact lo_then lo_roundQ | with_reducible exact lo_blk lo_roundQ | with_reducible exact lo_then (lo_blk lo_roundQ) | with_reducible exact lo_roundX | with_reducible exact lo_then lo_roundX | with_reducible exact lo_blk lo_roundX | with_reducible exact lo_then (lo_blk lo_roundX) | with_reducible exact lo_then (lo_then (lo_blk lo_roundX))) ?_)
          refine JR.cond rfl (fun _ => ?_) (fun h => by cases h)
          repeat (first | refine JL.q (by first | (apply OQ.to; exact (OQ.addN (a := atN s.l k) (b := y.l.length) rfl rfl (by omega)); exact (congrArg N hsum)) | (apply OQ.move; exact rfl) | (apply OQ.len; exact rfl; exact rfl)) rfl ?_ | refine JR.region rfl (by first | with_reducible exact lo_roundQ | with_reducible exact lo_then lo_roundQ | with_reducible exact lo_blk lo_roundQ | with_reducible exact lo_then (lo_blk lo_roundQ) | with_reducible exact lo_roundX | with_reducible exact lo_then lo_roundX | with_reducible exact lo_blk lo_roundX | with_reducible exact lo_then (lo_blk lo_roundX) | with_reducible exact lo_then (lo_then (lo_blk lo_roundX))) ?_)
          refine JL.store_eq (v := .bool true) (r' := [.bool true]) boS rfl rfl rfl rfl (by repeat (first | exact Upd.here | apply Upd.there)) (by decide) rfl ?_
          refine JL.store_eq (v := N (atN s.l (k + 1))) (r' := [N (atN s.l (k + 1))]) inS12 rfl rfl rfl rfl (by repeat (first | exact Upd.here | apply Upd.there)) (by simp) rfl ?_
          refine JL.nil ?_
          refine JE.blk_normal ?_
          refine JE.perm (M' := spM s bd be b2 b4 b5 b6 b7 b8 b9 b10 ⟨some (atN s.l (k + 1)), q', rs2⟩) (List.perm_middle (l₁ := spA s be b9 b10 ⟨some (atN s.l (k + 1)), q', rs2⟩)).symm ?_
          refine JE.roundN ⟨some (atN s.l (k + 1)), q', rs2⟩ ⟨?_, hq2, h02, by show rs2.length ≤ k + 1; omega⟩ (Less.refl _)
          show ScanB bd s.l (atN s.l (k + 1)) (some (atN s.l (k + 1))) (rs2.map Sl8.l)
          rw [hmap]
          exact scan_part hat hsc hm
        · repeat (first | refine JL.q (by first | (apply OQ.load; exact boC; exact rfl; exact h9; exact (Row.cell (v := .bool true) rfl)) | (apply OQ.pick_t; exact rfl; exact rfl) | (apply OQ.pick_f; exact rfl; exact rfl) | (apply OQ.move; exact rfl)) rfl ?_ | refine JL.nil ?_ | with_reducible refine JE.nextR ?_ | refine JL.gon rfl rfl ?_)
          refine JR.cond rfl (fun _ => ?_) (fun h => by cases h)
          refine JR.growR (g := ⟨[(11, N (atN s.l k)), (12, y.v), (2, Pt b2 0), (4, Pt b4 0), (5, Pt b5 0), (6, Pt b6 0), (7, Pt b7 0), (8, Pt b8 0), (9, Pt b9 0), (10, Pt b10 0), (14, .bool false), (15, .bool true)], 14, vs, Ms, (fun j => match j with | 4 => [(1, 46), (2, 47), (3, 48)] | 5 => [(4, 49)] | 6 => [(5, 50)] | 7 => [(6, 51)] | 8 => [(0, 45), (7, 52)] | 9 => [(8, 53)] | _ => []), (fun j => match j with | 0 => [10] | 1 => [11] | 2 => [11] | 8 => [12, 7] | 9 => [10] | _ => []), (fun j => match j with | 8 => [12, 7] | 9 => [10] | _ => []), (fun j => match j with | 7 => some 6 | 8 => some 7 | 9 => some 8 | _ => none), fun _ => [], Rl⟩) [] [9, 11, 8, 13, 6] rfl (by repeat (first | with_reducible exact lo_roundX | with_reducible apply lo_then | with_reducible apply lo_blk)) mixMi (by repeat (first | exact SubE.nil | refine SubE.cons _ _ _ rfl ?_)) (fun _ _ => .nil) ?_ (by kernel_rfl) (by kernel_rfl) (by kernel_rfl) ?_ ?_
          · exact less_eq (by show _ ++ (_ ++ (_ ++ (flatE rs ++ []))) = _; rw [List.append_nil]; rfl)
          · refine ⟨?_, ?_, ?_, ?_, ?_, ?_, ?_, ?_, ?_, ?_, trivial⟩
            · (intro z EF MF Q kk; exact JL.q (OQ.load lsC rfl .here (Row.cell (v := accV q (rs.map Sl8.v).length) rfl)) rfl (JL.nil (kk default nofun)))
            · (intro z EF MF Q kk; exact JL.q (OQ.load bsC8 rfl (has_left (has_left h2)) (Row.cell (v := s.v) rfl)) rfl (JL.nil (kk default nofun)))
            · (intro z EF MF Q kk; exact JL.q (OQ.load inC12 rfl (has_left (has_left h10)) (Row.cell (v := N bg) rfl)) rfl (JL.nil (kk default nofun)))
            · (intro z EF MF Q kk; exact JL.q (OQ.move rfl) rfl (JL.nil (kk default nofun)))
            · (intro z EF MF Q kk; exact JL.q (hmid rfl rfl rfl) rfl (JL.nil (kk default nofun)))
            · (intro z EF MF Q kk; exact JL.q (OQ.callx (vs := [x.v]) goes_mwend rfl c50) rfl (JL.nil (kk default nofun)))
            · (intro z EF MF Q kk; exact JL.callg (vs := [u.v]) (ι := { z : Acc // z = none → u.l = [] }) (fun z => accV z.1 u.l.length) (fun z => accE 5 z.1 (u.l.map U8)) goes_clone rfl rfl (fun z => accE_wr _ _ _) c51 fun z => JL.nil (kk (z, default, 0) nofun))
            · (intro z EF MF Q kk; exact JL.lit1 (v := accV (z 6).1.1 u.l.length) Tryz.underlying24 slE12 rfl rfl (accV_cells _ _) rfl fun bl _ => JL.nil (kk ((z 6).1, default, bl) (fun k h => by cases h; rfl)))
            · intro z EF MF Q kk
              show JL _ _ _ _ _ _ _ _ ((accE 22 q (rs.map Sl8.v) ++ ([⟨(z 7).2.2, Row 22 [accV (z 7).1.1 u.l.length], true⟩] ++ [])) ++ MF)
              rw [List.append_assoc]
              refine JL.appendQ (xs := rs.map Sl8.v) (cs := [accV (z 7).1.1 u.l.length]) (m := 1) (ad := some ⟨(z 7).2.2, 0, none⟩) (sc := 1) q Tryz.underlying24 slE12 hq1 rfl rfl rfl (fun w' hw' => ?_) (fun v hv => by rw [List.mem_singleton.1 hv]; exact accV_one _ _) rfl (by omega) (by omega) rfl fun q' hq' => ?_
              · obtain ⟨o, ho, hA⟩ := hw'.get (b := (z 7).2.2) (A := Row 22 [accV (z 7).1.1 u.l.length]) (wr := true) (has_right _ .here)
                exact Reads.block ho (Row.all _ hA)
              · exact JL.nil (JE.less (less_app2 (.drop _ _ _ (Less.refl _)) _) (kk ((z 7).1, q', 0) (fun k h => by cases h; exact ⟨rfl, fun h => by have := hq' h; simp at this⟩)))
            · (intro z EF MF Q kk; exact JL.store_eq (v := accV (z 8).2.1 (rs.map Sl8.v ++ [accV (z 8).1.1 u.l.length]).length) (r' := [accV (z 8).2.1 (rs.map Sl8.v ++ [accV (z 8).1.1 u.l.length]).length]) lsS rfl rfl (accV_one _ _) (accV_cells _ _) .here (by simp) rfl (JL.nil (kk ((z 8).1, (z 8).2.1, 0) (fun k h => by cases h; exact ⟨rfl, rfl⟩))))
          intro z hz
          have z7 : (z 7).1 = (z 6).1 := hz 7 6 (by decide) rfl
          have z8 : (z 8).1 = (z 7).1 ∧ (z 8).2.1 ≠ none := hz 8 7 (by decide) rfl
          have z9 : (z 9).1 = (z 8).1 ∧ (z 9).2.1 = (z 8).2.1 := hz 9 8 (by decide) rfl
          obtain ⟨c, hc⟩ : ∃ c, (z 6).1 = c := ⟨_, rfl⟩
          have e8 : (z 8).1 = c := z8.1.trans (z7.trans hc)
          have e9 : (z 9).1 = c := z9.1.trans e8
          obtain ⟨q', hq'⟩ : ∃ q', (z 8).2.1 = q' := ⟨_, rfl⟩
          have e9' : (z 9).2.1 = q' := z9.2.trans hq'
          have emap : (rs ++ [accS c.1 u.l]).map Sl8.v = rs.map Sl8.v ++ [accV c.1 u.l.length] := by rw [List.map_append, List.map_cons, List.map_nil, accS_v]
          show JE _ _ _ _ _ [(11, N (atN s.l k)), (12, y.v), (2, Pt b2 0), (4, Pt b4 0), (5, Pt b5 0), (6, Pt b6 0), (7, Pt b7 0), (8, Pt b8 0), (9, Pt b9 0), (10, Pt b10 0), (14, .bool false), (15, .bool true)] _
          refine JE.less (M' := ⟨b8, Row 24 [accV q' ((rs ++ [accS c.1 u.l]).map Sl8.v).length], true⟩ :: ([⟨be, Row 22 [s.v], false⟩, ⟨b10, Row 3 [N bg], true⟩, ⟨b9, Row 4 [.bool true], true⟩, ⟨b7, Row 9 [Z (45 :: 45 :: (bd ++ [45, 45]))], true⟩, ⟨b6, Row 9 [Z (45 :: 45 :: bd)], true⟩, ⟨b5, Row 25 [.int .i64 0], true⟩, ⟨b4, Row 24 [.slice none 0 0], true⟩, ⟨b2, Row 22 [s.v], true⟩] ++ (accE 22 q' ((rs ++ [accS c.1 u.l]).map Sl8.v) ++ flatE (rs ++ [accS c.1 u.l])))) ?_ ?_
          · show Less _ ([⟨b8, Row 24 [accV (z 9).2.1 (rs.map Sl8.v ++ [accV (z 9).1.1 u.l.length]).length], true⟩] ++ ([⟨be, Row 22 [s.v], false⟩, ⟨b10, Row 3 [N bg], true⟩, ⟨b9, Row 4 [.bool true], true⟩, ⟨b7, Row 9 [Z (45 :: 45 :: (bd ++ [45, 45]))], true⟩, ⟨b6, Row 9 [Z (45 :: 45 :: bd)], true⟩, ⟨b5, Row 25 [.int .i64 0], true⟩, ⟨b4, Row 24 [.slice none 0 0], true⟩, ⟨b2, Row 22 [s.v], true⟩] ++ (accE 22 (z 8).2.1 (rs.map Sl8.v ++ [accV (z 8).1.1 u.l.length]) ++ (flatE rs ++ (accE 5 (z 6).1.1 (u.l.map U8) ++ [])))))
            rw [e9, e9', e8, hq', hc, emap, List.append_nil]
            exact .keep _ _ _ _ _ _ (fun _ h => h) (less_app2 (less_app2 (flat_snoc rs c.1 u.l) _) _)
          have hq2 : q' = none → rs ++ [accS c.1 u.l] = [] := fun h => absurd (hq'.trans h) z8.2
          have h02 : ∀ y ∈ rs ++ [accS c.1 u.l], y.ad = none → y.l = [] := fun y hy => by
            rcases List.mem_append.1 hy with h | h
            · exact h0 y h
            · rw [List.mem_singleton.1 h]; exact accS_none
          have hmap : (rs ++ [accS c.1 u.l]).map Sl8.l = rs.map Sl8.l ++ [wendB ((s.l.take (atN s.l k)).drop bg)] := by
            rw [List.map_append, List.map_cons, List.map_nil, accS_l c.2, hul, hxl]
          have hlen2 : (rs ++ [accS c.1 u.l]).length = rs.length + 1 := List.length_append
          generalize rs ++ [accS c.1 u.l] = rs2 at hq2 h02 hmap hlen2 ⊢
          clear z7 z8 z9 e8 e9 hc hq' e9' emap hz z vs Ms Rl
          refine JE.nextR ?_
          repeat (first | refine JL.q (by first | (apply OQ.load; exact boC; exact rfl; exact (by repeat (first | exact Has.here | apply Has.there)); exact (Row.cell (v := .bool true) rfl)) | (apply OQ.pick_t; exact rfl; exact rfl) | (apply OQ.move; exact rfl)) rfl ?_ | refine JR.seq ?_ | refine JL.nil ?_ | with_reducible refine JE.nextR ?_ | refine JL.gon rfl rfl ?_ | refine JR.region rfl (by first | with_reducible exact lo_roundQ | with_reducible exact lo_then lo_roundQ | with_reducible exact lo_blk lo_roundQ | with_reducible exact lo_then (lo_blk lo_roundQ) | with_reducible exact lo_roundX | with_reducible exact lo_then lo_roundX | with_reducible exact lo_blk lo_roundX | with_reducible exact lo_then (lo_blk lo_roundX) | with_reducible exact lo_then (lo_then (lo_blk lo_roundX))) ?_)
          refine JR.cond rfl (fun _ => ?_) (fun h => by cases h)
          refine JR.seq (JR.region rfl (by repeat (first | with_reducible exact lo_roundX | with_reducible apply lo_then | with_reducible apply lo_blk)) ?_)
          refine JL.q (OQ.load lsC rfl .here (Row.cell (v := accV q' (rs2.map Sl8.v).length) rfl)) rfl ?_
          refine JL.store_eq (v := accV q' (rs2.map Sl8.v).length) (r' := [accV q' (rs2.map Sl8.v).length]) lsS rfl rfl (accV_one _ _) (accV_cells _ _) (by repeat (first | exact Upd.here | apply Upd.there)) (by simp) rfl ?_
          refine JL.store_eq (v := .int .i64 0) (r' := [.int .i64 0]) erS rfl rfl rfl rfl (by repeat (first | exact Upd.here | apply Upd.there)) (by decide) rfl ?_
          refine JL.nil (JE.nextR (JR.ret ?_))
          refine JE.then_ret (JE.blk_ret ?_)
          refine JE.roundX ⟨none, q', rs2⟩ ⟨?_, hq2, h02⟩ (.drop _ _ _ (.drop _ _ _ (.drop _ _ _ (.drop _ _ _ (.drop _ _ _ (.drop _ _ _ (.keep _ _ _ _ _ _ (fun _ h => h) (.keep _ _ _ _ _ _ (fun _ h => h) (.drop _ _ _ (Less.refl _))))))))))
          show goalB bd s.l = some (rs2.map Sl8.l)
          rw [hmap]
          exact scan_last hat hsc hm
  case hdone =>
    rintro D z ⟨hsc, hq, h0, _⟩
    have hg : goalB bd s.l = none := by
      rw [atN_end] at hsc
      exact scan_end hsc
    rw [hg]
    unfold spM spA spB
    refine KE.blk_normal (KE.next (KC.seq (KC.region ?_)))
    refine KL.store_eq (v := .slice none 0 0) (r' := [.slice none 0 0]) lsS rfl rfl rfl rfl (by repeat (first | exact Upd.here | apply Upd.there)) (by decide) rfl ?_
    refine KL.store_eq (v := .int .i64 3) (r' := [.int .i64 3]) erS rfl rfl rfl rfl (by repeat (first | exact Upd.here | apply Upd.there)) (by decide) rfl ?_
    refine KL.nil (KE.next (KC.ret ?_))
    refine KE.ret2x rfl (RV.cell rfl lsC (b := b4) (by repeat (first | exact Has.here | apply Has.there)) (Row.cell (v := .slice none 0 0) rfl)) (RV.cell rfl erC (b := b5) (by repeat (first | exact Has.here | apply Has.there)) (Row.cell (v := .int .i64 3) rfl)) fun w' hw => ?_
    exact ⟨⟨none, [], rfl, fun _ => rfl, by simp⟩, rfl, hw.weak (.nil _)⟩
  case hstop =>
    rintro D z ⟨hg, hq, h0⟩
    rw [hg]
    unfold spX
    refine KE.blk_ret (KE.then_ret ?_)
    refine KE.ret2x rfl (RV.cell rfl lsC (b := b4) (by repeat (first | exact Has.here | apply Has.there)) (Row.cell rfl)) (RV.cell rfl erC (b := b5) (by repeat (first | exact Has.here | apply Has.there)) (Row.cell rfl)) fun w' hw => ?_
    exact ⟨⟨z.q, z.rs, rfl, hq, h0⟩, rfl, hw.weak (.drop _ _ _ (.drop _ _ _ (Less.refl _)))⟩
end Go.Proofs.YtbbmhkdfdgnkpaaGreatDoor

/-
  Of no statement by itself: rows of bytes with a boundary's lines between them come back from Split; pure; no program stands here.
  Conditions: none but each lemma's own.
-/
namespace Go.Proofs.YtbbmhkdfdgnkpaaGreatDoor
namespace Mim
open Fld
def glue (L : List (List By × List By)) : List By := L.flatMap fun x => x.1 ++ x.2
/-- not begun by two - -/
def nd (l : List By) : Prop := ¬ l.take 2 = [45, 45]
theorem nd_nil : nd [] := by unfold nd; decide
theorem nd_pre {a b : List By} (h : a <+: b) (hb : nd b) : nd a := by
  obtain ⟨t, rfl⟩ := h
  intro e
  refine hb ?_
  have h2 : 2 ≤ a.length := by
    have := congrArg List.length e
    simp only [List.length_take, List.length_cons, List.length_nil] at this
    omega
  rw [List.take_append_of_le_length h2, e]
theorem cutR_pre (s : List By) : cutR s <+: s := by
  have h := List.dropWhile_suffix (l := s.reverse) bl
  have := List.reverse_prefix.2 h
  rwa [List.reverse_reverse] at this
theorem mark_nd {bd s : List By} (h : nd s) : markB bd s = 0 := by
  have hc := nd_pre (cutR_pre s) h
  unfold markB
  rw [if_neg (fun e => hc (by rw [e]; rfl)), if_neg (fun e => hc (by rw [e]; rfl))]
theorem cutR_self {s : List By} (h : ∀ c ∈ s, bl c = false) : cutR s = s := by
  unfold cutR
  cases hr : s.reverse with
  | nil => rw [List.reverse_eq_nil_iff.1 hr]; rfl
  | cons c r =>
    have hc : bl c = false := h c (by rw [← List.mem_reverse, hr]; exact List.mem_cons_self)
    rw [List.dropWhile_cons, if_neg (by rw [hc]; decide), ← hr, List.reverse_reverse]
theorem bod_ok : ∀ c : By, bodB c = true → bl c = false ∧ c ≠ 10 ∧ c ≠ 13 := by
  have h : ∀ c : Fin 256, bodB (BitVec.ofNat 8 c.val) = true → bl (BitVec.ofNat 8 c.val) = false ∧ BitVec.ofNat 8 c.val ≠ 10 ∧ BitVec.ofNat 8 c.val ≠ 13 := by decide +kernel
  intro c
  simpa using h ⟨c.toNat, c.isLt⟩
theorem bound_all {bd : List By} (hb : boundB bd = true) : ∀ c ∈ bd, bodB c = true := by
  unfold boundB at hb
  rw [Bool.and_eq_true] at hb
  exact List.all_eq_true.1 hb.1
theorem dash_ok {bd : List By} (hb : boundB bd = true) : ∀ c ∈ 45 :: 45 :: bd, bl c = false ∧ c ≠ 10 ∧ c ≠ 13 := by
  intro c hc
  simp only [List.mem_cons] at hc
  rcases hc with rfl | rfl | hc
  · decide
  · decide
  · exact bod_ok c (bound_all hb c hc)
theorem dash_ok2 {bd : List By} (hb : boundB bd = true) : ∀ c ∈ 45 :: 45 :: (bd ++ [45, 45]), bl c = false ∧ c ≠ 10 ∧ c ≠ 13 := by
  intro c hc
  simp only [List.mem_cons, List.mem_append, List.not_mem_nil, or_false] at hc
  rcases hc with rfl | rfl | hc | rfl | rfl
  · decide
  · decide
  · exact bod_ok c (bound_all hb c hc)
  · decide
  · decide
theorem mark_one {bd : List By} (hb : boundB bd = true) : markB bd (45 :: 45 :: bd) = 1 := by
  unfold markB
  rw [cutR_self (fun c hc => (dash_ok hb c hc).1), if_pos rfl]
theorem mark_two {bd : List By} (hb : boundB bd = true) : markB bd (45 :: 45 :: (bd ++ [45, 45])) = 2 := by
  unfold markB
  rw [cutR_self (fun c hc => (dash_ok2 hb c hc).1), if_neg (fun e => by have := congrArg List.length e; simp at this), if_pos rfl]
/-! ### lines of what is joined -/
theorem lin_app : ∀ (b r x : List By), linR (b ++ 10 :: r) x = linR (b ++ [10]) x ++ linR r []
  | [], r, x => by simp [linR]
  | c :: b, r, x => by
    simp only [List.cons_append, linR]
    split
    · rw [lin_app b r []]; rfl
    · rw [lin_app b r _]
theorem lin_run : ∀ (a r x : List By), (∀ c ∈ a, c ≠ 10) → linR (a ++ r) x = linR r (x ++ a)
  | [], r, x, _ => by simp
  | c :: a, r, x, h => by
    simp only [List.cons_append, linR]
    rw [if_neg (h c List.mem_cons_self), lin_run a r _ (fun c' hc => h c' (List.mem_cons_of_mem _ hc))]
    simp
theorem lin_line {a : List By} (h : ∀ c ∈ a, c ≠ 10) (r : List By) : linB (a ++ 13 :: 10 :: r) = (a, [13, 10]) :: linB r := by
  unfold linB
  rw [lin_run a _ [] h, List.nil_append]
  simp [linR]
theorem lin_part {D : List By → Prop} (h0 : D []) : ∀ (p x : List By), (∀ q ∈ linR p x, D q.1) → ∃ L l, linR (p ++ [13, 10]) x = L ++ [(l, [13, 10])] ∧ (∀ q ∈ L, D q.1) ∧ D l ∧ x ++ p = glue L ++ l
  | [], x, h => by
    refine ⟨[], x, by simp [linR], by simp, ?_, by simp [glue]⟩
    by_cases e : x = []
    · rw [e]; exact h0
    · exact h (x, []) (by simp [linR, e])
  | c :: p, x, h => by
    by_cases hc : c = 10
    · subst hc
      simp only [linR, if_true] at h
      obtain ⟨L, l, h1, h2, h3, h4⟩ := lin_part h0 p [] (fun q hq => h q (List.mem_cons_of_mem _ hq))
      have h5 := h _ List.mem_cons_self
      simp only [List.nil_append] at h4
      by_cases e : x.getLast? = some 13
      · rw [if_pos e] at h5
        refine ⟨(x.dropLast, [13, 10]) :: L, l, by rw [List.cons_append, linR, if_pos rfl, if_pos e, h1]; rfl, ?_, h3, ?_⟩
        · intro q hq
          rcases List.mem_cons.1 hq with rfl | hq
          · exact h5
          · exact h2 q hq
        · obtain ⟨hx, e2⟩ := List.getLast?_eq_some_iff.1 e
          subst e2
          simp only [glue, List.flatMap_cons, List.dropLast_concat, h4]
          simp
      · rw [if_neg e] at h5
        refine ⟨(x, [10]) :: L, l, by rw [List.cons_append, linR, if_pos rfl, if_neg e, h1]; rfl, ?_, h3, ?_⟩
        · intro q hq
          rcases List.mem_cons.1 hq with rfl | hq
          · exact h5
          · exact h2 q hq
        · simp only [glue, List.flatMap_cons, h4]
          simp
    · simp only [linR, if_neg hc] at h
      obtain ⟨L, l, h1, h2, h3, h4⟩ := lin_part h0 p (x ++ [c]) h
      exact ⟨L, l, by rw [List.cons_append, linR, if_neg hc, h1], h2, h3, by rw [← h4]; simp⟩
/-! ### what is collected -/
theorem col_run {bd : List By} : ∀ (L : List (List By × List By)) (l e p o : List By) (m : List (List By × List By)), (∀ q ∈ L, markB bd q.1 = 0) → markB bd l = 0 → (∀ q ∈ m.head?, markB bd q.1 ≠ 0) → colR bd (L ++ (l, e) :: m) p o = (o ++ p ++ glue L ++ l, m)
  | [], l, e, p, o, m, _, hl, hm => by
    rw [List.nil_append, colR, if_pos hl]
    cases m with
    | nil => simp [colR, glue]
    | cons q m =>
      rw [colR, if_neg (hm q (by simp))]
      simp [glue]
  | (a, ea) :: L, l, e, p, o, m, h, hl, hm => by
    rw [List.cons_append, colR, if_pos (h _ List.mem_cons_self), col_run L l e ea _ m (fun q hq => h q (List.mem_cons_of_mem _ hq)) hl hm]
    simp [glue]
/-- rows with a boundary's lines between -/
def jn (bd : List By) (parts : List (List By)) (behind : List By) : List By := (parts.flatMap fun p => 45 :: 45 :: bd ++ ([13, 10] ++ (p ++ [13, 10]))) ++ (45 :: 45 :: (bd ++ [45, 45]) ++ ([13, 10] ++ behind))
theorem jn_spl {bd : List By} (hb : boundB bd = true) (behind : List By) : ∀ (parts out : List (List By)), parts ≠ [] → (∀ p ∈ parts, ∀ q ∈ linB p, markB bd q.1 = 0) →
    ∃ t, linB (jn bd parts behind) = (45 :: 45 :: bd, [13, 10]) :: t ∧ splL bd (linB (jn bd parts behind)) out = some (out ++ parts)
  | [], _, h, _ => absurd rfl h
  | p :: ps, out, _, hp => by
    obtain ⟨L, l, h1, h2, h3, h4⟩ := lin_part (D := fun q => markB bd q = 0) (mark_nd nd_nil) p [] (hp p List.mem_cons_self)
    have e : linB (jn bd (p :: ps) behind) = (45 :: 45 :: bd, [13, 10]) :: (L ++ (l, [13, 10]) :: linB (jn bd ps behind)) := by
      have e0 : jn bd (p :: ps) behind = (45 :: 45 :: bd) ++ 13 :: 10 :: ((p ++ [13]) ++ 10 :: jn bd ps behind) := by simp [jn]
      rw [e0, lin_line (fun c hc => (dash_ok hb c hc).2.1)]
      unfold linB
      rw [lin_app, show p ++ [13] ++ [10] = p ++ [13, 10] by simp, h1]
      simp
    refine ⟨_, e, ?_⟩
    rw [List.nil_append] at h4
    have hlast : linB (jn bd [] behind) = (45 :: 45 :: (bd ++ [45, 45]), [13, 10]) :: linB behind := by
      have e0 : jn bd [] behind = (45 :: 45 :: (bd ++ [45, 45])) ++ 13 :: 10 :: behind := by simp [jn]
      rw [e0, lin_line (fun c hc => (dash_ok2 hb c hc).2.1)]
    have hm : ∀ q ∈ (linB (jn bd ps behind)).head?, markB bd q.1 ≠ 0 := by
      intro q hq
      cases ps with
      | nil =>
        rw [hlast] at hq
        simp only [List.head?_cons, Option.mem_some_iff] at hq
        subst hq
        rw [mark_two hb]; decide
      | cons p2 ps =>
        obtain ⟨t, ht, _⟩ := jn_spl hb behind (p2 :: ps) [] (by simp) (fun p hp' => hp p (List.mem_cons_of_mem _ hp'))
        rw [ht] at hq
        simp only [List.head?_cons, Option.mem_some_iff] at hq
        subst hq
        rw [mark_one hb]; decide
    rw [e, splL, mark_one hb, if_pos rfl, col_run L l _ [] [] _ h2 h3 hm]
    simp only [List.nil_append, ← h4]
    cases ps with
    | nil => rw [hlast, splL, mark_two hb, if_neg (by decide), if_pos rfl]
    | cons p2 ps =>
      obtain ⟨t, ht, hs⟩ := jn_spl hb behind (p2 :: ps) (out ++ [p]) (by simp) (fun p hp' => hp p (List.mem_cons_of_mem _ hp'))
      rw [hs]
      simp
theorem jn_only {bd behind : List By} {parts : List (List By)} (hb : boundB bd = true) (hne : parts ≠ []) (hP : ∀ p ∈ parts, ∀ q ∈ linB p, markB bd q.1 = 0) : spltB (jn bd parts behind) bd = (parts, 0) := by
  obtain ⟨t, ht, hs⟩ := jn_spl hb behind parts [] hne hP
  unfold spltB
  rw [if_neg (by rw [hb]; decide), ht, List.dropWhile_cons, if_neg (by rw [mark_one hb]; decide), ← ht, hs]
  rfl
end Mim
end Go.Proofs.YtbbmhkdfdgnkpaaGreatDoor

/-
  Of no statement by itself: a mail's fields of a name: all values, without them, with one of them (layer 11), and what holds between them; no program.
  Conditions: none.
-/
namespace Go.Proofs.YtbbmhkdfdgnkpaaGreatDoor
namespace Fld
abbrev PrB := List By × List By
def allB (n : List By) (l : List PrB) : List (List By) := (l.filter fun p => sameB p.1 n).map (·.2)
/-! ### as bytes -/
def headB (l : List PrB) : List By := l.flatMap fun p => foldB p.1 p.2
def writeK (l : List PrB) (b : List By) : Nat := if l.all (fun p => nameB p.1 && valB p.2) then (if 200 < l.length ∨ 65536 < (headB l).length + 2 ∨ 2097152 < (headB l).length + 2 + b.length then 4 else 0) else 3
def writeO (l : List PrB) (b : List By) : List By := if writeK l b = 0 then headB l ++ [13, 10] ++ b else []
theorem all_cons (n : List By) (p : PrB) (l : List PrB) : allB n (p :: l) = if sameB p.1 n then p.2 :: allB n l else allB n l := by
  unfold allB
  rw [List.filter_cons]
  split <;> rfl
theorem all_nil (n : List By) : allB n [] = [] := rfl
end Fld
end Go.Proofs.YtbbmhkdfdgnkpaaGreatDoor

/-
  Of no statement by itself: a value that is told bare is told the same again; pure; no program stands here.
  Conditions: none but each lemma's own.
-/
namespace Go.Proofs.YtbbmhkdfdgnkpaaGreatDoor
namespace Tok
open Fld
/-- what was told so far tells itself, up to whether a quoted text is open -/
def Inv (o : List By) (q : Bool) : Prop := ∀ r : List By, bareR (o ++ r) 0 false [] = bareR r 0 q o
theorem Inv.q {o : List By} {c : By} (h : Inv o true) (hc : ¬ c = 92) : Inv (o ++ [c]) (!(c == 34)) := fun r => by
  rw [List.append_assoc, h, List.singleton_append, bare_q hc]
theorem Inv.n {o : List By} {c : By} (h : Inv o false) (h1 : ¬ c = 40) (h2 : ¬ c = 41) : Inv (o ++ [c]) (c == 34) := fun r => by
  rw [List.append_assoc, h, List.singleton_append, bare_0 h1 h2]
end Tok
end Go.Proofs.YtbbmhkdfdgnkpaaGreatDoor

/-
  Of no statement by itself: an address that is told is told again; pure; no program stands here.
  Conditions: none but each lemma's own.
-/
namespace Go.Proofs.YtbbmhkdfdgnkpaaGreatDoor
namespace Tok
open Fld
theorem byte_all (p : By → Bool) (h : ∀ c : Fin 256, p (BitVec.ofNat 8 c.val) = true) (c : By) : p c = true := by simpa using h ⟨c.toNat, c.isLt⟩
def good (c : By) : Bool := c == 46 || plainB c || c == 64
theorem good_not (c : By) (h : good c = true) : ¬ c = 34 ∧ ¬ c = 40 ∧ ¬ c = 41 ∧ ¬ c = 62 ∧ bl c = false := by
  have := byte_all (fun c => !good c || (!decide (c = 34) && (!decide (c = 40) && (!decide (c = 41) && (!decide (c = 62) && !bl c))))) (by decide +kernel) c
  rw [h] at this
  simpa using this
theorem dot_not (c : By) (h : c = 46 ∨ plainB c = true) : good c = true ∧ ¬ c = 64 := by
  have := byte_all (fun c => !(decide (c = 46) || plainB c) || (good c && !decide (c = 64))) (by decide +kernel) c
  rw [show (decide (c = 46) || plainB c) = true by simpa using h] at this
  simpa using this
theorem fst_app {c : By} : ∀ (p r : List By), (∀ d ∈ p, ¬ d = c) → fst c (p ++ c :: r) = p.length
  | [], r, _ => by
    unfold fst
    rw [List.nil_append, List.takeWhile_cons, if_neg (by simp)]
    try rfl
  | d :: p, r, h => by
    have := fst_app p r fun e he => h e (by simp [he])
    unfold fst at this ⊢
    rw [List.cons_append, List.takeWhile_cons, if_pos (by simpa using h d (by simp)), List.length_cons, this, List.length_cons]
theorem fst_spec {c : By} : ∀ (u : List By), fst c u < u.length → u = u.take (fst c u) ++ c :: u.drop (fst c u + 1)
  | [], h => by simp at h
  | d :: r, h => by
    by_cases hd : d = c
    · subst hd
      have : fst d (d :: r) = 0 := by
        unfold fst
        rw [List.takeWhile_cons, if_neg (by simp)]; rfl
      rw [this]
      rfl
    · have e : fst c (d :: r) = fst c r + 1 := by
        unfold fst
        rw [List.takeWhile_cons, if_pos (by simpa using hd)]; rfl
      rw [e] at h ⊢
      rw [List.take_succ_cons, List.drop_succ_cons, List.cons_append, ← fst_spec r (by simpa using h)]
end Tok
end Go.Proofs.YtbbmhkdfdgnkpaaGreatDoor

/-
  Of no statement by itself: ids with blanks and comments between are read as they stand; pure; no program stands here.
  Conditions: none but each lemma's own.
-/
namespace Go.Proofs.YtbbmhkdfdgnkpaaGreatDoor
namespace Tok
open Fld
theorem bare_run : ∀ (a r o : List By), (∀ c ∈ a, ¬ c = 34 ∧ ¬ c = 40 ∧ ¬ c = 41) → bareR (a ++ r) 0 false o = bareR r 0 false (o ++ a)
  | [], r, o, _ => by rw [List.append_nil]; rfl
  | c :: a, r, o, h => by
    obtain ⟨h1, h2, h3⟩ := h c (by simp)
    rw [List.cons_append, bare_0 h2 h3, show (c == 34) = false from beq_eq_false_iff_ne.2 h1, bare_run a r _ fun d hd => h d (by simp [hd]), List.append_assoc]
    rfl
end Tok
end Go.Proofs.YtbbmhkdfdgnkpaaGreatDoor

/-
  Of no statement by itself: what is written of a kind and parameters holds no comment; pure; no program stands here.
  Conditions: none but each lemma's own.
-/
namespace Go.Proofs.YtbbmhkdfdgnkpaaGreatDoor
namespace Tok
open Fld
theorem plain_not {c : By} (h : plainB c = true) : ¬ c = 34 ∧ ¬ c = 40 ∧ ¬ c = 41 := by
  have := good_not c (dot_not c (.inr h)).1
  exact ⟨this.1, this.2.1, this.2.2.1⟩
theorem loose_not {c : By} (h : looseB c = true) : ¬ c = 34 ∧ ¬ c = 40 ∧ ¬ c = 41 := by
  have := byte_all (fun c => !looseB c || (!decide (c = 34) && (!decide (c = 40) && !decide (c = 41)))) (by decide +kernel) c
  rw [h] at this
  simpa using this
theorem atom_all {s : List By} (h : atomB s = true) : ∀ c ∈ s, plainB c = true := by
  unfold atomB at h
  rw [Bool.and_eq_true, List.all_eq_true] at h
  exact h.1
theorem simple_all {s : List By} (h : simpleB s = true) : ∀ c ∈ s, looseB c = true := by
  unfold simpleB at h
  rw [Bool.and_eq_true, List.all_eq_true] at h
  exact h.1
theorem kind_is {k : List By} (h : kindB k = true) : ∃ a b, k = a ++ 47 :: b ∧ atomB a = true ∧ atomB b = true := by
  unfold kindB at h
  simp only [Bool.and_eq_true, decide_eq_true_eq] at h
  exact ⟨_, _, fst_spec k h.1, h.2.1, h.2.2⟩
theorem bare_esc : ∀ (v r o : List By), bareR (esc v ++ 34 :: r) 0 true o = bareR r 0 false (o ++ esc v ++ [34])
  | [], r, o => by
    show bareR (34 :: r) 0 true o = _
    rw [bare_q (by decide), show esc [] = [] from rfl, List.append_nil]
    rfl
  | c :: v, r, o => by
    have e : esc (c :: v) = (if c = 34 ∨ c = 92 then [92, c] else [c]) ++ esc v := by unfold esc; rw [List.flatMap_cons]
    rw [e]
    by_cases h : c = 34 ∨ c = 92
    · rw [if_pos h]
      show bareR (92 :: c :: (esc v ++ 34 :: r)) 0 true o = _
      rw [bare_q92, bare_esc v r]
      congr 1
      simp
    · rw [if_neg h]
      show bareR (c :: (esc v ++ 34 :: r)) 0 true o = _
      rw [bare_q (fun k => h (.inr k)), show (!(c == 34)) = true from by simpa using fun k => h (.inl k), bare_esc v r]
      congr 1
      simp
theorem bare_par {p : List By × List By} (h : atomB p.1 = true) (r o : List By) : bareR (parW p ++ r) 0 false o = bareR r 0 false (o ++ parW p) := by
  have h1 : ∀ c ∈ [59, 32] ++ p.1 ++ [61], ¬ c = 34 ∧ ¬ c = 40 ∧ ¬ c = (41 : By) := by
    intro c hc
    rcases List.mem_append.1 hc with hc | hc
    · rcases List.mem_append.1 hc with hc | hc
      · exact (by decide : ∀ c ∈ ([59, 32] : List By), ¬ c = 34 ∧ ¬ c = 40 ∧ ¬ c = 41) c hc
      · exact plain_not (atom_all h c hc)
    · rw [List.mem_singleton] at hc
      subst hc
      decide
  unfold parW
  rw [List.append_assoc, bare_run _ _ _ h1]
  cases hs : simpleB p.2
  · rw [if_neg (by decide)]
    show bareR (34 :: (esc p.2 ++ [34] ++ r)) 0 false _ = _
    rw [bare_0 (by decide) (by decide), show ((34 : By) == 34) = true from rfl, List.append_assoc, List.singleton_append, bare_esc]
    congr 1
    simp
  · rw [if_pos rfl, bare_run _ _ _ fun c hc => loose_not (simple_all hs c hc), List.append_assoc]
theorem bare_pars : ∀ (l : List (List By × List By)) (r o : List By), (∀ p ∈ l, atomB p.1 = true) → bareR (l.flatMap parW ++ r) 0 false o = bareR r 0 false (o ++ l.flatMap parW)
  | [], r, o, _ => by show bareR r 0 false o = bareR r 0 false (o ++ []); rw [List.append_nil]
  | p :: l, r, o, h => by
    rw [List.flatMap_cons, List.append_assoc, bare_par (h p (by simp)), bare_pars l r _ fun q hq => h q (by simp [hq]), List.append_assoc]
theorem right_is {k : List By} {l : List (List By × List By)} (h : rightP k l = true) : kindB k = true ∧ k.map small = k ∧ ∀ p ∈ l, atomB p.1 = true ∧ p.1.map small = p.1 ∧ p.2.all sok = true := by
  unfold rightP at h
  simp only [Bool.and_eq_true, decide_eq_true_eq, List.all_eq_true] at h
  exact ⟨h.1.2, h.2, fun p hp => ⟨(h.1.1 p hp).1.1, (h.1.1 p hp).1.2, by rw [List.all_eq_true]; exact (h.1.1 p hp).2⟩⟩
/-- what is written is run through as it is -/
theorem bare_write {k : List By} {l : List (List By × List By)} (h : rightP k l = true) (r o : List By) : bareR (writeB k l ++ r) 0 false o = bareR r 0 false (o ++ writeB k l) := by
  obtain ⟨hk, _, hl⟩ := right_is h
  obtain ⟨a, b, rfl, ha, hb⟩ := kind_is hk
  unfold writeB
  rw [List.append_assoc, bare_run, bare_pars l r _ fun p hp => (hl p hp).1, List.append_assoc]
  intro c hc
  rcases List.mem_append.1 hc with hc | hc
  · exact plain_not (atom_all ha c hc)
  · rcases List.mem_cons.1 hc with rfl | hc
    · decide
    · exact plain_not (atom_all hb c hc)
theorem bare_written {k : List By} {l : List (List By × List By)} (h : rightP k l = true) : bareB (writeB k l) = (writeB k l, 0) := by
  have := bare_write h [] []
  rw [List.append_nil] at this
  exact this
end Tok
end Go.Proofs.YtbbmhkdfdgnkpaaGreatDoor

/-
  Of no statement by itself: what is written of a kind and parameters is read as these, blanks ahead and behind; pure; no program stands here.
  Conditions: none but each lemma's own.
-/
namespace Go.Proofs.YtbbmhkdfdgnkpaaGreatDoor
namespace Tok
open Fld
theorem unq_esc : ∀ (v r o : List By), unqR (esc v ++ 34 :: r) o = (o ++ v, 34 :: r)
  | [], r, o => by
    show unqR (34 :: r) o = _
    rw [unq_34, List.append_nil]
  | c :: v, r, o => by
    have e : esc (c :: v) = (if c = 34 ∨ c = 92 then [92, c] else [c]) ++ esc v := by unfold esc; rw [List.flatMap_cons]
    rw [e]
    by_cases h : c = 34 ∨ c = 92
    · rw [if_pos h]
      show unqR (92 :: c :: (esc v ++ 34 :: r)) o = _
      rw [unq_92, unq_esc v r, List.append_assoc]
      rfl
    · rw [if_neg h]
      show unqR (c :: (esc v ++ 34 :: r)) o = _
      rw [unq_c (fun k => h (.inl k)) (fun k => h (.inr k)), unq_esc v r, List.append_assoc]
      rfl
theorem sem_cons (c : By) (r : List By) (q : Bool) (x : List By) (h : ¬ (q = true ∧ c = 92)) : semR (c :: r) q x = if c = 34 then semR r (!q) (x ++ [c]) else if c = 59 ∧ q = false then x :: semR r q [] else semR r q (x ++ [c]) := by
  conv => lhs; rw [semR.eq_def]
  dsimp only
  rw [if_neg h]
theorem sem_run : ∀ (a r x : List By), (∀ c ∈ a, ¬ c = 34 ∧ ¬ c = 59) → semR (a ++ r) false x = semR r false (x ++ a)
  | [], r, x, _ => by rw [List.append_nil]; rfl
  | c :: a, r, x, h => by
    obtain ⟨h1, h2⟩ := h c (by simp)
    rw [List.cons_append, sem_cons _ _ _ _ (by rintro ⟨k, _⟩; cases k), if_neg h1, if_neg (fun k => h2 k.1), sem_run a r _ fun d hd => h d (by simp [hd]), List.append_assoc]
    rfl
theorem sem_q92 (c2 : By) (r x : List By) : semR (92 :: c2 :: r) true x = semR r true (x ++ [92, c2]) := by
  conv => lhs; rw [semR.eq_def]
  rfl
theorem sem_esc : ∀ (v r x : List By), semR (esc v ++ 34 :: r) true x = semR r false (x ++ esc v ++ [34])
  | [], r, x => by
    show semR (34 :: r) true x = _
    rw [sem_cons _ _ _ _ (by rintro ⟨_, k⟩; revert k; decide), if_pos rfl, show esc [] = [] from rfl, List.append_nil]
    rfl
  | c :: v, r, x => by
    have e : esc (c :: v) = (if c = 34 ∨ c = 92 then [92, c] else [c]) ++ esc v := by unfold esc; rw [List.flatMap_cons]
    rw [e]
    by_cases h : c = 34 ∨ c = 92
    · rw [if_pos h]
      show semR (92 :: c :: (esc v ++ 34 :: r)) true x = _
      rw [sem_q92, sem_esc v r]
      congr 1
      simp
    · rw [if_neg h]
      show semR (c :: (esc v ++ 34 :: r)) true x = _
      rw [sem_cons _ _ _ _ (fun k => h (.inr k.2)), if_neg (fun k => h (.inl k)), if_neg (by rintro ⟨_, k⟩; cases k), sem_esc v r]
      congr 1
      simp
theorem plain_no {c : By} (h : plainB c = true) : ¬ c = 34 ∧ ¬ c = 59 ∧ ¬ c = 61 ∧ ¬ c = 47 ∧ bl c = false := by
  have := byte_all (fun c => !plainB c || (!decide (c = 34) && (!decide (c = 59) && (!decide (c = 61) && (!decide (c = 47) && !bl c))))) (by decide +kernel) c
  rw [h] at this
  simpa using this
theorem loose_no {c : By} (h : looseB c = true) : ¬ c = 34 ∧ ¬ c = 59 ∧ bl c = false := by
  have := byte_all (fun c => !looseB c || (!decide (c = 34) && (!decide (c = 59) && !bl c))) (by decide +kernel) c
  rw [h] at this
  simpa using this
/-- a part as it is written, behind its ; -/
def parT (p : List By × List By) : List By := [32] ++ p.1 ++ [61] ++ (if simpleB p.2 then p.2 else [34] ++ esc p.2 ++ [34])
theorem parW_is (p : List By × List By) : parW p = 59 :: parT p := by simp [parW, parT]
theorem sem_par {p : List By × List By} (h : atomB p.1 = true) (r x : List By) : semR (parW p ++ r) false x = x :: semR r false (parT p) := by
  have h1 : ∀ c ∈ [32] ++ p.1 ++ [61], ¬ c = 34 ∧ ¬ c = (59 : By) := by
    intro c hc
    rcases List.mem_append.1 hc with hc | hc
    · rcases List.mem_append.1 hc with hc | hc
      · exact (by decide : ∀ c ∈ ([32] : List By), ¬ c = 34 ∧ ¬ c = 59) c hc
      · exact ⟨(plain_no (atom_all h c hc)).1, (plain_no (atom_all h c hc)).2.1⟩
    · exact (by decide : ∀ c ∈ ([61] : List By), ¬ c = 34 ∧ ¬ c = 59) c hc
  rw [parW_is, List.cons_append, sem_cons _ _ _ _ (by rintro ⟨k, _⟩; cases k), if_neg (by decide), if_pos ⟨rfl, rfl⟩]
  congr 1
  unfold parT
  rw [List.append_assoc, sem_run _ _ _ h1, List.nil_append]
  cases hs : simpleB p.2
  · rw [if_neg (by decide)]
    show semR (34 :: (esc p.2 ++ [34] ++ r)) false _ = _
    rw [sem_cons _ _ _ _ (by rintro ⟨k, _⟩; cases k), if_pos rfl, List.append_assoc, List.singleton_append]
    show semR (esc p.2 ++ 34 :: r) true _ = _
    rw [sem_esc]
    congr 1
    simp
  · rw [if_pos rfl, sem_run _ _ _ fun c hc => ⟨(loose_no (simple_all hs c hc)).1, (loose_no (simple_all hs c hc)).2.1⟩]
def glue (x : List By) : List (List By × List By) → List By → List (List By)
  | [], r => [x ++ r]
  | p :: l, r => x :: glue (parT p) l r
theorem sem_pars : ∀ (l : List (List By × List By)) (r x : List By), (∀ p ∈ l, atomB p.1 = true) → (∀ c ∈ r, ¬ c = 34 ∧ ¬ c = 59) → semR (l.flatMap parW ++ r) false x = glue x l r
  | [], r, x, _, hr => by
    show semR r false x = [x ++ r]
    have := sem_run r [] x hr
    rw [List.append_nil] at this
    rw [this]
    rfl
  | p :: l, r, x, h, hr => by
    rw [List.flatMap_cons, List.append_assoc, sem_par (h p (by simp)), sem_pars l r _ (fun q hq => h q (by simp [hq])) hr]
    rfl
theorem glue_all (r : List By) : ∀ (l : List (List By × List By)) (p : List By × List By), (∀ q ∈ p :: l, ∀ post : List By, (∀ c ∈ post, c ∈ r) → partB (parT q ++ post) = some q) → (glue (parT p) l r).mapM partB = some (p :: l)
  | [], p, h => by
    show [parT p ++ r].mapM partB = _
    simp [h p (by simp) r fun _ hc => hc]
  | q :: l, p, h => by
    show (parT p :: glue (parT q) l r).mapM partB = _
    have h0 := h p (by simp) [] (by simp)
    rw [List.append_nil] at h0
    have h1 := glue_all r l q fun q' hq => h q' (by simp at hq ⊢; right; exact hq)
    simp [List.mapM_cons, h0, h1]
theorem trimL_pre : ∀ (pre v : List By), (∀ c ∈ pre, bl c = true) → trimL (pre ++ v) = trimL v
  | [], v, _ => rfl
  | c :: pre, v, h => by
    show List.dropWhile bl (c :: (pre ++ v)) = _
    rw [List.dropWhile_cons, if_pos (h c (by simp))]
    exact trimL_pre pre v fun d hd => h d (by simp [hd])
theorem trimL_hd {v : List By} (h : ∀ c ∈ v.head?, bl c = false) : trimL v = v := by
  cases v with
  | nil => rfl
  | cons c r =>
    show List.dropWhile bl (c :: r) = _
    rw [List.dropWhile_cons, if_neg (by rw [h c rfl]; decide)]
theorem trim_mid {pre v post : List By} (h1 : ∀ c ∈ pre, bl c = true) (h2 : ∀ c ∈ post, bl c = true) (hv : ¬ v = []) (hh : ∀ c ∈ v.head?, bl c = false) (ht : ∀ c ∈ v.reverse.head?, bl c = false) : trim (pre ++ v ++ post) = v := by
  unfold trim
  rw [List.append_assoc, trimL_pre pre _ h1, trimL_hd (v := v ++ post) (by
    intro c hc
    cases v with
    | nil => exact absurd rfl hv
    | cons d r => exact hh c hc), List.reverse_append, trimL_pre _ _ (by simpa using h2), trimL_hd ht, List.reverse_reverse]
theorem hd_of {v : List By} {q : By → Bool} (h : ∀ c ∈ v, q c = false) : ∀ c ∈ v.head?, q c = false := fun c hc => h c (List.mem_of_mem_head? hc)
theorem part_par {p : List By × List By} (h : atomB p.1 = true) (hs : p.1.map small = p.1) (hv : p.2.all sok = true) (post : List By) (hp : ∀ c ∈ post, bl c = true) : partB (parT p ++ post) = some p := by
  obtain ⟨n, v⟩ := p
  dsimp only at h hs hv
  have hn0 : ¬ n = [] := fun k => by subst k; revert h; decide
  have hpl := atom_all h
  generalize hV : (if simpleB v then v else [34] ++ esc v ++ [34]) = V
  have hsplit : parT (n, v) ++ post = (32 :: n) ++ 61 :: (V ++ post) := by
    rw [← hV]
    unfold parT
    simp
  have hf : fst 61 ((32 :: n) ++ 61 :: (V ++ post)) = (32 :: n).length := fst_app _ _ (by
    intro d hd
    rcases List.mem_cons.1 hd with rfl | hd
    · decide
    · exact (plain_no (hpl d hd)).2.2.1)
  have e1 : ((32 :: n) ++ 61 :: (V ++ post)).take (32 :: n).length = 32 :: n := List.take_left
  have e2 : ((32 :: n) ++ 61 :: (V ++ post)).drop ((32 :: n).length + 1) = V ++ post := by
    rw [show (32 :: n).length + 1 = ((32 :: n) ++ [61]).length by simp, show (32 :: n) ++ 61 :: (V ++ post) = ((32 :: n) ++ [61]) ++ (V ++ post) by simp, List.drop_left]
  have nb : ∀ c ∈ n, bl c = false := fun c hc => (plain_no (hpl c hc)).2.2.2.2
  have t1 : trim (32 :: n) = n := by
    have := trim_mid (pre := [32]) (v := n) (post := []) (by decide) (by simp) hn0 (hd_of nb) (hd_of (by simpa using nb))
    simpa using this
  have vb : ¬ V = [] ∧ (∀ c ∈ V.head?, bl c = false) ∧ (∀ c ∈ V.reverse.head?, bl c = false) := by
    cases hsv : simpleB v
    · rw [hsv, if_neg (by decide)] at hV
      subst hV
      refine ⟨by simp, ?_, ?_⟩
      · intro c hc
        simp at hc
        subst hc
        decide
      · intro c hc
        simp at hc
        subst hc
        decide
    · rw [hsv, if_pos rfl] at hV
      subst hV
      have lb : ∀ c ∈ v, bl c = false := fun c hc => (loose_no (simple_all hsv c hc)).2.2
      exact ⟨fun k => by subst k; revert hsv; decide, hd_of lb, hd_of (by simpa using lb)⟩
  have t2 : trim (V ++ post) = V := by
    have := trim_mid (pre := []) (v := V) (post := post) (by simp) hp vb.1 vb.2.1 vb.2.2
    simpa using this
  rw [hsplit]
  unfold partB
  rw [hf, e1, e2, t1, t2, if_neg (by simp), h, if_neg (by decide), hs]
  cases hsv : simpleB v
  · rw [hsv, if_neg (by decide)] at hV
    subst hV
    have hns : simpleB ([34] ++ esc v ++ [34]) = false := by
      cases e : simpleB ([34] ++ esc v ++ [34])
      · rfl
      · have := simple_all e 34 (by simp)
        revert this
        decide
    have hu : unqR ([34] ++ esc v ++ [34]).tail [] = (v, [34]) := by
      show unqR (esc v ++ 34 :: []) [] = _
      rw [unq_esc]
      rfl
    rw [hns, if_neg (by decide), if_neg (by
      rintro (k | k)
      · simp only [List.length_append, List.length_cons, List.length_nil] at k; omega
      · exact k rfl), hu, if_pos ⟨rfl, hv⟩]
  · rw [hsv, if_pos rfl] at hV
    subst hV
    rw [hsv, if_pos rfl]
theorem bl_no {c : By} (h : bl c = true) : ¬ c = 34 ∧ ¬ c = 59 := by
  have := byte_all (fun c => !bl c || (!decide (c = 34) && !decide (c = 59))) (by decide +kernel) c
  rw [h] at this
  simpa using this
/-- what is written is read as it was, blanks ahead and behind -/
theorem params_write {k : List By} {l : List (List By × List By)} (h : rightP k l = true) {pre post : List By} (h1 : ∀ c ∈ pre, bl c = true) (h2 : ∀ c ∈ post, bl c = true) : paramsT (pre ++ writeB k l ++ post) = (k, l, 0) := by
  obtain ⟨hk, hks, hl⟩ := right_is h
  obtain ⟨a, b, e, ha, hb⟩ := kind_is hk
  have kc : ∀ c ∈ k, ¬ c = 34 ∧ ¬ c = 59 ∧ bl c = false := by
    subst e
    intro c hc
    rcases List.mem_append.1 hc with hc | hc
    · have := plain_no (atom_all ha c hc); exact ⟨this.1, this.2.1, this.2.2.2.2⟩
    · rcases List.mem_cons.1 hc with rfl | hc
      · decide
      · have := plain_no (atom_all hb c hc); exact ⟨this.1, this.2.1, this.2.2.2.2⟩
  have k0 : ¬ k = [] := fun h => by subst e; simp at h
  have kb : ∀ c ∈ k, bl c = false := fun c hc => (kc c hc).2.2
  have hsem : semB (pre ++ writeB k l ++ post) = glue (pre ++ k) l post := by
    unfold semB writeB
    rw [show pre ++ (k ++ l.flatMap parW) ++ post = (pre ++ k) ++ (l.flatMap parW ++ post) by simp, sem_run, List.nil_append, sem_pars l post _ (fun p hp => (hl p hp).1) fun c hc => bl_no (h2 c hc)]
    intro c hc
    rcases List.mem_append.1 hc with hc | hc
    · exact bl_no (h1 c hc)
    · exact ⟨(kc c hc).1, (kc c hc).2.1⟩
  have htrim : trim ((glue (pre ++ k) l post).headD []) = k := by
    cases l with
    | nil => exact trim_mid h1 h2 k0 (hd_of kb) (hd_of (by simpa using kb))
    | cons p l =>
      have := trim_mid (post := []) h1 (by simp) k0 (hd_of kb) (hd_of (by simpa using kb))
      rw [List.append_nil] at this
      exact this
  have htail : (glue (pre ++ k) l post).tail.mapM partB = some l := by
    cases l with
    | nil => rfl
    | cons p l => exact glue_all post l p fun q hq po hpo => part_par (hl q hq).1 (hl q hq).2.1 (hl q hq).2.2 po fun c hc => h2 c (hpo c hc)
  unfold paramsT
  rw [hsem, htrim, htail, hk, if_neg (by decide), hks]
end Tok
end Go.Proofs.YtbbmhkdfdgnkpaaGreatDoor

/-
  Of no statement by itself: bytes as signs (base64) by groups of three, and bit by bit; bytes back from signs; lines of signs; blanks struck out; no program stands here.
  Conditions: none but each lemma's own.
-/
namespace Go.Proofs.YtbbmhkdfdgnkpaaGreatDoor
namespace Arm
abbrev By := BitVec 8
def sgL : List By := [65, 66, 67, 68, 69, 70, 71, 72, 73, 74, 75, 76, 77, 78, 79, 80, 81, 82, 83, 84, 85, 86, 87, 88, 89, 90, 97, 98, 99, 100, 101, 102, 103, 104, 105, 106, 107, 108, 109, 110, 111, 112, 113, 114, 115, 116, 117, 118, 119, 120, 121, 122, 48, 49, 50, 51, 52, 53, 54, 55, 56, 57, 43, 47]
def sg (n : Nat) : By := sgL.getD n 0
/-- bytes as signs, three by three -/
def encB : List By → List By
  | [] => []
  | [a] => [sg (a.toNat / 4), sg (a.toNat % 4 * 16), 61, 61]
  | [a, b] => [sg (a.toNat / 4), sg (a.toNat % 4 * 16 + b.toNat / 16), sg (b.toNat % 16 * 4), 61]
  | a :: b :: c :: r => sg (a.toNat / 4) :: sg (a.toNat % 4 * 16 + b.toNat / 16) :: sg (b.toNat % 16 * 4 + c.toNat / 64) :: sg (c.toNat % 64) :: encB r
theorem encB3 (a b c : By) (r : List By) : encB (a :: b :: c :: r) = sg (a.toNat / 4) :: sg (a.toNat % 4 * 16 + b.toNat / 16) :: sg (b.toNat % 16 * 4 + c.toNat / 64) :: sg (c.toNat % 64) :: encB r := by rw [encB]
/-- a row by threes -/
theorem by3 {p : List By → Prop} (h0 : p []) (h1 : ∀ a, p [a]) (h2 : ∀ a b, p [a, b]) (h3 : ∀ a b c r, p r → p (a :: b :: c :: r)) : ∀ l, p l
  | [] => h0
  | [a] => h1 a
  | [a, b] => h2 a b
  | a :: b :: c :: r => h3 a b c r (by3 h0 h1 h2 h3 r)
theorem encB_len (l : List By) : (encB l).length = (l.length + 2) / 3 * 4 := by
  refine by3 (p := fun l => (encB l).length = (l.length + 2) / 3 * 4) (by simp [encB]) (fun _ => by simp [encB]) (fun _ _ => by simp [encB]) (fun a b c r h => ?_) l
  rw [encB3]
  show (encB r).length + 4 = (r.length + 3 + 2) / 3 * 4
  omega
/-! ### bits -/
def b8 (x : Nat) : List Nat := [x / 128 % 2, x / 64 % 2, x / 32 % 2, x / 16 % 2, x / 8 % 2, x / 4 % 2, x / 2 % 2, x % 2]
def b6 (x : Nat) : List Nat := [x / 32 % 2, x / 16 % 2, x / 8 % 2, x / 4 % 2, x / 2 % 2, x % 2]
def val : List Nat → Nat := List.foldl (fun n b => 2 * n + b) 0
/-- groups of six as signs -/
def sx : List Nat → List By
  | a :: b :: c :: d :: e :: f :: r => sg (val [a, b, c, d, e, f]) :: sx r
  | _ => []
/-- groups of eight as bytes -/
def oc : List Nat → List By
  | a :: b :: c :: d :: e :: f :: g :: h :: r => BitVec.ofNat 8 (val [a, b, c, d, e, f, g, h]) :: oc r
  | _ => []
theorem oc8 (a b c d e f g h : Nat) (r : List Nat) : oc (a :: b :: c :: d :: e :: f :: g :: h :: r) = BitVec.ofNat 8 (val [a, b, c, d, e, f, g, h]) :: oc r := by rw [oc]
/-! ### back -/
/-- the bits of a sign: none of what is no sign -/
def dx (c : By) (n : Nat) : List Nat := (List.range n).flatMap fun m => if sg m = c then b6 m else []
def d6 (s : List By) : List Nat := s.flatMap fun c => dx c 64
theorem dx_sg : ∀ m : Fin 64, dx (sg m.val) 64 = b6 m.val := by decide +kernel
theorem dx_eq : dx 61 64 = [] := by decide +kernel
theorem d6_cons (c : By) (s : List By) : d6 (c :: s) = dx c 64 ++ d6 s := rfl
theorem d6_sg {m : Nat} (h : m < 64) (s : List By) : d6 (sg m :: s) = b6 m ++ d6 s := by
  rw [d6_cons, dx_sg ⟨m, h⟩]
theorem d6_61 (s : List By) : d6 (61 :: s) = d6 s := by rw [d6_cons, dx_eq]; rfl
theorem v1 {p x : Nat} (hp : p < 64) (hx : x < 64) : val [p / 32 % 2, p / 16 % 2, p / 8 % 2, p / 4 % 2, p / 2 % 2, p % 2, x / 32 % 2, x / 16 % 2] = p * 4 + x / 16 := by
  simp only [val, List.foldl]; omega
theorem v2 {x y : Nat} (_hx : x < 64) (hy : y < 64) : val [x / 8 % 2, x / 4 % 2, x / 2 % 2, x % 2, y / 32 % 2, y / 16 % 2, y / 8 % 2, y / 4 % 2] = x % 16 * 16 + y / 4 := by
  simp only [val, List.foldl]; omega
theorem v3 {y z : Nat} (_hy : y < 64) (hz : z < 64) : val [y / 2 % 2, y % 2, z / 32 % 2, z / 16 % 2, z / 8 % 2, z / 4 % 2, z / 2 % 2, z % 2] = y % 4 * 64 + z := by
  simp only [val, List.foldl]; omega
theorem of8 {n : Nat} {a : By} (h : n = a.toNat) : BitVec.ofNat 8 n = a := by rw [h, BitVec.ofNat_toNat, BitVec.setWidth_eq]
theorem oc_enc (l : List By) : oc (d6 (encB l)) = l := by
  refine by3 (p := fun l => oc (d6 (encB l)) = l) (by simp [encB, d6, oc]) (fun a => ?_) (fun a b => ?_) (fun a b c r h => ?_) l
  · have ha := a.isLt
    rw [encB, d6_sg (by omega), d6_sg (by omega), d6_61, d6_61]
    generalize hp : a.toNat / 4 = p
    generalize hx : a.toNat % 4 * 16 = x
    show oc [p / 32 % 2, p / 16 % 2, p / 8 % 2, p / 4 % 2, p / 2 % 2, p % 2, x / 32 % 2, x / 16 % 2, x / 8 % 2, x / 4 % 2, x / 2 % 2, x % 2] = _
    rw [oc8, show ∀ x y z w : Nat, oc [x, y, z, w] = [] from fun _ _ _ _ => by simp [oc], v1 (by omega) (by omega), of8 (a := a) (by omega)]
  · have ha := a.isLt
    have hb := b.isLt
    rw [encB, d6_sg (by omega), d6_sg (by omega), d6_sg (by omega), d6_61]
    generalize hp : a.toNat / 4 = p
    generalize hx : a.toNat % 4 * 16 + b.toNat / 16 = x
    generalize hy : b.toNat % 16 * 4 = y
    show oc [p / 32 % 2, p / 16 % 2, p / 8 % 2, p / 4 % 2, p / 2 % 2, p % 2, x / 32 % 2, x / 16 % 2, x / 8 % 2, x / 4 % 2, x / 2 % 2, x % 2, y / 32 % 2, y / 16 % 2, y / 8 % 2, y / 4 % 2, y / 2 % 2, y % 2] = _
    rw [oc8, oc8, show ∀ x y : Nat, oc [x, y] = [] from fun _ _ => by simp [oc], v1 (by omega) (by omega), v2 (by omega) (by omega), of8 (a := a) (by omega), of8 (a := b) (by omega)]
  · have ha := a.isLt
    have hb := b.isLt
    have hc := c.isLt
    rw [encB3, d6_sg (by omega), d6_sg (by omega), d6_sg (by omega), d6_sg (by omega)]
    generalize hp : a.toNat / 4 = p
    generalize hx : a.toNat % 4 * 16 + b.toNat / 16 = x
    generalize hy : b.toNat % 16 * 4 + c.toNat / 64 = y
    generalize hz : c.toNat % 64 = z
    simp only [b6, List.cons_append, List.nil_append]
    rw [oc8, oc8, oc8, v1 (by omega) (by omega), v2 (by omega) (by omega), v3 (by omega) (by omega), of8 (a := a) (by omega), of8 (a := b) (by omega), of8 (a := c) (by omega), h]
/-- the bytes whose signs these are -/
def decB (s : List By) : Option (List By) := if encB (oc (d6 s)) = s then some (oc (d6 s)) else none
theorem decB_enc (l : List By) : decB (encB l) = some l := by
  unfold decB
  rw [oc_enc, if_pos rfl]
theorem decB_some {s l : List By} (h : decB s = some l) : encB l = s := by
  unfold decB at h
  split at h
  · next e => cases h; exact e
  · cases h
theorem decB_iff {s l : List By} : decB s = some l ↔ encB l = s := ⟨decB_some, fun h => h ▸ decB_enc l⟩
theorem decB_none {s : List By} (h : ∀ l, encB l ≠ s) : decB s = none := by
  cases e : decB s with
  | none => rfl
  | some l => exact absurd (decB_some e) (h l)
/-! ### lines -/
def lnB (s : List By) : Nat → List By
  | 0 => []
  | i + 1 => lnB s i ++ s.getD i 0 :: (if i % 76 = 75 ∨ i + 1 = s.length then [13, 10] else [])
def linesB (l : List By) : List By := lnB (encB l) (encB l).length
def blank (c : By) : Bool := c == 32 || c == 9 || c == 13 || c == 10
def bare (l : List By) : List By := l.filter fun c => !blank c
theorem sg_bare : ∀ m : Fin 64, blank (sg m.val) = false := by decide +kernel
theorem encB_bare (l : List By) : ∀ c ∈ encB l, blank c = false := by
  have s : ∀ m, m < 64 → blank (sg m) = false := fun m h => sg_bare ⟨m, h⟩
  refine by3 (p := fun l => ∀ c ∈ encB l, blank c = false) (by simp [encB]) (fun a => ?_) (fun a b => ?_) (fun a b c r h => ?_) l
  · have ha := a.isLt
    simp only [encB, List.mem_cons, List.not_mem_nil, or_false, forall_eq_or_imp, forall_eq]
    exact ⟨s _ (by omega), s _ (by omega), rfl, rfl⟩
  · have ha := a.isLt
    have hb := b.isLt
    simp only [encB, List.mem_cons, List.not_mem_nil, or_false, forall_eq_or_imp, forall_eq]
    exact ⟨s _ (by omega), s _ (by omega), s _ (by omega), rfl⟩
  · have ha := a.isLt
    have hb := b.isLt
    have hc := c.isLt
    simp only [encB, List.mem_cons, forall_eq_or_imp]
    exact ⟨s _ (by omega), s _ (by omega), s _ (by omega), s _ (by omega), h⟩
theorem bare_append (l r : List By) : bare (l ++ r) = bare l ++ bare r := List.filter_append ..
theorem lnB_bare {s : List By} (hs : ∀ c ∈ s, blank c = false) : ∀ i, i ≤ s.length → bare (lnB s i) = s.take i
  | 0, _ => rfl
  | i + 1, hi => by
    have e : s[i]? = some (s.getD i 0) := by rw [List.getD_eq_getElem?_getD, List.getElem?_eq_getElem (by omega)]; rfl
    have hb : blank (s.getD i 0) = false := hs _ (List.mem_of_getElem? e)
    rw [lnB, bare_append, lnB_bare hs i (by omega), List.take_add_one, e]
    congr 1
    show (s.getD i 0 :: (if i % 76 = 75 ∨ i + 1 = s.length then [13, 10] else [])).filter _ = _
    rw [List.filter_cons, hb]
    simp only [Bool.not_false, if_true]
    split <;> rfl
theorem linesB_bare (l : List By) : bare (linesB l) = encB l := by
  unfold linesB
  rw [lnB_bare (encB_bare l) _ (Nat.le_refl _), List.take_length]
/-- how far the line has come -/
def far (n : Nat) (c : By) : Nat := if c = 10 then 0 else n + 1
theorem lnB_len (s : List By) : ∀ i, (lnB s i).length ≤ 3 * i
  | 0 => Nat.le_refl _
  | i + 1 => by
    have := lnB_len s i
    rw [lnB, List.length_append]
    split <;> simp only [List.length_cons, List.length_nil] <;> omega
end Arm
end Go.Proofs.YtbbmhkdfdgnkpaaGreatDoor

/-
  Of no statement by itself: parts in one another: what a head and a body tell, the mail of a part, and that what is written is read as the part; pure; no program stands here. Layer 7's two functions are variables (Qd reads, Qe writes).
  Conditions: none but each lemma's own.
-/
namespace Go.Proofs.YtbbmhkdfdgnkpaaGreatDoor
namespace Mim
open Fld Tok
inductive Part where
  | mk (kind : List By) (ps : List PrB) (code : Int) (body : List By) (parts : List Part)
instance : Inhabited Part := ⟨.mk [] [] 0 [] []⟩
def Part.kind : Part → List By | .mk k _ _ _ _ => k
def Part.ps : Part → List PrB | .mk _ l _ _ _ => l
def Part.code : Part → Int | .mk _ _ c _ _ => c
def Part.body : Part → List By | .mk _ _ _ b _ => b
def Part.parts : Part → List Part | .mk _ _ _ _ l => l
/-- the value of the first parameter of a name -/
def parB (l : List PrB) (n : List By) : List By := ((l.find? fun p => decide (p.1 = n)).map (·.2)).getD []
def multiN : List By := [109, 117, 108, 116, 105, 112, 97, 114, 116, 47]
def multiB (k : List By) : Bool := decide (k.take 10 = multiN)
/-- boundary -/
def bdN : List By := [98, 111, 117, 110, 100, 97, 114, 121]
/-- content-type, content-transfer-encoding, in small letters, and as they are written -/
def ctN : List By := [99, 111, 110, 116, 101, 110, 116, 45, 116, 121, 112, 101]
def ceN : List By := [99, 111, 110, 116, 101, 110, 116, 45, 116, 114, 97, 110, 115, 102, 101, 114, 45, 101, 110, 99, 111, 100, 105, 110, 103]
def ctW : List By := [67, 111, 110, 116, 101, 110, 116, 45, 84, 121, 112, 101]
def ceW : List By := [67, 111, 110, 116, 101, 110, 116, 45, 84, 114, 97, 110, 115, 102, 101, 114, 45, 69, 110, 99, 111, 100, 105, 110, 103]
/-- text/plain -/
def tpN : List By := [116, 101, 120, 116, 47, 112, 108, 97, 105, 110]
def b7 : List By := [55, 98, 105, 116]
def b8 : List By := [56, 98, 105, 116]
def bin : List By := [98, 105, 110, 97, 114, 121]
def b64 : List By := [98, 97, 115, 101, 54, 52]
def qpN : List By := [113, 117, 111, 116, 101, 100, 45, 112, 114, 105, 110, 116, 97, 98, 108, 101]
/-- an encoding's code -/
def codB (c : List By) : Option Int := if c = b64 then some 1 else if c = qpN then some 2 else if c = [] ∨ c = b7 ∨ c = b8 ∨ c = bin then some 0 else none
def ceB (f : List PrB) : List By := match allB ceN f with
  | [] => []
  | v :: _ => (trim v).map small
def typB (f : List PrB) : List By × List PrB × Nat := match allB ctN f with
  | [] => (tpN, [], 0)
  | v :: _ => paramsB v
/-- layer 6's Read -/
def armR (b : List By) : Except Nat (List By) := match Arm.decB (Arm.bare b) with
  | some l => .ok l
  | none => .error 3
def mapE {α β : Type} (f : α → Except Nat β) : List α → Except Nat (List β)
  | [] => .ok []
  | x :: l => match f x with
    | .error e => .error e
    | .ok y => match mapE f l with
      | .error e => .error e
      | .ok ys => .ok (y :: ys)
/-- layer 11's Read -/
def readL (m : List By) : Except Nat (List PrB × List By) := if 2097152 < m.length then .error 4 else readB m
section
variable (Qd : List By → Except Nat (List By)) (Qe : List By → List By)
def bodyR (c : Int) (b : List By) : Except Nat (List By) := if c = 1 then armR b else if c = 2 then Qd b else .ok b
/-- a part, its parts by sub; none: it stands in as many multiparts as may be -/
def nodeR (sub : Option (List By → Except Nat Part)) (f : List PrB) (b : List By) : Except Nat Part :=
  if (typB f).2.2 ≠ 0 then .error (typB f).2.2
  else if multiB (typB f).1 then
    if boundB (parB (typB f).2.1 bdN) = false then .error 3
    else match sub with
      | none => .error 5
      | some g =>
        if (spltB b (parB (typB f).2.1 bdN)).2 ≠ 0 then .error (spltB b (parB (typB f).2.1 bdN)).2
        else match mapE g (spltB b (parB (typB f).2.1 bdN)).1 with
          | .error e => .error e
          | .ok l => .ok (.mk (typB f).1 (typB f).2.1 0 [] l)
  else match codB (ceB f) with
    | none => .error 3
    | some c => match bodyR Qd c b with
      | .error e => .error e
      | .ok x => .ok (.mk (typB f).1 (typB f).2.1 c x [])
def subR (r : List PrB → List By → Except Nat Part) (m : List By) : Except Nat Part := match readL m with
  | .error e => .error e
  | .ok x => r x.1 x.2
/-- a part that may stand in k multiparts more -/
def readP : Nat → List PrB → List By → Except Nat Part
  | 0 => nodeR Qd none
  | k + 1 => nodeR Qd (some (subR (readP k)))
def ceV (c : Int) : List By := if c = 1 then b64 else if c = 2 then qpN else b8
def bodyW (c : Int) (b : List By) : List By := if c = 1 then Arm.linesB b else if c = 2 then Qe b else b
def finW (f : List PrB) (b : List By) : Except Nat (List PrB × List By) := if writeK f b = 0 then .ok (f, b) else .error (writeK f b)
def nodeA (sub : Option (Part → Except Nat (List PrB × List By))) (kind : List By) (ps : List PrB) (code : Int) (body : List By) (parts : List Part) : Except Nat (List PrB × List By) :=
  if rightP kind ps = false then .error 3
  else if multiB kind then
    if parts = [] ∨ boundB (parB ps bdN) = false ∨ code ≠ 0 ∨ body ≠ [] then .error 3
    else match sub with
      | none => .error 5
      | some g => match mapE g parts with
        | .error e => .error e
        | .ok xs =>
          if spltB (jn (parB ps bdN) (xs.map fun x => writeO x.1 x.2) []) (parB ps bdN) = (xs.map (fun x => writeO x.1 x.2), 0) then finW [(ctW, writeB kind ps)] (jn (parB ps bdN) (xs.map fun x => writeO x.1 x.2) [])
          else .error 3
  else if code < 0 ∨ 2 < code ∨ parts ≠ [] then .error 3
  else finW [(ctW, writeB kind ps), (ceW, ceV code)] (bodyW Qe code body)
def nodeW (sub : Option (Part → Except Nat (List PrB × List By))) (p : Part) : Except Nat (List PrB × List By) := nodeA Qe sub p.kind p.ps p.code p.body p.parts
def writeP : Nat → Part → Except Nat (List PrB × List By)
  | 0 => nodeW Qe none
  | k + 1 => nodeW Qe (some (writeP k))
end
/-! ### the way back -/
theorem hd_headB : ∀ (l : List PrB), (∀ p ∈ l, nameB p.1 = true ∧ valB p.2 = true) → Hd l (headB l)
  | [], _ => .nil
  | (n, v) :: l, h => by
    obtain ⟨h1, h2⟩ := h (n, v) (by simp)
    obtain ⟨L, e, hf⟩ := fold_fo n v (valB_parts h2).1
    have := Hd.cons n v L [13, 10] l _ h1 h2 hf (.inr rfl) (hd_headB l fun p hp => h p (by simp [hp]))
    show Hd _ (foldB n v ++ headB l)
    rw [e]
    exact this
theorem written_read {f : List PrB} {b : List By} (h : writeK f b = 0) : readL (writeO f b) = .ok (f, b) := by
  have ho : writeO f b = headB f ++ [13, 10] ++ b := by unfold writeO; rw [if_pos h]
  unfold writeK at h
  split at h
  · next ha =>
    split at h
    · cases h
    · next hn =>
      have h1 : f.length ≤ 200 := by omega
      have h2 : (headB f).length + 2 ≤ 65536 := by omega
      have h3 : (headB f).length + 2 + b.length ≤ 2097152 := by omega
      have hl : (writeO f b).length = (headB f).length + 2 + b.length := by rw [ho]; simp; omega
      have hh : ∀ p ∈ f, nameB p.1 = true ∧ valB p.2 = true := fun p hp => by
        have := List.all_eq_true.1 ha p hp
        rwa [Bool.and_eq_true] at this
      unfold readL
      rw [if_neg (by rw [hl]; omega), ho]
      exact read_head (hd_headB f hh) (.inr rfl) b h1 h2
  · cases h
theorem fin_ok {f g : List PrB} {b c : List By} (h : finW f b = .ok (g, c)) : f = g ∧ b = c ∧ writeK g c = 0 := by
  unfold finW at h
  split at h
  · next hk => cases h; exact ⟨rfl, rfl, hk⟩
  · cases h
theorem params_back {k : List By} {l : List PrB} (h : rightP k l = true) : paramsB (writeB k l) = (k, l, 0) := by
  unfold paramsB
  rw [bare_written h]
  simp only [if_true]
  have := params_write h (pre := []) (post := []) (by simp) (by simp)
  simpa using this
theorem arm_back (b : List By) : armR (Arm.linesB b) = .ok b := by
  unfold armR
  rw [Arm.linesB_bare, Arm.decB_enc]
theorem mapE_ok {α β γ : Type} {g : α → Except Nat β} {r : γ → Except Nat α} {m : β → γ} : ∀ {l : List α} {xs : List β}, mapE g l = .ok xs → (∀ a ∈ l, ∀ x, g a = .ok x → r (m x) = .ok a) → mapE r (xs.map m) = .ok l
  | [], xs, h, _ => by cases h; rfl
  | a :: l, xs, h, hr => by
    unfold mapE at h
    cases e1 : g a with
    | error e => rw [e1] at h; cases h
    | ok x =>
      rw [e1] at h
      cases e2 : mapE g l with
      | error e => rw [e2] at h; cases h
      | ok ys =>
        rw [e2] at h
        cases h
        rw [List.map_cons, mapE, hr a List.mem_cons_self x e1, mapE_ok e2 fun a ha => hr a (List.mem_cons_of_mem _ ha)]
theorem typ_one {v : List By} (r : List PrB) : typB ((ctW, v) :: r) = paramsB v := by
  have e : allB ctN ((ctW, v) :: r) = v :: allB ctN r := by
    rw [all_cons, if_pos (by show sameB ctW ctN = true; decide)]
  unfold typB
  rw [e]
theorem ce_two {v c : List By} (hc : c = b8 ∨ c = b64 ∨ c = qpN) : ceB [(ctW, v), (ceW, c)] = c := by
  have e : allB ceN [(ctW, v), (ceW, c)] = [c] := by
    rw [all_cons, if_neg (by show ¬ sameB ctW ceN = true; decide), all_cons, if_pos (by show sameB ceW ceN = true; decide), all_nil]
  unfold ceB
  rw [e]
  rcases hc with rfl | rfl | rfl <;> decide
/-- no part is printed as layer 7 has it -/
def noQ : Nat → Part → Prop
  | 0, p => p.code ≠ 2
  | k + 1, p => p.code ≠ 2 ∧ ∀ q ∈ p.parts, noQ k q
theorem read_written {Qd : List By → Except Nat (List By)} {Qe : List By → List By} : ∀ (k : Nat) {p : Part} {f : List PrB} {b : List By}, ((∀ x, Qd (Qe x) = .ok x) ∨ noQ k p) → writeP Qe k p = .ok (f, b) → readP Qd k f b = .ok p := by
  -- one node, its parts by induction
  have key : ∀ (sub : Option (Part → Except Nat (List PrB × List By))) (rub : Option (List By → Except Nat Part)) (N : Part → Prop), (∀ g, sub = some g → ∃ r, rub = some r ∧ ∀ a x, N a → g a = .ok x → r (writeO x.1 x.2) = .ok a) →
      ∀ (p : Part) (f : List PrB) (b : List By), ((∀ x, Qd (Qe x) = .ok x) ∨ p.code ≠ 2) → (∀ a ∈ p.parts, N a) → nodeW Qe sub p = .ok (f, b) → nodeR Qd rub f b = .ok p ∧ writeK f b = 0 := by
    intro sub rub N hs ⟨kind, ps, code, body, parts⟩ f b hQ hN h
    replace hQ : (∀ x, Qd (Qe x) = .ok x) ∨ code ≠ 2 := hQ
    replace hN : ∀ a ∈ parts, N a := hN
    replace h : nodeA Qe sub kind ps code body parts = .ok (f, b) := h
    unfold nodeA at h
    have hr : rightP kind ps = true := by
      cases e : rightP kind ps with
      | true => rfl
      | false => rw [e, if_pos rfl] at h; cases h
    rw [if_neg (by rw [hr]; decide)] at h
    by_cases hm : multiB kind = true
    · rw [if_pos hm] at h
      by_cases hc : parts = [] ∨ boundB (parB ps bdN) = false ∨ code ≠ 0 ∨ body ≠ []
      · rw [if_pos hc] at h; cases h
      · rw [if_neg hc] at h
        have hb : boundB (parB ps bdN) = true := by
          cases e : boundB (parB ps bdN) with
          | true => rfl
          | false => exact absurd (Or.inr (Or.inl e)) hc
        have hc0 : code = 0 := Decidable.byContradiction fun e => hc (Or.inr (Or.inr (Or.inl e)))
        have hb0 : body = [] := Decidable.byContradiction fun e => hc (Or.inr (Or.inr (Or.inr e)))
        subst hc0 hb0
        cases sub with
        | none => cases h
        | some g =>
          obtain ⟨r, rfl, hgr⟩ := hs g rfl
          dsimp only at h
          cases e1 : mapE g parts with
          | error e => rw [e1] at h; cases h
          | ok xs =>
            rw [e1] at h
            dsimp only at h
            by_cases hsp : spltB (jn (parB ps bdN) (xs.map fun x => writeO x.1 x.2) []) (parB ps bdN) = (xs.map (fun x => writeO x.1 x.2), 0)
            · rw [if_pos hsp] at h
              obtain ⟨rfl, rfl, hk⟩ := fin_ok h
              refine ⟨?_, hk⟩
              unfold nodeR
              rw [typ_one, params_back hr]
              dsimp only
              rw [if_neg (by simp), if_pos hm, if_neg (by rw [hb]; decide), hsp]
              dsimp only
              rw [if_neg (by simp), mapE_ok e1 fun a ha x hx => hgr a x (hN a ha) hx]
            · rw [if_neg hsp] at h; cases h
    · rw [if_neg hm] at h
      by_cases hc : code < 0 ∨ 2 < code ∨ parts ≠ []
      · rw [if_pos hc] at h; cases h
      · rw [if_neg hc] at h
        have hp0 : parts = [] := Decidable.byContradiction fun e => hc (Or.inr (Or.inr e))
        have h1 : ¬ code < 0 := fun e => hc (Or.inl e)
        have h2 : ¬ 2 < code := fun e => hc (Or.inr (Or.inl e))
        subst hp0
        obtain ⟨rfl, rfl, hk⟩ := fin_ok h
        refine ⟨?_, hk⟩
        unfold nodeR
        rw [typ_one, params_back hr]
        dsimp only
        have hcv : ceV code = b8 ∨ ceV code = b64 ∨ ceV code = qpN := by
          unfold ceV
          by_cases e1 : code = 1
          · rw [if_pos e1]; exact .inr (.inl rfl)
          · rw [if_neg e1]
            by_cases e2 : code = 2
            · rw [if_pos e2]; exact .inr (.inr rfl)
            · rw [if_neg e2]; exact .inl rfl
        rw [if_neg (by simp), if_neg hm, ce_two hcv]
        have hco : code = 0 ∨ code = 1 ∨ code = 2 := by omega
        rcases hco with rfl | rfl | rfl
        · rfl
        · have e : codB (ceV 1) = some 1 := by decide
          rw [e]
          dsimp only
          unfold bodyR bodyW
          rw [if_pos rfl, if_pos rfl, arm_back]
        · have e : codB (ceV 2) = some 2 := by decide
          rw [e]
          dsimp only
          unfold bodyR bodyW
          rw [if_neg (by decide), if_pos rfl, if_neg (by decide), if_pos rfl, hQ.resolve_right (fun h => h rfl)]
  have key2 : ∀ (k : Nat) (p : Part), ((∀ x, Qd (Qe x) = .ok x) ∨ noQ k p) → ∀ (f : List PrB) (b : List By), writeP Qe k p = .ok (f, b) → readP Qd k f b = .ok p ∧ writeK f b = 0 := by
    intro k
    induction k with
    | zero =>
      intro p hQ f b h
      exact key none none (fun _ => True) nofun p f b (hQ.elim .inl fun h => .inr h) (fun _ _ => trivial) h
    | succ k ih =>
      intro p hQ f b h
      refine key (some (writeP Qe k)) (some (subR (readP Qd k))) (fun a => (∀ x, Qd (Qe x) = .ok x) ∨ noQ k a) (fun g hg => ?_) p f b (hQ.elim .inl fun h => .inr h.1) (fun a ha => hQ.elim .inl fun h => .inr (h.2 a ha)) h
      cases hg
      refine ⟨_, rfl, fun a x hN hx => ?_⟩
      obtain ⟨h1, h2⟩ := ih a hN x.1 x.2 hx
      unfold subR
      rw [written_read h2]
      exact h1
  exact fun k p f b hQ h => (key2 k p hQ f b h).1
end Mim
end Go.Proofs.YtbbmhkdfdgnkpaaGreatDoor

/-
  Of no statement by itself: what the reference's Trim, Dotted and Kind (layer 10) give.
  Conditions: each theorem's own.
-/
namespace Go.Proofs.YtbbmhkdfdgnkpaaGreatDoor
set_option maxRecDepth 10000
open Sl Fld Tok
end Go.Proofs.YtbbmhkdfdgnkpaaGreatDoor

/-
  Of no statement by itself: what the reference's Bare (layer 10) gives.
  Conditions: each theorem's own.
-/
namespace Go.Proofs.YtbbmhkdfdgnkpaaGreatDoor
set_option maxRecDepth 10000
open Sl Fld Tok
structure BS where
  i : Nat
  d : Nat
  q : Bool
  o : List Fld.By
  n : Nat
  b : Nat
  cap : Nat
end Go.Proofs.YtbbmhkdfdgnkpaaGreatDoor

/-
  Of no statement by itself: what the reference's Address (layer 10) gives.
  Conditions: each theorem's own.
-/
namespace Go.Proofs.YtbbmhkdfdgnkpaaGreatDoor
set_option maxRecDepth 10000
open Sl Fld Tok
end Go.Proofs.YtbbmhkdfdgnkpaaGreatDoor

/-
  Of no statement by itself: slices of strings as answers; what the reference's Ids (layer 10) gives.
  Conditions: each theorem's own.
-/
namespace Go.Proofs.YtbbmhkdfdgnkpaaGreatDoor
set_option maxRecDepth 10000
open Sl Fld Tok
structure IS where
  i : Nat
  q : Bool
  o : List (List Fld.By)
  m : Nat
  b5 : Nat
  c5 : Nat
  x : List Fld.By
  n : Nat
  b6 : Nat
  c6 : Nat
end Go.Proofs.YtbbmhkdfdgnkpaaGreatDoor

/-
  Of no statement by itself: pairs built of two strings; what the reference's part (layer 10) gives.
  Conditions: each theorem's own.
-/
namespace Go.Proofs.YtbbmhkdfdgnkpaaGreatDoor
set_option maxRecDepth 10000
open Sl Fld Tok
theorem parE : EqP Tryz.prog 38 := eqP_of (str := 9) (by kernel_rfl) (by kernel_rfl) (by kernel_rfl) (by kernel_rfl) (by kernel_rfl) (by kernel_rfl)
theorem parA : aggT Tryz.prog 38 = true := by kernel_rfl
theorem parS : szT Tryz.prog 38 = some 2 := by kernel_rfl
theorem parZ : zc Tryz.prog 38 = some [Z [], Z []] := by kernel_rfl
section
variable {n : Nat} {E : Env} {C : World → Prop} {dst : Option Tmp} {ty : TypeId} {pos : String} {aft : Array Edge} {g : Option (Nat × Bool)} {x y : Operand}
theorem OQ.build0 : OQ Tryz.prog n E C ⟨dst, .build 38 #[], ty, pos, aft, g⟩ (.agg (pc ([], [])).toArray) := OQ.pure rfl rfl (by kernel_rfl)
theorem OQ.build2 {a b : List Bt} (hx : ev E x = some (Z a)) (hy : ev E y = some (Z b)) : OQ Tryz.prog n E C ⟨dst, .build 38 #[(0, x), (1, y)], ty, pos, aft, g⟩ (.agg (pc (a, b)).toArray) :=
  OQ.run fun k hk w _ => by
    have h1 := hk.eval hx
    have h2 := hk.eval hy
    have h3 := run_build (P := Tryz.prog) w 38 #[(0, Z a), (1, Z b)] #[Z a, Z b] (by kernel_rfl)
    simp [execOp, h1, h2, Sem.run_bind, h3, pc]
end
structure US where
  i : Nat
  o : List Fld.By
  n : Nat
  b : Nat
  cap : Nat
end Go.Proofs.YtbbmhkdfdgnkpaaGreatDoor

/-
  Of no statement by itself: what the reference's SameParams and Right (layer 10) give.
  Conditions: each theorem's own.
-/
namespace Go.Proofs.YtbbmhkdfdgnkpaaGreatDoor
set_option maxRecDepth 10000
open Sl Fld Tok
theorem goes_rsamep : Goes Tryz.prog 27 := ⟨_, Tryz.func27, rfl, by kernel_rfl⟩
set_option maxHeartbeats 8000000 in
theorem rsamep_any (a b : Sl2) (w : World) (ha : a.ok w) (hb : b.ok w) (hl : a.l.length < 9223372036854775808) (hl2 : b.l.length < 9223372036854775808) : Calls Tryz.prog 27 [a.v, b.v].toArray w fun e w' => e = .returned (.bool (decide (a.l = b.l))) ∧ Ext w w' := by
  refine enter (n := 26) Tryz.func27 rfl rfl rfl (Holds.start w []) ?_
  cases h0 : decide ((a.l.length : Int) = (b.l.length : Int))
  · rw [show decide (a.l = b.l) = false from decide_eq_false fun h => of_decide_eq_false h0 (by rw [h])]
    repeat (first | refine JL.q (by first | (apply OQ.len; exact Tryz.underlying33; exact rfl) | (apply OQ.neB; exact rfl; exact rfl; exact h0) | (apply OQ.move; exact rfl) | (apply OQ.assign; exact rfl)) rfl ?_ | refine JC.seq ?_ | refine JC.region ?_ | refine JL.nil ?_ | refine JE.next ?_)
    refine JC.cond rfl (fun _ => ?_) (fun h => by cases h)
    repeat (first | refine JL.q (by (apply OQ.assign; exact rfl)) rfl ?_ | refine JC.seq ?_ | refine JC.region ?_ | refine JL.nil ?_ | refine JE.next ?_)
    refine JC.ret ?_
    repeat (refine JE.then_ret ?_)
    exact JE.ret1 rfl (RV.tmp rfl) fun w' hw => ⟨rfl, hw.chg⟩
  · have hab : a.l.length = b.l.length := by have := of_decide_eq_true h0; omega
    repeat (first | refine JL.q (by first | (apply OQ.len; exact Tryz.underlying33; exact rfl) | (apply OQ.neB; exact rfl; exact rfl; exact h0) | (apply OQ.move; exact rfl) | (apply OQ.assign; exact rfl)) rfl ?_ | refine JC.seq ?_ | refine JC.region ?_ | refine JL.nil ?_ | refine JE.next ?_)
    refine JC.cond rfl (fun h => by cases h) (fun _ => ?_)
    repeat (first | refine JL.q (by (apply OQ.assign; exact rfl)) rfl ?_ | refine JC.seq ?_ | refine JC.region ?_ | refine JC.block ?_ | refine JC.skip ?_ | refine JL.nil ?_ | refine JE.next ?_)
    refine JC.loop (fun i : Nat => [(0, a.v), (1, b.v), (5, N i)]) (fun _ => []) (fun i => a.l.length - i) (fun i => i ≤ a.l.length ∧ a.l.take i = b.l.take i) 0 ⟨Nat.zero_le _, rfl⟩ (by repeat (first | exact SubE.nil | refine SubE.cons _ _ _ rfl ?_)) (Less.refl _) ?_
    rintro i ⟨hi, ht⟩
    repeat (first | refine JL.q (by first | (apply OQ.len; exact Tryz.underlying33; exact rfl) | (apply OQ.move; exact rfl) | (apply OQ.lssN; exact rfl; exact rfl)) rfl ?_ | refine JC.seq ?_ | refine JC.region ?_ | refine JL.nil ?_ | refine JE.next ?_)
    refine JC.cond rfl (fun h => ?_) (fun h => ?_)
    · have hi' : i < a.l.length := of_decide_eq_true h
      have hi2 : i < b.l.length := by omega
      clear h hi
      have hx := eq_take hi' hi2 ht
      have hbad : ¬ a.l.getD i ([], []) = b.l.getD i ([], []) → ¬ a.l = b.l := fun h e => h (by rw [e])
      obtain ⟨ba, ja, eA, la, ca1, ca2⟩ := ha.at hi'
      obtain ⟨bb, jb, eB, lb, cb1, cb2⟩ := hb.at hi2
      have vA : a.v = .slice (some ⟨ba, ja, none⟩) a.l.length a.cap := by rw [← eA]; rfl
      have vB : b.v = .slice (some ⟨bb, jb, none⟩) b.l.length b.cap := by rw [← eB]; rfl
      have cA := pair_cells ca1 ca2
      have cB := pair_cells cb1 cb2
      generalize a.l.getD i ([], []) = p at hx hbad cA
      generalize b.l.getD i ([], []) = q at hx hbad cB
      cases h1 : decide (p = q)
      · rw [show decide (a.l = b.l) = false from decide_eq_false (hbad (of_decide_eq_false h1)), vA, vB]
        repeat (first | refine JC.seq ?_ | refine JC.block ?_ | refine JC.skip ?_ | refine JE.next ?_)
        refine JC.quiet mixT (by kernel_rfl) ?_
        repeat (first | refine JQ.q (by first | (apply OQ.idxS; exact Tryz.underlying33; exact parS; exact rfl; exact rfl; exact hi') | (apply OQ.idxS; exact Tryz.underlying33; exact parS; exact rfl; exact rfl; exact hi2) | (apply OQ.load_agg_old (cs := pc p); exact parA; exact rfl; exact parS; exact la; exact (by simp); exact cA) | (apply OQ.load_agg_old (cs := pc q); exact parA; exact rfl; exact parS; exact lb; exact (by simp); exact cB) | (apply OQ.neP; exact parE; exact rfl; exact rfl; exact h1) | (apply OQ.move; exact rfl)) rfl ?_ | refine JQ.nil ?_ | refine JE.next ?_)
        refine JC.cond rfl (fun _ => ?_) (fun h => by cases h)
        repeat (first | refine JL.q (by (apply OQ.assign; exact rfl)) rfl ?_ | refine JC.seq ?_ | refine JC.region ?_ | refine JL.nil ?_ | refine JE.next ?_)
        refine JC.ret ?_
        repeat (first | refine JE.then_ret ?_ | refine JE.blk_ret ?_)
        exact JE.ret1 rfl (RV.tmp rfl) fun w' hw => ⟨rfl, hw.chg⟩
      · rw [vA, vB]
        repeat (first | refine JC.seq ?_ | refine JC.block ?_ | refine JC.skip ?_ | refine JE.next ?_)
        refine JC.quiet mixT (by kernel_rfl) ?_
        repeat (first | refine JQ.q (by first | (apply OQ.idxS; exact Tryz.underlying33; exact parS; exact rfl; exact rfl; exact hi') | (apply OQ.idxS; exact Tryz.underlying33; exact parS; exact rfl; exact rfl; exact hi2) | (apply OQ.load_agg_old (cs := pc p); exact parA; exact rfl; exact parS; exact la; exact (by simp); exact cA) | (apply OQ.load_agg_old (cs := pc q); exact parA; exact rfl; exact parS; exact lb; exact (by simp); exact cB) | (apply OQ.neP; exact parE; exact rfl; exact rfl; exact h1) | (apply OQ.move; exact rfl)) rfl ?_ | refine JQ.nil ?_ | refine JE.next ?_)
        refine JC.cond rfl (fun h => by cases h) (fun _ => ?_)
        rw [← vA, ← vB]
        repeat (first | refine JL.q (by first | (apply OQ.move; exact rfl) | (apply OQ.assign; exact rfl) | (apply OQ.addN; exact rfl; exact rfl; exact (by (try simp only []); omega))) rfl ?_ | refine JC.region ?_ | refine JC.skip ?_ | refine JL.nil ?_ | refine JE.next ?_ | refine JE.blk_normal ?_)
        exact JE.again (i := i) (i + 1) ⟨hi', hx (of_decide_eq_true h1)⟩ (by omega) (by repeat (first | exact SubE.nil | refine SubE.cons _ _ _ rfl ?_)) (Less.refl _)
    · have hi' : ¬ i < a.l.length := of_decide_eq_false h
      obtain rfl : i = a.l.length := by omega
      clear h hi hi'
      rw [List.take_length, List.take_of_length_le (by omega)] at ht
      rw [show decide (a.l = b.l) = true from decide_eq_true ht]
      repeat (first | refine JL.q (by (apply OQ.assign; exact rfl)) rfl ?_ | refine JC.seq ?_ | refine JC.region ?_ | refine JC.exit ?_ | refine JL.nil ?_ | refine JE.next ?_ | refine JE.then_exit ?_ | refine JE.blk_hit ?_)
      refine JC.ret ?_
      exact JE.ret1 rfl (RV.tmp rfl) fun w' hw => ⟨rfl, hw.chg⟩
end Go.Proofs.YtbbmhkdfdgnkpaaGreatDoor

/-
  Of no statement by itself: what the reference's Same gives.
  Conditions: each theorem's own.
-/
namespace Go.Proofs.YtbbmhkdfdgnkpaaGreatDoor
set_option maxRecDepth 10000
open Sl

section
variable {P : Program} {n : Nat} {E : Env} {C : World → Prop} {dst : Option Tmp} {t t' ty : TypeId} {pos : String} {aft : Array Edge} {g : Option (Nat × Bool)} {x y : Operand}
end
theorem goes_same : Goes Tryz.prog 12 := ⟨_, Tryz.func12, rfl, by kernel_rfl⟩

set_option maxHeartbeats 8000000 in
theorem same_any (a b : Sl8) (w : World) (ha : a.ok w) (hb : b.ok w) (hal : a.l.length < 4611686018427387904) : Calls Tryz.prog 12 [a.v, b.v].toArray w fun e w' => e = .returned (.bool (decide (a.l = b.l))) ∧ Ext w w' := by
  refine enter (n := 26) Tryz.func12 rfl rfl rfl (Holds.start w []) ?_
  repeat (first | refine JL.q (by first | (apply OQ.move; exact rfl) | (apply OQ.assign; exact rfl) | (apply OQ.len; exact rfl; exact rfl) | (apply OQ.neN; exact rfl; exact rfl)) rfl ?_ | refine JC.seq ?_ | refine JC.region ?_ | refine JL.nil ?_ | refine JE.next ?_)
  refine JC.cond rfl (fun h => ?_) (fun h => ?_)
  · have h : ¬ a.l.length = b.l.length := by simpa using h
    repeat (first | refine JL.q (by (apply OQ.assign; exact rfl)) rfl ?_ | refine JC.seq ?_ | refine JC.region ?_ | refine JL.nil ?_ | refine JE.next ?_)
    refine JC.ret ?_
    repeat (refine JE.then_ret ?_)
    refine JE.ret1 rfl (RV.tmp rfl) fun w' hw => ⟨?_, hw.chg⟩
    rw [decide_eq_false (fun e => h (by rw [e]))]
  · have h : a.l.length = b.l.length := by simpa using h
    repeat (first | refine JL.q (by (apply OQ.assign; exact rfl)) rfl ?_ | refine JC.seq ?_ | refine JC.region ?_ | refine JC.block ?_ | refine JC.skip ?_ | refine JL.nil ?_ | refine JE.next ?_)
    refine JC.loop (fun i : Nat => [(0, a.v), (1, b.v), (5, N i)]) (fun _ => []) (fun i => a.l.length - i) (fun i => i ≤ a.l.length ∧ a.l.take i = b.l.take i) 0 ⟨by omega, by simp⟩ (by repeat (first | exact SubE.nil | refine SubE.cons _ _ _ rfl ?_)) (Less.refl _) ?_
    rintro i ⟨hi, hI⟩
    repeat (first | refine JL.q (by first | (apply OQ.move; exact rfl) | (apply OQ.len; exact rfl; exact rfl) | (apply OQ.lssN; exact rfl; exact rfl)) rfl ?_ | refine JC.seq ?_ | refine JC.region ?_ | refine JL.nil ?_ | refine JE.next ?_)
    refine JC.cond rfl (fun h2 => ?_) (fun h2 => ?_)
    · have hi' : i < a.l.length := of_decide_eq_true h2
      clear h2
      obtain ⟨ba, ja, hae, hca⟩ := ha.reads.at (by simp; omega)
      obtain ⟨bb, jb, hbe, hcb⟩ := hb.reads.at (by simp; omega)
      have hca := hca i _ (map_at U8 0 hi')
      have hcb := hcb i _ (map_at U8 0 (show i < b.l.length by omega))
      have hav : a.v = .slice (some ⟨ba, ja, none⟩) a.l.length a.cap := by rw [← hae]; rfl
      have hbv : b.v = .slice (some ⟨bb, jb, none⟩) b.l.length b.cap := by rw [← hbe]; rfl
      rw [hav, hbv]
      repeat (first | refine JC.seq ?_ | refine JC.block ?_ | refine JC.skip ?_ | refine JE.next ?_)
      refine JC.quiet mixT (by kernel_rfl) ?_
      repeat (first | refine JQ.q (by first | (apply OQ.idxS1; exact Tryz.underlying22; exact u8s; exact rfl; exact rfl; exact hi') | (apply OQ.idxS1; exact Tryz.underlying22; exact u8s; exact rfl; exact rfl; exact (show i < b.l.length by omega)) | (apply OQ.load_old; exact u8c; exact rfl; exact (block_lt_of_cell hca); exact (by simp); exact hca) | (apply OQ.load_old; exact u8c; exact rfl; exact (block_lt_of_cell hcb); exact (by simp); exact hcb) | (apply OQ.ne8; exact rfl; exact rfl) | (apply OQ.move; exact rfl)) rfl ?_ | refine JQ.nil ?_ | refine JE.next ?_)
      refine JC.cond rfl (fun h3 => ?_) (fun h3 => ?_)
      · have h3 : ¬ a.l.getD i 0 = b.l.getD i 0 := by simpa using h3
        repeat (first | refine JL.q (by (apply OQ.assign; exact rfl)) rfl ?_ | refine JC.seq ?_ | refine JC.region ?_ | refine JL.nil ?_ | refine JE.next ?_)
        refine JC.ret ?_
        repeat (first | refine JE.then_ret ?_ | refine JE.blk_ret ?_)
        refine JE.ret1 rfl (RV.tmp rfl) fun w' hw => ⟨?_, hw.chg⟩
        rw [decide_eq_false (fun e => h3 (by rw [e]))]
      · have h3 : a.l.getD i 0 = b.l.getD i 0 := by simpa using h3
        rw [← hav, ← hbv]
        repeat (first | refine JL.q (by first | (apply OQ.move; exact rfl) | (apply OQ.assign; exact rfl) | (apply OQ.addN; exact rfl; exact rfl; exact (by (try simp only []); omega))) rfl ?_ | refine JC.region ?_ | refine JC.skip ?_ | refine JL.nil ?_ | refine JE.next ?_ | refine JE.blk_normal ?_)
        refine JE.again (i := i) (i + 1) ⟨by omega, ?_⟩ (by omega) (by repeat (first | exact SubE.nil | refine SubE.cons _ _ _ rfl ?_)) (Less.refl _)
        have e1 : a.l[i]'hi' = b.l[i]'(by omega) := by
          simpa [List.getD, hi', show i < b.l.length by omega] using h3
        rw [List.take_succ_eq_append_getElem hi', List.take_succ_eq_append_getElem (show i < b.l.length by omega), hI, e1]
    · have hi' : ¬ i < a.l.length := of_decide_eq_false h2
      obtain rfl : i = a.l.length := by omega
      rw [List.take_length, h, List.take_length] at hI
      repeat (first | refine JL.q (by (apply OQ.assign; exact rfl)) rfl ?_ | refine JC.seq ?_ | refine JC.region ?_ | refine JC.exit ?_ | refine JL.nil ?_ | refine JE.next ?_ | refine JE.then_exit ?_ | refine JE.blk_hit ?_)
      refine JC.ret ?_
      skip
      refine JE.ret1 rfl (RV.tmp rfl) fun w' hw => ⟨?_, hw.chg⟩
      rw [decide_eq_true hI]

theorem same_t {a b : Sl8} {va vb : Value} (hva : a.v = va) (hvb : b.v = vb) {w : World} (ha : a.ok w) (hb : b.ok w) (hal : a.l.length < 4611686018427387904) (h : a.l = b.l) : Calls Tryz.prog 12 [va, vb].toArray w fun e w' => e = .returned (.bool true) ∧ Ext w w' := by
  have := same_any a b w ha hb hal
  rwa [hva, hvb, decide_eq_true h] at this
end Go.Proofs.YtbbmhkdfdgnkpaaGreatDoor

/-
  Of no statement by itself: parts in memory, in one another; what the reference's Same (layer 12) gives of two that are one.
  Conditions: each theorem's own.
-/
namespace Go.Proofs.YtbbmhkdfdgnkpaaGreatDoor
set_option maxRecDepth 10000
open Sl Fld Mim
theorem goes_rsame12 : Goes Tryz.prog 15 := ⟨_, Tryz.func15, rfl, by kernel_rfl⟩
theorem prC : scal Tryz.prog 33 = true := by kernel_rfl
theorem ptC : scal Tryz.prog 34 = true := by kernel_rfl
theorem bsCQ : scal Tryz.prog 22 = true := by kernel_rfl
theorem inC : scal Tryz.prog 3 = true := by kernel_rfl
theorem ptA : aggT Tryz.prog 36 = true := by kernel_rfl
theorem ptS : szT Tryz.prog 36 = some 5 := by kernel_rfl
/-- a part's cells in a world, d parts deep at most -/
def IsPart : Nat → World → Part → List Value → Prop
  | 0, _, _, _ => False
  | d + 1, w, p, cs => ∃ (ps : Sl2) (body : Sl8) (ad : Option Addr) (cap : Nat) (subs : List (List Value)),
      cs = [Z p.kind, ps.v, .int .i64 p.code, body.v, .slice ad p.parts.length cap] ∧ (ps.ok w ∧ ps.l = p.ps) ∧ (body.ok w ∧ body.l = p.body) ∧
      p.parts.length ≤ cap ∧ Reads w ad subs.flatten ∧ subs.length = p.parts.length ∧ ∀ i, i < subs.length → IsPart d w (p.parts.getD i default) (subs.getD i [])
theorem IsPart.len : ∀ {d : Nat} {w : World} {p : Part} {cs : List Value}, IsPart d w p cs → cs.length = 5
  | _ + 1, _, _, _, ⟨_, _, _, _, _, h, _⟩ => by rw [h]; rfl
theorem IsPart.ext : ∀ {d : Nat} {w w' : World} {p : Part} {cs : List Value}, IsPart d w p cs → Ext w w' → IsPart d w' p cs
  | d + 1, w, w', p, cs, ⟨ps, body, ad, cap, subs, h1, h2, h3, h4, h5, h6, h7⟩, hx =>
    ⟨ps, body, ad, cap, subs, h1, ⟨h2.1.ext hx, h2.2⟩, ⟨h3.1.holds (⟨hx, by simp, by simp⟩ : Holds w [] [] w') rfl, h3.2⟩, h4, (⟨hx, by simp, by simp⟩ : Holds w [] [] w').reads h5 (fun _ a _ => by simp), h6, fun i hi => (h7 i hi).ext hx⟩
theorem IsPart.up : ∀ {d : Nat} {w : World} {p : Part} {cs : List Value}, IsPart d w p cs → IsPart (d + 1) w p cs
  | d + 1, w, p, cs, ⟨ps, body, ad, cap, subs, h1, h2, h3, h4, h5, h6, h7⟩ => ⟨ps, body, ad, cap, subs, h1, h2, h3, h4, h5, h6, fun i hi => (h7 i hi).up⟩
theorem IsPart.mono {d k : Nat} (hk : d ≤ k) {w : World} {p : Part} {cs : List Value} (h : IsPart d w p cs) : IsPart k w p cs := by
  induction k with
  | zero => obtain rfl : d = 0 := by omega
            exact h
  | succ k ih =>
    by_cases e : d = k + 1
    · subst e; exact h
    · exact (ih (by omega)).up
theorem flat5 : ∀ (subs : List (List Value)) {i k : Nat}, (∀ x ∈ subs, x.length = 5) → i < subs.length → k < 5 → subs.flatten[i * 5 + k]? = (subs.getD i [])[k]?
  | [], i, k, _, h, _ => by simp at h
  | x :: subs, 0, k, hl, _, hk => by
    rw [List.flatten_cons, Nat.zero_mul, Nat.zero_add, List.getElem?_append_left (by rw [hl x (by simp)]; exact hk)]
    rfl
  | x :: subs, i + 1, k, hl, h, hk => by
    have hx := hl x (by simp)
    rw [List.flatten_cons, List.getElem?_append_right (by rw [hx]; omega), hx, show (i + 1) * 5 + k - 5 = i * 5 + k by omega, flat5 subs (fun y hy => hl y (by simp [hy])) (by simpa using h) hk]
    rfl
/-- where a part's part stands -/
theorem sub_at {d : Nat} {w : World} {subs : List (List Value)} {parts : List Part} {ad : Option Addr} (hr : Reads w ad subs.flatten) (h : ∀ i, i < subs.length → IsPart d w (parts.getD i default) (subs.getD i [])) {i : Nat} (hi : i < subs.length) :
    ∃ b j, ad = some ⟨b, j, none⟩ ∧ b < w.heap.size ∧ (∀ k u, (subs.getD i [])[k]? = some u → w.cell? ⟨b, j + i * 5 + k, none⟩ = some u) := by
  have hl : ∀ x ∈ subs, x.length = 5 := fun x hx => by
    obtain ⟨k, hk, rfl⟩ := List.getElem_of_mem hx
    have := (h k hk).len
    rwa [List.getD_eq_getElem?_getD, List.getElem?_eq_getElem hk] at this
  have h5 := (h i hi).len
  obtain ⟨b, j, e, c⟩ := hr (i * 5 + 0) _ (by rw [flat5 subs hl hi (by decide)]; exact List.getElem?_eq_getElem (show 0 < (subs.getD i []).length by omega))
  refine ⟨b, j, e, block_lt_of_cell c, fun k u hu => ?_⟩
  have hk : k < 5 := by have := (List.getElem?_eq_some_iff.1 hu).1; omega
  obtain ⟨b', j', e', c'⟩ := hr (i * 5 + k) u (by rw [flat5 subs hl hi hk]; exact hu)
  rw [e] at e'
  cases e'
  rw [Nat.add_assoc]
  exact c'
/-- no text of a part is too long for a machine -/
def sized : Nat → Part → Prop
  | 0, _ => True
  | d + 1, p => p.ps.length < 4611686018427387904 ∧ p.body.length < 4611686018427387904 ∧ p.parts.length < 4611686018427387904 ∧ ∀ q ∈ p.parts, sized d q
theorem getD_mem {α : Type} [Inhabited α] {l : List α} {i : Nat} (h : i < l.length) : l.getD i default ∈ l := by
  rw [List.getD_eq_getElem?_getD, List.getElem?_eq_getElem h]; exact List.getElem_mem h
set_option maxHeartbeats 32000000 in
theorem rsame12_any : ∀ (d : Nat) (p : Part) (ca cb : List Value) (w : World), IsPart d w p ca → IsPart d w p cb → sized d p → Calls Tryz.prog 15 [.agg ca.toArray, .agg cb.toArray].toArray w fun e w' => e = .returned (.bool true) ∧ Ext w w' := by
  intro d
  induction d with
  | zero => intro p ca cb w h; exact h.elim
  | succ d ih =>
    rintro p ca cb w ⟨ps, body, ad, cap, subs, rfl, ⟨okp, lp⟩, ⟨okb, lb⟩, hcap, hr, hsl, hsub⟩ ⟨ps', body', ad', cap', subs', rfl, ⟨okp', lp'⟩, ⟨okb', lb'⟩, hcap', hr', hsl', hsub'⟩ ⟨hs1, hs2, hs3, hs4⟩
    refine enter (n := 62) Tryz.func15 rfl rfl rfl (Holds.start w []) ?_
    refine JC.seq (JC.region (JL.box (r := [Z p.kind, ps.v, .int .i64 p.code, body.v, .slice ad p.parts.length cap]) rfl rfl rfl fun b2 _ => ?_))
    refine JL.box (r := [Z p.kind, ps'.v, .int .i64 p.code, body'.v, .slice ad' p.parts.length cap']) rfl rfl rfl fun b3 _ => ?_
    have c1 : ∀ M w', Holds w [] M w' → Calls Tryz.prog 27 [ps.v, ps'.v].toArray w' fun e w'' => e = .returned (.bool true) ∧ Ext w' w'' := fun M w' hw' => by
      have := rsamep_any ps ps' w' (okp.holds hw' rfl) (okp'.holds hw' rfl) (by rw [lp]; omega) (by rw [lp']; omega)
      rwa [decide_eq_true (show ps.l = ps'.l by rw [lp, lp'])] at this
    have c2 : ∀ M w', Holds w [] M w' → Calls Tryz.prog 12 [body.v, body'.v].toArray w' fun e w'' => e = .returned (.bool true) ∧ Ext w' w'' := fun M w' hw' =>
      same_t rfl rfl (okb.holds hw' rfl) (okb'.holds hw' rfl) (by rw [lb]; omega) (by rw [lb, lb'])
    repeat (first | refine JL.q (by first | (apply OQ.load; exact strC; exact rfl; exact (.there .here); exact (Row.cell (v := Z p.kind) rfl)) | (apply OQ.load; exact strC; exact rfl; exact .here; exact (Row.cell (v := Z p.kind) rfl)) | (apply OQ.load; exact inC; exact rfl; exact (.there .here); exact (Row.cell (v := .int .i64 p.code) rfl)) | (apply OQ.load; exact inC; exact rfl; exact .here; exact (Row.cell (v := .int .i64 p.code) rfl)) | (apply OQ.load; exact prC; exact rfl; exact (.there .here); exact (Row.cell (v := ps.v) rfl)) | (apply OQ.load; exact prC; exact rfl; exact .here; exact (Row.cell (v := ps'.v) rfl)) | (apply OQ.load; exact bsCQ; exact rfl; exact (.there .here); exact (Row.cell (v := body.v) rfl)) | (apply OQ.load; exact bsCQ; exact rfl; exact .here; exact (Row.cell (v := body'.v) rfl)) | (apply OQ.load; exact ptC; exact rfl; exact (.there .here); exact (Row.cell (v := .slice ad p.parts.length cap) rfl)) | (apply OQ.load; exact ptC; exact rfl; exact .here; exact (Row.cell (v := .slice ad' p.parts.length cap') rfl)) | (apply OQ.neSB; exact rfl; exact rfl; exact (decide_eq_true rfl)) | (apply OQ.neB; exact rfl; exact rfl; exact (decide_eq_true rfl)) | (apply OQ.callx (vs := [ps.v, ps'.v]); exact goes_rsamep; exact rfl; exact (c1 _)) | (apply OQ.callx (vs := [body.v, body'.v]); exact goes_same; exact rfl; exact (c2 _)) | (apply OQ.not; exact rfl) | (apply OQ.len; exact Tryz.underlying34; exact rfl) | (apply OQ.pick_f; exact rfl; exact rfl) | (apply OQ.move; exact rfl) | (apply OQ.assign; exact rfl) | (apply OQ.fld; exact rfl; exact rfl; exact rfl; exact (by decide); exact rfl)) rfl ?_ | refine JC.seq ?_ | refine JC.region ?_ | refine JL.nil ?_ | refine JE.next ?_ | refine JL.gon rfl rfl ?_)
    refine JC.cond rfl (fun h => by cases h) (fun _ => ?_)
    repeat (first | refine JL.q (by (apply OQ.assign; exact rfl)) rfl ?_ | refine JC.seq ?_ | refine JC.region ?_ | refine JC.block ?_ | refine JC.skip ?_ | refine JL.nil ?_ | refine JE.next ?_)
    refine JC.loop (fun i : Nat => [(2, Pt b2 0), (3, Pt b3 0), (5, N i)]) (fun _ => [⟨b3, Row 36 [Z p.kind, ps'.v, .int .i64 p.code, body'.v, .slice ad' p.parts.length cap'], true⟩, ⟨b2, Row 36 [Z p.kind, ps.v, .int .i64 p.code, body.v, .slice ad p.parts.length cap], true⟩]) (fun i => p.parts.length - i) (fun i => i ≤ p.parts.length) 0 (Nat.zero_le _) (by repeat (first | exact SubE.nil | refine SubE.cons _ _ _ rfl ?_)) (Less.refl _) ?_
    intro i hi
    repeat (first | refine JL.q (by first | (apply OQ.load; exact ptC; exact rfl; exact (.there .here); exact (Row.cell (v := .slice ad p.parts.length cap) rfl)) | (apply OQ.len; exact Tryz.underlying34; exact rfl) | (apply OQ.move; exact rfl) | (apply OQ.lssN; exact rfl; exact rfl) | (apply OQ.fld; exact rfl; exact rfl; exact rfl; exact (by decide); exact rfl)) rfl ?_ | refine JC.seq ?_ | refine JC.region ?_ | refine JL.nil ?_ | refine JE.next ?_)
    refine JC.cond rfl (fun h => ?_) (fun h => ?_)
    · have hi' : i < p.parts.length := of_decide_eq_true h
      clear h hi
      obtain ⟨b, j, rfl, lt, hc⟩ := sub_at hr hsub (show i < subs.length by omega)
      obtain ⟨b', j', rfl, lt', hc'⟩ := sub_at hr' hsub' (show i < subs'.length by omega)
      have k1 := hsub i (by omega)
      have k2 := hsub' i (by omega)
      have l1 := k1.len
      have l2 := k2.len
      have ss := hs4 _ (getD_mem hi')
      have cc : ∀ M w', Holds w [] M w' → Calls Tryz.prog 15 [.agg (subs.getD i []).toArray, .agg (subs'.getD i []).toArray].toArray w' fun e w'' => e = .returned (.bool true) ∧ Ext w' w'' := fun M w' hw' => ih _ _ _ w' (k1.ext hw'.chg) (k2.ext hw'.chg) ss
      repeat (first | refine JC.seq ?_ | refine JC.block ?_ | refine JC.skip ?_ | refine JE.next ?_)
      refine JC.quiet mixT (by kernel_rfl) ?_
      repeat (first | refine JQ.q (by first | (apply OQ.load; exact ptC; exact rfl; exact (.there .here); exact (Row.cell (v := .slice (some ⟨b, j, none⟩) p.parts.length cap) rfl)) | (apply OQ.load; exact ptC; exact rfl; exact .here; exact (Row.cell (v := .slice (some ⟨b', j', none⟩) p.parts.length cap') rfl)) | (apply OQ.idxS; exact Tryz.underlying34; exact ptS; exact rfl; exact rfl; exact hi') | (apply OQ.load_agg_old (cs := subs.getD i []); exact ptA; exact rfl; exact (by rw [l1]; exact ptS); exact lt; exact (by simp); exact hc) | (apply OQ.load_agg_old (cs := subs'.getD i []); exact ptA; exact rfl; exact (by rw [l2]; exact ptS); exact lt'; exact (by simp); exact hc') | (apply OQ.callx (vs := [.agg (subs.getD i []).toArray, .agg (subs'.getD i []).toArray]); exact goes_rsame12; exact rfl; exact (cc _)) | (apply OQ.not; exact rfl) | (apply OQ.move; exact rfl) | (apply OQ.fld; exact rfl; exact rfl; exact rfl; exact (by decide); exact rfl)) rfl ?_ | refine JQ.nil ?_ | refine JE.next ?_)
      refine JC.cond rfl (fun h => by cases h) (fun _ => ?_)
      repeat (first | refine JL.q (by first | (apply OQ.move; exact rfl) | (apply OQ.assign; exact rfl) | (apply OQ.addN; exact rfl; exact rfl; exact (by (try simp only []); omega))) rfl ?_ | refine JC.region ?_ | refine JC.skip ?_ | refine JL.nil ?_ | refine JE.next ?_ | refine JE.blk_normal ?_)
      exact JE.again (i := i) (i + 1) hi' (by omega) (by repeat (first | exact SubE.nil | refine SubE.cons _ _ _ rfl ?_)) (Less.refl _)
    · repeat (first | refine JL.q (by (apply OQ.assign; exact rfl)) rfl ?_ | refine JC.seq ?_ | refine JC.region ?_ | refine JC.exit ?_ | refine JL.nil ?_ | refine JE.next ?_ | refine JE.then_exit ?_ | refine JE.blk_hit ?_)
      refine JC.ret ?_
      skip
      exact JE.ret1 rfl (RV.tmp rfl) fun w' hw => ⟨rfl, hw.chg⟩
end Go.Proofs.YtbbmhkdfdgnkpaaGreatDoor

/-
  Of no statement by itself: what the landed field's Name, Value, Same, small, only, blank and piece give.
  Conditions: each theorem's own.
-/
namespace Go.Proofs.YtbbmhkdfdgnkpaaGreatDoor
set_option maxRecDepth 10000
open Sl Fld
theorem goes_fonly : Goes Tryz.prog 144 := ⟨_, Tryz.func144, rfl, by kernel_rfl⟩
theorem goes_fsmall : Goes Tryz.prog 135 := ⟨_, Tryz.func135, rfl, by kernel_rfl⟩
theorem goes_fblank : Goes Tryz.prog 169 := ⟨_, Tryz.func169, rfl, by kernel_rfl⟩
theorem goes_fpiece : Goes Tryz.prog 119 := ⟨_, Tryz.func119, rfl, by kernel_rfl⟩
theorem goes_fvalueA : Goes Tryz.prog 118 := ⟨_, Tryz.func118, rfl, by kernel_rfl⟩
theorem OQ.sub8 {P : Program} {n : Nat} {E : Env} {C : World → Prop} {dst : Option Tmp} {t t' ty : TypeId} {pos : String} {aft : Array Edge} {g : Option (Nat × Bool)} {x y : Operand} {a b : BitVec 8} (hx : ev E x = some (U8 a)) (hy : ev E y = some (U8 b)) (h : b.toNat ≤ a.toNat) : OQ P n E C ⟨dst, .binOp .sub t x y t', ty, pos, aft, g⟩ (U8 (a - b)) :=
  OQ.bin hx hy rfl fun _ => okInt (k := .u8) (show IntKind.u8.wrap ((a.toNat : Int) - b.toNat) = ((a - b).toNat : Int) by
    rw [BitVec.toNat_sub_of_le (by simpa [BitVec.le_def] using h), ← Int.ofNat_sub h, wrap8, Nat.mod_eq_of_lt (by have := a.isLt; omega)])
set_option maxHeartbeats 4000000 in
theorem only_any (s : List Bt) (fv : Value) (p : Bt → Bool) (w : World) (hF : Fun8 Tryz.prog w fv p) (hl : s.length < 9223372036854775808) : Calls Tryz.prog 144 [Z s, fv].toArray w fun e w' => e = .returned (.bool (s.all p)) ∧ Ext w w' := by
  refine enter (n := 18) Tryz.func144 rfl rfl rfl (Holds.start w []) ?_
  repeat (first | refine JL.q (by first | (apply OQ.lenS; exact Tryz.underlying9; exact rfl) | (apply OQ.move; exact rfl) | (apply OQ.assign; exact rfl)) rfl ?_ | refine JC.seq ?_ | refine JC.region ?_ | refine JC.block ?_ | refine JL.nil ?_ | refine JE.next ?_)
  refine JC.loop (fun i : Nat => [(0, Z s), (1, fv), (7, N s.length), (8, N i)]) (fun _ => []) (fun i => s.length - i) (fun i => i ≤ s.length ∧ (s.take i).all p = true) 0 ⟨Nat.zero_le _, rfl⟩ (by repeat (first | exact SubE.nil | refine SubE.cons _ _ _ rfl ?_)) (Less.refl _) ?_
  rintro i ⟨hi, ha⟩
  repeat (first | refine JL.q (by (apply OQ.lssN; exact rfl; exact rfl)) rfl ?_ | refine JC.seq ?_ | refine JC.region ?_ | refine JL.nil ?_ | refine JE.next ?_)
  refine JC.cond rfl (fun h => ?_) (fun h => ?_)
  · have hi' : i < s.length := of_decide_eq_true h
    clear h hi
    have hx := all_take p s 0 hi'
    have hbad := all_bad p s 0 hi'
    rw [ha, Bool.true_and] at hx
    have i0 := fun {n : Nat} {E : Env} {C : World → Prop} {dst : Option Tmp} {ty : TypeId} {pos : String} {aft : Array Edge} {g : Option (Nat × Bool)} {x y : Operand} => idxAt hi' (n := n) (E := E) (C := C) (dst := dst) (ty := ty) (pos := pos) (aft := aft) (g := g) (x := x) (y := y)
    generalize s.getD i 0 = c at hx hbad i0
    cases h1 : p c
    · rw [hbad h1]
      repeat (first | refine JL.q (by first | (apply i0; exact rfl; exact rfl) | (apply OQ.callF; exact hF; exact rfl; exact rfl; exact h1) | (apply OQ.not; exact rfl) | (apply OQ.move; exact rfl) | (apply OQ.assign; exact rfl)) rfl ?_ | refine JC.seq ?_ | refine JC.region ?_ | refine JC.block ?_ | refine JC.skip ?_ | refine JL.nil ?_ | refine JE.next ?_)
      refine JC.cond rfl (fun _ => ?_) (fun h => by cases h)
      repeat (first | refine JL.q (by (apply OQ.assign; exact rfl)) rfl ?_ | refine JC.seq ?_ | refine JC.region ?_ | refine JL.nil ?_ | refine JE.next ?_)
      refine JC.ret ?_
      repeat (first | refine JE.then_ret ?_ | refine JE.blk_ret ?_)
      exact JE.ret1 rfl (RV.tmp rfl) fun w' hw => ⟨rfl, hw.chg⟩
    · repeat (first | refine JL.q (by first | (apply i0; exact rfl; exact rfl) | (apply OQ.callF; exact hF; exact rfl; exact rfl; exact h1) | (apply OQ.not; exact rfl) | (apply OQ.move; exact rfl) | (apply OQ.assign; exact rfl)) rfl ?_ | refine JC.seq ?_ | refine JC.region ?_ | refine JC.block ?_ | refine JC.skip ?_ | refine JL.nil ?_ | refine JE.next ?_)
      refine JC.cond rfl (fun h => by cases h) (fun _ => ?_)
      repeat (first | refine JL.q (by first | (apply OQ.move; exact rfl) | (apply OQ.addN; exact rfl; exact rfl; exact (by (try simp only []); omega))) rfl ?_ | refine JC.region ?_ | refine JC.skip ?_ | refine JL.nil ?_ | refine JE.next ?_ | refine JE.blk_normal ?_)
      exact JE.again (i := i) (i + 1) ⟨hi', by rw [hx, h1]⟩ (by omega) (by repeat (first | exact SubE.nil | refine SubE.cons _ _ _ rfl ?_)) (Less.refl _)
  · have hi' : ¬ i < s.length := of_decide_eq_false h
    obtain rfl : i = s.length := by omega
    clear h hi hi'
    rw [List.take_length] at ha
    rw [ha]
    repeat (first | refine JL.q (by (apply OQ.assign; exact rfl)) rfl ?_ | refine JC.seq ?_ | refine JC.region ?_ | refine JC.exit ?_ | refine JL.nil ?_ | refine JE.next ?_ | refine JE.then_exit ?_ | refine JE.blk_hit ?_)
    refine JC.ret ?_
    exact JE.ret1 rfl (RV.tmp rfl) fun w' hw => ⟨rfl, hw.chg⟩
/-! ### names -/
theorem nokA_is : ∀ c : Fld.By, nok c = ((decide ((33 : Int) ≤ (c.toNat : Int)) && decide ((c.toNat : Int) ≤ 126)) && !decide (c = 58)) := by
  have h : ∀ c : Fin 256, nok (BitVec.ofNat 8 c.val) = ((decide ((33 : Int) ≤ ((BitVec.ofNat 8 c.val).toNat : Int)) && decide (((BitVec.ofNat 8 c.val).toNat : Int) ≤ 126)) && !decide (BitVec.ofNat 8 c.val = 58)) := by decide +kernel
  intro c
  simpa using h ⟨c.toNat, c.isLt⟩
set_option maxHeartbeats 4000000 in
theorem name1_any (c : Bt) (w : World) : Calls Tryz.prog 145 [U8 c].toArray w fun e w' => e = .returned (.bool (nok c)) ∧ Ext w w' := by
  refine enter (n := 14) Tryz.func145 rfl rfl rfl (Holds.start w []) ?_
  rw [nokA_is]
  cases h1 : decide ((33 : Int) ≤ (c.toNat : Int)) <;> cases h2 : decide ((c.toNat : Int) ≤ 126) <;> cases h3 : decide (c = 58)
  all_goals (repeat (first | refine JL.q (by first | (apply OQ.geqB (b := 33); exact rfl; exact rfl; exact h1) | (apply OQ.leqB (b := 126); exact rfl; exact rfl; exact h2) | (apply OQ.idxZ (l := [58]) (i := 0); exact Tryz.underlying9; exact rfl; exact rfl; exact (by decide)) | (apply OQ.ne8B (b := 58); exact rfl; exact rfl; exact h3) | (apply OQ.pick_t; exact rfl; exact rfl) | (apply OQ.pick_f; exact rfl; exact rfl) | (apply OQ.move; exact rfl) | (apply OQ.assign; exact rfl)) rfl ?_ | refine JC.seq ?_ | refine JC.region ?_ | refine JL.nil ?_ | refine JE.next ?_ | refine JL.gon rfl rfl ?_ | refine JL.gskip rfl rfl rfl rfl ?_))
  all_goals exact JC.ret (JE.ret1 rfl (RV.tmp rfl) fun w' hw => ⟨rfl, hw.chg⟩)
theorem fun_name1 (w : World) : Fun8 Tryz.prog w (.func (.func 145) #[] #[]) nok :=
  ⟨_, [], rfl, ⟨_, Tryz.func145, rfl, by kernel_rfl⟩, fun c w' _ => name1_any c w'⟩
set_option maxHeartbeats 4000000 in
theorem fname_any (s : List Bt) (w : World) (hl : s.length < 9223372036854775808) : Calls Tryz.prog 117 [Z s].toArray w fun e w' => e = .returned (.bool (nameB s)) ∧ Ext w w' := by
  refine enter (n := 14) Tryz.func117 rfl rfl rfl (Holds.start w []) ?_
  have hv : nameB s = ((!decide (s = []) && decide ((s.length : Int) ≤ 64)) && s.all nok) := by
    unfold nameB
    have e1 : decide (1 ≤ s.length) = !decide (s = []) := by
      cases s <;> simp
    have e2 : decide (s.length ≤ 64) = decide ((s.length : Int) ≤ 64) := decide_eq_decide.2 (by omega)
    rw [e1, e2]
    cases s.all nok <;> cases decide (s = []) <;> cases decide ((s.length : Int) ≤ 64) <;> rfl
  rw [hv]
  have cO := fun w' => only_any s (.func (.func 145) #[] #[]) nok w' (fun_name1 w') hl
  cases h1 : decide (s = []) <;> cases h2 : decide ((s.length : Int) ≤ 64) <;> cases h3 : s.all nok
  all_goals (repeat (first | refine JL.q (by first | (apply OQ.neSB (r := []); exact rfl; exact rfl; exact h1) | (apply OQ.lenS; exact Tryz.underlying9; exact rfl) | (apply OQ.leqB (b := 64); exact rfl; exact rfl; exact h2) | (apply OQ.callb (vs := [Z s, .func (.func 145) #[] #[]]); exact goes_fonly; exact rfl; exact cO; exact h3) | (apply OQ.pick_t; exact rfl; exact rfl) | (apply OQ.pick_f; exact rfl; exact rfl) | (apply OQ.move; exact rfl) | (apply OQ.assign; exact rfl)) rfl ?_ | refine JC.seq ?_ | refine JC.region ?_ | refine JL.nil ?_ | refine JE.next ?_ | refine JL.gon rfl rfl ?_ | refine JL.gskip rfl rfl rfl rfl ?_))
  all_goals exact JC.ret (JE.ret1 rfl (RV.tmp rfl) fun w' hw => ⟨rfl, hw.chg⟩)
/-! ### values -/
theorem sokA_is : ∀ c : Fld.By, sok c = ((decide ((32 : Int) ≤ (c.toNat : Int)) && decide ((c.toNat : Int) ≤ 126)) || decide (c = 9)) := by
  have h : ∀ c : Fin 256, sok (BitVec.ofNat 8 c.val) = ((decide ((32 : Int) ≤ ((BitVec.ofNat 8 c.val).toNat : Int)) && decide (((BitVec.ofNat 8 c.val).toNat : Int) ≤ 126)) || decide (BitVec.ofNat 8 c.val = 9)) := by decide +kernel
  intro c
  simpa using h ⟨c.toNat, c.isLt⟩
theorem OQ.eq8B {P : Program} {n : Nat} {E : Env} {C : World → Prop} {dst : Option Tmp} {t t' ty : TypeId} {pos : String} {aft : Array Edge} {g : Option (Nat × Bool)} {x y : Operand} {a b : BitVec 8} {c : Bool} (hx : ev E x = some (U8 a)) (hy : ev E y = some (U8 b)) (h : decide (a = b) = c) : OQ P n E C ⟨dst, .binOp .eql t x y t', ty, pos, aft, g⟩ (.bool c) := h ▸ OQ.eq8 hx hy
set_option maxHeartbeats 4000000 in
theorem value1_any (c : Bt) (w : World) : Calls Tryz.prog 146 [U8 c].toArray w fun e w' => e = .returned (.bool (sok c)) ∧ Ext w w' := by
  refine enter (n := 13) Tryz.func146 rfl rfl rfl (Holds.start w []) ?_
  rw [sokA_is]
  cases h1 : decide ((32 : Int) ≤ (c.toNat : Int)) <;> cases h2 : decide ((c.toNat : Int) ≤ 126) <;> cases h3 : decide (c = 9)
  all_goals (repeat (first | refine JL.q (by first | (apply OQ.geqB (b := 32); exact rfl; exact rfl; exact h1) | (apply OQ.leqB (b := 126); exact rfl; exact rfl; exact h2) | (apply OQ.eq8B (b := 9); exact rfl; exact rfl; exact h3) | (apply OQ.pick_t; exact rfl; exact rfl) | (apply OQ.pick_f; exact rfl; exact rfl) | (apply OQ.move; exact rfl) | (apply OQ.assign; exact rfl)) rfl ?_ | refine JC.seq ?_ | refine JC.region ?_ | refine JL.nil ?_ | refine JE.next ?_ | refine JL.gon rfl rfl ?_ | refine JL.gskip rfl rfl rfl rfl ?_))
  all_goals exact JC.ret (JE.ret1 rfl (RV.tmp rfl) fun w' hw => ⟨rfl, hw.chg⟩)
theorem fun_value1 (w : World) : Fun8 Tryz.prog w (.func (.func 146) #[] #[]) sok :=
  ⟨_, [], rfl, ⟨_, Tryz.func146, rfl, by kernel_rfl⟩, fun c w' _ => value1_any c w'⟩
set_option maxHeartbeats 4000000 in
theorem fvalue_any (s : List Bt) (w : World) : Calls Tryz.prog 118 [Z s].toArray w fun e w' => e = .returned (.bool (valB s)) ∧ Ext w w' := by
  refine enter (n := 16) Tryz.func118 rfl rfl rfl (Holds.start w []) ?_
  have hv : valB s = ((decide ((s.length : Int) ≤ 8192) && decide (s = trim s)) && s.all sok) := by
    rw [valB_is, Bool.and_assoc]
    congr 1
    exact decide_eq_decide.2 (by omega)
  rw [hv]
  cases h1 : decide ((s.length : Int) ≤ 8192)
  · cases h3 : s.all sok
    all_goals (repeat (first | refine JL.q (by first | (apply OQ.lenS; exact Tryz.underlying9; exact rfl) | (apply OQ.leqB (b := 8192); exact rfl; exact rfl; exact h1) | (apply OQ.pick_f; exact rfl; exact rfl) | (apply OQ.move; exact rfl) | (apply OQ.assign; exact rfl)) rfl ?_ | refine JC.seq ?_ | refine JC.region ?_ | refine JL.nil ?_ | refine JE.next ?_ | refine JL.gskip rfl rfl rfl rfl ?_))
    all_goals exact JC.ret (JE.ret1 rfl (RV.tmp rfl) fun w' hw => ⟨rfl, hw.chg⟩)
  · have hl : s.length < 9223372036854775808 := by have := of_decide_eq_true h1; omega
    have cO := fun w' => only_any s (.func (.func 146) #[] #[]) sok w' (fun_value1 w') hl
    have cT := fun w' => trimw_any s w' hl
    cases h2 : decide (s = trim s) <;> cases h3 : s.all sok
    all_goals (repeat (first | refine JL.q (by first | (apply OQ.lenS; exact Tryz.underlying9; exact rfl) | (apply OQ.leqB (b := 8192); exact rfl; exact rfl; exact h1) | (apply OQ.callx (vs := [Z s, Z [32, 9]]); exact goes_trimw; exact rfl; exact (fun w' _ => cT w')) | (apply OQ.eqSB; exact rfl; exact rfl; exact h2) | (apply OQ.callb (vs := [Z s, .func (.func 146) #[] #[]]); exact goes_fonly; exact rfl; exact cO; exact h3) | (apply OQ.pick_t; exact rfl; exact rfl) | (apply OQ.pick_f; exact rfl; exact rfl) | (apply OQ.move; exact rfl) | (apply OQ.assign; exact rfl)) rfl ?_ | refine JC.seq ?_ | refine JC.region ?_ | refine JL.nil ?_ | refine JE.next ?_ | refine JL.gon rfl rfl ?_ | refine JL.gskip rfl rfl rfl rfl ?_))
    all_goals exact JC.ret (JE.ret1 rfl (RV.tmp rfl) fun w' hw => ⟨rfl, hw.chg⟩)
/-! ### two names -/
theorem smallA_is : ∀ c : Fld.By, 65 ≤ c.toNat → c.toNat ≤ 90 → c - 65 + 97 = small c := by
  have h : ∀ c : Fin 256, 65 ≤ (BitVec.ofNat 8 c.val).toNat → (BitVec.ofNat 8 c.val).toNat ≤ 90 → BitVec.ofNat 8 c.val - 65 + 97 = small (BitVec.ofNat 8 c.val) := by decide +kernel
  intro c
  simpa using h ⟨c.toNat, c.isLt⟩
set_option maxHeartbeats 4000000 in
theorem fsmall_any (c : Bt) (w : World) : Calls Tryz.prog 135 [U8 c].toArray w fun e w' => e = .returned (U8 (small c)) ∧ Ext w w' := by
  refine enter (n := 13) Tryz.func135 rfl rfl rfl (Holds.start w []) ?_
  by_cases hb : 65 ≤ c.toNat ∧ c.toNat ≤ 90
  · have h1 : decide ((65 : Int) ≤ (c.toNat : Int)) = true := decide_eq_true (by omega)
    have h2 : decide ((c.toNat : Int) ≤ 90) = true := decide_eq_true (by omega)
    repeat (first | refine JL.q (by first | (apply OQ.geqB (b := 65); exact rfl; exact rfl; exact h1) | (apply OQ.leqB (b := 90); exact rfl; exact rfl; exact h2) | (apply OQ.pick_t; exact rfl; exact rfl) | (apply OQ.move; exact rfl) | (apply OQ.assign; exact rfl)) rfl ?_ | refine JC.seq ?_ | refine JC.region ?_ | refine JL.nil ?_ | refine JE.next ?_ | refine JL.gon rfl rfl ?_)
    refine JC.cond rfl (fun _ => ?_) (fun h => by cases h)
    repeat (first | refine JL.q (by first | (apply OQ.sub8 (b := 65); exact rfl; exact rfl; exact hb.1) | (apply OQ.add8 (b := 97); exact rfl; exact rfl) | (apply OQ.move; exact rfl) | (apply OQ.assign; exact rfl)) rfl ?_ | refine JC.seq ?_ | refine JC.region ?_ | refine JL.nil ?_ | refine JE.next ?_)
    refine JC.ret ?_
    repeat (refine JE.then_ret ?_)
    exact JE.ret1 rfl (RV.tmp rfl) fun w' hw => ⟨by rw [smallA_is c hb.1 hb.2], hw.chg⟩
  · have hs : small c = c := if_neg hb
    rw [hs]
    cases h1 : decide ((65 : Int) ≤ (c.toNat : Int)) <;> cases h2 : decide ((c.toNat : Int) ≤ 90)
    all_goals try (exfalso; have := of_decide_eq_true h1; have := of_decide_eq_true h2; omega)
    all_goals (repeat (first | refine JL.q (by first | (apply OQ.geqB (b := 65); exact rfl; exact rfl; exact h1) | (apply OQ.leqB (b := 90); exact rfl; exact rfl; exact h2) | (apply OQ.pick_t; exact rfl; exact rfl) | (apply OQ.pick_f; exact rfl; exact rfl) | (apply OQ.move; exact rfl) | (apply OQ.assign; exact rfl)) rfl ?_ | refine JC.seq ?_ | refine JC.region ?_ | refine JL.nil ?_ | refine JE.next ?_ | refine JL.gon rfl rfl ?_ | refine JL.gskip rfl rfl rfl rfl ?_))
    all_goals refine JC.cond rfl (fun h => by cases h) (fun _ => ?_)
    all_goals (repeat (first | refine JL.q (by first | (apply OQ.move; exact rfl) | (apply OQ.assign; exact rfl)) rfl ?_ | refine JC.seq ?_ | refine JC.region ?_ | refine JC.skip ?_ | refine JL.nil ?_ | refine JE.next ?_))
    all_goals exact JC.ret (JE.ret1 rfl (RV.tmp rfl) fun w' hw => ⟨rfl, hw.chg⟩)
set_option maxHeartbeats 8000000 in
theorem fsame_any (a b : List Fld.By) (w : World) (hl : a.length < 9223372036854775808) : Calls Tryz.prog 96 [Z a, Z b].toArray w fun e w' => e = .returned (.bool (sameB a b)) ∧ Ext w w' := by
  refine enter (n := 26) Tryz.func96 rfl rfl rfl (Holds.start w []) ?_
  cases h0 : decide ((a.length : Int) = (b.length : Int))
  · have hne : sameB a b = false := decide_eq_false fun h => by
      have := congrArg List.length h
      simp only [List.length_map] at this
      exact of_decide_eq_false h0 (by omega)
    rw [hne]
    repeat (first | refine JL.q (by first | (apply OQ.lenS; exact Tryz.underlying9; exact rfl) | (apply OQ.neB; exact rfl; exact rfl; exact h0) | (apply OQ.move; exact rfl) | (apply OQ.assign; exact rfl)) rfl ?_ | refine JC.seq ?_ | refine JC.region ?_ | refine JL.nil ?_ | refine JE.next ?_)
    refine JC.cond rfl (fun _ => ?_) (fun h => by cases h)
    repeat (first | refine JL.q (by (apply OQ.assign; exact rfl)) rfl ?_ | refine JC.seq ?_ | refine JC.region ?_ | refine JL.nil ?_ | refine JE.next ?_)
    refine JC.ret ?_
    repeat (refine JE.then_ret ?_)
    exact JE.ret1 rfl (RV.tmp rfl) fun w' hw => ⟨rfl, hw.chg⟩
  · have hab : a.length = b.length := by have := of_decide_eq_true h0; omega
    repeat (first | refine JL.q (by first | (apply OQ.lenS; exact Tryz.underlying9; exact rfl) | (apply OQ.neB; exact rfl; exact rfl; exact h0) | (apply OQ.move; exact rfl) | (apply OQ.assign; exact rfl)) rfl ?_ | refine JC.seq ?_ | refine JC.region ?_ | refine JL.nil ?_ | refine JE.next ?_)
    refine JC.cond rfl (fun h => by cases h) (fun _ => ?_)
    repeat (first | refine JL.q (by first | (apply OQ.lenS; exact Tryz.underlying9; exact rfl) | (apply OQ.move; exact rfl)) rfl ?_ | refine JC.seq ?_ | refine JC.region ?_ | refine JC.block ?_ | refine JC.skip ?_ | refine JL.nil ?_ | refine JE.next ?_)
    refine JC.loop (fun i : Nat => [(0, Z a), (1, Z b), (12, N a.length), (13, N i)]) (fun _ => []) (fun i => a.length - i) (fun i => i ≤ a.length ∧ (a.take i).map small = (b.take i).map small) 0 ⟨Nat.zero_le _, rfl⟩ (by repeat (first | exact SubE.nil | refine SubE.cons _ _ _ rfl ?_)) (Less.refl _) ?_
    rintro i ⟨hi, ha⟩
    repeat (first | refine JL.q (by (apply OQ.lssN; exact rfl; exact rfl)) rfl ?_ | refine JC.seq ?_ | refine JC.region ?_ | refine JL.nil ?_ | refine JE.next ?_)
    refine JC.cond rfl (fun h => ?_) (fun h => ?_)
    · have hi' : i < a.length := of_decide_eq_true h
      have hi2 : i < b.length := by omega
      clear h hi
      have hx := map_take_eq a b hi' hi2 ha
      have hbad := map_at_ne a b hi' hi2
      have i0 := fun {n : Nat} {E : Env} {C : World → Prop} {dst : Option Tmp} {ty : TypeId} {pos : String} {aft : Array Edge} {g : Option (Nat × Bool)} {x y : Operand} => idxAt hi' (n := n) (E := E) (C := C) (dst := dst) (ty := ty) (pos := pos) (aft := aft) (g := g) (x := x) (y := y)
      have i1 := fun {n : Nat} {E : Env} {C : World → Prop} {dst : Option Tmp} {ty : TypeId} {pos : String} {aft : Array Edge} {g : Option (Nat × Bool)} {x y : Operand} => idxAt hi2 (n := n) (E := E) (C := C) (dst := dst) (ty := ty) (pos := pos) (aft := aft) (g := g) (x := x) (y := y)
      generalize a.getD i 0 = c at hx hbad i0
      generalize b.getD i 0 = d at hx hbad i1
      cases h1 : decide (small c = small d)
      · rw [hbad (of_decide_eq_false h1)]
        repeat (first | refine JL.q (by first | (apply OQ.move; exact rfl) | (apply OQ.assign; exact rfl)) rfl ?_ | refine JC.seq ?_ | refine JC.region ?_ | refine JC.block ?_ | refine JC.skip ?_ | refine JL.nil ?_ | refine JE.next ?_)
        refine JC.quiet mixT (by kernel_rfl) ?_
        repeat (first | refine JQ.q (by first | (apply i0; exact rfl; exact rfl) | (apply i1; exact rfl; exact rfl) | (apply OQ.callx (vs := [U8 c]); exact goes_fsmall; exact rfl; exact (fun w' _ => fsmall_any c w')) | (apply OQ.callx (vs := [U8 d]); exact goes_fsmall; exact rfl; exact (fun w' _ => fsmall_any d w')) | (apply OQ.ne8B; exact rfl; exact rfl; exact h1) | (apply OQ.move; exact rfl)) rfl ?_ | refine JQ.nil ?_ | refine JE.next ?_)
        refine JC.cond rfl (fun _ => ?_) (fun h => by cases h)
        repeat (first | refine JL.q (by (apply OQ.assign; exact rfl)) rfl ?_ | refine JC.seq ?_ | refine JC.region ?_ | refine JL.nil ?_ | refine JE.next ?_)
        refine JC.ret ?_
        repeat (first | refine JE.then_ret ?_ | refine JE.blk_ret ?_)
        exact JE.ret1 rfl (RV.tmp rfl) fun w' hw => ⟨rfl, hw.chg⟩
      · repeat (first | refine JL.q (by first | (apply OQ.move; exact rfl) | (apply OQ.assign; exact rfl)) rfl ?_ | refine JC.seq ?_ | refine JC.region ?_ | refine JC.block ?_ | refine JC.skip ?_ | refine JL.nil ?_ | refine JE.next ?_)
        refine JC.quiet mixT (by kernel_rfl) ?_
        repeat (first | refine JQ.q (by first | (apply i0; exact rfl; exact rfl) | (apply i1; exact rfl; exact rfl) | (apply OQ.callx (vs := [U8 c]); exact goes_fsmall; exact rfl; exact (fun w' _ => fsmall_any c w')) | (apply OQ.callx (vs := [U8 d]); exact goes_fsmall; exact rfl; exact (fun w' _ => fsmall_any d w')) | (apply OQ.ne8B; exact rfl; exact rfl; exact h1) | (apply OQ.move; exact rfl)) rfl ?_ | refine JQ.nil ?_ | refine JE.next ?_)
        refine JC.cond rfl (fun h => by cases h) (fun _ => ?_)
        repeat (first | refine JL.q (by first | (apply OQ.move; exact rfl) | (apply OQ.addN; exact rfl; exact rfl; exact (by (try simp only []); omega))) rfl ?_ | refine JC.region ?_ | refine JC.skip ?_ | refine JL.nil ?_ | refine JE.next ?_ | refine JE.blk_normal ?_)
        exact JE.again (i := i) (i + 1) ⟨hi', hx (of_decide_eq_true h1)⟩ (by omega) (by repeat (first | exact SubE.nil | refine SubE.cons _ _ _ rfl ?_)) (Less.refl _)
    · have hi' : ¬ i < a.length := of_decide_eq_false h
      obtain rfl : i = a.length := by omega
      clear h hi hi'
      rw [List.take_length, List.take_of_length_le (by omega)] at ha
      rw [show sameB a b = true from decide_eq_true ha]
      repeat (first | refine JL.q (by (apply OQ.assign; exact rfl)) rfl ?_ | refine JC.seq ?_ | refine JC.region ?_ | refine JC.exit ?_ | refine JL.nil ?_ | refine JE.next ?_ | refine JE.then_exit ?_ | refine JE.blk_hit ?_)
      refine JC.ret ?_
      exact JE.ret1 rfl (RV.tmp rfl) fun w' hw => ⟨rfl, hw.chg⟩
/-! ### blanks and pieces -/
theorem blank_ix : ∀ c : Fld.By, decide ((0 : Int) ≤ ixC c [32, 9]) = bl c := by
  have h : ∀ c : Fin 256, decide ((0 : Int) ≤ ixC (BitVec.ofNat 8 c.val) [32, 9]) = bl (BitVec.ofNat 8 c.val) := by decide +kernel
  intro c
  simpa using h ⟨c.toNat, c.isLt⟩
theorem fblank_any (c : Bt) (w : World) : Calls Tryz.prog 169 [U8 c].toArray w fun e w' => e = .returned (.bool (bl c)) ∧ Ext w w' := by
  refine enter (n := 6) Tryz.func169 rfl rfl rfl (Holds.start w []) ?_
  repeat (first | refine JL.q (by first | (apply OQ.callx (vs := [Z [32, 9], U8 c]); exact goes_idxb; exact rfl; exact (fun w' _ => idxb_any [32, 9] c w')) | (apply OQ.geqB (b := 0); exact rfl; exact rfl; exact (blank_ix c)) | (apply OQ.move; exact rfl) | (apply OQ.assign; exact rfl)) rfl ?_ | refine JC.seq ?_ | refine JC.region ?_ | refine JL.nil ?_ | refine JE.next ?_)
  exact JC.ret (JE.ret1 rfl (RV.tmp rfl) fun w' hw => ⟨rfl, hw.chg⟩)
theorem ixB_up {s : List Fld.By} (h : fb s < s.length) : ixB s = (fb s : Nat) := if_pos h
theorem ixB_no {s : List Fld.By} (h : ¬ fb s < s.length) : ixB s = -1 := if_neg h
set_option maxHeartbeats 4000000 in
theorem fpiece_any (s : List Bt) (w : World) (hl : s.length < 4294967281) (hs : ∀ c ∈ s, c.toNat < 128) : Calls Tryz.prog 119 [Z s].toArray w fun e w' => e = .returned (N (pieceB s)) ∧ Ext w w' := by
  refine enter (n := 20) Tryz.func119 rfl rfl rfl (Holds.start w []) ?_
  have hll := trimL_len s
  have cT := fun w' => triml_any s w'
  have cI := fun w' => ixany_any (trimL s) w' (by omega) (fun c hc => hs c ((List.dropWhile_sublist _).subset hc))
  by_cases h : fb (trimL s) < (trimL s).length
  · rw [ixB_up h] at cI
    have hp : pieceB s = s.length - (trimL s).length + fb (trimL s) := rfl
    have hfl : fb (trimL s) ≤ (trimL s).length := by omega
    rw [hp]
    generalize fb (trimL s) = k at cI hfl ⊢
    generalize trimL s = t at cT cI hll hfl ⊢
    repeat (first | refine JL.q (by first | (apply OQ.callx (vs := [Z s, Z [32, 9]]); exact goes_triml; exact rfl; exact (fun w' _ => cT w')) | (apply OQ.callx (vs := [Z t, Z [32, 9]]); exact goes_ixany; exact rfl; exact (fun w' _ => cI w')) | (apply OQ.geqN; exact rfl; exact rfl) | (apply OQ.move; exact rfl) | (apply OQ.assign; exact rfl)) rfl ?_ | refine JC.seq ?_ | refine JC.region ?_ | refine JL.nil ?_ | refine JE.next ?_)
    refine JC.cond_true rfl (decide_eq_true (Nat.zero_le _)) ?_
    repeat (first | refine JL.q (by first | (apply OQ.lenS; exact Tryz.underlying9; exact rfl) | (apply OQ.move; exact rfl) | (apply OQ.assign; exact rfl) | (apply OQ.addN; exact rfl; exact rfl; exact (by (try simp only []); omega)) | (apply OQ.subN; exact rfl; exact rfl; exact (by (try simp only []); omega); exact (by (try simp only []); omega))) rfl ?_ | refine JC.seq ?_ | refine JC.region ?_ | refine JL.nil ?_ | refine JE.next ?_)
    refine JC.ret ?_
    repeat (refine JE.then_ret ?_)
    exact JE.ret1 rfl (RV.tmp rfl) fun w' hw => ⟨rfl, hw.chg⟩
  · rw [ixB_no h] at cI
    have hp : pieceB s = s.length := by
      have := fb_le (trimL s)
      unfold pieceB
      omega
    rw [hp]
    generalize trimL s = t at cT cI ⊢
    repeat (first | refine JL.q (by first | (apply OQ.callx (vs := [Z s, Z [32, 9]]); exact goes_triml; exact rfl; exact (fun w' _ => cT w')) | (apply OQ.callx (vs := [Z t, Z [32, 9]]); exact goes_ixany; exact rfl; exact (fun w' _ => cI w')) | (apply OQ.geqB (a := -1) (b := 0); exact rfl; exact rfl; exact rfl) | (apply OQ.move; exact rfl) | (apply OQ.assign; exact rfl)) rfl ?_ | refine JC.seq ?_ | refine JC.region ?_ | refine JL.nil ?_ | refine JE.next ?_)
    refine JC.cond rfl (fun h => by cases h) (fun _ => ?_)
    repeat (first | refine JL.q (by first | (apply OQ.lenS; exact Tryz.underlying9; exact rfl) | (apply OQ.move; exact rfl) | (apply OQ.assign; exact rfl)) rfl ?_ | refine JC.seq ?_ | refine JC.region ?_ | refine JC.skip ?_ | refine JL.nil ?_ | refine JE.next ?_)
    refine JC.ret ?_
    exact JE.ret1 rfl (RV.tmp rfl) fun w' hw => ⟨rfl, hw.chg⟩
end Go.Proofs.YtbbmhkdfdgnkpaaGreatDoor

/-
  Of no statement by itself: what the reference's Right and SameFields (layer 9) give.
  Conditions: each theorem's own.
-/
namespace Go.Proofs.YtbbmhkdfdgnkpaaGreatDoor
set_option maxRecDepth 10000
open Sl Fld
theorem fieldA : aggT Tryz.prog 51 = true := by kernel_rfl
theorem fieldS : szT Tryz.prog 51 = some 2 := by kernel_rfl
end Go.Proofs.YtbbmhkdfdgnkpaaGreatDoor

/-
  Of no statement by itself: append onto a slice of bytes that a conversion of a string has made (its block bears a mark behind its cells); over X's partial knowledge, for any program P.
  Conditions: each rule's own hypotheses.
-/
namespace Go.Proofs.YtbbmhkdfdgnkpaaGreatDoor
namespace Sl
/-- a slice's own cells, first in their block, none of which is frozen -/
def OwnF (e : TypeId) (n cap : Nat) (xs : List Value) : Obj → Prop := fun o => ∃ (sp : List Value) (fr : Nat × Nat), o = .cells (xs ++ sp).toArray e fr ∧ (cap ≤ fr.1 ∨ fr.2 = 0) ∧ (xs ++ sp).length = cap ∧ xs.length = n ∧ n ≤ cap
theorem OwnF.cells {e : TypeId} {n cap : Nat} {xs : List Value} : ∀ o, OwnF e n cap xs o → hasCells o 0 xs := by
  rintro o ⟨sp, fr, rfl, _⟩
  exact ⟨_, _, _, rfl, fun i hi => by simp [List.getElem?_append_left hi]⟩
theorem ownF_ents {e : TypeId} {b n cap : Nat} {Y : List Bt} (hn : Y.length = n) : Less (Sl8.ents ⟨some ⟨b, 0, none⟩, cap, Y⟩) [⟨b, OwnF e n cap (Y.map U8), true⟩] :=
  .keep _ _ _ _ _ _ (fun o h => ⟨OwnF.cells o h, by obtain ⟨_, _, _, _, _, _, h4⟩ := h; rw [hn]; exact h4, rfl⟩) (.nil _)
theorem ownF_ok {w0 w : World} {S : List Nat} {M : List Ent} {b k cap : Nat} {e : TypeId} {l : List Bt} {wr : Bool} (hw : Holds w0 S M w) (hM : Has M b (OwnF e k cap (l.map U8)) wr) : Sl8.ok w ⟨some ⟨b, 0, none⟩, cap, l⟩ := by
  obtain ⟨o, ho, hA⟩ := hw.get hM
  have hh := OwnF.cells _ hA
  obtain ⟨sp, fr, rfl, _, h2, h3, h4⟩ := hA
  simp only [List.length_map] at h3
  exact ⟨by show l.length ≤ cap; omega, Reads.block ho hh⟩
section
variable {P : Program} {t tx e : TypeId}
theorem store_runF {w : World} {b j : Nat} {v : Value} {c : Array Value} {e : TypeId} {fr : Nat × Nat} (hv : v.oneCell' = true) (ho : w.heap[b]? = some (.cells c e fr)) (hf : c.size ≤ fr.1 ∨ fr.2 = 0) (hj : j < c.size) :
    (Go.store ⟨b, j, none⟩ v).run P w = .ok () (w.setCell ⟨b, j, none⟩ v) := by
  have hc : w.cell? ⟨b, j, none⟩ = some c[j] := by simp [World.cell?, ho, hj]
  have hf : w.frozen? ⟨b, j, none⟩ = false := by
    obtain ⟨lo, hi⟩ := fr
    simp only [World.frozen?, ho, Bool.and_eq_false_iff, decide_eq_false_iff_not]
    simp only at hf
    omega
  cases v <;> simp_all [Go.store, Sem.run, Value.oneCell']
theorem storeCells_runF {b j : Nat} {e : TypeId} {fr : Nat × Nat} : ∀ (vs : List Value) (i : Nat) (w : World) (c : List Value), (∀ v ∈ vs, v.oneCell' = true) → w.heap[b]? = some (.cells c.toArray e fr) → c.length ≤ fr.1 ∨ fr.2 = 0 → j + i + vs.length ≤ c.length →
    ∃ w', (storeCells ⟨b, j, none⟩ vs i).run P w = .ok () w' ∧ w'.heap[b]? = some (.cells (c.take (j + i) ++ vs ++ c.drop (j + i + vs.length)).toArray e fr) ∧ w'.heap.size = w.heap.size ∧
      (∀ k, k ≠ b → w'.heap[k]? = w.heap[k]?) ∧ w'.os = w.os ∧ w'.tape = w.tape ∧ w'.output = w.output
  | [], i, w, c, _, ho, _, _ => ⟨w, rfl, by simpa using ho, rfl, fun _ _ => rfl, rfl, rfl, rfl⟩
  | v :: vs, i, w, c, h1, ho, hf, hl => by
    simp only [List.length_cons] at hl
    obtain ⟨w', r1, r2, r3, r4, r5, r6, r7⟩ := storeCells_runF (j := j) (e := e) (fr := fr) vs (i + 1) (w.setCell ⟨b, j + i, none⟩ v) (c.set (j + i) v) (fun u hu => h1 u (by simp [hu])) (by
      rw [setCell_heap ho]; simp) (by simpa using hf) (by simp; omega)
    refine ⟨w', ?_, ?_, r3.trans setCell_size, fun k hk => (r4 k hk).trans (setCell_other hk), r5, r6, r7⟩
    · simp only [storeCells, Sem.run_bind, add_off]
      rw [store_runF (h1 v (by simp)) ho (by simpa using hf) (by simp; omega)]
      exact r1
    · rw [r2]
      congr 3
      rw [List.take_set, List.drop_set, if_pos (by omega)]
      rw [show j + (i + 1) = j + i + 1 by omega, List.take_add_one]
      simp only [List.getElem?_eq_getElem (show j + i < c.length by omega), Option.toList_some, List.length_cons]
      rw [List.set_append_right _ _ (by rw [List.length_take]; omega)]
      simp [List.length_take, Nat.min_eq_left (show j + i ≤ c.length by omega), Nat.add_assoc, Nat.add_comm, Nat.add_left_comm]
theorem append_roomF {w : World} {ty : TypeId} {i : TypeInfo} (ht : P.underlying t = some (.slice e)) (hi : P.info? e = some i) (hs1 : i.size = 1) {b k cap m : Nat} {x : Value} {news cur : List Value} {fr : Nat × Nat} (hs : Src P 1 tx x m news w)
    (hg : w.heap[b]? = some (.cells cur.toArray e fr)) (hf : cur.length ≤ fr.1 ∨ fr.2 = 0) (hroom : k + m ≤ cap) (hfit : k + news.length ≤ cur.length) :
    ∃ w', (Builtin.append_ #[t, tx] ty #[.slice (some ⟨b, 0, none⟩) k cap, x]).run P w = .ok (.slice (some ⟨b, 0, none⟩) (k + m) cap) w' ∧ w'.heap[b]? = some (.cells (cur.take k ++ news ++ cur.drop (k + news.length)).toArray e fr) ∧ w'.heap.size = w.heap.size ∧
      (∀ q, q ≠ b → w'.heap[q]? = w.heap[q]?) ∧ w'.os = w.os ∧ w'.tape = w.tape ∧ w'.output = w.output := by
  obtain ⟨w', r1, r2, r3, r4, r5, r6, r7⟩ := storeCells_runF (P := P) (b := b) (j := k) (e := e) (fr := fr) news 0 w cur hs.one hg hf (by omega)
  simp only [Nat.add_zero] at r2
  refine ⟨w', ?_, r2, r3, r4, r5, r6, r7⟩
  have hc := hs.cells
  rcases hs.kind with ⟨e', hk⟩ | hk <;> simp [Builtin.append_, run_underlying ht, run_underlying hk, sizeOf, typeInfo, hi, hs1, hs.len, hroom, hc, add_off, r1]
variable {n : Nat} {w0 : World} {S : List Nat} {ops : Array Oper} {Q : Exit → Act → World → Prop} {l : List Oper} {E : Env} {M : List Ent} {d b : Nat} {ty : TypeId} {pos : String} {aft : Array Edge} {x y : Operand}
theorem JL.appendX {k cap m : Nat} {v : Value} {xs news : List Value} (M' : Nat → Nat → List Ent) (hu : P.underlying t = some (.slice e)) (hi : EI P e (.int .u8 0) 1 1) (hx : ev E x = some (.slice (some ⟨b, 0, none⟩) k cap)) (hy : ev E y = some v)
    (hs : ∀ w, Holds w0 S M w → Src P 1 tx v m news w) (hup : ∀ b' cap', Repl M b (OwnF e k cap xs) b' (OwnF e (k + m) cap' (xs ++ news)) (M' b' cap'))
    (hsm : (k + m) ≤ 140737488355328) (hd : Nat.blt d n = true)
    (kk : ∀ b' cap', JL P n w0 S ops Q l ((d, .slice (some ⟨b', 0, none⟩) (k + m) cap') :: E) (M' b' cap')) : JL P n w0 S ops Q (⟨some d, .call ⟨.builtin .append, #[x, y], #[t, tx]⟩, ty, pos, aft, none⟩ :: l) E M :=
  ⟨fun a w ha hw => wpList_plain rfl fun K hK => by
    obtain ⟨i, hi1, hi2, hi3, hi4⟩ := hi.get
    obtain ⟨o, ho, sp, fr, rfl, hfr, hc1, hc2, hc3⟩ := hw.get (hup 0 0).has
    have hsrc := hs w hw
    have hnl : news.length = m := by have := hsrc.newsLen; omega
    unfold Oper.wp
    simp only [execOp, resolve, invoke, builtin, Sem.run_bind, Sem.run_pure, Result.andThen_ok, List.map_toArray, List.map_cons, List.map_nil, ha.eval hx, ha.eval hy]
    by_cases hroom : k + m ≤ cap
    · obtain ⟨w', r1, r2, r3, r4, r5, r6, r7⟩ := append_roomF (ty := ty) hu hi1 hi3 hsrc ho (by rw [hc1]; exact hfr) hroom (by rw [hc1, hnl]; exact hroom)
      rw [r1]
      refine hK _ _ ((kk b cap).go _ _ (ha.put d _ hd) (hw.write (hup b cap).upd (o' := .cells ((xs ++ sp).take k ++ news ++ (xs ++ sp).drop (k + news.length)).toArray e fr) ?_ r2 r3 r4 r5 r6 r7))
      subst hc2
      rw [List.take_left]
      refine ⟨(xs ++ sp).drop (xs.length + news.length), fr, rfl, hfr, ?_, by rw [List.length_append, hnl], hroom⟩
      simp only [List.length_append, List.length_drop] at hc1 ⊢
      omega
    · have hold : ∀ u v, xs[u]? = some v → w.cell? ((⟨b, 0, none⟩ : Addr).add u) = some v := fun u v hv => by
        rw [add_off]
        have hu' : u < xs.length := (List.getElem?_eq_some_iff.1 hv).1
        exact cell_of ho (by simpa [cellAt, List.getElem?_append_left hu'] using hv)
      have hfit := growslice_fits (need := k + m) (old := cap) (bytes := 1) (by omega) (by omega)
      have hfo := run_firstCells_some (P := P) w.drew i.size k ⟨b, 0, none⟩ k cap xs (by rw [hc2, hi3, Nat.mul_one]) (by simpa using hold)
      rw [run_append_grow_src w t tx ty e i (.int .u8 0) hu hi1 hi2 (some ⟨b, 0, none⟩) k cap xs hfo v m news (by rw [hi3]; exact hsrc) (by omega) (by omega) (by rw [hi4]; exact hfit)]
      have hge := grownCap_ge w (k + m) cap e
      generalize grownCap w (k + m) cap e = nc at hge
      refine hK _ _ ((kk w.heap.size nc).go _ _ (ha.put d _ hd) (hw.renew (.cells ((xs ++ news).toArray ++ Builtin.zeroCells (Value.int .u8 0).cells (nc - (k + m))) e) (hup _ _) ?_ rfl rfl rfl rfl))
      have h8 : (Builtin.zeroCells (Value.int .u8 0).cells (nc - (k + m))).size = (nc - (k + m)) := by
        rw [show (Value.int .u8 0).cells = #[Value.int .u8 0] from rfl]; simp [Builtin.zeroCells]
      refine ⟨(Builtin.zeroCells (Value.int .u8 0).cells (nc - (k + m))).toList, (0, 0), by simp, .inr rfl, ?_, by rw [List.length_append, hc2, hnl], hge⟩
      simp only [List.length_append, Array.length_toList, h8, hc2, hnl]
      omega⟩
theorem src_reads {w : World} {ad : Option Addr} {m sc : Nat} {cs : List Value} (hu : P.underlying tx = some (.slice e)) (hl : cs.length = m) (hr : Reads w ad cs) (h1 : ∀ v ∈ cs, v.oneCell' = true) : Src P 1 tx (.slice ad m sc) m cs w := by
  by_cases h0 : m = 0
  · subst h0
    obtain rfl : cs = [] := List.eq_nil_of_length_eq_zero hl
    cases ad with
    | none => exact Src.ofNil w hu sc
    | some a => exact Src.ofSlice w hu a 0 sc [] rfl (fun j u h => by simp at h) (fun u h => by cases h)
  · obtain ⟨b2, j2, rfl, hcell⟩ := hr.at (by omega)
    exact Src.ofSlice w hu ⟨b2, j2, none⟩ m sc cs (by omega) (fun u v hv => by rw [add_off]; exact hcell u v hv) h1
theorem src_str {w : World} {r : List Bt} (hk : P.underlying tx = some .string) : Src P 1 tx (Z r) r.length (r.map U8) w := by
  have := Src.ofString (P := P) w hk (strB r)
  rw [byteCells_strB, strB_size] at this
  exact this
/-- x = append(x, v) -/
theorem JL.pushF {t ty ty' : TypeId} {v : Value} {k cap d1 d2 : Nat} {pos pos' : String} {aft aft' : Array Edge} {xs : List Value} {x y : Operand}
    (M' : Nat → Nat → List Ent) (hu : P.underlying t = some (.slice e)) (hi : EI P e (.int .u8 0) 1 1) (hx : ev E x = some v) (hv : v.cells = #[v]) (h1 : v.oneCell' = true)
    (ha : ∀ bl, ev ((d1, .slice (some ⟨bl, 0, none⟩) 1 1) :: E) y = some (.slice (some ⟨b, 0, none⟩) k cap)) (hup : ∀ b' cap', Repl M b (OwnF e k cap xs) b' (OwnF e (k + 1) cap' (xs ++ [v])) (M' b' cap'))
    (hsm : k + 1 ≤ 140737488355328) (hd1 : Nat.blt d1 n = true) (hd2 : Nat.blt d2 n = true)
    (kk : ∀ bl b' cap', JL P n w0 S ops Q l ((d2, .slice (some ⟨b', 0, none⟩) (k + 1) cap') :: (d1, .slice (some ⟨bl, 0, none⟩) 1 1) :: E) (M' b' cap')) :
    JL P n w0 S ops Q (⟨some d1, .buildSlice t 1 #[(0, x)], ty, pos, aft, none⟩ :: ⟨some d2, .call ⟨.builtin .append, #[y, .tmp d1], #[t, t]⟩, ty', pos', aft', none⟩ :: l) E M := by
  refine JL.lit1 hu hi rfl hx hv hd1 fun bl _ => ?_
  refine JL.appendX (news := [v]) (m := 1) (v := .slice (some ⟨bl, 0, none⟩) 1 1) (fun b' cap' => ⟨bl, Row e [v], true⟩ :: M' b' cap') hu hi (ha bl) (by simp [ev, lk]) (fun w hw => src_reads hu rfl ?_ (by simpa using h1)) (fun b' cap' => .there (hup b' cap')) hsm hd2 fun b' cap' => ?_
  · obtain ⟨o, ho, hA⟩ := hw.get (b := bl) (A := Row e [v]) (wr := true) .here
    exact Reads.block ho (Row.all _ hA)
  · exact ⟨fun a w ha hw => (kk bl b' cap').go a w ha (hw.weak (.drop _ _ _ (Less.refl _)))⟩
/-- []byte(s), onto which may be appended -/
theorem JL.s2o {t' : TypeId} {r : List Bt} {u : TypeDesc} (hs : P.underlying t = some u) (hsu : u = .string) (hu : P.underlying t' = some (.slice e)) (he : P.underlying e = some (.int .u8)) (hx : ev E x = some (Z r)) (hd : Nat.blt d n = true)
    (k : ∀ b cap, w0.heap.size ≤ b → JL P n w0 S ops Q l ((d, .slice (some ⟨b, 0, none⟩) r.length cap) :: E) (⟨b, OwnF e r.length cap (r.map U8), true⟩ :: M)) : JL P n w0 S ops Q (⟨some d, .convert t t' x, ty, pos, aft, none⟩ :: l) E M :=
  ⟨fun a w ha hw => wpList_plain rfl fun K hK => by
    subst hsu
    have hrun := Lib.run_convert_string_bytes (P := P) w t t' e (strB r) hs hu he
    have hheap : (Lib.bytesWorld w e (strB r)).heap = w.heap.push (.cells (Lib.bytesCells w e (strB r)) e ((Lib.bytesCells w e (strB r)).size, (Lib.bytesCells w e (strB r)).size + 1)) := by
      apply Array.ext_getElem?
      intro i
      rw [Array.getElem?_push]
      by_cases h : i = w.heap.size
      · rw [if_pos h, h, Lib.bytesWorld_at_new]
      · rw [if_neg h]
        by_cases h2 : i < w.heap.size
        · rw [Lib.bytesWorld_at_old _ _ _ _ h2]
        · rw [Array.getElem?_eq_none (by rw [Lib.bytesWorld_size]; omega), Array.getElem?_eq_none (by omega)]
    have hge := grownCap_ge w (strB r).size 0 e
    rw [strB_size] at hge hrun
    have hA : OwnF e r.length (grownCap w r.length 0 e) (r.map U8) (.cells (Lib.bytesCells w e (strB r)) e ((Lib.bytesCells w e (strB r)).size, (Lib.bytesCells w e (strB r)).size + 1)) := by
      have hb : ((strB r).data.toList.map fun b => Value.int .u8 b.toNat) = r.map U8 := by
        have := byteCells_strB r
        exact this
      have hc : Lib.bytesCells w e (strB r) = (r.map U8 ++ List.replicate (grownCap w r.length 0 e - r.length) (Value.int .u8 0)).toArray := by
        have hsz := strB_size r
        rw [← hb]
        apply Array.ext'
        simp [Lib.bytesCells, hsz]
      have hl : (Lib.bytesCells w e (strB r)).size = grownCap w r.length 0 e := by rw [hc]; simp; omega
      refine ⟨List.replicate (grownCap w r.length 0 e - r.length) (Value.int .u8 0), _, by rw [← hc], .inl (by show _ ≤ (Lib.bytesCells w e (strB r)).size; omega), ?_, by simp, hge⟩
      simp; omega
    unfold Oper.wp
    simp only [execOp, ha.eval hx, Sem.run_bind, hrun, Result.andThen_ok]
    exact hK _ _ ((k w.heap.size _ hw.chg.size).go _ _ (ha.put d _ hd) (hw.push _ hA hheap rfl rfl rfl))⟩
end
end Sl
end Go.Proofs.YtbbmhkdfdgnkpaaGreatDoor

/-
  Of no statement by itself: what the reference's Fold (layer 9) gives.
  Conditions: each theorem's own.
-/
namespace Go.Proofs.YtbbmhkdfdgnkpaaGreatDoor
set_option maxRecDepth 10000
open Sl Fld
theorem st_len (n v : List Fld.By) : ∀ i, (st n v i).1.length ≤ n.length + 2 + 3 * i ∧ (st n v i).2 ≤ n.length + 2 + i
  | 0 => by simp [st]
  | i + 1 => by
    obtain ⟨h1, h2⟩ := st_len n v i
    unfold st
    split
    · simp only [List.length_append, List.length_cons, List.length_nil]; omega
    · simp only [List.length_append, List.length_cons, List.length_nil]; omega
end Go.Proofs.YtbbmhkdfdgnkpaaGreatDoor

/-
  Of no statement by itself: what a field as lines is, with its number (field's Fold); which functions go.
  Conditions: none.
-/
namespace Go.Proofs.YtbbmhkdfdgnkpaaGreatDoor
set_option maxRecDepth 10000
open Sl Fld
def goodF (n v : List Bt) : Bool := nameB n && valB v
def foldR (n v : List Bt) : List Bt := if goodF n v then foldB n v else []
def codeF (n v : List Bt) : Nat := if goodF n v then 0 else 3
theorem goes_fname : Goes Tryz.prog 117 := ⟨_, Tryz.func117, rfl, by kernel_rfl⟩
theorem goes_fvalue : Goes Tryz.prog 118 := ⟨_, Tryz.func118, rfl, by kernel_rfl⟩
theorem goes_fsame : Goes Tryz.prog 96 := ⟨_, Tryz.func96, rfl, by kernel_rfl⟩
theorem goes_ffold : Goes Tryz.prog 87 := ⟨_, Tryz.func87, rfl, by kernel_rfl⟩
theorem nameB_len {n : List Fld.By} (h : nameB n = true) : n.length ≤ 64 := (name_parts h).2.2
theorem foldB_len (n v : List Fld.By) : (foldB n v).length ≤ n.length + 4 + 3 * v.length := by
  have := (st_len n v v.length).1
  rw [foldB, List.length_append]
  simp only [List.length_cons, List.length_nil]
  omega
theorem valB_len {v : List Fld.By} (h : valB v = true) : v.length ≤ 8192 := (valB_parts h).2.1
end Go.Proofs.YtbbmhkdfdgnkpaaGreatDoor
