/-
  Of no statement by itself: armor's groups: the iterator that hands out a slice's parts of k bytes.
  Conditions: each theorem's own.
-/
import Derived.Test.YtdaplnidogkmkaaTyp
import Derived.Test.YtdaplnidogkmkaaSlq
import Derived.Test.YtdaplnidogkmkaaSlfi
namespace Go.Proofs.Ytdaplnidogkmkaa
open Sl
/-- the j-th part of k bytes -/
def Sl8.part (s : Sl8) (k j : Nat) : Sl8 := ⟨if s.cap = k * j then s.ad else s.ad.map (·.add (k * j * 1)), s.cap - k * j, (s.l.drop (k * j)).take k⟩
theorem part_v (s : Sl8) (k j : Nat) (h : k * j ≤ s.l.length) : (s.part k j).v = .slice (if s.cap = k * j then s.ad else s.ad.map (·.add (k * j * 1))) (min (k * j + k) s.l.length - k * j) (s.cap - k * j) := by
  show Value.slice _ ((s.l.drop (k * j)).take k).length _ = _
  rw [List.length_take, List.length_drop]
  congr 1
  omega
theorem part_ok {s : Sl8} {w : World} (h : s.ok w) (k j : Nat) : (s.part k j).ok w := by
  refine ⟨?_, ?_⟩
  · show ((s.l.drop (k * j)).take k).length ≤ s.cap - k * j
    have := h.len
    rw [List.length_take, List.length_drop]
    omega
  · show Reads w _ (((s.l.drop (k * j)).take k).map U8)
    by_cases h0 : s.l.length ≤ k * j
    · rw [List.drop_eq_nil_of_le h0]
      simpa using Reads.nil _ _
    · obtain ⟨b, i, hae, hc⟩ := h.reads.at (by simp; omega)
      have hcap : ¬ s.cap = k * j := by have := h.len; omega
      rw [show (s.part k j).ad = some ⟨b, i + k * j, none⟩ by
        show (if s.cap = k * j then s.ad else s.ad.map (·.add (k * j * 1))) = _
        rw [if_neg hcap, hae]
        simp [add_off]]
      intro t v hv
      refine ⟨b, i + k * j, rfl, ?_⟩
      have hv' : (s.l.map U8)[k * j + t]? = some v := by
        rw [List.getElem?_map] at hv ⊢
        rw [List.getElem?_take] at hv
        split at hv
        · rw [List.getElem?_drop] at hv; exact hv
        · simp at hv
      have := hc (k * j + t) v hv'
      rwa [← Nat.add_assoc] at this
def parts (s : Sl8) (k : Nat) : Nat := (s.l.length + k - 1) / k
theorem parts_lt {s : Sl8} {k j : Nat} (hk : 0 < k) : j < parts s k ↔ k * j < s.l.length := by
  unfold parts
  rw [Nat.lt_div_iff_mul_lt hk, Nat.mul_comm]
  omega
theorem OQ.slPart {P : Program} {n : Nat} {E : Env} {C : World → Prop} {dst : Option Tmp} {t ty e : TypeId} {pos : String} {aft : Array Edge} {g : Option (Nat × Bool)} {x y z : Operand} {s : Sl8} {k j : Nat} (hu : P.underlying t = some (.slice e)) (hz : szT P e = some 1) (hx : ev E x = some s.v) (hl : ev E y = some (N (k * j))) (hh : ev E z = some (N (min (k * j + k) s.l.length))) (h : k * j ≤ s.l.length) (hc : s.l.length ≤ s.cap) :
    OQ P n E C ⟨dst, .slice t x (some y) (some z) none, ty, pos, aft, g⟩ (s.part k j).v := by
  rw [part_v s k j h]
  exact OQ.slS_lohi hu hz hx hl hh (by omega) (by omega)
theorem OQ.clos2 {P : Program} {n : Nat} {E : Env} {C : World → Prop} {dst : Option Tmp} {ty : TypeId} {pos : String} {aft : Array Edge} {g : Option (Nat × Bool)} {f : FuncId} {x y : Operand} {vx vy : Value} (hx : ev E x = some vx) (hy : ev E y = some vy) : OQ P n E C ⟨dst, .makeFunc (.func f) #[] #[x, y], ty, pos, aft, g⟩ (.func (.func f) #[] #[vx, vy]) :=
  OQ.run fun a ha w _ => by simp [execOp, ha.eval hx, ha.eval hy, Instr.makeFunc]
theorem goes_groups : Goes Try.prog 19 := ⟨_, Try.func19, rfl, by kernel_rfl⟩
theorem groups_any (s : Sl8) (k : Nat) (w : World) : Calls Try.prog 19 [s.v, N k].toArray w fun e w' => ∃ q : Nat × Nat, e = .returned (.func (.func 23) #[] #[Pt q.1 0, Pt q.2 0]) ∧ Holds w [] [⟨q.2, Row 3 [N k], true⟩, ⟨q.1, Row 22 [s.v], true⟩] w' := by
  refine enter (n := 6) Try.func19 rfl rfl rfl (Holds.start w []) ?_
  repeat (first | refine JL.q (by first | (apply OQ.move; exact rfl) | (apply OQ.assign; exact rfl) | (apply OQ.len; exact rfl; exact rfl) | (apply OQ.addN; exact rfl; exact rfl; exact (by (try simp only []); omega)) | (apply OQ.lssN; exact rfl; exact rfl)) rfl ?_ | refine JC.seq ?_ | refine JC.region ?_ | refine JC.block ?_ | refine JC.skip ?_ | refine JC.exit ?_ | refine JL.nil ?_ | refine JE.next ?_ | refine JE.blk_normal ?_ | refine JE.then_exit ?_ | refine JE.blk_hit ?_ | refine JE.blk_miss rfl ?_ | refine JE.then_ret ?_ | refine JE.blk_ret ?_ | refine JC.label ?_ | refine JL.gon rfl rfl ?_ | refine JL.gskip rfl rfl rfl rfl ?_)
  refine JL.box rfl rfl rfl fun b1 _ => ?_
  refine JL.box rfl rfl rfl fun b2 _ => ?_
  repeat (first | refine JL.q (by first | (apply OQ.clos2; exact rfl; exact rfl) | (apply OQ.move; exact rfl) | (apply OQ.assign; exact rfl) | (apply OQ.len; exact rfl; exact rfl) | (apply OQ.addN; exact rfl; exact rfl; exact (by (try simp only []); omega)) | (apply OQ.lssN; exact rfl; exact rfl)) rfl ?_ | refine JC.seq ?_ | refine JC.region ?_ | refine JC.block ?_ | refine JC.skip ?_ | refine JC.exit ?_ | refine JL.nil ?_ | refine JE.next ?_ | refine JE.blk_normal ?_ | refine JE.then_exit ?_ | refine JE.blk_hit ?_ | refine JE.blk_miss rfl ?_ | refine JE.then_ret ?_ | refine JE.blk_ret ?_ | refine JC.label ?_ | refine JL.gon rfl rfl ?_ | refine JL.gskip rfl rfl rfl rfl ?_)
  refine JC.ret (JE.ret1 rfl (RV.tmp rfl) ?_)
  exact fun w' hw => ⟨(b1, b2), rfl, hw⟩
theorem load_fix {P : Program} {n : Nat} {E : Env} {dst : Option Tmp} {t ty : TypeId} {pos : String} {aft : Array Edge} {g : Option (Nat × Bool)} {x : Operand} {b j : Nat} {v : Value} {W : World} {o : Obj} (hs : scal P t = true) (hx : ev E x = some (.pointer (some ⟨b, j, none⟩))) (ho : W.heap[b]? = some o) (hA : cellAt o j = some v) : OQ P n E (fun w => w = W) ⟨dst, .load t x, ty, pos, aft, g⟩ v :=
  OQ.load_at (fun _ hw => by rw [hw]; exact loadVar_scal hs (cell_of ho hA)) hx
set_option maxHeartbeats 4000000 in
theorem groups_stops (s : Sl8) (k b1 b2 : Nat) (hk : 0 < k) (hc : s.l.length ≤ s.cap) (hl : s.l.length + k < 9223372036854775808) (W0 : World) {o1 o2 : Obj} (h1 : W0.heap[b1]? = some o1) (h1' : cellAt o1 0 = some s.v) (h2 : W0.heap[b2]? = some o2) (h2' : cellAt o2 0 = some (N k)) :
    SeqStopsK Fence.wide 2 Try.prog 23 #[Pt b1 0, Pt b2 0] (fun j => #[(s.part k j).v]) (KeepL [b1, b2]) (fun xs => xs = List.range (parts s k)) (fun _ => True) (parts s k) W0 := by
  intro l J Jx W hW hJ hJx hY h0
  have hb1 : b1 < W0.heap.size := (Array.getElem?_eq_some_iff.1 h1).1
  have hb2 : b2 < W0.heap.size := (Array.getElem?_eq_some_iff.1 h2).1
  refine callsIn_wide.2 ?_
  refine enterF (n := 24) (vs := [.func (.yield l) #[] #[], Pt b1 0, Pt b2 0]) Try.func23 rfl rfl rfl ?_
  refine FC.seq (FC.region (FL.q (OQ.assign rfl) rfl rfl (FL.nil (FE.next ?_))))
  refine FC.block (FC.loop (fun j : Nat => [(0, .func (.yield l) #[] #[]), (1, Pt b1 0), (2, Pt b2 0), (4, N (k * j))])
    (fun j w => j ≤ parts s k ∧ J (List.range j) w ∧ w.heap[b1]? = some o1 ∧ w.heap[b2]? = some o2) (fun j => parts s k - j) 0 ⟨Nat.zero_le _, h0, (hW.block b1 hb1).trans h1, (hW.block b2 hb2).trans h2⟩ (by repeat (first | exact SubE.nil | refine SubE.cons _ _ _ rfl ?_)) ?_)
  rintro j w ⟨hj, hJj, g1, g2⟩
  dsimp only
  repeat (first | refine FL.q (by first | (apply load_fix; exact rfl; exact rfl; exact g1; exact h1') | (apply load_fix; exact rfl; exact rfl; exact g2; exact h2') | (apply OQ.len; exact Try.underlying22; exact rfl) | (apply OQ.move; exact rfl) | (apply OQ.assign; exact rfl) | (apply OQ.len; exact rfl; exact rfl) | (apply OQ.addN; exact rfl; exact rfl; exact (by (try simp only []); omega)) | (apply OQ.lssN; exact rfl; exact rfl)) rfl rfl ?_ | refine FC.seq ?_ | refine FC.region ?_ | refine FC.block ?_ | refine FC.skip ?_ | refine FC.exit ?_ | refine FL.nil ?_ | refine FE.next ?_ | refine FE.blk_normal ?_ | refine FE.then_exit ?_ | refine FE.blk_hit ?_ | refine FE.blk_miss rfl ?_ | refine FE.then_ret ?_ | refine FE.blk_ret ?_)
  refine FC.cond rfl (fun h => ?_) (fun h => ?_)
  · have hjl : k * j < s.l.length := of_decide_eq_true h
    have hjp : j < parts s k := (parts_lt hk).2 hjl
    clear h
    repeat (first | refine FL.q (by first | (apply load_fix; exact rfl; exact rfl; exact g1; exact h1') | (apply load_fix; exact rfl; exact rfl; exact g2; exact h2') | (apply OQ.len; exact Try.underlying22; exact rfl) | (apply OQ.minN; exact rfl; exact rfl) | (apply OQ.slPart; exact Try.underlying22; exact u8s; exact rfl; exact rfl; exact rfl; exact (by omega); exact hc) | (apply OQ.move; exact rfl) | (apply OQ.assign; exact rfl) | (apply OQ.len; exact rfl; exact rfl) | (apply OQ.addN; exact rfl; exact rfl; exact (by (try simp only []); omega)) | (apply OQ.lssN; exact rfl; exact rfl)) rfl rfl ?_ | refine FC.seq ?_ | refine FC.region ?_ | refine FC.block ?_ | refine FC.skip ?_ | refine FC.exit ?_ | refine FL.nil ?_ | refine FE.next ?_ | refine FE.blk_normal ?_ | refine FE.then_exit ?_ | refine FE.blk_hit ?_ | refine FE.blk_miss rfl ?_ | refine FE.then_ret ?_ | refine FE.blk_ret ?_)
    refine FL.yield (v := (s.part k j).v) ?_ ?_ ?_ (hY (List.range j) j w hJj (by simpa using hjp)) ?_
    · rfl
    · rfl
    · rfl
    rintro e W' (⟨rfl, hJ', hk'⟩ | ⟨rfl, hJx'⟩)
    · refine ⟨true, rfl, ?_⟩
      have g1' := (hk'.same b1 (by simp)).trans g1
      have g2' := (hk'.same b2 (by simp)).trans g2
      repeat (first | refine FL.q (by first | (apply OQ.not; exact rfl) | (apply OQ.move; exact rfl) | (apply OQ.assign; exact rfl) | (apply OQ.len; exact rfl; exact rfl) | (apply OQ.addN; exact rfl; exact rfl; exact (by (try simp only []); omega)) | (apply OQ.lssN; exact rfl; exact rfl)) rfl rfl ?_ | refine FC.seq ?_ | refine FC.region ?_ | refine FC.block ?_ | refine FC.skip ?_ | refine FC.exit ?_ | refine FL.nil ?_ | refine FE.next ?_ | refine FE.blk_normal ?_ | refine FE.then_exit ?_ | refine FE.blk_hit ?_ | refine FE.blk_miss rfl ?_ | refine FE.then_ret ?_ | refine FE.blk_ret ?_)
      refine FC.cond rfl (fun h => by cases h) (fun _ => ?_)
      repeat (first | refine FL.q (by first | (apply load_fix; exact rfl; exact rfl; exact g1'; exact h1') | (apply load_fix; exact rfl; exact rfl; exact g2'; exact h2') | (apply OQ.move; exact rfl) | (apply OQ.assign; exact rfl) | (apply OQ.len; exact rfl; exact rfl) | (apply OQ.addN; exact rfl; exact rfl; exact (by (try simp only []); omega)) | (apply OQ.lssN; exact rfl; exact rfl)) rfl rfl ?_ | refine FC.seq ?_ | refine FC.region ?_ | refine FC.block ?_ | refine FC.skip ?_ | refine FC.exit ?_ | refine FL.nil ?_ | refine FE.next ?_ | refine FE.blk_normal ?_ | refine FE.then_exit ?_ | refine FE.blk_hit ?_ | refine FE.blk_miss rfl ?_ | refine FE.then_ret ?_ | refine FE.blk_ret ?_)
      refine FE.again (i := j) (j + 1) ⟨by omega, by rw [List.range_succ]; exact hJ', g1', g2'⟩ (by show parts s k - (j + 1) < parts s k - j; omega) ?_
      rw [show k * (j + 1) = k * j + k from Nat.mul_succ k j]
      exact (by repeat (first | exact SubE.nil | refine SubE.cons _ _ _ rfl ?_))
    · refine ⟨false, rfl, ?_⟩
      repeat (first | refine FL.q (by first | (apply OQ.not; exact rfl) | (apply OQ.move; exact rfl) | (apply OQ.assign; exact rfl) | (apply OQ.len; exact rfl; exact rfl) | (apply OQ.addN; exact rfl; exact rfl; exact (by (try simp only []); omega)) | (apply OQ.lssN; exact rfl; exact rfl)) rfl rfl ?_ | refine FC.seq ?_ | refine FC.region ?_ | refine FC.block ?_ | refine FC.skip ?_ | refine FC.exit ?_ | refine FL.nil ?_ | refine FE.next ?_ | refine FE.blk_normal ?_ | refine FE.then_exit ?_ | refine FE.blk_hit ?_ | refine FE.blk_miss rfl ?_ | refine FE.then_ret ?_ | refine FE.blk_ret ?_)
      refine FC.cond rfl (fun _ => ?_) (fun h => by cases h)
      refine FC.ret ?_
      repeat (first | refine FL.q (by first | (apply OQ.move; exact rfl) | (apply OQ.assign; exact rfl) | (apply OQ.len; exact rfl; exact rfl) | (apply OQ.addN; exact rfl; exact rfl; exact (by (try simp only []); omega)) | (apply OQ.lssN; exact rfl; exact rfl)) rfl rfl ?_ | refine FC.seq ?_ | refine FC.region ?_ | refine FC.block ?_ | refine FC.skip ?_ | refine FC.exit ?_ | refine FL.nil ?_ | refine FE.next ?_ | refine FE.blk_normal ?_ | refine FE.then_exit ?_ | refine FE.blk_hit ?_ | refine FE.blk_miss rfl ?_ | refine FE.then_ret ?_ | refine FE.blk_ret ?_)
      exact FE.ret0 rfl ⟨⟨_, rfl⟩, .inr ⟨_, trivial, hJx'⟩⟩
  · have hjp : j = parts s k := by
      have : ¬ k * j < s.l.length := of_decide_eq_false h
      have := mt (parts_lt (s := s) hk).1 this
      omega
    clear h
    subst hjp
    repeat (first | refine FL.q (by first | (apply OQ.move; exact rfl) | (apply OQ.assign; exact rfl) | (apply OQ.len; exact rfl; exact rfl) | (apply OQ.addN; exact rfl; exact rfl; exact (by (try simp only []); omega)) | (apply OQ.lssN; exact rfl; exact rfl)) rfl rfl ?_ | refine FC.seq ?_ | refine FC.region ?_ | refine FC.block ?_ | refine FC.skip ?_ | refine FC.exit ?_ | refine FL.nil ?_ | refine FE.next ?_ | refine FE.blk_normal ?_ | refine FE.then_exit ?_ | refine FE.blk_hit ?_ | refine FE.blk_miss rfl ?_ | refine FE.then_ret ?_ | refine FE.blk_ret ?_)
    exact FE.end0 rfl ⟨⟨_, rfl⟩, .inl ⟨_, rfl, hJj⟩⟩
end Go.Proofs.Ytdaplnidogkmkaa
