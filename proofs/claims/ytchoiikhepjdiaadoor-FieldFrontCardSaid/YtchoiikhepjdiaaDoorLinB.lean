/-
  Of no statement by itself: package bytes: Equal, HasPrefix, HasSuffix, TrimPrefix, Clone.
  Conditions: each theorem's own.
-/
import Derived.Test.YtchoiikhepjdiaaDoorTyp
import Derived.Test.YtchoiikhepjdiaaDoorSlac
import Derived.Laws.Cover3
namespace Go.Proofs.YtchoiikhepjdiaaDoor
set_option maxRecDepth 10000
open Sl
theorem goes_equal : Goes Tryd.prog 132 := ⟨_, Tryd.func132, rfl, by kernel_rfl⟩
theorem goes_suf : Goes Tryd.prog 112 := ⟨_, Tryd.func112, rfl, by kernel_rfl⟩
def preB (s d : List Bt) : Bool := decide ((d.length : Int) ≤ (s.length : Int)) && decide (s.take d.length = d)
def sufB (s d : List Bt) : Bool := decide ((d.length : Int) ≤ (s.length : Int)) && decide (s.drop (s.length - d.length) = d)
theorem OQ.isNil {P : Program} {n : Nat} {E : Env} {C : World → Prop} {dst : Option Tmp} {t t' ty e : TypeId} {pos : String} {aft : Array Edge} {g : Option (Nat × Bool)} {x y : Operand} {ad : Option Addr} {k cap : Nat} (hu : P.underlying t = some (.slice e)) (hx : ev E x = some (.slice ad k cap)) (hy : ev E y = some (.slice none 0 0)) :
    OQ P n E C ⟨dst, .binOp .eql t x y t', ty, pos, aft, g⟩ (.bool ad.isNone) :=
  OQ.run fun c ha w _ => by
    have h1 := ha.eval hx
    have h2 := ha.eval hy
    have h4 : (binOp .eql t (.slice ad k cap) (.slice none 0 0)).run P w = .ok (.bool ad.isNone) w := by
      show (do pure (.bool (← Op.equal t (.slice ad k cap) (.slice none 0 0))) : Sem Value).run P w = _
      simp [Sem.run_bind, run_equal_slice_nil w t e ad k cap hu]
    simp [execOp, h1, h2, eqGuard, h4]
set_option maxHeartbeats 2000000 in
theorem equal_any (a b : Sl8) (w : World) (ha : a.ok w) (hb : b.ok w) : Calls Tryd.prog 132 [a.v, b.v].toArray w fun e w' => e = .returned (.bool (decide (a.l = b.l))) ∧ Ext w w' := by
  refine enter (n := 10) Tryd.func132 rfl rfl rfl (Holds.start w []) ?_
  repeat (first | refine JL.q (by first | (apply OQ.b2s (s := a); exact Tryd.underlying25; exact Tryd.underlying5; exact Tryd.underlying9; exact rfl; exact (fun w' hw' => ha.holds hw' rfl)) | (apply OQ.b2s (s := b); exact Tryd.underlying25; exact Tryd.underlying5; exact Tryd.underlying9; exact rfl; exact (fun w' hw' => hb.holds hw' rfl)) | (apply OQ.eqS; exact rfl; exact rfl) | (apply OQ.move; exact rfl) | (apply OQ.assign; exact rfl) | (apply OQ.len; exact rfl; exact rfl) | (apply OQ.subN; exact rfl; exact rfl; exact (by (try simp only []); omega); exact (by (try simp only []); omega))) rfl ?_ | refine JC.seq ?_ | refine JC.region ?_ | refine JC.block ?_ | refine JC.skip ?_ | refine JC.exit ?_ | refine JL.nil ?_ | refine JE.next ?_ | refine JE.blk_normal ?_ | refine JE.then_exit ?_ | refine JE.blk_hit ?_ | refine JE.blk_miss rfl ?_ | refine JE.then_ret ?_ | refine JE.blk_ret ?_ | refine JC.label ?_ | refine JL.gon rfl rfl ?_ | refine JL.gskip rfl rfl rfl rfl ?_ | refine JL.gskipU rfl rfl rfl rfl ?_)
  exact JC.ret (JE.ret1 rfl (RV.tmp rfl) fun w' hw => ⟨rfl, hw.chg⟩)
set_option maxHeartbeats 4000000 in
theorem suf_any (s d : Sl8) (w : World) (hs : s.ok w) (hd : d.ok w) (hl : s.l.length ≤ 4611686018427387904) : Calls Tryd.prog 112 [s.v, d.v].toArray w fun e w' => e = .returned (.bool (sufB s.l d.l)) ∧ Ext w w' := by
  refine enter (n := 21) Tryd.func112 rfl rfl rfl (Holds.start w []) ?_
  unfold sufB
  cases h : decide ((d.l.length : Int) ≤ (s.l.length : Int))
  · repeat (first | refine JL.q (by first | (apply OQ.geqB; exact rfl; exact rfl; exact h) | (apply OQ.pick_f; exact rfl; exact rfl) | (apply OQ.move; exact rfl) | (apply OQ.assign; exact rfl) | (apply OQ.len; exact rfl; exact rfl) | (apply OQ.subN; exact rfl; exact rfl; exact (by (try simp only []); omega); exact (by (try simp only []); omega))) rfl ?_ | refine JC.seq ?_ | refine JC.region ?_ | refine JC.block ?_ | refine JC.skip ?_ | refine JC.exit ?_ | refine JL.nil ?_ | refine JE.next ?_ | refine JE.blk_normal ?_ | refine JE.then_exit ?_ | refine JE.blk_hit ?_ | refine JE.blk_miss rfl ?_ | refine JE.then_ret ?_ | refine JE.blk_ret ?_ | refine JC.label ?_ | refine JL.gon rfl rfl ?_ | refine JL.gskip rfl rfl rfl rfl ?_ | refine JL.gskipU rfl rfl rfl rfl ?_)
    exact JC.ret (JE.ret1 rfl (RV.tmp rfl) fun w' hw => ⟨rfl, hw.chg⟩)
  · have hle : d.l.length ≤ s.l.length := by have := of_decide_eq_true h; omega
    have hsub : s.l.length - d.l.length ≤ s.l.length := Nat.sub_le _ _
    repeat (first | refine JL.q (by first | (apply OQ.geqB; exact rfl; exact rfl; exact h) | (apply OQ.snd (s := s); exact Tryd.underlying25; exact u8s; exact rfl; exact rfl; exact hsub) | (apply OQ.callx (vs := [(s.snd (s.l.length - d.l.length)).v, d.v]); exact goes_equal; exact rfl; exact (fun w' hw' => equal_any (s.snd (s.l.length - d.l.length)) d w' ((hs.holds hw' rfl).snd _ hsub) (hd.holds hw' rfl))) | (apply OQ.pick_t; exact rfl; exact rfl) | (apply OQ.move; exact rfl) | (apply OQ.assign; exact rfl) | (apply OQ.len; exact rfl; exact rfl) | (apply OQ.subN; exact rfl; exact rfl; exact (by (try simp only []); omega); exact (by (try simp only []); omega))) rfl ?_ | refine JC.seq ?_ | refine JC.region ?_ | refine JC.block ?_ | refine JC.skip ?_ | refine JC.exit ?_ | refine JL.nil ?_ | refine JE.next ?_ | refine JE.blk_normal ?_ | refine JE.then_exit ?_ | refine JE.blk_hit ?_ | refine JE.blk_miss rfl ?_ | refine JE.then_ret ?_ | refine JE.blk_ret ?_ | refine JC.label ?_ | refine JL.gon rfl rfl ?_ | refine JL.gskip rfl rfl rfl rfl ?_ | refine JL.gskipU rfl rfl rfl rfl ?_)
    exact JC.ret (JE.ret1 rfl (RV.tmp rfl) fun w' hw => ⟨rfl, hw.chg⟩)
theorem goes_clone : Goes Tryd.prog 50 := ⟨_, Tryd.func50, rfl, by kernel_rfl⟩
set_option maxHeartbeats 4000000 in
theorem clone_any (s : Sl8) (w : World) (hs : s.ok w) (hl : s.l.length ≤ 4294967296) : Calls Tryd.prog 50 [s.v].toArray w fun e w' => ∃ q : Acc, e = .returned (accV q s.l.length) ∧ (q = none → s.l = []) ∧ Holds w [] (accE 5 q (s.l.map U8)) w' := by
  refine enter (n := 8) Tryd.func50 rfl rfl rfl (Holds.start w []) ?_
  obtain ⟨ad, cap, l⟩ := s
  cases ad with
  | none =>
    have h0 : l = [] := by
      cases l with
      | nil => rfl
      | cons c l =>
        obtain ⟨b, j, h1, _⟩ := hs.reads.at (by simp)
        cases h1
    repeat (first | refine JL.q (by first | (apply OQ.isNil; exact Tryd.underlying25; exact rfl; exact rfl) | (apply OQ.move; exact rfl) | (apply OQ.assign; exact rfl) | (apply OQ.len; exact rfl; exact rfl) | (apply OQ.subN; exact rfl; exact rfl; exact (by (try simp only []); omega); exact (by (try simp only []); omega))) rfl ?_ | refine JC.seq ?_ | refine JC.region ?_ | refine JC.block ?_ | refine JC.skip ?_ | refine JC.exit ?_ | refine JL.nil ?_ | refine JE.next ?_ | refine JE.blk_normal ?_ | refine JE.then_exit ?_ | refine JE.blk_hit ?_ | refine JE.blk_miss rfl ?_ | refine JE.then_ret ?_ | refine JE.blk_ret ?_ | refine JC.label ?_ | refine JL.gon rfl rfl ?_ | refine JL.gskip rfl rfl rfl rfl ?_ | refine JL.gskipU rfl rfl rfl rfl ?_)
    refine JC.cond_true rfl rfl ?_
    repeat (first | refine JL.q (by first | (apply OQ.move; exact rfl) | (apply OQ.assign; exact rfl) | (apply OQ.len; exact rfl; exact rfl) | (apply OQ.subN; exact rfl; exact rfl; exact (by (try simp only []); omega); exact (by (try simp only []); omega))) rfl ?_ | refine JC.seq ?_ | refine JC.region ?_ | refine JC.block ?_ | refine JC.skip ?_ | refine JC.exit ?_ | refine JL.nil ?_ | refine JE.next ?_ | refine JE.blk_normal ?_ | refine JE.then_exit ?_ | refine JE.blk_hit ?_ | refine JE.blk_miss rfl ?_ | refine JE.then_ret ?_ | refine JE.blk_ret ?_ | refine JC.label ?_ | refine JL.gon rfl rfl ?_ | refine JL.gskip rfl rfl rfl rfl ?_ | refine JL.gskipU rfl rfl rfl rfl ?_)
    refine JC.ret ?_
    repeat (first | refine JL.q (by first | (apply OQ.move; exact rfl) | (apply OQ.assign; exact rfl) | (apply OQ.len; exact rfl; exact rfl) | (apply OQ.subN; exact rfl; exact rfl; exact (by (try simp only []); omega); exact (by (try simp only []); omega))) rfl ?_ | refine JC.seq ?_ | refine JC.region ?_ | refine JC.block ?_ | refine JC.skip ?_ | refine JC.exit ?_ | refine JL.nil ?_ | refine JE.next ?_ | refine JE.blk_normal ?_ | refine JE.then_exit ?_ | refine JE.blk_hit ?_ | refine JE.blk_miss rfl ?_ | refine JE.then_ret ?_ | refine JE.blk_ret ?_ | refine JC.label ?_ | refine JL.gon rfl rfl ?_ | refine JL.gskip rfl rfl rfl rfl ?_ | refine JL.gskipU rfl rfl rfl rfl ?_)
    exact JE.ret1 rfl (RV.tmp rfl) fun w' hw => ⟨none, rfl, fun _ => h0, hw⟩
  | some ad =>
    repeat (first | refine JL.q (by first | (apply OQ.isNil; exact Tryd.underlying25; exact rfl; exact rfl) | (apply OQ.move; exact rfl) | (apply OQ.assign; exact rfl) | (apply OQ.len; exact rfl; exact rfl) | (apply OQ.subN; exact rfl; exact rfl; exact (by (try simp only []); omega); exact (by (try simp only []); omega))) rfl ?_ | refine JC.seq ?_ | refine JC.region ?_ | refine JC.block ?_ | refine JC.skip ?_ | refine JC.exit ?_ | refine JL.nil ?_ | refine JE.next ?_ | refine JE.blk_normal ?_ | refine JE.then_exit ?_ | refine JE.blk_hit ?_ | refine JE.blk_miss rfl ?_ | refine JE.then_ret ?_ | refine JE.blk_ret ?_ | refine JC.label ?_ | refine JL.gon rfl rfl ?_ | refine JL.gskip rfl rfl rfl rfl ?_ | refine JL.gskipU rfl rfl rfl rfl ?_)
    refine JC.cond_false rfl rfl ?_
    repeat (first | refine JL.q (by first | (apply OQ.move; exact rfl) | (apply OQ.assign; exact rfl) | (apply OQ.len; exact rfl; exact rfl) | (apply OQ.subN; exact rfl; exact rfl; exact (by (try simp only []); omega); exact (by (try simp only []); omega))) rfl ?_ | refine JC.seq ?_ | refine JC.region ?_ | refine JC.block ?_ | refine JC.skip ?_ | refine JC.exit ?_ | refine JL.nil ?_ | refine JE.next ?_ | refine JE.blk_normal ?_ | refine JE.then_exit ?_ | refine JE.blk_hit ?_ | refine JE.blk_miss rfl ?_ | refine JE.then_ret ?_ | refine JE.blk_ret ?_ | refine JC.label ?_ | refine JL.gon rfl rfl ?_ | refine JL.gskip rfl rfl rfl rfl ?_ | refine JL.gskipU rfl rfl rfl rfl ?_)
    refine JL.lit0O Tryd.underlying25 u8e rfl fun b0 _ => ?_
    repeat (first | refine JL.q (by first | (apply OQ.move; exact rfl) | (apply OQ.assign; exact rfl) | (apply OQ.len; exact rfl; exact rfl) | (apply OQ.subN; exact rfl; exact rfl; exact (by (try simp only []); omega); exact (by (try simp only []); omega))) rfl ?_ | refine JC.seq ?_ | refine JC.region ?_ | refine JC.block ?_ | refine JC.skip ?_ | refine JC.exit ?_ | refine JL.nil ?_ | refine JE.next ?_ | refine JE.blk_normal ?_ | refine JE.then_exit ?_ | refine JE.blk_hit ?_ | refine JE.blk_miss rfl ?_ | refine JE.then_ret ?_ | refine JE.blk_ret ?_ | refine JC.label ?_ | refine JL.gon rfl rfl ?_ | refine JL.gskip rfl rfl rfl rfl ?_ | refine JL.gskipU rfl rfl rfl rfl ?_)
    refine JL.append (cs := l.map U8) (m := l.length) (ad := some ad) (sc := cap) (xs := []) (fun b' cap' => [⟨b', Own 5 1 (0 + l.length) cap' ([] ++ l.map U8), true⟩]) Tryd.underlying25 u8e rfl rfl (by intro _ _; repeat (first | exact Repl.here | apply Repl.there)) (by simp) (fun w' hw' => (hs.holds hw' rfl).reads) (all8U _) rfl (by decide) (by simp only [] at hl; omega) (by simp only [] at hl; omega) rfl fun b1 cap1 => ?_
    rw [Nat.zero_add, List.nil_append]
    repeat (first | refine JL.q (by first | (apply OQ.move; exact rfl) | (apply OQ.assign; exact rfl) | (apply OQ.len; exact rfl; exact rfl) | (apply OQ.subN; exact rfl; exact rfl; exact (by (try simp only []); omega); exact (by (try simp only []); omega))) rfl ?_ | refine JC.seq ?_ | refine JC.region ?_ | refine JC.block ?_ | refine JC.skip ?_ | refine JC.exit ?_ | refine JL.nil ?_ | refine JE.next ?_ | refine JE.blk_normal ?_ | refine JE.then_exit ?_ | refine JE.blk_hit ?_ | refine JE.blk_miss rfl ?_ | refine JE.then_ret ?_ | refine JE.blk_ret ?_ | refine JC.label ?_ | refine JL.gon rfl rfl ?_ | refine JL.gskip rfl rfl rfl rfl ?_ | refine JL.gskipU rfl rfl rfl rfl ?_)
    refine JC.ret (JE.ret1 rfl (RV.tmp rfl) fun w' hw => ⟨some (b1, cap1), rfl, (fun h => by cases h), ?_⟩)
    show Holds w [] [⟨b1, Own 5 1 (l.map U8).length cap1 (l.map U8), true⟩] w'
    rw [List.length_map]
    exact hw
end Go.Proofs.YtchoiikhepjdiaaDoor
