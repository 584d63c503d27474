/-
  Of no statement by itself: what Turn and the reference's Turn give, once more; the two parts of a cut slice.
  Conditions: each theorem's own.
-/
import Derived.Test.YtheemnpfnefbmaaDoorStrU
import Derived.Test.YtheemnpfnefbmaaDoorSame
namespace Go.Proofs.YtheemnpfnefbmaaDoor
open Sl Sha Str

theorem turnO_any (key : List B) (ctr : W) (nonce : List B) (s : Sl8) {va : Value} (hva : s.v = va) (hk : key.length = 32) (hn : nonce.length = 12) (w : World) (hQ : GQ w) (hs : s.ok w) (hsl : s.l.length < 140737488355328) :
    Calls Tryd.prog 17 [.agg (key.map U8).toArray, U32 ctr, .agg (nonce.map U8).toArray, va].toArray w fun e w' => ∃ b, e = .returned (.slice (some ⟨b, 0, none⟩) s.l.length s.l.length) ∧ Holds w [] [⟨b, Own 5 1 s.l.length s.l.length ((turn key ctr nonce s.l).map U8), true⟩] w' := by
  subst hva
  exact (turn_any' key ctr nonce s hk hn w hQ hs hsl).mono fun e w' ⟨b, h1, h2⟩ => ⟨b, h1, h2.weak (.keep _ _ _ _ _ _ (row_own (by simp [turn_length])) (Less.nil _))⟩
theorem rturnO_any (key : List B) (ctr : W) (nonce : List B) (s : Sl8) {va : Value} (hva : s.v = va) (hk : key.length = 32) (hn : nonce.length = 12) (w : World) (hs : s.ok w) (hsl : s.l.length < 35184372088832) :
    Calls Tryd.prog 18 [.agg (key.map U8).toArray, U32 ctr, .agg (nonce.map U8).toArray, va].toArray w fun e w' => ∃ x : Nat × Nat, e = .returned (.slice (some ⟨x.1, 0, none⟩) s.l.length x.2) ∧ Holds w [] [⟨x.1, Own 5 1 s.l.length x.2 ((turn key ctr nonce s.l).map U8), true⟩] w' := by
  subst hva
  exact rturn_any key ctr nonce s hk hn w hs hsl
theorem OQ.to {P : Program} {n : Nat} {E : Env} {C : World → Prop} {o : Oper} {v v' : Value} (h : OQ P n E C o v) (e : v = v') : OQ P n E C o v' := e ▸ h
def Sl8.fst (s : Sl8) (m : Nat) : Sl8 := ⟨if s.cap = 0 then s.ad else s.ad.map (·.add 0), s.cap, s.l.take m⟩
def Sl8.snd (s : Sl8) (m : Nat) : Sl8 := ⟨if s.cap = m then s.ad else s.ad.map (·.add (m * 1)), s.cap - m, s.l.drop m⟩
theorem Sl8.ok.fst {s : Sl8} {w : World} (h : s.ok w) (m : Nat) : (s.fst m).ok w := by
  refine ⟨by show (s.l.take m).length ≤ s.cap; have := h.len; rw [List.length_take]; omega, ?_⟩
  show Reads w _ ((s.l.take m).map U8)
  by_cases h0 : s.l = []
  · rw [h0]; simpa using Reads.nil _ _
  · obtain ⟨b, j, hae, _⟩ := h.reads.at (by simpa using List.length_pos_iff.2 h0)
    have h1 := h.reads.take m
    rw [← List.map_take] at h1
    have h2 : (s.fst m).ad = s.ad := by
      show (if s.cap = 0 then s.ad else s.ad.map (·.add 0)) = s.ad
      rw [hae]
      split <;> simp [Addr.add]
    rw [h2]
    exact h1
theorem Sl8.ok.snd {s : Sl8} {w : World} (h : s.ok w) (m : Nat) (hm : m ≤ s.l.length) : (s.snd m).ok w := by
  refine ⟨by show (s.l.drop m).length ≤ s.cap - m; have := h.len; rw [List.length_drop]; omega, ?_⟩
  have := h.reads.drop (len := s.l.length) (cap := s.cap) (lo := m) (by simp) h.len hm
  rwa [← List.map_drop] at this
theorem Sl8.fst_v (s : Sl8) (m : Nat) (hm : m ≤ s.l.length) : .slice (if s.cap = 0 then s.ad else s.ad.map (·.add 0)) m s.cap = (s.fst m).v := by simp [Sl8.v, Sl8.fst, Nat.min_eq_left hm]
theorem Sl8.snd_v (s : Sl8) (m : Nat) : .slice (if s.cap = m then s.ad else s.ad.map (·.add (m * 1))) (s.l.length - m) (s.cap - m) = (s.snd m).v := by simp [Sl8.v, Sl8.snd]
end Go.Proofs.YtheemnpfnefbmaaDoor
