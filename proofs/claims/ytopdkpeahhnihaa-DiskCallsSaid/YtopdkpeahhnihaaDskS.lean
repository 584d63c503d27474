/-
  Of no statement by itself: a slice of calls to a disk (despatchlaw14.Call) as an argument.
  Conditions: each theorem's own.
-/
import Derived.Test.YtopdkpeahhnihaaDskA
namespace Go.Proofs.Ytopdkpeahhnihaa
set_option maxRecDepth 10000
open Sl Dsk
structure CallS where
  what : Int
  n : Int
  b : Bk
  picks : Sl8
def CallS.cs (c : CallS) : List Value := .int .i64 c.what :: .int .i64 c.n :: (bc c.b ++ [c.picks.v])
structure CallS.ok (w : World) (c : CallS) : Prop where
  b : c.b.length = 64
  picks : c.picks.ok w
structure SlC where
  ad : Option Addr
  cap : Nat
  l : List CallS
def SlC.v (s : SlC) : Value := .slice s.ad s.l.length s.cap
structure SlC.ok (w : World) (s : SlC) : Prop where
  len : s.l.length ≤ s.cap
  reads : Reads w s.ad (s.l.map CallS.cs).flatten
  all : ∀ c ∈ s.l, c.ok w
theorem CallS.ok.len {w : World} {c : CallS} (h : c.ok w) : c.cs.length = 67 := by
  simp [CallS.cs, bc_len h.b]
theorem CallS.one (c : CallS) : c.cs.all Value.oneCell' = true := by
  unfold CallS.cs
  rw [List.all_cons, List.all_cons, List.all_append, bc_cell]
  rfl
def noCall : CallS := ⟨0, 0, [], nilS⟩
theorem SlC.ok.css {w : World} {s : SlC} (h : s.ok w) : ∀ c ∈ s.l.map CallS.cs, c.length = 67 := by
  intro c hc
  obtain ⟨d, hd, rfl⟩ := List.mem_map.1 hc
  exact (h.all d hd).len
/-- the i-th call's cells -/
theorem SlC.ok.at {w : World} {s : SlC} (h : s.ok w) {i : Nat} (hi : i < s.l.length) : ∃ b j, s.ad = some ⟨b, j, none⟩ ∧ b < w.heap.size ∧ ∀ k u, ((s.l.getD i noCall).cs)[k]? = some u → w.cell? ⟨b, j + i * 67 + k, none⟩ = some u := by
  have hl := chunk_len h.css
  rw [List.length_map] at hl
  have h0 : 0 < (s.l.map CallS.cs).flatten.length := by omega
  obtain ⟨b, j, e, hc⟩ := h.reads.at h0
  refine ⟨b, j, e, ?_, fun k u hu => ?_⟩
  · obtain ⟨v, hv⟩ : ∃ v, (s.l.map CallS.cs).flatten[0]? = some v := ⟨_, List.getElem?_eq_getElem h0⟩
    exact block_lt_of_cell (hc 0 v hv)
  · have hat := chunk_at (i := i) h.css (by rw [List.length_map]; exact hi)
    have e2 : (s.l.map CallS.cs).getD i [] = (s.l.getD i noCall).cs := by simp [hi]
    rw [e2] at hat
    rw [← hat, List.getElem?_take] at hu
    split at hu
    · rw [List.getElem?_drop] at hu
      rw [Nat.add_assoc]
      exact hc _ u hu
    · cases hu
theorem SlC.ok.get {w : World} {s : SlC} (h : s.ok w) {i : Nat} (hi : i < s.l.length) : (s.l.getD i noCall).ok w := by
  rw [List.getD_eq_getElem?_getD, List.getElem?_eq_getElem hi]
  exact h.all _ (List.getElem_mem _)
theorem callI : szT Try.prog 35 = some 67 := by kernel_rfl
theorem callAg : aggT Try.prog 35 = true := by kernel_rfl
theorem callZ : zc Try.prog 35 = some (.int .i64 0 :: .int .i64 0 :: (List.replicate 64 (.int .u8 0) ++ [.slice none 0 0])) := by kernel_rfl
theorem s8C : scal Try.prog 33 = true := by kernel_rfl
theorem cs_b (c : CallS) : (c.cs.drop 2).take (bc c.b).length = bc c.b := by
  unfold CallS.cs
  simp
theorem cs_p {c : CallS} {w : World} (h : c.ok w) : c.cs[66]? = some c.picks.v := by
  unfold CallS.cs
  rw [List.getElem?_cons_succ, List.getElem?_cons_succ, List.getElem?_append_right (by rw [bc_len h.b]; decide), bc_len h.b]
  rfl
end Go.Proofs.Ytopdkpeahhnihaa
