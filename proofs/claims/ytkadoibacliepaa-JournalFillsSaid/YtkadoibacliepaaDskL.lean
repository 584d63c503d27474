/-
  Of no statement by itself: what despatchlaw14's DiskTorn gives.
  Conditions: each theorem's own.
-/
import Derived.Test.YtkadoibacliepaaDskE
namespace Go.Proofs.Ytkadoibacliepaa
set_option maxRecDepth 10000
open Sl Dsk
def b78 : Bk := 7#8 :: 8#8 :: List.replicate 62 0
def b7 : Bk := 7#8 :: List.replicate 63 0
theorem newB_len (n : Nat) : (newB n).length = n := List.length_replicate
theorem speaks_crash : old (crash [5#8] ((newB 2).set 1 b78) (wrote (newB 2) [] 1)) 1 = b7 := by
  rw [crash_one (by decide)]
  rfl
theorem OQ.buildB78 {n : Nat} {E : Env} {C : World → Prop} {dst : Option Tmp} {ty : TypeId} {pos : String} {aft : Array Edge} {g : Option (Nat × Bool)} : OQ Try.prog n E C ⟨dst, .build 83 #[(0, .const (.int .u8 7)), (1, .const (.int .u8 8))], ty, pos, aft, g⟩ (.agg (bc b78).toArray) := OQ.pure rfl rfl (by kernel_rfl)
theorem OQ.buildB7 {n : Nat} {E : Env} {C : World → Prop} {dst : Option Tmp} {ty : TypeId} {pos : String} {aft : Array Edge} {g : Option (Nat × Bool)} : OQ Try.prog n E C ⟨dst, .build 83 #[(0, .const (.int .u8 7))], ty, pos, aft, g⟩ (.agg (bc b7).toArray) := OQ.pure rfl rfl (by kernel_rfl)
theorem drop1 {w0 w : World} {S : List Nat} {e : Ent} {M : List Ent} (h : Holds w0 S (e :: M) w) : Holds w0 S M w := h.weak (.drop _ _ _ (Less.refl _))
/-- bytes of a literal -/
theorem lit_away {w0 w : World} {S : List Nat} {X M : List Ent} {b cap : Nat} {e : TypeId} {l : List Bt} {wr : Bool} (hw : Holds w0 S (X ++ M) w) (hM : Has M b (Row e (l.map U8)) wr) (hc : l.length ≤ cap) : Sl8.ok w ⟨some ⟨b, 0, none⟩, cap, l⟩ ∧ Away ⟨some ⟨b, 0, none⟩, cap, l⟩ (keys X) :=
  ⟨row_ok (hw.weak (less_post _ _)) hM rfl hc, fun _ a ha => by cases ha; exact away_has hw hM⟩
end Go.Proofs.Ytkadoibacliepaa
