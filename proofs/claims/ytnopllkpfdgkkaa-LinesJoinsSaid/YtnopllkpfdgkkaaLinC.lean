/-
  Of no statement by itself: package bytes: Cut at CR and LF, by the library's contract over any program.
  Conditions: each theorem's own.
-/
import Derived.Test.YtnopllkpfdgkkaaLinB
import Derived.Test.YtnopllkpfdgkkaaLinK
import Derived.Shelf.Bytes.SlCut
namespace Go.Proofs.Ytnopllkpfdgkkaa
open Sl Lin Go.Shelf
def cutRen : Ren := ⟨fun | 4 => 21 | 5 => 28 | 6 => 30 | 7 => 29 | 8 => 31 | 9 => 32 | 10 => 33 | 11 => 34 | 12 => 35 | n => n,
  fun | 22 => 22 | 4 => 4 | 3 => 3 | 0 => 0 | 5 => 5 | 29 => 48 | 9 => 9 | 31 => 50 | 30 => 49 | n => n,
  fun | 0 => 0 | n => n⟩
theorem cutLays : SlLaysT.n4 Try.prog cutRen := {
  mixed := by kernel_rfl
  f4 := Try.func21.trans (congrArg some (by kernel_rfl))
  f5 := Try.func28.trans (congrArg some (by kernel_rfl))
  f6 := Try.func30.trans (congrArg some (by kernel_rfl))
  f7 := Try.func29.trans (congrArg some (by kernel_rfl))
  f8 := Try.func31.trans (congrArg some (by kernel_rfl))
  f9 := Try.func32.trans (congrArg some (by kernel_rfl))
  f10 := Try.func33.trans (congrArg some (by kernel_rfl))
  f11 := Try.func34.trans (congrArg some (by kernel_rfl))
  f12 := Try.func35.trans (congrArg some (by kernel_rfl))
  t0 := Try.underlying0
  a0 := Try.isAgg0
  z0 := Try.sizeOf0
  v0 := Try.zeroValue0
  t3 := Try.underlying3
  a3 := Try.isAgg3
  z3 := Try.sizeOf3
  v3 := Try.zeroValue3
  t4 := Try.underlying4
  a4 := Try.isAgg4
  z4 := Try.sizeOf4
  v4 := Try.zeroValue4
  t5 := Try.underlying5
  a5 := Try.isAgg5
  z5 := Try.sizeOf5
  v5 := Try.zeroValue5
  t9 := Try.underlying9
  a9 := Try.isAgg9
  z9 := Try.sizeOf9
  v9 := Try.zeroValue9
  t22 := Try.underlying22
  a22 := Try.isAgg22
  z22 := Try.sizeOf22
  v22 := Try.zeroValue22
  t29 := Try.underlying48
  a29 := Try.isAgg48
  z29 := Try.sizeOf48
  v29 := Try.zeroValue48
  t30 := Try.underlying49
  a30 := Try.isAgg49
  z30 := Try.sizeOf49
  v30 := Try.zeroValue49
  t31 := Try.underlying50
  a31 := Try.isAgg50
  z31 := Try.sizeOf50
  v31 := Try.zeroValue50
  g0 := by kernel_rfl }
/-- some number stands in the library's variable MaxLen -/
def MaxOk (w : World) : Prop := ∃ m, w.cell? ⟨0, 0, none⟩ = some (.int .i64 m)
theorem MaxOk.ext {w w' : World} (h : MaxOk w) (hx : Ext w w') : MaxOk w' := by
  obtain ⟨m, hm⟩ := h
  refine ⟨m, ?_⟩
  have hlt := block_lt_of_cell hm
  have := hx.block _ hlt (by simp)
  rw [← hm]
  simp only [World.cell?, this]
theorem goes_cut : Goes Try.prog 21 := ⟨_, Try.func21, rfl, by kernel_rfl⟩
def toI (l : List Bt) : List Int := l.map fun c => (c.toNat : Int)
theorem toI_in {s : Sl8} {w : World} (h : s.ok w) : Go.Lib.BytesIn w s.ad s.l.length (toI s.l) := by
  intro h0
  obtain ⟨b, j, h1, h2⟩ := h.reads.at (by simpa using h0)
  refine ⟨b, j, h1, fun i hi => ?_⟩
  rw [h2 i _ (map_at U8 0 hi)]
  unfold toI
  rw [List.getD_eq_getElem?_getD, List.getD_eq_getElem?_getD, List.getElem?_map, List.getElem?_eq_getElem hi]
  rfl
theorem toI_ok (l : List Bt) : ∀ x ∈ toI l, 0 ≤ x ∧ x < 256 := by
  intro x hx
  obtain ⟨c, _, rfl⟩ := List.mem_map.1 hx
  omega
theorem toI_u8 (l : List Bt) : Go.Lib.bytesOf (toI l) = u8L l := by
  unfold Go.Lib.bytesOf toI u8L
  rw [List.map_map]
  refine List.map_congr_left fun c _ => ?_
  show UInt8.ofNat ((c.toNat : Int)).toNat = _
  rw [Int.toNat_natCast]
  apply UInt8.toBitVec_inj.1
  exact BitVec.eq_of_toNat_eq (by simp)
/-- what is cut off ahead of a line's end -/
def Sl8.cut (s : Sl8) (i : Nat) : Sl8 := ⟨s.ad, s.cap, s.l.take i⟩
theorem Sl8.ok.cut {s : Sl8} {w : World} (h : s.ok w) (i : Nat) : (s.cut i).ok w := by
  refine ⟨?_, ?_⟩
  · show (s.l.take i).length ≤ s.cap
    have := h.len
    rw [List.length_take]
    omega
  · show Reads w s.ad ((s.l.take i).map U8)
    rw [List.map_take]
    exact h.reads.take i
theorem cutV_yes (s : Sl8) {i : Nat} (hi : i + 2 ≤ s.l.length) : Go.Lib.cutV s.ad s.l.length s.cap 2 (i : Int) = .tuple #[(s.cut i).v, (s.snd (i + 2)).v, .bool true] := by
  unfold Go.Lib.cutV Go.Lib.fromV
  rw [if_pos (by omega)]
  simp [Sl8.v, Sl8.cut, Sl8.snd, List.length_take, Nat.min_eq_left (by omega : i ≤ s.l.length)]
theorem cutV_no (s : Sl8) : Go.Lib.cutV s.ad s.l.length s.cap 2 (-1) = .tuple #[s.v, nilS.v, .bool false] := by
  unfold Go.Lib.cutV
  rw [if_neg (by omega)]
  rfl
theorem drawn_ext (w : World) (q : Nat) : Ext w (w.drewN q) := ⟨rfl, rfl, rfl, Nat.le_refl _, fun _ _ _ => rfl⟩
theorem cut_raw (s d : Sl8) (w : World) (hs : s.ok w) (hd : d.ok w) (hdl : d.l = [13, 10]) (hl : s.l.length < 4294967281) (hm : MaxOk w) :
    Calls Try.prog 21 [s.v, d.v].toArray w fun e w' => e = .returned (Go.Lib.cutV s.ad s.l.length s.cap 2 (cutI s.l)) ∧ Ext w w' := by
  obtain ⟨m, hm⟩ := hm
  have hd2 : d.l.length = 2 := by rw [hdl]; rfl
  by_cases h0 : s.l.length < 2
  · have hidx : Calls Try.prog (cutRen.f 5) #[.slice s.ad s.l.length s.cap, .slice d.ad 2 d.cap] w fun e w' => e = .returned (.int .i64 (-1)) ∧ ∃ q, w' = w.drewN q :=
      (Any.bytes_Index_longer cutLays.index s.ad d.ad s.l.length s.cap 2 d.cap w (Nat.le_refl _) h0 (by decide)).mono fun e w' ⟨h1, h2⟩ => ⟨h1, 0, h2⟩
    have e1 : cutI s.l = -1 := by
      rcases cutI_spec s.l with h | ⟨i, _, h, _⟩
      · exact h.1
      · omega
    rw [e1]
    have h := Any.bytes_Cut_of cutLays s.ad d.ad s.l.length s.cap 2 d.cap (-1) w hs.len (by omega) (fun h => by omega) (by omega) hidx
    have e2 : d.v = .slice d.ad 2 d.cap := by unfold Sl8.v; rw [hd2]
    rw [e2]
    exact h.mono fun e w' ⟨h1, q, h2⟩ => ⟨h1, h2 ▸ drawn_ext w q⟩
  · have h1 : s.ad = none → s.cap = 0 := fun h => by
      obtain ⟨b, j, h1, _⟩ := hs.reads.at (by simp; omega)
      rw [h] at h1; cases h1
    have h := Any.bytes_Cut_all cutLays s.ad d.ad s.l.length s.cap 2 d.cap (toI s.l) (toI d.l) m w (by unfold toI; rw [List.length_map]) (by unfold toI; rw [List.length_map, hd2]) (toI_ok _) (toI_ok _) (toI_in hs) (hd2 ▸ toI_in hd) h1 hs.len hl (by decide) hm
    rw [toI_u8, toI_u8, hdl] at h
    have e2 : d.v = .slice d.ad 2 d.cap := by unfold Sl8.v; rw [hd2]
    rw [e2]
    exact h.mono fun e w' ⟨h1, q, h2⟩ => ⟨h1, h2 ▸ drawn_ext w q⟩
theorem cut_yes (s d : Sl8) (w : World) (hs : s.ok w) (hd : d.ok w) (hdl : d.l = [13, 10]) (hl : s.l.length < 4294967281) (hm : MaxOk w) {i : Nat} (hi : cutI s.l = i) (h2 : i + 2 ≤ s.l.length) :
    Calls Try.prog 21 [s.v, d.v].toArray w fun e w' => e = .returned (.tuple #[(s.cut i).v, (s.snd (i + 2)).v, .bool true]) ∧ Ext w w' := by
  have := cut_raw s d w hs hd hdl hl hm
  rwa [hi, cutV_yes s h2] at this
theorem cut_no (s d : Sl8) (w : World) (hs : s.ok w) (hd : d.ok w) (hdl : d.l = [13, 10]) (hl : s.l.length < 4294967281) (hm : MaxOk w) (hi : cutI s.l = -1) :
    Calls Try.prog 21 [s.v, d.v].toArray w fun e w' => e = .returned (.tuple #[s.v, nilS.v, .bool false]) ∧ Ext w w' := by
  have := cut_raw s d w hs hd hdl hl hm
  rwa [hi, cutV_no s] at this
end Go.Proofs.Ytnopllkpfdgkkaa
