/-
  Of no statement by itself: what despatchlaw02.speaks answers: the document's example is computed.
  Conditions: the theorem's own.
-/
import Derived.Test.YtkegjpohielajaaDoorKdfE
namespace Go.Proofs.YtkegjpohielajaaDoor
open Sl Sha

def prkl : List B := [0xb6, 0x13, 0x67, 0x9a, 0x08, 0x14, 0xd9, 0xec, 0x77, 0x2f, 0x95, 0xd7, 0x78, 0xc3, 0x5f, 0xc5, 0xff, 0x16, 0x97, 0xc4, 0x93, 0x71, 0x56, 0x53, 0xc6, 0xc7, 0x12, 0x14, 0x42, 0x92, 0xc5, 0xad]
def t1l : List B := [0xaf, 0x82, 0x9d, 0x7b, 0xa0, 0xd1, 0x2b, 0x51, 0x2d, 0x34, 0xe7, 0xa7, 0xe6, 0xc2, 0x7b, 0x62, 0x2b, 0x6c, 0x38, 0xb0, 0x5f, 0x7c, 0xc0, 0x2f, 0x36, 0x67, 0x58, 0x59, 0x75, 0xea, 0x72, 0xdf]
def t2l : List B := [0x70, 0xf5, 0x8a, 0x43, 0xf4, 0xce, 0x51, 0x20, 0x0f, 0x62, 0x85, 0xa4, 0xd8, 0xd1, 0xd2, 0x2f, 0xc4, 0x7f, 0x05, 0xd7, 0x97, 0x9c, 0xdb, 0x5b, 0xe5, 0x0e, 0xa5, 0x84, 0x20, 0x68, 0x52, 0xd6]
theorem prk_eq : hmac [] [] = prkl := by kernel_rfl
theorem t1_eq : hmac prkl [97, 1] = t1l := by kernel_rfl
theorem t2_eq : hmac prkl (t1l ++ [97, 2]) = t2l := by kernel_rfl
theorem t12_ne : ¬ t1l = t2l := by decide
def aStr : ByteArray := ⟨#[97]⟩
theorem tk1_eq : tk prkl [97] 1 = t1l := t1_eq
theorem tk2_eq : tk prkl [97] 2 = t2l := by
  have h : tk prkl [97] 2 = hmac prkl (tk prkl [97] 1 ++ [97] ++ [BitVec.ofNat 8 2]) := by rw [tk]
  rw [h, tk1_eq]
  exact t2_eq
theorem bytes_a : bytesOf aStr = [97] := by decide
theorem x1_eq : expd (hmac [] []) (bytesOf aStr) (1 * 32) = t1l := by
  rw [expd, show (1 * 32 + 31) / 32 = 0 + 1 by decide, mk, mk, prk_eq, bytes_a, tk1_eq]
  decide
theorem x2_eq : expd (hmac [] []) (bytesOf aStr) (2 * 32) = t1l ++ t2l := by
  rw [expd, show (2 * 32 + 31) / 32 = 1 + 1 by decide, mk, mk, mk, prk_eq, bytes_a, tk1_eq, tk2_eq]
  decide
theorem row_at {e : TypeId} {a c b : List Value} {j : Nat} (h : a.length = j) : ∀ o, Row e (a ++ c ++ b) o → hasCells o j c := by
  rintro o rfl
  refine ⟨_, _, _, rfl, fun i hi => ?_⟩
  subst h
  simp [List.getElem?_append, hi]
theorem OQ.neA_t {P : Program} {n : Nat} {E : Env} {C : World → Prop} {dst : Option Tmp} {t t' ty e : TypeId} {x y : Operand} {pos : String} {aft : Array Edge} {g : Option (Nat × Bool)} {m : Nat} {r q : List (BitVec 8)} (hu : P.underlying t = some (.array m e)) (he : P.underlying e = some (.int .u8)) (hz : szT P e = some 1) (hgd : P.eqGuardType P.depth t = false) (hx : ev E x = some (.agg (r.map U8).toArray)) (hy : ev E y = some (.agg (q.map U8).toArray)) (hr : r.length = m) (hq : q.length = m) (h : ¬ r = q) :
    OQ P n E C ⟨dst, .binOp .neq t x y t', ty, pos, aft, g⟩ (.bool true) := by
  have := OQ.neA (P := P) (n := n) (E := E) (C := C) (dst := dst) (t' := t') (ty := ty) (pos := pos) (aft := aft) (g := g) hu he hz hgd hx hy hr hq
  rwa [decide_eq_false h] at this
theorem goes_speaks2 : Goes Tryd.prog 20 := ⟨_, Tryd.func20, rfl, by kernel_rfl⟩
def nilS : Sl8 := ⟨none, 0, []⟩
theorem nilS_ok (w : World) : nilS.ok w := ⟨by simp [nilS], Reads.nil _ _⟩

set_option maxHeartbeats 16000000 in
theorem speaks2_any (w : World) (hG : GOk w) : Calls Tryd.prog 20 ([] : List Value).toArray w fun e w' => e = .returned (.bool true) ∧ Ext w w' := by
  refine enter (n := 63) Tryd.func20 rfl rfl rfl (Holds.start w []) ?_
  repeat (first | refine JL.q (by first | (apply OQ.move; exact rfl) | (apply OQ.assign; exact rfl) | (apply OQ.len; exact rfl; exact rfl) | (apply OQ.idxS; exact rfl; exact rfl; exact rfl; exact rfl; exact (by (try simp only []); omega))) rfl ?_ | refine JC.seq ?_ | refine JC.region ?_ | refine JC.block ?_ | refine JC.skip ?_ | refine JC.exit ?_ | refine JL.nil ?_ | refine JE.next ?_ | refine JE.blk_normal ?_ | refine JE.then_exit ?_ | refine JE.blk_hit ?_ | refine JE.blk_miss rfl ?_ | refine JE.then_ret ?_ | refine JE.blk_ret ?_ | refine JC.label ?_ | refine JL.gon rfl rfl ?_ | refine JL.gskip rfl rfl rfl rfl ?_)
  refine JL.q (OQ.pure (v := .agg ((List.replicate 32 (0 : B)).map U8).toArray) rfl rfl (by kernel_rfl)) rfl ?_
  refine JL.callg (ι := { s' : Sl8 // Gave s' [] 0 }) (fun i => .tuple #[i.1.v, N 0]) (fun i => i.1.ents) goes_expand rfl rfl (fun i => Sl8.ents_wr _) (fun w' hw' => (expand_any (List.replicate 32 0) (by simp) nilS 0 (by omega) w' (hG.chg hw'.chg (by simp)) (nilS_ok _) (by simp [nilS])).mono fun e w2 ⟨s', h1, h2, h3⟩ => ⟨⟨s', by rw [show expd (List.replicate 32 0) nilS.l 0 = [] from rfl] at h2; exact h2⟩, h1, h3⟩) ?_
  rintro ⟨⟨ad, cp, l⟩, hs'⟩
  obtain rfl : l = [] := hs'.val
  try dsimp only
  repeat (first | refine JL.q (by first | (apply OQ.extract; exact rfl; exact rfl) | (apply OQ.move; exact rfl) | (apply OQ.assign; exact rfl) | (apply OQ.len; exact rfl; exact rfl) | (apply OQ.idxS; exact rfl; exact rfl; exact rfl; exact rfl; exact (by (try simp only []); omega))) rfl ?_ | refine JC.seq ?_ | refine JC.region ?_ | refine JC.block ?_ | refine JC.skip ?_ | refine JC.exit ?_ | refine JL.nil ?_ | refine JE.next ?_ | refine JE.blk_normal ?_ | refine JE.then_exit ?_ | refine JE.blk_hit ?_ | refine JE.blk_miss rfl ?_ | refine JE.then_ret ?_ | refine JE.blk_ret ?_ | refine JC.label ?_ | refine JL.gon rfl rfl ?_ | refine JL.gskip rfl rfl rfl rfl ?_)
  refine JL.callg (ι := Nat) (fun b => .tuple #[.slice (some ⟨b, 0, none⟩) 1 1, N 0]) (fun b => [⟨b, Row 25 ([] ++ t1l.map U8 ++ []), true⟩]) goes_keys rfl rfl (fun i => by simp) (fun w' hw' => (keys_any nilS nilS aStr 1 (by omega) w' (hG.chg hw'.chg (by simp)) (nilS_ok _) (nilS_ok _) (by simp [nilS]) (by simp [nilS]) (by decide)).mono fun e w2 ⟨b, h1, h2⟩ => ⟨b, h1, by rw [show expd (hmac nilS.l nilS.l) (bytesOf aStr) (1 * 32) = t1l from x1_eq] at h2; rw [List.nil_append, List.append_nil]; exact h2⟩) ?_
  intro bx
  try dsimp only
  repeat (first | refine JL.q (by first | (apply OQ.extract; exact rfl; exact rfl) | (apply OQ.move; exact rfl) | (apply OQ.assign; exact rfl) | (apply OQ.len; exact rfl; exact rfl) | (apply OQ.idxS; exact rfl; exact rfl; exact rfl; exact rfl; exact (by (try simp only []); omega))) rfl ?_ | refine JC.seq ?_ | refine JC.region ?_ | refine JC.block ?_ | refine JC.skip ?_ | refine JC.exit ?_ | refine JL.nil ?_ | refine JE.next ?_ | refine JE.blk_normal ?_ | refine JE.then_exit ?_ | refine JE.blk_hit ?_ | refine JE.blk_miss rfl ?_ | refine JE.then_ret ?_ | refine JE.blk_ret ?_ | refine JC.label ?_ | refine JL.gon rfl rfl ?_ | refine JL.gskip rfl rfl rfl rfl ?_)
  refine JL.callg (ι := Nat) (fun b => .tuple #[.slice (some ⟨b, 0, none⟩) 2 2, N 0]) (fun b => [⟨b, Row 25 (t1l.map U8 ++ t2l.map U8 ++ []), true⟩]) goes_keys rfl rfl (fun i => by simp) (fun w' hw' => (keys_any nilS nilS aStr 2 (by omega) w' (hG.chg hw'.chg (by simp)) (nilS_ok _) (nilS_ok _) (by simp [nilS]) (by simp [nilS]) (by decide)).mono fun e w2 ⟨b, h1, h2⟩ => ⟨b, h1, by rw [show expd (hmac nilS.l nilS.l) (bytesOf aStr) (2 * 32) = t1l ++ t2l from x2_eq, List.map_append] at h2; rw [List.append_nil]; exact h2⟩) ?_
  intro bY
  try dsimp only
  repeat (first | refine JL.q (by first | (apply OQ.extract; exact rfl; exact rfl) | (apply OQ.move; exact rfl) | (apply OQ.assign; exact rfl) | (apply OQ.len; exact rfl; exact rfl) | (apply OQ.idxS; exact rfl; exact rfl; exact rfl; exact rfl; exact (by (try simp only []); omega))) rfl ?_ | refine JC.seq ?_ | refine JC.region ?_ | refine JC.block ?_ | refine JC.skip ?_ | refine JC.exit ?_ | refine JL.nil ?_ | refine JE.next ?_ | refine JE.blk_normal ?_ | refine JE.then_exit ?_ | refine JE.blk_hit ?_ | refine JE.blk_miss rfl ?_ | refine JE.then_ret ?_ | refine JE.blk_ret ?_ | refine JC.label ?_ | refine JL.gon rfl rfl ?_ | refine JL.gskip rfl rfl rfl rfl ?_)
  refine JC.quiet mixed (by kernel_rfl) ?_
  repeat (first | refine JL.q (by first | (apply OQ.eqi_t; exact rfl; exact rfl; exact rfl) | (apply OQ.pick_t; exact rfl; exact rfl) | (apply OQ.idxS; exact Tryd.underlying44; exact s25; exact rfl; exact rfl; exact (by decide)) | (apply OQ.load_agg (cs := t1l.map U8); exact a25; exact s25; exact rfl; exact (.there .here); exact rfl; exact (row_at rfl)) | (apply OQ.load_agg (cs := t1l.map U8); exact a25; exact s25; exact rfl; exact .here; exact rfl; exact (fun o ho => row_at (a := []) rfl o ho)) | (apply OQ.load_agg (cs := t2l.map U8); exact a25; exact s25; exact rfl; exact .here; exact rfl; exact (row_at rfl)) | (apply OQ.eqA_t; exact Tryd.underlying25; exact Tryd.underlying5; exact s5; exact gd25; exact rfl; exact rfl; exact rfl; exact rfl; exact rfl) | (apply OQ.neA_t; exact Tryd.underlying25; exact Tryd.underlying5; exact s5; exact gd25; exact rfl; exact rfl; exact rfl; exact rfl; exact t12_ne) | (apply OQ.move; exact rfl) | (apply OQ.assign; exact rfl) | (apply OQ.len; exact rfl; exact rfl) | (apply OQ.idxS; exact rfl; exact rfl; exact rfl; exact rfl; exact (by (try simp only []); omega))) rfl ?_ | refine JQ.q (by first | (apply OQ.eqi_t; exact rfl; exact rfl; exact rfl) | (apply OQ.pick_t; exact rfl; exact rfl) | (apply OQ.idxS; exact Tryd.underlying44; exact s25; exact rfl; exact rfl; exact (by decide)) | (apply OQ.load_agg (cs := t1l.map U8); exact a25; exact s25; exact rfl; exact (.there .here); exact rfl; exact (row_at rfl)) | (apply OQ.load_agg (cs := t1l.map U8); exact a25; exact s25; exact rfl; exact .here; exact rfl; exact (fun o ho => row_at (a := []) rfl o ho)) | (apply OQ.load_agg (cs := t2l.map U8); exact a25; exact s25; exact rfl; exact .here; exact rfl; exact (row_at rfl)) | (apply OQ.eqA_t; exact Tryd.underlying25; exact Tryd.underlying5; exact s5; exact gd25; exact rfl; exact rfl; exact rfl; exact rfl; exact rfl) | (apply OQ.neA_t; exact Tryd.underlying25; exact Tryd.underlying5; exact s5; exact gd25; exact rfl; exact rfl; exact rfl; exact rfl; exact t12_ne) | (apply OQ.move; exact rfl) | (apply OQ.assign; exact rfl) | (apply OQ.len; exact rfl; exact rfl) | (apply OQ.idxS; exact rfl; exact rfl; exact rfl; exact rfl; exact (by (try simp only []); omega))) rfl ?_ | refine JC.seq ?_ | refine JC.region ?_ | refine JC.block ?_ | refine JC.skip ?_ | refine JC.exit ?_ | refine JL.nil ?_ | refine JQ.nil ?_ | refine JQ.nil_tail ?_ | refine JE.next ?_ | refine JE.blk_normal ?_ | refine JE.then_exit ?_ | refine JE.blk_hit ?_ | refine JE.blk_miss rfl ?_ | refine JE.then_ret ?_ | refine JE.blk_ret ?_ | refine JC.label ?_ | refine JL.gon rfl rfl ?_ | refine JQ.gon rfl rfl ?_ | refine JL.gskip rfl rfl rfl rfl ?_ | refine JQ.gskip rfl rfl rfl rfl ?_)
  exact JC.ret (JE.ret1 rfl (RV.tmp rfl) fun w' hw => ⟨rfl, hw.chg⟩)
end Go.Proofs.YtkegjpohielajaaDoor
