/-
  Of no statement by itself: what a journal's blocks tell, by definition: marks, parts, records, a half; that what is written is told again.
  Conditions: each theorem's own.
-/
import Derived.Test.YtkadoibacliepaaDskP
namespace Go.Proofs.Ytkadoibacliepaa
namespace Jrn
open Dsk
abbrev Mk := BitVec 32 × BitVec 32 × BitVec 16 × Bool
def num32 (l : Bk) : BitVec 32 := l.foldl (fun (n : BitVec 32) (c : BitVec 8) => (n <<< 8) ||| c.setWidth 32) 0
def numB (l : Bk) : Nat := l.foldl (fun (n : Nat) (c : BitVec 8) => 256 * n + c.toNat) 0
def be (n : BitVec 32) (size : Nat) : Bk := (List.range size).map fun i => (n >>> (8 * (size - 1 - i))).setWidth 8
def placeIn (b : Bk) : BitVec 16 := (num32 ((b.drop 8).take 2)).setWidth 16
def markIn (b : Bk) : Mk := (num32 (b.take 4), num32 ((b.drop 4).take 4), placeIn b % 32768#16, decide (32768 ≤ (placeIn b).toNat))
def plc (m : Mk) : BitVec 32 := if m.2.2.2 then m.2.2.1.setWidth 32 + 32768#32 else m.2.2.1.setWidth 32
def mb (m : Mk) : Bk := be m.1 4 ++ be m.2.1 4 ++ be (plc m) 2
def blockOf (m : Mk) (part : Bk) : Bk := mb m ++ be (BitVec.ofNat 32 part.length) 2 ++ part ++ List.replicate (42 - part.length) 0 ++ mb m
def cnt (b : Bk) : Nat := (num32 ((b.drop 10).take 2)).toNat
def wholeB (b : Bk) : Bool := decide (markIn b = markIn (b.drop 54)) && (decide (cnt b ≤ 42) && (decide (cnt b = 42) || (markIn b).2.2.2))
def partOf (b : Bk) : Bk := (b.drop 12).take (cnt b)

theorem or_shift {n : BitVec 32} {c : BitVec 8} (h : n.toNat < 16777216) : ((n <<< 8) ||| c.setWidth 32).toNat = 256 * n.toNat + c.toNat := by
  rw [BitVec.toNat_or, BitVec.toNat_shiftLeft, BitVec.toNat_setWidth]
  have hc := c.isLt
  rw [Nat.mod_eq_of_lt (by omega : c.toNat < 2 ^ 32), Nat.shiftLeft_eq, Nat.mod_eq_of_lt (by omega)]
  have := Nat.two_pow_add_eq_or_of_lt (i := 8) (b := c.toNat) hc n.toNat
  rw [Nat.mul_comm n.toNat (2 ^ 8), ← this]
theorem num_fold : ∀ (l : Bk) (n : BitVec 32) (k : Nat), n.toNat < 256 ^ k → k + l.length ≤ 4 → (l.foldl (fun (n : BitVec 32) (c : BitVec 8) => (n <<< 8) ||| c.setWidth 32) n).toNat = l.foldl (fun (n : Nat) (c : BitVec 8) => 256 * n + c.toNat) n.toNat ∧ l.foldl (fun (n : Nat) (c : BitVec 8) => 256 * n + c.toNat) n.toNat < 256 ^ (k + l.length)
  | [], n, k, h, _ => ⟨rfl, h⟩
  | c :: l, n, k, h, hl => by
    simp only [List.length_cons] at hl
    have hk : 256 ^ k ≤ 256 ^ 3 := Nat.pow_le_pow_right (by decide) (by omega)
    have hs := or_shift (n := n) (c := c) (by omega)
    have hc := c.isLt
    have hlt : ((n <<< 8) ||| c.setWidth 32).toNat < 256 ^ (k + 1) := by rw [hs, Nat.pow_succ]; omega
    have ih := num_fold l _ (k + 1) hlt (by omega)
    simp only [List.foldl_cons]
    rw [hs] at ih
    refine ⟨ih.1, ?_⟩
    have := ih.2
    simp only [List.length_cons]
    rwa [show k + (l.length + 1) = k + 1 + l.length by omega]
theorem num_toNat {l : Bk} (h : l.length ≤ 4) : (num32 l).toNat = numB l := (num_fold l 0 0 (by decide) (by omega)).1
theorem numB_lt {l : Bk} (h : l.length ≤ 4) : numB l < 256 ^ l.length := by
  have := (num_fold l 0 0 (by decide) (by omega)).2
  rwa [Nat.zero_add] at this
theorem be_len (n : BitVec 32) (s : Nat) : (be n s).length = s := by simp [be]
theorem be4 (n : BitVec 32) : numB (be n 4) = n.toNat := by
  have h := n.isLt
  have e : be n 4 = [(n >>> 24).setWidth 8, (n >>> 16).setWidth 8, (n >>> 8).setWidth 8, (n >>> 0).setWidth 8] := rfl
  rw [e]
  simp only [numB, List.foldl_cons, List.foldl_nil, BitVec.toNat_setWidth, BitVec.toNat_ushiftRight, Nat.shiftRight_eq_div_pow]
  omega
theorem be2 (n : BitVec 32) : numB (be n 2) = n.toNat % 65536 := by
  have e : be n 2 = [(n >>> 8).setWidth 8, (n >>> 0).setWidth 8] := rfl
  rw [e]
  simp only [numB, List.foldl_cons, List.foldl_nil, BitVec.toNat_setWidth, BitVec.toNat_ushiftRight, Nat.shiftRight_eq_div_pow]
  omega
theorem num_be4 (n : BitVec 32) : num32 (be n 4) = n := BitVec.eq_of_toNat_eq (by rw [num_toNat (by rw [be_len]; decide), be4])
theorem num_be2 (n : BitVec 32) : (num32 (be n 2)).toNat = n.toNat % 65536 := by rw [num_toNat (by rw [be_len]; decide), be2]
theorem mb_len (m : Mk) : (mb m).length = 10 := by simp [mb, be_len]
theorem block_len {m : Mk} {part : Bk} (h : part.length ≤ 42) : (blockOf m part).length = 64 := by
  simp only [blockOf, List.length_append, mb_len, be_len, List.length_replicate]
  omega
/-- a mark that may be -/
def okM (m : Mk) : Prop := m.2.2.1.toNat < 32768
theorem mark_mb {m : Mk} (h : okM m) (r : Bk) : markIn (mb m ++ r) = m := by
  obtain ⟨g, n, p, l⟩ := m
  have hp : p.toNat < 32768 := h
  have e1 : (mb (g, n, p, l) ++ r).take 4 = be g 4 := by simp [mb, List.append_assoc, List.take_append, be_len]
  have e2 : ((mb (g, n, p, l) ++ r).drop 4).take 4 = be n 4 := by simp [mb, List.append_assoc, List.drop_append, List.take_append, be_len, List.drop_eq_nil_of_le]
  have e3 : ((mb (g, n, p, l) ++ r).drop 8).take 2 = be (plc (g, n, p, l)) 2 := by simp [mb, List.append_assoc, List.drop_append, List.take_append, be_len, List.drop_eq_nil_of_le]
  have e4 : placeIn (mb (g, n, p, l) ++ r) = (num32 (be (plc (g, n, p, l)) 2)).setWidth 16 := by unfold placeIn; rw [e3]
  have hpl : (plc (g, n, p, l)).toNat = if l then p.toNat + 32768 else p.toNat := by
    unfold plc
    cases l
    · simp only [Bool.false_eq_true, if_false, BitVec.toNat_setWidth]
      omega
    · simp only [if_true, BitVec.toNat_add, BitVec.toNat_setWidth]
      rw [show (32768#32).toNat = 32768 from rfl]
      omega
  have e5 : (placeIn (mb (g, n, p, l) ++ r)).toNat = if l then p.toNat + 32768 else p.toNat := by
    rw [e4, BitVec.toNat_setWidth, num_be2, hpl]
    cases l
    · simp only [Bool.false_eq_true, if_false]; omega
    · simp only [if_true]; omega
  unfold markIn
  rw [e1, e2, num_be4, num_be4, e5]
  have e6 : placeIn (mb (g, n, p, l) ++ r) % 32768#16 = p := by
    apply BitVec.eq_of_toNat_eq
    rw [BitVec.toNat_umod, e5, show (32768#16).toNat = 32768 from rfl]
    cases l
    · simp only [Bool.false_eq_true, if_false]; omega
    · simp only [if_true]; omega
  rw [e6]
  cases l
  · simp only [Bool.false_eq_true, if_false]
    rw [decide_eq_false (by omega)]
  · simp only [if_true]
    rw [decide_eq_true (by omega)]
theorem block_mark {m : Mk} (h : okM m) (part : Bk) : markIn (blockOf m part) = m := by
  unfold blockOf
  simp only [List.append_assoc]
  exact mark_mb h _
theorem block_back {m : Mk} (h : okM m) {part : Bk} (hp : part.length ≤ 42) : markIn ((blockOf m part).drop 54) = m := by
  have e : (blockOf m part).drop 54 = mb m ++ [] := by
    unfold blockOf
    rw [List.drop_append, List.drop_eq_nil_of_le (by simp only [List.length_append, mb_len, be_len, List.length_replicate]; omega)]
    simp only [List.length_append, mb_len, be_len, List.length_replicate]
    rw [show 54 - (10 + 2 + part.length + (42 - part.length)) = 0 by omega]
    simp
  rw [e]
  exact mark_mb h _
theorem block_cnt {m : Mk} {part : Bk} (hp : part.length ≤ 42) : cnt (blockOf m part) = part.length := by
  have e : ((blockOf m part).drop 10).take 2 = be (BitVec.ofNat 32 part.length) 2 := by
    unfold blockOf
    simp only [List.append_assoc]
    rw [List.drop_append_of_le_length (by rw [mb_len]; decide), List.drop_of_length_le (by rw [mb_len]; decide), List.nil_append, List.take_append_of_le_length (by rw [be_len]; decide), List.take_of_length_le (by rw [be_len]; decide)]
  unfold cnt
  rw [e, num_be2, BitVec.toNat_ofNat]
  omega
theorem block_part {m : Mk} {part : Bk} (hp : part.length ≤ 42) : partOf (blockOf m part) = part := by
  unfold partOf
  rw [block_cnt hp]
  unfold blockOf
  simp only [List.append_assoc]
  rw [← List.append_assoc (mb m), List.drop_append_of_le_length (by rw [List.length_append, mb_len, be_len]; decide), List.drop_of_length_le (by rw [List.length_append, mb_len, be_len]; decide), List.nil_append, List.take_append_of_le_length (Nat.le_refl _), List.take_of_length_le (Nat.le_refl _)]
theorem block_whole {m : Mk} (h : okM m) {part : Bk} (hp : part.length ≤ 42) (hl : part.length = 42 ∨ m.2.2.2 = true) : wholeB (blockOf m part) = true := by
  unfold wholeB
  rw [block_mark h, block_back h hp, block_cnt hp]
  rcases hl with hl | hl <;> simp [hl] <;> omega

/-! ### records -/
def nb (n : Nat) : Nat := max 1 (n / 42 + min 1 (n % 42))
theorem nb_pos (n : Nat) : 0 < nb n := by unfold nb; omega
theorem nb_le (n : Nat) : n ≤ nb n * 42 := by unfold nb; omega
theorem nb_lt {n i : Nat} (h : i + 1 < nb n) : (i + 1) * 42 < n := by unfold nb at h; omega
def mk1 (g : BitVec 32) (r : Nat) (n i : Nat) : Mk := (g, BitVec.ofNat 32 r, BitVec.ofNat 16 i, decide (i + 1 = n))
def chunk (rec : Bk) (i : Nat) : Bk := (rec.drop (i * 42)).take 42
def blk (g : BitVec 32) (r : Nat) (rec : Bk) (i : Nat) : Bk := blockOf (mk1 g r (nb rec.length) i) (chunk rec i)
def blks (g : BitVec 32) (r : Nat) (rec : Bk) : List Bk := (List.range (nb rec.length)).map (blk g r rec)
/-- a record of a number, and how many blocks it takes; its blocks come first -/
def rd (g : BitVec 32) (r : Nat) : List Bk → Nat → Bk → Option (Bk × Nat)
  | [], _, _ => none
  | b :: bs, p, acc => if wholeB b = true ∧ markIn b = (g, BitVec.ofNat 32 r, BitVec.ofNat 16 p, (markIn b).2.2.2) then
      (if (markIn b).2.2.2 then some (acc ++ partOf b, p + 1) else rd g r bs (p + 1) (acc ++ partOf b)) else none
theorem rd_le {g : BitVec 32} {r : Nat} : ∀ {bs : List Bk} {p : Nat} {acc rec : Bk} {k : Nat}, rd g r bs p acc = some (rec, k) → p < k ∧ k ≤ p + bs.length
  | [], _, _, _, _, h => by simp [rd] at h
  | b :: bs, p, acc, rec, k, h => by
    unfold rd at h
    split at h
    · split at h
      · simp only [Option.some.injEq, Prod.mk.injEq] at h
        simp only [List.length_cons]
        omega
      · have := rd_le h
        simp only [List.length_cons]
        omega
    · cases h
def toldN (g : BitVec 32) : Nat → List Bk → Nat → List Bk
  | 0, _, _ => []
  | f + 1, bs, n => match rd g n bs 0 [] with
    | some (rec, k) => rec :: toldN g f (bs.drop k) (n + 1)
    | none => []
def told (g : BitVec 32) (bs : List Bk) : List Bk := toldN g (bs.length + 1) bs 0
theorem chunk_len {rec : Bk} (i : Nat) : (chunk rec i).length = min 42 (rec.length - i * 42) := by simp [chunk]
theorem rd_write {g : BitVec 32} {r : Nat} {rec : Bk} (hn : nb rec.length ≤ 32768) (rest : List Bk) : ∀ (d p : Nat), p + d + 1 = nb rec.length →
    rd g r (((List.range (nb rec.length)).drop p).map (blk g r rec) ++ rest) p (rec.take (p * 42)) = some (rec, nb rec.length) := by
  intro d
  induction d with
  | zero =>
    intro p hp
    have hp1 : p < nb rec.length := by omega
    have e : (List.range (nb rec.length)).drop p = p :: (List.range (nb rec.length)).drop (p + 1) := by
      rw [List.drop_eq_getElem_cons (by simpa using hp1)]
      simp
    have hc : (chunk rec p).length ≤ 42 := by rw [chunk_len]; omega
    have hok : okM (mk1 g r (nb rec.length) p) := by
      show (BitVec.ofNat 16 p).toNat < 32768
      rw [BitVec.toNat_ofNat]
      omega
    have hl : (mk1 g r (nb rec.length) p).2.2.2 = true := decide_eq_true (by omega)
    have hm : markIn (blk g r rec p) = mk1 g r (nb rec.length) p := block_mark hok _
    rw [e, List.map_cons, List.cons_append, rd, if_pos ⟨block_whole hok hc (.inr hl), by rw [hm]; rfl⟩, hm, hl, if_pos rfl]
    have hpt : partOf (blk g r rec p) = chunk rec p := block_part hc
    rw [hpt]
    have hle := nb_le rec.length
    have : rec.take (p * 42) ++ chunk rec p = rec := by
      unfold chunk
      rw [List.take_of_length_le (by rw [List.length_drop]; omega : (rec.drop (p * 42)).length ≤ 42), List.take_append_drop]
    rw [this]
    congr 2
  | succ d ih =>
    intro p hp
    have hp1 : p < nb rec.length := by omega
    have e : (List.range (nb rec.length)).drop p = p :: (List.range (nb rec.length)).drop (p + 1) := by
      rw [List.drop_eq_getElem_cons (by simpa using hp1)]
      simp
    have hlt := nb_lt (n := rec.length) (i := p) (by omega)
    have hc : (chunk rec p).length = 42 := by rw [chunk_len]; omega
    have hok : okM (mk1 g r (nb rec.length) p) := by
      show (BitVec.ofNat 16 p).toNat < 32768
      rw [BitVec.toNat_ofNat]
      omega
    have hl : (mk1 g r (nb rec.length) p).2.2.2 = false := decide_eq_false (by omega)
    have hm : markIn (blk g r rec p) = mk1 g r (nb rec.length) p := block_mark hok _
    rw [e, List.map_cons, List.cons_append, rd, if_pos ⟨block_whole hok (by omega) (.inl hc), by rw [hm]; rfl⟩, hm, hl, if_neg (by decide)]
    have hpt : partOf (blk g r rec p) = chunk rec p := block_part (by omega)
    rw [hpt]
    have : rec.take (p * 42) ++ chunk rec p = rec.take ((p + 1) * 42) := by
      unfold chunk
      rw [Nat.succ_mul, List.take_add]
    rw [this]
    exact ih (p + 1) (by omega)
theorem rd_blks {g : BitVec 32} {r : Nat} {rec : Bk} (hn : nb rec.length ≤ 32768) (rest : List Bk) : rd g r (blks g r rec ++ rest) 0 [] = some (rec, nb rec.length) := by
  have h := rd_write (g := g) (r := r) hn rest (nb rec.length - 1) 0 (by have := nb_pos rec.length; omega)
  simpa [blks] using h
theorem blks_len (g : BitVec 32) (r : Nat) (rec : Bk) : (blks g r rec).length = nb rec.length := by simp [blks]
/-- all records' blocks, numbered from n on -/
def allB (g : BitVec 32) : Nat → List Bk → List Bk
  | _, [] => []
  | n, rec :: recs => blks g n rec ++ allB g (n + 1) recs
def room (recs : List Bk) : Nat := (recs.map fun r => nb r.length).sum
theorem allB_len (g : BitVec 32) : ∀ (n : Nat) (recs : List Bk), (allB g n recs).length = room recs
  | _, [] => rfl
  | n, rec :: recs => by
    rw [allB, List.length_append, blks_len, allB_len g (n + 1) recs]
    simp [room]
theorem allB_append (g : BitVec 32) : ∀ (n : Nat) (a b : List Bk), allB g n (a ++ b) = allB g n a ++ allB g (n + a.length) b
  | n, [], b => by simp [allB]
  | n, r :: a, b => by
    rw [List.cons_append, allB, allB, allB_append g (n + 1) a b, List.append_assoc, List.length_cons, show n + 1 + a.length = n + (a.length + 1) by omega]
theorem room_append (a b : List Bk) : room (a ++ b) = room a + room b := by simp [room]
theorem room_ge (recs : List Bk) : recs.length ≤ room recs := by
  induction recs with
  | nil => exact Nat.le_refl _
  | cons r recs ih =>
    have := nb_pos r.length
    simp only [room, List.map_cons, List.sum_cons, List.length_cons] at ih ⊢
    omega
theorem rd_other {g : BitVec 32} {r : Nat} {bs : List Bk} {p : Nat} {acc : Bk} (h : ∀ b ∈ bs, (markIn b).1 ≠ g) : rd g r bs p acc = none := by
  cases bs with
  | nil => rfl
  | cons b bs =>
    unfold rd
    rw [if_neg fun hh => h b (by simp) (by rw [hh.2])]
theorem toldN_all {g : BitVec 32} : ∀ (recs : List Bk) (f n : Nat) (rest : List Bk), recs.length < f → (∀ b ∈ rest, (markIn b).1 ≠ g) → room recs ≤ 32768 → toldN g f (allB g n recs ++ rest) n = recs
  | [], f + 1, n, rest, _, h, _ => by
    show (match rd g n ([] ++ rest) 0 [] with | some (rec, k) => _ | none => _) = _
    rw [List.nil_append, rd_other h]
  | rec :: recs, f + 1, n, rest, hf, h, hr => by
    have hr' : nb rec.length + room recs ≤ 32768 := by simpa [room] using hr
    show (match rd g n (blks g n rec ++ allB g (n + 1) recs ++ rest) 0 [] with | some (rec, k) => _ | none => _) = _
    rw [List.append_assoc, rd_blks (by omega)]
    show rec :: toldN g f ((blks g n rec ++ allB g (n + 1) recs ++ rest).drop (nb rec.length)) (n + 1) = _
    rw [List.append_assoc, List.drop_left' (blks_len _ _ _), toldN_all recs f (n + 1) rest (by simpa using hf) h (by omega)]
/-- what is written is told -/
theorem told_all {g : BitVec 32} {recs rest : List Bk} (h : ∀ b ∈ rest, (markIn b).1 ≠ g) (hr : room recs ≤ 32768) : told g (allB g 0 recs ++ rest) = recs :=
  toldN_all recs _ 0 rest (by have := room_ge recs; rw [List.length_append, allB_len]; omega) h hr
end Jrn
end Go.Proofs.Ytkadoibacliepaa
