/-
  Of no statement by itself: the digest and the code of bytes as plain functions of lists of bytes, and what they are good for; no program stands here.
  Conditions: none but each lemma's own.
-/
import Init
namespace Go.Proofs.YtheemnpfnefbmaaDoor
namespace Sha
abbrev W := BitVec 32
abbrev B := BitVec 8
def rotr (x : W) (k : Nat) : W := x >>> k ||| x <<< (32 - k)
def K : List W := [1116352408, 1899447441, 3049323471, 3921009573, 961987163, 1508970993, 2453635748, 2870763221, 3624381080, 310598401, 607225278, 1426881987, 1925078388, 2162078206, 2614888103, 3248222580, 3835390401, 4022224774, 264347078, 604807628, 770255983, 1249150122, 1555081692, 1996064986, 2554220882, 2821834349, 2952996808, 3210313671, 3336571891, 3584528711, 113926993, 338241895, 666307205, 773529912, 1294757372, 1396182291, 1695183700, 1986661051, 2177026350, 2456956037, 2730485921, 2820302411, 3259730800, 3345764771, 3516065817, 3600352804, 4094571909, 275423344, 430227734, 506948616, 659060556, 883997877, 958139571, 1322822218, 1537002063, 1747873779, 1955562222, 2024104815, 2227730452, 2361852424, 2428436474, 2756734187, 3204031479, 3329325298]
structure St where
  a : W
  b : W
  c : W
  d : W
  e : W
  f : W
  g : W
  h : W
def St.list (s : St) : List W := [s.a, s.b, s.c, s.d, s.e, s.f, s.g, s.h]
def s0 (x : W) : W := rotr x 7 ^^^ rotr x 18 ^^^ x >>> 3
def s1 (x : W) : W := rotr x 17 ^^^ rotr x 19 ^^^ x >>> 10
def t1 (s : St) (k w : W) : W := s.h + (rotr s.e 6 ^^^ rotr s.e 11 ^^^ rotr s.e 25) + (s.e &&& s.f ^^^ ~~~s.e &&& s.g) + k + w
def t2 (s : St) : W := (rotr s.a 2 ^^^ rotr s.a 13 ^^^ rotr s.a 22) + (s.a &&& s.b ^^^ s.a &&& s.c ^^^ s.b &&& s.c)
def rnd (k w : W) (s : St) : St := ⟨t1 s k w + t2 s, s.a, s.b, s.c, s.d + t1 s k w, s.e, s.f, s.g⟩
def word (l : List B) (i : Nat) : W := (l.getD (4 * i) 0).setWidth 32 <<< 24 ||| (l.getD (4 * i + 1) 0).setWidth 32 <<< 16 ||| (l.getD (4 * i + 2) 0).setWidth 32 <<< 8 ||| (l.getD (4 * i + 3) 0).setWidth 32
def next (l : List W) : W := s1 (l.getD (l.length - 2) 0) + l.getD (l.length - 7) 0 + s0 (l.getD (l.length - 15) 0) + l.getD (l.length - 16) 0
/-- the first i words of a block -/
def ws (l : List B) : Nat → List W
  | 0 => []
  | i + 1 => ws l i ++ [if i < 16 then word l i else next (ws l i)]
def rounds (l : List B) (s : St) : Nat → St
  | 0 => s
  | i + 1 => rnd (K.getD i 0) ((ws l 64).getD i 0) (rounds l s i)
def St.add (s t : St) : St := ⟨s.a + t.a, s.b + t.b, s.c + t.c, s.d + t.d, s.e + t.e, s.f + t.f, s.g + t.g, s.h + t.h⟩
def compress (s : St) (l : List B) : St := s.add (rounds l s 64)
def fold (s : St) : Nat → List B → St
  | 0, _ => s
  | k + 1, l => fold (compress s (l.take 64)) k (l.drop 64)
def iv : St := ⟨1779033703, 3144134277, 1013904242, 2773480762, 1359893119, 2600822924, 528734635, 1541459225⟩
def be8 (n : BitVec 64) : List B := [(n >>> 56).setWidth 8, (n >>> 48).setWidth 8, (n >>> 40).setWidth 8, (n >>> 32).setWidth 8, (n >>> 24).setWidth 8, (n >>> 16).setWidth 8, (n >>> 8).setWidth 8, n.setWidth 8]
/-- what stands behind n bytes -/
def tail (n : Nat) : List B := 128 :: List.replicate ((119 - n % 64) % 64) 0 ++ be8 (BitVec.ofNat 64 n * 8)
def pad (l : List B) : List B := l ++ tail l.length
def be4 (x : W) : List B := [(x >>> 24).setWidth 8, (x >>> 16).setWidth 8, (x >>> 8).setWidth 8, x.setWidth 8]
def St.bytes (s : St) : List B := s.list.flatMap be4
def sha (l : List B) : List B := (fold iv ((pad l).length / 64) (pad l)).bytes
def filled (k : List B) : List B := if 64 < k.length then sha k ++ List.replicate 32 0 else k ++ List.replicate (64 - k.length) 0
def hmac (k b : List B) : List B := sha ((filled k).map (· ^^^ 92) ++ sha ((filled k).map (· ^^^ 54) ++ b))

theorem ws_length (l : List B) : ∀ i, (ws l i).length = i
  | 0 => rfl
  | i + 1 => by simp [ws, ws_length l i]
theorem ws_pre (l : List B) (i : Nat) : ∀ k, (ws l (i + k)).take i = ws l i
  | 0 => by rw [Nat.add_zero, List.take_of_length_le (by rw [ws_length]; omega)]
  | k + 1 => by
    rw [← Nat.add_assoc, ws, List.take_append_of_le_length (by rw [ws_length]; omega), ws_pre l i k]
theorem ws_at (l : List B) (i j : Nat) (h : i < j) : (ws l j).getD i 0 = if i < 16 then word l i else next (ws l i) := by
  have h1 := ws_pre l (i + 1) (j - (i + 1))
  rw [show i + 1 + (j - (i + 1)) = j by omega] at h1
  have h2 : (ws l j)[i]? = (ws l (i + 1))[i]? := by rw [← h1, List.getElem?_take_of_lt (by omega)]
  rw [List.getD_eq_getElem?_getD, h2]
  simp [ws, ws_length]
theorem K_length : K.length = 64 := rfl
theorem be8_length (n : BitVec 64) : (be8 n).length = 8 := rfl
theorem tail_length (n : Nat) : (tail n).length = 9 + (119 - n % 64) % 64 := by simp [tail, be8_length]; omega
theorem pad_length (l : List B) : (pad l).length % 64 = 0 := by
  simp only [pad, List.length_append, tail_length]; omega
theorem bytes_length (s : St) : s.bytes.length = 32 := rfl
theorem sha_length (l : List B) : (sha l).length = 32 := rfl
theorem list_length (s : St) : s.list.length = 8 := rfl
theorem fold_add (s : St) (a b : Nat) : ∀ (l : List B), fold s (a + b) l = fold (fold s a l) b (l.drop (64 * a)) := by
  induction a generalizing s with
  | zero => intro l; simp [fold]
  | succ a ih =>
    intro l
    rw [show a + 1 + b = (a + b) + 1 by omega, fold, ih, fold, List.drop_drop]
    congr 2
    omega
theorem fold_app (s : St) (k : Nat) : ∀ (l m : List B), 64 * k ≤ l.length → fold s k (l ++ m) = fold s k l := by
  induction k generalizing s with
  | zero => intros; rfl
  | succ k ih =>
    intro l m h
    simp only [fold]
    rw [List.take_append_of_le_length (by omega), List.drop_append_of_le_length (by omega), ih _ _ _ (by simp; omega)]
theorem fold_take (s : St) (k : Nat) (l : List B) (h : 64 * k ≤ l.length) : fold s k l = fold s k (l.take (64 * k)) := by
  have := fold_app s k (l.take (64 * k)) (l.drop (64 * k)) (by simp; omega)
  rwa [List.take_append_drop] at this
theorem filled_length (k : List B) : (filled k).length = 64 := by
  unfold filled
  split
  · simp [sha_length]
  · simp; omega

set_option maxRecDepth 100000 in
theorem abc : sha [97, 98, 99] = [0xba, 0x78, 0x16, 0xbf, 0x8f, 0x01, 0xcf, 0xea, 0x41, 0x41, 0x40, 0xde, 0x5d, 0xae, 0x22, 0x23, 0xb0, 0x03, 0x61, 0xa3, 0x96, 0x17, 0x7a, 0x9c, 0xb4, 0x10, 0xff, 0x61, 0xf2, 0x00, 0x15, 0xad] := by decide +kernel
end Sha
end Go.Proofs.YtheemnpfnefbmaaDoor
