/-
  Of no statement by itself: what the library's functions on texts tell, in plain words: pure; no program stands here.
  Conditions: none but each lemma's own.
-/
import Derived.Test.YtchoiikhepjdiaaDoorFieA
import Derived.Test.YtchoiikhepjdiaaDoorSlq
import Derived.Lib.SlTrimSet
import Derived.Lib.IndexAny
namespace Go.Proofs.YtchoiikhepjdiaaDoor
namespace Fld
def u8s (l : List By) : List UInt8 := l.map UInt8.ofBitVec
theorem strB_list (l : List By) : (strB l).data.toList = u8s l := rfl
theorem u8s_str (l : List By) : (⟨(u8s l).toArray⟩ : ByteArray) = strB l := rfl
theorem u8s_drop (p : UInt8 → Bool) : ∀ l : List By, (u8s l).dropWhile p = u8s (l.dropWhile fun c => p (UInt8.ofBitVec c))
  | [] => rfl
  | c :: l => by
    show (UInt8.ofBitVec c :: u8s l).dropWhile p = _
    rw [List.dropWhile_cons, List.dropWhile_cons]
    cases h : p (UInt8.ofBitVec c) with
    | true => exact u8s_drop p l
    | false => rfl
theorem u8s_rev (l : List By) : (u8s l).reverse = u8s l.reverse := by unfold u8s; rw [List.map_reverse]
theorem blank_u8 (c : By) : (u8s [32, 9]).contains (UInt8.ofBitVec c) = bl c := by
  have h : ∀ c : Fin 256, (u8s [32, 9]).contains (UInt8.ofBitVec (BitVec.ofNat 8 c.val)) = bl (BitVec.ofNat 8 c.val) := by decide +kernel
  simpa using h ⟨c.toNat, c.isLt⟩
theorem trimL_u8 (l : List By) : Go.Lib.trimLeftS (u8s l) (u8s [32, 9]) = u8s (trimL l) := by
  unfold Go.Lib.trimLeftS
  rw [u8s_drop]
  congr 1
  unfold trimL
  congr 1
  funext c
  exact blank_u8 c
/-- the other end -/
def trimR (v : List By) : List By := (trimL v.reverse).reverse
theorem trimR_cons (c : By) (r : List By) : trimR (c :: r) = if trimR r = [] ∧ bl c = true then [] else c :: trimR r := by
  unfold trimR trimL
  rw [List.reverse_cons, List.dropWhile_append]
  by_cases h : (r.reverse.dropWhile bl) = []
  · rw [h]
    cases hc : bl c <;> simp [hc]
  · have h2 : (r.reverse.dropWhile bl).isEmpty = false := by simpa using h
    rw [h2, if_neg (by decide), if_neg (by rintro ⟨k, _⟩; exact h (by simpa using k)), List.reverse_append]
    rfl
theorem trim_swap : ∀ v : List By, trimL (trimR v) = trimR (trimL v)
  | [] => rfl
  | c :: r => by
    have ih := trim_swap r
    rw [trimR_cons]
    cases hc : bl c with
    | true =>
      have e : trimL (c :: r) = trimL r := by simp [trimL, hc]
      rw [e, ← ih]
      by_cases h : trimR r = []
      · rw [if_pos ⟨h, rfl⟩, h]
      · rw [if_neg (fun k => h k.1)]
        simp [trimL, hc]
    | false =>
      have e : trimL (c :: r) = c :: r := by simp [trimL, hc]
      rw [if_neg (by rintro ⟨_, k⟩; cases k), e, trimR_cons, if_neg (by rintro ⟨_, k⟩; rw [hc] at k; cases k)]
      simp [trimL, hc]
theorem trim_u8 (l : List By) : Go.Lib.trimS (u8s l) (u8s [32, 9]) = u8s (trim l) := by
  have h1 : Go.Lib.trimRightS (u8s l) (u8s [32, 9]) = u8s (trimR l) := by
    unfold Go.Lib.trimRightS
    rw [u8s_rev]
    have := trimL_u8 l.reverse
    unfold Go.Lib.trimLeftS at this
    rw [this, u8s_rev]
    rfl
  unfold Go.Lib.trimS
  rw [h1, trimL_u8, trim_swap]
  rfl
theorem trim_len (v : List By) : (trim v).length ≤ v.length := by
  unfold trim
  rw [List.length_reverse]
  have h1 := trimL_len (trimL v).reverse
  have h2 := trimL_len v
  rw [List.length_reverse] at h1
  omega
/-- the place of the first blank, or less than nought -/
def ixB (w : List By) : Int := if fb w < w.length then (fb w : Int) else -1
theorem fb_cons (c : By) (r : List By) : fb (c :: r) = if bl c then 0 else fb r + 1 := by
  unfold fb
  rw [List.takeWhile_cons]
  cases bl c <;> simp
theorem indexAny_u8 : ∀ w : List By, Go.Lib.indexAny (u8s w) (u8s [32, 9]) = ixB w
  | [] => rfl
  | c :: r => by
    show (if (u8s [32, 9]).contains (UInt8.ofBitVec c) then 0 else if Go.Lib.indexAny (u8s r) (u8s [32, 9]) == -1 then -1 else Go.Lib.indexAny (u8s r) (u8s [32, 9]) + 1 : Int) = _
    rw [blank_u8, indexAny_u8 r]
    unfold ixB
    rw [fb_cons]
    cases hc : bl c with
    | true => simp
    | false =>
      simp only [Bool.false_eq_true, if_false, List.length_cons, Nat.add_lt_add_iff_right]
      by_cases h : fb r < r.length
      · simp only [h, if_true]
        rw [if_neg (by rw [beq_iff_eq]; omega)]
        omega
      · simp only [h, if_false]
        rfl
theorem piece_ix (s : List By) : pieceB s = if 0 ≤ ixB (trimL s) then s.length - (trimL s).length + (ixB (trimL s)).toNat else s.length := by
  have h1 := trimL_len s
  have h2 := fb_le (trimL s)
  unfold pieceB ixB
  by_cases h : fb (trimL s) < (trimL s).length
  · rw [if_pos h, if_pos (by omega)]
    omega
  · rw [if_neg h, if_neg (by omega)]
    omega
/-- a byte's first place, or less than nought -/
def fi (c : By) (s : List By) : Nat := (s.takeWhile (· != c)).length
theorem fi_le (c : By) (s : List By) : fi c s ≤ s.length := (List.takeWhile_sublist _).length_le
theorem fi_cons (c d : By) (r : List By) : fi c (d :: r) = if d = c then 0 else fi c r + 1 := by
  unfold fi
  rw [List.takeWhile_cons]
  by_cases h : d = c
  · simp [h]
  · simp [h]
theorem fi_at : ∀ (c : By) (s : List By), fi c s < s.length → s.getD (fi c s) 0 = c
  | c, [], h => by simp [fi] at h
  | c, d :: r, h => by
    rw [fi_cons] at h ⊢
    by_cases hd : d = c
    · rw [if_pos hd]; exact hd
    · rw [if_neg hd] at h ⊢
      exact fi_at c r (by simpa using h)
theorem fi_before : ∀ (c : By) (s : List By) {j : Nat}, j < fi c s → ¬ s.getD j 0 = c
  | c, [], j, h => by simp [fi] at h
  | c, d :: r, j, h => by
    rw [fi_cons] at h
    by_cases hd : d = c
    · rw [if_pos hd] at h; omega
    · rw [if_neg hd] at h
      cases j with
      | zero => exact hd
      | succ j => exact fi_before c r (by omega)
theorem fi_lt (c : By) (s : List By) : fi c s < s.length ↔ c ∈ s := by
  induction s with
  | nil => simp [fi]
  | cons d r ih =>
    rw [fi_cons]
    by_cases h : d = c
    · simp [h]
    · have h' : ¬ c = d := fun e => h e.symm
      rw [if_neg h, List.length_cons, List.mem_cons]
      constructor
      · intro k; exact .inr (ih.1 (by omega))
      · rintro (k | k)
        · exact absurd k h'
        · have := ih.2 k; omega
def ixC (c : By) (s : List By) : Int := if fi c s < s.length then (fi c s : Int) else -1
theorem u8s_get (s : List By) {i : Nat} (h : i < s.length) : (strB s)[i]! = UInt8.ofBitVec (s.getD i 0) := by
  have hs : i < (strB s).size := by rw [strB_size]; exact h
  rw [getElem!_pos (strB s) i hs]
  show (strB s).data[i]'_ = _
  show ((u8s s).toArray)[i]'_ = _
  simp [u8s, List.getD_eq_getElem?_getD, List.getElem?_eq_getElem h]
/-- the model's own search -/
theorem first_is (s : List By) (c : By) : firstIdx (strB s) ((c.toNat : Int)).toNat.toUInt8 = ixC c s := by
  have hc : ((c.toNat : Int)).toNat.toUInt8 = UInt8.ofBitVec c := by
    rw [Int.toNat_natCast]
    apply UInt8.toBitVec_inj.1
    apply BitVec.eq_of_toNat_eq
    simp [Nat.toUInt8, UInt8.ofNat]
  rw [hc]
  unfold firstIdx
  rw [strB_size]
  have hp : ∀ i, i < s.length → ((strB s)[i]! == UInt8.ofBitVec c) = decide (s.getD i 0 = c) := by
    intro i hi
    rw [u8s_get s hi]
    by_cases h : s.getD i 0 = c
    · rw [h]; simp
    · rw [decide_eq_false h]
      refine beq_eq_false_iff_ne.2 fun k => h ?_
      have := congrArg UInt8.toBitVec k
      exact this
  unfold ixC
  by_cases h : fi c s < s.length
  · rw [if_pos h]
    have hf : (List.range s.length).find? (fun i => (strB s)[i]! == UInt8.ofBitVec c) = some (fi c s) := by
      rw [List.find?_range_eq_some]
      refine ⟨?_, by simpa using h, ?_⟩
      · rw [hp _ h, decide_eq_true (fi_at c s h)]
      · intro j hj
        rw [hp j (by omega), decide_eq_false (fi_before c s hj)]
        rfl
    rw [hf]
  · rw [if_neg h]
    have hf : (List.range s.length).find? (fun i => (strB s)[i]! == UInt8.ofBitVec c) = none := by
      rw [List.find?_range_eq_none]
      intro j hj
      have := fi_le c s
      rw [hp j hj, decide_eq_false (fi_before c s (by omega))]
      rfl
    rw [hf]
/-- a byte's last place, or less than nought -/
def la (c : By) (s : List By) : Nat := (s.reverse.takeWhile fun d => !(d == c)).length
def ixL (c : By) (s : List By) : Int := (s.length : Int) - 1 - la c s
theorem la_snoc (c : By) (s : List By) (d : By) : la c (s ++ [d]) = if d = c then 0 else la c s + 1 := by
  unfold la
  rw [List.reverse_append, List.reverse_singleton, List.singleton_append, List.takeWhile_cons]
  by_cases h : d = c
  · simp [h]
  · simp [h]
theorem la_le (c : By) (s : List By) : la c s ≤ s.length := by
  unfold la
  have := (List.takeWhile_sublist (fun d => !(d == c)) (l := s.reverse)).length_le
  simpa using this
theorem la_lt (c : By) (s : List By) : la c s < s.length ↔ c ∈ s := by
  have h := fi_lt c s.reverse
  have e : fi c s.reverse = la c s := by
    unfold fi la
    congr 1
  rw [e] at h
  simpa using h
end Fld
end Go.Proofs.YtchoiikhepjdiaaDoor
