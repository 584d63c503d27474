/-
  Of no statement by itself: the texts LsC, TokX, TkC, TokD, TkE, TkF, TkD in one.
  Conditions: each theorem's own.
-/
import Derived.Test.YtchoiikhepjdiaaGreatDoorBc
import Derived.Shelf.Strings.OnBuilder
import Derived.Shelf.Strings.Split
/-
  Of no statement by itself: strings.ToLower of bytes below 128 and Split at one byte, by the library's contracts over any program; strings.CutPrefix, CutSuffix and LastIndexByte at one byte by their bodies.
  Conditions: each theorem's own.
-/
namespace Go.Proofs.YtchoiikhepjdiaaGreatDoor
set_option maxRecDepth 10000
open Sl Fld Go.Shelf
/-! ### small letters -/
def lowLaysRen : Ren := ⟨fun | 159 => 18 | 165 => 44 | 166 => 45 | 167 => 46 | 169 => 47 | 230 => 48 | 204 => 49 | 240 => 69 | 241 => 70 | 197 => 71 | 118 => 72 | 168 => 73 | 270 => 74 | 262 => 75 | 276 => 85 | 277 => 86 | 260 => 87 | 242 => 88 | 313 => 89 | 278 => 98 | 274 => 99 | 275 => 100 | n => n,
  fun | 9 => 9 | 4 => 4 | 3 => 3 | 5 => 5 | 72 => 66 | 0 => 0 | 76 => 70 | 75 => 69 | 107 => 75 | 70 => 64 | 20 => 20 | 37 => 51 | 127 => 85 | 21 => 21 | 105 => 86 | 164 => 97 | 162 => 103 | 203 => 101 | 119 => 108 | 46 => 106 | 139 => 111 | 138 => 110 | 51 => 112 | 160 => 113 | 208 => 122 | 206 => 120 | 80 => 73 | n => n,
  fun | 13 => 1 | 3 => 2 | 4 => 3 | n => n⟩
theorem lowLays : Lays.n159 Tryz.prog lowLaysRen := {
  mixed := by kernel_rfl
  f118 := Tryz.func72.trans (congrArg some (by kernel_rfl))
  f159 := Tryz.func18.trans (congrArg some (by kernel_rfl))
  f165 := Tryz.func44.trans (congrArg some (by kernel_rfl))
  f166 := Tryz.func45.trans (congrArg some (by kernel_rfl))
  f167 := Tryz.func46.trans (congrArg some (by kernel_rfl))
  f168 := Tryz.func73.trans (congrArg some (by kernel_rfl))
  f169 := Tryz.func47.trans (congrArg some (by kernel_rfl))
  f197 := Tryz.func71.trans (congrArg some (by kernel_rfl))
  f204 := Tryz.func49.trans (congrArg some (by kernel_rfl))
  f230 := Tryz.func48.trans (congrArg some (by kernel_rfl))
  f240 := Tryz.func69.trans (congrArg some (by kernel_rfl))
  f241 := Tryz.func70.trans (congrArg some (by kernel_rfl))
  f242 := Tryz.func88.trans (congrArg some (by kernel_rfl))
  f260 := Tryz.func87.trans (congrArg some (by kernel_rfl))
  f262 := Tryz.func75.trans (congrArg some (by kernel_rfl))
  f270 := Tryz.func74.trans (congrArg some (by kernel_rfl))
  f274 := Tryz.func99.trans (congrArg some (by kernel_rfl))
  f275 := Tryz.func100.trans (congrArg some (by kernel_rfl))
  f276 := Tryz.func85.trans (congrArg some (by kernel_rfl))
  f277 := Tryz.func86.trans (congrArg some (by kernel_rfl))
  f278 := Tryz.func98.trans (congrArg some (by kernel_rfl))
  f313 := Tryz.func89.trans (congrArg some (by kernel_rfl))
  t0 := Tryz.underlying0
  a0 := Tryz.isAgg0
  z0 := Tryz.sizeOf0
  v0 := Tryz.zeroValue0
  t3 := Tryz.underlying3
  a3 := Tryz.isAgg3
  z3 := Tryz.sizeOf3
  v3 := Tryz.zeroValue3
  t4 := Tryz.underlying4
  a4 := Tryz.isAgg4
  z4 := Tryz.sizeOf4
  v4 := Tryz.zeroValue4
  t5 := Tryz.underlying5
  a5 := Tryz.isAgg5
  z5 := Tryz.sizeOf5
  v5 := Tryz.zeroValue5
  t9 := Tryz.underlying9
  a9 := Tryz.isAgg9
  z9 := Tryz.sizeOf9
  v9 := Tryz.zeroValue9
  t20 := Tryz.underlying20
  a20 := Tryz.isAgg20
  z20 := Tryz.sizeOf20
  v20 := Tryz.zeroValue20
  t21 := Tryz.underlying21
  a21 := Tryz.isAgg21
  z21 := Tryz.sizeOf21
  v21 := Tryz.zeroValue21
  t37 := Tryz.underlying51
  a37 := Tryz.isAgg51
  z37 := Tryz.sizeOf51
  v37 := Tryz.zeroValue51
  t46 := Tryz.underlying106
  a46 := Tryz.isAgg106
  z46 := Tryz.sizeOf106
  v46 := Tryz.zeroValue106
  t51 := Tryz.underlying112
  a51 := Tryz.isAgg112
  z51 := Tryz.sizeOf112
  v51 := Tryz.zeroValue112
  t70 := Tryz.underlying64
  a70 := Tryz.isAgg64
  z70 := Tryz.sizeOf64
  v70 := Tryz.zeroValue64
  t72 := Tryz.underlying66
  a72 := Tryz.isAgg66
  z72 := Tryz.sizeOf66
  v72 := Tryz.zeroValue66
  t75 := Tryz.underlying69
  a75 := Tryz.isAgg69
  z75 := Tryz.sizeOf69
  v75 := Tryz.zeroValue69
  t76 := Tryz.underlying70
  a76 := Tryz.isAgg70
  z76 := Tryz.sizeOf70
  v76 := Tryz.zeroValue70
  t105 := Tryz.underlying86
  a105 := Tryz.isAgg86
  z105 := Tryz.sizeOf86
  v105 := Tryz.zeroValue86
  t107 := Tryz.underlying75
  a107 := Tryz.isAgg75
  z107 := Tryz.sizeOf75
  v107 := Tryz.zeroValue75
  t119 := Tryz.underlying108
  a119 := Tryz.isAgg108
  z119 := Tryz.sizeOf108
  t127 := Tryz.underlying85
  a127 := Tryz.isAgg85
  z127 := Tryz.sizeOf85
  v127 := Tryz.zeroValue85
  t138 := Tryz.underlying110
  a138 := Tryz.isAgg110
  z138 := Tryz.sizeOf110
  v138 := Tryz.zeroValue110
  t139 := Tryz.underlying111
  a139 := Tryz.isAgg111
  z139 := Tryz.sizeOf111
  v139 := Tryz.zeroValue111
  t160 := Tryz.underlying113
  a160 := Tryz.isAgg113
  z160 := Tryz.sizeOf113
  v160 := Tryz.zeroValue113
  t162 := Tryz.underlying103
  a162 := Tryz.isAgg103
  z162 := Tryz.sizeOf103
  v162 := Tryz.zeroValue103
  t164 := Tryz.underlying97
  a164 := Tryz.isAgg97
  z164 := Tryz.sizeOf97
  v164 := Tryz.zeroValue97
  t203 := Tryz.underlying101
  a203 := Tryz.isAgg101
  z203 := Tryz.sizeOf101
  v203 := Tryz.zeroValue101
  t206 := Tryz.underlying120
  a206 := Tryz.isAgg120
  z206 := Tryz.sizeOf120
  v206 := Tryz.zeroValue120
  t208 := Tryz.underlying122
  a208 := Tryz.isAgg122
  z208 := Tryz.sizeOf122
  v208 := Tryz.zeroValue122
  g3 := by kernel_rfl
  g4 := by kernel_rfl
  g13 := by kernel_rfl }
theorem lowX : Builder.Extra Tryz.prog lowLaysRen := {
  sizeBuilder := by kernel_rfl
  liesBuilder := by kernel_rfl
  t5 := Tryz.underlying5
  a5 := Tryz.isAgg5
  z5 := Tryz.sizeOf5
  v5 := Tryz.zeroValue5
  infoByte := by kernel_rfl
  cellsByte := by kernel_rfl
  sizeByte := by kernel_rfl
  neB5 := by decide }
theorem low_u8 (l : List Fld.By) : Go.Lib.toLowerA (Fld.u8s l) = Fld.u8s (l.map small) := by
  have h : ∀ c : Fin 256, Go.Lib.lowerB (UInt8.ofBitVec (BitVec.ofNat 8 c.val)) = UInt8.ofBitVec (small (BitVec.ofNat 8 c.val)) := by decide +kernel
  unfold Go.Lib.toLowerA Fld.u8s
  rw [List.map_map, List.map_map]
  refine List.map_congr_left fun c _ => ?_
  simpa using h ⟨c.toNat, c.isLt⟩
theorem goes_lower : Goes Tryz.prog 18 := ⟨_, Tryz.func18, rfl, by kernel_rfl⟩
theorem lower_any (s : List Bt) (w : World) (hl : s.length ≤ 140737488355328) (hs : ∀ c ∈ s, c.toNat < 128) : Calls Tryz.prog 18 [Z s].toArray w fun e w' => e = .returned (Z (s.map small)) ∧ Ext w w' :=
  (Any.strings_ToLower_ascii lowLays lowX (strB s) w (by rw [strB_size]; exact hl) (fun j b hb => by
    rw [strB_list] at hb
    obtain ⟨c, hc, rfl⟩ := List.mem_map.1 (List.mem_of_getElem? hb)
    exact hs c hc)).mono fun e w' ⟨h1, h2⟩ => ⟨by rw [h1, strB_list, low_u8, u8s_str], below_ext h2⟩
/-! ### texts parted at a byte -/
namespace Fld
def spW (c : Fld.By) : List Fld.By → List (List Fld.By)
  | [] => [[]]
  | d :: r => if d = c then [] :: spW c r else match spW c r with
    | [] => [[d]]
    | x :: L => (d :: x) :: L
theorem spW_ne (c : Fld.By) : ∀ s, spW c s ≠ []
  | [] => by simp [spW]
  | d :: r => by
    unfold spW
    split
    · simp
    · split <;> simp
theorem spW_none {c : Fld.By} : ∀ {s : List Fld.By}, fi c s = s.length → spW c s = [s]
  | [], _ => rfl
  | d :: r, h => by
    rw [fi_cons] at h
    by_cases hd : d = c
    · rw [if_pos hd] at h; simp at h
    · rw [if_neg hd] at h
      rw [spW, if_neg hd, spW_none (s := r) (by simpa using h)]
theorem spW_some {c : Fld.By} : ∀ {s : List Fld.By}, fi c s < s.length → spW c s = s.take (fi c s) :: spW c (s.drop (fi c s + 1))
  | [], h => by simp [fi] at h
  | d :: r, h => by
    by_cases hd : d = c
    · rw [fi_cons, if_pos hd, spW, if_pos hd]
      rfl
    · rw [fi_cons, if_neg hd] at h ⊢
      rw [spW, if_neg hd, spW_some (s := r) (by simpa using h)]
      rfl
theorem index_u8 (c : Fld.By) (s : List Fld.By) : Go.Lib.index (Fld.u8s s) (Fld.u8s [c]) = ixC c s := by
  show Go.Lib.index (Fld.u8s s) [UInt8.ofBitVec c] = _
  rw [Go.Lib.index_one, ixb_is2]
where
  ixb_is2 {c : Fld.By} : ∀ {l : List Fld.By}, Go.Lib.indexByte (Fld.u8s l) (UInt8.ofBitVec c) = ixC c l
  | [] => rfl
  | d :: r => by
    show (if (UInt8.ofBitVec d == UInt8.ofBitVec c) then 0 else if Go.Lib.indexByte (Fld.u8s r) (UInt8.ofBitVec c) == -1 then -1 else Go.Lib.indexByte (Fld.u8s r) (UInt8.ofBitVec c) + 1 : Int) = _
    rw [ixb_is2 (c := c) (l := r)]
    unfold ixC
    rw [fi_cons]
    have hb : (UInt8.ofBitVec d == UInt8.ofBitVec c) = decide (d = c) := by
      by_cases h : d = c
      · subst h; simp
      · rw [decide_eq_false h]
        exact beq_eq_false_iff_ne.2 fun k => h (congrArg UInt8.toBitVec k)
    rw [hb]
    by_cases hd : d = c
    · simp [hd]
    · simp only [hd, decide_false, Bool.false_eq_true, if_false, List.length_cons, Nat.add_lt_add_iff_right]
      by_cases h : fi c r < r.length
      · simp only [h, if_true]
        rw [if_neg (by rw [beq_iff_eq]; omega)]
        omega
      · simp only [h, if_false]
        rfl
theorem u8s_count (c : Fld.By) : ∀ s : List Fld.By, (Fld.u8s s).count (UInt8.ofBitVec c) = s.count c
  | [] => rfl
  | d :: r => by
    show (UInt8.ofBitVec d :: Fld.u8s r).count _ = _
    rw [List.count_cons, List.count_cons, u8s_count c r]
    congr 1
    by_cases h : d = c
    · subst h; simp
    · have h2 : ¬ UInt8.ofBitVec d = UInt8.ofBitVec c := fun k => h (congrArg UInt8.toBitVec k)
      rw [if_neg (by simpa using h2), if_neg (by simpa using h)]
theorem count_split {c : Fld.By} : ∀ {s : List Fld.By}, (s.count c = 0 → fi c s = s.length) ∧ (s.count c ≠ 0 → fi c s < s.length ∧ s.count c = (s.drop (fi c s + 1)).count c + 1)
  | [] => by simp [fi]
  | d :: r => by
    obtain ⟨h1, h2⟩ := count_split (c := c) (s := r)
    rw [fi_cons, List.count_cons]
    by_cases hd : d = c
    · subst hd
      simp
    · have hdb : (d == c) = false := beq_eq_false_iff_ne.2 hd
      simp only [hdb, hd, if_false, Bool.false_eq_true, Nat.add_zero, List.length_cons, Nat.add_lt_add_iff_right, List.drop_succ_cons]
      exact ⟨fun h => by rw [h1 h], h2⟩
theorem splitK_u8 (c : Fld.By) : ∀ (k : Nat) (s : List Fld.By), s.count c = k → Go.Lib.splitK (Fld.u8s [c]) 0 k (Fld.u8s s) = (spW c s).map Fld.u8s
  | 0, s, h => by
    rw [spW_none (count_split.1 h)]
    rfl
  | k + 1, s, h => by
    obtain ⟨h1, h2⟩ := (count_split (c := c) (s := s)).2 (by omega)
    have hi : Go.Lib.index (Fld.u8s s) (Fld.u8s [c]) = (fi c s : Nat) := by rw [index_u8, ixC, if_pos h1]
    have hd : (Fld.u8s s).drop (fi c s + 1) = Fld.u8s (s.drop (fi c s + 1)) := by unfold Fld.u8s; rw [List.map_drop]
    have ht : (Fld.u8s s).take (fi c s) = Fld.u8s (s.take (fi c s)) := by unfold Fld.u8s; rw [List.map_take]
    show (if Go.Lib.index (Fld.u8s s) (Fld.u8s [c]) == -1 then [Fld.u8s s] else (Fld.u8s s).take ((Go.Lib.index (Fld.u8s s) (Fld.u8s [c])).toNat + 0) :: Go.Lib.splitK (Fld.u8s [c]) 0 k ((Fld.u8s s).drop ((Go.Lib.index (Fld.u8s s) (Fld.u8s [c])).toNat + (Fld.u8s [c]).length))) = _
    rw [hi, if_neg (by rw [beq_iff_eq]; omega), Int.toNat_natCast, Nat.add_zero, show (Fld.u8s [c]).length = 1 from rfl, hd, ht, splitK_u8 c k _ (by omega), spW_some h1]
    rfl
end Fld
theorem split_is (c : Bt) (s : List Bt) : (Go.Lib.splitB (strB [c]) 0 (s.count c) (strB s)).map Value.string = (spW c s).map Z := by
  have h1 := Go.Lib.splitB_data (strB [c]) 0 (s.count c) (strB s)
  rw [strB_list, strB_list, splitK_u8 c _ s rfl] at h1
  have h2 := congrArg (List.map fun l : List UInt8 => Value.string ⟨l.toArray⟩) h1
  rw [List.map_map, List.map_map] at h2
  exact h2
def splitLaysRen : Ren := ⟨fun | 221 => 82 | 268 => 95 | 138 => 96 | 143 => 97 | 195 => 103 | 197 => 71 | 218 => 104 | 219 => 81 | 260 => 87 | 217 => 66 | 225 => 92 | 224 => 93 | 267 => 94 | 266 => 83 | 314 => 102 | n => n,
  fun | 9 => 9 | 3 => 3 | 31 => 48 | 4 => 4 | 0 => 0 | 105 => 86 | 21 => 21 | 5 => 5 | 46 => 106 | 119 => 108 | 139 => 111 | 138 => 110 | 146 => 117 | 51 => 112 | n => n,
  fun | 1 => 0 | 3 => 2 | 4 => 3 | n => n⟩
theorem splitLays : Lays.n221 Tryz.prog splitLaysRen := {
  mixed := by kernel_rfl
  f138 := Tryz.func96.trans (congrArg some (by kernel_rfl))
  f143 := Tryz.func97.trans (congrArg some (by kernel_rfl))
  f195 := Tryz.func103.trans (congrArg some (by kernel_rfl))
  f197 := Tryz.func71.trans (congrArg some (by kernel_rfl))
  f217 := Tryz.func66.trans (congrArg some (by kernel_rfl))
  f218 := Tryz.func104.trans (congrArg some (by kernel_rfl))
  f219 := Tryz.func81.trans (congrArg some (by kernel_rfl))
  f221 := Tryz.func82.trans (congrArg some (by kernel_rfl))
  f224 := Tryz.func93.trans (congrArg some (by kernel_rfl))
  f225 := Tryz.func92.trans (congrArg some (by kernel_rfl))
  f260 := Tryz.func87.trans (congrArg some (by kernel_rfl))
  f266 := Tryz.func83.trans (congrArg some (by kernel_rfl))
  f267 := Tryz.func94.trans (congrArg some (by kernel_rfl))
  f268 := Tryz.func95.trans (congrArg some (by kernel_rfl))
  f314 := Tryz.func102.trans (congrArg some (by kernel_rfl))
  t0 := Tryz.underlying0
  a0 := Tryz.isAgg0
  z0 := Tryz.sizeOf0
  v0 := Tryz.zeroValue0
  t3 := Tryz.underlying3
  a3 := Tryz.isAgg3
  z3 := Tryz.sizeOf3
  v3 := Tryz.zeroValue3
  t4 := Tryz.underlying4
  a4 := Tryz.isAgg4
  z4 := Tryz.sizeOf4
  v4 := Tryz.zeroValue4
  t5 := Tryz.underlying5
  a5 := Tryz.isAgg5
  z5 := Tryz.sizeOf5
  v5 := Tryz.zeroValue5
  t9 := Tryz.underlying9
  a9 := Tryz.isAgg9
  z9 := Tryz.sizeOf9
  v9 := Tryz.zeroValue9
  t21 := Tryz.underlying21
  a21 := Tryz.isAgg21
  z21 := Tryz.sizeOf21
  v21 := Tryz.zeroValue21
  t31 := Tryz.underlying48
  a31 := Tryz.isAgg48
  z31 := Tryz.sizeOf48
  v31 := Tryz.zeroValue48
  t46 := Tryz.underlying106
  a46 := Tryz.isAgg106
  z46 := Tryz.sizeOf106
  v46 := Tryz.zeroValue106
  t51 := Tryz.underlying112
  a51 := Tryz.isAgg112
  z51 := Tryz.sizeOf112
  v51 := Tryz.zeroValue112
  t105 := Tryz.underlying86
  a105 := Tryz.isAgg86
  z105 := Tryz.sizeOf86
  v105 := Tryz.zeroValue86
  t119 := Tryz.underlying108
  a119 := Tryz.isAgg108
  z119 := Tryz.sizeOf108
  t138 := Tryz.underlying110
  a138 := Tryz.isAgg110
  z138 := Tryz.sizeOf110
  v138 := Tryz.zeroValue110
  t139 := Tryz.underlying111
  a139 := Tryz.isAgg111
  z139 := Tryz.sizeOf111
  v139 := Tryz.zeroValue111
  t146 := Tryz.underlying117
  a146 := Tryz.isAgg117
  z146 := Tryz.sizeOf117
  v146 := Tryz.zeroValue117
  g1 := by kernel_rfl
  g3 := by kernel_rfl
  g4 := by kernel_rfl }
theorem strI9 : (Tryz.prog.info? (splitLaysRen.t 9)).map (fun i => (i.zero, i.size, i.bytes)) = some (some (.string ByteArray.empty), 1, 16) := by kernel_rfl
theorem goes_gens : Goes Tryz.prog 82 := ⟨_, Tryz.func82, rfl, by kernel_rfl⟩
theorem goes_splw : Goes Tryz.prog 65 := ⟨_, Tryz.func65, rfl, by kernel_rfl⟩
theorem gens_any (s : List Bt) (c : Bt) (w : World) (hl : s.length < 4294967281) : Calls Tryz.prog 82 [Z s, Z [c], N 0, I (-1)].toArray w fun e w' =>
    ∃ b, e = .returned (.slice (some ⟨b, 0, none⟩) (spW c s).length (spW c s).length) ∧ Holds w [] [⟨b, Row 9 ((spW c s).map Z), true⟩] w' := by
  have hcnt : Go.Lib.countB (strB s) (strB [c]) = s.count c := by
    show Go.Lib.count (Fld.u8s s) [UInt8.ofBitVec c] = _
    rw [Go.Lib.count_one, u8s_count]
  have hcle : s.count c ≤ s.length := List.count_le_length
  have hlen : (Go.Lib.splitB (strB [c]) 0 (s.count c) (strB s)).length = s.count c + 1 := Go.Lib.splitB_all (strB [c]) (by rw [strB_size]; exact Nat.le_refl _) 0 _ (strB s) hcnt
  have hlen2 : (spW c s).length = s.count c + 1 := by
    have := congrArg List.length (split_is c s)
    rw [List.length_map, List.length_map, hlen] at this
    exact this.symm
  have := Any.strings_genSplit_core splitLays strI9 (strB s) (strB [c]) 0 (-1) (s.count c + 1) w (by rw [strB_size]; exact hl) (by rw [strB_size]; exact Nat.le_refl _) (Nat.zero_le _)
    (fun x cs hx => (Any.strings_Index_one { splitLays with } x (UInt8.ofBitVec c) _).mono fun e w' ⟨h1, h2⟩ => ⟨by
      rw [h1]
      show Ending.returned (Value.int .i64 (Go.Lib.indexByte x.data.toList (UInt8.ofBitVec c))) = Ending.returned (Value.int .i64 (Go.Lib.index x.data.toList [UInt8.ofBitVec c]))
      rw [Go.Lib.index_one], h2⟩)
    ((Any.strings_Count_one { splitLays with } (strB s) (UInt8.ofBitVec c) w).mono fun e w' ⟨h1, h2⟩ => ⟨by
      rw [h1]
      show Ending.returned (Value.int .i64 (((Fld.u8s s).count (UInt8.ofBitVec c) : Nat) : Int)) = Ending.returned (Value.int .i64 ((Go.Lib.countB (strB s) (strB [c]) : Nat) : Int))
      rw [hcnt, u8s_count], h2⟩) (by decide) (by decide) (by
        rw [if_pos (by decide), hcnt, strB_size]
        omega)
  refine this.mono fun e w' ⟨h1, h2⟩ => ⟨w.heap.size, ?_, ?_⟩
  · rw [h1, Nat.add_sub_cancel, hlen, hlen2]
  · rw [h2, Nat.add_sub_cancel]
    have e1 : Go.Lib.cellsOf (Go.Lib.splitB (strB [c]) 0 (s.count c) (strB s)) (s.count c + 1) = ((spW c s).map Z).toArray := by
      rw [← hlen, Go.Lib.cellsOf_full, split_is]
    rw [e1]
    exact (Holds.start w []).push (.cells ((spW c s).map Z).toArray 9 (0, 0)) rfl rfl rfl rfl rfl
theorem splw_any (s : List Bt) (c : Bt) (w : World) (hl : s.length < 4294967281) : Calls Tryz.prog 65 [Z s, Z [c]].toArray w fun e w' =>
    ∃ b, e = .returned (.slice (some ⟨b, 0, none⟩) (spW c s).length (spW c s).length) ∧ Holds w [] [⟨b, Row 9 ((spW c s).map Z), true⟩] w' := by
  refine enter (n := 8) Tryz.func65 rfl rfl rfl (Holds.start w []) ?_
  repeat (first | refine JL.q (by first | (apply OQ.move; exact rfl) | (apply OQ.assign; exact rfl) | (apply OQ.len; exact rfl; exact rfl) | (apply OQ.addN; exact rfl; exact rfl; exact (by (try simp only []); omega)) | (apply OQ.subN; exact rfl; exact rfl; exact (by (try simp only []); omega); exact (by (try simp only []); omega))) rfl ?_ | refine JC.seq ?_ | refine JC.region ?_ | refine JC.block ?_ | refine JC.skip ?_ | refine JC.exit ?_ | refine JL.nil ?_ | refine JE.next ?_ | refine JE.blk_normal ?_ | refine JE.then_exit ?_ | refine JE.blk_hit ?_ | refine JE.blk_miss rfl ?_ | refine JE.then_ret ?_ | refine JE.blk_ret ?_ | refine JC.label ?_ | refine JL.gon rfl rfl ?_ | refine JL.gskip rfl rfl rfl rfl ?_ | refine JL.gskipU rfl rfl rfl rfl ?_)
  refine JL.callg (ι := Nat) (vs := [Z s, Z [c], N 0, I (-1)]) (fun b => .slice (some ⟨b, 0, none⟩) (spW c s).length (spW c s).length) (fun b => [⟨b, Row 9 ((spW c s).map Z), true⟩]) goes_gens rfl rfl (fun b e he => by rw [List.mem_singleton.1 he]) (fun w' _ => gens_any s c w' hl) fun b => ?_
  repeat (first | refine JL.q (by first | (apply OQ.move; exact rfl) | (apply OQ.assign; exact rfl) | (apply OQ.len; exact rfl; exact rfl) | (apply OQ.addN; exact rfl; exact rfl; exact (by (try simp only []); omega)) | (apply OQ.subN; exact rfl; exact rfl; exact (by (try simp only []); omega); exact (by (try simp only []); omega))) rfl ?_ | refine JC.seq ?_ | refine JC.region ?_ | refine JC.block ?_ | refine JC.skip ?_ | refine JC.exit ?_ | refine JL.nil ?_ | refine JE.next ?_ | refine JE.blk_normal ?_ | refine JE.then_exit ?_ | refine JE.blk_hit ?_ | refine JE.blk_miss rfl ?_ | refine JE.then_ret ?_ | refine JE.blk_ret ?_ | refine JC.label ?_ | refine JL.gon rfl rfl ?_ | refine JL.gskip rfl rfl rfl rfl ?_ | refine JL.gskipU rfl rfl rfl rfl ?_)
  exact JC.ret (JE.ret1 rfl (RV.tmp rfl) fun w' hw => ⟨b, rfl, hw⟩)
/-! ### one byte at an end -/
theorem goes_shp : Goes Tryz.prog 84 := ⟨_, Tryz.func84, rfl, by kernel_rfl⟩
theorem goes_scp : Goes Tryz.prog 67 := ⟨_, Tryz.func67, rfl, by kernel_rfl⟩
theorem goes_cpw : Goes Tryz.prog 42 := ⟨_, Tryz.func42, rfl, by kernel_rfl⟩
theorem goes_shs : Goes Tryz.prog 80 := ⟨_, Tryz.func80, rfl, by kernel_rfl⟩
theorem goes_scs : Goes Tryz.prog 62 := ⟨_, Tryz.func62, rfl, by kernel_rfl⟩
theorem goes_csw : Goes Tryz.prog 32 := ⟨_, Tryz.func32, rfl, by kernel_rfl⟩
theorem head_is (s : List Fld.By) (c : Fld.By) : decide (s.head? = some c) = (decide ((1 : Int) ≤ (s.length : Int)) && decide (s.take 1 = [c])) := by
  cases s with
  | nil => simp
  | cons d r =>
    simp
    intro _
    omega
theorem last_is (s : List Fld.By) (c : Fld.By) : decide (s.getLast? = some c) = (decide ((1 : Int) ≤ (s.length : Int)) && decide (s.drop (s.length - 1) = [c])) := by
  rcases List.eq_nil_or_concat s with rfl | ⟨r, d, rfl⟩
  · simp
  · simp
    intro _
    omega
set_option maxHeartbeats 2000000 in
theorem shp_any (s : List Bt) (c : Bt) (w : World) : Calls Tryz.prog 84 [Z s, Z [c]].toArray w fun e w' => e = .returned (.bool (decide (s.head? = some c))) ∧ Ext w w' := by
  refine enter (n := 18) Tryz.func84 rfl rfl rfl (Holds.start w []) ?_
  rw [head_is]
  cases h1 : decide ((1 : Int) ≤ (s.length : Int))
  · repeat (first | refine JL.q (by first | (apply OQ.lenS; exact Tryz.underlying9; exact rfl) | (apply OQ.geqB (b := 1); exact rfl; exact rfl; exact h1) | (apply OQ.pick_f; exact rfl; exact rfl) | (apply OQ.move; exact rfl) | (apply OQ.assign; exact rfl) | (apply OQ.len; exact rfl; exact rfl) | (apply OQ.addN; exact rfl; exact rfl; exact (by (try simp only []); omega)) | (apply OQ.subN; exact rfl; exact rfl; exact (by (try simp only []); omega); exact (by (try simp only []); omega))) rfl ?_ | refine JC.seq ?_ | refine JC.region ?_ | refine JC.block ?_ | refine JC.skip ?_ | refine JC.exit ?_ | refine JL.nil ?_ | refine JE.next ?_ | refine JE.blk_normal ?_ | refine JE.then_exit ?_ | refine JE.blk_hit ?_ | refine JE.blk_miss rfl ?_ | refine JE.then_ret ?_ | refine JE.blk_ret ?_ | refine JC.label ?_ | refine JL.gon rfl rfl ?_ | refine JL.gskip rfl rfl rfl rfl ?_ | refine JL.gskipU rfl rfl rfl rfl ?_)
    exact JC.ret (JE.ret1 rfl (RV.tmp rfl) fun w' hw => ⟨rfl, hw.chg⟩)
  · have hle : 1 ≤ s.length := by have := of_decide_eq_true h1; omega
    cases h2 : decide (s.take 1 = [c])
    all_goals (repeat (first | refine JL.q (by first | (apply OQ.lenS; exact Tryz.underlying9; exact rfl) | (apply OQ.geqB (b := 1); exact rfl; exact rfl; exact h1) | (apply OQ.subS_hi (j := 1); exact Tryz.underlying9; exact rfl; exact rfl; exact hle) | (apply OQ.eqSB; exact rfl; exact rfl; exact h2) | (apply OQ.pick_t; exact rfl; exact rfl) | (apply OQ.move; exact rfl) | (apply OQ.assign; exact rfl) | (apply OQ.len; exact rfl; exact rfl) | (apply OQ.addN; exact rfl; exact rfl; exact (by (try simp only []); omega)) | (apply OQ.subN; exact rfl; exact rfl; exact (by (try simp only []); omega); exact (by (try simp only []); omega))) rfl ?_ | refine JC.seq ?_ | refine JC.region ?_ | refine JC.block ?_ | refine JC.skip ?_ | refine JC.exit ?_ | refine JL.nil ?_ | refine JE.next ?_ | refine JE.blk_normal ?_ | refine JE.then_exit ?_ | refine JE.blk_hit ?_ | refine JE.blk_miss rfl ?_ | refine JE.then_ret ?_ | refine JE.blk_ret ?_ | refine JC.label ?_ | refine JL.gon rfl rfl ?_ | refine JL.gskip rfl rfl rfl rfl ?_ | refine JL.gskipU rfl rfl rfl rfl ?_))
    all_goals exact JC.ret (JE.ret1 rfl (RV.tmp rfl) fun w' hw => ⟨rfl, hw.chg⟩)
def cpV (c : Bt) (s : List Bt) : Value := if s.head? = some c then .tuple #[Z s.tail, .bool true] else .tuple #[Z s, .bool false]
theorem scp_any (s : List Bt) (c : Bt) (w : World) : Calls Tryz.prog 67 [Z s, Z [c]].toArray w fun e w' => e = .returned (cpV c s) ∧ Ext w w' := by
  refine enter (n := 15) Tryz.func67 rfl rfl rfl (Holds.start w []) ?_
  have hq := fun w' => shp_any s c w'
  unfold cpV
  by_cases h : s.head? = some c
  · simp only [h, decide_true, if_true] at hq ⊢
    have hle : 1 ≤ s.length := by
      cases s with
      | nil => cases h
      | cons d r => simp
    repeat (first | refine JL.q (by first | (apply OQ.callx (vs := [Z s, Z [c]]); exact goes_shp; exact rfl; exact (fun w' _ => hq w')) | (apply OQ.not; exact rfl) | (apply OQ.move; exact rfl) | (apply OQ.assign; exact rfl) | (apply OQ.len; exact rfl; exact rfl) | (apply OQ.addN; exact rfl; exact rfl; exact (by (try simp only []); omega)) | (apply OQ.subN; exact rfl; exact rfl; exact (by (try simp only []); omega); exact (by (try simp only []); omega))) rfl ?_ | refine JC.seq ?_ | refine JC.region ?_ | refine JC.block ?_ | refine JC.skip ?_ | refine JC.exit ?_ | refine JL.nil ?_ | refine JE.next ?_ | refine JE.blk_normal ?_ | refine JE.then_exit ?_ | refine JE.blk_hit ?_ | refine JE.blk_miss rfl ?_ | refine JE.then_ret ?_ | refine JE.blk_ret ?_ | refine JC.label ?_ | refine JL.gon rfl rfl ?_ | refine JL.gskip rfl rfl rfl rfl ?_ | refine JL.gskipU rfl rfl rfl rfl ?_)
    refine JC.cond rfl (fun h => by cases h) (fun _ => ?_)
    repeat (first | refine JL.q (by first | (apply OQ.lenS; exact Tryz.underlying9; exact rfl) | (apply OQ.subS_lo (i := 1); exact Tryz.underlying9; exact rfl; exact rfl; exact hle) | (apply OQ.move; exact rfl) | (apply OQ.assign; exact rfl) | (apply OQ.len; exact rfl; exact rfl) | (apply OQ.addN; exact rfl; exact rfl; exact (by (try simp only []); omega)) | (apply OQ.subN; exact rfl; exact rfl; exact (by (try simp only []); omega); exact (by (try simp only []); omega))) rfl ?_ | refine JC.seq ?_ | refine JC.region ?_ | refine JC.block ?_ | refine JC.skip ?_ | refine JC.exit ?_ | refine JL.nil ?_ | refine JE.next ?_ | refine JE.blk_normal ?_ | refine JE.then_exit ?_ | refine JE.blk_hit ?_ | refine JE.blk_miss rfl ?_ | refine JE.then_ret ?_ | refine JE.blk_ret ?_ | refine JC.label ?_ | refine JL.gon rfl rfl ?_ | refine JL.gskip rfl rfl rfl rfl ?_ | refine JL.gskipU rfl rfl rfl rfl ?_)
    refine JC.ret ?_
    repeat (first | refine JL.q (by first | (apply OQ.move; exact rfl) | (apply OQ.assign; exact rfl) | (apply OQ.len; exact rfl; exact rfl) | (apply OQ.addN; exact rfl; exact rfl; exact (by (try simp only []); omega)) | (apply OQ.subN; exact rfl; exact rfl; exact (by (try simp only []); omega); exact (by (try simp only []); omega))) rfl ?_ | refine JC.seq ?_ | refine JC.region ?_ | refine JC.block ?_ | refine JC.skip ?_ | refine JC.exit ?_ | refine JL.nil ?_ | refine JE.next ?_ | refine JE.blk_normal ?_ | refine JE.then_exit ?_ | refine JE.blk_hit ?_ | refine JE.blk_miss rfl ?_ | refine JE.then_ret ?_ | refine JE.blk_ret ?_ | refine JC.label ?_ | refine JL.gon rfl rfl ?_ | refine JL.gskip rfl rfl rfl rfl ?_ | refine JL.gskipU rfl rfl rfl rfl ?_)
    refine JE.ret2 rfl (RV.tmp rfl) (RV.tmp rfl) fun w' hw => ⟨?_, hw.chg⟩
    rw [List.drop_one]
  · simp only [h, decide_false, if_false] at hq ⊢
    repeat (first | refine JL.q (by first | (apply OQ.callx (vs := [Z s, Z [c]]); exact goes_shp; exact rfl; exact (fun w' _ => hq w')) | (apply OQ.not; exact rfl) | (apply OQ.move; exact rfl) | (apply OQ.assign; exact rfl) | (apply OQ.len; exact rfl; exact rfl) | (apply OQ.addN; exact rfl; exact rfl; exact (by (try simp only []); omega)) | (apply OQ.subN; exact rfl; exact rfl; exact (by (try simp only []); omega); exact (by (try simp only []); omega))) rfl ?_ | refine JC.seq ?_ | refine JC.region ?_ | refine JC.block ?_ | refine JC.skip ?_ | refine JC.exit ?_ | refine JL.nil ?_ | refine JE.next ?_ | refine JE.blk_normal ?_ | refine JE.then_exit ?_ | refine JE.blk_hit ?_ | refine JE.blk_miss rfl ?_ | refine JE.then_ret ?_ | refine JE.blk_ret ?_ | refine JC.label ?_ | refine JL.gon rfl rfl ?_ | refine JL.gskip rfl rfl rfl rfl ?_ | refine JL.gskipU rfl rfl rfl rfl ?_)
    refine JC.cond rfl (fun _ => ?_) (fun h => by cases h)
    repeat (first | refine JL.q (by first | (apply OQ.move; exact rfl) | (apply OQ.assign; exact rfl) | (apply OQ.len; exact rfl; exact rfl) | (apply OQ.addN; exact rfl; exact rfl; exact (by (try simp only []); omega)) | (apply OQ.subN; exact rfl; exact rfl; exact (by (try simp only []); omega); exact (by (try simp only []); omega))) rfl ?_ | refine JC.seq ?_ | refine JC.region ?_ | refine JC.block ?_ | refine JC.skip ?_ | refine JC.exit ?_ | refine JL.nil ?_ | refine JE.next ?_ | refine JE.blk_normal ?_ | refine JE.then_exit ?_ | refine JE.blk_hit ?_ | refine JE.blk_miss rfl ?_ | refine JE.then_ret ?_ | refine JE.blk_ret ?_ | refine JC.label ?_ | refine JL.gon rfl rfl ?_ | refine JL.gskip rfl rfl rfl rfl ?_ | refine JL.gskipU rfl rfl rfl rfl ?_)
    refine JC.ret ?_
    repeat (first | refine JL.q (by first | (apply OQ.move; exact rfl) | (apply OQ.assign; exact rfl) | (apply OQ.len; exact rfl; exact rfl) | (apply OQ.addN; exact rfl; exact rfl; exact (by (try simp only []); omega)) | (apply OQ.subN; exact rfl; exact rfl; exact (by (try simp only []); omega); exact (by (try simp only []); omega))) rfl ?_ | refine JC.seq ?_ | refine JC.region ?_ | refine JC.block ?_ | refine JC.skip ?_ | refine JC.exit ?_ | refine JL.nil ?_ | refine JE.next ?_ | refine JE.blk_normal ?_ | refine JE.then_exit ?_ | refine JE.blk_hit ?_ | refine JE.blk_miss rfl ?_ | refine JE.then_ret ?_ | refine JE.blk_ret ?_ | refine JC.label ?_ | refine JL.gon rfl rfl ?_ | refine JL.gskip rfl rfl rfl rfl ?_ | refine JL.gskipU rfl rfl rfl rfl ?_)
    exact JE.ret2 rfl (RV.tmp rfl) (RV.tmp rfl) fun w' hw => ⟨rfl, hw.chg⟩
theorem cpw_any (s : List Bt) (c : Bt) (w : World) : Calls Tryz.prog 42 [Z s, Z [c]].toArray w fun e w' => e = .returned (cpV c s) ∧ Ext w w' := by
  refine enter (n := 11) Tryz.func42 rfl rfl rfl (Holds.start w []) ?_
  have hq := fun w' => scp_any s c w'
  unfold cpV at hq ⊢
  by_cases h : s.head? = some c
  · simp only [h, if_true] at hq ⊢
    repeat (first | refine JL.q (by first | (apply OQ.callx (vs := [Z s, Z [c]]); exact goes_scp; exact rfl; exact (fun w' _ => hq w')) | (apply OQ.extract; exact rfl; exact rfl) | (apply OQ.move; exact rfl) | (apply OQ.assign; exact rfl) | (apply OQ.len; exact rfl; exact rfl) | (apply OQ.addN; exact rfl; exact rfl; exact (by (try simp only []); omega)) | (apply OQ.subN; exact rfl; exact rfl; exact (by (try simp only []); omega); exact (by (try simp only []); omega))) rfl ?_ | refine JC.seq ?_ | refine JC.region ?_ | refine JC.block ?_ | refine JC.skip ?_ | refine JC.exit ?_ | refine JL.nil ?_ | refine JE.next ?_ | refine JE.blk_normal ?_ | refine JE.then_exit ?_ | refine JE.blk_hit ?_ | refine JE.blk_miss rfl ?_ | refine JE.then_ret ?_ | refine JE.blk_ret ?_ | refine JC.label ?_ | refine JL.gon rfl rfl ?_ | refine JL.gskip rfl rfl rfl rfl ?_ | refine JL.gskipU rfl rfl rfl rfl ?_)
    exact JC.ret (JE.ret2 rfl (RV.tmp rfl) (RV.tmp rfl) fun w' hw => ⟨rfl, hw.chg⟩)
  · simp only [h, if_false] at hq ⊢
    repeat (first | refine JL.q (by first | (apply OQ.callx (vs := [Z s, Z [c]]); exact goes_scp; exact rfl; exact (fun w' _ => hq w')) | (apply OQ.extract; exact rfl; exact rfl) | (apply OQ.move; exact rfl) | (apply OQ.assign; exact rfl) | (apply OQ.len; exact rfl; exact rfl) | (apply OQ.addN; exact rfl; exact rfl; exact (by (try simp only []); omega)) | (apply OQ.subN; exact rfl; exact rfl; exact (by (try simp only []); omega); exact (by (try simp only []); omega))) rfl ?_ | refine JC.seq ?_ | refine JC.region ?_ | refine JC.block ?_ | refine JC.skip ?_ | refine JC.exit ?_ | refine JL.nil ?_ | refine JE.next ?_ | refine JE.blk_normal ?_ | refine JE.then_exit ?_ | refine JE.blk_hit ?_ | refine JE.blk_miss rfl ?_ | refine JE.then_ret ?_ | refine JE.blk_ret ?_ | refine JC.label ?_ | refine JL.gon rfl rfl ?_ | refine JL.gskip rfl rfl rfl rfl ?_ | refine JL.gskipU rfl rfl rfl rfl ?_)
    exact JC.ret (JE.ret2 rfl (RV.tmp rfl) (RV.tmp rfl) fun w' hw => ⟨rfl, hw.chg⟩)
set_option maxHeartbeats 2000000 in
theorem shs_any (s : List Bt) (c : Bt) (w : World) (hl : s.length < 9223372036854775808) : Calls Tryz.prog 80 [Z s, Z [c]].toArray w fun e w' => e = .returned (.bool (decide (s.getLast? = some c))) ∧ Ext w w' := by
  refine enter (n := 21) Tryz.func80 rfl rfl rfl (Holds.start w []) ?_
  rw [last_is]
  cases h1 : decide ((1 : Int) ≤ (s.length : Int))
  · repeat (first | refine JL.q (by first | (apply OQ.lenS; exact Tryz.underlying9; exact rfl) | (apply OQ.geqB (b := 1); exact rfl; exact rfl; exact h1) | (apply OQ.pick_f; exact rfl; exact rfl) | (apply OQ.move; exact rfl) | (apply OQ.assign; exact rfl) | (apply OQ.len; exact rfl; exact rfl) | (apply OQ.addN; exact rfl; exact rfl; exact (by (try simp only []); omega)) | (apply OQ.subN; exact rfl; exact rfl; exact (by (try simp only []); omega); exact (by (try simp only []); omega))) rfl ?_ | refine JC.seq ?_ | refine JC.region ?_ | refine JC.block ?_ | refine JC.skip ?_ | refine JC.exit ?_ | refine JL.nil ?_ | refine JE.next ?_ | refine JE.blk_normal ?_ | refine JE.then_exit ?_ | refine JE.blk_hit ?_ | refine JE.blk_miss rfl ?_ | refine JE.then_ret ?_ | refine JE.blk_ret ?_ | refine JC.label ?_ | refine JL.gon rfl rfl ?_ | refine JL.gskip rfl rfl rfl rfl ?_ | refine JL.gskipU rfl rfl rfl rfl ?_)
    exact JC.ret (JE.ret1 rfl (RV.tmp rfl) fun w' hw => ⟨rfl, hw.chg⟩)
  · have hle : 1 ≤ s.length := by have := of_decide_eq_true h1; omega
    have hsub : s.length - 1 ≤ s.length := Nat.sub_le _ _
    cases h2 : decide (s.drop (s.length - 1) = [c])
    all_goals (repeat (first | refine JL.q (by first | (apply OQ.lenS; exact Tryz.underlying9; exact rfl) | (apply OQ.geqB (b := 1); exact rfl; exact rfl; exact h1) | (apply OQ.subN (b := 1); exact rfl; exact rfl; exact hle; exact hl) | (apply OQ.subS_lo (i := s.length - 1); exact Tryz.underlying9; exact rfl; exact rfl; exact hsub) | (apply OQ.eqSB; exact rfl; exact rfl; exact h2) | (apply OQ.pick_t; exact rfl; exact rfl) | (apply OQ.move; exact rfl) | (apply OQ.assign; exact rfl) | (apply OQ.len; exact rfl; exact rfl) | (apply OQ.addN; exact rfl; exact rfl; exact (by (try simp only []); omega)) | (apply OQ.subN; exact rfl; exact rfl; exact (by (try simp only []); omega); exact (by (try simp only []); omega))) rfl ?_ | refine JC.seq ?_ | refine JC.region ?_ | refine JC.block ?_ | refine JC.skip ?_ | refine JC.exit ?_ | refine JL.nil ?_ | refine JE.next ?_ | refine JE.blk_normal ?_ | refine JE.then_exit ?_ | refine JE.blk_hit ?_ | refine JE.blk_miss rfl ?_ | refine JE.then_ret ?_ | refine JE.blk_ret ?_ | refine JC.label ?_ | refine JL.gon rfl rfl ?_ | refine JL.gskip rfl rfl rfl rfl ?_ | refine JL.gskipU rfl rfl rfl rfl ?_))
    all_goals exact JC.ret (JE.ret1 rfl (RV.tmp rfl) fun w' hw => ⟨rfl, hw.chg⟩)
def csV (c : Bt) (s : List Bt) : Value := if s.getLast? = some c then .tuple #[Z s.dropLast, .bool true] else .tuple #[Z s, .bool false]
theorem scs_any (s : List Bt) (c : Bt) (w : World) (hl : s.length < 9223372036854775808) : Calls Tryz.prog 62 [Z s, Z [c]].toArray w fun e w' => e = .returned (csV c s) ∧ Ext w w' := by
  refine enter (n := 18) Tryz.func62 rfl rfl rfl (Holds.start w []) ?_
  have hq := fun w' => shs_any s c w' hl
  unfold csV
  by_cases h : s.getLast? = some c
  · simp only [h, decide_true, if_true] at hq ⊢
    have hle : 1 ≤ s.length := by
      cases s with
      | nil => cases h
      | cons d r => simp
    have hsub : s.length - 1 ≤ s.length := Nat.sub_le _ _
    repeat (first | refine JL.q (by first | (apply OQ.callx (vs := [Z s, Z [c]]); exact goes_shs; exact rfl; exact (fun w' _ => hq w')) | (apply OQ.not; exact rfl) | (apply OQ.move; exact rfl) | (apply OQ.assign; exact rfl) | (apply OQ.len; exact rfl; exact rfl) | (apply OQ.addN; exact rfl; exact rfl; exact (by (try simp only []); omega)) | (apply OQ.subN; exact rfl; exact rfl; exact (by (try simp only []); omega); exact (by (try simp only []); omega))) rfl ?_ | refine JC.seq ?_ | refine JC.region ?_ | refine JC.block ?_ | refine JC.skip ?_ | refine JC.exit ?_ | refine JL.nil ?_ | refine JE.next ?_ | refine JE.blk_normal ?_ | refine JE.then_exit ?_ | refine JE.blk_hit ?_ | refine JE.blk_miss rfl ?_ | refine JE.then_ret ?_ | refine JE.blk_ret ?_ | refine JC.label ?_ | refine JL.gon rfl rfl ?_ | refine JL.gskip rfl rfl rfl rfl ?_ | refine JL.gskipU rfl rfl rfl rfl ?_)
    refine JC.cond rfl (fun h => by cases h) (fun _ => ?_)
    repeat (first | refine JL.q (by first | (apply OQ.lenS; exact Tryz.underlying9; exact rfl) | (apply OQ.subN (b := 1); exact rfl; exact rfl; exact hle; exact hl) | (apply OQ.subS_hi (j := s.length - 1); exact Tryz.underlying9; exact rfl; exact rfl; exact hsub) | (apply OQ.move; exact rfl) | (apply OQ.assign; exact rfl) | (apply OQ.len; exact rfl; exact rfl) | (apply OQ.addN; exact rfl; exact rfl; exact (by (try simp only []); omega)) | (apply OQ.subN; exact rfl; exact rfl; exact (by (try simp only []); omega); exact (by (try simp only []); omega))) rfl ?_ | refine JC.seq ?_ | refine JC.region ?_ | refine JC.block ?_ | refine JC.skip ?_ | refine JC.exit ?_ | refine JL.nil ?_ | refine JE.next ?_ | refine JE.blk_normal ?_ | refine JE.then_exit ?_ | refine JE.blk_hit ?_ | refine JE.blk_miss rfl ?_ | refine JE.then_ret ?_ | refine JE.blk_ret ?_ | refine JC.label ?_ | refine JL.gon rfl rfl ?_ | refine JL.gskip rfl rfl rfl rfl ?_ | refine JL.gskipU rfl rfl rfl rfl ?_)
    refine JC.ret ?_
    repeat (first | refine JL.q (by first | (apply OQ.move; exact rfl) | (apply OQ.assign; exact rfl) | (apply OQ.len; exact rfl; exact rfl) | (apply OQ.addN; exact rfl; exact rfl; exact (by (try simp only []); omega)) | (apply OQ.subN; exact rfl; exact rfl; exact (by (try simp only []); omega); exact (by (try simp only []); omega))) rfl ?_ | refine JC.seq ?_ | refine JC.region ?_ | refine JC.block ?_ | refine JC.skip ?_ | refine JC.exit ?_ | refine JL.nil ?_ | refine JE.next ?_ | refine JE.blk_normal ?_ | refine JE.then_exit ?_ | refine JE.blk_hit ?_ | refine JE.blk_miss rfl ?_ | refine JE.then_ret ?_ | refine JE.blk_ret ?_ | refine JC.label ?_ | refine JL.gon rfl rfl ?_ | refine JL.gskip rfl rfl rfl rfl ?_ | refine JL.gskipU rfl rfl rfl rfl ?_)
    refine JE.ret2 rfl (RV.tmp rfl) (RV.tmp rfl) fun w' hw => ⟨?_, hw.chg⟩
    rw [List.dropLast_eq_take]
  · simp only [h, decide_false, if_false] at hq ⊢
    repeat (first | refine JL.q (by first | (apply OQ.callx (vs := [Z s, Z [c]]); exact goes_shs; exact rfl; exact (fun w' _ => hq w')) | (apply OQ.not; exact rfl) | (apply OQ.move; exact rfl) | (apply OQ.assign; exact rfl) | (apply OQ.len; exact rfl; exact rfl) | (apply OQ.addN; exact rfl; exact rfl; exact (by (try simp only []); omega)) | (apply OQ.subN; exact rfl; exact rfl; exact (by (try simp only []); omega); exact (by (try simp only []); omega))) rfl ?_ | refine JC.seq ?_ | refine JC.region ?_ | refine JC.block ?_ | refine JC.skip ?_ | refine JC.exit ?_ | refine JL.nil ?_ | refine JE.next ?_ | refine JE.blk_normal ?_ | refine JE.then_exit ?_ | refine JE.blk_hit ?_ | refine JE.blk_miss rfl ?_ | refine JE.then_ret ?_ | refine JE.blk_ret ?_ | refine JC.label ?_ | refine JL.gon rfl rfl ?_ | refine JL.gskip rfl rfl rfl rfl ?_ | refine JL.gskipU rfl rfl rfl rfl ?_)
    refine JC.cond rfl (fun _ => ?_) (fun h => by cases h)
    repeat (first | refine JL.q (by first | (apply OQ.move; exact rfl) | (apply OQ.assign; exact rfl) | (apply OQ.len; exact rfl; exact rfl) | (apply OQ.addN; exact rfl; exact rfl; exact (by (try simp only []); omega)) | (apply OQ.subN; exact rfl; exact rfl; exact (by (try simp only []); omega); exact (by (try simp only []); omega))) rfl ?_ | refine JC.seq ?_ | refine JC.region ?_ | refine JC.block ?_ | refine JC.skip ?_ | refine JC.exit ?_ | refine JL.nil ?_ | refine JE.next ?_ | refine JE.blk_normal ?_ | refine JE.then_exit ?_ | refine JE.blk_hit ?_ | refine JE.blk_miss rfl ?_ | refine JE.then_ret ?_ | refine JE.blk_ret ?_ | refine JC.label ?_ | refine JL.gon rfl rfl ?_ | refine JL.gskip rfl rfl rfl rfl ?_ | refine JL.gskipU rfl rfl rfl rfl ?_)
    refine JC.ret ?_
    repeat (first | refine JL.q (by first | (apply OQ.move; exact rfl) | (apply OQ.assign; exact rfl) | (apply OQ.len; exact rfl; exact rfl) | (apply OQ.addN; exact rfl; exact rfl; exact (by (try simp only []); omega)) | (apply OQ.subN; exact rfl; exact rfl; exact (by (try simp only []); omega); exact (by (try simp only []); omega))) rfl ?_ | refine JC.seq ?_ | refine JC.region ?_ | refine JC.block ?_ | refine JC.skip ?_ | refine JC.exit ?_ | refine JL.nil ?_ | refine JE.next ?_ | refine JE.blk_normal ?_ | refine JE.then_exit ?_ | refine JE.blk_hit ?_ | refine JE.blk_miss rfl ?_ | refine JE.then_ret ?_ | refine JE.blk_ret ?_ | refine JC.label ?_ | refine JL.gon rfl rfl ?_ | refine JL.gskip rfl rfl rfl rfl ?_ | refine JL.gskipU rfl rfl rfl rfl ?_)
    exact JE.ret2 rfl (RV.tmp rfl) (RV.tmp rfl) fun w' hw => ⟨rfl, hw.chg⟩
theorem csw_any (s : List Bt) (c : Bt) (w : World) (hl : s.length < 9223372036854775808) : Calls Tryz.prog 32 [Z s, Z [c]].toArray w fun e w' => e = .returned (csV c s) ∧ Ext w w' := by
  refine enter (n := 11) Tryz.func32 rfl rfl rfl (Holds.start w []) ?_
  have hq := fun w' => scs_any s c w' hl
  unfold csV at hq ⊢
  by_cases h : s.getLast? = some c
  · simp only [h, if_true] at hq ⊢
    repeat (first | refine JL.q (by first | (apply OQ.callx (vs := [Z s, Z [c]]); exact goes_scs; exact rfl; exact (fun w' _ => hq w')) | (apply OQ.extract; exact rfl; exact rfl) | (apply OQ.move; exact rfl) | (apply OQ.assign; exact rfl) | (apply OQ.len; exact rfl; exact rfl) | (apply OQ.addN; exact rfl; exact rfl; exact (by (try simp only []); omega)) | (apply OQ.subN; exact rfl; exact rfl; exact (by (try simp only []); omega); exact (by (try simp only []); omega))) rfl ?_ | refine JC.seq ?_ | refine JC.region ?_ | refine JC.block ?_ | refine JC.skip ?_ | refine JC.exit ?_ | refine JL.nil ?_ | refine JE.next ?_ | refine JE.blk_normal ?_ | refine JE.then_exit ?_ | refine JE.blk_hit ?_ | refine JE.blk_miss rfl ?_ | refine JE.then_ret ?_ | refine JE.blk_ret ?_ | refine JC.label ?_ | refine JL.gon rfl rfl ?_ | refine JL.gskip rfl rfl rfl rfl ?_ | refine JL.gskipU rfl rfl rfl rfl ?_)
    exact JC.ret (JE.ret2 rfl (RV.tmp rfl) (RV.tmp rfl) fun w' hw => ⟨rfl, hw.chg⟩)
  · simp only [h, if_false] at hq ⊢
    repeat (first | refine JL.q (by first | (apply OQ.callx (vs := [Z s, Z [c]]); exact goes_scs; exact rfl; exact (fun w' _ => hq w')) | (apply OQ.extract; exact rfl; exact rfl) | (apply OQ.move; exact rfl) | (apply OQ.assign; exact rfl) | (apply OQ.len; exact rfl; exact rfl) | (apply OQ.addN; exact rfl; exact rfl; exact (by (try simp only []); omega)) | (apply OQ.subN; exact rfl; exact rfl; exact (by (try simp only []); omega); exact (by (try simp only []); omega))) rfl ?_ | refine JC.seq ?_ | refine JC.region ?_ | refine JC.block ?_ | refine JC.skip ?_ | refine JC.exit ?_ | refine JL.nil ?_ | refine JE.next ?_ | refine JE.blk_normal ?_ | refine JE.then_exit ?_ | refine JE.blk_hit ?_ | refine JE.blk_miss rfl ?_ | refine JE.then_ret ?_ | refine JE.blk_ret ?_ | refine JC.label ?_ | refine JL.gon rfl rfl ?_ | refine JL.gskip rfl rfl rfl rfl ?_ | refine JL.gskipU rfl rfl rfl rfl ?_)
    exact JC.ret (JE.ret2 rfl (RV.tmp rfl) (RV.tmp rfl) fun w' hw => ⟨rfl, hw.chg⟩)
/-! ### a byte's last place -/
theorem goes_lastb : Goes Tryz.prog 63 := ⟨_, Tryz.func63, rfl, by kernel_rfl⟩
theorem goes_lastw : Goes Tryz.prog 33 := ⟨_, Tryz.func33, rfl, by kernel_rfl⟩
set_option maxHeartbeats 2000000 in
theorem lastb_any (s : List Bt) (c : Bt) (w : World) (hl : s.length < 9223372036854775808) : Calls Tryz.prog 63 [Z s, U8 c].toArray w fun e w' => e = .returned (I (ixL c s)) ∧ Ext w w' := by
  refine enter (n := 19) Tryz.func63 rfl rfl rfl (Holds.start w []) ?_
  repeat (first | refine JL.q (by first | (apply OQ.lenS; exact Tryz.underlying9; exact rfl) | (apply OQ.subI (a := (s.length : Int)) (b := 1); exact rfl; exact rfl; exact (by omega); exact (by omega)) | (apply OQ.move; exact rfl) | (apply OQ.assign; exact rfl) | (apply OQ.len; exact rfl; exact rfl) | (apply OQ.addN; exact rfl; exact rfl; exact (by (try simp only []); omega)) | (apply OQ.subN; exact rfl; exact rfl; exact (by (try simp only []); omega); exact (by (try simp only []); omega))) rfl ?_ | refine JC.seq ?_ | refine JC.region ?_ | refine JC.block ?_ | refine JC.skip ?_ | refine JC.exit ?_ | refine JL.nil ?_ | refine JE.next ?_ | refine JE.blk_normal ?_ | refine JE.then_exit ?_ | refine JE.blk_hit ?_ | refine JE.blk_miss rfl ?_ | refine JE.then_ret ?_ | refine JE.blk_ret ?_ | refine JC.label ?_ | refine JL.gon rfl rfl ?_ | refine JL.gskip rfl rfl rfl rfl ?_ | refine JL.gskipU rfl rfl rfl rfl ?_)
  refine JC.loop (fun i : Int => [(0, Z s), (1, U8 c), (5, I i)]) (fun _ => []) (fun i => (i + 1).toNat) (fun i => -1 ≤ i ∧ i < s.length ∧ (la c s : Int) = (s.length : Int) - 1 - i + la c (s.take (i + 1).toNat)) ((s.length : Int) - 1) ⟨by omega, by omega, by rw [show ((s.length : Int) - 1 + 1).toNat = s.length by omega, List.take_length]; omega⟩ (by repeat (first | exact SubE.nil | refine SubE.cons _ _ _ rfl ?_)) (Less.refl _) ?_
  rintro i ⟨h1, h2, h3⟩
  cases g : decide ((0 : Int) ≤ i)
  · have hi : i = -1 := by have := of_decide_eq_false g; omega
    subst hi
    have e : ixL c s = -1 := by
      unfold ixL
      have : la c (s.take ((-1 : Int) + 1).toNat) = 0 := rfl
      rw [this] at h3
      omega
    rw [e]
    repeat (first | refine JL.q (by first | (apply OQ.geqB (b := 0); exact rfl; exact rfl; exact g) | (apply OQ.move; exact rfl) | (apply OQ.assign; exact rfl) | (apply OQ.len; exact rfl; exact rfl) | (apply OQ.addN; exact rfl; exact rfl; exact (by (try simp only []); omega)) | (apply OQ.subN; exact rfl; exact rfl; exact (by (try simp only []); omega); exact (by (try simp only []); omega))) rfl ?_ | refine JC.seq ?_ | refine JC.region ?_ | refine JC.block ?_ | refine JC.skip ?_ | refine JC.exit ?_ | refine JL.nil ?_ | refine JE.next ?_ | refine JE.blk_normal ?_ | refine JE.then_exit ?_ | refine JE.blk_hit ?_ | refine JE.blk_miss rfl ?_ | refine JE.then_ret ?_ | refine JE.blk_ret ?_ | refine JC.label ?_ | refine JL.gon rfl rfl ?_ | refine JL.gskip rfl rfl rfl rfl ?_ | refine JL.gskipU rfl rfl rfl rfl ?_)
    refine JC.cond rfl (fun h => by cases h) (fun _ => ?_)
    repeat (first | refine JL.q (by first | (apply OQ.move; exact rfl) | (apply OQ.assign; exact rfl) | (apply OQ.len; exact rfl; exact rfl) | (apply OQ.addN; exact rfl; exact rfl; exact (by (try simp only []); omega)) | (apply OQ.subN; exact rfl; exact rfl; exact (by (try simp only []); omega); exact (by (try simp only []); omega))) rfl ?_ | refine JC.seq ?_ | refine JC.region ?_ | refine JC.block ?_ | refine JC.skip ?_ | refine JC.exit ?_ | refine JL.nil ?_ | refine JE.next ?_ | refine JE.blk_normal ?_ | refine JE.then_exit ?_ | refine JE.blk_hit ?_ | refine JE.blk_miss rfl ?_ | refine JE.then_ret ?_ | refine JE.blk_ret ?_ | refine JC.label ?_ | refine JL.gon rfl rfl ?_ | refine JL.gskip rfl rfl rfl rfl ?_ | refine JL.gskipU rfl rfl rfl rfl ?_)
    refine JC.ret ?_
    exact JE.ret1 rfl (RV.tmp rfl) fun w' hw => ⟨rfl, hw.chg⟩
  · obtain ⟨k, rfl⟩ : ∃ k : Nat, i = k := ⟨i.toNat, by have := of_decide_eq_true g; omega⟩
    have hk : k < s.length := by omega
    have ht : s.take ((k : Int) + 1).toNat = s.take k ++ [s.getD k 0] := by
      rw [show ((k : Int) + 1).toNat = k + 1 by omega]
      exact take_succ_getD s hk
    rw [ht, la_snoc] at h3
    have i0 : ∀ {n : Nat} {E : Env} {C : World → Prop} {dst : Option Tmp} {ty : TypeId} {pos : String} {aft : Array Edge} {g : Option (Nat × Bool)} {x y : Operand}, ev E x = some (Z s) → ev E y = some (I k) → OQ Tryz.prog n E C ⟨dst, .index 9 x y, ty, pos, aft, g⟩ (U8 (s.getD k 0)) := fun hx hy => OQ.idxZ Tryz.underlying9 hx hy hk
    generalize s.getD k 0 = d at h3 i0
    cases g2 : decide (d = c)
    · rw [if_neg (of_decide_eq_false g2)] at h3
      repeat (first | refine JL.q (by first | (apply OQ.geqB (b := 0); exact rfl; exact rfl; exact g) | (apply OQ.move; exact rfl) | (apply OQ.assign; exact rfl) | (apply OQ.len; exact rfl; exact rfl) | (apply OQ.addN; exact rfl; exact rfl; exact (by (try simp only []); omega)) | (apply OQ.subN; exact rfl; exact rfl; exact (by (try simp only []); omega); exact (by (try simp only []); omega))) rfl ?_ | refine JC.seq ?_ | refine JC.region ?_ | refine JC.block ?_ | refine JC.skip ?_ | refine JC.exit ?_ | refine JL.nil ?_ | refine JE.next ?_ | refine JE.blk_normal ?_ | refine JE.then_exit ?_ | refine JE.blk_hit ?_ | refine JE.blk_miss rfl ?_ | refine JE.then_ret ?_ | refine JE.blk_ret ?_ | refine JC.label ?_ | refine JL.gon rfl rfl ?_ | refine JL.gskip rfl rfl rfl rfl ?_ | refine JL.gskipU rfl rfl rfl rfl ?_)
      refine JC.cond rfl (fun _ => ?_) (fun h => by cases h)
      repeat (first | refine JL.q (by first | (apply i0; exact rfl; exact rfl) | (apply OQ.to; exact (OQ.eq8 rfl rfl); exact (congrArg Value.bool g2)) | (apply OQ.move; exact rfl) | (apply OQ.assign; exact rfl) | (apply OQ.len; exact rfl; exact rfl) | (apply OQ.addN; exact rfl; exact rfl; exact (by (try simp only []); omega)) | (apply OQ.subN; exact rfl; exact rfl; exact (by (try simp only []); omega); exact (by (try simp only []); omega))) rfl ?_ | refine JC.seq ?_ | refine JC.region ?_ | refine JC.block ?_ | refine JC.skip ?_ | refine JC.exit ?_ | refine JL.nil ?_ | refine JE.next ?_ | refine JE.blk_normal ?_ | refine JE.then_exit ?_ | refine JE.blk_hit ?_ | refine JE.blk_miss rfl ?_ | refine JE.then_ret ?_ | refine JE.blk_ret ?_ | refine JC.label ?_ | refine JL.gon rfl rfl ?_ | refine JL.gskip rfl rfl rfl rfl ?_ | refine JL.gskipU rfl rfl rfl rfl ?_)
      refine JC.cond rfl (fun h => by cases h) (fun _ => ?_)
      repeat (first | refine JL.q (by first | (apply OQ.subI (a := (k : Int)) (b := 1); exact rfl; exact rfl; exact (by omega); exact (by omega)) | (apply OQ.move; exact rfl) | (apply OQ.assign; exact rfl) | (apply OQ.len; exact rfl; exact rfl) | (apply OQ.addN; exact rfl; exact rfl; exact (by (try simp only []); omega)) | (apply OQ.subN; exact rfl; exact rfl; exact (by (try simp only []); omega); exact (by (try simp only []); omega))) rfl ?_ | refine JC.seq ?_ | refine JC.region ?_ | refine JC.block ?_ | refine JC.skip ?_ | refine JC.exit ?_ | refine JL.nil ?_ | refine JE.next ?_ | refine JE.blk_normal ?_ | refine JE.then_exit ?_ | refine JE.blk_hit ?_ | refine JE.blk_miss rfl ?_ | refine JE.then_ret ?_ | refine JE.blk_ret ?_ | refine JC.label ?_ | refine JL.gon rfl rfl ?_ | refine JL.gskip rfl rfl rfl rfl ?_ | refine JL.gskipU rfl rfl rfl rfl ?_)
      refine JE.again (i := (k : Int)) ((k : Int) - 1) ⟨by omega, by omega, ?_⟩ (by omega) (by repeat (first | exact SubE.nil | refine SubE.cons _ _ _ rfl ?_)) (Less.refl _)
      rw [show ((k : Int) - 1 + 1).toNat = k by omega]
      omega
    · rw [if_pos (of_decide_eq_true g2)] at h3
      have e : ixL c s = k := by
        unfold ixL
        omega
      rw [e]
      repeat (first | refine JL.q (by first | (apply OQ.geqB (b := 0); exact rfl; exact rfl; exact g) | (apply OQ.move; exact rfl) | (apply OQ.assign; exact rfl) | (apply OQ.len; exact rfl; exact rfl) | (apply OQ.addN; exact rfl; exact rfl; exact (by (try simp only []); omega)) | (apply OQ.subN; exact rfl; exact rfl; exact (by (try simp only []); omega); exact (by (try simp only []); omega))) rfl ?_ | refine JC.seq ?_ | refine JC.region ?_ | refine JC.block ?_ | refine JC.skip ?_ | refine JC.exit ?_ | refine JL.nil ?_ | refine JE.next ?_ | refine JE.blk_normal ?_ | refine JE.then_exit ?_ | refine JE.blk_hit ?_ | refine JE.blk_miss rfl ?_ | refine JE.then_ret ?_ | refine JE.blk_ret ?_ | refine JC.label ?_ | refine JL.gon rfl rfl ?_ | refine JL.gskip rfl rfl rfl rfl ?_ | refine JL.gskipU rfl rfl rfl rfl ?_)
      refine JC.cond rfl (fun _ => ?_) (fun h => by cases h)
      repeat (first | refine JL.q (by first | (apply i0; exact rfl; exact rfl) | (apply OQ.to; exact (OQ.eq8 rfl rfl); exact (congrArg Value.bool g2)) | (apply OQ.move; exact rfl) | (apply OQ.assign; exact rfl) | (apply OQ.len; exact rfl; exact rfl) | (apply OQ.addN; exact rfl; exact rfl; exact (by (try simp only []); omega)) | (apply OQ.subN; exact rfl; exact rfl; exact (by (try simp only []); omega); exact (by (try simp only []); omega))) rfl ?_ | refine JC.seq ?_ | refine JC.region ?_ | refine JC.block ?_ | refine JC.skip ?_ | refine JC.exit ?_ | refine JL.nil ?_ | refine JE.next ?_ | refine JE.blk_normal ?_ | refine JE.then_exit ?_ | refine JE.blk_hit ?_ | refine JE.blk_miss rfl ?_ | refine JE.then_ret ?_ | refine JE.blk_ret ?_ | refine JC.label ?_ | refine JL.gon rfl rfl ?_ | refine JL.gskip rfl rfl rfl rfl ?_ | refine JL.gskipU rfl rfl rfl rfl ?_)
      refine JC.cond rfl (fun _ => ?_) (fun h => by cases h)
      repeat (first | refine JL.q (by first | (apply OQ.move; exact rfl) | (apply OQ.assign; exact rfl) | (apply OQ.len; exact rfl; exact rfl) | (apply OQ.addN; exact rfl; exact rfl; exact (by (try simp only []); omega)) | (apply OQ.subN; exact rfl; exact rfl; exact (by (try simp only []); omega); exact (by (try simp only []); omega))) rfl ?_ | refine JC.seq ?_ | refine JC.region ?_ | refine JC.block ?_ | refine JC.skip ?_ | refine JC.exit ?_ | refine JL.nil ?_ | refine JE.next ?_ | refine JE.blk_normal ?_ | refine JE.then_exit ?_ | refine JE.blk_hit ?_ | refine JE.blk_miss rfl ?_ | refine JE.then_ret ?_ | refine JE.blk_ret ?_ | refine JC.label ?_ | refine JL.gon rfl rfl ?_ | refine JL.gskip rfl rfl rfl rfl ?_ | refine JL.gskipU rfl rfl rfl rfl ?_)
      refine JC.ret ?_
      repeat (first | refine JL.q (by first | (apply OQ.move; exact rfl) | (apply OQ.assign; exact rfl) | (apply OQ.len; exact rfl; exact rfl) | (apply OQ.addN; exact rfl; exact rfl; exact (by (try simp only []); omega)) | (apply OQ.subN; exact rfl; exact rfl; exact (by (try simp only []); omega); exact (by (try simp only []); omega))) rfl ?_ | refine JC.seq ?_ | refine JC.region ?_ | refine JC.block ?_ | refine JC.skip ?_ | refine JC.exit ?_ | refine JL.nil ?_ | refine JE.next ?_ | refine JE.blk_normal ?_ | refine JE.then_exit ?_ | refine JE.blk_hit ?_ | refine JE.blk_miss rfl ?_ | refine JE.then_ret ?_ | refine JE.blk_ret ?_ | refine JC.label ?_ | refine JL.gon rfl rfl ?_ | refine JL.gskip rfl rfl rfl rfl ?_ | refine JL.gskipU rfl rfl rfl rfl ?_)
      exact JE.ret1 rfl (RV.tmp rfl) fun w' hw => ⟨rfl, hw.chg⟩
theorem lastw_any (s : List Bt) (c : Bt) (w : World) (hl : s.length < 9223372036854775808) : Calls Tryz.prog 33 [Z s, U8 c].toArray w fun e w' => e = .returned (I (ixL c s)) ∧ Ext w w' := by
  refine enter (n := 8) Tryz.func33 rfl rfl rfl (Holds.start w []) ?_
  repeat (first | refine JL.q (by first | (apply OQ.callx (vs := [Z s, U8 c]); exact goes_lastb; exact rfl; exact (fun w' _ => lastb_any s c w' hl)) | (apply OQ.move; exact rfl) | (apply OQ.assign; exact rfl) | (apply OQ.len; exact rfl; exact rfl) | (apply OQ.addN; exact rfl; exact rfl; exact (by (try simp only []); omega)) | (apply OQ.subN; exact rfl; exact rfl; exact (by (try simp only []); omega); exact (by (try simp only []); omega))) rfl ?_ | refine JC.seq ?_ | refine JC.region ?_ | refine JC.block ?_ | refine JC.skip ?_ | refine JC.exit ?_ | refine JL.nil ?_ | refine JE.next ?_ | refine JE.blk_normal ?_ | refine JE.then_exit ?_ | refine JE.blk_hit ?_ | refine JE.blk_miss rfl ?_ | refine JE.then_ret ?_ | refine JE.blk_ret ?_ | refine JC.label ?_ | refine JL.gon rfl rfl ?_ | refine JL.gskip rfl rfl rfl rfl ?_ | refine JL.gskipU rfl rfl rfl rfl ?_)
  exact JC.ret (JE.ret1 rfl (RV.tmp rfl) fun w' hw => ⟨rfl, hw.chg⟩)
end Go.Proofs.YtchoiikhepjdiaaGreatDoor

/-
  Of no statement by itself: what the reference's Trim, Dotted and Kind (layer 10) give.
  Conditions: each theorem's own.
-/
namespace Go.Proofs.YtchoiikhepjdiaaGreatDoor
set_option maxRecDepth 10000
open Sl Fld Tok
theorem goes_rtrim : Goes Tryz.prog 20 := ⟨_, Tryz.func20, rfl, by kernel_rfl⟩
theorem goes_rkind : Goes Tryz.prog 21 := ⟨_, Tryz.func21, rfl, by kernel_rfl⟩
theorem bl_is10 : ∀ c : Fld.By, bl c = (decide ((c.toNat : Int) = 32) || decide ((c.toNat : Int) = 9)) := by
  have h : ∀ c : Fin 256, bl (BitVec.ofNat 8 c.val) = (decide (((BitVec.ofNat 8 c.val).toNat : Int) = 32) || decide (((BitVec.ofNat 8 c.val).toNat : Int) = 9)) := by decide +kernel
  intro c
  simpa using h ⟨c.toNat, c.isLt⟩
theorem trimL_go : ∀ {v : List Fld.By}, 0 < v.length → bl (v.getD 0 0) = true → trimL (v.drop 1) = trimL v
  | [], h, _ => by simp at h
  | c :: r, _, h => by
    have h' : bl c = true := h
    show trimL r = List.dropWhile bl (c :: r)
    rw [List.dropWhile_cons, if_pos h']; rfl
theorem trimL_stop : ∀ {v : List Fld.By}, (0 < v.length → bl (v.getD 0 0) = false) → trimL v = v
  | [], _ => rfl
  | c :: r, h => by
    have h' : bl c = false := h (by simp)
    show List.dropWhile bl (c :: r) = _
    rw [List.dropWhile_cons, if_neg (by rw [h']; decide)]
theorem rev_last {v : List Fld.By} (h : 0 < v.length) : v.reverse = v.getD (v.length - 1) 0 :: (v.take (v.length - 1)).reverse := by
  have h1 := take_succ_getD v (i := v.length - 1) (by omega)
  rw [show v.length - 1 + 1 = v.length by omega, List.take_length] at h1
  conv => lhs; rw [h1]
  simp
theorem trimR_go {v : List Fld.By} (h : 0 < v.length) (hb : bl (v.getD (v.length - 1) 0) = true) : trimL (v.take (v.length - 1)).reverse = trimL v.reverse := by
  rw [rev_last h]
  exact trimL_go (v := _ :: _) (by simp) hb
theorem trimR_stop {v : List Fld.By} (h : 0 < v.length → bl (v.getD (v.length - 1) 0) = false) : trimL v.reverse = v.reverse :=
  trimL_stop fun h0 => by
    rw [List.length_reverse] at h0
    rw [rev_last h0]
    exact h h0
theorem trim_short (s : List Fld.By) : (trim s).length ≤ s.length := by
  have h : ∀ l : List Fld.By, (trimL l).length ≤ l.length := fun l => (List.dropWhile_sublist _).length_le
  have h1 := h s
  have h2 := h (trimL s).reverse
  simp only [trim, List.length_reverse] at h2 ⊢
  omega
set_option maxHeartbeats 16000000 in
theorem rtrim_any (s : List Fld.By) (w : World) (hl : s.length < 9223372036854775808) : Calls Tryz.prog 20 [Z s].toArray w fun e w' => e = .returned (Z (trim s)) ∧ Ext w w' := by
  refine enter (n := 43) Tryz.func20 rfl rfl rfl (Holds.start w []) ?_
  repeat (first | refine JL.q (by first | (apply OQ.move; exact rfl) | (apply OQ.assign; exact rfl) | (apply OQ.len; exact rfl; exact rfl) | (apply OQ.addN; exact rfl; exact rfl; exact (by (try simp only []); omega)) | (apply OQ.subN; exact rfl; exact rfl; exact (by (try simp only []); omega); exact (by (try simp only []); omega)) | (apply OQ.lssN; exact rfl; exact rfl)) rfl ?_ | refine JC.seq ?_ | refine JC.region ?_ | refine JC.block ?_ | refine JC.skip ?_ | refine JC.exit ?_ | refine JL.nil ?_ | refine JE.next ?_ | refine JE.blk_normal ?_ | refine JE.then_exit ?_ | refine JE.blk_hit ?_ | refine JE.blk_miss rfl ?_ | refine JE.then_ret ?_ | refine JE.blk_ret ?_ | refine JC.label ?_ | refine JL.gon rfl rfl ?_ | refine JL.gskip rfl rfl rfl rfl ?_ | refine JL.gskipU rfl rfl rfl rfl ?_)
  refine JC.joinB (ι := Unit) (fun _ => [(0, Z (trimL s))]) (fun _ => []) (fun _ => True) ?_ ?_
  · refine JC.loop (fun v : List Fld.By => [(0, Z v)]) (fun _ => []) (fun v => v.length) (fun v => v.length ≤ s.length ∧ trimL v = trimL s) s ⟨Nat.le_refl _, rfl⟩ (by repeat (first | exact SubE.nil | refine SubE.cons _ _ _ rfl ?_)) (Less.refl _) ?_
    rintro v ⟨hv, ht⟩
    cases h0 : decide ((0 : Int) < (v.length : Int))
    case true =>
      have hp : 0 < v.length := by have := of_decide_eq_true h0; omega
      have hidx := fun {n : Nat} {E : Env} {C : World → Prop} {dst : Option Tmp} {ty : TypeId} {pos : String} {aft : Array Edge} {g : Option (Nat × Bool)} {x y : Operand} => idxAt10 hp (n := n) (E := E) (C := C) (dst := dst) (ty := ty) (pos := pos) (aft := aft) (g := g) (x := x) (y := y)
      have hgo := trimL_go hp
      have hst := trimL_stop (v := v)
      have hb := bl_is10 (v.getD 0 0)
      generalize v.getD 0 0 = c at hidx hgo hst hb
      cases h1 : decide ((c.toNat : Int) = 32) <;> cases h2 : decide ((c.toNat : Int) = 9)
      all_goals (
        rw [h1, h2] at hb
        (repeat (first | refine JL.q (by first | (apply OQ.lenS; exact Tryz.underlying9; exact rfl) | (apply OQ.gtrB (b := 0); exact rfl; exact rfl; exact h0) | (apply hidx; exact rfl; exact rfl) | (apply OQ.eqB (b := 32); exact rfl; exact rfl; exact h1) | (apply OQ.eqB (b := 9); exact rfl; exact rfl; exact h2) | (apply OQ.pick_t; exact rfl; exact rfl) | (apply OQ.pick_f; exact rfl; exact rfl) | (apply OQ.move; exact rfl) | (apply OQ.assign; exact rfl) | (apply OQ.len; exact rfl; exact rfl) | (apply OQ.addN; exact rfl; exact rfl; exact (by (try simp only []); omega)) | (apply OQ.subN; exact rfl; exact rfl; exact (by (try simp only []); omega); exact (by (try simp only []); omega)) | (apply OQ.lssN; exact rfl; exact rfl)) rfl ?_ | refine JC.seq ?_ | refine JC.region ?_ | refine JC.block ?_ | refine JC.skip ?_ | refine JC.exit ?_ | refine JL.nil ?_ | refine JE.next ?_ | refine JE.blk_normal ?_ | refine JE.then_exit ?_ | refine JE.blk_hit ?_ | refine JE.blk_miss rfl ?_ | refine JE.then_ret ?_ | refine JE.blk_ret ?_ | refine JC.label ?_ | refine JL.gon rfl rfl ?_ | refine JL.gskip rfl rfl rfl rfl ?_ | refine JL.gskipU rfl rfl rfl rfl ?_))
        refine JC.cond rfl (fun h => ?_) (fun h => ?_)
        all_goals first | (exfalso; revert h; decide) | skip
        all_goals clear h)
      case false.false =>
        rw [← ht, hst fun _ => hb]
        (repeat (first | refine JL.q (by first | (apply OQ.move; exact rfl) | (apply OQ.assign; exact rfl) | (apply OQ.len; exact rfl; exact rfl) | (apply OQ.addN; exact rfl; exact rfl; exact (by (try simp only []); omega)) | (apply OQ.subN; exact rfl; exact rfl; exact (by (try simp only []); omega); exact (by (try simp only []); omega)) | (apply OQ.lssN; exact rfl; exact rfl)) rfl ?_ | refine JC.seq ?_ | refine JC.region ?_ | refine JC.block ?_ | refine JC.skip ?_ | refine JC.exit ?_ | refine JL.nil ?_ | refine JE.next ?_ | refine JE.blk_normal ?_ | refine JE.then_exit ?_ | refine JE.blk_hit ?_ | refine JE.blk_miss rfl ?_ | refine JE.then_ret ?_ | refine JE.blk_ret ?_ | refine JC.label ?_ | refine JL.gon rfl rfl ?_ | refine JL.gskip rfl rfl rfl rfl ?_ | refine JL.gskipU rfl rfl rfl rfl ?_))
        exact JE.mid () trivial (by repeat (first | exact SubE.nil | refine SubE.cons _ _ _ rfl ?_)) (Less.refl _)
      all_goals (
        (repeat (first | refine JL.q (by first | (apply OQ.subS_lo (i := 1); exact Tryz.underlying9; exact rfl; exact rfl; exact (by omega)) | (apply OQ.move; exact rfl) | (apply OQ.assign; exact rfl) | (apply OQ.len; exact rfl; exact rfl) | (apply OQ.addN; exact rfl; exact rfl; exact (by (try simp only []); omega)) | (apply OQ.subN; exact rfl; exact rfl; exact (by (try simp only []); omega); exact (by (try simp only []); omega)) | (apply OQ.lssN; exact rfl; exact rfl)) rfl ?_ | refine JC.seq ?_ | refine JC.region ?_ | refine JC.block ?_ | refine JC.skip ?_ | refine JC.exit ?_ | refine JL.nil ?_ | refine JE.next ?_ | refine JE.blk_normal ?_ | refine JE.then_exit ?_ | refine JE.blk_hit ?_ | refine JE.blk_miss rfl ?_ | refine JE.then_ret ?_ | refine JE.blk_ret ?_ | refine JC.label ?_ | refine JL.gon rfl rfl ?_ | refine JL.gskip rfl rfl rfl rfl ?_ | refine JL.gskipU rfl rfl rfl rfl ?_))
        refine JE.again (i := v) (v.drop 1) ⟨by rw [List.length_drop]; omega, by rw [hgo hb, ht]⟩ (by rw [List.length_drop]; omega) (by repeat (first | exact SubE.nil | refine SubE.cons _ _ _ rfl ?_)) (Less.refl _))
    case false =>
      have hn : ¬ 0 < v.length := by have := of_decide_eq_false h0; omega
      rw [← ht, trimL_stop fun h => absurd h hn]
      repeat (first | refine JL.q (by first | (apply OQ.lenS; exact Tryz.underlying9; exact rfl) | (apply OQ.gtrB (b := 0); exact rfl; exact rfl; exact h0) | (apply OQ.pick_f; exact rfl; exact rfl) | (apply OQ.move; exact rfl) | (apply OQ.assign; exact rfl) | (apply OQ.len; exact rfl; exact rfl) | (apply OQ.addN; exact rfl; exact rfl; exact (by (try simp only []); omega)) | (apply OQ.subN; exact rfl; exact rfl; exact (by (try simp only []); omega); exact (by (try simp only []); omega)) | (apply OQ.lssN; exact rfl; exact rfl)) rfl ?_ | refine JC.seq ?_ | refine JC.region ?_ | refine JC.block ?_ | refine JC.skip ?_ | refine JC.exit ?_ | refine JL.nil ?_ | refine JE.next ?_ | refine JE.blk_normal ?_ | refine JE.then_exit ?_ | refine JE.blk_hit ?_ | refine JE.blk_miss rfl ?_ | refine JE.then_ret ?_ | refine JE.blk_ret ?_ | refine JC.label ?_ | refine JL.gon rfl rfl ?_ | refine JL.gskip rfl rfl rfl rfl ?_ | refine JL.gskipU rfl rfl rfl rfl ?_)
      refine JC.cond rfl (fun h => by cases h) (fun h => ?_)
      repeat (first | refine JL.q (by first | (apply OQ.move; exact rfl) | (apply OQ.assign; exact rfl) | (apply OQ.len; exact rfl; exact rfl) | (apply OQ.addN; exact rfl; exact rfl; exact (by (try simp only []); omega)) | (apply OQ.subN; exact rfl; exact rfl; exact (by (try simp only []); omega); exact (by (try simp only []); omega)) | (apply OQ.lssN; exact rfl; exact rfl)) rfl ?_ | refine JC.seq ?_ | refine JC.region ?_ | refine JC.block ?_ | refine JC.skip ?_ | refine JC.exit ?_ | refine JL.nil ?_ | refine JE.next ?_ | refine JE.blk_normal ?_ | refine JE.then_exit ?_ | refine JE.blk_hit ?_ | refine JE.blk_miss rfl ?_ | refine JE.then_ret ?_ | refine JE.blk_ret ?_ | refine JC.label ?_ | refine JL.gon rfl rfl ?_ | refine JL.gskip rfl rfl rfl rfl ?_ | refine JL.gskipU rfl rfl rfl rfl ?_)
      exact JE.mid () trivial (by repeat (first | exact SubE.nil | refine SubE.cons _ _ _ rfl ?_)) (Less.refl _)
  rintro ⟨⟩ _
  have hs1 : (trimL s).length ≤ s.length := (List.dropWhile_sublist _).length_le
  rw [show trim s = (trimL (trimL s).reverse).reverse from rfl]
  generalize trimL s = u at hs1 ⊢
  repeat (first | refine JL.q (by first | (apply OQ.move; exact rfl) | (apply OQ.assign; exact rfl) | (apply OQ.len; exact rfl; exact rfl) | (apply OQ.addN; exact rfl; exact rfl; exact (by (try simp only []); omega)) | (apply OQ.subN; exact rfl; exact rfl; exact (by (try simp only []); omega); exact (by (try simp only []); omega)) | (apply OQ.lssN; exact rfl; exact rfl)) rfl ?_ | refine JC.seq ?_ | refine JC.region ?_ | refine JC.block ?_ | refine JC.skip ?_ | refine JC.exit ?_ | refine JL.nil ?_ | refine JE.next ?_ | refine JE.blk_normal ?_ | refine JE.then_exit ?_ | refine JE.blk_hit ?_ | refine JE.blk_miss rfl ?_ | refine JE.then_ret ?_ | refine JE.blk_ret ?_ | refine JC.label ?_ | refine JL.gon rfl rfl ?_ | refine JL.gskip rfl rfl rfl rfl ?_ | refine JL.gskipU rfl rfl rfl rfl ?_)
  refine JC.joinB (ι := Unit) (fun _ => [(0, Z (trimL u.reverse).reverse)]) (fun _ => []) (fun _ => True) ?_ ?_
  · refine JC.loop (fun v : List Fld.By => [(0, Z v)]) (fun _ => []) (fun v => v.length) (fun v => v.length ≤ s.length ∧ trimL v.reverse = trimL u.reverse) u ⟨hs1, rfl⟩ (by repeat (first | exact SubE.nil | refine SubE.cons _ _ _ rfl ?_)) (Less.refl _) ?_
    rintro v ⟨hv, ht⟩
    cases h0 : decide ((0 : Int) < (v.length : Int))
    case true =>
      have hp : 0 < v.length := by have := of_decide_eq_true h0; omega
      have hidx := fun {n : Nat} {E : Env} {C : World → Prop} {dst : Option Tmp} {ty : TypeId} {pos : String} {aft : Array Edge} {g : Option (Nat × Bool)} {x y : Operand} => idxAt10 (s := v) (i := v.length - 1) (by omega) (n := n) (E := E) (C := C) (dst := dst) (ty := ty) (pos := pos) (aft := aft) (g := g) (x := x) (y := y)
      have hgo := trimR_go hp
      have hst := trimR_stop (v := v)
      have hb := bl_is10 (v.getD (v.length - 1) 0)
      generalize v.getD (v.length - 1) 0 = c at hidx hgo hst hb
      cases h1 : decide ((c.toNat : Int) = 32) <;> cases h2 : decide ((c.toNat : Int) = 9)
      all_goals (
        rw [h1, h2] at hb
        (repeat (first | refine JL.q (by first | (apply OQ.lenS; exact Tryz.underlying9; exact rfl) | (apply OQ.gtrB (b := 0); exact rfl; exact rfl; exact h0) | (apply hidx; exact rfl; exact rfl) | (apply OQ.eqB (b := 32); exact rfl; exact rfl; exact h1) | (apply OQ.eqB (b := 9); exact rfl; exact rfl; exact h2) | (apply OQ.pick_t; exact rfl; exact rfl) | (apply OQ.pick_f; exact rfl; exact rfl) | (apply OQ.move; exact rfl) | (apply OQ.assign; exact rfl) | (apply OQ.len; exact rfl; exact rfl) | (apply OQ.addN; exact rfl; exact rfl; exact (by (try simp only []); omega)) | (apply OQ.subN; exact rfl; exact rfl; exact (by (try simp only []); omega); exact (by (try simp only []); omega)) | (apply OQ.lssN; exact rfl; exact rfl)) rfl ?_ | refine JC.seq ?_ | refine JC.region ?_ | refine JC.block ?_ | refine JC.skip ?_ | refine JC.exit ?_ | refine JL.nil ?_ | refine JE.next ?_ | refine JE.blk_normal ?_ | refine JE.then_exit ?_ | refine JE.blk_hit ?_ | refine JE.blk_miss rfl ?_ | refine JE.then_ret ?_ | refine JE.blk_ret ?_ | refine JC.label ?_ | refine JL.gon rfl rfl ?_ | refine JL.gskip rfl rfl rfl rfl ?_ | refine JL.gskipU rfl rfl rfl rfl ?_))
        refine JC.cond rfl (fun h => ?_) (fun h => ?_)
        all_goals first | (exfalso; revert h; decide) | skip
        all_goals clear h)
      case false.false =>
        rw [← ht, hst fun _ => hb, List.reverse_reverse]
        (repeat (first | refine JL.q (by first | (apply OQ.move; exact rfl) | (apply OQ.assign; exact rfl) | (apply OQ.len; exact rfl; exact rfl) | (apply OQ.addN; exact rfl; exact rfl; exact (by (try simp only []); omega)) | (apply OQ.subN; exact rfl; exact rfl; exact (by (try simp only []); omega); exact (by (try simp only []); omega)) | (apply OQ.lssN; exact rfl; exact rfl)) rfl ?_ | refine JC.seq ?_ | refine JC.region ?_ | refine JC.block ?_ | refine JC.skip ?_ | refine JC.exit ?_ | refine JL.nil ?_ | refine JE.next ?_ | refine JE.blk_normal ?_ | refine JE.then_exit ?_ | refine JE.blk_hit ?_ | refine JE.blk_miss rfl ?_ | refine JE.then_ret ?_ | refine JE.blk_ret ?_ | refine JC.label ?_ | refine JL.gon rfl rfl ?_ | refine JL.gskip rfl rfl rfl rfl ?_ | refine JL.gskipU rfl rfl rfl rfl ?_))
        exact JE.mid () trivial (by repeat (first | exact SubE.nil | refine SubE.cons _ _ _ rfl ?_)) (Less.refl _)
      all_goals (
        (repeat (first | refine JL.q (by first | (apply OQ.lenS; exact Tryz.underlying9; exact rfl) | (apply OQ.subS_hi (j := v.length - 1); exact Tryz.underlying9; exact rfl; exact rfl; exact (by omega)) | (apply OQ.move; exact rfl) | (apply OQ.assign; exact rfl) | (apply OQ.len; exact rfl; exact rfl) | (apply OQ.addN; exact rfl; exact rfl; exact (by (try simp only []); omega)) | (apply OQ.subN; exact rfl; exact rfl; exact (by (try simp only []); omega); exact (by (try simp only []); omega)) | (apply OQ.lssN; exact rfl; exact rfl)) rfl ?_ | refine JC.seq ?_ | refine JC.region ?_ | refine JC.block ?_ | refine JC.skip ?_ | refine JC.exit ?_ | refine JL.nil ?_ | refine JE.next ?_ | refine JE.blk_normal ?_ | refine JE.then_exit ?_ | refine JE.blk_hit ?_ | refine JE.blk_miss rfl ?_ | refine JE.then_ret ?_ | refine JE.blk_ret ?_ | refine JC.label ?_ | refine JL.gon rfl rfl ?_ | refine JL.gskip rfl rfl rfl rfl ?_ | refine JL.gskipU rfl rfl rfl rfl ?_))
        refine JE.again (i := v) (v.take (v.length - 1)) ⟨by rw [List.length_take]; omega, by rw [hgo hb, ht]⟩ (by rw [List.length_take]; omega) (by repeat (first | exact SubE.nil | refine SubE.cons _ _ _ rfl ?_)) (Less.refl _))
    case false =>
      have hn : ¬ 0 < v.length := by have := of_decide_eq_false h0; omega
      rw [← ht, trimR_stop fun h => absurd h hn, List.reverse_reverse]
      repeat (first | refine JL.q (by first | (apply OQ.lenS; exact Tryz.underlying9; exact rfl) | (apply OQ.gtrB (b := 0); exact rfl; exact rfl; exact h0) | (apply OQ.pick_f; exact rfl; exact rfl) | (apply OQ.move; exact rfl) | (apply OQ.assign; exact rfl) | (apply OQ.len; exact rfl; exact rfl) | (apply OQ.addN; exact rfl; exact rfl; exact (by (try simp only []); omega)) | (apply OQ.subN; exact rfl; exact rfl; exact (by (try simp only []); omega); exact (by (try simp only []); omega)) | (apply OQ.lssN; exact rfl; exact rfl)) rfl ?_ | refine JC.seq ?_ | refine JC.region ?_ | refine JC.block ?_ | refine JC.skip ?_ | refine JC.exit ?_ | refine JL.nil ?_ | refine JE.next ?_ | refine JE.blk_normal ?_ | refine JE.then_exit ?_ | refine JE.blk_hit ?_ | refine JE.blk_miss rfl ?_ | refine JE.then_ret ?_ | refine JE.blk_ret ?_ | refine JC.label ?_ | refine JL.gon rfl rfl ?_ | refine JL.gskip rfl rfl rfl rfl ?_ | refine JL.gskipU rfl rfl rfl rfl ?_)
      refine JC.cond rfl (fun h => by cases h) (fun h => ?_)
      repeat (first | refine JL.q (by first | (apply OQ.move; exact rfl) | (apply OQ.assign; exact rfl) | (apply OQ.len; exact rfl; exact rfl) | (apply OQ.addN; exact rfl; exact rfl; exact (by (try simp only []); omega)) | (apply OQ.subN; exact rfl; exact rfl; exact (by (try simp only []); omega); exact (by (try simp only []); omega)) | (apply OQ.lssN; exact rfl; exact rfl)) rfl ?_ | refine JC.seq ?_ | refine JC.region ?_ | refine JC.block ?_ | refine JC.skip ?_ | refine JC.exit ?_ | refine JL.nil ?_ | refine JE.next ?_ | refine JE.blk_normal ?_ | refine JE.then_exit ?_ | refine JE.blk_hit ?_ | refine JE.blk_miss rfl ?_ | refine JE.then_ret ?_ | refine JE.blk_ret ?_ | refine JC.label ?_ | refine JL.gon rfl rfl ?_ | refine JL.gskip rfl rfl rfl rfl ?_ | refine JL.gskipU rfl rfl rfl rfl ?_)
      exact JE.mid () trivial (by repeat (first | exact SubE.nil | refine SubE.cons _ _ _ rfl ?_)) (Less.refl _)
  rintro ⟨⟩ _
  repeat (first | refine JL.q (by first | (apply OQ.move; exact rfl) | (apply OQ.assign; exact rfl) | (apply OQ.len; exact rfl; exact rfl) | (apply OQ.addN; exact rfl; exact rfl; exact (by (try simp only []); omega)) | (apply OQ.subN; exact rfl; exact rfl; exact (by (try simp only []); omega); exact (by (try simp only []); omega)) | (apply OQ.lssN; exact rfl; exact rfl)) rfl ?_ | refine JC.seq ?_ | refine JC.region ?_ | refine JC.block ?_ | refine JC.skip ?_ | refine JC.exit ?_ | refine JL.nil ?_ | refine JE.next ?_ | refine JE.blk_normal ?_ | refine JE.then_exit ?_ | refine JE.blk_hit ?_ | refine JE.blk_miss rfl ?_ | refine JE.then_ret ?_ | refine JE.blk_ret ?_ | refine JC.label ?_ | refine JL.gon rfl rfl ?_ | refine JL.gskip rfl rfl rfl rfl ?_ | refine JL.gskipU rfl rfl rfl rfl ?_)
  refine JC.ret ?_
  repeat (first | refine JL.q (by first | (apply OQ.move; exact rfl) | (apply OQ.assign; exact rfl) | (apply OQ.len; exact rfl; exact rfl) | (apply OQ.addN; exact rfl; exact rfl; exact (by (try simp only []); omega)) | (apply OQ.subN; exact rfl; exact rfl; exact (by (try simp only []); omega); exact (by (try simp only []); omega)) | (apply OQ.lssN; exact rfl; exact rfl)) rfl ?_ | refine JC.seq ?_ | refine JC.region ?_ | refine JC.block ?_ | refine JC.skip ?_ | refine JC.exit ?_ | refine JL.nil ?_ | refine JE.next ?_ | refine JE.blk_normal ?_ | refine JE.then_exit ?_ | refine JE.blk_hit ?_ | refine JE.blk_miss rfl ?_ | refine JE.then_ret ?_ | refine JE.blk_ret ?_ | refine JC.label ?_ | refine JL.gon rfl rfl ?_ | refine JL.gskip rfl rfl rfl rfl ?_ | refine JL.gskipU rfl rfl rfl rfl ?_)
  exact JE.ret1 rfl (RV.tmp rfl) fun w' hw => ⟨rfl, hw.chg⟩
theorem eq46 (c : Fld.By) : decide ((c.toNat : Int) = 46) = decide (c = 46) := by
  have h := eq_nat 46 c
  rw [show (((46 : Fld.By).toNat : Nat) : Int) = 46 from rfl] at h
  rw [h]; rfl
theorem drop_getD {s : List Fld.By} {i : Nat} (h : i < s.length) : s.drop i = s.getD i 0 :: s.drop (i + 1) := by
  rw [List.drop_eq_getElem_cons h, List.getD_eq_getElem?_getD, List.getElem?_eq_getElem h]; rfl
theorem fst_is (c : Fld.By) : ∀ (s : List Fld.By) {i : Nat}, i < s.length → (s.take i).all (fun d => !(d == c)) = true → (s.getD i 0 == c) = true → fst c s = i
  | [], i, h, _, _ => by simp at h
  | d :: r, 0, _, _, h => by
    have h' : (d == c) = true := h
    unfold fst
    rw [List.takeWhile_cons, if_neg (by rw [h']; decide)]; rfl
  | d :: r, i + 1, hi, ha, h => by
    rw [List.take_succ_cons, List.all_cons, Bool.and_eq_true] at ha
    have := fst_is c r (i := i) (by simpa using hi) ha.2 h
    unfold fst at this ⊢
    rw [List.takeWhile_cons, if_pos ha.1, List.length_cons, this]
theorem fst_end (c : Fld.By) : ∀ s : List Fld.By, s.all (fun d => !(d == c)) = true → fst c s = s.length
  | [], _ => rfl
  | d :: r, h => by
    rw [List.all_cons, Bool.and_eq_true] at h
    have := fst_end c r h.2
    unfold fst at this ⊢
    rw [List.takeWhile_cons, if_pos h.1, List.length_cons, this, List.length_cons]
theorem fst_le (c : Fld.By) (s : List Fld.By) : fst c s ≤ s.length := (List.takeWhile_sublist _).length_le
theorem eqc (c : Fld.By) (k : Fld.By) : (c == k) = decide ((c.toNat : Int) = (k.toNat : Int)) := (eq_nat k c).symm
set_option maxHeartbeats 16000000 in
theorem rkind_any (s : List Fld.By) (w : World) (hl : s.length < 9223372036854775807) : Calls Tryz.prog 21 [Z s].toArray w fun e w' => e = .returned (.bool (kindB s)) ∧ Ext w w' := by
  refine enter (n := 33) Tryz.func21 rfl rfl rfl (Holds.start w []) ?_
  repeat (first | refine JL.q (by first | (apply OQ.move; exact rfl) | (apply OQ.assign; exact rfl) | (apply OQ.len; exact rfl; exact rfl) | (apply OQ.addN; exact rfl; exact rfl; exact (by (try simp only []); omega)) | (apply OQ.subN; exact rfl; exact rfl; exact (by (try simp only []); omega); exact (by (try simp only []); omega)) | (apply OQ.lssN; exact rfl; exact rfl)) rfl ?_ | refine JC.seq ?_ | refine JC.region ?_ | refine JC.block ?_ | refine JC.skip ?_ | refine JC.exit ?_ | refine JL.nil ?_ | refine JE.next ?_ | refine JE.blk_normal ?_ | refine JE.then_exit ?_ | refine JE.blk_hit ?_ | refine JE.blk_miss rfl ?_ | refine JE.then_ret ?_ | refine JE.blk_ret ?_ | refine JC.label ?_ | refine JL.gon rfl rfl ?_ | refine JL.gskip rfl rfl rfl rfl ?_ | refine JL.gskipU rfl rfl rfl rfl ?_)
  refine JC.joinB (ι := Unit) (fun _ => [(0, Z s), (3, N (fst 47 s))]) (fun _ => []) (fun _ => True) ?_ ?_
  · refine JC.loop (fun i : Nat => [(0, Z s), (3, N i)]) (fun _ => []) (fun i => s.length - i) (fun i => i ≤ s.length ∧ (s.take i).all (fun d => !(d == 47)) = true) 0 ⟨Nat.zero_le _, rfl⟩ (by repeat (first | exact SubE.nil | refine SubE.cons _ _ _ rfl ?_)) (Less.refl _) ?_
    rintro i ⟨hi, ha⟩
    cases h0 : decide ((i : Int) < (s.length : Int))
    · obtain rfl : i = s.length := by have := of_decide_eq_false h0; omega
      rw [List.take_length] at ha
      rw [fst_end 47 s ha]
      repeat (first | refine JL.q (by first | (apply OQ.lenS; exact Tryz.underlying9; exact rfl) | (apply OQ.lssB; exact rfl; exact rfl; exact h0) | (apply OQ.pick_f; exact rfl; exact rfl) | (apply OQ.move; exact rfl) | (apply OQ.assign; exact rfl) | (apply OQ.len; exact rfl; exact rfl) | (apply OQ.addN; exact rfl; exact rfl; exact (by (try simp only []); omega)) | (apply OQ.subN; exact rfl; exact rfl; exact (by (try simp only []); omega); exact (by (try simp only []); omega)) | (apply OQ.lssN; exact rfl; exact rfl)) rfl ?_ | refine JC.seq ?_ | refine JC.region ?_ | refine JC.block ?_ | refine JC.skip ?_ | refine JC.exit ?_ | refine JL.nil ?_ | refine JE.next ?_ | refine JE.blk_normal ?_ | refine JE.then_exit ?_ | refine JE.blk_hit ?_ | refine JE.blk_miss rfl ?_ | refine JE.then_ret ?_ | refine JE.blk_ret ?_ | refine JC.label ?_ | refine JL.gon rfl rfl ?_ | refine JL.gskip rfl rfl rfl rfl ?_ | refine JL.gskipU rfl rfl rfl rfl ?_)
      refine JC.cond rfl (fun h => by cases h) (fun h => ?_)
      repeat (first | refine JL.q (by first | (apply OQ.move; exact rfl) | (apply OQ.assign; exact rfl) | (apply OQ.len; exact rfl; exact rfl) | (apply OQ.addN; exact rfl; exact rfl; exact (by (try simp only []); omega)) | (apply OQ.subN; exact rfl; exact rfl; exact (by (try simp only []); omega); exact (by (try simp only []); omega)) | (apply OQ.lssN; exact rfl; exact rfl)) rfl ?_ | refine JC.seq ?_ | refine JC.region ?_ | refine JC.block ?_ | refine JC.skip ?_ | refine JC.exit ?_ | refine JL.nil ?_ | refine JE.next ?_ | refine JE.blk_normal ?_ | refine JE.then_exit ?_ | refine JE.blk_hit ?_ | refine JE.blk_miss rfl ?_ | refine JE.then_ret ?_ | refine JE.blk_ret ?_ | refine JC.label ?_ | refine JL.gon rfl rfl ?_ | refine JL.gskip rfl rfl rfl rfl ?_ | refine JL.gskipU rfl rfl rfl rfl ?_)
      exact JE.mid () trivial (by repeat (first | exact SubE.nil | refine SubE.cons _ _ _ rfl ?_)) (Less.refl _)
    · have hi' : i < s.length := by have := of_decide_eq_true h0; omega
      have hf := fst_is 47 s hi' ha
      have hx := all_take (fun d => !(d == (47 : Fld.By))) s 0 hi'
      rw [ha, Bool.true_and] at hx
      have hidx := fun {n : Nat} {E : Env} {C : World → Prop} {dst : Option Tmp} {ty : TypeId} {pos : String} {aft : Array Edge} {g : Option (Nat × Bool)} {x y : Operand} => idxAt10 hi' (n := n) (E := E) (C := C) (dst := dst) (ty := ty) (pos := pos) (aft := aft) (g := g) (x := x) (y := y)
      generalize s.getD i 0 = c at hidx hf hx
      rw [eqc] at hf
      rw [eqc] at hx
      cases h1 : decide ((c.toNat : Int) = 47)
      · repeat (first | refine JL.q (by first | (apply OQ.lenS; exact Tryz.underlying9; exact rfl) | (apply OQ.lssB; exact rfl; exact rfl; exact h0) | (apply hidx; exact rfl; exact rfl) | (apply OQ.neB (b := 47); exact rfl; exact rfl; exact h1) | (apply OQ.pick_t; exact rfl; exact rfl) | (apply OQ.move; exact rfl) | (apply OQ.assign; exact rfl) | (apply OQ.len; exact rfl; exact rfl) | (apply OQ.addN; exact rfl; exact rfl; exact (by (try simp only []); omega)) | (apply OQ.subN; exact rfl; exact rfl; exact (by (try simp only []); omega); exact (by (try simp only []); omega)) | (apply OQ.lssN; exact rfl; exact rfl)) rfl ?_ | refine JC.seq ?_ | refine JC.region ?_ | refine JC.block ?_ | refine JC.skip ?_ | refine JC.exit ?_ | refine JL.nil ?_ | refine JE.next ?_ | refine JE.blk_normal ?_ | refine JE.then_exit ?_ | refine JE.blk_hit ?_ | refine JE.blk_miss rfl ?_ | refine JE.then_ret ?_ | refine JE.blk_ret ?_ | refine JC.label ?_ | refine JL.gon rfl rfl ?_ | refine JL.gskip rfl rfl rfl rfl ?_ | refine JL.gskipU rfl rfl rfl rfl ?_)
        refine JC.cond rfl (fun h => ?_) (fun h => by cases h)
        repeat (first | refine JL.q (by first | (apply OQ.move; exact rfl) | (apply OQ.assign; exact rfl) | (apply OQ.len; exact rfl; exact rfl) | (apply OQ.addN; exact rfl; exact rfl; exact (by (try simp only []); omega)) | (apply OQ.subN; exact rfl; exact rfl; exact (by (try simp only []); omega); exact (by (try simp only []); omega)) | (apply OQ.lssN; exact rfl; exact rfl)) rfl ?_ | refine JC.seq ?_ | refine JC.region ?_ | refine JC.block ?_ | refine JC.skip ?_ | refine JC.exit ?_ | refine JL.nil ?_ | refine JE.next ?_ | refine JE.blk_normal ?_ | refine JE.then_exit ?_ | refine JE.blk_hit ?_ | refine JE.blk_miss rfl ?_ | refine JE.then_ret ?_ | refine JE.blk_ret ?_ | refine JC.label ?_ | refine JL.gon rfl rfl ?_ | refine JL.gskip rfl rfl rfl rfl ?_ | refine JL.gskipU rfl rfl rfl rfl ?_)
        exact JE.again (i := i) (i + 1) ⟨hi', by rw [hx]; exact congrArg not h1⟩ (by omega) (by repeat (first | exact SubE.nil | refine SubE.cons _ _ _ rfl ?_)) (Less.refl _)
      · rw [hf h1]
        repeat (first | refine JL.q (by first | (apply OQ.lenS; exact Tryz.underlying9; exact rfl) | (apply OQ.lssB; exact rfl; exact rfl; exact h0) | (apply hidx; exact rfl; exact rfl) | (apply OQ.neB (b := 47); exact rfl; exact rfl; exact h1) | (apply OQ.pick_t; exact rfl; exact rfl) | (apply OQ.move; exact rfl) | (apply OQ.assign; exact rfl) | (apply OQ.len; exact rfl; exact rfl) | (apply OQ.addN; exact rfl; exact rfl; exact (by (try simp only []); omega)) | (apply OQ.subN; exact rfl; exact rfl; exact (by (try simp only []); omega); exact (by (try simp only []); omega)) | (apply OQ.lssN; exact rfl; exact rfl)) rfl ?_ | refine JC.seq ?_ | refine JC.region ?_ | refine JC.block ?_ | refine JC.skip ?_ | refine JC.exit ?_ | refine JL.nil ?_ | refine JE.next ?_ | refine JE.blk_normal ?_ | refine JE.then_exit ?_ | refine JE.blk_hit ?_ | refine JE.blk_miss rfl ?_ | refine JE.then_ret ?_ | refine JE.blk_ret ?_ | refine JC.label ?_ | refine JL.gon rfl rfl ?_ | refine JL.gskip rfl rfl rfl rfl ?_ | refine JL.gskipU rfl rfl rfl rfl ?_)
        refine JC.cond rfl (fun h => by cases h) (fun h => ?_)
        repeat (first | refine JL.q (by first | (apply OQ.move; exact rfl) | (apply OQ.assign; exact rfl) | (apply OQ.len; exact rfl; exact rfl) | (apply OQ.addN; exact rfl; exact rfl; exact (by (try simp only []); omega)) | (apply OQ.subN; exact rfl; exact rfl; exact (by (try simp only []); omega); exact (by (try simp only []); omega)) | (apply OQ.lssN; exact rfl; exact rfl)) rfl ?_ | refine JC.seq ?_ | refine JC.region ?_ | refine JC.block ?_ | refine JC.skip ?_ | refine JC.exit ?_ | refine JL.nil ?_ | refine JE.next ?_ | refine JE.blk_normal ?_ | refine JE.then_exit ?_ | refine JE.blk_hit ?_ | refine JE.blk_miss rfl ?_ | refine JE.then_ret ?_ | refine JE.blk_ret ?_ | refine JC.label ?_ | refine JL.gon rfl rfl ?_ | refine JL.gskip rfl rfl rfl rfl ?_ | refine JL.gskipU rfl rfl rfl rfl ?_)
        exact JE.mid () trivial (by repeat (first | exact SubE.nil | refine SubE.cons _ _ _ rfl ?_)) (Less.refl _)
  rintro ⟨⟩ _
  have hle := fst_le 47 s
  unfold kindB
  generalize fst 47 s = k at hle ⊢
  rw [show decide (k < s.length) = decide ((k : Int) < (s.length : Int)) from decide_eq_decide.2 (by omega)]
  have c1 := fun w' => ratom_any (s.take k) w' (by rw [List.length_take]; omega)
  have c2 := fun w' => ratom_any (s.drop (k + 1)) w' (by rw [List.length_drop]; omega)
  cases h0 : decide ((k : Int) < (s.length : Int))
  · repeat (first | refine JL.q (by first | (apply OQ.lenS; exact Tryz.underlying9; exact rfl) | (apply OQ.lssB; exact rfl; exact rfl; exact h0) | (apply OQ.pick_f; exact rfl; exact rfl) | (apply OQ.move; exact rfl) | (apply OQ.assign; exact rfl) | (apply OQ.len; exact rfl; exact rfl) | (apply OQ.addN; exact rfl; exact rfl; exact (by (try simp only []); omega)) | (apply OQ.subN; exact rfl; exact rfl; exact (by (try simp only []); omega); exact (by (try simp only []); omega)) | (apply OQ.lssN; exact rfl; exact rfl)) rfl ?_ | refine JC.seq ?_ | refine JC.region ?_ | refine JC.block ?_ | refine JC.skip ?_ | refine JC.exit ?_ | refine JL.nil ?_ | refine JE.next ?_ | refine JE.blk_normal ?_ | refine JE.then_exit ?_ | refine JE.blk_hit ?_ | refine JE.blk_miss rfl ?_ | refine JE.then_ret ?_ | refine JE.blk_ret ?_ | refine JC.label ?_ | refine JL.gon rfl rfl ?_ | refine JL.gskip rfl rfl rfl rfl ?_ | refine JL.gskipU rfl rfl rfl rfl ?_)
    refine JC.ret ?_
    exact JE.ret1 rfl (RV.tmp rfl) fun w' hw => ⟨rfl, hw.chg⟩
  · have hk : k < s.length := by have := of_decide_eq_true h0; omega
    cases h1 : atomB (s.take k) <;> cases h2 : atomB (s.drop (k + 1))
    all_goals (repeat (first | refine JL.q (by first | (apply OQ.lenS; exact Tryz.underlying9; exact rfl) | (apply OQ.lssB; exact rfl; exact rfl; exact h0) | (apply OQ.subS_hi; exact Tryz.underlying9; exact rfl; exact rfl; exact hle) | (apply OQ.subS_lo (i := k + 1); exact Tryz.underlying9; exact rfl; exact rfl; exact hk) | (apply OQ.callb (vs := [Z (s.take k)]); exact goes_ratom; exact rfl; exact c1; exact h1) | (apply OQ.callb (vs := [Z (s.drop (k + 1))]); exact goes_ratom; exact rfl; exact c2; exact h2) | (apply OQ.pick_t; exact rfl; exact rfl) | (apply OQ.pick_f; exact rfl; exact rfl) | (apply OQ.move; exact rfl) | (apply OQ.assign; exact rfl) | (apply OQ.len; exact rfl; exact rfl) | (apply OQ.addN; exact rfl; exact rfl; exact (by (try simp only []); omega)) | (apply OQ.subN; exact rfl; exact rfl; exact (by (try simp only []); omega); exact (by (try simp only []); omega)) | (apply OQ.lssN; exact rfl; exact rfl)) rfl ?_ | refine JC.seq ?_ | refine JC.region ?_ | refine JC.block ?_ | refine JC.skip ?_ | refine JC.exit ?_ | refine JL.nil ?_ | refine JE.next ?_ | refine JE.blk_normal ?_ | refine JE.then_exit ?_ | refine JE.blk_hit ?_ | refine JE.blk_miss rfl ?_ | refine JE.then_ret ?_ | refine JE.blk_ret ?_ | refine JC.label ?_ | refine JL.gon rfl rfl ?_ | refine JL.gskip rfl rfl rfl rfl ?_ | refine JL.gskipU rfl rfl rfl rfl ?_))
    all_goals refine JC.ret ?_
    all_goals exact JE.ret1 rfl (RV.tmp rfl) fun w' hw => ⟨rfl, hw.chg⟩
end Go.Proofs.YtchoiikhepjdiaaGreatDoor

/-
  Of no statement by itself: what the landed token's dotted and Address give.
  Conditions: each theorem's own.
-/
namespace Go.Proofs.YtchoiikhepjdiaaGreatDoor
set_option maxRecDepth 10000
open Sl Fld Tok
theorem goes_dotted : Goes Tryz.prog 35 := ⟨_, Tryz.func35, rfl, by kernel_rfl⟩
theorem goes_addrA : Goes Tryz.prog 11 := ⟨_, Tryz.func11, rfl, by kernel_rfl⟩
theorem strS1 : szT Tryz.prog 9 = some 1 := by kernel_rfl
/-! ### dotted atoms -/
theorem dotR_is : ∀ (s : List Fld.By) (l : Fld.By), dotR s l = ((!(l == 46) || !((spW 46 s).headD []).isEmpty) && (((spW 46 s).headD []).all plainB && (spW 46 s).tail.all atomB))
  | [], l => by simp [dotR, spW]
  | c :: r, l => by
    have ih := dotR_is r
    have hne := spW_ne 46 r
    rw [dotR]
    obtain ⟨x, L, hx⟩ : ∃ x L, spW 46 r = x :: L := by
      cases h : spW 46 r with
      | nil => exact absurd h hne
      | cons x L => exact ⟨x, L, rfl⟩
    by_cases hc : c = 46
    · subst hc
      rw [spW, if_pos rfl]
      simp only [ih, hx, List.headD_cons, List.tail_cons, List.all_cons, List.all_nil]
      by_cases hl : l = 46
      · subst hl
        simp
      · rw [if_neg (by rintro (⟨_, h⟩ | ⟨h, _⟩); exact hl h; exact h trivial)]
        have : (l == 46) = false := beq_eq_false_iff_ne.2 hl
        rw [this]
        simp only [atomB, Bool.not_false, Bool.true_or, Bool.true_and, beq_self_eq_true, Bool.not_true, Bool.false_or]
        cases x with
        | nil => simp
        | cons d x => simp [Bool.and_assoc]
    · rw [spW, if_neg hc, hx]
      simp only [ih, hx, List.headD_cons, List.tail_cons, List.all_cons]
      have hb : (c == 46) = false := beq_eq_false_iff_ne.2 hc
      rw [hb]
      cases hp : plainB c with
      | false =>
        rw [if_pos (.inr ⟨hc, rfl⟩)]
        simp
      | true =>
        rw [if_neg (by rintro (⟨h, _⟩ | ⟨_, h⟩); exact hc h; cases h)]
        simp
theorem dotB_is (s : List Fld.By) : dotB s = (spW 46 s).all atomB := by
  unfold dotB
  rw [dotR_is]
  cases h : spW 46 s with
  | nil => exact absurd h (spW_ne 46 s)
  | cons x L =>
    rw [List.headD_cons, List.tail_cons, List.all_cons, atomB]
    cases x with
    | nil => simp
    | cons d x => simp [Bool.and_assoc]
theorem spW_len (c : Fld.By) : ∀ s : List Fld.By, (spW c s).length ≤ s.length + 1 ∧ ∀ x ∈ spW c s, x.length ≤ s.length
  | [] => by simp [spW]
  | d :: r => by
    obtain ⟨h1, h2⟩ := spW_len c r
    rw [spW]
    split
    · refine ⟨by simp only [List.length_cons]; omega, fun x hx => ?_⟩
      rcases List.mem_cons.1 hx with rfl | hx
      · simp
      · have := h2 x hx
        simp only [List.length_cons]
        omega
    · cases h : spW c r with
      | nil => exact absurd h (spW_ne c r)
      | cons y L =>
        rw [h] at h1 h2
        refine ⟨by simpa using Nat.le_succ_of_le h1, fun x hx => ?_⟩
        rcases List.mem_cons.1 hx with rfl | hx
        · have := h2 y (by simp)
          simpa using this
        · have := h2 x (by simp [hx])
          simp only [List.length_cons]
          omega
set_option maxHeartbeats 8000000 in
theorem dotted_any (s : List Bt) (w : World) (hl : s.length < 4294967281) : Calls Tryz.prog 35 [Z s].toArray w fun e w' => e = .returned (.bool (dotB s)) ∧ Ext w w' := by
  refine enter (n := 16) Tryz.func35 rfl rfl rfl (Holds.start w []) ?_
  rw [dotB_is]
  obtain ⟨h1, h2⟩ := spW_len 46 s
  repeat (first | refine JL.q (by first | (apply OQ.move; exact rfl) | (apply OQ.assign; exact rfl) | (apply OQ.len; exact rfl; exact rfl) | (apply OQ.addN; exact rfl; exact rfl; exact (by (try simp only []); omega)) | (apply OQ.subN; exact rfl; exact rfl; exact (by (try simp only []); omega); exact (by (try simp only []); omega)) | (apply OQ.lssN; exact rfl; exact rfl) | (apply OQ.idxS0; exact rfl; exact rfl; exact rfl; exact rfl; exact (by (try simp only []); omega))) rfl ?_ | refine JC.seq ?_ | refine JC.region ?_ | refine JC.block ?_ | refine JC.skip ?_ | refine JC.exit ?_ | refine JL.nil ?_ | refine JE.next ?_ | refine JE.blk_normal ?_ | refine JE.then_exit ?_ | refine JE.blk_hit ?_ | refine JE.blk_miss rfl ?_ | refine JE.then_ret ?_ | refine JE.blk_ret ?_ | refine JC.label ?_ | refine JL.gon rfl rfl ?_ | refine JL.gskip rfl rfl rfl rfl ?_ | refine JL.gskipU rfl rfl rfl rfl ?_)
  refine JL.callg (ι := Nat) (vs := [Z s, Z [46]]) (fun b => .slice (some ⟨b, 0, none⟩) (spW 46 s).length (spW 46 s).length) (fun b => [⟨b, Row 9 ((spW 46 s).map Z), true⟩]) goes_splw rfl rfl (fun b e he => by rw [List.mem_singleton.1 he]) (fun w' _ => splw_any s 46 w' hl) fun b => ?_
  generalize spW 46 s = L at h1 h2
  repeat (first | refine JL.q (by first | (apply OQ.len; exact Tryz.underlying48; exact rfl) | (apply OQ.move; exact rfl) | (apply OQ.assign; exact rfl) | (apply OQ.len; exact rfl; exact rfl) | (apply OQ.addN; exact rfl; exact rfl; exact (by (try simp only []); omega)) | (apply OQ.subN; exact rfl; exact rfl; exact (by (try simp only []); omega); exact (by (try simp only []); omega)) | (apply OQ.lssN; exact rfl; exact rfl) | (apply OQ.idxS0; exact rfl; exact rfl; exact rfl; exact rfl; exact (by (try simp only []); omega))) rfl ?_ | refine JC.seq ?_ | refine JC.region ?_ | refine JC.block ?_ | refine JC.skip ?_ | refine JC.exit ?_ | refine JL.nil ?_ | refine JE.next ?_ | refine JE.blk_normal ?_ | refine JE.then_exit ?_ | refine JE.blk_hit ?_ | refine JE.blk_miss rfl ?_ | refine JE.then_ret ?_ | refine JE.blk_ret ?_ | refine JC.label ?_ | refine JL.gon rfl rfl ?_ | refine JL.gskip rfl rfl rfl rfl ?_ | refine JL.gskipU rfl rfl rfl rfl ?_)
  refine JC.loop (fun i : Nat => [(6, .slice (some ⟨b, 0, none⟩) L.length L.length), (7, N L.length), (8, N i)]) (fun _ => [⟨b, Row 9 (L.map Z), true⟩]) (fun i => L.length - i) (fun i => i ≤ L.length ∧ (L.take i).all atomB = true) 0 ⟨Nat.zero_le _, by simp⟩ (by repeat (first | exact SubE.nil | refine SubE.cons _ _ _ rfl ?_)) (Less.refl _) ?_
  rintro i ⟨hi, ha⟩
  repeat (first | refine JL.q (by first | (apply OQ.move; exact rfl) | (apply OQ.assign; exact rfl) | (apply OQ.len; exact rfl; exact rfl) | (apply OQ.addN; exact rfl; exact rfl; exact (by (try simp only []); omega)) | (apply OQ.subN; exact rfl; exact rfl; exact (by (try simp only []); omega); exact (by (try simp only []); omega)) | (apply OQ.lssN; exact rfl; exact rfl) | (apply OQ.idxS0; exact rfl; exact rfl; exact rfl; exact rfl; exact (by (try simp only []); omega))) rfl ?_ | refine JC.seq ?_ | refine JC.region ?_ | refine JC.block ?_ | refine JC.skip ?_ | refine JC.exit ?_ | refine JL.nil ?_ | refine JE.next ?_ | refine JE.blk_normal ?_ | refine JE.then_exit ?_ | refine JE.blk_hit ?_ | refine JE.blk_miss rfl ?_ | refine JE.then_ret ?_ | refine JE.blk_ret ?_ | refine JC.label ?_ | refine JL.gon rfl rfl ?_ | refine JL.gskip rfl rfl rfl rfl ?_ | refine JL.gskipU rfl rfl rfl rfl ?_)
  refine JC.cond rfl (fun h => ?_) (fun h => ?_)
  · have hi' : i < L.length := of_decide_eq_true h
    clear h hi
    have hx : L.getD i [] ∈ L := by
      rw [List.getD_eq_getElem?_getD, List.getElem?_eq_getElem hi']
      exact List.getElem_mem hi'
    have hxl := h2 _ hx
    have hv : (L.map Z)[i]? = some (Z (L.getD i [])) := map_at Z [] hi'
    have cA := fun w' => atomA_any (L.getD i []) w' (by omega)
    have hall := all_take atomB L [] hi'
    have hbad := all_bad atomB L [] hi'
    rw [ha, Bool.true_and] at hall
    generalize L.getD i [] = x at hv cA hall hbad
    cases hat : atomB x
    · rw [hat] at cA
      rw [hbad hat]
      repeat (first | refine JL.q (by first | (apply OQ.idxS0; exact Tryz.underlying48; exact strS1; exact rfl; exact rfl; exact hi') | (apply OQ.load; exact strC1; exact rfl; exact .here; exact (Row.cell hv)) | (apply OQ.callx (vs := [Z x]); exact goes_atomA; exact rfl; exact (fun w' _ => cA w')) | (apply OQ.not; exact rfl) | (apply OQ.move; exact rfl) | (apply OQ.assign; exact rfl) | (apply OQ.len; exact rfl; exact rfl) | (apply OQ.addN; exact rfl; exact rfl; exact (by (try simp only []); omega)) | (apply OQ.subN; exact rfl; exact rfl; exact (by (try simp only []); omega); exact (by (try simp only []); omega)) | (apply OQ.lssN; exact rfl; exact rfl) | (apply OQ.idxS0; exact rfl; exact rfl; exact rfl; exact rfl; exact (by (try simp only []); omega))) rfl ?_ | refine JC.seq ?_ | refine JC.region ?_ | refine JC.block ?_ | refine JC.skip ?_ | refine JC.exit ?_ | refine JL.nil ?_ | refine JE.next ?_ | refine JE.blk_normal ?_ | refine JE.then_exit ?_ | refine JE.blk_hit ?_ | refine JE.blk_miss rfl ?_ | refine JE.then_ret ?_ | refine JE.blk_ret ?_ | refine JC.label ?_ | refine JL.gon rfl rfl ?_ | refine JL.gskip rfl rfl rfl rfl ?_ | refine JL.gskipU rfl rfl rfl rfl ?_)
      refine JC.cond rfl (fun _ => ?_) (fun h => by cases h)
      repeat (first | refine JL.q (by first | (apply OQ.move; exact rfl) | (apply OQ.assign; exact rfl) | (apply OQ.len; exact rfl; exact rfl) | (apply OQ.addN; exact rfl; exact rfl; exact (by (try simp only []); omega)) | (apply OQ.subN; exact rfl; exact rfl; exact (by (try simp only []); omega); exact (by (try simp only []); omega)) | (apply OQ.lssN; exact rfl; exact rfl) | (apply OQ.idxS0; exact rfl; exact rfl; exact rfl; exact rfl; exact (by (try simp only []); omega))) rfl ?_ | refine JC.seq ?_ | refine JC.region ?_ | refine JC.block ?_ | refine JC.skip ?_ | refine JC.exit ?_ | refine JL.nil ?_ | refine JE.next ?_ | refine JE.blk_normal ?_ | refine JE.then_exit ?_ | refine JE.blk_hit ?_ | refine JE.blk_miss rfl ?_ | refine JE.then_ret ?_ | refine JE.blk_ret ?_ | refine JC.label ?_ | refine JL.gon rfl rfl ?_ | refine JL.gskip rfl rfl rfl rfl ?_ | refine JL.gskipU rfl rfl rfl rfl ?_)
      refine JC.ret ?_
      repeat (first | refine JL.q (by first | (apply OQ.move; exact rfl) | (apply OQ.assign; exact rfl) | (apply OQ.len; exact rfl; exact rfl) | (apply OQ.addN; exact rfl; exact rfl; exact (by (try simp only []); omega)) | (apply OQ.subN; exact rfl; exact rfl; exact (by (try simp only []); omega); exact (by (try simp only []); omega)) | (apply OQ.lssN; exact rfl; exact rfl) | (apply OQ.idxS0; exact rfl; exact rfl; exact rfl; exact rfl; exact (by (try simp only []); omega))) rfl ?_ | refine JC.seq ?_ | refine JC.region ?_ | refine JC.block ?_ | refine JC.skip ?_ | refine JC.exit ?_ | refine JL.nil ?_ | refine JE.next ?_ | refine JE.blk_normal ?_ | refine JE.then_exit ?_ | refine JE.blk_hit ?_ | refine JE.blk_miss rfl ?_ | refine JE.then_ret ?_ | refine JE.blk_ret ?_ | refine JC.label ?_ | refine JL.gon rfl rfl ?_ | refine JL.gskip rfl rfl rfl rfl ?_ | refine JL.gskipU rfl rfl rfl rfl ?_)
      exact JE.ret1 rfl (RV.tmp rfl) fun w' hw => ⟨rfl, hw.chg⟩
    · rw [hat] at cA hall
      repeat (first | refine JL.q (by first | (apply OQ.idxS0; exact Tryz.underlying48; exact strS1; exact rfl; exact rfl; exact hi') | (apply OQ.load; exact strC1; exact rfl; exact .here; exact (Row.cell hv)) | (apply OQ.callx (vs := [Z x]); exact goes_atomA; exact rfl; exact (fun w' _ => cA w')) | (apply OQ.not; exact rfl) | (apply OQ.move; exact rfl) | (apply OQ.assign; exact rfl) | (apply OQ.len; exact rfl; exact rfl) | (apply OQ.addN; exact rfl; exact rfl; exact (by (try simp only []); omega)) | (apply OQ.subN; exact rfl; exact rfl; exact (by (try simp only []); omega); exact (by (try simp only []); omega)) | (apply OQ.lssN; exact rfl; exact rfl) | (apply OQ.idxS0; exact rfl; exact rfl; exact rfl; exact rfl; exact (by (try simp only []); omega))) rfl ?_ | refine JC.seq ?_ | refine JC.region ?_ | refine JC.block ?_ | refine JC.skip ?_ | refine JC.exit ?_ | refine JL.nil ?_ | refine JE.next ?_ | refine JE.blk_normal ?_ | refine JE.then_exit ?_ | refine JE.blk_hit ?_ | refine JE.blk_miss rfl ?_ | refine JE.then_ret ?_ | refine JE.blk_ret ?_ | refine JC.label ?_ | refine JL.gon rfl rfl ?_ | refine JL.gskip rfl rfl rfl rfl ?_ | refine JL.gskipU rfl rfl rfl rfl ?_)
      refine JC.cond rfl (fun h => by cases h) (fun _ => ?_)
      repeat (first | refine JL.q (by first | (apply OQ.move; exact rfl) | (apply OQ.assign; exact rfl) | (apply OQ.len; exact rfl; exact rfl) | (apply OQ.addN; exact rfl; exact rfl; exact (by (try simp only []); omega)) | (apply OQ.subN; exact rfl; exact rfl; exact (by (try simp only []); omega); exact (by (try simp only []); omega)) | (apply OQ.lssN; exact rfl; exact rfl) | (apply OQ.idxS0; exact rfl; exact rfl; exact rfl; exact rfl; exact (by (try simp only []); omega))) rfl ?_ | refine JC.seq ?_ | refine JC.region ?_ | refine JC.block ?_ | refine JC.skip ?_ | refine JC.exit ?_ | refine JL.nil ?_ | refine JE.next ?_ | refine JE.blk_normal ?_ | refine JE.then_exit ?_ | refine JE.blk_hit ?_ | refine JE.blk_miss rfl ?_ | refine JE.then_ret ?_ | refine JE.blk_ret ?_ | refine JC.label ?_ | refine JL.gon rfl rfl ?_ | refine JL.gskip rfl rfl rfl rfl ?_ | refine JL.gskipU rfl rfl rfl rfl ?_)
      exact JE.again (i := i) (i + 1) ⟨hi', hall⟩ (by omega) (by repeat (first | exact SubE.nil | refine SubE.cons _ _ _ rfl ?_)) (Less.refl _)
  · have hi' : ¬ i < L.length := of_decide_eq_false h
    obtain rfl : i = L.length := by omega
    rw [List.take_length] at ha
    rw [ha]
    repeat (first | refine JL.q (by first | (apply OQ.move; exact rfl) | (apply OQ.assign; exact rfl) | (apply OQ.len; exact rfl; exact rfl) | (apply OQ.addN; exact rfl; exact rfl; exact (by (try simp only []); omega)) | (apply OQ.subN; exact rfl; exact rfl; exact (by (try simp only []); omega); exact (by (try simp only []); omega)) | (apply OQ.lssN; exact rfl; exact rfl) | (apply OQ.idxS0; exact rfl; exact rfl; exact rfl; exact rfl; exact (by (try simp only []); omega))) rfl ?_ | refine JC.seq ?_ | refine JC.region ?_ | refine JC.block ?_ | refine JC.skip ?_ | refine JC.exit ?_ | refine JL.nil ?_ | refine JE.next ?_ | refine JE.blk_normal ?_ | refine JE.then_exit ?_ | refine JE.blk_hit ?_ | refine JE.blk_miss rfl ?_ | refine JE.then_ret ?_ | refine JE.blk_ret ?_ | refine JC.label ?_ | refine JL.gon rfl rfl ?_ | refine JL.gskip rfl rfl rfl rfl ?_ | refine JL.gskipU rfl rfl rfl rfl ?_)
    refine JC.ret ?_
    exact JE.ret1 rfl (RV.tmp rfl) fun w' hw => ⟨rfl, hw.chg⟩
/-! ### addresses -/
theorem plain_low {c : Fld.By} (h : plainB c = true) : c.toNat < 128 := by
  simp only [plainB, Bool.and_eq_true, decide_eq_true_eq] at h
  omega
theorem dotR_low : ∀ (s : List Fld.By) (l : Fld.By), dotR s l = true → ∀ c ∈ s, c.toNat < 128
  | [], _, _, _, hc => by cases hc
  | c :: r, l, h, d, hd => by
    rw [dotR] at h
    split at h
    · cases h
    · next hn =>
      rcases List.mem_cons.1 hd with rfl | hd
      · by_cases e : d = 46
        · subst e; decide
        · cases hp : plainB d with
          | true => exact plain_low hp
          | false => exact absurd (.inr ⟨e, hp⟩) hn
      · exact dotR_low r c h d hd
theorem ang_la (s : List Fld.By) : ang s = s.drop (s.length - la 60 s) := by
  unfold ang la
  have h := List.takeWhile_append_dropWhile (p := fun d => !(d == (60 : Fld.By))) (l := s.reverse)
  generalize s.reverse.takeWhile (fun d => !(d == (60 : Fld.By))) = a at h ⊢
  generalize s.reverse.dropWhile (fun d => !(d == (60 : Fld.By))) = b at h
  have hs : s = b.reverse ++ a.reverse := by rw [← List.reverse_append, h, List.reverse_reverse]
  rw [hs, List.length_append, List.length_reverse, List.length_reverse, Nat.add_sub_cancel, List.drop_append_of_le_length (by simp), List.drop_of_length_le (by simp), List.nil_append]
theorem addrT_is (s : List Fld.By) : addrT s = if s.getLast? = some 62 then (if 60 ∈ s.dropLast then addrS (trim (s.dropLast.drop (s.dropLast.length - la 60 s.dropLast))) else ([], 3)) else addrS s := by
  unfold addrT
  by_cases h : s.getLast? = some 62
  · obtain ⟨a, rfl⟩ := List.getLast?_eq_some_iff.1 h
    rw [if_pos ⟨by simp, by simp⟩, if_pos h, List.dropLast_concat, ang_la]
    congr 1
    simp
  · rw [if_neg h, if_neg]
    rintro ⟨h1, h2⟩
    refine h ?_
    rw [List.getLast?_eq_getElem?, List.getElem?_eq_getElem (by omega)]
    rw [List.getD_eq_getElem?_getD, List.getElem?_eq_getElem (by omega)] at h2
    exact congrArg some h2
theorem addrS_is (s : List Fld.By) : addrS s = if fi 64 s < s.length ∧ dotB (s.take (fi 64 s)) = true ∧ dotB (s.drop (fi 64 s + 1)) = true then (s.take (fi 64 s) ++ [64] ++ (s.drop (fi 64 s + 1)).map small, 0) else ([], 3) := by
  have hf : fst 64 s = fi 64 s := rfl
  unfold addrS
  rw [hf]
  have h1 := fi_le 64 s
  by_cases h : fi 64 s < s.length
  · have ht : s.take (fi 64 s + 1) = s.take (fi 64 s) ++ [64] := by
      rw [List.take_add_one, List.getElem?_eq_getElem h, Option.toList_some]
      congr 2
      have := fi_at 64 s h
      rw [List.getD_eq_getElem?_getD, List.getElem?_eq_getElem h] at this
      exact this
    cases d1 : dotB (s.take (fi 64 s)) <;> cases d2 : dotB (s.drop (fi 64 s + 1))
    · rw [if_pos (.inr (.inl rfl)), if_neg (fun k => by cases k.2.1)]
    · rw [if_pos (.inr (.inl rfl)), if_neg (fun k => by cases k.2.1)]
    · rw [if_pos (.inr (.inr rfl)), if_neg (fun k => by cases k.2.2)]
    · rw [if_neg (by rintro (k | k | k); omega; cases k; cases k), if_pos ⟨h, rfl, rfl⟩, ht]
  · rw [if_pos (.inl (by omega)), if_neg (fun k => h k.1)]
theorem OQ.addSS {P : Program} {n : Nat} {E : Env} {C : World → Prop} {dst : Option Tmp} {t t' ty : TypeId} {pos : String} {aft : Array Edge} {g : Option (Nat × Bool)} {x y : Operand} {l r q : List Bt} (h : l ++ r = q) (hx : ev E x = some (Z l)) (hy : ev E y = some (Z r)) (hl : l.length + r.length < 9223372036854775808) : OQ P n E C ⟨dst, .binOp .add t x y t', ty, pos, aft, g⟩ (Z q) := h ▸ OQ.addS hx hy hl
set_option maxHeartbeats 32000000 in
theorem addrA_any (s : List Bt) (w : World) (hl : s.length < 1000000) : Calls Tryz.prog 11 [Z s].toArray w fun e w' => e = .returned (.tuple #[Z (addrB s).1, N (addrB s).2]) ∧ Ext w w' := by
  refine enter (n := 61) Tryz.func11 rfl rfl rfl (Holds.start w []) ?_
  have cB := fun w' => bareA_any s w' (by omega)
  have hbl := bareB_len s
  unfold addrB
  generalize (bareB s).1 = x at cB hbl ⊢
  generalize (bareB s).2 = k at cB ⊢
  cases hk : decide ((k : Int) = 0)
  · rw [if_neg (by have := of_decide_eq_false hk; omega)]
    repeat (first | refine JL.q (by first | (apply OQ.callx (vs := [Z s]); exact goes_bareA; exact rfl; exact (fun w' _ => cB w')) | (apply OQ.extract; exact rfl; exact rfl) | (apply OQ.neB (b := 0); exact rfl; exact rfl; exact hk) | (apply OQ.move; exact rfl) | (apply OQ.assign; exact rfl) | (apply OQ.len; exact rfl; exact rfl) | (apply OQ.addN; exact rfl; exact rfl; exact (by (try simp only []); omega)) | (apply OQ.subN; exact rfl; exact rfl; exact (by (try simp only []); omega); exact (by (try simp only []); omega)) | (apply OQ.lssN; exact rfl; exact rfl) | (apply OQ.idxS0; exact rfl; exact rfl; exact rfl; exact rfl; exact (by (try simp only []); omega))) rfl ?_ | refine JC.seq ?_ | refine JC.region ?_ | refine JC.block ?_ | refine JC.skip ?_ | refine JC.exit ?_ | refine JL.nil ?_ | refine JE.next ?_ | refine JE.blk_normal ?_ | refine JE.then_exit ?_ | refine JE.blk_hit ?_ | refine JE.blk_miss rfl ?_ | refine JE.then_ret ?_ | refine JE.blk_ret ?_ | refine JC.label ?_ | refine JL.gon rfl rfl ?_ | refine JL.gskip rfl rfl rfl rfl ?_ | refine JL.gskipU rfl rfl rfl rfl ?_)
    refine JC.cond rfl (fun _ => ?_) (fun h => by cases h)
    repeat (first | refine JL.q (by first | (apply OQ.move; exact rfl) | (apply OQ.assign; exact rfl) | (apply OQ.len; exact rfl; exact rfl) | (apply OQ.addN; exact rfl; exact rfl; exact (by (try simp only []); omega)) | (apply OQ.subN; exact rfl; exact rfl; exact (by (try simp only []); omega); exact (by (try simp only []); omega)) | (apply OQ.lssN; exact rfl; exact rfl) | (apply OQ.idxS0; exact rfl; exact rfl; exact rfl; exact rfl; exact (by (try simp only []); omega))) rfl ?_ | refine JC.seq ?_ | refine JC.region ?_ | refine JC.block ?_ | refine JC.skip ?_ | refine JC.exit ?_ | refine JL.nil ?_ | refine JE.next ?_ | refine JE.blk_normal ?_ | refine JE.then_exit ?_ | refine JE.blk_hit ?_ | refine JE.blk_miss rfl ?_ | refine JE.then_ret ?_ | refine JE.blk_ret ?_ | refine JC.label ?_ | refine JL.gon rfl rfl ?_ | refine JL.gskip rfl rfl rfl rfl ?_ | refine JL.gskipU rfl rfl rfl rfl ?_)
    refine JC.ret ?_
    repeat (first | refine JL.q (by first | (apply OQ.move; exact rfl) | (apply OQ.assign; exact rfl) | (apply OQ.len; exact rfl; exact rfl) | (apply OQ.addN; exact rfl; exact rfl; exact (by (try simp only []); omega)) | (apply OQ.subN; exact rfl; exact rfl; exact (by (try simp only []); omega); exact (by (try simp only []); omega)) | (apply OQ.lssN; exact rfl; exact rfl) | (apply OQ.idxS0; exact rfl; exact rfl; exact rfl; exact rfl; exact (by (try simp only []); omega))) rfl ?_ | refine JC.seq ?_ | refine JC.region ?_ | refine JC.block ?_ | refine JC.skip ?_ | refine JC.exit ?_ | refine JL.nil ?_ | refine JE.next ?_ | refine JE.blk_normal ?_ | refine JE.then_exit ?_ | refine JE.blk_hit ?_ | refine JE.blk_miss rfl ?_ | refine JE.then_ret ?_ | refine JE.blk_ret ?_ | refine JC.label ?_ | refine JL.gon rfl rfl ?_ | refine JL.gskip rfl rfl rfl rfl ?_ | refine JL.gskipU rfl rfl rfl rfl ?_)
    refine JE.ret2 rfl (RV.tmp rfl) (RV.tmp rfl) ?_
    exact fun w' hw => ⟨rfl, hw.chg⟩
  rw [if_pos (by have := of_decide_eq_true hk; omega)]
  have cT := fun w' => trimw_any x w' (by omega)
  have htl := trim_short x
  generalize trim x = t at cT htl ⊢
  have cS := fun w' => csw_any t 62 w' (by omega)
  have hT := addrT_is t
  unfold csV at cS
  repeat (first | refine JL.q (by first | (apply OQ.callx (vs := [Z s]); exact goes_bareA; exact rfl; exact (fun w' _ => cB w')) | (apply OQ.extract; exact rfl; exact rfl) | (apply OQ.neB (b := 0); exact rfl; exact rfl; exact hk) | (apply OQ.move; exact rfl) | (apply OQ.assign; exact rfl) | (apply OQ.len; exact rfl; exact rfl) | (apply OQ.addN; exact rfl; exact rfl; exact (by (try simp only []); omega)) | (apply OQ.subN; exact rfl; exact rfl; exact (by (try simp only []); omega); exact (by (try simp only []); omega)) | (apply OQ.lssN; exact rfl; exact rfl) | (apply OQ.idxS0; exact rfl; exact rfl; exact rfl; exact rfl; exact (by (try simp only []); omega))) rfl ?_ | refine JC.seq ?_ | refine JC.region ?_ | refine JC.block ?_ | refine JC.skip ?_ | refine JC.exit ?_ | refine JL.nil ?_ | refine JE.next ?_ | refine JE.blk_normal ?_ | refine JE.then_exit ?_ | refine JE.blk_hit ?_ | refine JE.blk_miss rfl ?_ | refine JE.then_ret ?_ | refine JE.blk_ret ?_ | refine JC.label ?_ | refine JL.gon rfl rfl ?_ | refine JL.gskip rfl rfl rfl rfl ?_ | refine JL.gskipU rfl rfl rfl rfl ?_)
  refine JC.cond rfl (fun h => by cases h) (fun _ => ?_)
  by_cases hg : t.getLast? = some 62
  · rw [if_pos hg] at hT cS
    have hal : t.dropLast.length ≤ t.length := by rw [List.length_dropLast]; omega
    generalize t.dropLast = a at hT cS hal
    have cL := fun w' => lastw_any a 60 w' (by omega)
    have hla := la_lt 60 a
    have hla2 := la_le 60 a
    repeat (first | refine JL.q (by first | (apply OQ.callx (vs := [Z x, Z [32, 9]]); exact goes_trimw; exact rfl; exact (fun w' _ => cT w')) | (apply OQ.callx (vs := [Z t, Z [62]]); exact goes_csw; exact rfl; exact (fun w' _ => cS w')) | (apply OQ.extract; exact rfl; exact rfl) | (apply OQ.move; exact rfl) | (apply OQ.assign; exact rfl) | (apply OQ.len; exact rfl; exact rfl) | (apply OQ.addN; exact rfl; exact rfl; exact (by (try simp only []); omega)) | (apply OQ.subN; exact rfl; exact rfl; exact (by (try simp only []); omega); exact (by (try simp only []); omega)) | (apply OQ.lssN; exact rfl; exact rfl) | (apply OQ.idxS0; exact rfl; exact rfl; exact rfl; exact rfl; exact (by (try simp only []); omega))) rfl ?_ | refine JC.seq ?_ | refine JC.region ?_ | refine JC.block ?_ | refine JC.skip ?_ | refine JC.exit ?_ | refine JL.nil ?_ | refine JE.next ?_ | refine JE.blk_normal ?_ | refine JE.then_exit ?_ | refine JE.blk_hit ?_ | refine JE.blk_miss rfl ?_ | refine JE.then_ret ?_ | refine JE.blk_ret ?_ | refine JC.label ?_ | refine JL.gon rfl rfl ?_ | refine JL.gskip rfl rfl rfl rfl ?_ | refine JL.gskipU rfl rfl rfl rfl ?_)
    refine JC.join (ι := List Bt) (fun y => [(6, Z y)]) (fun _ => []) (fun y => addrT t = addrS y ∧ y.length < 1000000) ?_ ?_
    · refine JC.cond rfl (fun _ => ?_) (fun h => by cases h)
      cases hm : decide (ixL 60 a < 0)
      · have hm' : ¬ ixL 60 a < 0 := of_decide_eq_false hm
        have hmem : 60 ∈ a := hla.1 (by unfold ixL at hm'; omega)
        rw [if_pos hmem] at hT
        obtain ⟨p, hp⟩ : ∃ p, p + 1 = a.length - la 60 a := ⟨a.length - la 60 a - 1, by have := hla.2 hmem; omega⟩
        have hix : ixL 60 a = (p : Int) := by unfold ixL; omega
        have hpl : p + 1 ≤ a.length := by omega
        rw [← hp] at hT
        rw [hix] at cL hm
        have hdl : (a.drop (p + 1)).length ≤ a.length := by rw [List.length_drop]; omega
        have cT2 := fun w' => trimw_any (a.drop (p + 1)) w' (by omega)
        have htl2 := trim_short (a.drop (p + 1))
        generalize trim (a.drop (p + 1)) = y at hT cT2 htl2
        repeat (first | refine JL.q (by first | (apply OQ.callx (vs := [Z a, U8 60]); exact goes_lastw; exact rfl; exact (fun w' _ => cL w')) | (apply OQ.lssB (b := 0); exact rfl; exact rfl; exact hm) | (apply OQ.move; exact rfl) | (apply OQ.assign; exact rfl) | (apply OQ.len; exact rfl; exact rfl) | (apply OQ.addN; exact rfl; exact rfl; exact (by (try simp only []); omega)) | (apply OQ.subN; exact rfl; exact rfl; exact (by (try simp only []); omega); exact (by (try simp only []); omega)) | (apply OQ.lssN; exact rfl; exact rfl) | (apply OQ.idxS0; exact rfl; exact rfl; exact rfl; exact rfl; exact (by (try simp only []); omega))) rfl ?_ | refine JC.seq ?_ | refine JC.region ?_ | refine JC.block ?_ | refine JC.skip ?_ | refine JC.exit ?_ | refine JL.nil ?_ | refine JE.next ?_ | refine JE.blk_normal ?_ | refine JE.then_exit ?_ | refine JE.blk_hit ?_ | refine JE.blk_miss rfl ?_ | refine JE.then_ret ?_ | refine JE.blk_ret ?_ | refine JC.label ?_ | refine JL.gon rfl rfl ?_ | refine JL.gskip rfl rfl rfl rfl ?_ | refine JL.gskipU rfl rfl rfl rfl ?_)
        refine JC.cond rfl (fun h => by cases h) (fun _ => ?_)
        repeat (first | refine JL.q (by first | (apply OQ.subS_lo; exact Tryz.underlying9; exact rfl; exact rfl; exact hpl) | (apply OQ.callx (vs := [Z (a.drop (p + 1)), Z [32, 9]]); exact goes_trimw; exact rfl; exact (fun w' _ => cT2 w')) | (apply OQ.move; exact rfl) | (apply OQ.assign; exact rfl) | (apply OQ.len; exact rfl; exact rfl) | (apply OQ.addN; exact rfl; exact rfl; exact (by (try simp only []); omega)) | (apply OQ.subN; exact rfl; exact rfl; exact (by (try simp only []); omega); exact (by (try simp only []); omega)) | (apply OQ.lssN; exact rfl; exact rfl) | (apply OQ.idxS0; exact rfl; exact rfl; exact rfl; exact rfl; exact (by (try simp only []); omega))) rfl ?_ | refine JC.seq ?_ | refine JC.region ?_ | refine JC.block ?_ | refine JC.skip ?_ | refine JC.exit ?_ | refine JL.nil ?_ | refine JE.next ?_ | refine JE.blk_normal ?_ | refine JE.then_exit ?_ | refine JE.blk_hit ?_ | refine JE.blk_miss rfl ?_ | refine JE.then_ret ?_ | refine JE.blk_ret ?_ | refine JC.label ?_ | refine JL.gon rfl rfl ?_ | refine JL.gskip rfl rfl rfl rfl ?_ | refine JL.gskipU rfl rfl rfl rfl ?_)
        exact JE.mid y ⟨hT, by omega⟩ (by repeat (first | exact SubE.nil | refine SubE.cons _ _ _ rfl ?_)) (Less.refl _)
      · have hm' : ixL 60 a < 0 := of_decide_eq_true hm
        have hmem : ¬ 60 ∈ a := fun h => by have := hla.2 h; unfold ixL at hm'; omega
        rw [if_neg hmem] at hT
        rw [hT]
        repeat (first | refine JL.q (by first | (apply OQ.callx (vs := [Z a, U8 60]); exact goes_lastw; exact rfl; exact (fun w' _ => cL w')) | (apply OQ.lssB (b := 0); exact rfl; exact rfl; exact hm) | (apply OQ.move; exact rfl) | (apply OQ.assign; exact rfl) | (apply OQ.len; exact rfl; exact rfl) | (apply OQ.addN; exact rfl; exact rfl; exact (by (try simp only []); omega)) | (apply OQ.subN; exact rfl; exact rfl; exact (by (try simp only []); omega); exact (by (try simp only []); omega)) | (apply OQ.lssN; exact rfl; exact rfl) | (apply OQ.idxS0; exact rfl; exact rfl; exact rfl; exact rfl; exact (by (try simp only []); omega))) rfl ?_ | refine JC.seq ?_ | refine JC.region ?_ | refine JC.block ?_ | refine JC.skip ?_ | refine JC.exit ?_ | refine JL.nil ?_ | refine JE.next ?_ | refine JE.blk_normal ?_ | refine JE.then_exit ?_ | refine JE.blk_hit ?_ | refine JE.blk_miss rfl ?_ | refine JE.then_ret ?_ | refine JE.blk_ret ?_ | refine JC.label ?_ | refine JL.gon rfl rfl ?_ | refine JL.gskip rfl rfl rfl rfl ?_ | refine JL.gskipU rfl rfl rfl rfl ?_)
        refine JC.cond rfl (fun _ => ?_) (fun h => by cases h)
        repeat (first | refine JL.q (by first | (apply OQ.move; exact rfl) | (apply OQ.assign; exact rfl) | (apply OQ.len; exact rfl; exact rfl) | (apply OQ.addN; exact rfl; exact rfl; exact (by (try simp only []); omega)) | (apply OQ.subN; exact rfl; exact rfl; exact (by (try simp only []); omega); exact (by (try simp only []); omega)) | (apply OQ.lssN; exact rfl; exact rfl) | (apply OQ.idxS0; exact rfl; exact rfl; exact rfl; exact rfl; exact (by (try simp only []); omega))) rfl ?_ | refine JC.seq ?_ | refine JC.region ?_ | refine JC.block ?_ | refine JC.skip ?_ | refine JC.exit ?_ | refine JL.nil ?_ | refine JE.next ?_ | refine JE.blk_normal ?_ | refine JE.then_exit ?_ | refine JE.blk_hit ?_ | refine JE.blk_miss rfl ?_ | refine JE.then_ret ?_ | refine JE.blk_ret ?_ | refine JC.label ?_ | refine JL.gon rfl rfl ?_ | refine JL.gskip rfl rfl rfl rfl ?_ | refine JL.gskipU rfl rfl rfl rfl ?_)
        refine JC.ret ?_
        repeat (first | refine JL.q (by first | (apply OQ.move; exact rfl) | (apply OQ.assign; exact rfl) | (apply OQ.len; exact rfl; exact rfl) | (apply OQ.addN; exact rfl; exact rfl; exact (by (try simp only []); omega)) | (apply OQ.subN; exact rfl; exact rfl; exact (by (try simp only []); omega); exact (by (try simp only []); omega)) | (apply OQ.lssN; exact rfl; exact rfl) | (apply OQ.idxS0; exact rfl; exact rfl; exact rfl; exact rfl; exact (by (try simp only []); omega))) rfl ?_ | refine JC.seq ?_ | refine JC.region ?_ | refine JC.block ?_ | refine JC.skip ?_ | refine JC.exit ?_ | refine JL.nil ?_ | refine JE.next ?_ | refine JE.blk_normal ?_ | refine JE.then_exit ?_ | refine JE.blk_hit ?_ | refine JE.blk_miss rfl ?_ | refine JE.then_ret ?_ | refine JE.blk_ret ?_ | refine JC.label ?_ | refine JL.gon rfl rfl ?_ | refine JL.gskip rfl rfl rfl rfl ?_ | refine JL.gskipU rfl rfl rfl rfl ?_)
        exact JE.ret2 rfl (RV.tmp rfl) (RV.tmp rfl) fun w' hw => ⟨rfl, hw.chg⟩
    · rintro y ⟨hy, hyl⟩
      rw [hy]
      have cC := fun w' => cutw_any y 64 w' (by omega)
      have hfl := fi_le 64 y
      have hS := addrS_is y
      unfold cutV at cC
      by_cases hf : fi 64 y < y.length
      · rw [if_pos hf] at cC
        have hwl : (y.take (fi 64 y)).length ≤ y.length := by rw [List.length_take]; omega
        have hdl : (y.drop (fi 64 y + 1)).length ≤ y.length := by rw [List.length_drop]; omega
        have hlow := dotR_low (y.drop (fi 64 y + 1)) 46
        replace hlow : dotB (y.drop (fi 64 y + 1)) = true → ∀ c ∈ y.drop (fi 64 y + 1), c.toNat < 128 := hlow
        replace hS : addrS y = if dotB (y.take (fi 64 y)) = true ∧ dotB (y.drop (fi 64 y + 1)) = true then (y.take (fi 64 y) ++ [64] ++ (y.drop (fi 64 y + 1)).map small, 0) else ([], 3) := by
          rw [hS]
          by_cases h : dotB (y.take (fi 64 y)) = true ∧ dotB (y.drop (fi 64 y + 1)) = true
          · rw [if_pos ⟨hf, h⟩, if_pos h]
          · rw [if_neg (fun k => h k.2), if_neg h]
        generalize y.take (fi 64 y) = who at cC hS hwl
        generalize y.drop (fi 64 y + 1) = whe at cC hS hdl hlow
        have c1 := fun w' => dotted_any who w' (by omega)
        have c2 := fun w' => dotted_any whe w' (by omega)
        cases d1 : dotB who
        · rw [d1] at c1
          rw [hS, if_neg (fun k => by rw [d1] at k; cases k.1)]
          repeat (first | refine JL.q (by first | (apply OQ.callx (vs := [Z y, Z [64]]); exact goes_cutw; exact rfl; exact (fun w' _ => cC w')) | (apply OQ.extract; exact rfl; exact rfl) | (apply OQ.not; exact rfl) | (apply OQ.pick_t; exact rfl; exact rfl) | (apply OQ.pick_f; exact rfl; exact rfl) | (apply OQ.callx (vs := [Z who]); exact goes_dotted; exact rfl; exact (fun w' _ => c1 w')) | (apply OQ.move; exact rfl) | (apply OQ.assign; exact rfl) | (apply OQ.len; exact rfl; exact rfl) | (apply OQ.addN; exact rfl; exact rfl; exact (by (try simp only []); omega)) | (apply OQ.subN; exact rfl; exact rfl; exact (by (try simp only []); omega); exact (by (try simp only []); omega)) | (apply OQ.lssN; exact rfl; exact rfl) | (apply OQ.idxS0; exact rfl; exact rfl; exact rfl; exact rfl; exact (by (try simp only []); omega))) rfl ?_ | refine JC.seq ?_ | refine JC.region ?_ | refine JC.block ?_ | refine JC.skip ?_ | refine JC.exit ?_ | refine JL.nil ?_ | refine JE.next ?_ | refine JE.blk_normal ?_ | refine JE.then_exit ?_ | refine JE.blk_hit ?_ | refine JE.blk_miss rfl ?_ | refine JE.then_ret ?_ | refine JE.blk_ret ?_ | refine JC.label ?_ | refine JL.gon rfl rfl ?_ | refine JL.gskip rfl rfl rfl rfl ?_ | refine JL.gskipU rfl rfl rfl rfl ?_)
          refine JC.cond rfl (fun _ => ?_) (fun h => by cases h)
          repeat (first | refine JL.q (by first | (apply OQ.move; exact rfl) | (apply OQ.assign; exact rfl) | (apply OQ.len; exact rfl; exact rfl) | (apply OQ.addN; exact rfl; exact rfl; exact (by (try simp only []); omega)) | (apply OQ.subN; exact rfl; exact rfl; exact (by (try simp only []); omega); exact (by (try simp only []); omega)) | (apply OQ.lssN; exact rfl; exact rfl) | (apply OQ.idxS0; exact rfl; exact rfl; exact rfl; exact rfl; exact (by (try simp only []); omega))) rfl ?_ | refine JC.seq ?_ | refine JC.region ?_ | refine JC.block ?_ | refine JC.skip ?_ | refine JC.exit ?_ | refine JL.nil ?_ | refine JE.next ?_ | refine JE.blk_normal ?_ | refine JE.then_exit ?_ | refine JE.blk_hit ?_ | refine JE.blk_miss rfl ?_ | refine JE.then_ret ?_ | refine JE.blk_ret ?_ | refine JC.label ?_ | refine JL.gon rfl rfl ?_ | refine JL.gskip rfl rfl rfl rfl ?_ | refine JL.gskipU rfl rfl rfl rfl ?_)
          refine JC.ret ?_
          repeat (first | refine JL.q (by first | (apply OQ.move; exact rfl) | (apply OQ.assign; exact rfl) | (apply OQ.len; exact rfl; exact rfl) | (apply OQ.addN; exact rfl; exact rfl; exact (by (try simp only []); omega)) | (apply OQ.subN; exact rfl; exact rfl; exact (by (try simp only []); omega); exact (by (try simp only []); omega)) | (apply OQ.lssN; exact rfl; exact rfl) | (apply OQ.idxS0; exact rfl; exact rfl; exact rfl; exact rfl; exact (by (try simp only []); omega))) rfl ?_ | refine JC.seq ?_ | refine JC.region ?_ | refine JC.block ?_ | refine JC.skip ?_ | refine JC.exit ?_ | refine JL.nil ?_ | refine JE.next ?_ | refine JE.blk_normal ?_ | refine JE.then_exit ?_ | refine JE.blk_hit ?_ | refine JE.blk_miss rfl ?_ | refine JE.then_ret ?_ | refine JE.blk_ret ?_ | refine JC.label ?_ | refine JL.gon rfl rfl ?_ | refine JL.gskip rfl rfl rfl rfl ?_ | refine JL.gskipU rfl rfl rfl rfl ?_)
          exact JE.ret2 rfl (RV.tmp rfl) (RV.tmp rfl) fun w' hw => ⟨rfl, hw.chg⟩
        · cases d2 : dotB whe
          · rw [d1] at c1
            rw [d2] at c2
            rw [hS, if_neg (fun k => by rw [d2] at k; cases k.2)]
            repeat (first | refine JL.q (by first | (apply OQ.callx (vs := [Z y, Z [64]]); exact goes_cutw; exact rfl; exact (fun w' _ => cC w')) | (apply OQ.extract; exact rfl; exact rfl) | (apply OQ.not; exact rfl) | (apply OQ.pick_t; exact rfl; exact rfl) | (apply OQ.pick_f; exact rfl; exact rfl) | (apply OQ.callx (vs := [Z who]); exact goes_dotted; exact rfl; exact (fun w' _ => c1 w')) | (apply OQ.callx (vs := [Z whe]); exact goes_dotted; exact rfl; exact (fun w' _ => c2 w')) | (apply OQ.move; exact rfl) | (apply OQ.assign; exact rfl) | (apply OQ.len; exact rfl; exact rfl) | (apply OQ.addN; exact rfl; exact rfl; exact (by (try simp only []); omega)) | (apply OQ.subN; exact rfl; exact rfl; exact (by (try simp only []); omega); exact (by (try simp only []); omega)) | (apply OQ.lssN; exact rfl; exact rfl) | (apply OQ.idxS0; exact rfl; exact rfl; exact rfl; exact rfl; exact (by (try simp only []); omega))) rfl ?_ | refine JC.seq ?_ | refine JC.region ?_ | refine JC.block ?_ | refine JC.skip ?_ | refine JC.exit ?_ | refine JL.nil ?_ | refine JE.next ?_ | refine JE.blk_normal ?_ | refine JE.then_exit ?_ | refine JE.blk_hit ?_ | refine JE.blk_miss rfl ?_ | refine JE.then_ret ?_ | refine JE.blk_ret ?_ | refine JC.label ?_ | refine JL.gon rfl rfl ?_ | refine JL.gskip rfl rfl rfl rfl ?_ | refine JL.gskipU rfl rfl rfl rfl ?_)
            refine JC.cond rfl (fun _ => ?_) (fun h => by cases h)
            repeat (first | refine JL.q (by first | (apply OQ.move; exact rfl) | (apply OQ.assign; exact rfl) | (apply OQ.len; exact rfl; exact rfl) | (apply OQ.addN; exact rfl; exact rfl; exact (by (try simp only []); omega)) | (apply OQ.subN; exact rfl; exact rfl; exact (by (try simp only []); omega); exact (by (try simp only []); omega)) | (apply OQ.lssN; exact rfl; exact rfl) | (apply OQ.idxS0; exact rfl; exact rfl; exact rfl; exact rfl; exact (by (try simp only []); omega))) rfl ?_ | refine JC.seq ?_ | refine JC.region ?_ | refine JC.block ?_ | refine JC.skip ?_ | refine JC.exit ?_ | refine JL.nil ?_ | refine JE.next ?_ | refine JE.blk_normal ?_ | refine JE.then_exit ?_ | refine JE.blk_hit ?_ | refine JE.blk_miss rfl ?_ | refine JE.then_ret ?_ | refine JE.blk_ret ?_ | refine JC.label ?_ | refine JL.gon rfl rfl ?_ | refine JL.gskip rfl rfl rfl rfl ?_ | refine JL.gskipU rfl rfl rfl rfl ?_)
            refine JC.ret ?_
            repeat (first | refine JL.q (by first | (apply OQ.move; exact rfl) | (apply OQ.assign; exact rfl) | (apply OQ.len; exact rfl; exact rfl) | (apply OQ.addN; exact rfl; exact rfl; exact (by (try simp only []); omega)) | (apply OQ.subN; exact rfl; exact rfl; exact (by (try simp only []); omega); exact (by (try simp only []); omega)) | (apply OQ.lssN; exact rfl; exact rfl) | (apply OQ.idxS0; exact rfl; exact rfl; exact rfl; exact rfl; exact (by (try simp only []); omega))) rfl ?_ | refine JC.seq ?_ | refine JC.region ?_ | refine JC.block ?_ | refine JC.skip ?_ | refine JC.exit ?_ | refine JL.nil ?_ | refine JE.next ?_ | refine JE.blk_normal ?_ | refine JE.then_exit ?_ | refine JE.blk_hit ?_ | refine JE.blk_miss rfl ?_ | refine JE.then_ret ?_ | refine JE.blk_ret ?_ | refine JC.label ?_ | refine JL.gon rfl rfl ?_ | refine JL.gskip rfl rfl rfl rfl ?_ | refine JL.gskipU rfl rfl rfl rfl ?_)
            exact JE.ret2 rfl (RV.tmp rfl) (RV.tmp rfl) fun w' hw => ⟨rfl, hw.chg⟩
          · rw [hS, if_pos ⟨d1, d2⟩]
            rw [d1] at c1
            rw [d2] at c2
            have cL := fun w' => lower_any whe w' (by omega) (hlow d2)
            repeat (first | refine JL.q (by first | (apply OQ.callx (vs := [Z y, Z [64]]); exact goes_cutw; exact rfl; exact (fun w' _ => cC w')) | (apply OQ.extract; exact rfl; exact rfl) | (apply OQ.not; exact rfl) | (apply OQ.pick_t; exact rfl; exact rfl) | (apply OQ.pick_f; exact rfl; exact rfl) | (apply OQ.callx (vs := [Z who]); exact goes_dotted; exact rfl; exact (fun w' _ => c1 w')) | (apply OQ.callx (vs := [Z whe]); exact goes_dotted; exact rfl; exact (fun w' _ => c2 w')) | (apply OQ.move; exact rfl) | (apply OQ.assign; exact rfl) | (apply OQ.len; exact rfl; exact rfl) | (apply OQ.addN; exact rfl; exact rfl; exact (by (try simp only []); omega)) | (apply OQ.subN; exact rfl; exact rfl; exact (by (try simp only []); omega); exact (by (try simp only []); omega)) | (apply OQ.lssN; exact rfl; exact rfl) | (apply OQ.idxS0; exact rfl; exact rfl; exact rfl; exact rfl; exact (by (try simp only []); omega))) rfl ?_ | refine JC.seq ?_ | refine JC.region ?_ | refine JC.block ?_ | refine JC.skip ?_ | refine JC.exit ?_ | refine JL.nil ?_ | refine JE.next ?_ | refine JE.blk_normal ?_ | refine JE.then_exit ?_ | refine JE.blk_hit ?_ | refine JE.blk_miss rfl ?_ | refine JE.then_ret ?_ | refine JE.blk_ret ?_ | refine JC.label ?_ | refine JL.gon rfl rfl ?_ | refine JL.gskip rfl rfl rfl rfl ?_ | refine JL.gskipU rfl rfl rfl rfl ?_)
            refine JC.cond rfl (fun h => by cases h) (fun _ => ?_)
            repeat (first | refine JL.q (by first | (apply OQ.addS (l := who) (r := [64]); exact rfl; exact rfl; exact (by rw [List.length_singleton]; omega)) | (apply OQ.callx (vs := [Z whe]); exact goes_lower; exact rfl; exact (fun w' _ => cL w')) | (apply OQ.addS (l := who ++ [64]) (r := whe.map small); exact rfl; exact rfl; exact (by rw [List.length_append, List.length_map, List.length_singleton]; omega)) | (apply OQ.move; exact rfl) | (apply OQ.assign; exact rfl) | (apply OQ.len; exact rfl; exact rfl) | (apply OQ.addN; exact rfl; exact rfl; exact (by (try simp only []); omega)) | (apply OQ.subN; exact rfl; exact rfl; exact (by (try simp only []); omega); exact (by (try simp only []); omega)) | (apply OQ.lssN; exact rfl; exact rfl) | (apply OQ.idxS0; exact rfl; exact rfl; exact rfl; exact rfl; exact (by (try simp only []); omega))) rfl ?_ | refine JC.seq ?_ | refine JC.region ?_ | refine JC.block ?_ | refine JC.skip ?_ | refine JC.exit ?_ | refine JL.nil ?_ | refine JE.next ?_ | refine JE.blk_normal ?_ | refine JE.then_exit ?_ | refine JE.blk_hit ?_ | refine JE.blk_miss rfl ?_ | refine JE.then_ret ?_ | refine JE.blk_ret ?_ | refine JC.label ?_ | refine JL.gon rfl rfl ?_ | refine JL.gskip rfl rfl rfl rfl ?_ | refine JL.gskipU rfl rfl rfl rfl ?_)
            refine JC.ret ?_
            exact JE.ret2 rfl (RV.tmp rfl) (RV.tmp rfl) fun w' hw => ⟨rfl, hw.chg⟩
      · rw [if_neg hf] at cC
        rw [hS, if_neg (fun k => hf k.1)]
        repeat (first | refine JL.q (by first | (apply OQ.callx (vs := [Z y, Z [64]]); exact goes_cutw; exact rfl; exact (fun w' _ => cC w')) | (apply OQ.extract; exact rfl; exact rfl) | (apply OQ.not; exact rfl) | (apply OQ.pick_t; exact rfl; exact rfl) | (apply OQ.pick_f; exact rfl; exact rfl) | (apply OQ.move; exact rfl) | (apply OQ.assign; exact rfl) | (apply OQ.len; exact rfl; exact rfl) | (apply OQ.addN; exact rfl; exact rfl; exact (by (try simp only []); omega)) | (apply OQ.subN; exact rfl; exact rfl; exact (by (try simp only []); omega); exact (by (try simp only []); omega)) | (apply OQ.lssN; exact rfl; exact rfl) | (apply OQ.idxS0; exact rfl; exact rfl; exact rfl; exact rfl; exact (by (try simp only []); omega))) rfl ?_ | refine JC.seq ?_ | refine JC.region ?_ | refine JC.block ?_ | refine JC.skip ?_ | refine JC.exit ?_ | refine JL.nil ?_ | refine JE.next ?_ | refine JE.blk_normal ?_ | refine JE.then_exit ?_ | refine JE.blk_hit ?_ | refine JE.blk_miss rfl ?_ | refine JE.then_ret ?_ | refine JE.blk_ret ?_ | refine JC.label ?_ | refine JL.gon rfl rfl ?_ | refine JL.gskip rfl rfl rfl rfl ?_ | refine JL.gskipU rfl rfl rfl rfl ?_)
        refine JC.cond rfl (fun _ => ?_) (fun h => by cases h)
        repeat (first | refine JL.q (by first | (apply OQ.move; exact rfl) | (apply OQ.assign; exact rfl) | (apply OQ.len; exact rfl; exact rfl) | (apply OQ.addN; exact rfl; exact rfl; exact (by (try simp only []); omega)) | (apply OQ.subN; exact rfl; exact rfl; exact (by (try simp only []); omega); exact (by (try simp only []); omega)) | (apply OQ.lssN; exact rfl; exact rfl) | (apply OQ.idxS0; exact rfl; exact rfl; exact rfl; exact rfl; exact (by (try simp only []); omega))) rfl ?_ | refine JC.seq ?_ | refine JC.region ?_ | refine JC.block ?_ | refine JC.skip ?_ | refine JC.exit ?_ | refine JL.nil ?_ | refine JE.next ?_ | refine JE.blk_normal ?_ | refine JE.then_exit ?_ | refine JE.blk_hit ?_ | refine JE.blk_miss rfl ?_ | refine JE.then_ret ?_ | refine JE.blk_ret ?_ | refine JC.label ?_ | refine JL.gon rfl rfl ?_ | refine JL.gskip rfl rfl rfl rfl ?_ | refine JL.gskipU rfl rfl rfl rfl ?_)
        refine JC.ret ?_
        repeat (first | refine JL.q (by first | (apply OQ.move; exact rfl) | (apply OQ.assign; exact rfl) | (apply OQ.len; exact rfl; exact rfl) | (apply OQ.addN; exact rfl; exact rfl; exact (by (try simp only []); omega)) | (apply OQ.subN; exact rfl; exact rfl; exact (by (try simp only []); omega); exact (by (try simp only []); omega)) | (apply OQ.lssN; exact rfl; exact rfl) | (apply OQ.idxS0; exact rfl; exact rfl; exact rfl; exact rfl; exact (by (try simp only []); omega))) rfl ?_ | refine JC.seq ?_ | refine JC.region ?_ | refine JC.block ?_ | refine JC.skip ?_ | refine JC.exit ?_ | refine JL.nil ?_ | refine JE.next ?_ | refine JE.blk_normal ?_ | refine JE.then_exit ?_ | refine JE.blk_hit ?_ | refine JE.blk_miss rfl ?_ | refine JE.then_ret ?_ | refine JE.blk_ret ?_ | refine JC.label ?_ | refine JL.gon rfl rfl ?_ | refine JL.gskip rfl rfl rfl rfl ?_ | refine JL.gskipU rfl rfl rfl rfl ?_)
        exact JE.ret2 rfl (RV.tmp rfl) (RV.tmp rfl) fun w' hw => ⟨rfl, hw.chg⟩
  · rw [if_neg hg] at hT cS
    repeat (first | refine JL.q (by first | (apply OQ.callx (vs := [Z x, Z [32, 9]]); exact goes_trimw; exact rfl; exact (fun w' _ => cT w')) | (apply OQ.callx (vs := [Z t, Z [62]]); exact goes_csw; exact rfl; exact (fun w' _ => cS w')) | (apply OQ.extract; exact rfl; exact rfl) | (apply OQ.move; exact rfl) | (apply OQ.assign; exact rfl) | (apply OQ.len; exact rfl; exact rfl) | (apply OQ.addN; exact rfl; exact rfl; exact (by (try simp only []); omega)) | (apply OQ.subN; exact rfl; exact rfl; exact (by (try simp only []); omega); exact (by (try simp only []); omega)) | (apply OQ.lssN; exact rfl; exact rfl) | (apply OQ.idxS0; exact rfl; exact rfl; exact rfl; exact rfl; exact (by (try simp only []); omega))) rfl ?_ | refine JC.seq ?_ | refine JC.region ?_ | refine JC.block ?_ | refine JC.skip ?_ | refine JC.exit ?_ | refine JL.nil ?_ | refine JE.next ?_ | refine JE.blk_normal ?_ | refine JE.then_exit ?_ | refine JE.blk_hit ?_ | refine JE.blk_miss rfl ?_ | refine JE.then_ret ?_ | refine JE.blk_ret ?_ | refine JC.label ?_ | refine JL.gon rfl rfl ?_ | refine JL.gskip rfl rfl rfl rfl ?_ | refine JL.gskipU rfl rfl rfl rfl ?_)
    refine JC.join (ι := List Bt) (fun y => [(6, Z y)]) (fun _ => []) (fun y => addrT t = addrS y ∧ y.length < 1000000) ?_ ?_
    · refine JC.cond rfl (fun h => by cases h) (fun _ => ?_)
      repeat (first | refine JL.q (by first | (apply OQ.move; exact rfl) | (apply OQ.assign; exact rfl) | (apply OQ.len; exact rfl; exact rfl) | (apply OQ.addN; exact rfl; exact rfl; exact (by (try simp only []); omega)) | (apply OQ.subN; exact rfl; exact rfl; exact (by (try simp only []); omega); exact (by (try simp only []); omega)) | (apply OQ.lssN; exact rfl; exact rfl) | (apply OQ.idxS0; exact rfl; exact rfl; exact rfl; exact rfl; exact (by (try simp only []); omega))) rfl ?_ | refine JC.seq ?_ | refine JC.region ?_ | refine JC.block ?_ | refine JC.skip ?_ | refine JC.exit ?_ | refine JL.nil ?_ | refine JE.next ?_ | refine JE.blk_normal ?_ | refine JE.then_exit ?_ | refine JE.blk_hit ?_ | refine JE.blk_miss rfl ?_ | refine JE.then_ret ?_ | refine JE.blk_ret ?_ | refine JC.label ?_ | refine JL.gon rfl rfl ?_ | refine JL.gskip rfl rfl rfl rfl ?_ | refine JL.gskipU rfl rfl rfl rfl ?_)
      exact JE.mid t ⟨hT, by omega⟩ (by repeat (first | exact SubE.nil | refine SubE.cons _ _ _ rfl ?_)) (Less.refl _)
    · rintro y ⟨hy, hyl⟩
      rw [hy]
      have cC := fun w' => cutw_any y 64 w' (by omega)
      have hfl := fi_le 64 y
      have hS := addrS_is y
      unfold cutV at cC
      by_cases hf : fi 64 y < y.length
      · rw [if_pos hf] at cC
        have hwl : (y.take (fi 64 y)).length ≤ y.length := by rw [List.length_take]; omega
        have hdl : (y.drop (fi 64 y + 1)).length ≤ y.length := by rw [List.length_drop]; omega
        have hlow := dotR_low (y.drop (fi 64 y + 1)) 46
        replace hlow : dotB (y.drop (fi 64 y + 1)) = true → ∀ c ∈ y.drop (fi 64 y + 1), c.toNat < 128 := hlow
        replace hS : addrS y = if dotB (y.take (fi 64 y)) = true ∧ dotB (y.drop (fi 64 y + 1)) = true then (y.take (fi 64 y) ++ [64] ++ (y.drop (fi 64 y + 1)).map small, 0) else ([], 3) := by
          rw [hS]
          by_cases h : dotB (y.take (fi 64 y)) = true ∧ dotB (y.drop (fi 64 y + 1)) = true
          · rw [if_pos ⟨hf, h⟩, if_pos h]
          · rw [if_neg (fun k => h k.2), if_neg h]
        generalize y.take (fi 64 y) = who at cC hS hwl
        generalize y.drop (fi 64 y + 1) = whe at cC hS hdl hlow
        have c1 := fun w' => dotted_any who w' (by omega)
        have c2 := fun w' => dotted_any whe w' (by omega)
        cases d1 : dotB who
        · rw [d1] at c1
          rw [hS, if_neg (fun k => by rw [d1] at k; cases k.1)]
          repeat (first | refine JL.q (by first | (apply OQ.callx (vs := [Z y, Z [64]]); exact goes_cutw; exact rfl; exact (fun w' _ => cC w')) | (apply OQ.extract; exact rfl; exact rfl) | (apply OQ.not; exact rfl) | (apply OQ.pick_t; exact rfl; exact rfl) | (apply OQ.pick_f; exact rfl; exact rfl) | (apply OQ.callx (vs := [Z who]); exact goes_dotted; exact rfl; exact (fun w' _ => c1 w')) | (apply OQ.move; exact rfl) | (apply OQ.assign; exact rfl) | (apply OQ.len; exact rfl; exact rfl) | (apply OQ.addN; exact rfl; exact rfl; exact (by (try simp only []); omega)) | (apply OQ.subN; exact rfl; exact rfl; exact (by (try simp only []); omega); exact (by (try simp only []); omega)) | (apply OQ.lssN; exact rfl; exact rfl) | (apply OQ.idxS0; exact rfl; exact rfl; exact rfl; exact rfl; exact (by (try simp only []); omega))) rfl ?_ | refine JC.seq ?_ | refine JC.region ?_ | refine JC.block ?_ | refine JC.skip ?_ | refine JC.exit ?_ | refine JL.nil ?_ | refine JE.next ?_ | refine JE.blk_normal ?_ | refine JE.then_exit ?_ | refine JE.blk_hit ?_ | refine JE.blk_miss rfl ?_ | refine JE.then_ret ?_ | refine JE.blk_ret ?_ | refine JC.label ?_ | refine JL.gon rfl rfl ?_ | refine JL.gskip rfl rfl rfl rfl ?_ | refine JL.gskipU rfl rfl rfl rfl ?_)
          refine JC.cond rfl (fun _ => ?_) (fun h => by cases h)
          repeat (first | refine JL.q (by first | (apply OQ.move; exact rfl) | (apply OQ.assign; exact rfl) | (apply OQ.len; exact rfl; exact rfl) | (apply OQ.addN; exact rfl; exact rfl; exact (by (try simp only []); omega)) | (apply OQ.subN; exact rfl; exact rfl; exact (by (try simp only []); omega); exact (by (try simp only []); omega)) | (apply OQ.lssN; exact rfl; exact rfl) | (apply OQ.idxS0; exact rfl; exact rfl; exact rfl; exact rfl; exact (by (try simp only []); omega))) rfl ?_ | refine JC.seq ?_ | refine JC.region ?_ | refine JC.block ?_ | refine JC.skip ?_ | refine JC.exit ?_ | refine JL.nil ?_ | refine JE.next ?_ | refine JE.blk_normal ?_ | refine JE.then_exit ?_ | refine JE.blk_hit ?_ | refine JE.blk_miss rfl ?_ | refine JE.then_ret ?_ | refine JE.blk_ret ?_ | refine JC.label ?_ | refine JL.gon rfl rfl ?_ | refine JL.gskip rfl rfl rfl rfl ?_ | refine JL.gskipU rfl rfl rfl rfl ?_)
          refine JC.ret ?_
          repeat (first | refine JL.q (by first | (apply OQ.move; exact rfl) | (apply OQ.assign; exact rfl) | (apply OQ.len; exact rfl; exact rfl) | (apply OQ.addN; exact rfl; exact rfl; exact (by (try simp only []); omega)) | (apply OQ.subN; exact rfl; exact rfl; exact (by (try simp only []); omega); exact (by (try simp only []); omega)) | (apply OQ.lssN; exact rfl; exact rfl) | (apply OQ.idxS0; exact rfl; exact rfl; exact rfl; exact rfl; exact (by (try simp only []); omega))) rfl ?_ | refine JC.seq ?_ | refine JC.region ?_ | refine JC.block ?_ | refine JC.skip ?_ | refine JC.exit ?_ | refine JL.nil ?_ | refine JE.next ?_ | refine JE.blk_normal ?_ | refine JE.then_exit ?_ | refine JE.blk_hit ?_ | refine JE.blk_miss rfl ?_ | refine JE.then_ret ?_ | refine JE.blk_ret ?_ | refine JC.label ?_ | refine JL.gon rfl rfl ?_ | refine JL.gskip rfl rfl rfl rfl ?_ | refine JL.gskipU rfl rfl rfl rfl ?_)
          exact JE.ret2 rfl (RV.tmp rfl) (RV.tmp rfl) fun w' hw => ⟨rfl, hw.chg⟩
        · cases d2 : dotB whe
          · rw [d1] at c1
            rw [d2] at c2
            rw [hS, if_neg (fun k => by rw [d2] at k; cases k.2)]
            repeat (first | refine JL.q (by first | (apply OQ.callx (vs := [Z y, Z [64]]); exact goes_cutw; exact rfl; exact (fun w' _ => cC w')) | (apply OQ.extract; exact rfl; exact rfl) | (apply OQ.not; exact rfl) | (apply OQ.pick_t; exact rfl; exact rfl) | (apply OQ.pick_f; exact rfl; exact rfl) | (apply OQ.callx (vs := [Z who]); exact goes_dotted; exact rfl; exact (fun w' _ => c1 w')) | (apply OQ.callx (vs := [Z whe]); exact goes_dotted; exact rfl; exact (fun w' _ => c2 w')) | (apply OQ.move; exact rfl) | (apply OQ.assign; exact rfl) | (apply OQ.len; exact rfl; exact rfl) | (apply OQ.addN; exact rfl; exact rfl; exact (by (try simp only []); omega)) | (apply OQ.subN; exact rfl; exact rfl; exact (by (try simp only []); omega); exact (by (try simp only []); omega)) | (apply OQ.lssN; exact rfl; exact rfl) | (apply OQ.idxS0; exact rfl; exact rfl; exact rfl; exact rfl; exact (by (try simp only []); omega))) rfl ?_ | refine JC.seq ?_ | refine JC.region ?_ | refine JC.block ?_ | refine JC.skip ?_ | refine JC.exit ?_ | refine JL.nil ?_ | refine JE.next ?_ | refine JE.blk_normal ?_ | refine JE.then_exit ?_ | refine JE.blk_hit ?_ | refine JE.blk_miss rfl ?_ | refine JE.then_ret ?_ | refine JE.blk_ret ?_ | refine JC.label ?_ | refine JL.gon rfl rfl ?_ | refine JL.gskip rfl rfl rfl rfl ?_ | refine JL.gskipU rfl rfl rfl rfl ?_)
            refine JC.cond rfl (fun _ => ?_) (fun h => by cases h)
            repeat (first | refine JL.q (by first | (apply OQ.move; exact rfl) | (apply OQ.assign; exact rfl) | (apply OQ.len; exact rfl; exact rfl) | (apply OQ.addN; exact rfl; exact rfl; exact (by (try simp only []); omega)) | (apply OQ.subN; exact rfl; exact rfl; exact (by (try simp only []); omega); exact (by (try simp only []); omega)) | (apply OQ.lssN; exact rfl; exact rfl) | (apply OQ.idxS0; exact rfl; exact rfl; exact rfl; exact rfl; exact (by (try simp only []); omega))) rfl ?_ | refine JC.seq ?_ | refine JC.region ?_ | refine JC.block ?_ | refine JC.skip ?_ | refine JC.exit ?_ | refine JL.nil ?_ | refine JE.next ?_ | refine JE.blk_normal ?_ | refine JE.then_exit ?_ | refine JE.blk_hit ?_ | refine JE.blk_miss rfl ?_ | refine JE.then_ret ?_ | refine JE.blk_ret ?_ | refine JC.label ?_ | refine JL.gon rfl rfl ?_ | refine JL.gskip rfl rfl rfl rfl ?_ | refine JL.gskipU rfl rfl rfl rfl ?_)
            refine JC.ret ?_
            repeat (first | refine JL.q (by first | (apply OQ.move; exact rfl) | (apply OQ.assign; exact rfl) | (apply OQ.len; exact rfl; exact rfl) | (apply OQ.addN; exact rfl; exact rfl; exact (by (try simp only []); omega)) | (apply OQ.subN; exact rfl; exact rfl; exact (by (try simp only []); omega); exact (by (try simp only []); omega)) | (apply OQ.lssN; exact rfl; exact rfl) | (apply OQ.idxS0; exact rfl; exact rfl; exact rfl; exact rfl; exact (by (try simp only []); omega))) rfl ?_ | refine JC.seq ?_ | refine JC.region ?_ | refine JC.block ?_ | refine JC.skip ?_ | refine JC.exit ?_ | refine JL.nil ?_ | refine JE.next ?_ | refine JE.blk_normal ?_ | refine JE.then_exit ?_ | refine JE.blk_hit ?_ | refine JE.blk_miss rfl ?_ | refine JE.then_ret ?_ | refine JE.blk_ret ?_ | refine JC.label ?_ | refine JL.gon rfl rfl ?_ | refine JL.gskip rfl rfl rfl rfl ?_ | refine JL.gskipU rfl rfl rfl rfl ?_)
            exact JE.ret2 rfl (RV.tmp rfl) (RV.tmp rfl) fun w' hw => ⟨rfl, hw.chg⟩
          · rw [hS, if_pos ⟨d1, d2⟩]
            rw [d1] at c1
            rw [d2] at c2
            have cL := fun w' => lower_any whe w' (by omega) (hlow d2)
            repeat (first | refine JL.q (by first | (apply OQ.callx (vs := [Z y, Z [64]]); exact goes_cutw; exact rfl; exact (fun w' _ => cC w')) | (apply OQ.extract; exact rfl; exact rfl) | (apply OQ.not; exact rfl) | (apply OQ.pick_t; exact rfl; exact rfl) | (apply OQ.pick_f; exact rfl; exact rfl) | (apply OQ.callx (vs := [Z who]); exact goes_dotted; exact rfl; exact (fun w' _ => c1 w')) | (apply OQ.callx (vs := [Z whe]); exact goes_dotted; exact rfl; exact (fun w' _ => c2 w')) | (apply OQ.move; exact rfl) | (apply OQ.assign; exact rfl) | (apply OQ.len; exact rfl; exact rfl) | (apply OQ.addN; exact rfl; exact rfl; exact (by (try simp only []); omega)) | (apply OQ.subN; exact rfl; exact rfl; exact (by (try simp only []); omega); exact (by (try simp only []); omega)) | (apply OQ.lssN; exact rfl; exact rfl) | (apply OQ.idxS0; exact rfl; exact rfl; exact rfl; exact rfl; exact (by (try simp only []); omega))) rfl ?_ | refine JC.seq ?_ | refine JC.region ?_ | refine JC.block ?_ | refine JC.skip ?_ | refine JC.exit ?_ | refine JL.nil ?_ | refine JE.next ?_ | refine JE.blk_normal ?_ | refine JE.then_exit ?_ | refine JE.blk_hit ?_ | refine JE.blk_miss rfl ?_ | refine JE.then_ret ?_ | refine JE.blk_ret ?_ | refine JC.label ?_ | refine JL.gon rfl rfl ?_ | refine JL.gskip rfl rfl rfl rfl ?_ | refine JL.gskipU rfl rfl rfl rfl ?_)
            refine JC.cond rfl (fun h => by cases h) (fun _ => ?_)
            repeat (first | refine JL.q (by first | (apply OQ.addS (l := who) (r := [64]); exact rfl; exact rfl; exact (by rw [List.length_singleton]; omega)) | (apply OQ.callx (vs := [Z whe]); exact goes_lower; exact rfl; exact (fun w' _ => cL w')) | (apply OQ.addS (l := who ++ [64]) (r := whe.map small); exact rfl; exact rfl; exact (by rw [List.length_append, List.length_map, List.length_singleton]; omega)) | (apply OQ.move; exact rfl) | (apply OQ.assign; exact rfl) | (apply OQ.len; exact rfl; exact rfl) | (apply OQ.addN; exact rfl; exact rfl; exact (by (try simp only []); omega)) | (apply OQ.subN; exact rfl; exact rfl; exact (by (try simp only []); omega); exact (by (try simp only []); omega)) | (apply OQ.lssN; exact rfl; exact rfl) | (apply OQ.idxS0; exact rfl; exact rfl; exact rfl; exact rfl; exact (by (try simp only []); omega))) rfl ?_ | refine JC.seq ?_ | refine JC.region ?_ | refine JC.block ?_ | refine JC.skip ?_ | refine JC.exit ?_ | refine JL.nil ?_ | refine JE.next ?_ | refine JE.blk_normal ?_ | refine JE.then_exit ?_ | refine JE.blk_hit ?_ | refine JE.blk_miss rfl ?_ | refine JE.then_ret ?_ | refine JE.blk_ret ?_ | refine JC.label ?_ | refine JL.gon rfl rfl ?_ | refine JL.gskip rfl rfl rfl rfl ?_ | refine JL.gskipU rfl rfl rfl rfl ?_)
            refine JC.ret ?_
            exact JE.ret2 rfl (RV.tmp rfl) (RV.tmp rfl) fun w' hw => ⟨rfl, hw.chg⟩
      · rw [if_neg hf] at cC
        rw [hS, if_neg (fun k => hf k.1)]
        repeat (first | refine JL.q (by first | (apply OQ.callx (vs := [Z y, Z [64]]); exact goes_cutw; exact rfl; exact (fun w' _ => cC w')) | (apply OQ.extract; exact rfl; exact rfl) | (apply OQ.not; exact rfl) | (apply OQ.pick_t; exact rfl; exact rfl) | (apply OQ.pick_f; exact rfl; exact rfl) | (apply OQ.move; exact rfl) | (apply OQ.assign; exact rfl) | (apply OQ.len; exact rfl; exact rfl) | (apply OQ.addN; exact rfl; exact rfl; exact (by (try simp only []); omega)) | (apply OQ.subN; exact rfl; exact rfl; exact (by (try simp only []); omega); exact (by (try simp only []); omega)) | (apply OQ.lssN; exact rfl; exact rfl) | (apply OQ.idxS0; exact rfl; exact rfl; exact rfl; exact rfl; exact (by (try simp only []); omega))) rfl ?_ | refine JC.seq ?_ | refine JC.region ?_ | refine JC.block ?_ | refine JC.skip ?_ | refine JC.exit ?_ | refine JL.nil ?_ | refine JE.next ?_ | refine JE.blk_normal ?_ | refine JE.then_exit ?_ | refine JE.blk_hit ?_ | refine JE.blk_miss rfl ?_ | refine JE.then_ret ?_ | refine JE.blk_ret ?_ | refine JC.label ?_ | refine JL.gon rfl rfl ?_ | refine JL.gskip rfl rfl rfl rfl ?_ | refine JL.gskipU rfl rfl rfl rfl ?_)
        refine JC.cond rfl (fun _ => ?_) (fun h => by cases h)
        repeat (first | refine JL.q (by first | (apply OQ.move; exact rfl) | (apply OQ.assign; exact rfl) | (apply OQ.len; exact rfl; exact rfl) | (apply OQ.addN; exact rfl; exact rfl; exact (by (try simp only []); omega)) | (apply OQ.subN; exact rfl; exact rfl; exact (by (try simp only []); omega); exact (by (try simp only []); omega)) | (apply OQ.lssN; exact rfl; exact rfl) | (apply OQ.idxS0; exact rfl; exact rfl; exact rfl; exact rfl; exact (by (try simp only []); omega))) rfl ?_ | refine JC.seq ?_ | refine JC.region ?_ | refine JC.block ?_ | refine JC.skip ?_ | refine JC.exit ?_ | refine JL.nil ?_ | refine JE.next ?_ | refine JE.blk_normal ?_ | refine JE.then_exit ?_ | refine JE.blk_hit ?_ | refine JE.blk_miss rfl ?_ | refine JE.then_ret ?_ | refine JE.blk_ret ?_ | refine JC.label ?_ | refine JL.gon rfl rfl ?_ | refine JL.gskip rfl rfl rfl rfl ?_ | refine JL.gskipU rfl rfl rfl rfl ?_)
        refine JC.ret ?_
        repeat (first | refine JL.q (by first | (apply OQ.move; exact rfl) | (apply OQ.assign; exact rfl) | (apply OQ.len; exact rfl; exact rfl) | (apply OQ.addN; exact rfl; exact rfl; exact (by (try simp only []); omega)) | (apply OQ.subN; exact rfl; exact rfl; exact (by (try simp only []); omega); exact (by (try simp only []); omega)) | (apply OQ.lssN; exact rfl; exact rfl) | (apply OQ.idxS0; exact rfl; exact rfl; exact rfl; exact rfl; exact (by (try simp only []); omega))) rfl ?_ | refine JC.seq ?_ | refine JC.region ?_ | refine JC.block ?_ | refine JC.skip ?_ | refine JC.exit ?_ | refine JL.nil ?_ | refine JE.next ?_ | refine JE.blk_normal ?_ | refine JE.then_exit ?_ | refine JE.blk_hit ?_ | refine JE.blk_miss rfl ?_ | refine JE.then_ret ?_ | refine JE.blk_ret ?_ | refine JC.label ?_ | refine JL.gon rfl rfl ?_ | refine JL.gskip rfl rfl rfl rfl ?_ | refine JL.gskipU rfl rfl rfl rfl ?_)
        exact JE.ret2 rfl (RV.tmp rfl) (RV.tmp rfl) fun w' hw => ⟨rfl, hw.chg⟩
end Go.Proofs.YtchoiikhepjdiaaGreatDoor

/-
  Of no statement by itself: how the landed token reads parameters, from left to right, is what the reference's parts give; pure; no program stands here.
  Conditions: none but each lemma's own.
-/
namespace Go.Proofs.YtchoiikhepjdiaaGreatDoor
namespace Tok
open Fld
/-! ### what stands between quotes -/
inductive Inn : List Fld.By → List Fld.By → Prop
  | nil : Inn [] []
  | esc (c : Fld.By) {i t : List Fld.By} (h : Inn i t) : Inn (92 :: c :: i) (c :: t)
  | chr {c : Fld.By} (h1 : ¬ c = 34) (h2 : ¬ c = 92) {i t : List Fld.By} (h : Inn i t) : Inn (c :: i) (c :: t)
theorem Inn.unq {i t : List Fld.By} (h : Inn i t) (r : List Fld.By) : ∀ o, unqR (i ++ 34 :: r) o = (o ++ t, 34 :: r) := by
  induction h with
  | nil => intro o; rw [List.nil_append, unq_34, List.append_nil]
  | esc c _ ih => intro o; rw [List.cons_append, List.cons_append, unq_92, ih, List.append_assoc]; rfl
  | chr h1 h2 _ ih => intro o; rw [List.cons_append, unq_c h1 h2, ih, List.append_assoc]; rfl
theorem Inn.quot {i t : List Fld.By} (h : Inn i t) (r : List Fld.By) : ∀ k, quotR (i ++ 34 :: r) k = k + i.length + 1 := by
  induction h with
  | nil => intro k; rw [List.nil_append, quot_34]; rfl
  | esc c _ ih => intro k; rw [List.cons_append, List.cons_append, quot_92, ih]; simp only [List.length_cons]; omega
  | chr h1 h2 _ ih => intro k; rw [List.cons_append, quot_c h1 h2, ih]; simp only [List.length_cons]; omega
theorem Inn.sem {i t : List Fld.By} (h : Inn i t) (r : List Fld.By) : ∀ x, semR (i ++ 34 :: r) true x = semR r false (x ++ i ++ [34]) := by
  induction h with
  | nil =>
    intro x
    rw [List.nil_append, sem_cons _ _ _ _ (by rintro ⟨_, k⟩; revert k; decide), if_pos rfl, List.append_nil]
    rfl
  | esc c _ ih =>
    intro x
    rw [List.cons_append, List.cons_append, sem_q92, ih]
    congr 1
    simp
  | chr h1 h2 _ ih =>
    intro x
    rw [List.cons_append, sem_cons _ _ _ _ (fun k => h2 k.2), if_neg h1, if_neg (by rintro ⟨_, k⟩; cases k), ih]
    congr 1
    simp
theorem Inn.sok {i t : List Fld.By} (h : Inn i t) : i.all Fld.sok = t.all Fld.sok := by
  induction h with
  | nil => rfl
  | esc c _ ih => rw [List.all_cons, List.all_cons, List.all_cons, ih, show Fld.sok 92 = true by decide, Bool.true_and]
  | chr _ _ _ ih => rw [List.all_cons, List.all_cons, ih]
theorem inn_of_unq : ∀ (n : Nat) (w o v : List Fld.By), w.length ≤ n → unqR w o = (v, [34]) → ∃ i t, w = i ++ [34] ∧ Inn i t ∧ v = o ++ t := by
  intro n
  induction n with
  | zero =>
    intro w o v hl h
    obtain rfl : w = [] := List.eq_nil_of_length_eq_zero (by omega)
    rw [unq_e] at h
    cases h
  | succ n ih =>
    intro w o v hl h
    match w, hl with
    | [], _ => rw [unq_e] at h; cases h
    | c :: r, hl =>
      simp only [List.length_cons] at hl
      by_cases h34 : c = 34
      · subst h34
        rw [unq_34] at h
        obtain ⟨rfl, h2⟩ := Prod.mk.inj h
        obtain ⟨_, rfl⟩ := List.cons.inj h2
        exact ⟨[], [], rfl, .nil, by simp⟩
      by_cases h92 : c = 92
      · subst h92
        match r, hl with
        | [], _ => rw [unq_92e] at h; cases h
        | c2 :: r, hl =>
          simp only [List.length_cons] at hl
          rw [unq_92] at h
          obtain ⟨i, t, rfl, h2, h3⟩ := ih r _ _ (by omega) h
          exact ⟨92 :: c2 :: i, c2 :: t, rfl, .esc c2 h2, by rw [h3]; simp⟩
      · rw [unq_c h34 h92] at h
        obtain ⟨i, t, rfl, h2, h3⟩ := ih r _ _ (by omega) h
        exact ⟨c :: i, c :: t, rfl, .chr h34 h92 h2, by rw [h3]; simp⟩
theorem inn_of_quot : ∀ (n : Nat) (w : List Fld.By) (k : Nat), w.length ≤ n → quotR w k ≠ 0 → ∃ i t r, w = i ++ 34 :: r ∧ Inn i t := by
  intro n
  induction n with
  | zero =>
    intro w k hl h
    obtain rfl : w = [] := List.eq_nil_of_length_eq_zero (by omega)
    exact absurd (quot_e k) h
  | succ n ih =>
    intro w k hl h
    match w, hl with
    | [], _ => exact absurd (quot_e k) h
    | c :: r, hl =>
      simp only [List.length_cons] at hl
      by_cases h34 : c = 34
      · subst h34
        exact ⟨[], [], r, rfl, .nil⟩
      by_cases h92 : c = 92
      · subst h92
        match r, hl with
        | [], _ => exact absurd (quot_92e k) h
        | c2 :: r, hl =>
          simp only [List.length_cons] at hl
          rw [quot_92] at h
          obtain ⟨i, t, r', rfl, h2⟩ := ih r _ (by omega) h
          exact ⟨92 :: c2 :: i, c2 :: t, r', rfl, .esc c2 h2⟩
      · rw [quot_c h34 h92] at h
        obtain ⟨i, t, r', rfl, h2⟩ := ih r _ (by omega) h
        exact ⟨c :: i, c :: t, r', rfl, .chr h34 h92 h2⟩
/-! ### from left to right -/
def partL (p : Fld.By → Bool) (s : List Fld.By) : List Fld.By × List Fld.By := ((trimL s).takeWhile p, trimL ((trimL s).dropWhile p))
def valL (s : List Fld.By) : List Fld.By × List Fld.By × Bool :=
  if (partL looseB s).1 ≠ [] then ((partL looseB s).1, (partL looseB s).2, true)
  else if (partL looseB s).2.head? = some 34 ∧ quotR (partL looseB s).2.tail 1 ≠ 0 then
    ((unqR (partL looseB s).2.tail []).1, trimL ((partL looseB s).2.drop (quotR (partL looseB s).2.tail 1)), ((unqR (partL looseB s).2.tail []).1).all sok)
  else ([], [], false)
def paramL (s : List Fld.By) : Option ((List Fld.By × List Fld.By) × List Fld.By) :=
  if s.head? = some 59 ∧ (partL plainB s.tail).1 ≠ [] ∧ (partL plainB s.tail).2.head? = some 61 ∧ (valL (partL plainB s.tail).2.tail).2.2 = true then
    some (((partL plainB s.tail).1.map small, (valL (partL plainB s.tail).2.tail).1), (valL (partL plainB s.tail).2.tail).2.1)
  else none
/-! ### what a part is -/
def VAL (V v : List Fld.By) : Prop := (simpleB V = true ∧ v = V) ∨ ∃ i, V = 34 :: (i ++ [34]) ∧ Inn i v ∧ v.all sok = true
def bls (b : List Fld.By) : Prop := ∀ c ∈ b, bl c = true
def Canon (x : List Fld.By) (p : List Fld.By × List Fld.By) : Prop :=
  ∃ b1 n b2 b3 V b4 v, x = b1 ++ (n ++ (b2 ++ 61 :: (b3 ++ (V ++ b4)))) ∧ bls b1 ∧ bls b2 ∧ bls b3 ∧ bls b4 ∧ atomB n = true ∧ VAL V v ∧ p = (n.map small, v)
theorem blank_no {c : Fld.By} (h : bl c = true) : ¬ c = 34 ∧ ¬ c = 59 ∧ ¬ c = 61 ∧ plainB c = false ∧ looseB c = false ∧ (plainB c || c == 47) = false := by
  have := byte_all (fun c => !bl c || (!decide (c = 34) && (!decide (c = 59) && (!decide (c = 61) && (!plainB c && (!looseB c && !(plainB c || c == 47))))))) (by decide +kernel) c
  rw [h] at this
  simpa using this
theorem bls_split (u : List Fld.By) : ∃ p, u = p ++ trimL u ∧ bls p := by
  refine ⟨u.takeWhile bl, (List.takeWhile_append_dropWhile).symm, fun c hc => ?_⟩
  exact List.all_eq_true.1 List.all_takeWhile c hc
theorem bls_trim (s : List Fld.By) : ∃ b1 b2, s = b1 ++ (trim s ++ b2) ∧ bls b1 ∧ bls b2 := by
  obtain ⟨p, h1, h2⟩ := bls_split s
  obtain ⟨q, h3, h4⟩ := bls_split (trimL s).reverse
  refine ⟨p, q.reverse, ?_, h2, fun c hc => h4 c (List.mem_reverse.1 hc)⟩
  have : trimL s = trim s ++ q.reverse := by
    unfold trim
    rw [← List.reverse_append, ← h3, List.reverse_reverse]
  rw [← this]
  exact h1
theorem val_ne {V v : List Fld.By} (h : VAL V v) : V ≠ [] := by
  rintro rfl
  rcases h with ⟨h, _⟩ | ⟨i, h, _⟩
  · revert h; decide
  · cases h
theorem val_hd {V v : List Fld.By} (h : VAL V v) : ∀ c ∈ V.head?, bl c = false := by
  intro c hc
  rcases h with ⟨h, _⟩ | ⟨i, rfl, _⟩
  · exact (loose_no (simple_all h c (List.mem_of_mem_head? hc))).2.2
  · cases hc; rfl
theorem val_last {V v : List Fld.By} (h : VAL V v) : ∀ c ∈ V.reverse.head?, bl c = false := by
  intro c hc
  rcases h with ⟨h, _⟩ | ⟨i, rfl, _⟩
  · exact (loose_no (simple_all h c (List.mem_reverse.1 (List.mem_of_mem_head? hc)))).2.2
  · simp at hc; subst hc; rfl
theorem atom_hd {n : List Fld.By} (h : atomB n = true) : n ≠ [] ∧ (∀ c ∈ n.head?, bl c = false) ∧ ∀ c ∈ n.reverse.head?, bl c = false :=
  ⟨by rintro rfl; revert h; decide, fun c hc => (plain_no (atom_all h c (List.mem_of_mem_head? hc))).2.2.2.2, fun c hc => (plain_no (atom_all h c (List.mem_reverse.1 (List.mem_of_mem_head? hc)))).2.2.2.2⟩
/-! ### A1 -/
theorem fst_split {c : Fld.By} {s : List Fld.By} (h : ¬ fst c s = s.length) : s = s.take (fst c s) ++ c :: s.drop (fst c s + 1) := by
  have hle : fst c s ≤ s.length := (List.takeWhile_sublist _).length_le
  have hat : ∀ s : List Fld.By, fst c s < s.length → s.drop (fst c s) = c :: s.drop (fst c s + 1) := by
    intro s
    induction s with
    | nil => intro h; simp at h
    | cons d r ih =>
      intro h
      by_cases e : d = c
      · have : fst c (d :: r) = 0 := by simp [fst, e]
        rw [this, e]; rfl
      · have : fst c (d :: r) = fst c r + 1 := by simp [fst, e]
        rw [this] at h ⊢
        simp only [List.length_cons, List.drop_succ_cons] at h ⊢
        exact ih (by omega)
  rw [← hat s (by omega), List.take_append_drop]
theorem canon_of {x : List Fld.By} {p : List Fld.By × List Fld.By} (h : partB x = some p) : Canon x p := by
  unfold partB at h
  split at h
  · cases h
  next h0 =>
  split at h
  · cases h
  next h1 =>
  have hx := fst_split h0
  obtain ⟨b1, b2, e1, k1, k2⟩ := bls_trim (x.take (fst 61 x))
  obtain ⟨b3, b4, e2, k3, k4⟩ := bls_trim (x.drop (fst 61 x + 1))
  generalize trim (x.take (fst 61 x)) = n at *
  generalize trim (x.drop (fst 61 x + 1)) = V at *
  have h1' : atomB n = true := by simpa using h1
  have hxx : x = b1 ++ (n ++ (b2 ++ 61 :: (b3 ++ (V ++ b4)))) := by
    rw [hx, e1, e2]
    simp
  split at h
  · next hs =>
    cases h
    exact ⟨b1, n, b2, b3, V, b4, V, hxx, k1, k2, k3, k4, h1', .inl ⟨hs, rfl⟩, rfl⟩
  split at h
  · cases h
  next h2 =>
  split at h
  · next h3 =>
    cases h
    match V, h2 with
    | [], h2 => exact absurd (.inl (by decide)) h2
    | c :: w, h2 =>
      have hc : c = 34 := by
        by_cases e : c = 34
        · exact e
        · exact absurd (.inr (by rw [List.getD_cons_zero]; exact e)) h2
      subst hc
      rw [List.tail_cons] at h3 ⊢
      obtain ⟨i, t, rfl, hi, hv⟩ := inn_of_unq _ w [] (unqR w []).1 (Nat.le_refl _) (Prod.ext rfl h3.1)
      rw [List.nil_append] at hv
      rw [hv] at h3 ⊢
      exact ⟨b1, n, b2, b3, _, b4, t, hxx, k1, k2, k3, k4, h1', .inr ⟨i, rfl, hi, h3.2⟩, rfl⟩
  · cases h
/-! ### A2 -/
theorem canon_part {x : List Fld.By} {p : List Fld.By × List Fld.By} (h : Canon x p) : partB x = some p := by
  obtain ⟨b1, n, b2, b3, V, b4, v, rfl, k1, k2, k3, k4, hn, hV, rfl⟩ := h
  have hx : b1 ++ (n ++ (b2 ++ 61 :: (b3 ++ (V ++ b4)))) = (b1 ++ n ++ b2) ++ 61 :: (b3 ++ V ++ b4) := by simp
  have h61 : ∀ d ∈ b1 ++ n ++ b2, ¬ d = 61 := by
    intro d hd
    rcases List.mem_append.1 hd with hd | hd
    · rcases List.mem_append.1 hd with hd | hd
      · exact (blank_no (k1 d hd)).2.2.1
      · exact (plain_no (atom_all hn d hd)).2.2.1
    · exact (blank_no (k2 d hd)).2.2.1
  have hf := fst_app (b1 ++ n ++ b2) (b3 ++ V ++ b4) h61
  have ht : ((b1 ++ n ++ b2) ++ 61 :: (b3 ++ V ++ b4)).take (b1 ++ n ++ b2).length = b1 ++ n ++ b2 := List.take_left
  have hd : ((b1 ++ n ++ b2) ++ 61 :: (b3 ++ V ++ b4)).drop ((b1 ++ n ++ b2).length + 1) = b3 ++ V ++ b4 := by
    rw [← List.drop_drop, List.drop_left]; rfl
  obtain ⟨n0, n1, n2⟩ := atom_hd hn
  have tn : trim (b1 ++ n ++ b2) = n := trim_mid k1 k2 n0 n1 n2
  have tV : trim (b3 ++ V ++ b4) = V := trim_mid k3 k4 (val_ne hV) (val_hd hV) (val_last hV)
  rw [hx]
  unfold partB
  rw [hf, ht, hd, tn, tV, if_neg (by simp only [List.length_append, List.length_cons]; omega), if_neg (by rw [hn]; decide)]
  rcases hV with ⟨hs, rfl⟩ | ⟨i, rfl, hi, hs⟩
  · rw [if_pos hs]
  · have hns : ¬ simpleB (34 :: (i ++ [34])) = true := by
      unfold simpleB
      rw [List.all_cons, show looseB 34 = false by decide, Bool.false_and, Bool.false_and]
      decide
    have hu := hi.unq [] []
    rw [if_neg hns, if_neg (fun k => k.elim (fun k => absurd k (by simp only [List.length_cons, List.length_append]; omega)) fun k => k rfl), List.tail_cons, hu, List.nil_append, if_pos ⟨rfl, hs⟩]
/-! ### A3 -/
theorem tw_app {q : Fld.By → Bool} {a b : List Fld.By} (ha : ∀ c ∈ a, q c = true) (hb : ∀ c ∈ b.head?, q c = false) : (a ++ b).takeWhile q = a ∧ (a ++ b).dropWhile q = b := by
  induction a with
  | nil =>
    cases b with
    | nil => exact ⟨rfl, rfl⟩
    | cons c r => rw [List.nil_append, List.takeWhile_cons, List.dropWhile_cons, if_neg (by rw [hb c rfl]; decide), if_neg (by rw [hb c rfl]; decide)]; exact ⟨rfl, rfl⟩
  | cons c r ih =>
    obtain ⟨i1, i2⟩ := ih fun d hd => ha d (by simp [hd])
    rw [List.cons_append, List.takeWhile_cons, List.dropWhile_cons, if_pos (ha c (by simp)), if_pos (ha c (by simp)), i1, i2]
    exact ⟨rfl, rfl⟩
theorem hd_app {q : Fld.By → Bool} {a b : List Fld.By} (ha : ∀ c ∈ a, q c = false) (hb : ∀ c ∈ b.head?, q c = false) : ∀ c ∈ (a ++ b).head?, q c = false := by
  cases a with
  | nil => exact hb
  | cons d r => intro c hc; cases hc; exact ha d (by simp)
theorem partL_app {q : Fld.By → Bool} {b n b2 z : List Fld.By} (k1 : bls b) (hn : ∀ c ∈ n, q c = true) (h0 : n ≠ []) (hh : ∀ c ∈ n.head?, bl c = false) (k2 : bls b2) (hq : ∀ c, bl c = true → q c = false) (hz : ∀ c ∈ z.head?, bl c = false) (hz2 : ∀ c ∈ z.head?, q c = false) : partL q (b ++ (n ++ (b2 ++ z))) = (n, z) := by
  have e1 : trimL (b ++ (n ++ (b2 ++ z))) = n ++ (b2 ++ z) := by
    rw [trimL_pre b _ k1, trimL_hd]
    intro c hc
    cases n with
    | nil => exact absurd rfl h0
    | cons d r => exact hh c hc
  obtain ⟨t1, t2⟩ := tw_app hn (hd_app (fun c hc => hq c (k2 c hc)) hz2)
  unfold partL
  rw [e1, t1, t2, trimL_pre b2 _ k2, trimL_hd hz]
theorem partL_none {q : Fld.By → Bool} {b z : List Fld.By} (k1 : bls b) (hz : ∀ c ∈ z.head?, bl c = false) (hz2 : ∀ c ∈ z.head?, q c = false) : partL q (b ++ z) = ([], z) := by
  obtain ⟨t1, t2⟩ := tw_app (a := []) (fun _ h => nomatch h) hz2
  unfold partL
  rw [trimL_pre b _ k1, trimL_hd hz]
  rw [List.nil_append] at t1 t2
  rw [t1, t2, trimL_hd hz]
/-- the end, or a ; -/
def tok (z : List Fld.By) : Prop := z = [] ∨ z.head? = some 59
theorem tok_hd {z : List Fld.By} (h : tok z) {q : Fld.By → Bool} (hq : q 59 = false) : ∀ c ∈ z.head?, q c = false := by
  intro c hc
  rcases h with rfl | h
  · cases hc
  · rw [h] at hc; cases hc; exact hq
theorem val_canon {V v b3 b4 z : List Fld.By} (hV : VAL V v) (k3 : bls b3) (k4 : bls b4) (hz : tok z) : valL (b3 ++ (V ++ (b4 ++ z))) = (v, z, true) := by
  have hz1 := tok_hd hz (q := bl) (by decide)
  have hz2 := tok_hd hz (q := looseB) (by decide)
  rcases hV with ⟨hs, rfl⟩ | ⟨i, rfl, hi, hs⟩
  · have hv : VAL v v := .inl ⟨hs, rfl⟩
    have e := partL_app (q := looseB) k3 (simple_all hs) (val_ne hv) (val_hd hv) k4 (fun c hc => (blank_no hc).2.2.2.2.1) hz1 hz2
    unfold valL
    rw [e, if_pos (val_ne hv)]
  · have e := partL_none (q := looseB) (b := b3) (z := 34 :: (i ++ 34 :: (b4 ++ z))) k3 (fun c hc => by cases hc; rfl) (fun c hc => by cases hc; decide)
    have ex : b3 ++ (34 :: (i ++ [34]) ++ (b4 ++ z)) = b3 ++ 34 :: (i ++ 34 :: (b4 ++ z)) := by simp
    have eq := hi.quot (b4 ++ z) 1
    have eu := hi.unq (b4 ++ z) []
    have ed : (34 :: (i ++ 34 :: (b4 ++ z))).drop (1 + i.length + 1) = b4 ++ z := by
      rw [show 1 + i.length + 1 = (i.length + 1) + 1 by omega, List.drop_succ_cons, ← List.drop_drop, List.drop_left]; rfl
    rw [ex]
    unfold valL
    rw [e, if_neg (by simp), List.head?_cons, List.tail_cons, eq, eu, ed, List.nil_append, if_pos ⟨rfl, by omega⟩, trimL_pre b4 _ k4, trimL_hd hz1, hs]
theorem canon_left {x z : List Fld.By} {p : List Fld.By × List Fld.By} (h : Canon x p) (hz : tok z) : paramL (59 :: (x ++ z)) = some (p, z) := by
  obtain ⟨b1, n, b2, b3, V, b4, v, rfl, k1, k2, k3, k4, hn, hV, rfl⟩ := h
  have ex : b1 ++ (n ++ (b2 ++ 61 :: (b3 ++ (V ++ b4)))) ++ z = b1 ++ (n ++ (b2 ++ 61 :: (b3 ++ (V ++ (b4 ++ z))))) := by simp
  obtain ⟨n0, n1, _⟩ := atom_hd hn
  have e := partL_app (q := plainB) (z := 61 :: (b3 ++ (V ++ (b4 ++ z)))) k1 (atom_all hn) n0 n1 k2 (fun c hc => (blank_no hc).2.2.2.1) (fun c hc => by cases hc; rfl) (fun c hc => by cases hc; decide)
  unfold paramL
  rw [List.tail_cons, ex, e, List.tail_cons, val_canon hV k3 k4 hz, if_pos ⟨rfl, n0, rfl, rfl⟩]
/-! ### A4 -/
theorem partL_split (q : Fld.By → Bool) (s : List Fld.By) : ∃ b1 b2, s = b1 ++ ((partL q s).1 ++ (b2 ++ (partL q s).2)) ∧ bls b1 ∧ bls b2 ∧ (∀ c ∈ (partL q s).1, q c = true) := by
  obtain ⟨b1, e1, k1⟩ := bls_split s
  obtain ⟨b2, e2, k2⟩ := bls_split ((trimL s).dropWhile q)
  refine ⟨b1, b2, ?_, k1, k2, fun c hc => List.all_eq_true.1 List.all_takeWhile c hc⟩
  show s = b1 ++ ((trimL s).takeWhile q ++ (b2 ++ trimL ((trimL s).dropWhile q)))
  rw [← e2, List.takeWhile_append_dropWhile, ← e1]
theorem val_of {s v z : List Fld.By} (h : valL s = (v, z, true)) : ∃ b3 V b4, s = b3 ++ (V ++ (b4 ++ z)) ∧ bls b3 ∧ bls b4 ∧ VAL V v := by
  obtain ⟨b1, b2, e1, k1, k2, hq⟩ := partL_split looseB s
  unfold valL at h
  generalize (partL looseB s).1 = V at *
  generalize (partL looseB s).2 = r at *
  split at h
  · next h0 =>
    obtain ⟨rfl, h2⟩ := Prod.mk.inj h
    obtain ⟨rfl, _⟩ := Prod.mk.inj h2
    refine ⟨b1, V, b2, e1, k1, k2, .inl ⟨?_, rfl⟩⟩
    unfold simpleB
    rw [Bool.and_eq_true, List.all_eq_true, decide_eq_true_eq]
    exact ⟨hq, List.length_pos_iff.2 h0⟩
  · next h0 =>
    obtain rfl : V = [] := Classical.not_not.1 h0
    split at h
    · next h1 =>
      obtain ⟨h34, hn⟩ := h1
      obtain ⟨w, rfl⟩ : ∃ w, r = 34 :: w := by
        cases r with
        | nil => cases h34
        | cons c w => cases h34; exact ⟨w, rfl⟩
      rw [List.tail_cons] at *
      obtain ⟨i, t, r', rfl, hi⟩ := inn_of_quot _ w 1 (Nat.le_refl _) hn
      have ed : (34 :: (i ++ 34 :: r')).drop (1 + i.length + 1) = r' := by
        rw [show 1 + i.length + 1 = (i.length + 1) + 1 by omega, List.drop_succ_cons, ← List.drop_drop, List.drop_left]; rfl
      rw [hi.unq, hi.quot, ed, List.nil_append] at h
      obtain ⟨rfl, h2⟩ := Prod.mk.inj h
      obtain ⟨rfl, h3⟩ := Prod.mk.inj h2
      obtain ⟨b5, e5, k5⟩ := bls_split r'
      refine ⟨b1 ++ b2, 34 :: (i ++ [34]), b5, ?_, fun c hc => (List.mem_append.1 hc).elim (k1 c) (k2 c), k5, .inr ⟨i, rfl, hi, h3⟩⟩
      rw [e1]
      conv => lhs; rw [e5]
      simp
    · cases h
theorem left_canon {s z : List Fld.By} {p : List Fld.By × List Fld.By} (h : paramL s = some (p, z)) : ∃ x, s = 59 :: (x ++ z) ∧ Canon x p := by
  unfold paramL at h
  split at h
  · next hc =>
    obtain ⟨h59, hn, h61, hv⟩ := hc
    obtain ⟨r, rfl⟩ : ∃ r, s = 59 :: r := by
      cases s with
      | nil => cases h59
      | cons c w => cases h59; exact ⟨w, rfl⟩
    rw [List.tail_cons] at *
    obtain ⟨b1, b2, e1, k1, k2, hq⟩ := partL_split plainB r
    generalize (partL plainB r).1 = n at *
    generalize (partL plainB r).2 = u at *
    obtain ⟨u, rfl⟩ : ∃ w, u = 61 :: w := by
      cases u with
      | nil => cases h61
      | cons c w => cases h61; exact ⟨w, rfl⟩
    rw [List.tail_cons] at *
    obtain ⟨v, rest, b, hvl⟩ : ∃ v rest b, valL u = (v, rest, b) := ⟨_, _, _, rfl⟩
    rw [hvl] at h hv
    dsimp only at h hv
    subst hv
    obtain ⟨b3, V, b4, e3, k3, k4, hV⟩ := val_of hvl
    obtain ⟨rfl, rfl⟩ := Prod.mk.inj (Option.some.inj h)
    refine ⟨b1 ++ (n ++ (b2 ++ 61 :: (b3 ++ (V ++ b4)))), ?_, b1, n, b2, b3, V, b4, v, rfl, k1, k2, k3, k4, ?_, hV, rfl⟩
    · rw [e1, e3]
      simp
    · unfold atomB
      rw [Bool.and_eq_true, List.all_eq_true, decide_eq_true_eq]
      exact ⟨hq, List.length_pos_iff.2 hn⟩
  · cases h
/-! ### A5, A6 -/
theorem canon_sem {x : List Fld.By} {p : List Fld.By × List Fld.By} (h : Canon x p) (r y : List Fld.By) : semR (x ++ r) false y = semR r false (y ++ x) := by
  obtain ⟨b1, n, b2, b3, V, b4, v, rfl, k1, k2, k3, k4, hn, hV, rfl⟩ := h
  have s1 : ∀ b, bls b → ∀ r y, semR (b ++ r) false y = semR r false (y ++ b) := fun b hb r y => sem_run b r y fun c hc => ⟨(blank_no (hb c hc)).1, (blank_no (hb c hc)).2.1⟩
  have s2 : ∀ r y, semR (V ++ r) false y = semR r false (y ++ V) := by
    intro r y
    rcases hV with ⟨hs, rfl⟩ | ⟨i, rfl, hi, hs⟩
    · exact sem_run _ r y fun c hc => ⟨(loose_no (simple_all hs c hc)).1, (loose_no (simple_all hs c hc)).2.1⟩
    · rw [List.cons_append, sem_cons _ _ _ _ (by rintro ⟨k, _⟩; cases k), if_pos rfl, List.append_assoc, List.singleton_append]
      show semR (i ++ 34 :: r) true _ = _
      rw [hi.sem]
      congr 1
      simp
  simp only [List.append_assoc, List.cons_append]
  rw [s1 b1 k1, sem_run n _ _ fun c hc => ⟨(plain_no (atom_all hn c hc)).1, (plain_no (atom_all hn c hc)).2.1⟩, s1 b2 k2, sem_cons _ _ _ _ (by rintro ⟨k, _⟩; cases k), if_neg (by decide), if_neg (by rintro ⟨k, _⟩; revert k; decide), s1 b3 k3, s2, s1 b4 k4]
  congr 1
  simp
theorem sem_parts : ∀ (n : Nat) (s : List Fld.By) (q : Bool) (y : List Fld.By), s.length ≤ n → ∃ a z L, semR s q y = (y ++ a) :: L ∧ s = a ++ z ∧ ((z = [] ∧ L = []) ∨ ∃ r, z = 59 :: r ∧ L = semR r false []) := by
  intro n
  induction n with
  | zero =>
    intro s q y hl
    obtain rfl : s = [] := List.eq_nil_of_length_eq_zero (by omega)
    exact ⟨[], [], [], by rw [semR.eq_def, List.append_nil], rfl, .inl ⟨rfl, rfl⟩⟩
  | succ n ih =>
    intro s q y hl
    match s, hl with
    | [], _ => exact ⟨[], [], [], by rw [semR.eq_def, List.append_nil], rfl, .inl ⟨rfl, rfl⟩⟩
    | c :: r, hl =>
      simp only [List.length_cons] at hl
      by_cases h92 : q = true ∧ c = 92
      · obtain ⟨rfl, rfl⟩ := h92
        match r, hl with
        | [], _ => exact ⟨[92], [], [], by rw [semR.eq_def]; rfl, rfl, .inl ⟨rfl, rfl⟩⟩
        | c2 :: r, hl =>
          simp only [List.length_cons] at hl
          obtain ⟨a, z, L, e1, e2, e3⟩ := ih r true (y ++ [92, c2]) (by omega)
          exact ⟨92 :: c2 :: a, z, L, by rw [sem_q92, e1]; simp, by rw [e2]; simp, e3⟩
      · rw [sem_cons _ _ _ _ h92]
        by_cases h34 : c = 34
        · obtain ⟨a, z, L, e1, e2, e3⟩ := ih r (!q) (y ++ [c]) (by omega)
          exact ⟨c :: a, z, L, by rw [if_pos h34, e1]; simp, by rw [e2]; simp, e3⟩
        · by_cases h59 : c = 59 ∧ q = false
          · obtain ⟨rfl, rfl⟩ := h59
            exact ⟨[], 59 :: r, _, by rw [if_neg h34, if_pos ⟨rfl, rfl⟩, List.append_nil], rfl, .inr ⟨r, rfl, rfl⟩⟩
          · obtain ⟨a, z, L, e1, e2, e3⟩ := ih r q (y ++ [c]) (by omega)
            exact ⟨c :: a, z, L, by rw [if_neg h34, if_neg h59, e1]; simp, by rw [e2]; simp, e3⟩
theorem semB_parts (s : List Fld.By) : ∃ a z L, semB s = a :: L ∧ s = a ++ z ∧ ((z = [] ∧ L = []) ∨ ∃ r, z = 59 :: r ∧ L = semB r) := by
  obtain ⟨a, z, L, e1, e2, e3⟩ := sem_parts _ s false [] (Nat.le_refl _)
  exact ⟨a, z, L, e1, e2, e3⟩
/-! ### all parameters -/
theorem paramL_len {s z : List Fld.By} {p : List Fld.By × List Fld.By} (h : paramL s = some (p, z)) : z.length < s.length := by
  obtain ⟨x, rfl, _⟩ := left_canon h
  simp only [List.length_cons, List.length_append]
  omega
def listL (s : List Fld.By) : Option (List (List Fld.By × List Fld.By)) :=
  if s = [] then some [] else
  match h : paramL s with
  | none => none
  | some (p, z) => (listL z).map (p :: ·)
termination_by s.length
decreasing_by exact paramL_len h
theorem listL_nil : listL [] = some [] := by rw [listL, if_pos rfl]
theorem listL_none {s : List Fld.By} (h0 : s ≠ []) (h : paramL s = none) : listL s = none := by
  rw [listL, if_neg h0]
  split
  · rfl
  · next h' => rw [h] at h'; cases h'
theorem listL_some {s z : List Fld.By} {p : List Fld.By × List Fld.By} (h : paramL s = some (p, z)) : listL s = (listL z).map (p :: ·) := by
  rw [listL, if_neg (by rintro rfl; have := paramL_len h; simp at this)]
  split
  · next h' => rw [h] at h'; cases h'
  · next h' =>
    rw [h] at h'
    cases h'
    rfl
theorem listL_bad {s : List Fld.By} (h : ¬ tok s) : listL s = none := by
  refine listL_none (fun k => h (.inl k)) ?_
  unfold paramL
  rw [if_neg]
  rintro ⟨k, _⟩
  exact h (.inr k)
theorem listL_is : ∀ (n : Nat) (r : List Fld.By), r.length ≤ n → listL (59 :: r) = (semB r).mapM partB := by
  intro n
  induction n with
  | zero =>
    intro r hl
    obtain rfl : r = [] := List.eq_nil_of_length_eq_zero (by omega)
    decide +kernel
  | succ n ih =>
    intro r hl
    obtain ⟨y, z, L, e1, e2, e3⟩ := semB_parts r
    have hz : tok z := by
      rcases e3 with ⟨rfl, _⟩ | ⟨r', rfl, _⟩
      · exact .inl rfl
      · exact .inr rfl
    rw [e1]
    cases hp : partB y with
    | none =>
      rw [List.mapM_cons, hp]
      show _ = none
      cases hq : paramL (59 :: r) with
      | none => exact listL_none (by simp) hq
      | some pz =>
        obtain ⟨p, z'⟩ := pz
        rw [listL_some hq]
        obtain ⟨x, ex, hx⟩ := left_canon hq
        obtain ⟨_, ex⟩ := List.cons.inj ex
        by_cases ht : tok z'
        · exfalso
          have hs : ∃ L', semB r = x :: L' := by
            unfold semB
            rw [ex, canon_sem hx, List.nil_append]
            rcases ht with rfl | ht
            · exact ⟨[], by rw [semR.eq_def]⟩
            · cases z' with
              | nil => cases ht
              | cons c w =>
                cases ht
                exact ⟨_, by rw [sem_cons _ _ _ _ (by rintro ⟨k, _⟩; cases k), if_neg (by decide), if_pos ⟨rfl, rfl⟩]⟩
          obtain ⟨L', hs⟩ := hs
          rw [e1] at hs
          obtain ⟨rfl, _⟩ := List.cons.inj hs
          rw [canon_part hx] at hp
          cases hp
        · rw [listL_bad ht]; rfl
    | some p =>
      have hc := canon_left (canon_of hp) hz
      rw [← e2] at hc
      rw [listL_some hc, List.mapM_cons, hp]
      rcases e3 with ⟨rfl, rfl⟩ | ⟨r', rfl, rfl⟩
      · rw [listL_nil]; rfl
      · have hl' : r'.length ≤ n := by
          have := congrArg List.length e2
          simp only [List.length_append, List.length_cons] at this
          omega
        rw [ih r' hl']
        cases (semB r').mapM partB <;> rfl
/-! ### kind and parameters -/
def kiB (c : Fld.By) : Bool := plainB c || c == 47
def paramsL (t : List Fld.By) : List Fld.By × List (List Fld.By × List Fld.By) × Nat :=
  if kindB (partL kiB t).1 = false then ([], [], 3)
  else match listL (partL kiB t).2 with
    | none => ([], [], 3)
    | some l => ((partL kiB t).1.map small, l, 0)
theorem kind_all {k : List Fld.By} (h : kindB k = true) : (∀ c ∈ k, kiB c = true) ∧ k ≠ [] := by
  obtain ⟨a, b, rfl, ha, hb⟩ := kind_is h
  refine ⟨fun c hc => ?_, by simp⟩
  unfold kiB
  rcases List.mem_append.1 hc with hc | hc
  · rw [atom_all ha c hc]; rfl
  · rcases List.mem_cons.1 hc with rfl | hc
    · simp
    · rw [atom_all hb c hc]; rfl
theorem ki_no {c : Fld.By} (h : kiB c = true) : ¬ c = 34 ∧ ¬ c = 59 ∧ bl c = false := by
  have := byte_all (fun c => !kiB c || (!decide (c = 34) && (!decide (c = 59) && !bl c))) (by decide +kernel) c
  rw [h] at this
  simpa using this
theorem kind_left {b1 k b2 z : List Fld.By} (hk : kindB k = true) (k1 : bls b1) (k2 : bls b2) (hz : tok z) : partL kiB (b1 ++ (k ++ (b2 ++ z))) = (k, z) := by
  obtain ⟨ka, k0⟩ := kind_all hk
  exact partL_app k1 ka k0 (fun c hc => (ki_no (ka c (List.mem_of_mem_head? hc))).2.2) k2 (fun c hc => (blank_no hc).2.2.2.2.2) (tok_hd hz (by decide)) (tok_hd hz (by decide))
theorem kind_sem {b1 k b2 : List Fld.By} (hk : kindB k = true) (k1 : bls b1) (k2 : bls b2) (r : List Fld.By) : semR (b1 ++ (k ++ (b2 ++ r))) false [] = semR r false (b1 ++ (k ++ b2)) := by
  obtain ⟨ka, _⟩ := kind_all hk
  have s1 : ∀ b, bls b → ∀ r y, semR (b ++ r) false y = semR r false (y ++ b) := fun b hb r y => sem_run b r y fun c hc => ⟨(blank_no (hb c hc)).1, (blank_no (hb c hc)).2.1⟩
  rw [s1 b1 k1, sem_run k _ _ fun c hc => ⟨(ki_no (ka c hc)).1, (ki_no (ka c hc)).2.1⟩, s1 b2 k2]
  congr 1
  simp
theorem kind_trim {b1 k b2 : List Fld.By} (hk : kindB k = true) (k1 : bls b1) (k2 : bls b2) : trim (b1 ++ (k ++ b2)) = k := by
  obtain ⟨ka, k0⟩ := kind_all hk
  rw [← List.append_assoc]
  exact trim_mid k1 k2 k0 (fun c hc => (ki_no (ka c (List.mem_of_mem_head? hc))).2.2) (fun c hc => (ki_no (ka c (List.mem_reverse.1 (List.mem_of_mem_head? hc)))).2.2)
theorem params_is (t : List Fld.By) : paramsT t = paramsL t := by
  obtain ⟨y, z, L, e1, e2, e3⟩ := semB_parts t
  have hz : tok z := by
    rcases e3 with ⟨rfl, _⟩ | ⟨r', rfl, _⟩
    · exact .inl rfl
    · exact .inr rfl
  unfold paramsT paramsL
  rw [e1, List.headD_cons, List.tail_cons]
  cases hk : kindB (trim y) with
  | true =>
    obtain ⟨b1, b2, ey, k1, k2⟩ := bls_trim y
    have et : t = b1 ++ (trim y ++ (b2 ++ z)) := by
      rw [e2]
      conv => lhs; rw [ey]
      simp
    have hl : partL kiB t = (trim y, z) := by
      conv => lhs; rw [et]
      exact kind_left hk k1 k2 hz
    have hL : listL z = L.mapM partB := by
      rcases e3 with ⟨rfl, rfl⟩ | ⟨r', rfl, rfl⟩
      · rw [listL_nil]; rfl
      · exact listL_is _ r' (Nat.le_refl _)
    rw [hl]
    dsimp only
    rw [hk, hL]
    cases L.mapM partB <;> rfl
  | false =>
    rw [if_pos rfl]
    cases hq : kindB (partL kiB t).1 with
    | false => rw [if_pos rfl]
    | true =>
      rw [if_neg (by decide)]
      have hb : ¬ tok (partL kiB t).2 := by
        intro ht
        obtain ⟨b1, b2, et, k1, k2, _⟩ := partL_split kiB t
        generalize (partL kiB t).1 = k at *
        generalize (partL kiB t).2 = w at *
        have hs : ∃ L', semB t = (b1 ++ (k ++ b2)) :: L' := by
          unfold semB
          rw [et, kind_sem hq k1 k2]
          rcases ht with rfl | ht
          · exact ⟨[], by rw [semR.eq_def]⟩
          · cases w with
            | nil => cases ht
            | cons c w =>
              cases ht
              exact ⟨_, by rw [sem_cons _ _ _ _ (by rintro ⟨k, _⟩; cases k), if_neg (by decide), if_pos ⟨rfl, rfl⟩]⟩
        obtain ⟨L', hs⟩ := hs
        rw [e1] at hs
        obtain ⟨rfl, _⟩ := List.cons.inj hs
        rw [kind_trim hq k1 k2, hq] at hk
        cases hk
      rw [listL_bad hb]
end Tok
end Go.Proofs.YtchoiikhepjdiaaGreatDoor

/-
  Of no statement by itself: what the landed token's isKind, noBig, mayBeQuoted, part, unquoted and readValue give.
  Conditions: each theorem's own.
-/
namespace Go.Proofs.YtchoiikhepjdiaaGreatDoor
set_option maxRecDepth 10000
open Sl Fld Tok
theorem goes_isKind : Goes Tryz.prog 16 := ⟨_, Tryz.func16, rfl, by kernel_rfl⟩
theorem goes_may : Goes Tryz.prog 26 := ⟨_, Tryz.func26, rfl, by kernel_rfl⟩
theorem goes_may1 : Goes Tryz.prog 52 := ⟨_, Tryz.func52, rfl, by kernel_rfl⟩
theorem goes_partA : Goes Tryz.prog 14 := ⟨_, Tryz.func14, rfl, by kernel_rfl⟩
theorem goes_unqA : Goes Tryz.prog 68 := ⟨_, Tryz.func68, rfl, by kernel_rfl⟩
theorem goes_readV : Goes Tryz.prog 43 := ⟨_, Tryz.func43, rfl, by kernel_rfl⟩
set_option maxHeartbeats 8000000 in
theorem isKind_any (s : List Bt) (w : World) (hl : s.length < 9223372036854775807) : Calls Tryz.prog 16 [Z s].toArray w fun e w' => e = .returned (.bool (kindB s)) ∧ Ext w w' := by
  refine enter (n := 21) Tryz.func16 rfl rfl rfl (Holds.start w []) ?_
  have cC := fun w' => cutw_any s 47 w' hl
  have hfl := fi_le 47 s
  have hk : kindB s = (decide (fi 47 s < s.length) && (atomB (s.take (fi 47 s)) && atomB (s.drop (fi 47 s + 1)))) := rfl
  rw [hk]
  unfold cutV at cC
  by_cases hf : fi 47 s < s.length
  · rw [if_pos hf] at cC
    rw [decide_eq_true hf, Bool.true_and]
    have h1 : (s.take (fi 47 s)).length ≤ s.length := by rw [List.length_take]; omega
    have h2 : (s.drop (fi 47 s + 1)).length ≤ s.length := by rw [List.length_drop]; omega
    generalize s.take (fi 47 s) = a at cC h1
    generalize s.drop (fi 47 s + 1) = b at cC h2
    have c1 := fun w' => atomA_any a w' (by omega)
    have c2 := fun w' => atomA_any b w' (by omega)
    cases d1 : atomB a <;> cases d2 : atomB b
    all_goals rw [d1] at c1
    all_goals rw [d2] at c2
    all_goals (repeat (first | refine JL.q (by first | (apply OQ.callx (vs := [Z s, Z [47]]); exact goes_cutw; exact rfl; exact (fun w' _ => cC w')) | (apply OQ.extract; exact rfl; exact rfl) | (apply OQ.pick_t; exact rfl; exact rfl) | (apply OQ.pick_f; exact rfl; exact rfl) | (apply OQ.callx (vs := [Z a]); exact goes_atomA; exact rfl; exact (fun w' _ => c1 w')) | (apply OQ.callx (vs := [Z b]); exact goes_atomA; exact rfl; exact (fun w' _ => c2 w')) | (apply OQ.move; exact rfl) | (apply OQ.assign; exact rfl) | (apply OQ.len; exact rfl; exact rfl) | (apply OQ.addN; exact rfl; exact rfl; exact (by (try simp only []); omega)) | (apply OQ.subN; exact rfl; exact rfl; exact (by (try simp only []); omega); exact (by (try simp only []); omega)) | (apply OQ.lssN; exact rfl; exact rfl) | (apply OQ.gtrN; exact rfl; exact rfl)) rfl ?_ | refine JC.seq ?_ | refine JC.region ?_ | refine JC.block ?_ | refine JC.skip ?_ | refine JC.exit ?_ | refine JL.nil ?_ | refine JE.next ?_ | refine JE.blk_normal ?_ | refine JE.then_exit ?_ | refine JE.blk_hit ?_ | refine JE.blk_miss rfl ?_ | refine JE.then_ret ?_ | refine JE.blk_ret ?_ | refine JC.label ?_ | refine JL.gon rfl rfl ?_ | refine JL.gskip rfl rfl rfl rfl ?_ | refine JL.gskipU rfl rfl rfl rfl ?_))
    all_goals exact JC.ret (JE.ret1 rfl (RV.tmp rfl) fun w' hw => ⟨rfl, hw.chg⟩)
  · rw [if_neg hf] at cC
    rw [decide_eq_false hf, Bool.false_and]
    repeat (first | refine JL.q (by first | (apply OQ.callx (vs := [Z s, Z [47]]); exact goes_cutw; exact rfl; exact (fun w' _ => cC w')) | (apply OQ.extract; exact rfl; exact rfl) | (apply OQ.pick_t; exact rfl; exact rfl) | (apply OQ.pick_f; exact rfl; exact rfl) | (apply OQ.move; exact rfl) | (apply OQ.assign; exact rfl) | (apply OQ.len; exact rfl; exact rfl) | (apply OQ.addN; exact rfl; exact rfl; exact (by (try simp only []); omega)) | (apply OQ.subN; exact rfl; exact rfl; exact (by (try simp only []); omega); exact (by (try simp only []); omega)) | (apply OQ.lssN; exact rfl; exact rfl) | (apply OQ.gtrN; exact rfl; exact rfl)) rfl ?_ | refine JC.seq ?_ | refine JC.region ?_ | refine JC.block ?_ | refine JC.skip ?_ | refine JC.exit ?_ | refine JL.nil ?_ | refine JE.next ?_ | refine JE.blk_normal ?_ | refine JE.then_exit ?_ | refine JE.blk_hit ?_ | refine JE.blk_miss rfl ?_ | refine JE.then_ret ?_ | refine JE.blk_ret ?_ | refine JC.label ?_ | refine JL.gon rfl rfl ?_ | refine JL.gskip rfl rfl rfl rfl ?_ | refine JL.gskipU rfl rfl rfl rfl ?_)
    exact JC.ret (JE.ret1 rfl (RV.tmp rfl) fun w' hw => ⟨rfl, hw.chg⟩)
theorem sok_parts (c : Fld.By) : sok c = ((decide ((32 : Int) ≤ (c.toNat : Int)) && decide ((c.toNat : Int) ≤ 126)) || decide (c = 9)) := by
  have h : ∀ c : Fin 256, sok (BitVec.ofNat 8 c.val) = ((decide ((32 : Int) ≤ ((BitVec.ofNat 8 c.val).toNat : Int)) && decide (((BitVec.ofNat 8 c.val).toNat : Int) ≤ 126)) || decide (BitVec.ofNat 8 c.val = 9)) := by decide +kernel
  simpa using h ⟨c.toNat, c.isLt⟩
set_option maxHeartbeats 4000000 in
theorem may1_any (c : Bt) (w : World) : Calls Tryz.prog 52 [U8 c].toArray w fun e w' => e = .returned (.bool (sok c)) ∧ Ext w w' := by
  refine enter (n := 13) Tryz.func52 rfl rfl rfl (Holds.start w []) ?_
  rw [sok_parts]
  cases h1 : decide ((32 : Int) ≤ (c.toNat : Int)) <;> cases h2 : decide ((c.toNat : Int) ≤ 126) <;> cases h3 : decide (c = 9)
  all_goals (repeat (first | refine JL.q (by first | (apply OQ.geqB (b := 32); exact rfl; exact rfl; exact h1) | (apply OQ.leqB (b := 126); exact rfl; exact rfl; exact h2) | (apply OQ.eq8T (b := 9); exact rfl; exact rfl; exact h3) | (apply OQ.pick_t; exact rfl; exact rfl) | (apply OQ.pick_f; exact rfl; exact rfl) | (apply OQ.move; exact rfl) | (apply OQ.assign; exact rfl) | (apply OQ.len; exact rfl; exact rfl) | (apply OQ.addN; exact rfl; exact rfl; exact (by (try simp only []); omega)) | (apply OQ.subN; exact rfl; exact rfl; exact (by (try simp only []); omega); exact (by (try simp only []); omega)) | (apply OQ.lssN; exact rfl; exact rfl) | (apply OQ.gtrN; exact rfl; exact rfl)) rfl ?_ | refine JC.seq ?_ | refine JC.region ?_ | refine JC.block ?_ | refine JC.skip ?_ | refine JC.exit ?_ | refine JL.nil ?_ | refine JE.next ?_ | refine JE.blk_normal ?_ | refine JE.then_exit ?_ | refine JE.blk_hit ?_ | refine JE.blk_miss rfl ?_ | refine JE.then_ret ?_ | refine JE.blk_ret ?_ | refine JC.label ?_ | refine JL.gon rfl rfl ?_ | refine JL.gskip rfl rfl rfl rfl ?_ | refine JL.gskipU rfl rfl rfl rfl ?_))
  all_goals exact JC.ret (JE.ret1 rfl (RV.tmp rfl) fun w' hw => ⟨rfl, hw.chg⟩)
@[reducible] def fnV (f : FuncId) : Value := .func (.func f) #[] #[]
theorem fun_may (w : World) : Fun8 Tryz.prog w (fnV 52) sok := ⟨_, [], rfl, goes_may1, fun c w' _ => may1_any c w'⟩
theorem run_all (p : Fld.By → Bool) (s : List Fld.By) : decide ((runB p s : Int) = (s.length : Int)) = s.all p := by
  rw [Bool.eq_iff_iff, decide_eq_true_eq, ← runB_all]
  omega
set_option maxHeartbeats 4000000 in
theorem may_any (s : List Bt) (w : World) (hl : s.length < 9223372036854775808) : Calls Tryz.prog 26 [Z s].toArray w fun e w' => e = .returned (.bool (s.all sok)) ∧ Ext w w' := by
  refine enter (n := 8) Tryz.func26 rfl rfl rfl (Holds.start w []) ?_
  have hr := run_all sok s
  generalize s.all sok = b at hr
  repeat (first | refine JL.q (by first | (apply OQ.callx (vs := [Z s, fnV 52]); exact goes_run; exact rfl; exact (fun w' _ => run_any s _ sok w' (fun_may w') hl)) | (apply OQ.lenS; exact Tryz.underlying9; exact rfl) | (apply OQ.eqB; exact rfl; exact rfl; exact hr) | (apply OQ.move; exact rfl) | (apply OQ.assign; exact rfl) | (apply OQ.len; exact rfl; exact rfl) | (apply OQ.addN; exact rfl; exact rfl; exact (by (try simp only []); omega)) | (apply OQ.subN; exact rfl; exact rfl; exact (by (try simp only []); omega); exact (by (try simp only []); omega)) | (apply OQ.lssN; exact rfl; exact rfl) | (apply OQ.gtrN; exact rfl; exact rfl)) rfl ?_ | refine JC.seq ?_ | refine JC.region ?_ | refine JC.block ?_ | refine JC.skip ?_ | refine JC.exit ?_ | refine JL.nil ?_ | refine JE.next ?_ | refine JE.blk_normal ?_ | refine JE.then_exit ?_ | refine JE.blk_hit ?_ | refine JE.blk_miss rfl ?_ | refine JE.then_ret ?_ | refine JE.blk_ret ?_ | refine JC.label ?_ | refine JL.gon rfl rfl ?_ | refine JL.gskip rfl rfl rfl rfl ?_ | refine JL.gskipU rfl rfl rfl rfl ?_)
  exact JC.ret (JE.ret1 rfl (RV.tmp rfl) fun w' hw => ⟨rfl, hw.chg⟩)
theorem goes_noBig : Goes Tryz.prog 24 := ⟨_, Tryz.func24, rfl, by kernel_rfl⟩
theorem goes_noBig1 : Goes Tryz.prog 50 := ⟨_, Tryz.func50, rfl, by kernel_rfl⟩
def lowB (c : Fld.By) : Bool := decide ((c.toNat : Int) < 65) || decide ((90 : Int) < (c.toNat : Int))
theorem low_small (c : Fld.By) : lowB c = decide (small c = c) := by
  have h : ∀ c : Fin 256, lowB (BitVec.ofNat 8 c.val) = decide (small (BitVec.ofNat 8 c.val) = BitVec.ofNat 8 c.val) := by decide +kernel
  simpa using h ⟨c.toNat, c.isLt⟩
theorem low_all : ∀ s : List Fld.By, s.all lowB = decide (s.map small = s)
  | [] => rfl
  | c :: s => by
    rw [List.all_cons, low_all s, low_small, List.map_cons, Bool.eq_iff_iff, Bool.and_eq_true, decide_eq_true_eq, decide_eq_true_eq, decide_eq_true_eq, List.cons.injEq]
set_option maxHeartbeats 4000000 in
theorem noBig1_any (c : Bt) (w : World) : Calls Tryz.prog 50 [U8 c].toArray w fun e w' => e = .returned (.bool (lowB c)) ∧ Ext w w' := by
  refine enter (n := 9) Tryz.func50 rfl rfl rfl (Holds.start w []) ?_
  unfold lowB
  cases h1 : decide ((c.toNat : Int) < 65) <;> cases h2 : decide ((90 : Int) < (c.toNat : Int))
  all_goals (repeat (first | refine JL.q (by first | (apply OQ.lssB (b := 65); exact rfl; exact rfl; exact h1) | (apply OQ.gtrB (b := 90); exact rfl; exact rfl; exact h2) | (apply OQ.pick_t; exact rfl; exact rfl) | (apply OQ.pick_f; exact rfl; exact rfl) | (apply OQ.move; exact rfl) | (apply OQ.assign; exact rfl) | (apply OQ.len; exact rfl; exact rfl) | (apply OQ.addN; exact rfl; exact rfl; exact (by (try simp only []); omega)) | (apply OQ.subN; exact rfl; exact rfl; exact (by (try simp only []); omega); exact (by (try simp only []); omega)) | (apply OQ.lssN; exact rfl; exact rfl) | (apply OQ.gtrN; exact rfl; exact rfl)) rfl ?_ | refine JC.seq ?_ | refine JC.region ?_ | refine JC.block ?_ | refine JC.skip ?_ | refine JC.exit ?_ | refine JL.nil ?_ | refine JE.next ?_ | refine JE.blk_normal ?_ | refine JE.then_exit ?_ | refine JE.blk_hit ?_ | refine JE.blk_miss rfl ?_ | refine JE.then_ret ?_ | refine JE.blk_ret ?_ | refine JC.label ?_ | refine JL.gon rfl rfl ?_ | refine JL.gskip rfl rfl rfl rfl ?_ | refine JL.gskipU rfl rfl rfl rfl ?_))
  all_goals exact JC.ret (JE.ret1 rfl (RV.tmp rfl) fun w' hw => ⟨rfl, hw.chg⟩)
theorem fun_noBig (w : World) : Fun8 Tryz.prog w (fnV 50) lowB := ⟨_, [], rfl, goes_noBig1, fun c w' _ => noBig1_any c w'⟩
set_option maxHeartbeats 4000000 in
theorem noBig_any (s : List Bt) (w : World) (hl : s.length < 9223372036854775808) : Calls Tryz.prog 24 [Z s].toArray w fun e w' => e = .returned (.bool (decide (s.map small = s))) ∧ Ext w w' := by
  refine enter (n := 8) Tryz.func24 rfl rfl rfl (Holds.start w []) ?_
  have hr := run_all lowB s
  rw [low_all] at hr
  generalize decide (s.map small = s) = b at hr
  repeat (first | refine JL.q (by first | (apply OQ.callx (vs := [Z s, fnV 50]); exact goes_run; exact rfl; exact (fun w' _ => run_any s _ lowB w' (fun_noBig w') hl)) | (apply OQ.lenS; exact Tryz.underlying9; exact rfl) | (apply OQ.eqB; exact rfl; exact rfl; exact hr) | (apply OQ.move; exact rfl) | (apply OQ.assign; exact rfl) | (apply OQ.len; exact rfl; exact rfl) | (apply OQ.addN; exact rfl; exact rfl; exact (by (try simp only []); omega)) | (apply OQ.subN; exact rfl; exact rfl; exact (by (try simp only []); omega); exact (by (try simp only []); omega)) | (apply OQ.lssN; exact rfl; exact rfl) | (apply OQ.gtrN; exact rfl; exact rfl)) rfl ?_ | refine JC.seq ?_ | refine JC.region ?_ | refine JC.block ?_ | refine JC.skip ?_ | refine JC.exit ?_ | refine JL.nil ?_ | refine JE.next ?_ | refine JE.blk_normal ?_ | refine JE.then_exit ?_ | refine JE.blk_hit ?_ | refine JE.blk_miss rfl ?_ | refine JE.then_ret ?_ | refine JE.blk_ret ?_ | refine JC.label ?_ | refine JL.gon rfl rfl ?_ | refine JL.gskip rfl rfl rfl rfl ?_ | refine JL.gskipU rfl rfl rfl rfl ?_)
  exact JC.ret (JE.ret1 rfl (RV.tmp rfl) fun w' hw => ⟨rfl, hw.chg⟩)
/-! ### a part -/
set_option maxHeartbeats 8000000 in
theorem partA_any (s : List Bt) (fv : Value) (p : Bt → Bool) (w : World) (hF : Fun8 Tryz.prog w fv p) (hl : s.length < 9223372036854775808) : Calls Tryz.prog 14 [Z s, fv].toArray w fun e w' => e = .returned (.tuple #[Z (partL p s).1, Z (partL p s).2]) ∧ Ext w w' := by
  refine enter (n := 19) Tryz.func14 rfl rfl rfl (Holds.start w []) ?_
  have c1 := fun w' => triml_any s w'
  unfold partL
  have htl := trimL_len s
  generalize trimL s = t at c1 htl ⊢
  have c2 := fun w' hF' => run_any t fv p w' hF' (by omega)
  have hn := runB_le p t
  rw [← runB_take, ← runB_drop]
  generalize runB p t = n at c2 hn
  have c3 := fun w' => triml_any (t.drop n) w'
  repeat (first | refine JL.q (by first | (apply OQ.callx (vs := [Z s, Z [32, 9]]); exact goes_triml; exact rfl; exact (fun w' _ => c1 w')) | (apply OQ.callx (vs := [Z t, fv]); exact goes_run; exact rfl; exact (fun w' hw' => c2 w' (hF.holds hw'))) | (apply OQ.move; exact rfl) | (apply OQ.assign; exact rfl) | (apply OQ.len; exact rfl; exact rfl) | (apply OQ.addN; exact rfl; exact rfl; exact (by (try simp only []); omega)) | (apply OQ.subN; exact rfl; exact rfl; exact (by (try simp only []); omega); exact (by (try simp only []); omega)) | (apply OQ.lssN; exact rfl; exact rfl) | (apply OQ.gtrN; exact rfl; exact rfl)) rfl ?_ | refine JC.seq ?_ | refine JC.region ?_ | refine JC.block ?_ | refine JC.skip ?_ | refine JC.exit ?_ | refine JL.nil ?_ | refine JE.next ?_ | refine JE.blk_normal ?_ | refine JE.then_exit ?_ | refine JE.blk_hit ?_ | refine JE.blk_miss rfl ?_ | refine JE.then_ret ?_ | refine JE.blk_ret ?_ | refine JC.label ?_ | refine JL.gon rfl rfl ?_ | refine JL.gskip rfl rfl rfl rfl ?_ | refine JL.gskipU rfl rfl rfl rfl ?_)
  refine JC.quiet mixT (by kernel_rfl) ?_
  repeat (first | refine JL.q (by first | (apply OQ.subS_hi; exact Tryz.underlying9; exact rfl; exact rfl; exact hn) | (apply OQ.subS_lo; exact Tryz.underlying9; exact rfl; exact rfl; exact hn) | (apply OQ.callx (vs := [Z (t.drop n), Z [32, 9]]); exact goes_triml; exact rfl; exact (fun w' _ => c3 w')) | (apply OQ.move; exact rfl) | (apply OQ.assign; exact rfl) | (apply OQ.len; exact rfl; exact rfl) | (apply OQ.addN; exact rfl; exact rfl; exact (by (try simp only []); omega)) | (apply OQ.subN; exact rfl; exact rfl; exact (by (try simp only []); omega); exact (by (try simp only []); omega)) | (apply OQ.lssN; exact rfl; exact rfl) | (apply OQ.gtrN; exact rfl; exact rfl)) rfl ?_ | refine JQ.q (by first | (apply OQ.subS_hi; exact Tryz.underlying9; exact rfl; exact rfl; exact hn) | (apply OQ.subS_lo; exact Tryz.underlying9; exact rfl; exact rfl; exact hn) | (apply OQ.callx (vs := [Z (t.drop n), Z [32, 9]]); exact goes_triml; exact rfl; exact (fun w' _ => c3 w')) | (apply OQ.move; exact rfl) | (apply OQ.assign; exact rfl) | (apply OQ.len; exact rfl; exact rfl) | (apply OQ.addN; exact rfl; exact rfl; exact (by (try simp only []); omega)) | (apply OQ.subN; exact rfl; exact rfl; exact (by (try simp only []); omega); exact (by (try simp only []); omega)) | (apply OQ.lssN; exact rfl; exact rfl) | (apply OQ.gtrN; exact rfl; exact rfl)) rfl ?_ | refine JC.seq ?_ | refine JC.region ?_ | refine JC.block ?_ | refine JC.skip ?_ | refine JC.exit ?_ | refine JL.nil ?_ | refine JQ.nil ?_ | refine JQ.nil_tail ?_ | refine JE.next ?_ | refine JE.blk_normal ?_ | refine JE.then_exit ?_ | refine JE.blk_hit ?_ | refine JE.blk_miss rfl ?_ | refine JE.then_ret ?_ | refine JE.blk_ret ?_ | refine JC.label ?_ | refine JL.gon rfl rfl ?_ | refine JQ.gon rfl rfl ?_ | refine JL.gskip rfl rfl rfl rfl ?_ | refine JQ.gskip rfl rfl rfl rfl ?_ | refine JL.gskipU rfl rfl rfl rfl ?_ | refine JQ.gskipU rfl rfl rfl rfl ?_)
  exact JC.ret (JE.ret2 rfl (RV.tmp rfl) (RV.tmp rfl) fun w' hw => ⟨rfl, hw.chg⟩)
end Go.Proofs.YtchoiikhepjdiaaGreatDoor

/-
  Of no statement by itself: what the landed token's unquoted and readValue give.
  Conditions: each theorem's own.
-/
namespace Go.Proofs.YtchoiikhepjdiaaGreatDoor
set_option maxRecDepth 10000
open Sl Fld Tok
structure UqS where
  k : Nat
  o : List Bt
  u : List Bt
  b : Nat
  cap : Nat
set_option maxHeartbeats 16000000 in
theorem unqA_any {i t : List Bt} (h : Inn i t) (w : World) (hl : i.length < 1000000000) : Calls Tryz.prog 68 [Z i].toArray w fun e w' => e = .returned (Z t) ∧ Ext w w' := by
  refine enter (n := 28) Tryz.func68 rfl rfl rfl (Holds.start w []) ?_
  repeat (first | refine JL.q (by first | (apply OQ.lenS; exact Tryz.underlying9; exact rfl) | (apply OQ.move; exact rfl) | (apply OQ.assign; exact rfl) | (apply OQ.len; exact rfl; exact rfl) | (apply OQ.addN; exact rfl; exact rfl; exact (by (try simp only []); omega)) | (apply OQ.subN; exact rfl; exact rfl; exact (by (try simp only []); omega); exact (by (try simp only []); omega)) | (apply OQ.lssN; exact rfl; exact rfl)) rfl ?_ | refine JC.seq ?_ | refine JC.region ?_ | refine JC.block ?_ | refine JC.skip ?_ | refine JC.exit ?_ | refine JL.nil ?_ | refine JE.next ?_ | refine JE.blk_normal ?_ | refine JE.then_exit ?_ | refine JE.blk_hit ?_ | refine JE.blk_miss rfl ?_ | refine JE.then_ret ?_ | refine JE.blk_ret ?_ | refine JC.label ?_ | refine JL.gon rfl rfl ?_ | refine JL.gskip rfl rfl rfl rfl ?_ | refine JL.gskipU rfl rfl rfl rfl ?_)
  refine JL.make0 (c := i.length) Tryz.underlying51 u8e rfl rfl (by omega) rfl fun b0 _ => ?_
  repeat (first | refine JL.q (by first | (apply OQ.move; exact rfl) | (apply OQ.assign; exact rfl) | (apply OQ.len; exact rfl; exact rfl) | (apply OQ.addN; exact rfl; exact rfl; exact (by (try simp only []); omega)) | (apply OQ.subN; exact rfl; exact rfl; exact (by (try simp only []); omega); exact (by (try simp only []); omega)) | (apply OQ.lssN; exact rfl; exact rfl)) rfl ?_ | refine JC.seq ?_ | refine JC.region ?_ | refine JC.block ?_ | refine JC.skip ?_ | refine JC.exit ?_ | refine JL.nil ?_ | refine JE.next ?_ | refine JE.blk_normal ?_ | refine JE.then_exit ?_ | refine JE.blk_hit ?_ | refine JE.blk_miss rfl ?_ | refine JE.then_ret ?_ | refine JE.blk_ret ?_ | refine JC.label ?_ | refine JL.gon rfl rfl ?_ | refine JL.gskip rfl rfl rfl rfl ?_ | refine JL.gskipU rfl rfl rfl rfl ?_)
  refine JC.loop (fun z : UqS => [(0, Z i), (3, .slice (some ⟨z.b, 0, none⟩) z.o.length z.cap), (4, N z.k)]) (fun z => [⟨z.b, Own 5 1 z.o.length z.cap (z.o.map U8), true⟩]) (fun z => i.length - z.k) (fun z => z.k ≤ i.length ∧ z.o.length ≤ z.k ∧ Inn (i.drop z.k) z.u ∧ t = z.o ++ z.u) ⟨0, [], t, b0, i.length⟩ ⟨Nat.zero_le _, Nat.zero_le _, h, rfl⟩ (by repeat (first | exact SubE.nil | refine SubE.cons _ _ _ rfl ?_)) (Less.refl _) ?_
  rintro ⟨k, o, u, b, cap⟩ ⟨hk, ho, hI, ht⟩
  dsimp only at hk ho hI ht ⊢
  clear h
  repeat (first | refine JL.q (by first | (apply OQ.lenS; exact Tryz.underlying9; exact rfl) | (apply OQ.move; exact rfl) | (apply OQ.assign; exact rfl) | (apply OQ.len; exact rfl; exact rfl) | (apply OQ.addN; exact rfl; exact rfl; exact (by (try simp only []); omega)) | (apply OQ.subN; exact rfl; exact rfl; exact (by (try simp only []); omega); exact (by (try simp only []); omega)) | (apply OQ.lssN; exact rfl; exact rfl)) rfl ?_ | refine JC.seq ?_ | refine JC.region ?_ | refine JC.block ?_ | refine JC.skip ?_ | refine JC.exit ?_ | refine JL.nil ?_ | refine JE.next ?_ | refine JE.blk_normal ?_ | refine JE.then_exit ?_ | refine JE.blk_hit ?_ | refine JE.blk_miss rfl ?_ | refine JE.then_ret ?_ | refine JE.blk_ret ?_ | refine JC.label ?_ | refine JL.gon rfl rfl ?_ | refine JL.gskip rfl rfl rfl rfl ?_ | refine JL.gskipU rfl rfl rfl rfl ?_)
  refine JC.cond rfl (fun h => ?_) (fun h => ?_)
  · have hk' : k < i.length := of_decide_eq_true h
    clear h hk
    have hdr : i.drop k = i.getD k 0 :: i.drop (k + 1) := by rw [List.drop_eq_getElem_cons hk', List.getD_eq_getElem?_getD, List.getElem?_eq_getElem hk']; rfl
    rw [hdr] at hI
    have i0 := fun {n : Nat} {E : Env} {C : World → Prop} {dst : Option Tmp} {ty : TypeId} {pos : String} {aft : Array Edge} {g : Option (Nat × Bool)} {x y : Operand} => idxAt10 hk' (n := n) (E := E) (C := C) (dst := dst) (ty := ty) (pos := pos) (aft := aft) (g := g) (x := x) (y := y)
    generalize i.getD k 0 = c at hI i0
    generalize hx : i.drop (k + 1) = x at hI
    cases h92 : decide (c = 92)
    · obtain ⟨u', rfl, hI'⟩ : ∃ u', u = c :: u' ∧ Inn x u' := by
        cases hI with
        | esc d h => exact absurd rfl (of_decide_eq_false h92)
        | chr h1 h2 h => exact ⟨_, rfl, h⟩
      repeat (first | refine JL.q (by first | (apply i0; exact rfl; exact rfl) | (apply OQ.eq8T (b := 92); exact rfl; exact rfl; exact h92) | (apply OQ.move; exact rfl) | (apply OQ.assign; exact rfl) | (apply OQ.len; exact rfl; exact rfl) | (apply OQ.addN; exact rfl; exact rfl; exact (by (try simp only []); omega)) | (apply OQ.subN; exact rfl; exact rfl; exact (by (try simp only []); omega); exact (by (try simp only []); omega)) | (apply OQ.lssN; exact rfl; exact rfl)) rfl ?_ | refine JC.seq ?_ | refine JC.region ?_ | refine JC.block ?_ | refine JC.skip ?_ | refine JC.exit ?_ | refine JL.nil ?_ | refine JE.next ?_ | refine JE.blk_normal ?_ | refine JE.then_exit ?_ | refine JE.blk_hit ?_ | refine JE.blk_miss rfl ?_ | refine JE.then_ret ?_ | refine JE.blk_ret ?_ | refine JC.label ?_ | refine JL.gon rfl rfl ?_ | refine JL.gskip rfl rfl rfl rfl ?_ | refine JL.gskipU rfl rfl rfl rfl ?_)
      refine JC.cond rfl (fun h => by cases h) (fun _ => ?_)
      repeat (first | refine JL.q (by first | (apply i0; exact rfl; exact rfl) | (apply OQ.move; exact rfl) | (apply OQ.assign; exact rfl) | (apply OQ.len; exact rfl; exact rfl) | (apply OQ.addN; exact rfl; exact rfl; exact (by (try simp only []); omega)) | (apply OQ.subN; exact rfl; exact rfl; exact (by (try simp only []); omega); exact (by (try simp only []); omega)) | (apply OQ.lssN; exact rfl; exact rfl)) rfl ?_ | refine JC.seq ?_ | refine JC.region ?_ | refine JC.block ?_ | refine JC.skip ?_ | refine JC.exit ?_ | refine JL.nil ?_ | refine JE.next ?_ | refine JE.blk_normal ?_ | refine JE.then_exit ?_ | refine JE.blk_hit ?_ | refine JE.blk_miss rfl ?_ | refine JE.then_ret ?_ | refine JE.blk_ret ?_ | refine JC.label ?_ | refine JL.gon rfl rfl ?_ | refine JL.gskip rfl rfl rfl rfl ?_ | refine JL.gskipU rfl rfl rfl rfl ?_)
      refine JL.push1 (xs := o.map U8) (fun b' cap' => [⟨b', Own 5 1 (o.length + 1) cap' (o.map U8 ++ [U8 c]), true⟩]) Tryz.underlying51 u8e rfl rfl rfl rfl (fun _ => rfl) (by intro _ _; repeat (first | exact Repl.here | apply Repl.there)) (by omega) (by omega) rfl rfl fun bl b' cap' => ?_
      repeat (first | refine JL.q (by first | (apply OQ.move; exact rfl) | (apply OQ.assign; exact rfl) | (apply OQ.len; exact rfl; exact rfl) | (apply OQ.addN; exact rfl; exact rfl; exact (by (try simp only []); omega)) | (apply OQ.subN; exact rfl; exact rfl; exact (by (try simp only []); omega); exact (by (try simp only []); omega)) | (apply OQ.lssN; exact rfl; exact rfl)) rfl ?_ | refine JC.seq ?_ | refine JC.region ?_ | refine JC.block ?_ | refine JC.skip ?_ | refine JC.exit ?_ | refine JL.nil ?_ | refine JE.next ?_ | refine JE.blk_normal ?_ | refine JE.then_exit ?_ | refine JE.blk_hit ?_ | refine JE.blk_miss rfl ?_ | refine JE.then_ret ?_ | refine JE.blk_ret ?_ | refine JC.label ?_ | refine JL.gon rfl rfl ?_ | refine JL.gskip rfl rfl rfl rfl ?_ | refine JL.gskipU rfl rfl rfl rfl ?_)
      refine JE.again (i := UqS.mk k o (c :: u') b cap) (UqS.mk (k + 1) (o ++ [c]) u' b' cap') ⟨hk', ?_, ?_, ?_⟩ (by dsimp only; omega) ?_ (.keep _ _ _ _ _ _ (fun o' h => ?_) (.nil _))
      · dsimp only; rw [List.length_append, List.length_singleton]; omega
      · dsimp only; rw [hx]; exact hI'
      · dsimp only; rw [ht]; simp
      · dsimp only; rw [List.length_append, List.length_singleton]; exact (by repeat (first | exact SubE.nil | refine SubE.cons _ _ _ rfl ?_))
      · dsimp only; rw [List.length_append, List.length_singleton, List.map_append]; exact h
    · obtain ⟨d, x', u', hx', rfl, hI'⟩ : ∃ d x' u', x = d :: x' ∧ u = d :: u' ∧ Inn x' u' := by
        cases hI with
        | esc d h => exact ⟨d, _, _, rfl, rfl, h⟩
        | chr h1 h2 h => exact absurd (of_decide_eq_true h92) h2
      have hk2 : k + 1 < i.length := by
        by_cases e : k + 1 < i.length
        · exact e
        · rw [List.drop_eq_nil_of_le (by omega)] at hx
          rw [← hx] at hx'
          cases hx'
      have hdr2 : i.drop (k + 1) = i.getD (k + 1) 0 :: i.drop (k + 2) := by rw [List.drop_eq_getElem_cons hk2, List.getD_eq_getElem?_getD, List.getElem?_eq_getElem hk2]; rfl
      have i1 := fun {n : Nat} {E : Env} {C : World → Prop} {dst : Option Tmp} {ty : TypeId} {pos : String} {aft : Array Edge} {g : Option (Nat × Bool)} {x y : Operand} => idxAt10 hk2 (n := n) (E := E) (C := C) (dst := dst) (ty := ty) (pos := pos) (aft := aft) (g := g) (x := x) (y := y)
      rw [hx, hx'] at hdr2
      obtain ⟨hd, hx2⟩ := List.cons.inj hdr2
      rw [← hd] at i1
      repeat (first | refine JL.q (by first | (apply i0; exact rfl; exact rfl) | (apply OQ.eq8T (b := 92); exact rfl; exact rfl; exact h92) | (apply OQ.move; exact rfl) | (apply OQ.assign; exact rfl) | (apply OQ.len; exact rfl; exact rfl) | (apply OQ.addN; exact rfl; exact rfl; exact (by (try simp only []); omega)) | (apply OQ.subN; exact rfl; exact rfl; exact (by (try simp only []); omega); exact (by (try simp only []); omega)) | (apply OQ.lssN; exact rfl; exact rfl)) rfl ?_ | refine JC.seq ?_ | refine JC.region ?_ | refine JC.block ?_ | refine JC.skip ?_ | refine JC.exit ?_ | refine JL.nil ?_ | refine JE.next ?_ | refine JE.blk_normal ?_ | refine JE.then_exit ?_ | refine JE.blk_hit ?_ | refine JE.blk_miss rfl ?_ | refine JE.then_ret ?_ | refine JE.blk_ret ?_ | refine JC.label ?_ | refine JL.gon rfl rfl ?_ | refine JL.gskip rfl rfl rfl rfl ?_ | refine JL.gskipU rfl rfl rfl rfl ?_)
      refine JC.cond rfl (fun _ => ?_) (fun h => by cases h)
      repeat (first | refine JL.q (by first | (apply i1; exact rfl; exact rfl) | (apply OQ.move; exact rfl) | (apply OQ.assign; exact rfl) | (apply OQ.len; exact rfl; exact rfl) | (apply OQ.addN; exact rfl; exact rfl; exact (by (try simp only []); omega)) | (apply OQ.subN; exact rfl; exact rfl; exact (by (try simp only []); omega); exact (by (try simp only []); omega)) | (apply OQ.lssN; exact rfl; exact rfl)) rfl ?_ | refine JC.seq ?_ | refine JC.region ?_ | refine JC.block ?_ | refine JC.skip ?_ | refine JC.exit ?_ | refine JL.nil ?_ | refine JE.next ?_ | refine JE.blk_normal ?_ | refine JE.then_exit ?_ | refine JE.blk_hit ?_ | refine JE.blk_miss rfl ?_ | refine JE.then_ret ?_ | refine JE.blk_ret ?_ | refine JC.label ?_ | refine JL.gon rfl rfl ?_ | refine JL.gskip rfl rfl rfl rfl ?_ | refine JL.gskipU rfl rfl rfl rfl ?_)
      refine JL.push1 (xs := o.map U8) (fun b' cap' => [⟨b', Own 5 1 (o.length + 1) cap' (o.map U8 ++ [U8 d]), true⟩]) Tryz.underlying51 u8e rfl rfl rfl rfl (fun _ => rfl) (by intro _ _; repeat (first | exact Repl.here | apply Repl.there)) (by omega) (by omega) rfl rfl fun bl b' cap' => ?_
      repeat (first | refine JL.q (by first | (apply OQ.move; exact rfl) | (apply OQ.assign; exact rfl) | (apply OQ.len; exact rfl; exact rfl) | (apply OQ.addN; exact rfl; exact rfl; exact (by (try simp only []); omega)) | (apply OQ.subN; exact rfl; exact rfl; exact (by (try simp only []); omega); exact (by (try simp only []); omega)) | (apply OQ.lssN; exact rfl; exact rfl)) rfl ?_ | refine JC.seq ?_ | refine JC.region ?_ | refine JC.block ?_ | refine JC.skip ?_ | refine JC.exit ?_ | refine JL.nil ?_ | refine JE.next ?_ | refine JE.blk_normal ?_ | refine JE.then_exit ?_ | refine JE.blk_hit ?_ | refine JE.blk_miss rfl ?_ | refine JE.then_ret ?_ | refine JE.blk_ret ?_ | refine JC.label ?_ | refine JL.gon rfl rfl ?_ | refine JL.gskip rfl rfl rfl rfl ?_ | refine JL.gskipU rfl rfl rfl rfl ?_)
      refine JE.again (i := UqS.mk k o (d :: u') b cap) (UqS.mk (k + 2) (o ++ [d]) u' b' cap') ⟨by dsimp only; omega, ?_, ?_, ?_⟩ (by dsimp only; omega) ?_ (.keep _ _ _ _ _ _ (fun o' h => ?_) (.nil _))
      · dsimp only; rw [List.length_append, List.length_singleton]; omega
      · dsimp only; rw [← hx2]; exact hI'
      · dsimp only; rw [ht]; simp
      · dsimp only; rw [List.length_append, List.length_singleton]; exact (by repeat (first | exact SubE.nil | refine SubE.cons _ _ _ rfl ?_))
      · dsimp only; rw [List.length_append, List.length_singleton, List.map_append]; exact h
  · have hk' : ¬ k < i.length := of_decide_eq_false h
    obtain rfl : k = i.length := by omega
    rw [List.drop_length] at hI
    cases hI
    rw [List.append_nil] at ht
    subst ht
    repeat (first | refine JL.q (by first | (apply OQ.b2s (s := ⟨some ⟨b, 0, none⟩, cap, t⟩); exact Tryz.underlying51; exact Tryz.underlying5; exact Tryz.underlying9; exact rfl; exact (fun w' hw' => ownb_ok hw' .here)) | (apply OQ.move; exact rfl) | (apply OQ.assign; exact rfl) | (apply OQ.len; exact rfl; exact rfl) | (apply OQ.addN; exact rfl; exact rfl; exact (by (try simp only []); omega)) | (apply OQ.subN; exact rfl; exact rfl; exact (by (try simp only []); omega); exact (by (try simp only []); omega)) | (apply OQ.lssN; exact rfl; exact rfl)) rfl ?_ | refine JC.seq ?_ | refine JC.region ?_ | refine JC.block ?_ | refine JC.skip ?_ | refine JC.exit ?_ | refine JL.nil ?_ | refine JE.next ?_ | refine JE.blk_normal ?_ | refine JE.then_exit ?_ | refine JE.blk_hit ?_ | refine JE.blk_miss rfl ?_ | refine JE.then_ret ?_ | refine JE.blk_ret ?_ | refine JC.label ?_ | refine JL.gon rfl rfl ?_ | refine JL.gskip rfl rfl rfl rfl ?_ | refine JL.gskipU rfl rfl rfl rfl ?_)
    exact JC.ret (JE.ret1 rfl (RV.tmp rfl) fun w' hw => ⟨rfl, hw.chg⟩)
theorem quotedN_any (r : List Bt) (w : World) (hl : r.length < 9223372036854770000) : Calls Tryz.prog 37 [Z r].toArray w fun e w' => e = .returned (N (quotR r.tail 1)) ∧ Ext w w' := by
  cases r with
  | cons c r => exact quoted_any c r w (by rw [List.length_cons] at hl; omega)
  | nil =>
    refine enter (n := 21) Tryz.func37 rfl rfl rfl (Holds.start w []) ?_
    repeat (first | refine JL.q (by first | (apply OQ.move; exact rfl) | (apply OQ.assign; exact rfl) | (apply OQ.len; exact rfl; exact rfl) | (apply OQ.addN; exact rfl; exact rfl; exact (by (try simp only []); omega)) | (apply OQ.subN; exact rfl; exact rfl; exact (by (try simp only []); omega); exact (by (try simp only []); omega)) | (apply OQ.lssN; exact rfl; exact rfl)) rfl ?_ | refine JC.seq ?_ | refine JC.region ?_ | refine JC.block ?_ | refine JC.skip ?_ | refine JC.exit ?_ | refine JL.nil ?_ | refine JE.next ?_ | refine JE.blk_normal ?_ | refine JE.then_exit ?_ | refine JE.blk_hit ?_ | refine JE.blk_miss rfl ?_ | refine JE.then_ret ?_ | refine JE.blk_ret ?_ | refine JC.label ?_ | refine JL.gon rfl rfl ?_ | refine JL.gskip rfl rfl rfl rfl ?_ | refine JL.gskipU rfl rfl rfl rfl ?_)
    refine JC.loop (fun k : Nat => [(0, Z []), (3, N 1)]) (fun _ => []) (fun _ => 0) (fun _ => True) 1 trivial (by repeat (first | exact SubE.nil | refine SubE.cons _ _ _ rfl ?_)) (Less.refl _) ?_
    intro _ _
    repeat (first | refine JL.q (by first | (apply OQ.lenS; exact Tryz.underlying9; exact rfl) | (apply OQ.move; exact rfl) | (apply OQ.assign; exact rfl) | (apply OQ.len; exact rfl; exact rfl) | (apply OQ.addN; exact rfl; exact rfl; exact (by (try simp only []); omega)) | (apply OQ.subN; exact rfl; exact rfl; exact (by (try simp only []); omega); exact (by (try simp only []); omega)) | (apply OQ.lssN; exact rfl; exact rfl)) rfl ?_ | refine JC.seq ?_ | refine JC.region ?_ | refine JC.block ?_ | refine JC.skip ?_ | refine JC.exit ?_ | refine JL.nil ?_ | refine JE.next ?_ | refine JE.blk_normal ?_ | refine JE.then_exit ?_ | refine JE.blk_hit ?_ | refine JE.blk_miss rfl ?_ | refine JE.then_ret ?_ | refine JE.blk_ret ?_ | refine JC.label ?_ | refine JL.gon rfl rfl ?_ | refine JL.gskip rfl rfl rfl rfl ?_ | refine JL.gskipU rfl rfl rfl rfl ?_)
    refine JC.cond rfl (fun h => absurd (of_decide_eq_true h) (by decide)) (fun _ => ?_)
    repeat (first | refine JL.q (by first | (apply OQ.move; exact rfl) | (apply OQ.assign; exact rfl) | (apply OQ.len; exact rfl; exact rfl) | (apply OQ.addN; exact rfl; exact rfl; exact (by (try simp only []); omega)) | (apply OQ.subN; exact rfl; exact rfl; exact (by (try simp only []); omega); exact (by (try simp only []); omega)) | (apply OQ.lssN; exact rfl; exact rfl)) rfl ?_ | refine JC.seq ?_ | refine JC.region ?_ | refine JC.block ?_ | refine JC.skip ?_ | refine JC.exit ?_ | refine JL.nil ?_ | refine JE.next ?_ | refine JE.blk_normal ?_ | refine JE.then_exit ?_ | refine JE.blk_hit ?_ | refine JE.blk_miss rfl ?_ | refine JE.then_ret ?_ | refine JE.blk_ret ?_ | refine JC.label ?_ | refine JL.gon rfl rfl ?_ | refine JL.gskip rfl rfl rfl rfl ?_ | refine JL.gskipU rfl rfl rfl rfl ?_)
    refine JC.ret ?_
    exact JE.ret1 rfl (RV.tmp rfl) fun w' hw => ⟨rfl, hw.chg⟩
set_option maxHeartbeats 16000000 in
theorem readV_any (s : List Bt) (w : World) (hl : s.length < 1000000000) : Calls Tryz.prog 43 [Z s].toArray w fun e w' => e = .returned (.tuple #[Z (valL s).1, Z (valL s).2.1, .bool (valL s).2.2]) ∧ Ext w w' := by
  refine enter (n := 38) Tryz.func43 rfl rfl rfl (Holds.start w []) ?_
  have cP : ∀ (b : Nat) (w0 w' : World) (M : List Ent), Holds w0 [] (⟨b, Row 9 [Z notWord], true⟩ :: M) w' → Calls Tryz.prog 14 [Z s, prF b].toArray w' fun e w'' => e = .returned (.tuple #[Z (partL looseB s).1, Z (partL looseB s).2]) ∧ Ext w' w'' := fun b w0 w' M hw' => by
    have := partA_any s (prF b) (prB notWord) w' (fun_printed hw' .here) (by omega)
    rw [prB_word] at this
    exact this
  obtain ⟨b1, b2, e1, k1, k2, _⟩ := partL_split looseB s
  have hrl : (partL looseB s).2.length ≤ s.length := by
    conv => rhs; rw [e1]
    simp only [List.length_append]
    omega
  clear e1 k1 k2 b1 b2
  unfold valL
  generalize (partL looseB s).1 = V at cP hrl ⊢
  generalize (partL looseB s).2 = r at cP hrl ⊢
  repeat (first | refine JL.q (by first | (apply OQ.move; exact rfl) | (apply OQ.assign; exact rfl) | (apply OQ.len; exact rfl; exact rfl) | (apply OQ.addN; exact rfl; exact rfl; exact (by (try simp only []); omega)) | (apply OQ.subN; exact rfl; exact rfl; exact (by (try simp only []); omega); exact (by (try simp only []); omega)) | (apply OQ.lssN; exact rfl; exact rfl)) rfl ?_ | refine JC.seq ?_ | refine JC.region ?_ | refine JC.block ?_ | refine JC.skip ?_ | refine JC.exit ?_ | refine JL.nil ?_ | refine JE.next ?_ | refine JE.blk_normal ?_ | refine JE.then_exit ?_ | refine JE.blk_hit ?_ | refine JE.blk_miss rfl ?_ | refine JE.then_ret ?_ | refine JE.blk_ret ?_ | refine JC.label ?_ | refine JL.gon rfl rfl ?_ | refine JL.gskip rfl rfl rfl rfl ?_ | refine JL.gskipU rfl rfl rfl rfl ?_)
  refine JL.callg (ι := Nat) (vs := [Z notWord]) prF (fun b => [⟨b, Row 9 [Z notWord], true⟩]) goes_printed rfl rfl (fun b e he => by rw [List.mem_singleton.1 he]) (fun w' _ => printed_any notWord w') fun b => ?_
  cases hV : decide (V = [])
  · rw [if_pos (of_decide_eq_false hV)]
    repeat (first | refine JL.q (by first | (apply OQ.callx (vs := [Z s, prF b]); exact goes_partA; exact rfl; exact (fun w' hw' => cP b _ w' _ hw')) | (apply OQ.extract; exact rfl; exact rfl) | (apply OQ.neSB (r := []); exact rfl; exact rfl; exact hV) | (apply OQ.move; exact rfl) | (apply OQ.assign; exact rfl) | (apply OQ.len; exact rfl; exact rfl) | (apply OQ.addN; exact rfl; exact rfl; exact (by (try simp only []); omega)) | (apply OQ.subN; exact rfl; exact rfl; exact (by (try simp only []); omega); exact (by (try simp only []); omega)) | (apply OQ.lssN; exact rfl; exact rfl)) rfl ?_ | refine JC.seq ?_ | refine JC.region ?_ | refine JC.block ?_ | refine JC.skip ?_ | refine JC.exit ?_ | refine JL.nil ?_ | refine JE.next ?_ | refine JE.blk_normal ?_ | refine JE.then_exit ?_ | refine JE.blk_hit ?_ | refine JE.blk_miss rfl ?_ | refine JE.then_ret ?_ | refine JE.blk_ret ?_ | refine JC.label ?_ | refine JL.gon rfl rfl ?_ | refine JL.gskip rfl rfl rfl rfl ?_ | refine JL.gskipU rfl rfl rfl rfl ?_)
    refine JC.cond rfl (fun _ => ?_) (fun h => by cases h)
    repeat (first | refine JL.q (by first | (apply OQ.move; exact rfl) | (apply OQ.assign; exact rfl) | (apply OQ.len; exact rfl; exact rfl) | (apply OQ.addN; exact rfl; exact rfl; exact (by (try simp only []); omega)) | (apply OQ.subN; exact rfl; exact rfl; exact (by (try simp only []); omega); exact (by (try simp only []); omega)) | (apply OQ.lssN; exact rfl; exact rfl)) rfl ?_ | refine JC.seq ?_ | refine JC.region ?_ | refine JC.block ?_ | refine JC.skip ?_ | refine JC.exit ?_ | refine JL.nil ?_ | refine JE.next ?_ | refine JE.blk_normal ?_ | refine JE.then_exit ?_ | refine JE.blk_hit ?_ | refine JE.blk_miss rfl ?_ | refine JE.then_ret ?_ | refine JE.blk_ret ?_ | refine JC.label ?_ | refine JL.gon rfl rfl ?_ | refine JL.gskip rfl rfl rfl rfl ?_ | refine JL.gskipU rfl rfl rfl rfl ?_)
    refine JC.ret ?_
    repeat (first | refine JL.q (by first | (apply OQ.move; exact rfl) | (apply OQ.assign; exact rfl) | (apply OQ.len; exact rfl; exact rfl) | (apply OQ.addN; exact rfl; exact rfl; exact (by (try simp only []); omega)) | (apply OQ.subN; exact rfl; exact rfl; exact (by (try simp only []); omega); exact (by (try simp only []); omega)) | (apply OQ.lssN; exact rfl; exact rfl)) rfl ?_ | refine JC.seq ?_ | refine JC.region ?_ | refine JC.block ?_ | refine JC.skip ?_ | refine JC.exit ?_ | refine JL.nil ?_ | refine JE.next ?_ | refine JE.blk_normal ?_ | refine JE.then_exit ?_ | refine JE.blk_hit ?_ | refine JE.blk_miss rfl ?_ | refine JE.then_ret ?_ | refine JE.blk_ret ?_ | refine JC.label ?_ | refine JL.gon rfl rfl ?_ | refine JL.gskip rfl rfl rfl rfl ?_ | refine JL.gskipU rfl rfl rfl rfl ?_)
    exact JE.ret3 rfl (RV.tmp rfl) (RV.tmp rfl) (RV.tmp rfl) fun w' hw => ⟨rfl, hw.chg⟩
  rw [if_neg (fun k => k (of_decide_eq_true hV))]
  have cQ := fun w' => quotedN_any r w' (by omega)
  cases hq : decide ((quotR r.tail 1 : Int) = 0)
  case true =>
    rw [if_neg (fun k => k.2 (by have := of_decide_eq_true hq; omega))]
    generalize quotR r.tail 1 = q at cQ hq
    repeat (first | refine JL.q (by first | (apply OQ.callx (vs := [Z s, prF b]); exact goes_partA; exact rfl; exact (fun w' hw' => cP b _ w' _ hw')) | (apply OQ.extract; exact rfl; exact rfl) | (apply OQ.neSB (r := []); exact rfl; exact rfl; exact hV) | (apply OQ.move; exact rfl) | (apply OQ.assign; exact rfl) | (apply OQ.len; exact rfl; exact rfl) | (apply OQ.addN; exact rfl; exact rfl; exact (by (try simp only []); omega)) | (apply OQ.subN; exact rfl; exact rfl; exact (by (try simp only []); omega); exact (by (try simp only []); omega)) | (apply OQ.lssN; exact rfl; exact rfl)) rfl ?_ | refine JC.seq ?_ | refine JC.region ?_ | refine JC.block ?_ | refine JC.skip ?_ | refine JC.exit ?_ | refine JL.nil ?_ | refine JE.next ?_ | refine JE.blk_normal ?_ | refine JE.then_exit ?_ | refine JE.blk_hit ?_ | refine JE.blk_miss rfl ?_ | refine JE.then_ret ?_ | refine JE.blk_ret ?_ | refine JC.label ?_ | refine JL.gon rfl rfl ?_ | refine JL.gskip rfl rfl rfl rfl ?_ | refine JL.gskipU rfl rfl rfl rfl ?_)
    refine JC.cond rfl (fun h => by cases h) (fun _ => ?_)
    repeat (first | refine JL.q (by first | (apply OQ.callx (vs := [Z r]); exact goes_quoted; exact rfl; exact (fun w' _ => cQ w')) | (apply OQ.eqB (b := 0); exact rfl; exact rfl; exact hq) | (apply OQ.pick_t; exact rfl; exact rfl) | (apply OQ.move; exact rfl) | (apply OQ.assign; exact rfl) | (apply OQ.len; exact rfl; exact rfl) | (apply OQ.addN; exact rfl; exact rfl; exact (by (try simp only []); omega)) | (apply OQ.subN; exact rfl; exact rfl; exact (by (try simp only []); omega); exact (by (try simp only []); omega)) | (apply OQ.lssN; exact rfl; exact rfl)) rfl ?_ | refine JC.seq ?_ | refine JC.region ?_ | refine JC.block ?_ | refine JC.skip ?_ | refine JC.exit ?_ | refine JL.nil ?_ | refine JE.next ?_ | refine JE.blk_normal ?_ | refine JE.then_exit ?_ | refine JE.blk_hit ?_ | refine JE.blk_miss rfl ?_ | refine JE.then_ret ?_ | refine JE.blk_ret ?_ | refine JC.label ?_ | refine JL.gon rfl rfl ?_ | refine JL.gskip rfl rfl rfl rfl ?_ | refine JL.gskipU rfl rfl rfl rfl ?_)
    refine JC.cond rfl (fun _ => ?_) (fun h => by cases h)
    repeat (first | refine JL.q (by first | (apply OQ.move; exact rfl) | (apply OQ.assign; exact rfl) | (apply OQ.len; exact rfl; exact rfl) | (apply OQ.addN; exact rfl; exact rfl; exact (by (try simp only []); omega)) | (apply OQ.subN; exact rfl; exact rfl; exact (by (try simp only []); omega); exact (by (try simp only []); omega)) | (apply OQ.lssN; exact rfl; exact rfl)) rfl ?_ | refine JC.seq ?_ | refine JC.region ?_ | refine JC.block ?_ | refine JC.skip ?_ | refine JC.exit ?_ | refine JL.nil ?_ | refine JE.next ?_ | refine JE.blk_normal ?_ | refine JE.then_exit ?_ | refine JE.blk_hit ?_ | refine JE.blk_miss rfl ?_ | refine JE.then_ret ?_ | refine JE.blk_ret ?_ | refine JC.label ?_ | refine JL.gon rfl rfl ?_ | refine JL.gskip rfl rfl rfl rfl ?_ | refine JL.gskipU rfl rfl rfl rfl ?_)
    refine JC.ret ?_
    repeat (first | refine JL.q (by first | (apply OQ.move; exact rfl) | (apply OQ.assign; exact rfl) | (apply OQ.len; exact rfl; exact rfl) | (apply OQ.addN; exact rfl; exact rfl; exact (by (try simp only []); omega)) | (apply OQ.subN; exact rfl; exact rfl; exact (by (try simp only []); omega); exact (by (try simp only []); omega)) | (apply OQ.lssN; exact rfl; exact rfl)) rfl ?_ | refine JC.seq ?_ | refine JC.region ?_ | refine JC.block ?_ | refine JC.skip ?_ | refine JC.exit ?_ | refine JL.nil ?_ | refine JE.next ?_ | refine JE.blk_normal ?_ | refine JE.then_exit ?_ | refine JE.blk_hit ?_ | refine JE.blk_miss rfl ?_ | refine JE.then_ret ?_ | refine JE.blk_ret ?_ | refine JC.label ?_ | refine JL.gon rfl rfl ?_ | refine JL.gskip rfl rfl rfl rfl ?_ | refine JL.gskipU rfl rfl rfl rfl ?_)
    exact JE.ret3 rfl (RV.tmp rfl) (RV.tmp rfl) (RV.tmp rfl) fun w' hw => ⟨rfl, hw.chg⟩
  have hqn : quotR r.tail 1 ≠ 0 := by have := of_decide_eq_false hq; omega
  obtain ⟨c, x, rfl⟩ : ∃ c x, r = c :: x := by
    cases r with
    | nil => exact absurd (quot_e 1) hqn
    | cons c x => exact ⟨c, x, rfl⟩
  rw [List.tail_cons] at *
  rw [List.head?_cons]
  have i0 := fun {n : Nat} {E : Env} {C : World → Prop} {dst : Option Tmp} {ty : TypeId} {pos : String} {aft : Array Edge} {g : Option (Nat × Bool)} {y z : Operand} => idxAt10 (s := c :: x) (i := 0) (Nat.succ_pos _) (n := n) (E := E) (C := C) (dst := dst) (ty := ty) (pos := pos) (aft := aft) (g := g) (x := y) (y := z)
  rw [List.getD_cons_zero] at i0
  cases h34 : decide (c = 34)
  · rw [if_neg (fun k => of_decide_eq_false h34 (Option.some.inj k.1))]
    generalize quotR x 1 = q at cQ hq
    repeat (first | refine JL.q (by first | (apply OQ.callx (vs := [Z s, prF b]); exact goes_partA; exact rfl; exact (fun w' hw' => cP b _ w' _ hw')) | (apply OQ.extract; exact rfl; exact rfl) | (apply OQ.neSB (r := []); exact rfl; exact rfl; exact hV) | (apply OQ.move; exact rfl) | (apply OQ.assign; exact rfl) | (apply OQ.len; exact rfl; exact rfl) | (apply OQ.addN; exact rfl; exact rfl; exact (by (try simp only []); omega)) | (apply OQ.subN; exact rfl; exact rfl; exact (by (try simp only []); omega); exact (by (try simp only []); omega)) | (apply OQ.lssN; exact rfl; exact rfl)) rfl ?_ | refine JC.seq ?_ | refine JC.region ?_ | refine JC.block ?_ | refine JC.skip ?_ | refine JC.exit ?_ | refine JL.nil ?_ | refine JE.next ?_ | refine JE.blk_normal ?_ | refine JE.then_exit ?_ | refine JE.blk_hit ?_ | refine JE.blk_miss rfl ?_ | refine JE.then_ret ?_ | refine JE.blk_ret ?_ | refine JC.label ?_ | refine JL.gon rfl rfl ?_ | refine JL.gskip rfl rfl rfl rfl ?_ | refine JL.gskipU rfl rfl rfl rfl ?_)
    refine JC.cond rfl (fun h => by cases h) (fun _ => ?_)
    repeat (first | refine JL.q (by first | (apply OQ.callx (vs := [Z (c :: x)]); exact goes_quoted; exact rfl; exact (fun w' _ => cQ w')) | (apply OQ.eqB (b := 0); exact rfl; exact rfl; exact hq) | (apply i0; exact rfl; exact rfl) | (apply OQ.ne8B (b := 34); exact rfl; exact rfl; exact h34) | (apply OQ.pick_f; exact rfl; exact rfl) | (apply OQ.move; exact rfl) | (apply OQ.assign; exact rfl) | (apply OQ.len; exact rfl; exact rfl) | (apply OQ.addN; exact rfl; exact rfl; exact (by (try simp only []); omega)) | (apply OQ.subN; exact rfl; exact rfl; exact (by (try simp only []); omega); exact (by (try simp only []); omega)) | (apply OQ.lssN; exact rfl; exact rfl)) rfl ?_ | refine JC.seq ?_ | refine JC.region ?_ | refine JC.block ?_ | refine JC.skip ?_ | refine JC.exit ?_ | refine JL.nil ?_ | refine JE.next ?_ | refine JE.blk_normal ?_ | refine JE.then_exit ?_ | refine JE.blk_hit ?_ | refine JE.blk_miss rfl ?_ | refine JE.then_ret ?_ | refine JE.blk_ret ?_ | refine JC.label ?_ | refine JL.gon rfl rfl ?_ | refine JL.gskip rfl rfl rfl rfl ?_ | refine JL.gskipU rfl rfl rfl rfl ?_)
    refine JC.cond rfl (fun _ => ?_) (fun h => by cases h)
    repeat (first | refine JL.q (by first | (apply OQ.move; exact rfl) | (apply OQ.assign; exact rfl) | (apply OQ.len; exact rfl; exact rfl) | (apply OQ.addN; exact rfl; exact rfl; exact (by (try simp only []); omega)) | (apply OQ.subN; exact rfl; exact rfl; exact (by (try simp only []); omega); exact (by (try simp only []); omega)) | (apply OQ.lssN; exact rfl; exact rfl)) rfl ?_ | refine JC.seq ?_ | refine JC.region ?_ | refine JC.block ?_ | refine JC.skip ?_ | refine JC.exit ?_ | refine JL.nil ?_ | refine JE.next ?_ | refine JE.blk_normal ?_ | refine JE.then_exit ?_ | refine JE.blk_hit ?_ | refine JE.blk_miss rfl ?_ | refine JE.then_ret ?_ | refine JE.blk_ret ?_ | refine JC.label ?_ | refine JL.gon rfl rfl ?_ | refine JL.gskip rfl rfl rfl rfl ?_ | refine JL.gskipU rfl rfl rfl rfl ?_)
    refine JC.ret ?_
    repeat (first | refine JL.q (by first | (apply OQ.move; exact rfl) | (apply OQ.assign; exact rfl) | (apply OQ.len; exact rfl; exact rfl) | (apply OQ.addN; exact rfl; exact rfl; exact (by (try simp only []); omega)) | (apply OQ.subN; exact rfl; exact rfl; exact (by (try simp only []); omega); exact (by (try simp only []); omega)) | (apply OQ.lssN; exact rfl; exact rfl)) rfl ?_ | refine JC.seq ?_ | refine JC.region ?_ | refine JC.block ?_ | refine JC.skip ?_ | refine JC.exit ?_ | refine JL.nil ?_ | refine JE.next ?_ | refine JE.blk_normal ?_ | refine JE.then_exit ?_ | refine JE.blk_hit ?_ | refine JE.blk_miss rfl ?_ | refine JE.then_ret ?_ | refine JE.blk_ret ?_ | refine JC.label ?_ | refine JL.gon rfl rfl ?_ | refine JL.gskip rfl rfl rfl rfl ?_ | refine JL.gskipU rfl rfl rfl rfl ?_)
    exact JE.ret3 rfl (RV.tmp rfl) (RV.tmp rfl) (RV.tmp rfl) fun w' hw => ⟨rfl, hw.chg⟩
  · obtain rfl : c = 34 := of_decide_eq_true h34
    rw [if_pos ⟨rfl, hqn⟩]
    obtain ⟨i, t, z, rfl, hI⟩ := inn_of_quot _ x 1 (Nat.le_refl _) hqn
    rw [hI.unq, List.nil_append]
    have hlen : (34 :: (i ++ 34 :: z)).length = i.length + z.length + 2 := by simp only [List.length_cons, List.length_append]; omega
    have cU := fun w' => unqA_any hI w' (by omega)
    have cM := fun w' => may_any i w' (by omega)
    rw [hI.sok] at cM
    have hins : ((34 :: (i ++ 34 :: z)).take (quotR (i ++ 34 :: z) 1 - 1)).drop 1 = i := by
      rw [hI.quot, show 1 + i.length + 1 - 1 = i.length + 1 by omega, List.take_succ_cons, List.drop_succ_cons, List.drop_zero, List.take_left]
    have hql : quotR (i ++ 34 :: z) 1 = i.length + 2 := by rw [hI.quot]; omega
    generalize quotR (i ++ 34 :: z) 1 = q at *
    have h1 : 1 ≤ q - 1 := by omega
    have h2 : q - 1 ≤ (34 :: (i ++ 34 :: z)).length := by omega
    have h3 : q ≤ (34 :: (i ++ 34 :: z)).length := by omega
    have cT := fun w' => triml_any ((34 :: (i ++ 34 :: z)).drop q) w'
    generalize 34 :: (i ++ 34 :: z) = r at *
    repeat (first | refine JL.q (by first | (apply OQ.callx (vs := [Z s, prF b]); exact goes_partA; exact rfl; exact (fun w' hw' => cP b _ w' _ hw')) | (apply OQ.extract; exact rfl; exact rfl) | (apply OQ.neSB (r := []); exact rfl; exact rfl; exact hV) | (apply OQ.move; exact rfl) | (apply OQ.assign; exact rfl) | (apply OQ.len; exact rfl; exact rfl) | (apply OQ.addN; exact rfl; exact rfl; exact (by (try simp only []); omega)) | (apply OQ.subN; exact rfl; exact rfl; exact (by (try simp only []); omega); exact (by (try simp only []); omega)) | (apply OQ.lssN; exact rfl; exact rfl)) rfl ?_ | refine JC.seq ?_ | refine JC.region ?_ | refine JC.block ?_ | refine JC.skip ?_ | refine JC.exit ?_ | refine JL.nil ?_ | refine JE.next ?_ | refine JE.blk_normal ?_ | refine JE.then_exit ?_ | refine JE.blk_hit ?_ | refine JE.blk_miss rfl ?_ | refine JE.then_ret ?_ | refine JE.blk_ret ?_ | refine JC.label ?_ | refine JL.gon rfl rfl ?_ | refine JL.gskip rfl rfl rfl rfl ?_ | refine JL.gskipU rfl rfl rfl rfl ?_)
    refine JC.cond rfl (fun h => by cases h) (fun _ => ?_)
    repeat (first | refine JL.q (by first | (apply OQ.callx (vs := [Z r]); exact goes_quoted; exact rfl; exact (fun w' _ => cQ w')) | (apply OQ.eqB (b := 0); exact rfl; exact rfl; exact hq) | (apply i0; exact rfl; exact rfl) | (apply OQ.ne8B (b := 34); exact rfl; exact rfl; exact h34) | (apply OQ.pick_f; exact rfl; exact rfl) | (apply OQ.move; exact rfl) | (apply OQ.assign; exact rfl) | (apply OQ.len; exact rfl; exact rfl) | (apply OQ.addN; exact rfl; exact rfl; exact (by (try simp only []); omega)) | (apply OQ.subN; exact rfl; exact rfl; exact (by (try simp only []); omega); exact (by (try simp only []); omega)) | (apply OQ.lssN; exact rfl; exact rfl)) rfl ?_ | refine JC.seq ?_ | refine JC.region ?_ | refine JC.block ?_ | refine JC.skip ?_ | refine JC.exit ?_ | refine JL.nil ?_ | refine JE.next ?_ | refine JE.blk_normal ?_ | refine JE.then_exit ?_ | refine JE.blk_hit ?_ | refine JE.blk_miss rfl ?_ | refine JE.then_ret ?_ | refine JE.blk_ret ?_ | refine JC.label ?_ | refine JL.gon rfl rfl ?_ | refine JL.gskip rfl rfl rfl rfl ?_ | refine JL.gskipU rfl rfl rfl rfl ?_)
    refine JC.cond rfl (fun h => by cases h) (fun _ => ?_)
    repeat (first | refine JL.q (by first | (apply OQ.to; exact (OQ.subS Tryz.underlying9 rfl rfl rfl h1 h2); exact (congrArg Z hins)) | (apply OQ.move; exact rfl) | (apply OQ.assign; exact rfl) | (apply OQ.len; exact rfl; exact rfl) | (apply OQ.addN; exact rfl; exact rfl; exact (by (try simp only []); omega)) | (apply OQ.subN; exact rfl; exact rfl; exact (by (try simp only []); omega); exact (by (try simp only []); omega)) | (apply OQ.lssN; exact rfl; exact rfl)) rfl ?_ | refine JC.seq ?_ | refine JC.region ?_ | refine JC.block ?_ | refine JC.skip ?_ | refine JC.exit ?_ | refine JL.nil ?_ | refine JE.next ?_ | refine JE.blk_normal ?_ | refine JE.then_exit ?_ | refine JE.blk_hit ?_ | refine JE.blk_miss rfl ?_ | refine JE.then_ret ?_ | refine JE.blk_ret ?_ | refine JC.label ?_ | refine JL.gon rfl rfl ?_ | refine JL.gskip rfl rfl rfl rfl ?_ | refine JL.gskipU rfl rfl rfl rfl ?_)
    refine JC.quiet mixT (by kernel_rfl) ?_
    repeat (first | refine JL.q (by first | (apply OQ.callx (vs := [Z i]); exact goes_unqA; exact rfl; exact (fun w' _ => cU w')) | (apply OQ.subS_lo; exact Tryz.underlying9; exact rfl; exact rfl; exact h3) | (apply OQ.callx (vs := [Z (r.drop q), Z [32, 9]]); exact goes_triml; exact rfl; exact (fun w' _ => cT w')) | (apply OQ.callx (vs := [Z i]); exact goes_may; exact rfl; exact (fun w' _ => cM w')) | (apply OQ.move; exact rfl) | (apply OQ.assign; exact rfl) | (apply OQ.len; exact rfl; exact rfl) | (apply OQ.addN; exact rfl; exact rfl; exact (by (try simp only []); omega)) | (apply OQ.subN; exact rfl; exact rfl; exact (by (try simp only []); omega); exact (by (try simp only []); omega)) | (apply OQ.lssN; exact rfl; exact rfl)) rfl ?_ | refine JQ.q (by first | (apply OQ.callx (vs := [Z i]); exact goes_unqA; exact rfl; exact (fun w' _ => cU w')) | (apply OQ.subS_lo; exact Tryz.underlying9; exact rfl; exact rfl; exact h3) | (apply OQ.callx (vs := [Z (r.drop q), Z [32, 9]]); exact goes_triml; exact rfl; exact (fun w' _ => cT w')) | (apply OQ.callx (vs := [Z i]); exact goes_may; exact rfl; exact (fun w' _ => cM w')) | (apply OQ.move; exact rfl) | (apply OQ.assign; exact rfl) | (apply OQ.len; exact rfl; exact rfl) | (apply OQ.addN; exact rfl; exact rfl; exact (by (try simp only []); omega)) | (apply OQ.subN; exact rfl; exact rfl; exact (by (try simp only []); omega); exact (by (try simp only []); omega)) | (apply OQ.lssN; exact rfl; exact rfl)) rfl ?_ | refine JC.seq ?_ | refine JC.region ?_ | refine JC.block ?_ | refine JC.skip ?_ | refine JC.exit ?_ | refine JL.nil ?_ | refine JQ.nil ?_ | refine JQ.nil_tail ?_ | refine JE.next ?_ | refine JE.blk_normal ?_ | refine JE.then_exit ?_ | refine JE.blk_hit ?_ | refine JE.blk_miss rfl ?_ | refine JE.then_ret ?_ | refine JE.blk_ret ?_ | refine JC.label ?_ | refine JL.gon rfl rfl ?_ | refine JQ.gon rfl rfl ?_ | refine JL.gskip rfl rfl rfl rfl ?_ | refine JQ.gskip rfl rfl rfl rfl ?_ | refine JL.gskipU rfl rfl rfl rfl ?_ | refine JQ.gskipU rfl rfl rfl rfl ?_)
    exact JC.ret (JE.ret3 rfl (RV.tmp rfl) (RV.tmp rfl) (RV.tmp rfl) fun w' hw => ⟨rfl, hw.chg⟩)
end Go.Proofs.YtchoiikhepjdiaaGreatDoor

/-
  Of no statement by itself: what the landed token's Ids gives.
  Conditions: each theorem's own.
-/
namespace Go.Proofs.YtchoiikhepjdiaaGreatDoor
set_option maxRecDepth 10000
open Sl Fld Tok
theorem cpV_parts (c : Bt) (t : List Bt) : ∃ (x : List Bt) (b : Bool), cpV c t = .tuple #[Z x, .bool b] ∧ x.length ≤ t.length ∧ (b = true → t.head? = some c ∧ x = t.tail) ∧ (b = false → ¬ t.head? = some c ∧ x = t) := by
  unfold cpV
  by_cases h : t.head? = some c
  · rw [if_pos h]
    exact ⟨_, _, rfl, by rw [List.length_tail]; omega, fun _ => ⟨h, rfl⟩, fun k => by cases k⟩
  · rw [if_neg h]
    exact ⟨_, _, rfl, Nat.le_refl _, (fun k => by cases k), fun _ => ⟨h, rfl⟩⟩
end Go.Proofs.YtchoiikhepjdiaaGreatDoor
