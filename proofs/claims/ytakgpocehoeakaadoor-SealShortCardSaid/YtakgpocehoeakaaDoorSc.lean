/-
  Of no statement by itself: the texts NumA, SealA, StrQ, StrR, StrM, StrO, StrT, StrU, StrV, SealB, SealC, LawL, LawM, LawN in one.
  Conditions: each theorem's own.
-/
import Derived.Test.YtakgpocehoeakaaDoorSb
import Derived.Test.YtakgpocehoeakaaDoorProg
set_option linter.unusedSimpArgs false
set_option linter.unusedVariables false
/-
  Of no statement by itself: the landed package number: Read, Append.
  Conditions: each theorem's own.
-/
namespace Go.Proofs.YtakgpocehoeakaaDoor
set_option maxRecDepth 10000
open Sl Jrn
abbrev Bs := List Bt
theorem goes_numApp : Goes Tryd.prog 23 := ⟨_, Tryd.func23, rfl, by kernel_rfl⟩
theorem be64_take (n : BitVec 64) {size i : Nat} (h : i < size) : (be64 n size).take (i + 1) = (be64 n size).take i ++ [(n >>> (8 * (size - 1 - i))).setWidth 8] := by
  rw [List.take_succ_eq_append_getElem (by rw [be64_len]; exact h)]
  simp [be64]
set_option maxHeartbeats 8000000 in
theorem numApp_any (q : Acc) (xs : Bs) (n : BitVec 64) (size : Nat) (h0 : 0 < size) (h4 : size ≤ 8) (hq : q = none → xs = []) (hl : xs.length ≤ 70000000000000) (w : World) (hw : Holds w (keys (accE 5 q (xs.map U8))) (accE 5 q (xs.map U8)) w) :
    Calls Tryd.prog 23 [accV q xs.length, U64 n, N size].toArray w fun e w' => ∃ r : Nat × Nat, e = .returned (accV (some r) (xs ++ be64 n size).length) ∧ Holds w (keys (accE 5 q (xs.map U8))) (accE 5 (some r) ((xs ++ be64 n size).map U8)) w' := by
  generalize keys (accE 5 q (xs.map U8)) = S at hw ⊢
  refine enter (n := 25) Tryd.func23 rfl rfl rfl hw ?_
  repeat (first | refine JL.q (by first | (apply OQ.move; exact rfl) | (apply OQ.assign; exact rfl)) rfl ?_ | refine JC.seq ?_ | refine JC.region ?_ | refine JC.block ?_ | refine JL.nil ?_ | refine JE.next ?_)
  refine JC.loop (fun z : Nat × Acc => [(0, accV z.2 (xs ++ (be64 n size).take z.1).length), (1, U64 n), (2, N size), (8, N size), (9, N z.1)]) (fun z => accE 5 z.2 ((xs ++ (be64 n size).take z.1).map U8)) (fun z => size - z.1) (fun z => z.1 ≤ size ∧ (z.2 = none → xs ++ (be64 n size).take z.1 = [] ∧ z.1 = 0)) (0, q) ⟨Nat.zero_le _, fun e => ⟨by rw [hq e]; rfl, rfl⟩⟩ (by rw [List.take_zero, List.append_nil]; exact (by repeat (first | exact SubE.nil | refine SubE.cons _ _ _ rfl ?_))) (by rw [List.take_zero, List.append_nil]; exact Less.refl _) ?_
  rintro ⟨i, q⟩ ⟨hi, hq2⟩
  dsimp only at hi hq2 ⊢
  repeat (first | refine JL.q (by (apply OQ.lssN; exact rfl; exact rfl)) rfl ?_ | refine JC.seq ?_ | refine JC.region ?_ | refine JL.nil ?_ | refine JE.next ?_)
  refine JC.cond rfl (fun h => ?_) (fun h => ?_)
  · have hi' : i < size := by have := of_decide_eq_true h; omega
    clear h
    have et := be64_take n hi'
    generalize hys : xs ++ (be64 n size).take i = ys at hq2 ⊢
    have hy2 : xs ++ (be64 n size).take (i + 1) = ys ++ [(n >>> (8 * (size - 1 - i))).setWidth 8] := by rw [et, ← List.append_assoc, hys]
    have hyl : ys.length ≤ 70000000000008 := by rw [← hys, List.length_append, List.length_take, be64_len]; omega
    repeat (first | refine JL.q (by first | (apply OQ.mulN (a := 8); exact rfl; exact rfl; exact (by omega)) | (apply OQ.shr64 (k := 8 * (size - 1 - i)); exact rfl; exact rfl) | (apply OQ.conv64_8; exact Tryd.underlying49; exact Tryd.underlying5; exact rfl) | (apply OQ.move; exact rfl) | (apply OQ.assign; exact rfl) | (apply OQ.subN; exact rfl; exact rfl; exact (by (try simp only []); omega); exact (by (try simp only []); omega))) rfl ?_ | refine JC.seq ?_ | refine JC.region ?_ | refine JC.block ?_ | refine JC.skip ?_ | refine JL.nil ?_ | refine JE.next ?_)
    refine JL.lit1 Tryd.underlying26 u8e rfl rfl rfl rfl fun bl _ => ?_
    refine JL.perm (M' := accE 5 q (ys.map U8) ++ [⟨bl, Row 5 [U8 ((n >>> (8 * (size - 1 - i))).setWidth 8)], true⟩]) ?_ (by exact (List.perm_append_singleton _ _).symm)
    refine JL.appendQ (xs := ys.map U8) (cs := [U8 ((n >>> (8 * (size - 1 - i))).setWidth 8)]) (m := 1) (ad := some ⟨bl, 0, none⟩) (sc := 1) q Tryd.underlying26 u8e (fun e => by rw [(hq2 e).1]; rfl) (by rw [List.length_map]; rfl) rfl rfl (fun w' hw' => ?_) (by simp [Value.oneCell']) rfl (by rw [List.length_map]; omega) (by rw [List.length_map]; omega) rfl fun q' hq' => ?_
    · obtain ⟨o, ho, hA⟩ := hw'.get (b := bl) (A := Row 5 [U8 ((n >>> (8 * (size - 1 - i))).setWidth 8)]) (wr := true) (hasR .here)
      exact Reads.block ho (Row.all o hA)
    have e2 : ys.map U8 ++ [U8 ((n >>> (8 * (size - 1 - i))).setWidth 8)] = (xs ++ (be64 n size).take (i + 1)).map U8 := by rw [hy2]; simp
    rw [e2] at hq' ⊢
    rw [List.length_map]
    repeat (first | refine JL.q (by first | (apply OQ.move; exact rfl) | (apply OQ.assign; exact rfl) | (apply OQ.addN; exact rfl; exact rfl; exact (by (try simp only []); omega))) rfl ?_ | refine JC.region ?_ | refine JL.nil ?_ | refine JE.next ?_ | refine JE.blk_normal ?_)
    refine JE.again (i := (i, q)) (i + 1, q') ⟨hi', fun e => absurd (hq' e) (by rw [hy2]; simp)⟩ (by dsimp only; omega) (by repeat (first | exact SubE.nil | refine SubE.cons _ _ _ rfl ?_)) (less_pre _ _)
  · have hi' : i = size := by have := of_decide_eq_false h; omega
    subst hi'
    cases q with
    | none => have := (hq2 rfl).2; omega
    | some r =>
      rw [List.take_of_length_le (by rw [be64_len]; exact Nat.le_refl _)]
      repeat (first | refine JL.q (by first | (apply OQ.move; exact rfl) | (apply OQ.assign; exact rfl)) rfl ?_ | refine JC.seq ?_ | refine JC.region ?_ | refine JC.exit ?_ | refine JL.nil ?_ | refine JE.next ?_ | refine JE.then_exit ?_ | refine JE.blk_hit ?_)
      exact JC.ret (JE.ret1 rfl (RV.tmp rfl) fun w' hw => ⟨r, rfl, hw⟩)
section
variable {n : Nat} {w0 : World} {S : List Nat} {ops : Array Oper} {Q : Exit → Act → World → Prop} {l : List Oper} {E : Env} {M : List Ent} {C : World → Prop}
variable {dst : Option Tmp} {d : Nat} {ty t t' : TypeId} {pos : String} {aft : Array Edge} {g : Option (Nat × Bool)} {x x1 x2 x3 : Operand} {ats : Array TypeId} {P : Program}
theorem JL.numApp {q : Acc} {xs : Bs} {m : BitVec 64} {size : Nat} (h0 : 0 < size) (h4 : size ≤ 8) (hq : q = none → xs = []) (hl : xs.length ≤ 70000000000000) (e1 : ev E x1 = some (accV q xs.length)) (e2 : ev E x2 = some (U64 m)) (e3 : ev E x3 = some (N size)) (hd : Nat.blt d n = true)
    (kk : ∀ r : Nat × Nat, JL Tryd.prog n w0 S ops Q l ((d, accV (some r) (xs ++ be64 m size).length) :: E) (accE 5 (some r) ((xs ++ be64 m size).map U8) ++ M)) : JL Tryd.prog n w0 S ops Q (⟨some d, .call ⟨.value (.func 23), #[x1, x2, x3], ats⟩, ty, pos, aft, none⟩ :: l) E (accE 5 q (xs.map U8) ++ M) :=
  JL.callW (ι := Nat × Nat) (xs := [x1, x2, x3]) (vs := [accV q xs.length, U64 m, N size]) (fun r => accV (some r) (xs ++ be64 m size).length) (fun r => accE 5 (some r) ((xs ++ be64 m size).map U8)) goes_numApp (by simp [evs, e1, e2, e3]) hd (accE_wr _ _ _) (fun _ => accE_wr _ _ _)
    (fun w hw => numApp_any q xs m size h0 h4 hq hl w (hw.weak (less_pre _ _))) kk
end
end Go.Proofs.YtakgpocehoeakaaDoor

/-
  Of no statement by itself: what seal.twoKeys, seal.Same, seal.Message and the reference's Message give.
  Conditions: each theorem's own.
-/
namespace Go.Proofs.YtakgpocehoeakaaDoor
set_option maxRecDepth 10000
open Sl Sha Str

theorem JL.lessS {P : Program} {n : Nat} {w0 : World} {S : List Nat} {ops : Array Oper} {Q : Exit → Act → World → Prop} {l : List Oper} {E : Env} {M M' : List Ent} (hM : Less M' M) (h : JL P n w0 S ops Q l E M') : JL P n w0 S ops Q l E M := ⟨fun a w ha hw => h.go a w ha (hw.weak hM)⟩
def sealB : ByteArray := ⟨#[115, 101, 97, 108]⟩
def ekey (key : List B) : List B := expd (hmac [] key) (bytesOf sealB) (2 * 32)
theorem ekey_length (key : List B) : (ekey key).length = 64 := expd_length _ _ _
def k1 (key : List B) : List B := (ekey key).take 32
def k2 (key : List B) : List B := (ekey key).drop 32
theorem k1_length (key : List B) : (k1 key).length = 32 := by rw [k1, List.length_take, ekey_length]; rfl
theorem k2_length (key : List B) : (k2 key).length = 32 := by rw [k2, List.length_drop, ekey_length]
theorem k1_cells (key : List B) : (((ekey key).map U8).drop (0 + 0 * 32)).take ((k1 key).map U8).length = (k1 key).map U8 := by
  rw [List.length_map, k1_length, k1, List.map_take]; rfl
theorem k2_cells (key : List B) : (((ekey key).map U8).drop (0 + 1 * 32)).take ((k2 key).map U8).length = (k2 key).map U8 := by
  have h := ekey_length key
  rw [List.length_map, k2_length, k2, List.map_drop, show 0 + 1 * 32 = 32 from rfl, List.take_of_length_le (by simp [h])]
theorem goes_two : Goes Tryd.prog 17 := ⟨_, Tryd.func17, rfl, by kernel_rfl⟩
theorem goes_ssame : Goes Tryd.prog 16 := ⟨_, Tryd.func16, rfl, by kernel_rfl⟩
theorem goes_message : Goes Tryd.prog 14 := ⟨_, Tryd.func14, rfl, by kernel_rfl⟩
theorem goes_rmessage : Goes Tryd.prog 15 := ⟨_, Tryd.func15, rfl, by kernel_rfl⟩
def needO : Nat → List (Nat × Nat)
  | 1 => [(0, 11)]
  | 2 => [(1, 12)]
  | 4 => [(3, 14)]
  | 5 => [(4, 15)]
  | 6 => [(2, 13)]
  | 7 => [(5, 16)]
  | _ => []
def inpO : Nat → List Nat
  | 2 => [8]
  | 5 => [8]
  | 6 => [10]
  | 7 => [9]
  | _ => []
def eatO : Nat → List Nat
  | 6 => [10]
  | 7 => [9]
  | _ => []

theorem keysE_any (key : List B) (hk : key.length = 32) (b1 : Nat) (w : World) (hG : GOk w) (hr : Sl8.ok w ⟨some ⟨b1, 0, none⟩, 32, key⟩) :
    Calls Tryd.prog 24 [nilS.v, .slice (some ⟨b1, 0, none⟩) 32 32, .string sealB, N 2].toArray w fun e w' => ∃ b, e = .returned (.tuple #[.slice (some ⟨b, 0, none⟩) 2 2, N 0]) ∧ Holds w [] [⟨b, Row 23 ((ekey key).map U8), true⟩] w' := by
  have := keys_any nilS ⟨some ⟨b1, 0, none⟩, 32, key⟩ sealB 2 (by decide) w hG (nilS_ok _) hr (by simp [nilS]) (show key.length < 4611686018427387000 by omega) (by decide)
  rw [show Sl8.v ⟨some ⟨b1, 0, none⟩, 32, key⟩ = .slice (some ⟨b1, 0, none⟩) 32 32 by simp [Sl8.v, hk]] at this
  rw [ekey]
  exact this

set_option maxHeartbeats 2000000 in
theorem two_any (key : List B) (hk : key.length = 32) (w : World) (hG : GOk w) :
    Calls Tryd.prog 17 [.agg (key.map U8).toArray].toArray w fun e w' => e = .returned (.tuple #[.agg ((k1 key).map U8).toArray, .agg ((k2 key).map U8).toArray]) ∧ Ext w w' := by
  have hKeys := keysE_any key hk
  have h1 : ((k1 key).map U8).length = 32 := by rw [List.length_map, k1_length]
  have h2 : ((k2 key).map U8).length = 32 := by rw [List.length_map, k2_length]
  have c1 := k1_cells key
  have c2 := k2_cells key
  generalize ekey key = ek at hKeys c1 c2
  generalize k1 key = a1 at h1 c1 ⊢
  generalize k2 key = a2 at h2 c2 ⊢
  refine enter (n := 17) Tryd.func17 rfl rfl rfl (Holds.start w []) ?_
  repeat (first | refine JC.seq ?_ | refine JC.region ?_)
  refine JL.box (r := key.map U8) rfl rfl rfl fun b1 _ => ?_
  refine JL.alloc zc25 rfl fun b2 _ => ?_
  refine JL.alloc zc25 rfl fun b3 _ => ?_
  repeat (first | refine JL.q (by (apply OQ.slA; exact Tryd.underlying23; exact s5; exact rfl)) rfl ?_ | refine JC.seq ?_ | refine JC.region ?_ | refine JL.nil ?_ | refine JE.next ?_)
  refine JL.callg (ι := Nat) (vs := [nilS.v, .slice (some ⟨b1, 0, none⟩) 32 32, .string sealB, N 2]) (fun b => .tuple #[.slice (some ⟨b, 0, none⟩) 2 2, N 0]) (fun b => [⟨b, Row 23 (ek.map U8), true⟩]) goes_keys rfl rfl (fun i => by simp) (fun w' hw' => hKeys b1 w' (hG.chg hw'.chg (by simp)) (row_ok hw' (.there (.there .here)) rfl (Nat.le_of_eq hk))) fun bk => ?_
  try dsimp only
  repeat (first | refine JL.q (by first | (apply OQ.extract; exact rfl; exact rfl) | (apply OQ.move; exact rfl) | (apply OQ.assign; exact rfl)) rfl ?_ | refine JC.seq ?_ | refine JL.nil ?_ | refine JE.next ?_)
  let vs : Nat → X → Value := fun j _ => match j with
    | 0 => .slice (some ⟨bk, 0, none⟩) 2 2
    | 1 => Pt bk (0 + 0 * 32)
    | 2 => .agg (a1.map U8).toArray
    | 3 => .slice (some ⟨bk, 0, none⟩) 2 2
    | 4 => Pt bk (0 + 1 * 32)
    | _ => .agg (a2.map U8).toArray
  let Ms : Nat → X → List Ent := fun j _ => match j with
    | 6 => [⟨b2, Row 23 (a1.map U8), true⟩]
    | 7 => [⟨b3, Row 23 (a2.map U8), true⟩]
    | 8 => [⟨bk, Row 23 (ek.map U8), true⟩]
    | 9 => [⟨b3, Row 23 ((List.replicate 32 (0 : B)).map U8), true⟩]
    | 10 => [⟨b2, Row 23 ((List.replicate 32 (0 : B)).map U8), true⟩]
    | 11 => [⟨b1, Row 23 (key.map U8), true⟩]
    | _ => []
  refine JC.grow (g := ⟨[(2, Pt b2 0), (3, Pt b3 0), (4, .slice (some ⟨bk, 0, none⟩) 2 2)], 12, vs, Ms, needO, inpO, eatO, fun _ => none⟩) [] [6, 7] mixed (by repeat (first | exact SubE.nil | refine SubE.cons _ _ _ rfl ?_)) (Less.refl _) (by kernel_rfl) (by kernel_rfl) (by kernel_rfl) ?_ ?_
  · refine ⟨?_, ?_, ?_, ?_, ?_, ?_, ?_, ?_, trivial⟩
    iterate 6 (focus (intro x EF MF Q kk; (try refine JL.gon rfl rfl ?_); exact JL.q (by first | (apply OQ.idxS; exact Tryd.underlying45; exact s25; exact rfl; exact rfl; exact (by decide)) | (apply OQ.load_agg (cs := a1.map U8); exact a25; exact s25; exact rfl; exact .here; exact h1; exact (Row.cells c1)) | (apply OQ.load_agg (cs := a2.map U8); exact a25; exact s25; exact rfl; exact .here; exact h2; exact (Row.cells c2)) | (apply OQ.move; exact rfl)) rfl (JL.nil (kk default nofun))))
    · intro x EF MF Q kk
      exact JL.store_all s25 rfl rfl h1 (all8 _) .here (by simp) (JL.nil (kk (0, 0) nofun))
    · intro x EF MF Q kk
      exact JL.store_all s25 rfl rfl h2 (all8 _) .here (by simp) (JL.nil (kk (0, 0) nofun))
  · intro x _
    repeat (refine JE.next ?_)
    refine JC.ret ?_
    skip
    exact JE.ret2 rfl (RV.cell_agg a25 s25 rfl .here h1 Row.all) (RV.cell_agg a25 s25 rfl (.there .here) h2 Row.all) fun w' hw => ⟨rfl, hw.chg⟩

/-! ### seal.Same -/
def dif (a b : List B) : Nat → B
  | 0 => 0
  | i + 1 => dif a b i ||| (a.getD i 0 ^^^ b.getD i 0)
theorem or_zero {x y : B} : x ||| y = 0 ↔ x = 0 ∧ y = 0 := by
  constructor
  · intro h
    have g : ∀ i, (x ||| y).getLsbD i = false := fun i => by rw [h]; simp
    simp only [BitVec.getLsbD_or, Bool.or_eq_false_iff] at g
    exact ⟨BitVec.eq_of_getLsbD_eq fun i _ => by simpa using (g i).1, BitVec.eq_of_getLsbD_eq fun i _ => by simpa using (g i).2⟩
  · rintro ⟨rfl, rfl⟩; rfl
theorem xor_zero {x y : B} : x ^^^ y = 0 ↔ x = y := by
  constructor
  · intro h
    have := congrArg (· ^^^ y) h
    simpa [BitVec.xor_assoc] using this
  · rintro rfl; simp
theorem dif_zero (a b : List B) : ∀ i, dif a b i = 0 ↔ ∀ j < i, a.getD j 0 = b.getD j 0
  | 0 => by simp [dif]
  | i + 1 => by
    rw [dif, or_zero, dif_zero a b i, xor_zero]
    constructor
    · rintro ⟨h1, h2⟩ j hj
      by_cases e : j = i
      · rw [e]; exact h2
      · exact h1 j (by omega)
    · intro h
      exact ⟨fun j hj => h j (by omega), h i (by omega)⟩
theorem dif_all {a b : List B} (hl : a.length = b.length) : decide (dif a b a.length = 0) = decide (a = b) := by
  refine decide_eq_decide.2 ⟨fun h => ?_, fun h => ?_⟩
  · exact Str.ext_getD hl ((dif_zero a b _).1 h)
  · subst h; exact (dif_zero a a _).2 fun _ _ => rfl

set_option maxHeartbeats 8000000 in
theorem ssame_any (a b : Sl8) (w : World) (ha : a.ok w) (hb : b.ok w) (hal : a.l.length < 4611686018427387904) : Calls Tryd.prog 16 [a.v, b.v].toArray w fun e w' => e = .returned (.bool (decide (a.l = b.l))) ∧ Ext w w' := by
  refine enter (n := 31) Tryd.func16 rfl rfl rfl (Holds.start w []) ?_
  repeat (first | refine JL.q (by first | (apply OQ.move; exact rfl) | (apply OQ.assign; exact rfl) | (apply OQ.len; exact rfl; exact rfl) | (apply OQ.neN; exact rfl; exact rfl)) rfl ?_ | refine JC.seq ?_ | refine JC.region ?_ | refine JL.nil ?_ | refine JE.next ?_)
  refine JC.cond rfl (fun h => ?_) (fun h => ?_)
  · have h : ¬ a.l.length = b.l.length := by simpa using h
    repeat (first | refine JL.q (by (apply OQ.assign; exact rfl)) rfl ?_ | refine JC.seq ?_ | refine JC.region ?_ | refine JL.nil ?_ | refine JE.next ?_)
    refine JC.ret ?_
    repeat (refine JE.then_ret ?_)
    refine JE.ret1 rfl (RV.tmp rfl) fun w' hw => ⟨?_, hw.chg⟩
    rw [decide_eq_false (fun e => h (by rw [e]))]
  · have h : a.l.length = b.l.length := by simpa using h
    repeat (first | refine JL.q (by first | (apply OQ.move; exact rfl) | (apply OQ.assign; exact rfl) | (apply OQ.len; exact rfl; exact rfl)) rfl ?_ | refine JC.seq ?_ | refine JC.region ?_ | refine JC.block ?_ | refine JC.skip ?_ | refine JL.nil ?_ | refine JE.next ?_)
    refine JC.loop (fun i : Nat => [(1, b.v), (5, U8 (dif a.l b.l i)), (13, a.v), (14, N a.l.length), (15, N i)]) (fun _ => []) (fun i => a.l.length - i) (fun i => i ≤ a.l.length) 0 (by omega) (by repeat (first | exact SubE.nil | refine SubE.cons _ _ _ rfl ?_)) (Less.refl _) ?_
    intro i hi
    repeat (first | refine JL.q (by (apply OQ.lssN; exact rfl; exact rfl)) rfl ?_ | refine JC.seq ?_ | refine JC.region ?_ | refine JL.nil ?_ | refine JE.next ?_)
    refine JC.cond rfl (fun h2 => ?_) (fun h2 => ?_)
    · have hi' : i < a.l.length := of_decide_eq_true h2
      clear h2
      obtain ⟨ba, ja, hae, hca⟩ := ha.reads.at (by simp; omega)
      obtain ⟨bb, jb, hbe, hcb⟩ := hb.reads.at (by simp; omega)
      have hca := hca i _ (map_at U8 0 hi')
      have hcb := hcb i _ (map_at U8 0 (show i < b.l.length by omega))
      have hav : a.v = .slice (some ⟨ba, ja, none⟩) a.l.length a.cap := by rw [← hae]; rfl
      have hbv : b.v = .slice (some ⟨bb, jb, none⟩) b.l.length b.cap := by rw [← hbe]; rfl
      rw [hav, hbv]
      repeat (first | refine JL.q (by first | (apply OQ.idxS1; exact Tryd.underlying26; exact s5; exact rfl; exact rfl; exact hi') | (apply OQ.idxS1; exact Tryd.underlying26; exact s5; exact rfl; exact rfl; exact (show i < b.l.length by omega)) | (apply OQ.load_old; exact c5; exact rfl; exact (block_lt_of_cell hca); exact (by simp); exact hca) | (apply OQ.load_old; exact c5; exact rfl; exact (block_lt_of_cell hcb); exact (by simp); exact hcb) | (apply OQ.or8; exact rfl; exact rfl) | (apply OQ.move; exact rfl) | (apply OQ.assign; exact rfl) | (apply OQ.xor8; exact rfl; exact rfl) | (apply OQ.addN; exact rfl; exact rfl; exact (by (try simp only []); omega))) rfl ?_ | refine JC.seq ?_ | refine JC.region ?_ | refine JC.block ?_ | refine JC.skip ?_ | refine JL.nil ?_ | refine JE.next ?_ | refine JE.blk_normal ?_)
      rw [← hav, ← hbv]
      exact JE.again (i := i) (i + 1) (by omega) (by omega) (by repeat (first | exact SubE.nil | refine SubE.cons _ _ _ rfl ?_)) (Less.refl _)
    · have hi' : ¬ i < a.l.length := of_decide_eq_false h2
      obtain rfl : i = a.l.length := by omega
      repeat (first | refine JL.q (by first | (apply OQ.eq8 (b := 0#8); exact rfl; exact rfl) | (apply OQ.move; exact rfl) | (apply OQ.assign; exact rfl)) rfl ?_ | refine JC.seq ?_ | refine JC.region ?_ | refine JC.exit ?_ | refine JL.nil ?_ | refine JE.next ?_ | refine JE.then_exit ?_ | refine JE.blk_hit ?_)
      refine JC.ret ?_
      skip
      refine JE.ret1 rfl (RV.tmp rfl) fun w' hw => ⟨?_, hw.chg⟩
      rw [← dif_all h]
      rfl
theorem ssame_b {a b : Sl8} {va vb : Value} {c : Bool} (hva : a.v = va) (hvb : b.v = vb) {w : World} (ha : a.ok w) (hb : b.ok w) (hal : a.l.length < 4611686018427387904) (h : decide (a.l = b.l) = c) : Calls Tryd.prog 16 [va, vb].toArray w fun e w' => e = .returned (.bool c) ∧ Ext w w' := by
  have := ssame_any a b w ha hb hal
  rwa [hva, hvb, h] at this
theorem same_b {a b : Sl8} {va vb : Value} {c : Bool} (hva : a.v = va) (hvb : b.v = vb) {w : World} (ha : a.ok w) (hb : b.ok w) (hal : a.l.length < 4611686018427387904) (h : decide (a.l = b.l) = c) : Calls Tryd.prog 12 [va, vb].toArray w fun e w' => e = .returned (.bool c) ∧ Ext w w' := by
  have := same_any a b w ha hb hal
  rwa [hva, hvb, h] at this

/-! ### the message -/
def mp (nonce side : List B) (i : Nat) : List B := nonce ++ (be8 (BitVec.ofNat 64 side.length)).take i
theorem mp_length {nonce : List B} (hn : nonce.length = 12) (side : List B) (i : Nat) (h : i ≤ 8) : (mp nonce side i).length = 12 + i := by simp [mp, hn, be8_length]; omega
theorem mp_succ (nonce side : List B) (i : Nat) (h : i < 8) : (mp nonce side i).map U8 ++ [U8 (((BitVec.ofNat 64 side.length) >>> (8 * (7 - i))).setWidth 8)] = (mp nonce side (i + 1)).map U8 := by
  rw [mp, mp, be8_take _ i h]; simp
theorem mp_all (nonce side c : List B) : mp nonce side 8 ++ side ++ c = msg nonce side c := by
  rw [mp, List.take_of_length_le (by rw [be8_length]; omega), msg]

set_option maxHeartbeats 16000000 in
theorem message_any (nonce : List B) (s c : Sl8) (hn : nonce.length = 12) (w : World) (hs : s.ok w) (hc : c.ok w) (hsl : s.l.length < 35184372088832) (hcl : c.l.length < 35184372088832) :
    Calls Tryd.prog 14 [.agg (nonce.map U8).toArray, s.v, c.v].toArray w fun e w' => ∃ x : Nat × Nat, e = .returned (.slice (some ⟨x.1, 0, none⟩) (msg nonce s.l c.l).length x.2) ∧ Holds w [] [⟨x.1, Sl.Own 5 1 (msg nonce s.l c.l).length x.2 ((msg nonce s.l c.l).map U8), true⟩] w' := by
  have hml := msg_length nonce s.l c.l
  rw [hn] at hml
  refine enter (n := 29) Tryd.func14 rfl rfl rfl (Holds.start w []) ?_
  repeat (first | refine JC.seq ?_ | refine JC.region ?_)
  refine JL.box (r := nonce.map U8) rfl rfl rfl fun b3 _ => ?_
  repeat (first | refine JL.q (by first | (apply OQ.move; exact rfl) | (apply OQ.assign; exact rfl) | (apply OQ.len; exact rfl; exact rfl) | (apply OQ.addN; exact rfl; exact rfl; exact (by (try simp only []); omega))) rfl ?_ | refine JC.seq ?_ | refine JC.region ?_ | refine JL.nil ?_ | refine JE.next ?_)
  refine JL.make0 (c := 20 + s.l.length + c.l.length) Tryd.underlying26 e5 rfl rfl (by omega) rfl fun b7 _ => ?_
  repeat (first | refine JL.q (by first | (apply OQ.slA; exact Tryd.underlying25; exact s5; exact rfl) | (apply OQ.move; exact rfl) | (apply OQ.assign; exact rfl)) rfl ?_ | refine JC.seq ?_ | refine JC.region ?_ | refine JL.nil ?_ | refine JE.next ?_)
  refine JL.append (cs := nonce.map U8) (fun b' cap' => [⟨b', Sl.Own 5 1 (0 + 12) cap' ([] ++ nonce.map U8), true⟩, ⟨b3, Row 25 (nonce.map U8), true⟩]) Tryd.underlying26 e5 rfl rfl (by intro _ _; repeat (first | exact Repl.here | apply Repl.there)) (by simpa using hn) (fun w' hw' => (row_ok (cap := 12) hw' (.there .here) rfl (Nat.le_of_eq hn)).reads) (of_u8 _) rfl (by decide) (by decide) (by decide) rfl fun b7 cap7 => ?_
  rw [List.nil_append, Nat.zero_add]
  repeat (first | refine JL.q (by first | (apply OQ.len (k := s.l.length) (ad := s.ad) (cap := s.cap); exact Tryd.underlying26; exact rfl) | (apply OQ.convN_64; exact Tryd.underlying3; exact Tryd.underlying49; exact rfl) | (apply OQ.move; exact rfl) | (apply OQ.assign; exact rfl)) rfl ?_ | refine JC.seq ?_ | refine JC.region ?_ | refine JL.nil ?_ | refine JE.next ?_)
  refine JL.lessS (M' := accE 5 (some (b7, cap7)) (nonce.map U8) ++ []) (.keep _ _ _ _ _ _ (fun o ho => by rw [List.length_map, hn]; exact ho) (.nil _)) ?_
  refine JL.numApp (q := some (b7, cap7)) (xs := nonce) (m := BitVec.ofNat 64 s.l.length) (size := 8) (by decide) (by decide) nofun (by omega) (by rw [hn]; rfl) rfl rfl rfl fun r => ?_
  obtain ⟨b8', cap8⟩ := r
  have hm8 : nonce ++ Jrn.be64 (BitVec.ofNat 64 s.l.length) 8 = mp nonce s.l 8 := by
    unfold mp
    rw [List.take_of_length_le (by rw [be8_length]; omega)]
    rfl
  rw [hm8]
  have hml8 : (mp nonce s.l 8).length = 20 := mp_length hn s.l 8 (Nat.le_refl _)
  refine JL.lessS (M' := [⟨b8', Sl.Own 5 1 20 cap8 ((mp nonce s.l 8).map U8), true⟩]) (.keep _ _ _ _ _ _ (fun o ho => by rw [List.length_map, hml8] at ho; exact ho) (.nil _)) ?_
  rw [hml8]
  show JL _ _ _ _ _ _ _ ((_, .slice (some ⟨b8', 0, none⟩) 20 cap8) :: _) _
  repeat (first | refine JL.q (by first | (apply OQ.move; exact rfl) | (apply OQ.assign; exact rfl)) rfl ?_ | refine JC.seq ?_ | refine JC.region ?_ | refine JL.nil ?_ | refine JE.next ?_)
  refine JL.append (cs := s.l.map U8) (fun b' cap' => [⟨b', Sl.Own 5 1 (20 + s.l.length) cap' ((mp nonce s.l 8).map U8 ++ s.l.map U8), true⟩]) Tryd.underlying26 e5 rfl rfl (by intro _ _; repeat (first | exact Repl.here | apply Repl.there)) (by simp) (fun w' hw' => (hs.holds hw' rfl).reads) (of_u8 _) rfl (by decide) (by omega) (by omega) rfl fun b7 cap7 => ?_
  repeat (first | refine JL.q (by first | (apply OQ.move; exact rfl) | (apply OQ.assign; exact rfl)) rfl ?_ | refine JC.seq ?_ | refine JC.region ?_ | refine JL.nil ?_ | refine JE.next ?_)
  refine JL.append (cs := c.l.map U8) (fun b' cap' => [⟨b', Sl.Own 5 1 (20 + s.l.length + c.l.length) cap' ((mp nonce s.l 8).map U8 ++ s.l.map U8 ++ c.l.map U8), true⟩]) Tryd.underlying26 e5 rfl rfl (by intro _ _; repeat (first | exact Repl.here | apply Repl.there)) (by simp) (fun w' hw' => (hc.holds hw' rfl).reads) (of_u8 _) rfl (by decide) (by omega) (by omega) rfl fun b7 cap7 => ?_
  rw [← List.map_append, ← List.map_append, mp_all, show 20 + s.l.length + c.l.length = (msg nonce s.l c.l).length by omega]
  repeat (first | refine JL.q (by (apply OQ.assign; exact rfl)) rfl ?_ | refine JL.nil ?_ | refine JE.next ?_)
  refine JC.ret ?_
  skip
  exact JE.ret1 rfl (RV.tmp rfl) fun w' hw => ⟨(b7, cap7), rfl, hw⟩

set_option maxHeartbeats 16000000 in
theorem rmessage_any (nonce : List B) (s c : Sl8) (hn : nonce.length = 12) (w : World) (hs : s.ok w) (hc : c.ok w) (hsl : s.l.length < 35184372088832) (hcl : c.l.length < 35184372088832) :
    Calls Tryd.prog 15 [.agg (nonce.map U8).toArray, s.v, c.v].toArray w fun e w' => ∃ x : Nat × Nat, e = .returned (.slice (some ⟨x.1, 0, none⟩) (msg nonce s.l c.l).length x.2) ∧ Holds w [] [⟨x.1, Sl.Own 5 1 (msg nonce s.l c.l).length x.2 ((msg nonce s.l c.l).map U8), true⟩] w' := by
  have hml := msg_length nonce s.l c.l
  rw [hn] at hml
  refine enter (n := 32) Tryd.func15 rfl rfl rfl (Holds.start w []) ?_
  repeat (first | refine JC.seq ?_ | refine JC.region ?_)
  refine JL.box (r := nonce.map U8) rfl rfl rfl fun b3 _ => ?_
  repeat (first | refine JL.q (by (apply OQ.assign; exact rfl)) rfl ?_ | refine JC.seq ?_ | refine JC.region ?_ | refine JL.nil ?_ | refine JE.next ?_)
  refine JL.litZ Tryd.underlying26 e5 rfl fun b9 _ => ?_
  repeat (refine JL.q (by (apply OQ.slA; exact Tryd.underlying25; exact s5; exact rfl)) rfl ?_)
  refine JL.append (cs := nonce.map U8) (fun b' cap' => [⟨b', Sl.Own 5 1 (0 + 12) cap' ([] ++ nonce.map U8), true⟩, ⟨b3, Row 25 (nonce.map U8), true⟩]) Tryd.underlying26 e5 rfl rfl (by intro _ _; repeat (first | exact Repl.here | apply Repl.there)) (by simpa using hn) (fun w' hw' => (row_ok (cap := 12) hw' (.there .here) rfl (Nat.le_of_eq hn)).reads) (of_u8 _) rfl (by decide) (by decide) (by decide) rfl fun b7 cap7 => ?_
  rw [List.nil_append, Nat.zero_add]
  repeat (first | refine JL.q (by (apply OQ.assign; exact rfl)) rfl ?_ | refine JC.seq ?_ | refine JC.region ?_ | refine JC.block ?_ | refine JL.nil ?_ | refine JE.next ?_)
  refine JC.loop (ι := Nat × Nat × Nat) (fun i => [(1, s.v), (2, c.v), (7, .slice (some ⟨i.2.1, 0, none⟩) (12 + i.1) i.2.2), (8, .int .i64 (7 - (i.1 : Int)))])
    (fun i => [⟨i.2.1, Sl.Own 5 1 (12 + i.1) i.2.2 ((mp nonce s.l i.1).map U8), true⟩]) (fun i => 8 - i.1) (fun i => i.1 ≤ 8) (0, b7, cap7) (by dsimp only; omega) (by repeat (first | exact SubE.nil | refine SubE.cons _ _ _ rfl ?_)) (.keep _ _ _ _ _ _ (fun o ho => by simpa [mp] using ho) (Less.nil _)) ?_
  rintro ⟨i, b7, cap7⟩ hi
  dsimp only at hi ⊢
  repeat (first | refine JL.q (by first | (apply OQ.geqI; exact rfl; exact rfl) | (apply OQ.move; exact rfl)) rfl ?_ | refine JC.seq ?_ | refine JC.region ?_ | refine JL.nil ?_ | refine JE.next ?_)
  refine JC.cond rfl (fun h => ?_) (fun h => ?_)
  · have hi' : i < 8 := by
      have : (0 : Int) ≤ 7 - (i : Int) := of_decide_eq_true h
      omega
    clear h hi
    rw [show (7 - (i : Int)) = ((7 - i : Nat) : Int) by omega]
    repeat (first | refine JL.q (by first | (apply OQ.move; exact rfl) | (apply OQ.len; exact rfl; exact rfl) | (apply OQ.shr64; exact rfl; exact rfl) | (apply OQ.mulN; exact rfl; exact rfl; exact (by (try simp only []); omega)) | (apply OQ.conv64_8; exact rfl; exact rfl; exact rfl) | (apply OQ.convN_64; exact rfl; exact rfl; exact rfl)) rfl ?_ | refine JC.seq ?_ | refine JC.region ?_ | refine JC.block ?_ | refine JC.skip ?_ | refine JE.next ?_)
    refine JL.lit1 Tryd.underlying26 e5 rfl rfl rfl rfl fun b33 _ => ?_
    refine JL.append (cs := [U8 (((BitVec.ofNat 64 s.l.length) >>> (8 * (7 - i))).setWidth 8)]) (fun b' cap' => [⟨b33, Row 5 [U8 (((BitVec.ofNat 64 s.l.length) >>> (8 * (7 - i))).setWidth 8)], true⟩, ⟨b', Sl.Own 5 1 (12 + i + 1) cap' ((mp nonce s.l i).map U8 ++ [U8 (((BitVec.ofNat 64 s.l.length) >>> (8 * (7 - i))).setWidth 8)]), true⟩]) Tryd.underlying26 e5 rfl rfl (by intro _ _; repeat (first | exact Repl.here | apply Repl.there)) rfl (fun w' hw' => ?_) (by simp [Value.oneCell']) rfl (by decide) (by omega) (by omega) rfl fun b7' cap7' => ?_
    · obtain ⟨o, ho, hA⟩ := hw'.get .here
      exact Reads.block ho (Row.all _ hA)
    rw [mp_succ _ _ _ hi', Nat.add_assoc 12 i 1]
    repeat (first | refine JL.q (by first | (apply OQ.subI; exact rfl; exact rfl; exact (by omega); exact (by omega)) | (apply OQ.move; exact rfl) | (apply OQ.assign; exact rfl)) rfl ?_ | refine JC.region ?_ | refine JL.nil ?_ | refine JE.next ?_ | refine JE.blk_normal ?_)
    rw [show ((7 - i : Nat) : Int) - 1 = 7 - ((i + 1 : Nat) : Int) by omega]
    exact JE.again (ι := Nat × Nat × Nat) (i := (i, b7, cap7)) (i + 1, b7', cap7') (by dsimp only; omega) (by dsimp only; omega) (by repeat (first | exact SubE.nil | refine SubE.cons _ _ _ rfl ?_)) (.drop _ _ _ (Less.refl _))
  · have hi' : ¬ i < 8 := by
      have : ¬ (0 : Int) ≤ 7 - (i : Int) := of_decide_eq_false h
      omega
    obtain rfl : i = 8 := by omega
    clear h hi hi'
    repeat (first | refine JL.q (by (apply OQ.move; exact rfl)) rfl ?_ | refine JC.seq ?_ | refine JC.region ?_ | refine JC.exit ?_ | refine JE.next ?_ | refine JE.then_exit ?_ | refine JE.blk_hit ?_)
    refine JL.append (cs := s.l.map U8) (fun b' cap' => [⟨b', Sl.Own 5 1 (12 + 8 + s.l.length) cap' ((mp nonce s.l 8).map U8 ++ s.l.map U8), true⟩]) Tryd.underlying26 e5 rfl rfl (by intro _ _; repeat (first | exact Repl.here | apply Repl.there)) (by simp) (fun w' hw' => (hs.holds hw' rfl).reads) (of_u8 _) rfl (by decide) (by omega) (by omega) rfl fun b7 cap7 => ?_
    repeat (first | refine JL.q (by first | (apply OQ.move; exact rfl) | (apply OQ.assign; exact rfl)) rfl ?_ | refine JC.seq ?_ | refine JC.region ?_ | refine JL.nil ?_ | refine JE.next ?_)
    refine JL.append (cs := c.l.map U8) (fun b' cap' => [⟨b', Sl.Own 5 1 (12 + 8 + s.l.length + c.l.length) cap' ((mp nonce s.l 8).map U8 ++ s.l.map U8 ++ c.l.map U8), true⟩]) Tryd.underlying26 e5 rfl rfl (by intro _ _; repeat (first | exact Repl.here | apply Repl.there)) (by simp) (fun w' hw' => (hc.holds hw' rfl).reads) (of_u8 _) rfl (by decide) (by omega) (by omega) rfl fun b7 cap7 => ?_
    rw [← List.map_append, ← List.map_append, mp_all, show 12 + 8 + s.l.length + c.l.length = (msg nonce s.l c.l).length by omega]
    repeat (first | refine JL.q (by (apply OQ.assign; exact rfl)) rfl ?_ | refine JL.nil ?_ | refine JE.next ?_)
    refine JC.ret ?_
    skip
    exact JE.ret1 rfl (RV.tmp rfl) fun w' hw => ⟨(b7, cap7), rfl, hw⟩
end Go.Proofs.YtakgpocehoeakaaDoor

/-
  Of no statement by itself: what math/bits.RotateLeft32 (to the left), stream.Quarter and despatchlaw03.speaks give.
  Conditions: each theorem's own.
-/
namespace Go.Proofs.YtakgpocehoeakaaDoor
set_option maxRecDepth 10000
open Sl Sha Str

theorem mixQ : Tryd.prog.follows .mixedOrders = true := by kernel_rfl
theorem q1s : szT Tryd.prog 43 = some 1 := by kernel_rfl
theorem q1c : scal Tryd.prog 43 = true := by kernel_rfl
theorem q4s : szT Tryd.prog 68 = some 4 := by kernel_rfl
theorem q4a : aggT Tryd.prog 68 = true := by kernel_rfl
theorem q4z : zc Tryd.prog 68 = some ((List.replicate 4 (0 : W)).map U32) := by kernel_rfl
theorem goes_rotl : Goes Tryd.prog 47 := ⟨_, Tryd.func47, rfl, by kernel_rfl⟩
theorem goes_quarter : Goes Tryd.prog 37 := ⟨_, Tryd.func37, rfl, by kernel_rfl⟩
theorem all32q (l : List W) : (l.map U32).all Value.oneCell' = true := by simp [Value.oneCell']

theorem pos_and : ∀ k : Nat, k < 32 → (BitVec.ofNat 64 k &&& 31#64).toNat = k := by decide
theorem rotl_any (x : W) (k : Nat) (hk : k < 32) (w : World) : Calls Tryd.prog 47 [U32 x, N k].toArray w fun e w' => e = .returned (U32 (rotl x k)) ∧ Ext w w' := by
  have hna := pos_and k hk
  refine enter (n := 17) Tryd.func47 rfl rfl rfl (Holds.start w []) ?_
  refine JC.seq (JC.region ?_)
  repeat (refine JL.q (by (apply OQ.assign; exact rfl)) rfl ?_)
  refine JL.nil (JE.next (JC.seq (JC.region ?_)))
  refine JL.q (OQ.move rfl) rfl ?_
  refine JL.q (OQ.convN_64 rfl rfl rfl) rfl ?_
  refine JL.q (OQ.and64 (b := 31#64) rfl rfl) rfl ?_
  generalize (BitVec.ofNat 64 k &&& 31#64) = s at hna
  repeat (refine JL.q (by (apply OQ.assign; exact rfl)) rfl ?_)
  refine JL.nil (JE.next (JC.seq (JC.region ?_)))
  repeat (refine JL.q (by first | (apply OQ.move; exact rfl) | (apply OQ.shl32; exact rfl; exact rfl)) rfl ?_)
  refine JL.q (OQ.sub64 (a := 32#64) rfl rfl (by rw [hna]; simp only [BitVec.toNat_ofNat]; omega)) rfl ?_
  repeat (refine JL.q (by first | (apply OQ.assign; exact rfl) | (apply OQ.or32; exact rfl; exact rfl) | (apply OQ.shr32; exact rfl; exact rfl)) rfl ?_)
  refine JL.nil (JE.next (JC.ret (JE.ret1 rfl (RV.tmp rfl) ?_)))
  refine fun w' hw => ⟨?_, hw.chg⟩
  have h2 : (32#64 - s).toNat = 32 - k := by rw [BitVec.toNat_sub_of_le (by simp only [BitVec.le_def, hna, BitVec.toNat_ofNat]; omega), hna]; rfl
  rw [h2, hna, rotl]

set_option maxHeartbeats 8000000 in
theorem quarter_any (a b c d : W) (w : World) : Calls Tryd.prog 37 [.agg ([a, b, c, d].map U32).toArray].toArray w fun e w' => e = .returned (.agg ((qr a b c d).map U32).toArray) ∧ Ext w w' := by
  refine enter (n := 48) Tryd.func37 rfl rfl rfl (Holds.start w []) ?_
  repeat (first | refine JC.seq ?_ | refine JC.region ?_)
  refine JL.box (r := [a, b, c, d].map U32) rfl rfl rfl fun b1 _ => ?_
  refine JL.alloc q4z rfl fun b2 _ => ?_
  repeat (first | refine JC.seq ?_ | refine JL.nil ?_ | refine JE.next ?_)
  refine JC.quiet mixQ (by kernel_rfl) ?_
  repeat (first | refine JL.q (by first | (apply OQ.idxA0; exact Tryd.underlying68; exact q1s; exact rfl; exact rfl; exact (by (try simp only []); omega)) | (apply OQ.load; exact q1c; exact rfl; exact (.there .here); exact (Row.cell rfl)) | (apply OQ.callx; exact goes_rotl; exact rfl; exact (fun w' _ => rotl_any _ _ (by decide) w')) | (apply OQ.move; exact rfl) | (apply OQ.assign; exact rfl) | (apply OQ.add32; exact rfl; exact rfl) | (apply OQ.xor32; exact rfl; exact rfl)) rfl ?_ | refine JQ.q (by first | (apply OQ.idxA0; exact Tryd.underlying68; exact q1s; exact rfl; exact rfl; exact (by (try simp only []); omega)) | (apply OQ.load; exact q1c; exact rfl; exact (.there .here); exact (Row.cell rfl)) | (apply OQ.callx; exact goes_rotl; exact rfl; exact (fun w' _ => rotl_any _ _ (by decide) w')) | (apply OQ.move; exact rfl) | (apply OQ.assign; exact rfl) | (apply OQ.add32; exact rfl; exact rfl) | (apply OQ.xor32; exact rfl; exact rfl)) rfl ?_ | refine JC.seq ?_ | refine JC.region ?_ | refine JL.nil ?_ | refine JQ.nil ?_ | refine JE.next ?_)
  refine JL.q (OQ.pure (v := .agg ((qr a b c d).map U32).toArray) rfl rfl (by kernel_rfl)) rfl ?_
  refine JL.store_all q4s rfl rfl rfl (all32q _) .here rfl ?_
  repeat (first | refine JL.nil ?_ | refine JE.next ?_)
  refine JC.ret (JE.ret1 rfl (RV.cell_agg q4a q4s rfl .here rfl Row.all) ?_)
  exact fun w' hw => ⟨rfl, hw.chg⟩

end Go.Proofs.YtakgpocehoeakaaDoor

/-
  Of no statement by itself: what the reference's left, Quarter and word, and stream.word and stream.beginning give.
  Conditions: each theorem's own.
-/
namespace Go.Proofs.YtakgpocehoeakaaDoor
set_option maxRecDepth 10000
open Sl Sha Str

theorem goes_left : Goes Tryd.prog 50 := ⟨_, Tryd.func50, rfl, by kernel_rfl⟩
theorem goes_rquarter : Goes Tryd.prog 46 := ⟨_, Tryd.func46, rfl, by kernel_rfl⟩
theorem goes_sword : Goes Tryd.prog 36 := ⟨_, Tryd.func36, rfl, by kernel_rfl⟩
theorem goes_rword : Goes Tryd.prog 44 := ⟨_, Tryd.func44, rfl, by kernel_rfl⟩
theorem goes_beginning : Goes Tryd.prog 25 := ⟨_, Tryd.func25, rfl, by kernel_rfl⟩
theorem b4s : szT Tryd.prog 64 = some 4 := by kernel_rfl
theorem b4a : aggT Tryd.prog 64 = true := by kernel_rfl
theorem w16s : szT Tryd.prog 52 = some 16 := by kernel_rfl
theorem w16a : aggT Tryd.prog 52 = true := by kernel_rfl
theorem w16z : zc Tryd.prog 52 = some ((List.replicate 16 (0 : W)).map U32) := by kernel_rfl
theorem nos : szT Tryd.prog 25 = some 12 := by kernel_rfl
theorem noa : aggT Tryd.prog 25 = true := by kernel_rfl

set_option maxHeartbeats 8000000 in
theorem left_any (x : W) (k : Nat) (hk : k < 32) (w : World) : Calls Tryd.prog 50 [U32 x, N k].toArray w fun e w' => e = .returned (U32 (rotl x k)) ∧ Ext w w' := by
  refine enter (n := 13) Tryd.func50 rfl rfl rfl (Holds.start w []) ?_
  repeat (first | refine JL.q (by (apply OQ.assign; exact rfl)) rfl ?_ | refine JC.seq ?_ | refine JC.region ?_ | refine JL.nil ?_ | refine JE.next ?_)
  refine JC.quiet mixQ (by kernel_rfl) ?_
  repeat (first | refine JQ.q (by first | (apply OQ.move; exact rfl) | (apply OQ.assign; exact rfl) | (apply OQ.or32; exact rfl; exact rfl) | (apply OQ.shr32; exact rfl; exact rfl) | (apply OQ.shl32; exact rfl; exact rfl) | (apply OQ.subN; exact rfl; exact rfl; exact (by (try simp only []); omega); exact (by (try simp only []); omega))) rfl ?_ | refine JQ.nil ?_ | refine JE.next ?_)
  refine JC.ret (JE.ret1 rfl (RV.tmp rfl) ?_)
  exact fun w' hw => ⟨rfl, hw.chg⟩
set_option maxHeartbeats 8000000 in
theorem rquarter_any (a b c d : W) (w : World) : Calls Tryd.prog 46 [.agg ([a, b, c, d].map U32).toArray].toArray w fun e w' => e = .returned (.agg ((qr a b c d).map U32).toArray) ∧ Ext w w' := by
  refine enter (n := 48) Tryd.func46 rfl rfl rfl (Holds.start w []) ?_
  repeat (first | refine JC.seq ?_ | refine JC.region ?_)
  refine JL.box (r := [a, b, c, d].map U32) rfl rfl rfl fun b1 _ => ?_
  refine JL.alloc q4z rfl fun b2 _ => ?_
  repeat (first | refine JC.seq ?_ | refine JL.nil ?_ | refine JE.next ?_)
  refine JC.quiet mixQ (by kernel_rfl) ?_
  repeat (first | refine JL.q (by first | (apply OQ.idxA0; exact Tryd.underlying68; exact q1s; exact rfl; exact rfl; exact (by (try simp only []); omega)) | (apply OQ.load; exact q1c; exact rfl; exact (.there .here); exact (Row.cell rfl)) | (apply OQ.callx; exact goes_left; exact rfl; exact (fun w' _ => left_any _ _ (by decide) w')) | (apply OQ.move; exact rfl) | (apply OQ.assign; exact rfl) | (apply OQ.add32; exact rfl; exact rfl) | (apply OQ.xor32; exact rfl; exact rfl)) rfl ?_ | refine JQ.q (by first | (apply OQ.idxA0; exact Tryd.underlying68; exact q1s; exact rfl; exact rfl; exact (by (try simp only []); omega)) | (apply OQ.load; exact q1c; exact rfl; exact (.there .here); exact (Row.cell rfl)) | (apply OQ.callx; exact goes_left; exact rfl; exact (fun w' _ => left_any _ _ (by decide) w')) | (apply OQ.move; exact rfl) | (apply OQ.assign; exact rfl) | (apply OQ.add32; exact rfl; exact rfl) | (apply OQ.xor32; exact rfl; exact rfl)) rfl ?_ | refine JC.seq ?_ | refine JC.region ?_ | refine JL.nil ?_ | refine JQ.nil ?_ | refine JE.next ?_)
  refine JL.q (OQ.pure (v := .agg ((qr a b c d).map U32).toArray) rfl rfl (by kernel_rfl)) rfl ?_
  refine JL.store_all q4s rfl rfl rfl (all32q _) .here rfl ?_
  repeat (first | refine JL.nil ?_ | refine JE.next ?_)
  refine JC.ret (JE.ret1 rfl (RV.cell_agg q4a q4s rfl .here rfl Row.all) ?_)
  exact fun w' hw => ⟨rfl, hw.chg⟩

def w4 (l : List B) (i : Nat) : List B := [l.getD (4 * i) 0, l.getD (4 * i + 1) 0, l.getD (4 * i + 2) 0, l.getD (4 * i + 3) 0]
theorem w4_eq (l : List B) (i : Nat) (h : 4 * i + 4 ≤ l.length) : (l.drop (4 * i)).take 4 = w4 l i := by
  apply List.ext_getElem
  · simp [w4]; omega
  · intro j h1 h2
    have h2 : j < 4 := h2
    rcases j with _ | _ | _ | _ | j <;> first | omega | simp [w4, List.getD, show 4 * i < l.length by omega, show 4 * i + 1 < l.length by omega, show 4 * i + 2 < l.length by omega, show 4 * i + 3 < l.length by omega]
theorem w4_cells (l : List B) (i : Nat) (h : 4 * i + 4 ≤ l.length) : ((l.map U8).drop (0 + 4 * i)).take ((w4 l i).map U8).length = (w4 l i).map U8 := by
  rw [Nat.zero_add, show ((w4 l i).map U8).length = 4 from rfl, ← List.map_drop, ← List.map_take, w4_eq l i h]
set_option maxHeartbeats 8000000 in
theorem sword_any (l : List B) (i : Nat) (w : World) : Calls Tryd.prog 36 [.agg ((w4 l i).map U8).toArray].toArray w fun e w' => e = .returned (U32 (wd l i)) ∧ Ext w w' := by
  refine enter (n := 21) Tryd.func36 rfl rfl rfl (Holds.start w []) ?_
  repeat (first | refine JC.seq ?_ | refine JC.region ?_)
  refine JL.box (r := (w4 l i).map U8) rfl rfl rfl fun b1 _ => ?_
  repeat (first | refine JL.q (by first | (apply OQ.idxA0; exact Tryd.underlying64; exact s5; exact rfl; exact rfl; exact (by (try simp only []); omega)) | (apply OQ.load; exact c5; exact rfl; exact .here; exact (Row.cell rfl)) | (apply OQ.assign; exact rfl) | (apply OQ.or32; exact rfl; exact rfl) | (apply OQ.shl32; exact rfl; exact rfl) | (apply OQ.conv8_32; exact rfl; exact rfl; exact rfl)) rfl ?_ | refine JC.seq ?_ | refine JC.region ?_ | refine JL.nil ?_ | refine JE.next ?_)
  refine JC.ret (JE.ret1 rfl (RV.tmp rfl) ?_)
  exact fun w' hw => ⟨rfl, hw.chg⟩
set_option maxHeartbeats 8000000 in
theorem rword_any (l : List B) (i b j cap : Nat) (w : World) (h : ∀ k, k < 4 → w.cell? ⟨b, j + k, none⟩ = some (U8 (l.getD (4 * i + k) 0))) : Calls Tryd.prog 44 [.slice (some ⟨b, j, none⟩) 4 cap].toArray w fun e w' => e = .returned (U32 (wd l i)) ∧ Ext w w' := by
  refine enter (n := 25) Tryd.func44 rfl rfl rfl (Holds.start w []) ?_
  have h0 := h 0 (by decide)
  have h1 := h 1 (by decide)
  have h2 := h 2 (by decide)
  have h3 := h 3 (by decide)
  have hb := block_lt_of_cell h0
  repeat (first | refine JL.q (by (apply OQ.assign; exact rfl)) rfl ?_ | refine JC.seq ?_ | refine JC.region ?_ | refine JL.nil ?_ | refine JE.next ?_)
  refine JC.quiet mixQ (by kernel_rfl) ?_
  repeat (first | refine JQ.q (by first | (apply OQ.idxS1; exact Tryd.underlying26; exact s5; exact rfl; exact rfl; exact (by decide)) | (apply OQ.load_old; exact c5; exact rfl; exact hb; exact (by simp); exact h0) | (apply OQ.load_old; exact c5; exact rfl; exact hb; exact (by simp); exact h1) | (apply OQ.load_old; exact c5; exact rfl; exact hb; exact (by simp); exact h2) | (apply OQ.load_old; exact c5; exact rfl; exact hb; exact (by simp); exact h3) | (apply OQ.mul32 (b := 256#32); exact rfl; exact rfl) | (apply OQ.mul32 (b := 65536#32); exact rfl; exact rfl) | (apply OQ.mul32 (b := 16777216#32); exact rfl; exact rfl) | (apply OQ.move; exact rfl) | (apply OQ.assign; exact rfl) | (apply OQ.add32; exact rfl; exact rfl) | (apply OQ.conv8_32; exact rfl; exact rfl; exact rfl)) rfl ?_ | refine JQ.nil ?_ | refine JE.next ?_)
  refine JC.ret (JE.ret1 rfl (RV.tmp rfl) ?_)
  exact fun w' hw => ⟨by rw [wd, wd_add]; rfl, hw.chg⟩

/-! ### the words that a block begins with -/
def bgA (key : List B) (i : Nat) : List W := (c4 ++ wds key i) ++ List.replicate (12 - i) 0
def bgB (key : List B) (ctr : W) (nonce : List B) (i : Nat) : List W := (c4 ++ wds key 8 ++ [ctr] ++ wds nonce i) ++ List.replicate (3 - i) 0
theorem set_end {l : List W} {k i : Nat} (hl : l.length = i) (h0 : 0 < k) (x : W) : (l ++ List.replicate k 0).set i x = (l ++ [x]) ++ List.replicate (k - 1) 0 := by
  subst hl
  obtain ⟨k, rfl⟩ : ∃ j, k = j + 1 := ⟨k - 1, by omega⟩
  rw [List.set_append_right _ _ (Nat.le_refl _), Nat.sub_self, List.replicate_succ, List.set_cons_zero]
  simp
theorem bgA_length (key : List B) (i : Nat) (h : i ≤ 8) : (bgA key i).length = 16 := by simp [bgA, c4, wds_length]; omega
theorem bgB_length (key : List B) (ctr : W) (nonce : List B) (i : Nat) (h : i ≤ 3) : (bgB key ctr nonce i).length = 16 := by simp [bgB, c4, wds_length]; omega
theorem bgA_set (key : List B) (i : Nat) (h : i < 8) : ((bgA key i).map U32).set (4 + i) (U32 (wd key i)) = (bgA key (i + 1)).map U32 := by
  rw [← List.map_set, bgA, set_end (by simp [c4, wds_length]; omega) (by omega), bgA, show wds key (i + 1) = wds key i ++ [wd key i] from rfl, show 12 - i - 1 = 12 - (i + 1) by omega]
  simp
theorem bgA_ctr (key : List B) (ctr : W) (nonce : List B) : ((bgA key 8).map U32).set 12 (U32 ctr) = (bgB key ctr nonce 0).map U32 := by
  rw [← List.map_set, bgA, set_end (by simp [c4, wds_length]) (by decide), bgB, wds]
  simp
theorem bgB_set (key : List B) (ctr : W) (nonce : List B) (i : Nat) (h : i < 3) : ((bgB key ctr nonce i).map U32).set (13 + i) (U32 (wd nonce i)) = (bgB key ctr nonce (i + 1)).map U32 := by
  rw [← List.map_set, bgB, set_end (by simp [c4, wds_length]; omega) (by omega), bgB, show wds nonce (i + 1) = wds nonce i ++ [wd nonce i] from rfl, show 3 - i - 1 = 3 - (i + 1) by omega]
  simp
theorem bgB_all (key : List B) (ctr : W) (nonce : List B) : bgB key ctr nonce 3 = sbegin key ctr nonce := by simp [bgB, sbegin]

set_option maxHeartbeats 8000000 in
theorem beginning_any (key : List B) (ctr : W) (nonce : List B) (hk : key.length = 32) (hn : nonce.length = 12) (w : World) :
    Calls Tryd.prog 25 [.agg (key.map U8).toArray, U32 ctr, .agg (nonce.map U8).toArray].toArray w fun e w' => e = .returned (.agg ((sbegin key ctr nonce).map U32).toArray) ∧ Ext w w' := by
  refine enter (n := 40) Tryd.func25 rfl rfl rfl (Holds.start w []) ?_
  repeat (first | refine JC.seq ?_ | refine JC.region ?_)
  refine JL.box (r := key.map U8) rfl rfl rfl fun b3 _ => ?_
  refine JL.box (r := nonce.map U8) rfl rfl rfl fun b5 _ => ?_
  refine JL.alloc w16z rfl fun b6 _ => ?_
  repeat (first | refine JC.seq ?_ | refine JC.region ?_ | refine JL.nil ?_ | refine JE.next ?_)
  refine JL.q (OQ.pure (v := .agg ((bgA key 0).map U32).toArray) rfl rfl (by kernel_rfl)) rfl ?_
  refine JL.alloc w16z rfl fun b7 _ => ?_
  refine JL.store_all w16s rfl rfl rfl (all32q _) .here (by simp) ?_
  repeat (first | refine JL.q (by (apply OQ.move; exact rfl)) rfl ?_ | refine JC.seq ?_ | refine JC.region ?_ | refine JC.block ?_ | refine JL.nil ?_ | refine JE.next ?_)
  refine JC.loop (fun i : Nat => [(1, U32 ctr), (3, Pt b3 0), (5, Pt b5 0), (6, Pt b6 0), (7, Pt b7 0), (11, N i)])
    (fun i => [⟨b7, Row 52 ((bgA key i).map U32), true⟩, ⟨b6, Row 52 ((List.replicate 16 (0 : W)).map U32), true⟩, ⟨b5, Row 25 (nonce.map U8), true⟩, ⟨b3, Row 23 (key.map U8), true⟩])
    (fun i => 8 - i) (fun i => i ≤ 8) 0 (by omega) (by repeat (first | exact SubE.nil | refine SubE.cons _ _ _ rfl ?_)) (Less.refl _) ?_
  intro i hi
  repeat (first | refine JL.q (by (apply OQ.lssN; exact rfl; exact rfl)) rfl ?_ | refine JC.seq ?_ | refine JC.region ?_ | refine JL.nil ?_ | refine JE.next ?_)
  refine JC.cond rfl (fun h => ?_) (fun h => ?_)
  · have hi' : i < 8 := of_decide_eq_true h
    clear h hi
    repeat (first | refine JL.q (by first | (apply OQ.slA_lo; exact Tryd.underlying23; exact s5; exact rfl; exact rfl; exact (show 4 * i < 32 by omega)) | (apply OQ.arr (k := 4); exact Tryd.underlying64; exact rfl; exact (show 4 ≤ 32 - 4 * i by omega)) | (apply OQ.load_agg (cs := (w4 key i).map U8); exact b4a; exact b4s; exact rfl; exact (.there (.there (.there .here))); exact rfl; exact (Row.cells (w4_cells key i (by omega)))) | (apply OQ.callx; exact goes_sword; exact rfl; exact (fun w' _ => sword_any key i w')) | (apply OQ.idxA0; exact Tryd.underlying52; exact q1s; exact rfl; exact rfl; exact (by (try simp only []); omega)) | (apply OQ.move; exact rfl) | (apply OQ.assign; exact rfl) | (apply OQ.addN; exact rfl; exact rfl; exact (by (try simp only []); omega)) | (apply OQ.mulN; exact rfl; exact rfl; exact (by (try simp only []); omega))) rfl ?_ | refine JC.seq ?_ | refine JC.region ?_ | refine JC.block ?_ | refine JC.skip ?_ | refine JL.nil ?_ | refine JE.next ?_)
    refine JL.store_eq q1s rfl rfl rfl rfl .here (by rw [List.length_map, bgA_length _ _ (by omega)]; (try simp only []); omega) (bgA_set key i hi') ?_
    repeat (first | refine JL.q (by first | (apply OQ.move; exact rfl) | (apply OQ.addN; exact rfl; exact rfl; exact (by (try simp only []); omega))) rfl ?_ | refine JC.region ?_ | refine JL.nil ?_ | refine JE.next ?_ | refine JE.blk_normal ?_)
    exact JE.again (i := i) (i + 1) (by omega) (by omega) (by repeat (first | exact SubE.nil | refine SubE.cons _ _ _ rfl ?_)) (Less.refl _)
  · have hi' : ¬ i < 8 := of_decide_eq_false h
    obtain rfl : i = 8 := by omega
    clear h hi hi'
    repeat (first | refine JL.q (by first | (apply OQ.idxA0; exact Tryd.underlying52; exact q1s; exact rfl; exact rfl; exact (by decide)) | (apply OQ.move; exact rfl)) rfl ?_ | refine JC.seq ?_ | refine JC.region ?_ | refine JC.exit ?_ | refine JE.next ?_ | refine JE.then_exit ?_ | refine JE.blk_hit ?_)
    refine JL.store_eq q1s rfl rfl rfl rfl .here (by rw [List.length_map, bgA_length _ _ (by omega)]; decide) (bgA_ctr key ctr nonce) ?_
    repeat (first | refine JL.q (by (apply OQ.move; exact rfl)) rfl ?_ | refine JC.seq ?_ | refine JC.region ?_ | refine JC.block ?_ | refine JL.nil ?_ | refine JE.next ?_)
    refine JC.loop (fun i : Nat => [(3, Pt b3 0), (5, Pt b5 0), (6, Pt b6 0), (7, Pt b7 0), (26, N i)])
      (fun i => [⟨b7, Row 52 ((bgB key ctr nonce i).map U32), true⟩, ⟨b6, Row 52 ((List.replicate 16 (0 : W)).map U32), true⟩, ⟨b5, Row 25 (nonce.map U8), true⟩, ⟨b3, Row 23 (key.map U8), true⟩])
      (fun i => 3 - i) (fun i => i ≤ 3) 0 (by omega) (by repeat (first | exact SubE.nil | refine SubE.cons _ _ _ rfl ?_)) (Less.refl _) ?_
    intro i hi
    repeat (first | refine JL.q (by (apply OQ.lssN; exact rfl; exact rfl)) rfl ?_ | refine JC.seq ?_ | refine JC.region ?_ | refine JL.nil ?_ | refine JE.next ?_)
    refine JC.cond rfl (fun h => ?_) (fun h => ?_)
    · have hi' : i < 3 := of_decide_eq_true h
      clear h hi
      repeat (first | refine JL.q (by first | (apply OQ.slA_lo; exact Tryd.underlying25; exact s5; exact rfl; exact rfl; exact (show 4 * i < 12 by omega)) | (apply OQ.arr (k := 4); exact Tryd.underlying64; exact rfl; exact (show 4 ≤ 12 - 4 * i by omega)) | (apply OQ.load_agg (cs := (w4 nonce i).map U8); exact b4a; exact b4s; exact rfl; exact (.there (.there .here)); exact rfl; exact (Row.cells (w4_cells nonce i (by omega)))) | (apply OQ.callx; exact goes_sword; exact rfl; exact (fun w' _ => sword_any nonce i w')) | (apply OQ.idxA0; exact Tryd.underlying52; exact q1s; exact rfl; exact rfl; exact (by (try simp only []); omega)) | (apply OQ.move; exact rfl) | (apply OQ.assign; exact rfl) | (apply OQ.addN; exact rfl; exact rfl; exact (by (try simp only []); omega)) | (apply OQ.mulN; exact rfl; exact rfl; exact (by (try simp only []); omega))) rfl ?_ | refine JC.seq ?_ | refine JC.region ?_ | refine JC.block ?_ | refine JC.skip ?_ | refine JL.nil ?_ | refine JE.next ?_)
      refine JL.store_eq q1s rfl rfl rfl rfl .here (by rw [List.length_map, bgB_length _ _ _ _ (by omega)]; (try simp only []); omega) (bgB_set key ctr nonce i hi') ?_
      repeat (first | refine JL.q (by first | (apply OQ.move; exact rfl) | (apply OQ.addN; exact rfl; exact rfl; exact (by (try simp only []); omega))) rfl ?_ | refine JC.region ?_ | refine JL.nil ?_ | refine JE.next ?_ | refine JE.blk_normal ?_)
      exact JE.again (i := i) (i + 1) (by omega) (by omega) (by repeat (first | exact SubE.nil | refine SubE.cons _ _ _ rfl ?_)) (Less.refl _)
    · have hi' : ¬ i < 3 := of_decide_eq_false h
      obtain rfl : i = 3 := by omega
      clear h hi hi'
      have hl : ((bgB key ctr nonce 3).map U32).length = 16 := by rw [List.length_map, bgB_length _ _ _ _ (by omega)]
      repeat (first | refine JL.q (by (apply OQ.load_agg (cs := (bgB key ctr nonce 3).map U32); exact w16a; exact w16s; exact rfl; exact .here; exact hl; exact Row.all)) rfl ?_ | refine JC.seq ?_ | refine JC.region ?_ | refine JC.exit ?_ | refine JE.next ?_ | refine JE.then_exit ?_ | refine JE.blk_hit ?_)
      refine JL.store_all w16s rfl rfl hl (all32q _) (.there .here) (by simp) ?_
      repeat (first | refine JL.nil ?_ | refine JE.next ?_)
      refine JC.ret (JE.ret1 rfl (RV.cell_agg w16a w16s rfl (.there .here) hl Row.all) ?_)
      exact fun w' hw => ⟨by rw [bgB_all], hw.chg⟩
end Go.Proofs.YtakgpocehoeakaaDoor

/-
  Of no statement by itself: what stream.mixed and stream.Block give.
  Conditions: each theorem's own; the listed table of quarters.
-/
namespace Go.Proofs.YtakgpocehoeakaaDoor
set_option maxRecDepth 10000
open Sl Sha Str

/-- the variable stream.quarters holds the quarters' words -/
def GQ (w : World) : Prop := ∃ e fr, w.heap[0]? = some (.cells (ordF.map N).toArray e fr)
theorem GQ.lt {w : World} (h : GQ w) : 0 < w.heap.size := by
  obtain ⟨e, fr, h⟩ := h
  exact (Array.getElem?_eq_some_iff.1 h).1
theorem GQ.cells {w : World} (h : GQ w) : ∀ i u, (ordF.map N)[i]? = some u → w.cell? ⟨0, 0 + i, none⟩ = some u := by
  obtain ⟨e, fr, h⟩ := h
  intro i u hu
  simpa [World.cell?, h] using hu
theorem GQ.chg {S : List Nat} {w w' : World} (h : GQ w) (hc : Chg S w w') (h0 : 0 ∉ S) : GQ w' := by
  have hl := h.lt
  obtain ⟨e, fr, h⟩ := h
  exact ⟨e, fr, (hc.block _ hl h0).trans h⟩
theorem goes_mixed : Goes Tryd.prog 26 := ⟨_, Tryd.func26, rfl, by kernel_rfl⟩
theorem i1s : szT Tryd.prog 3 = some 1 := by kernel_rfl
theorem i1c : scal Tryd.prog 3 = true := by kernel_rfl
theorem i4s : szT Tryd.prog 66 = some 4 := by kernel_rfl
theorem i4a : aggT Tryd.prog 66 = true := by kernel_rfl
theorem i4z : zc Tryd.prog 66 = some ((List.replicate 4 0).map N) := by kernel_rfl
theorem i8s : szT Tryd.prog 67 = some 32 := by kernel_rfl
theorem i8a : aggT Tryd.prog 67 = true := by kernel_rfl
theorem u64z : zc Tryd.prog 54 = some ((List.replicate 64 (0 : B)).map U8) := by kernel_rfl
theorem allN (l : List Nat) : (l.map N).all Value.oneCell' = true := by simp [Value.oneCell']

def o4 (q : Nat) : List Nat := [oi q 0, oi q 1, oi q 2, oi q 3]
theorem o4_nat : ∀ q < 8, (ordF.drop (q * 4)).take 4 = o4 q := by decide
theorem o4_eq (q : Nat) (h : q < 8) : ((ordF.map N).drop (q * 4)).take 4 = (o4 q).map N := by rw [← List.map_drop, ← List.map_take, o4_nat q h]
theorem o4_get (q k : Nat) (hk : k < 4) : ((o4 q).map N)[k]? = some (N (oi q k)) := by
  have : k = 0 ∨ k = 1 ∨ k = 2 ∨ k = 3 := by omega
  rcases this with rfl | rfl | rfl | rfl <;> rfl
theorem w_get {s : List W} {j : Nat} (h : j < s.length) : (s.map U32)[j]? = some (U32 (s.getD j 0)) := map_at U32 0 h
def blA (s : List W) (i : Nat) : List B := bl s i ++ List.replicate (64 - 4 * i) 0
theorem set4 {l : List B} {k m : Nat} (hl : l.length = m) (h : 4 ≤ k) (a b c d : B) : ((((((l ++ List.replicate k 0).map U8).set m (U8 a)).set (m + 1) (U8 b)).set (m + 2) (U8 c)).set (m + 3) (U8 d)) = (l ++ [a, b, c, d] ++ List.replicate (k - 4) 0).map U8 := by
  subst hl
  obtain ⟨k, rfl⟩ : ∃ j, k = j + 4 := ⟨k - 4, by omega⟩
  simp only [← List.map_set, Nat.add_sub_cancel, List.replicate_succ]
  congr 1
  rw [List.set_append_right _ _ (Nat.le_refl _), List.set_append_right _ _ (by omega), List.set_append_right _ _ (by omega), List.set_append_right _ _ (by omega)]
  simp [List.append_assoc, List.set_cons_succ, List.set_cons_zero]
theorem blA_length (s : List W) (i : Nat) (h : i ≤ 16) : ((blA s i).map U8).length = 64 := by simp [blA, bl_length]; omega
theorem blA_set (s : List W) (i : Nat) (h : i < 16) (x : W) (hx : x = (st s 80).getD i 0 + s.getD i 0) : (((((blA s i).map U8).set (4 * i) (U8 (x.setWidth 8))).set (4 * i + 1) (U8 ((x >>> 8).setWidth 8))).set (4 * i + 2) (U8 ((x >>> 16).setWidth 8))).set (4 * i + 3) (U8 ((x >>> 24).setWidth 8)) = (blA s (i + 1)).map U8 := by
  subst hx
  rw [blA, set4 (bl_length s i) (by omega), blA, bl, show 64 - 4 * i - 4 = 64 - 4 * (i + 1) by omega]
  rfl
def needH : Nat → List (Nat × Nat)
  | 1 => [(0, 19)]
  | 2 => [(1, 20)]
  | 3 => [(2, 21)]
  | 5 => [(4, 23)]
  | 6 => [(5, 24)]
  | 7 => [(6, 25)]
  | 9 => [(8, 27)]
  | 10 => [(9, 28)]
  | 11 => [(10, 29)]
  | 13 => [(12, 31)]
  | 14 => [(13, 32)]
  | 15 => [(14, 33)]
  | 16 => [(3, 22), (7, 26), (11, 30), (15, 34)]
  | 17 => [(16, 35)]
  | 19 => [(18, 6), (17, 36)]
  | _ => []
def inpH : Nat → List Nat
  | 1 => [20]
  | 3 => [21]
  | 5 => [20]
  | 7 => [21]
  | 9 => [20]
  | 11 => [21]
  | 13 => [20]
  | 15 => [21]
  | 19 => [18]
  | _ => []
def eatH : Nat → List Nat
  | 19 => [18]
  | _ => []
def srcH : Nat → Option Nat
  | 19 => some 18
  | _ => none
def needI : Nat → List (Nat × Nat)
  | 1 => [(0, 37)]
  | 3 => [(2, 39)]
  | 5 => [(4, 41)]
  | 7 => [(6, 43)]
  | 9 => [(8, 45)]
  | 11 => [(10, 47)]
  | 13 => [(12, 49)]
  | 15 => [(14, 51)]
  | 16 => [(1, 38)]
  | 17 => [(16, 53), (9, 46)]
  | 18 => [(3, 40)]
  | 19 => [(18, 54), (11, 48)]
  | 20 => [(5, 42)]
  | 21 => [(20, 55), (13, 50)]
  | 22 => [(7, 44)]
  | 23 => [(22, 56), (15, 52)]
  | _ => []
def inpI : Nat → List Nat
  | 1 => [25]
  | 3 => [25]
  | 5 => [25]
  | 7 => [25]
  | 9 => [24]
  | 11 => [24]
  | 13 => [24]
  | 15 => [24]
  | 17 => [26]
  | 19 => [17]
  | 21 => [19]
  | 23 => [21]
  | _ => []
def eatI : Nat → List Nat
  | 17 => [26]
  | 19 => [17]
  | 21 => [19]
  | 23 => [21]
  | _ => []

set_option maxHeartbeats 16000000 in
set_option maxRecDepth 8000 in
theorem mixed_any (s : List W) (hs : s.length = 16) (w : World) (hQ : GQ w) : Calls Tryd.prog 26 [.agg (s.map U32).toArray].toArray w fun e w' => e = .returned (.agg ((block s).map U8).toArray) ∧ Ext w w' := by
  have hsl : (s.map U32).length = 16 := by simpa using hs
  refine enter (n := 97) Tryd.func26 rfl rfl rfl (Holds.start w []) ?_
  repeat (first | refine JC.seq ?_ | refine JC.region ?_)
  refine JL.box (r := s.map U32) rfl rfl rfl fun b1 _ => ?_
  refine JL.alloc u64z rfl fun b2 _ => ?_
  repeat (first | refine JC.seq ?_ | refine JC.region ?_ | refine JL.nil ?_ | refine JE.next ?_)
  refine JL.alloc w16z rfl fun b3 _ => ?_
  repeat (first | refine JC.seq ?_ | refine JL.nil ?_ | refine JE.next ?_)
  refine JC.tail 2 mixQ (by kernel_rfl) ?_
  simp only [List.take_succ_cons, List.take_zero, List.drop_succ_cons, List.drop_zero]
  repeat (first | refine JQ.q (by (apply OQ.slA; exact Tryd.underlying52; exact q1s; exact rfl)) rfl ?_ | refine JQ.nil_tail ?_)
  refine JL.copy (cs := s.map U32) (r' := (st s 0).map U32) Tryd.underlying65 q1s rfl rfl .here hsl (fun w' hw' => ?_) (fun v hv => List.all_eq_true.1 (all32q s) v hv) (by simp) (by rw [List.take_of_length_le (l := s.map U32) (by omega)]; simp [st]) rfl ?_
  · obtain ⟨o, ho, hA⟩ := hw'.get (.there (.there .here))
    exact Reads.block ho (Row.all _ hA)
  repeat (first | refine JL.q (by (apply OQ.move; exact rfl)) rfl ?_ | refine JC.seq ?_ | refine JC.region ?_ | refine JC.block ?_ | refine JL.nil ?_ | refine JE.next ?_)
  refine JC.loop (fun r : Nat => [(1, Pt b1 0), (2, Pt b2 0), (3, Pt b3 0), (13, N r)])
    (fun r => [⟨b3, Row 52 ((st s (8 * r)).map U32), true⟩, ⟨b2, Row 54 ((List.replicate 64 (0 : B)).map U8), true⟩, ⟨b1, Row 52 (s.map U32), true⟩])
    (fun r => 10 - r) (fun r => r ≤ 10) 0 (by omega) (by repeat (first | exact SubE.nil | refine SubE.cons _ _ _ rfl ?_)) (Less.refl _) ?_
  intro r hr
  repeat (first | refine JL.q (by (apply OQ.lssN; exact rfl; exact rfl)) rfl ?_ | refine JC.seq ?_ | refine JC.region ?_ | refine JL.nil ?_ | refine JE.next ?_)
  refine JC.cond rfl (fun h => ?_) (fun h => ?_)
  · have hr' : r < 10 := of_decide_eq_true h
    clear h hr
    repeat (first | refine JL.q (by first | (apply OQ.load_agg_old (cs := ordF.map N); exact i8a; exact rfl; exact i8s; exact hQ.lt; exact (by simp); exact hQ.cells) | (apply OQ.move; exact rfl)) rfl ?_ | refine JC.seq ?_ | refine JC.region ?_ | refine JC.block ?_ | refine JC.skip ?_ | refine JL.nil ?_ | refine JE.next ?_)
    refine JC.loop (fun q : Nat => [(1, Pt b1 0), (2, Pt b2 0), (3, Pt b3 0), (13, N r), (15, .agg (ordF.map N).toArray), (16, N q)])
      (fun q => [⟨b3, Row 52 ((st s (8 * r + q)).map U32), true⟩, ⟨b2, Row 54 ((List.replicate 64 (0 : B)).map U8), true⟩, ⟨b1, Row 52 (s.map U32), true⟩])
      (fun q => 8 - q) (fun q => q ≤ 8) 0 (by omega) (by repeat (first | exact SubE.nil | refine SubE.cons _ _ _ rfl ?_)) (Less.refl _) ?_
    intro q hq
    repeat (first | refine JL.q (by (apply OQ.lssN; exact rfl; exact rfl)) rfl ?_ | refine JC.seq ?_ | refine JC.region ?_ | refine JL.nil ?_ | refine JE.next ?_)
    refine JC.cond rfl (fun h => ?_) (fun h => ?_)
    · have hq' : q < 8 := of_decide_eq_true h
      clear h hq
      have hv16 : (st s (8 * r + q)).length = 16 := by rw [st_length, hs]
      have hnext : st s (8 * r + (q + 1)) = put4 (st s (8 * r + q)) q (q4 (st s (8 * r + q)) q) 4 := by
        rw [← Nat.add_assoc, st, qs, show (8 * r + q) % 8 = q by omega]
      generalize st s (8 * r + q) = v at hv16 hnext
      have hlt := fun k hk => oi_lt q hq' k hk
      have hget : ∀ k, k < 4 → (v.map U32)[oi q k]? = some (U32 (v.getD (oi q k) 0)) := fun k hk => w_get (by rw [hv16]; exact hlt k hk)
      repeat (first | refine JL.q (by (apply OQ.indexA; exact Tryd.underlying67; exact i4s; exact i4a; exact rfl; exact rfl; exact hq'; exact (o4_eq q hq'))) rfl ?_ | refine JC.seq ?_ | refine JC.region ?_ | refine JC.block ?_ | refine JC.skip ?_ | refine JE.next ?_)
      refine JL.alloc i4z rfl fun b5 _ => ?_
      refine JL.store_all i4s rfl rfl rfl (allN _) .here (by simp) ?_
      repeat (first | refine JC.seq ?_ | refine JL.nil ?_ | refine JE.next ?_)
      let vs : Nat → X → Value := fun i x => if i < 16 then (match i % 4 with | 0 => Pt b5 (i / 4) | 1 => N (oi q (i / 4)) | 2 => Pt b3 (oi q (i / 4)) | _ => U32 (v.getD (oi q (i / 4)) 0)) else match i with
        | 18 => Pt x.1 0
        | 16 => .agg (([v.getD (oi q 0) 0, v.getD (oi q 1) 0, v.getD (oi q 2) 0, v.getD (oi q 3) 0] : List W).map U32).toArray
        | _ => .agg ((q4 v q).map U32).toArray
      let Ms : Nat → X → List Ent := fun i x => match i with
        | 18 => [⟨x.1, Row 68 ((List.replicate 4 (0 : W)).map U32), true⟩]
        | 19 => [⟨x.1, Row 68 ((q4 v q).map U32), true⟩]
        | 20 => [⟨b5, Row 66 ((o4 q).map N), true⟩]
        | 21 => [⟨b3, Row 52 (v.map U32), true⟩]
        | 22 => [⟨b2, Row 54 ((List.replicate 64 (0 : B)).map U8), true⟩, ⟨b1, Row 52 (s.map U32), true⟩]
        | _ => []
      refine JC.grow (g := ⟨[(1, Pt b1 0), (2, Pt b2 0), (3, Pt b3 0), (5, Pt b5 0), (13, N r), (15, .agg (ordF.map N).toArray), (16, N q)], 23, vs, Ms, needH, inpH, eatH, srcH⟩) [(18, 6)] [19, 20, 21, 22] mixQ (by repeat (first | exact SubE.nil | refine SubE.cons _ _ _ rfl ?_)) (Less.refl _) (by kernel_rfl) (by kernel_rfl) (by kernel_rfl) ?_ ?_
      · refine ⟨?_, ?_, ?_, ?_, ?_, ?_, ?_, ?_, ?_, ?_, ?_, ?_, ?_, ?_, ?_, ?_, ?_, ?_, ?_, ?_, trivial⟩
        iterate 16 (focus (intro x EF MF Q kk; (try refine JL.gon rfl rfl ?_); exact JL.q (by first | (apply OQ.idxA0; exact Tryd.underlying66; exact i1s; exact rfl; exact rfl; exact (by decide)) | (apply OQ.load; exact i1c; exact rfl; exact .here; exact (Row.cell rfl)) | (apply OQ.idxA0; exact Tryd.underlying52; exact q1s; exact rfl; exact rfl; exact (hlt _ (by decide))) | (apply OQ.load; exact q1c; exact rfl; exact .here; exact (Row.cell (hget _ (by decide))))) rfl (JL.nil (kk default nofun))))
        · intro x EF MF Q kk
          exact JL.q (OQ.pure (v := .agg (([v.getD (oi q 0) 0, v.getD (oi q 1) 0, v.getD (oi q 2) 0, v.getD (oi q 3) 0] : List W).map U32).toArray) rfl rfl (by kernel_rfl)) rfl (JL.nil (kk (0, 0) nofun))
        · intro x EF MF Q kk
          exact JL.q (OQ.callx goes_quarter rfl fun w' _ => quarter_any _ _ _ _ w') rfl (JL.nil (kk (0, 0) nofun))
        · intro x EF MF Q kk
          exact JL.alloc q4z rfl fun b _ => JL.nil (kk (b, 0) nofun)
        · intro x EF MF Q kk
          exact JL.store_all q4s rfl rfl rfl (all32q _) .here rfl (JL.nil (kk (x 18) (fun k h => by cases h; rfl)))
      · intro x hx
        have h19 := hx 19 18 (by decide) rfl
        show JE _ _ _ _ _ [(6, Pt (x 18).1 0), (1, Pt b1 0), (2, Pt b2 0), (3, Pt b3 0), (5, Pt b5 0), (13, N r), (15, .agg (ordF.map N).toArray), (16, N q)] [⟨(x 19).1, Row 68 ((q4 v q).map U32), true⟩, ⟨b5, Row 66 ((o4 q).map N), true⟩, ⟨b3, Row 52 (v.map U32), true⟩, ⟨b2, Row 54 ((List.replicate 64 (0 : B)).map U8), true⟩, ⟨b1, Row 52 (s.map U32), true⟩]
        rw [h19]
        generalize (x 18).1 = b6
        clear hx h19 x vs Ms
        repeat (refine JE.next ?_)
        let vs : Nat → X → Value := fun i _ => if i < 8 then (match i % 2 with | 0 => Pt b5 (i / 2) | _ => N (oi q (i / 2))) else if i < 16 then (match i % 2 with | 0 => Pt b6 ((i - 8) / 2) | _ => U32 ((q4 v q).getD ((i - 8) / 2) 0)) else Pt b3 (oi q ((i - 16) / 2))
        let Ms : Nat → X → List Ent := fun i _ => match i with
          | 17 => [⟨b3, Row 52 ((put4 v q (q4 v q) 1).map U32), true⟩]
          | 19 => [⟨b3, Row 52 ((put4 v q (q4 v q) 2).map U32), true⟩]
          | 21 => [⟨b3, Row 52 ((put4 v q (q4 v q) 3).map U32), true⟩]
          | 23 => [⟨b3, Row 52 ((put4 v q (q4 v q) 4).map U32), true⟩]
          | 24 => [⟨b6, Row 68 ((q4 v q).map U32), true⟩]
          | 25 => [⟨b5, Row 66 ((o4 q).map N), true⟩]
          | 26 => [⟨b3, Row 52 ((put4 v q (q4 v q) 0).map U32), true⟩]
          | 27 => [⟨b2, Row 54 ((List.replicate 64 (0 : B)).map U8), true⟩, ⟨b1, Row 52 (s.map U32), true⟩]
          | _ => []
        have hput : ∀ k, ((put4 v q (q4 v q) k).map U32).length = 16 := fun k => by rw [List.length_map, put4_length, hv16]
        have hset : ∀ k, ((put4 v q (q4 v q) k).map U32).set (oi q k) (U32 ((q4 v q).getD k 0)) = (put4 v q (q4 v q) (k + 1)).map U32 := fun k => by rw [put4, List.map_set]
        refine JC.grow (g := ⟨[(1, Pt b1 0), (2, Pt b2 0), (3, Pt b3 0), (5, Pt b5 0), (6, Pt b6 0), (13, N r), (15, .agg (ordF.map N).toArray), (16, N q)], 28, vs, Ms, needI, inpI, eatI, fun _ => none⟩) [] [23, 27] mixQ (by repeat (first | exact SubE.nil | refine SubE.cons _ _ _ rfl ?_)) (Less.refl _) (by kernel_rfl) (by kernel_rfl) (by kernel_rfl) ?_ ?_
        · refine ⟨?_, ?_, ?_, ?_, ?_, ?_, ?_, ?_, ?_, ?_, ?_, ?_, ?_, ?_, ?_, ?_, ?_, ?_, ?_, ?_, ?_, ?_, ?_, ?_, trivial⟩
          iterate 16 (focus (intro x EF MF Q kk; (try refine JL.gon rfl rfl ?_); exact JL.q (by first | (apply OQ.idxA0; exact Tryd.underlying66; exact i1s; exact rfl; exact rfl; exact (by decide)) | (apply OQ.load; exact i1c; exact rfl; exact .here; exact (Row.cell rfl)) | (apply OQ.idxA0; exact Tryd.underlying68; exact q1s; exact rfl; exact rfl; exact (by decide))) rfl (JL.nil (kk default nofun))))
          iterate 4 ((focus (intro x EF MF Q kk; (try refine JL.gon rfl rfl ?_); exact JL.q (by (apply OQ.idxA0; exact Tryd.underlying52; exact q1s; exact rfl; exact rfl; exact (hlt _ (by decide)))) rfl (JL.nil (kk default nofun)))); (focus (intro x EF MF Q kk; exact JL.store_eq q1s rfl rfl rfl rfl .here (by rw [hput]; exact hlt _ (by decide)) (hset _) (JL.nil (kk (0, 0) nofun)))))
        · intro x hx
          clear hx
          show JE _ _ _ _ _ [(1, Pt b1 0), (2, Pt b2 0), (3, Pt b3 0), (5, Pt b5 0), (6, Pt b6 0), (13, N r), (15, .agg (ordF.map N).toArray), (16, N q)] [⟨b3, Row 52 ((put4 v q (q4 v q) 4).map U32), true⟩, ⟨b2, Row 54 ((List.replicate 64 (0 : B)).map U8), true⟩, ⟨b1, Row 52 (s.map U32), true⟩]
          rw [← hnext]
          clear x vs Ms hput hset
          repeat (first | refine JL.q (by first | (apply OQ.move; exact rfl) | (apply OQ.addN; exact rfl; exact rfl; exact (by (try simp only []); omega))) rfl ?_ | refine JC.region ?_ | refine JL.nil ?_ | refine JE.next ?_ | refine JE.blk_normal ?_)
          exact JE.again (i := q) (q + 1) (by omega) (by omega) (by repeat (first | exact SubE.nil | refine SubE.cons _ _ _ rfl ?_)) (Less.refl _)
    · have hq' : ¬ q < 8 := of_decide_eq_false h
      obtain rfl : q = 8 := by omega
      clear h hq hq'
      repeat (first | refine JL.q (by first | (apply OQ.move; exact rfl) | (apply OQ.addN; exact rfl; exact rfl; exact (by (try simp only []); omega))) rfl ?_ | refine JC.region ?_ | refine JC.exit ?_ | refine JL.nil ?_ | refine JE.next ?_ | refine JE.blk_normal ?_ | refine JE.then_exit ?_ | refine JE.blk_hit ?_)
      exact JE.again (i := r) (r + 1) (by omega) (by omega) (by repeat (first | exact SubE.nil | refine SubE.cons _ _ _ rfl ?_)) (Less.refl _)
  · have hr' : ¬ r < 10 := of_decide_eq_false h
    obtain rfl : r = 10 := by omega
    clear h hr hr'
    have hv16 : (st s (8 * 10)).length = 16 := by rw [st_length, hs]
    have hblA := blA_set s
    rw [show st s (8 * 10) = st s 80 from rfl] at hv16 ⊢
    generalize hv : st s 80 = v at hv16 hblA ⊢
    have hvl : (v.map U32).length = 16 := by simpa using hv16
    repeat (first | refine JC.seq ?_ | refine JC.region ?_ | refine JC.exit ?_ | refine JE.next ?_ | refine JE.then_exit ?_ | refine JE.blk_hit ?_)
    refine JL.alloc u64z rfl fun b7 _ => ?_
    repeat (first | refine JL.q (by first | (apply OQ.load_agg (cs := v.map U32); exact w16a; exact w16s; exact rfl; exact (.there .here); exact hvl; exact Row.all) | (apply OQ.move; exact rfl)) rfl ?_ | refine JC.seq ?_ | refine JC.region ?_ | refine JC.block ?_ | refine JL.nil ?_ | refine JE.next ?_)
    refine JC.loop (fun i : Nat => [(1, Pt b1 0), (2, Pt b2 0), (7, Pt b7 0), (59, .agg (v.map U32).toArray), (60, N i)])
      (fun i => [⟨b7, Row 54 ((blA s i).map U8), true⟩, ⟨b2, Row 54 ((List.replicate 64 (0 : B)).map U8), true⟩, ⟨b1, Row 52 (s.map U32), true⟩])
      (fun i => 16 - i) (fun i => i ≤ 16) 0 (by omega) (by repeat (first | exact SubE.nil | refine SubE.cons _ _ _ rfl ?_)) (.keep _ _ _ _ _ _ (fun _ h => h) (.drop _ _ _ (Less.refl _))) ?_
    intro i hi
    repeat (first | refine JL.q (by (apply OQ.lssN; exact rfl; exact rfl)) rfl ?_ | refine JC.seq ?_ | refine JC.region ?_ | refine JL.nil ?_ | refine JE.next ?_)
    refine JC.cond rfl (fun h => ?_) (fun h => ?_)
    · have hi' : i < 16 := of_decide_eq_true h
      clear h hi
      have hbl := blA_length s i (by omega)
      have hset := hblA i hi' _ rfl
      repeat (first | refine JL.q (by first | (apply OQ.index; exact Tryd.underlying52; exact q1s; exact q1c; exact rfl; exact rfl; exact hi'; exact (w_get (by omega))) | (apply OQ.idxA0; exact Tryd.underlying52; exact q1s; exact rfl; exact rfl; exact hi') | (apply OQ.load; exact q1c; exact rfl; exact (.there (.there .here)); exact (Row.cell (w_get (by omega)))) | (apply OQ.move; exact rfl) | (apply OQ.assign; exact rfl) | (apply OQ.add32; exact rfl; exact rfl) | (apply OQ.shr32; exact rfl; exact rfl) | (apply OQ.addN; exact rfl; exact rfl; exact (by (try simp only []); omega)) | (apply OQ.mulN; exact rfl; exact rfl; exact (by (try simp only []); omega)) | (apply OQ.conv32_8; exact rfl; exact rfl; exact rfl) | (apply OQ.idxA0; exact rfl; exact rfl; exact rfl; exact rfl; exact (by (try simp only []); omega))) rfl ?_ | refine JC.seq ?_ | refine JC.region ?_ | refine JC.block ?_ | refine JC.skip ?_ | refine JL.nil ?_ | refine JE.next ?_)
      generalize (blA s i).map U8 = r0 at hbl hset
      generalize v.getD i 0 + s.getD i 0 = z at hset
      skip
      refine JL.store_row rfl rfl s5 rfl rfl .here (by (try simp only []); omega) ?_
      repeat (refine JL.q (by (apply OQ.idxA0; exact Tryd.underlying54; exact s5; exact rfl; exact rfl; exact (by (try simp only []); omega))) rfl ?_)
      refine JL.store_row rfl rfl s5 rfl rfl .here (by rw [List.length_set]; (try simp only []); omega) ?_
      repeat (refine JL.q (by (apply OQ.idxA0; exact Tryd.underlying54; exact s5; exact rfl; exact rfl; exact (by (try simp only []); omega))) rfl ?_)
      refine JL.store_row rfl rfl s5 rfl rfl .here (by rw [List.length_set, List.length_set]; (try simp only []); omega) ?_
      repeat (refine JL.q (by (apply OQ.idxA0; exact Tryd.underlying54; exact s5; exact rfl; exact rfl; exact (by (try simp only []); omega))) rfl ?_)
      refine JL.store_eq s5 rfl rfl rfl rfl .here (by rw [List.length_set, List.length_set, List.length_set]; (try simp only []); omega) hset ?_
      repeat (first | refine JL.q (by first | (apply OQ.move; exact rfl) | (apply OQ.addN; exact rfl; exact rfl; exact (by (try simp only []); omega))) rfl ?_ | refine JC.region ?_ | refine JL.nil ?_ | refine JE.next ?_ | refine JE.blk_normal ?_)
      exact JE.again (i := i) (i + 1) (by omega) (by omega) (by repeat (first | exact SubE.nil | refine SubE.cons _ _ _ rfl ?_)) (Less.refl _)
    · have hi' : ¬ i < 16 := of_decide_eq_false h
      obtain rfl : i = 16 := by omega
      clear h hi hi'
      have hbl : blA s 16 = block s := by simp [blA, block]
      have hl := blA_length s 16 (by omega)
      rw [hbl] at hl ⊢
      repeat (first | refine JL.q (by (apply OQ.load_agg (cs := (block s).map U8); exact a60; exact s60; exact rfl; exact .here; exact hl; exact Row.all)) rfl ?_ | refine JC.seq ?_ | refine JC.region ?_ | refine JC.exit ?_ | refine JE.next ?_ | refine JE.then_exit ?_ | refine JE.blk_hit ?_)
      refine JL.store_all s60 rfl rfl hl (all8 _) (.there .here) (by simp) ?_
      repeat (first | refine JL.nil ?_ | refine JE.next ?_)
      refine JC.ret (JE.ret1 rfl (RV.cell_agg a60 s60 rfl (.there .here) hl Row.all) ?_)
      exact fun w' hw => ⟨rfl, hw.chg⟩

end Go.Proofs.YtakgpocehoeakaaDoor

/-
  Of no statement by itself: what the reference's Order and Block give.
  Conditions: each theorem's own.
-/
namespace Go.Proofs.YtakgpocehoeakaaDoor
set_option maxRecDepth 10000
open Sl Sha Str

theorem Sl.Has.of_mem {M : List Ent} {b : Nat} {A : Obj → Prop} {wr : Bool} (h : ⟨b, A, wr⟩ ∈ M) : Has M b A wr := by
  induction M with
  | nil => cases h
  | cons e M ih =>
    simp only [List.mem_cons] at h
    rcases h with h | h
    · subst h; exact .here
    · exact .there (ih h)
theorem Sl.Holds.perm {w0 w : World} {S : List Nat} {M M' : List Ent} (h : Holds w0 S M w) (hp : M.Perm M') : Holds w0 S M' w :=
  ⟨h.chg, (hp.map Ent.b).nodup_iff.1 h.nodup, fun e he => h.all e (hp.mem_iff.2 he)⟩
theorem JL.perm {P : Program} {n : Nat} {w0 : World} {S : List Nat} {ops : Array Oper} {Q : Exit → Act → World → Prop} {l : List Oper} {E : Env} {M M' : List Ent} (hp : M.Perm M') (h : JL P n w0 S ops Q l E M') : JL P n w0 S ops Q l E M := ⟨fun a w ha hw => h.go a w ha (hw.perm hp)⟩
theorem JL.store_own {P : Program} {n : Nat} {w0 : World} {S : List Nat} {ops : Array Oper} {Q : Exit → Act → World → Prop} {l : List Oper} {E : Env} {M M' : List Ent} {b j k cap : Nat} {t e ty : TypeId} {pos : String} {aft : Array Edge} {v : Value} {x y : Operand} {xs xs' : List Value}
    (hz : szT P t = some 1) (hx : ev E x = some (.pointer (some ⟨b, j, none⟩))) (hy : ev E y = some v) (hv : v.oneCell' = true) (hcl : v.cells = #[v]) (hu : Upd M b (Sl.Own e 1 k cap xs) (Sl.Own e 1 k cap xs') M') (hj : j < xs.length) (he : xs.set j v = xs')
    (kk : JL P n w0 S ops Q l E M') : JL P n w0 S ops Q (⟨none, .store t x y, ty, pos, aft, none⟩ :: l) E M :=
  JL.store hx hy hz hv hcl hu (by
    rintro o ⟨sp, rfl, h2, h3, h4⟩
    subst he
    refine ⟨_, _, rfl, by simp only [List.size_toArray, List.length_append]; omega, sp, ?_, by simpa using h2, by simpa using h3, h4⟩
    simp only [List.setIfInBounds_toArray]
    rw [List.set_append_left _ _ hj]) kk
theorem goes_order : Goes Tryd.prog 45 := ⟨_, Tryd.func45, rfl, by kernel_rfl⟩
theorem goes_rblock : Goes Tryd.prog 33 := ⟨_, Tryd.func33, rfl, by kernel_rfl⟩
theorem ei24 : EI Tryd.prog 43 (.int .u32 0) 1 4 := by unfold EI; kernel_rfl
theorem ei3 : EI Tryd.prog 3 (.int .i64 0) 1 8 := by unfold EI; kernel_rfl
theorem ei58 : EI Tryd.prog 82 (.slice none 0 0) 1 24 := by unfold EI; kernel_rfl
theorem is58 : szT Tryd.prog 82 = some 1 := by kernel_rfl
theorem ic58 : scal Tryd.prog 82 = true := by kernel_rfl

/-- the order's rows: one of eight, and the row of these -/
def d8 : List Nat := [7, 6, 5, 4, 3, 2, 1, 0]
def osl (f : Nat → Nat) (i : Nat) : Value := .slice (some ⟨f i, 0, none⟩) 4 4
def ordE (bo : Nat) (f : Nat → Nat) : List Ent := ⟨bo, Row 82 [osl f 0, osl f 1, osl f 2, osl f 3, osl f 4, osl f 5, osl f 6, osl f 7], true⟩ :: d8.map fun i => ⟨f i, Row 3 ((o4 i).map N), true⟩
theorem ordE_wr (bo : Nat) (f : Nat → Nat) : ∀ e ∈ ordE bo f, e.wr = true := by
  intro e he
  simp only [ordE, d8, List.map_cons, List.map_nil, List.mem_cons, List.not_mem_nil, or_false] at he
  rcases he with rfl | rfl | rfl | rfl | rfl | rfl | rfl | rfl | rfl <;> rfl
theorem ordE_mem (bo : Nat) (f : Nat → Nat) (i : Nat) (h : i < 8) : (⟨f i, Row 3 ((o4 i).map N), true⟩ : Ent) ∈ ordE bo f := by
  have : i = 0 ∨ i = 1 ∨ i = 2 ∨ i = 3 ∨ i = 4 ∨ i = 5 ∨ i = 6 ∨ i = 7 := by omega
  rcases this with rfl | rfl | rfl | rfl | rfl | rfl | rfl | rfl <;> simp [ordE, d8]
theorem ordE_has (bo : Nat) (f : Nat → Nat) (i : Nat) (h : i < 8) (M : List Ent) : Has (ordE bo f ++ M) (f i) (Row 3 ((o4 i).map N)) true := Has.of_mem (List.mem_append_left _ (ordE_mem bo f i h))
theorem ordE_has0 (bo : Nat) (f : Nat → Nat) (i : Nat) (h : i < 8) : Has (ordE bo f) (f i) (Row 3 ((o4 i).map N)) true := Has.of_mem (ordE_mem bo f i h)
theorem osl_get (f : Nat → Nat) (i : Nat) (h : i < 8) : [osl f 0, osl f 1, osl f 2, osl f 3, osl f 4, osl f 5, osl f 6, osl f 7][i]? = some (osl f i) := by
  have : i = 0 ∨ i = 1 ∨ i = 2 ∨ i = 3 ∨ i = 4 ∨ i = 5 ∨ i = 6 ∨ i = 7 := by omega
  rcases this with rfl | rfl | rfl | rfl | rfl | rfl | rfl | rfl <;> rfl
theorem N_cells (l : List Nat) : ∀ v ∈ l.map N, v.cells = #[v] := by
  intro v hv
  obtain ⟨x, _, rfl⟩ := List.mem_map.1 hv
  rfl

set_option maxHeartbeats 8000000 in
theorem order_any (w : World) : Calls Tryd.prog 45 ([] : List Value).toArray w fun e w' => ∃ i : Nat × (Nat → Nat), e = .returned (.slice (some ⟨i.1, 0, none⟩) 8 8) ∧ Holds w [] (ordE i.1 i.2) w' := by
  refine enter (n := 10) Tryd.func45 rfl rfl rfl (Holds.start w []) ?_
  repeat (first | refine JL.q (by (apply OQ.assign; exact rfl)) rfl ?_ | refine JC.seq ?_ | refine JC.region ?_ | refine JL.nil ?_ | refine JE.next ?_)
  refine JL.litL (xs := [.const (N 0), .const (N 4), .const (N 8), .const (N 12)]) (vs := (o4 0).map N) Tryd.underlying82 ei3 rfl rfl rfl (allN _) (N_cells _) rfl (by decide) (by decide) rfl fun b0 _ => ?_
  refine JL.litL (xs := [.const (N 1), .const (N 5), .const (N 9), .const (N 13)]) (vs := (o4 1).map N) Tryd.underlying82 ei3 rfl rfl rfl (allN _) (N_cells _) rfl (by decide) (by decide) rfl fun b1 _ => ?_
  refine JL.litL (xs := [.const (N 2), .const (N 6), .const (N 10), .const (N 14)]) (vs := (o4 2).map N) Tryd.underlying82 ei3 rfl rfl rfl (allN _) (N_cells _) rfl (by decide) (by decide) rfl fun b2 _ => ?_
  refine JL.litL (xs := [.const (N 3), .const (N 7), .const (N 11), .const (N 15)]) (vs := (o4 3).map N) Tryd.underlying82 ei3 rfl rfl rfl (allN _) (N_cells _) rfl (by decide) (by decide) rfl fun b3 _ => ?_
  refine JL.litL (xs := [.const (N 0), .const (N 5), .const (N 10), .const (N 15)]) (vs := (o4 4).map N) Tryd.underlying82 ei3 rfl rfl rfl (allN _) (N_cells _) rfl (by decide) (by decide) rfl fun b4 _ => ?_
  refine JL.litL (xs := [.const (N 1), .const (N 6), .const (N 11), .const (N 12)]) (vs := (o4 5).map N) Tryd.underlying82 ei3 rfl rfl rfl (allN _) (N_cells _) rfl (by decide) (by decide) rfl fun b5 _ => ?_
  refine JL.litL (xs := [.const (N 2), .const (N 7), .const (N 8), .const (N 13)]) (vs := (o4 6).map N) Tryd.underlying82 ei3 rfl rfl rfl (allN _) (N_cells _) rfl (by decide) (by decide) rfl fun b6 _ => ?_
  refine JL.litL (xs := [.const (N 3), .const (N 4), .const (N 9), .const (N 14)]) (vs := (o4 7).map N) Tryd.underlying82 ei3 rfl rfl rfl (allN _) (N_cells _) rfl (by decide) (by decide) rfl fun b7 _ => ?_
  let f : Nat → Nat := fun i => match i with | 0 => b0 | 1 => b1 | 2 => b2 | 3 => b3 | 4 => b4 | 5 => b5 | 6 => b6 | _ => b7
  refine JL.litL (xs := [.tmp 1, .tmp 2, .tmp 3, .tmp 4, .tmp 5, .tmp 6, .tmp 7, .tmp 8]) (vs := [osl f 0, osl f 1, osl f 2, osl f 3, osl f 4, osl f 5, osl f 6, osl f 7]) Tryd.underlying80 ei58 rfl rfl rfl rfl (by simp [osl, Value.cells]) rfl (by decide) (by decide) rfl fun b9 _ => ?_
  repeat (first | refine JL.q (by (apply OQ.assign; exact rfl)) rfl ?_ | refine JL.nil ?_ | refine JE.next ?_)
  refine JC.ret ?_
  skip
  exact JE.ret1 rfl (RV.tmp rfl) fun w' hw => ⟨(b9, f), rfl, hw⟩

def needJ : Nat → List (Nat × Nat)
  | 3 => [(1, 61), (2, 62)]
  | 4 => [(3, 63)]
  | 5 => [(4, 64)]
  | 6 => [(5, 65)]
  | 7 => [(0, 60), (6, 66)]
  | 8 => [(7, 67)]
  | 12 => [(10, 70), (11, 71)]
  | 13 => [(12, 72)]
  | 14 => [(13, 73)]
  | 15 => [(14, 74)]
  | 16 => [(9, 69), (15, 75)]
  | 17 => [(16, 76)]
  | 21 => [(19, 79), (20, 80)]
  | 22 => [(21, 81)]
  | 23 => [(22, 82)]
  | 24 => [(23, 83)]
  | 25 => [(18, 78), (24, 84)]
  | 26 => [(25, 85)]
  | 30 => [(28, 88), (29, 89)]
  | 31 => [(30, 90)]
  | 32 => [(31, 91)]
  | 33 => [(32, 92)]
  | 34 => [(27, 87), (33, 93)]
  | 35 => [(34, 94)]
  | 36 => [(8, 68), (17, 77), (26, 86), (35, 95)]
  | 37 => [(36, 96)]
  | 39 => [(38, 14), (37, 97)]
  | _ => []
def inpJ : Nat → List Nat
  | 4 => [42]
  | 6 => [42]
  | 8 => [40]
  | 13 => [42]
  | 15 => [42]
  | 17 => [40]
  | 22 => [42]
  | 24 => [42]
  | 26 => [40]
  | 31 => [42]
  | 33 => [42]
  | 35 => [40]
  | 39 => [38]
  | _ => []
def eatJ : Nat → List Nat
  | 39 => [38]
  | _ => []
def srcJ : Nat → Option Nat
  | 39 => some 38
  | _ => none

set_option maxHeartbeats 16000000 in
set_option maxRecDepth 8000 in
theorem rblock_any (key : List B) (ctr : W) (nonce : List B) (hk : key.length = 32) (hn : nonce.length = 12) (w : World) :
    Calls Tryd.prog 33 [.agg (key.map U8).toArray, U32 ctr, .agg (nonce.map U8).toArray].toArray w fun e w' => ∃ x : Nat × Nat, e = .returned (.slice (some ⟨x.1, 0, none⟩) 64 x.2) ∧ Holds w [] [⟨x.1, Sl.Own 5 1 64 x.2 ((ks key ctr nonce).map U8), true⟩] w' := by
  refine enter (n := 143) Tryd.func33 rfl rfl rfl (Holds.start w []) ?_
  repeat (first | refine JC.seq ?_ | refine JC.region ?_)
  refine JL.box (r := key.map U8) rfl rfl rfl fun b3 _ => ?_
  refine JL.box (r := nonce.map U8) rfl rfl rfl fun b5 _ => ?_
  repeat (first | refine JL.q (by (apply OQ.assign; exact rfl)) rfl ?_ | refine JC.seq ?_ | refine JC.region ?_ | refine JL.nil ?_ | refine JE.next ?_)
  refine JL.litL (xs := [.const (U32 0x61707865), .const (U32 0x3320646e), .const (U32 0x79622d32), .const (U32 0x6b206574)]) (vs := c4.map U32) Tryd.underlying65 ei24 rfl rfl rfl (all32q _) (by simp [Value.cells]) rfl (by decide) (by decide) rfl fun b7 _ => ?_
  repeat (first | refine JL.q (by (apply OQ.assign; exact rfl)) rfl ?_ | refine JC.seq ?_ | refine JC.region ?_ | refine JC.block ?_ | refine JL.nil ?_ | refine JE.next ?_)
  refine JC.loop (ι := Nat × Nat × Nat) (fun i => [(1, U32 ctr), (3, Pt b3 0), (5, Pt b5 0), (7, .slice (some ⟨i.2.1, 0, none⟩) (4 + i.1) i.2.2), (8, N (4 * i.1))])
    (fun i => [⟨i.2.1, Sl.Own 43 1 (4 + i.1) i.2.2 ((c4 ++ wds key i.1).map U32), true⟩, ⟨b5, Row 25 (nonce.map U8), true⟩, ⟨b3, Row 23 (key.map U8), true⟩])
    (fun i => 8 - i.1) (fun i => i.1 ≤ 8) (0, b7, 4) (by dsimp only; omega) (by repeat (first | exact SubE.nil | refine SubE.cons _ _ _ rfl ?_)) (.keep _ _ _ _ _ _ (row_ownG rfl) (Less.refl _)) ?_
  rintro ⟨j, b7, cap7⟩ hj
  dsimp only at hj ⊢
  repeat (first | refine JL.q (by first | (apply OQ.move; exact rfl) | (apply OQ.lssN; exact rfl; exact rfl)) rfl ?_ | refine JC.seq ?_ | refine JC.region ?_ | refine JL.nil ?_ | refine JE.next ?_)
  refine JC.cond rfl (fun h => ?_) (fun h => ?_)
  · have hj' : j < 8 := by
      have : 4 * j < 32 := of_decide_eq_true h
      omega
    clear h hj
    have hw4 := w4_cells key j (by omega)
    have hgt : ∀ k, k < 4 → (w4 key j)[k]? = some (key.getD (4 * j + k) 0) := fun k hk => by
      have : k = 0 ∨ k = 1 ∨ k = 2 ∨ k = 3 := by omega
      rcases this with rfl | rfl | rfl | rfl <;> rfl
    repeat (first | refine JL.q (by first | (apply OQ.slA_lohi; exact Tryd.underlying23; exact s5; exact rfl; exact rfl; exact rfl; exact (show 4 * j < 32 by omega); exact (show 4 * j ≤ 4 * j + 4 by omega); exact (show 4 * j + 4 ≤ 32 by omega)) | (apply OQ.move; exact rfl) | (apply OQ.addN; exact rfl; exact rfl; exact (by (try simp only []); omega))) rfl ?_ | refine JC.seq ?_ | refine JC.region ?_ | refine JC.block ?_ | refine JC.skip ?_ | refine JE.next ?_)
    rw [Nat.add_sub_cancel_left]
    repeat (refine JL.q (by (apply OQ.callx; exact goes_rword; exact rfl; exact (fun w' hw' => rword_any key j b3 (0 + 4 * j) (32 - 4 * j) w' (fun k hk => by obtain ⟨o, ho, hA⟩ := hw'.get (.there (.there .here)); exact cells_of ho (Row.cells hw4 _ hA) k _ (by rw [List.getElem?_map, hgt k hk]; rfl))))) rfl ?_)
    refine JL.lit1 Tryd.underlying65 ei24 rfl rfl rfl rfl fun b30 _ => ?_
    refine JL.append (cs := [U32 (wd key j)]) (fun b' cap' => [⟨b30, Row 43 [U32 (wd key j)], true⟩, ⟨b', Sl.Own 43 1 (4 + j + 1) cap' ((c4 ++ wds key j).map U32 ++ [U32 (wd key j)]), true⟩, ⟨b5, Row 25 (nonce.map U8), true⟩, ⟨b3, Row 23 (key.map U8), true⟩]) Tryd.underlying65 ei24 rfl rfl (by intro _ _; repeat (first | exact Repl.here | apply Repl.there)) rfl (fun w' hw' => ?_) (by simp [Value.oneCell']) rfl (by decide) (by omega) (by omega) rfl fun b7' cap7' => ?_
    · obtain ⟨o, ho, hA⟩ := hw'.get .here
      exact Reads.block ho (Row.all _ hA)
    repeat (first | refine JL.q (by first | (apply OQ.move; exact rfl) | (apply OQ.assign; exact rfl) | (apply OQ.addN; exact rfl; exact rfl; exact (by (try simp only []); omega))) rfl ?_ | refine JC.region ?_ | refine JL.nil ?_ | refine JE.next ?_ | refine JE.blk_normal ?_)
    rw [show 4 * j + 4 = 4 * (j + 1) by omega]
    exact JE.again (ι := Nat × Nat × Nat) (i := (j, b7, cap7)) (j + 1, b7', cap7') (by dsimp only; omega) (by dsimp only; omega) (by repeat (first | exact SubE.nil | refine SubE.cons _ _ _ rfl ?_)) (.drop _ _ _ (.keep _ _ _ _ _ _ (fun o ho => by simpa [wds, List.append_assoc, Nat.add_assoc] using ho) (Less.refl _)))
  · have hj' : ¬ j < 8 := by
      have : ¬ 4 * j < 32 := of_decide_eq_false h
      omega
    obtain rfl : j = 8 := by omega
    clear h hj hj'
    repeat (first | refine JL.q (by (apply OQ.move; exact rfl)) rfl ?_ | refine JC.seq ?_ | refine JC.region ?_ | refine JC.exit ?_ | refine JE.next ?_ | refine JE.then_exit ?_ | refine JE.blk_hit ?_)
    refine JL.lit1 Tryd.underlying65 ei24 rfl rfl rfl rfl fun b34 _ => ?_
    refine JL.append (cs := [U32 ctr]) (fun b' cap' => [⟨b34, Row 43 [U32 ctr], true⟩, ⟨b', Sl.Own 43 1 (4 + 8 + 1) cap' ((c4 ++ wds key 8).map U32 ++ [U32 ctr]), true⟩, ⟨b5, Row 25 (nonce.map U8), true⟩, ⟨b3, Row 23 (key.map U8), true⟩]) Tryd.underlying65 ei24 rfl rfl (by intro _ _; repeat (first | exact Repl.here | apply Repl.there)) rfl (fun w' hw' => ?_) (by simp [Value.oneCell']) rfl (by decide) (by decide) (by decide) rfl fun b7' cap7' => ?_
    · obtain ⟨o, ho, hA⟩ := hw'.get .here
      exact Reads.block ho (Row.all _ hA)
    repeat (first | refine JL.q (by (apply OQ.assign; exact rfl)) rfl ?_ | refine JC.seq ?_ | refine JC.region ?_ | refine JC.block ?_ | refine JL.nil ?_ | refine JE.next ?_)
    refine JC.loop (ι := Nat × Nat × Nat) (fun i => [(5, Pt b5 0), (7, .slice (some ⟨i.2.1, 0, none⟩) (13 + i.1) i.2.2), (9, N (4 * i.1))])
      (fun i => [⟨i.2.1, Sl.Own 43 1 (13 + i.1) i.2.2 ((c4 ++ wds key 8 ++ [ctr] ++ wds nonce i.1).map U32), true⟩, ⟨b5, Row 25 (nonce.map U8), true⟩])
      (fun i => 3 - i.1) (fun i => i.1 ≤ 3) (0, b7', cap7') (by dsimp only; omega) (by repeat (first | exact SubE.nil | refine SubE.cons _ _ _ rfl ?_)) (.drop _ _ _ (.keep _ _ _ _ _ _ (fun o ho => by simpa [wds] using ho) (.keep _ _ _ _ _ _ (fun _ h => h) (Less.nil _)))) ?_
    rintro ⟨j, b7, cap7⟩ hj
    dsimp only at hj ⊢
    repeat (first | refine JL.q (by first | (apply OQ.move; exact rfl) | (apply OQ.lssN; exact rfl; exact rfl)) rfl ?_ | refine JC.seq ?_ | refine JC.region ?_ | refine JL.nil ?_ | refine JE.next ?_)
    refine JC.cond rfl (fun h => ?_) (fun h => ?_)
    · have hj' : j < 3 := by
        have : 4 * j < 12 := of_decide_eq_true h
        omega
      clear h hj
      have hw4 := w4_cells nonce j (by omega)
      have hgt : ∀ k, k < 4 → (w4 nonce j)[k]? = some (nonce.getD (4 * j + k) 0) := fun k hk => by
        have : k = 0 ∨ k = 1 ∨ k = 2 ∨ k = 3 := by omega
        rcases this with rfl | rfl | rfl | rfl <;> rfl
      repeat (first | refine JL.q (by first | (apply OQ.slA_lohi; exact Tryd.underlying25; exact s5; exact rfl; exact rfl; exact rfl; exact (show 4 * j < 12 by omega); exact (show 4 * j ≤ 4 * j + 4 by omega); exact (show 4 * j + 4 ≤ 12 by omega)) | (apply OQ.move; exact rfl) | (apply OQ.addN; exact rfl; exact rfl; exact (by (try simp only []); omega))) rfl ?_ | refine JC.seq ?_ | refine JC.region ?_ | refine JC.block ?_ | refine JC.skip ?_ | refine JE.next ?_)
      rw [Nat.add_sub_cancel_left]
      repeat (refine JL.q (by (apply OQ.callx; exact goes_rword; exact rfl; exact (fun w' hw' => rword_any nonce j b5 (0 + 4 * j) (12 - 4 * j) w' (fun k hk => by obtain ⟨o, ho, hA⟩ := hw'.get (.there .here); exact cells_of ho (Row.cells hw4 _ hA) k _ (by rw [List.getElem?_map, hgt k hk]; rfl))))) rfl ?_)
      refine JL.lit1 Tryd.underlying65 ei24 rfl rfl rfl rfl fun b46 _ => ?_
      refine JL.append (cs := [U32 (wd nonce j)]) (fun b' cap' => [⟨b46, Row 43 [U32 (wd nonce j)], true⟩, ⟨b', Sl.Own 43 1 (13 + j + 1) cap' ((c4 ++ wds key 8 ++ [ctr] ++ wds nonce j).map U32 ++ [U32 (wd nonce j)]), true⟩, ⟨b5, Row 25 (nonce.map U8), true⟩]) Tryd.underlying65 ei24 rfl rfl (by intro _ _; repeat (first | exact Repl.here | apply Repl.there)) rfl (fun w' hw' => ?_) (by simp [Value.oneCell']) rfl (by decide) (by omega) (by omega) rfl fun b7' cap7' => ?_
      · obtain ⟨o, ho, hA⟩ := hw'.get .here
        exact Reads.block ho (Row.all _ hA)
      repeat (first | refine JL.q (by first | (apply OQ.move; exact rfl) | (apply OQ.assign; exact rfl) | (apply OQ.addN; exact rfl; exact rfl; exact (by (try simp only []); omega))) rfl ?_ | refine JC.region ?_ | refine JL.nil ?_ | refine JE.next ?_ | refine JE.blk_normal ?_)
      rw [show 4 * j + 4 = 4 * (j + 1) by omega]
      exact JE.again (ι := Nat × Nat × Nat) (i := (j, b7, cap7)) (j + 1, b7', cap7') (by dsimp only; omega) (by dsimp only; omega) (by repeat (first | exact SubE.nil | refine SubE.cons _ _ _ rfl ?_)) (.drop _ _ _ (.keep _ _ _ _ _ _ (fun o ho => by rw [show wds nonce (j + 1) = wds nonce j ++ [wd nonce j] from rfl]; simpa [List.append_assoc, Nat.add_assoc] using ho) (Less.refl _)))
    · have hj' : ¬ j < 3 := by
        have : ¬ 4 * j < 12 := of_decide_eq_false h
        omega
      obtain rfl : j = 3 := by omega
      clear h hj hj'
      rw [show c4 ++ wds key 8 ++ [ctr] ++ wds nonce 3 = sbegin key ctr nonce from rfl]
      have hks : ks key ctr nonce = block (sbegin key ctr nonce) := rfl
      have hs := sbegin_length key ctr nonce
      generalize sbegin key ctr nonce = s at hks hs ⊢
      have hsl : (s.map U32).length = 16 := by simpa using hs
      repeat (first | refine JC.seq ?_ | refine JC.region ?_ | refine JC.exit ?_ | refine JE.next ?_ | refine JE.then_exit ?_ | refine JE.blk_hit ?_)
      refine JL.litZ Tryd.underlying65 ei24 rfl fun b48 _ => ?_
      repeat (refine JL.q (by (apply OQ.move; exact rfl)) rfl ?_)
      refine JL.append (cs := s.map U32) (fun b' cap' => [⟨b', Sl.Own 43 1 (0 + 16) cap' ([] ++ s.map U32), true⟩, ⟨b7, Sl.Own 43 1 16 cap7 (s.map U32), true⟩, ⟨b5, Row 25 (nonce.map U8), true⟩]) Tryd.underlying65 ei24 rfl rfl (by intro _ _; repeat (first | exact Repl.here | apply Repl.there)) hsl (fun w' hw' => ?_) (fun v hv => List.all_eq_true.1 (all32q s) v hv) rfl (by decide) (by decide) (by decide) rfl fun b10 cap10 => ?_
      · obtain ⟨o, ho, hA⟩ := hw'.get (.there .here)
        exact Reads.block ho (Sl.Own.cells _ hA)
      rw [List.nil_append, Nat.zero_add]
      repeat (first | refine JL.q (by (apply OQ.assign; exact rfl)) rfl ?_ | refine JC.seq ?_ | refine JC.region ?_ | refine JL.nil ?_ | refine JE.next ?_)
      refine JL.callg (ι := Nat × (Nat → Nat)) (fun i => .slice (some ⟨i.1, 0, none⟩) 8 8) (fun i => ordE i.1 i.2) goes_order rfl rfl (fun i => ordE_wr _ _) (fun w' _ => order_any w') ?_
      rintro ⟨bo, f⟩
      dsimp only
      refine JL.perm List.perm_append_comm ?_
      repeat (first | refine JL.q (by (apply OQ.assign; exact rfl)) rfl ?_ | refine JC.seq ?_ | refine JC.region ?_ | refine JC.block ?_ | refine JL.nil ?_ | refine JE.next ?_)
      refine JC.loop (fun r : Nat => [(7, .slice (some ⟨b7, 0, none⟩) 16 cap7), (10, .slice (some ⟨b10, 0, none⟩) 16 cap10), (11, .slice (some ⟨bo, 0, none⟩) 8 8), (12, N r)])
        (fun r => ⟨b10, Sl.Own 43 1 16 cap10 ((st s (8 * r)).map U32), true⟩ :: ⟨b7, Sl.Own 43 1 16 cap7 (s.map U32), true⟩ :: ordE bo f)
        (fun r => 10 - r) (fun r => r ≤ 10) 0 (by omega) (by repeat (first | exact SubE.nil | refine SubE.cons _ _ _ rfl ?_)) (.keep _ _ _ _ _ _ (fun _ h => h) (.keep _ _ _ _ _ _ (fun _ h => h) (.drop _ _ _ (Less.refl _)))) ?_
      intro r hr
      repeat (first | refine JL.q (by first | (apply OQ.move; exact rfl) | (apply OQ.lssN; exact rfl; exact rfl)) rfl ?_ | refine JC.seq ?_ | refine JC.region ?_ | refine JL.nil ?_ | refine JE.next ?_)
      refine JC.cond rfl (fun h => ?_) (fun h => ?_)
      · have hr' : r < 10 := of_decide_eq_true h
        clear h hr
        repeat (first | refine JL.q (by (apply OQ.assign; exact rfl)) rfl ?_ | refine JC.seq ?_ | refine JC.region ?_ | refine JC.block ?_ | refine JC.skip ?_ | refine JL.nil ?_ | refine JE.next ?_)
        refine JC.loop (fun q : Nat => [(7, .slice (some ⟨b7, 0, none⟩) 16 cap7), (10, .slice (some ⟨b10, 0, none⟩) 16 cap10), (11, .slice (some ⟨bo, 0, none⟩) 8 8), (12, N r), (13, N q)])
          (fun q => ⟨b10, Sl.Own 43 1 16 cap10 ((st s (8 * r + q)).map U32), true⟩ :: ⟨b7, Sl.Own 43 1 16 cap7 (s.map U32), true⟩ :: ordE bo f)
          (fun q => 8 - q) (fun q => q ≤ 8) 0 (by omega) (by repeat (first | exact SubE.nil | refine SubE.cons _ _ _ rfl ?_)) (Less.refl _) ?_
        intro q hq
        repeat (first | refine JL.q (by first | (apply OQ.move; exact rfl) | (apply OQ.lssN; exact rfl; exact rfl)) rfl ?_ | refine JC.seq ?_ | refine JC.region ?_ | refine JL.nil ?_ | refine JE.next ?_)
        refine JC.cond rfl (fun h => ?_) (fun h => ?_)
        · have hq' : q < 8 := of_decide_eq_true h
          clear h hq
          have hv16 : (st s (8 * r + q)).length = 16 := by rw [st_length, hs]
          have hnext : st s (8 * r + (q + 1)) = put4 (st s (8 * r + q)) q (q4 (st s (8 * r + q)) q) 4 := by
            rw [← Nat.add_assoc, st, qs, show (8 * r + q) % 8 = q by omega]
          generalize st s (8 * r + q) = v at hv16 hnext
          have hlt := fun k hk => oi_lt q hq' k hk
          have hget : ∀ k, k < 4 → (v.map U32)[oi q k]? = some (U32 (v.getD (oi q k) 0)) := fun k hk => w_get (by rw [hv16]; exact hlt k hk)
          repeat (first | refine JC.seq ?_ | refine JC.block ?_ | refine JC.skip ?_ | refine JE.next ?_)
          let vs : Nat → X → Value := fun i x => if i < 36 then (match i % 9 with
            | 0 => .slice (some ⟨b10, 0, none⟩) 16 cap10
            | 1 => .slice (some ⟨bo, 0, none⟩) 8 8
            | 2 => N q
            | 3 => Pt bo q
            | 4 => osl f q
            | 5 => Pt (f q) (i / 9)
            | 6 => N (oi q (i / 9))
            | 7 => Pt b10 (oi q (i / 9))
            | _ => U32 (v.getD (oi q (i / 9)) 0)) else match i with
            | 38 => Pt x.1 0
            | 36 => .agg (([v.getD (oi q 0) 0, v.getD (oi q 1) 0, v.getD (oi q 2) 0, v.getD (oi q 3) 0] : List W).map U32).toArray
            | _ => .agg ((q4 v q).map U32).toArray
          let Ms : Nat → X → List Ent := fun i x => match i with
            | 38 => [⟨x.1, Row 68 ((List.replicate 4 (0 : W)).map U32), true⟩]
            | 39 => [⟨x.1, Row 68 ((q4 v q).map U32), true⟩]
            | 40 => [⟨b10, Sl.Own 43 1 16 cap10 (v.map U32), true⟩]
            | 41 => [⟨b7, Sl.Own 43 1 16 cap7 (s.map U32), true⟩]
            | 42 => ordE bo f
            | _ => []
          refine JC.grow (g := ⟨[(7, .slice (some ⟨b7, 0, none⟩) 16 cap7), (10, .slice (some ⟨b10, 0, none⟩) 16 cap10), (11, .slice (some ⟨bo, 0, none⟩) 8 8), (12, N r), (13, N q)], 43, vs, Ms, needJ, inpJ, eatJ, srcJ⟩) [(38, 14)] [39, 40, 41, 42] mixQ (by repeat (first | exact SubE.nil | refine SubE.cons _ _ _ rfl ?_)) (Less.refl _) (by kernel_rfl) (by kernel_rfl) (by kernel_rfl) ?_ ?_
          · refine ⟨?_, ?_, ?_, ?_, ?_, ?_, ?_, ?_, ?_, ?_, ?_, ?_, ?_, ?_, ?_, ?_, ?_, ?_, ?_, ?_, ?_, ?_, ?_, ?_, ?_, ?_, ?_, ?_, ?_, ?_, ?_, ?_, ?_, ?_, ?_, ?_, ?_, ?_, ?_, ?_, trivial⟩
            iterate 36 (focus (intro x EF MF Q kk; (try refine JL.gon rfl rfl ?_); exact JL.q (by first | (apply OQ.idxS0; exact Tryd.underlying80; exact is58; exact rfl; exact rfl; exact hq') | (apply OQ.load; exact ic58; exact rfl; exact .here; exact (Row.cell (osl_get f q hq'))) | (apply OQ.idxS0; exact Tryd.underlying82; exact i1s; exact rfl; exact rfl; exact (by decide)) | (apply OQ.load; exact i1c; exact rfl; exact (ordE_has bo f q hq' _); exact (Row.cell (o4_get q _ (by decide)))) | (apply OQ.idxS0; exact Tryd.underlying65; exact q1s; exact rfl; exact rfl; exact (hlt _ (by decide))) | (apply OQ.load; exact q1c; exact rfl; exact .here; exact (Sl.Own.cell (hget _ (by decide)))) | (apply OQ.move; exact rfl)) rfl (JL.nil (kk default nofun))))
            · intro x EF MF Q kk
              exact JL.q (OQ.pure (v := .agg (([v.getD (oi q 0) 0, v.getD (oi q 1) 0, v.getD (oi q 2) 0, v.getD (oi q 3) 0] : List W).map U32).toArray) rfl rfl (by kernel_rfl)) rfl (JL.nil (kk (0, 0) nofun))
            · intro x EF MF Q kk
              exact JL.q (OQ.callx goes_rquarter rfl fun w' _ => rquarter_any _ _ _ _ w') rfl (JL.nil (kk (0, 0) nofun))
            · intro x EF MF Q kk
              exact JL.alloc q4z rfl fun b _ => JL.nil (kk (b, 0) nofun)
            · intro x EF MF Q kk
              exact JL.store_all q4s rfl rfl rfl (all32q _) .here rfl (JL.nil (kk (x 38) (fun k h => by cases h; rfl)))
          · intro x hx
            have h39 := hx 39 38 (by decide) rfl
            show JE _ _ _ _ _ [(14, Pt (x 38).1 0), (7, .slice (some ⟨b7, 0, none⟩) 16 cap7), (10, .slice (some ⟨b10, 0, none⟩) 16 cap10), (11, .slice (some ⟨bo, 0, none⟩) 8 8), (12, N r), (13, N q)] (⟨(x 39).1, Row 68 ((q4 v q).map U32), true⟩ :: ⟨b10, Sl.Own 43 1 16 cap10 (v.map U32), true⟩ :: ⟨b7, Sl.Own 43 1 16 cap7 (s.map U32), true⟩ :: ordE bo f)
            rw [h39]
            generalize (x 38).1 = b14
            clear hx h39 x vs Ms
            repeat (first | refine JL.q (by (apply OQ.assign; exact rfl)) rfl ?_ | refine JC.seq ?_ | refine JC.region ?_ | refine JC.block ?_ | refine JL.nil ?_ | refine JE.next ?_)
            refine JC.loop (fun k : Nat => [(7, .slice (some ⟨b7, 0, none⟩) 16 cap7), (10, .slice (some ⟨b10, 0, none⟩) 16 cap10), (11, .slice (some ⟨bo, 0, none⟩) 8 8), (12, N r), (13, N q), (14, Pt b14 0), (15, N k)])
              (fun k => ⟨b14, Row 68 ((q4 v q).map U32), true⟩ :: ⟨b10, Sl.Own 43 1 16 cap10 ((put4 v q (q4 v q) k).map U32), true⟩ :: ⟨b7, Sl.Own 43 1 16 cap7 (s.map U32), true⟩ :: ordE bo f)
              (fun k => 4 - k) (fun k => k ≤ 4) 0 (by omega) (by repeat (first | exact SubE.nil | refine SubE.cons _ _ _ rfl ?_)) (Less.refl _) ?_
            intro k hk
            repeat (first | refine JL.q (by first | (apply OQ.move; exact rfl) | (apply OQ.lssN; exact rfl; exact rfl)) rfl ?_ | refine JC.seq ?_ | refine JC.region ?_ | refine JL.nil ?_ | refine JE.next ?_)
            refine JC.cond rfl (fun h => ?_) (fun h => ?_)
            · have hk' : k < 4 := of_decide_eq_true h
              clear h hk
              repeat (first | refine JC.seq ?_ | refine JC.block ?_ | refine JC.skip ?_ | refine JE.next ?_)
              refine JC.tail 12 mixQ (by kernel_rfl) ?_
              simp only [List.take_succ_cons, List.take_zero, List.drop_succ_cons, List.drop_zero]
              have hput : ((put4 v q (q4 v q) k).map U32).length = 16 := by rw [List.length_map, put4_length, hv16]
              have hq4 : ((q4 v q).map U32)[k]? = some (U32 ((q4 v q).getD k 0)) := w_get (by rw [q4_length]; exact hk')
              repeat (first | refine JQ.q (by first | (apply OQ.idxS0; exact Tryd.underlying80; exact is58; exact rfl; exact rfl; exact hq') | (apply OQ.load; exact ic58; exact rfl; exact (.there (.there (.there .here))); exact (Row.cell (osl_get f q hq'))) | (apply OQ.idxS0 (len := 4); exact Tryd.underlying82; exact i1s; exact rfl; exact rfl; exact hk') | (apply OQ.load; exact i1c; exact rfl; exact (.there (.there (.there (ordE_has0 bo f q hq')))); exact (Row.cell (o4_get q k hk'))) | (apply OQ.idxA0; exact Tryd.underlying68; exact q1s; exact rfl; exact rfl; exact hk') | (apply OQ.load; exact q1c; exact rfl; exact .here; exact (Row.cell hq4)) | (apply OQ.idxS0; exact Tryd.underlying65; exact q1s; exact rfl; exact rfl; exact (hlt k hk')) | (apply OQ.move; exact rfl)) rfl ?_ | refine JQ.nil_tail ?_)
              refine JL.store_own (xs' := (put4 v q (q4 v q) (k + 1)).map U32) q1s rfl rfl rfl rfl (.there .here) (by rw [hput]; exact hlt k hk') (by rw [put4, List.map_set]) ?_
              repeat (first | refine JL.q (by first | (apply OQ.move; exact rfl) | (apply OQ.assign; exact rfl) | (apply OQ.addN; exact rfl; exact rfl; exact (by (try simp only []); omega))) rfl ?_ | refine JC.region ?_ | refine JL.nil ?_ | refine JE.next ?_ | refine JE.blk_normal ?_)
              exact JE.again (i := k) (k + 1) (by omega) (by omega) (by repeat (first | exact SubE.nil | refine SubE.cons _ _ _ rfl ?_)) (Less.refl _)
            · have hk' : ¬ k < 4 := of_decide_eq_false h
              obtain rfl : k = 4 := by omega
              clear h hk hk'
              rw [← hnext]
              repeat (first | refine JL.q (by first | (apply OQ.move; exact rfl) | (apply OQ.assign; exact rfl) | (apply OQ.addN; exact rfl; exact rfl; exact (by (try simp only []); omega))) rfl ?_ | refine JC.region ?_ | refine JC.exit ?_ | refine JL.nil ?_ | refine JE.next ?_ | refine JE.blk_normal ?_ | refine JE.then_exit ?_ | refine JE.blk_hit ?_)
              exact JE.again (i := q) (q + 1) (by omega) (by omega) (by repeat (first | exact SubE.nil | refine SubE.cons _ _ _ rfl ?_)) (.drop _ _ _ (Less.refl _))
        · have hq' : ¬ q < 8 := of_decide_eq_false h
          obtain rfl : q = 8 := by omega
          clear h hq hq'
          repeat (first | refine JL.q (by first | (apply OQ.move; exact rfl) | (apply OQ.assign; exact rfl) | (apply OQ.addN; exact rfl; exact rfl; exact (by (try simp only []); omega))) rfl ?_ | refine JC.region ?_ | refine JC.exit ?_ | refine JL.nil ?_ | refine JE.next ?_ | refine JE.blk_normal ?_ | refine JE.then_exit ?_ | refine JE.blk_hit ?_)
          exact JE.again (i := r) (r + 1) (by omega) (by omega) (by repeat (first | exact SubE.nil | refine SubE.cons _ _ _ rfl ?_)) (Less.refl _)
      · have hr' : ¬ r < 10 := of_decide_eq_false h
        obtain rfl : r = 10 := by omega
        clear h hr hr'
        have hv16 : (st s (8 * 10)).length = 16 := by rw [st_length, hs]
        have hbls : ∀ i, bl s (i + 1) = bl s i ++ le4 ((st s 80).getD i 0 + s.getD i 0) := fun _ => rfl
        rw [show st s (8 * 10) = st s 80 from rfl] at hv16 ⊢
        generalize hv : st s 80 = v at hv16 hbls ⊢
        repeat (first | refine JC.seq ?_ | refine JC.region ?_ | refine JC.exit ?_ | refine JE.next ?_ | refine JE.then_exit ?_ | refine JE.blk_hit ?_)
        refine JL.litZ Tryd.underlying26 e5 rfl fun b16 _ => ?_
        repeat (first | refine JL.q (by (apply OQ.assign; exact rfl)) rfl ?_ | refine JC.seq ?_ | refine JC.region ?_ | refine JC.block ?_ | refine JL.nil ?_ | refine JE.next ?_)
        refine JC.loop (ι := Nat × Nat × Nat) (fun i => [(7, .slice (some ⟨b7, 0, none⟩) 16 cap7), (10, .slice (some ⟨b10, 0, none⟩) 16 cap10), (16, .slice (some ⟨i.2.1, 0, none⟩) (4 * i.1) i.2.2), (17, N i.1)])
          (fun i => [⟨i.2.1, Sl.Own 5 1 (4 * i.1) i.2.2 ((bl s i.1).map U8), true⟩, ⟨b10, Sl.Own 43 1 16 cap10 (v.map U32), true⟩, ⟨b7, Sl.Own 43 1 16 cap7 (s.map U32), true⟩])
          (fun i => 16 - i.1) (fun i => i.1 ≤ 16) (0, b16, 0) (by dsimp only; omega) (by repeat (first | exact SubE.nil | refine SubE.cons _ _ _ rfl ?_)) (.keep _ _ _ _ _ _ (fun _ h => h) (.keep _ _ _ _ _ _ (fun _ h => h) (.keep _ _ _ _ _ _ (fun _ h => h) (Less.nil _)))) ?_
        rintro ⟨i, b16, cap16⟩ hi
        dsimp only at hi ⊢
        repeat (first | refine JL.q (by first | (apply OQ.move; exact rfl) | (apply OQ.lssN; exact rfl; exact rfl)) rfl ?_ | refine JC.seq ?_ | refine JC.region ?_ | refine JL.nil ?_ | refine JE.next ?_)
        refine JC.cond rfl (fun h => ?_) (fun h => ?_)
        · have hi' : i < 16 := of_decide_eq_true h
          clear h hi
          repeat (first | refine JC.seq ?_ | refine JC.block ?_ | refine JC.skip ?_ | refine JE.next ?_)
          refine JC.quiet mixQ (by kernel_rfl) ?_
          repeat (first | refine JL.q (by first | (apply OQ.idxS0; exact Tryd.underlying65; exact q1s; exact rfl; exact rfl; exact hi') | (apply OQ.load (b := b10); exact q1c; exact rfl; exact (.there .here); exact (Sl.Own.cell (w_get (by omega)))) | (apply OQ.load (b := b7); exact q1c; exact rfl; exact (.there (.there .here)); exact (Sl.Own.cell (w_get (by omega)))) | (apply OQ.move; exact rfl) | (apply OQ.assign; exact rfl) | (apply OQ.add32; exact rfl; exact rfl) | (apply OQ.shr32; exact rfl; exact rfl) | (apply OQ.conv32_8; exact rfl; exact rfl; exact rfl)) rfl ?_ | refine JQ.q (by first | (apply OQ.idxS0; exact Tryd.underlying65; exact q1s; exact rfl; exact rfl; exact hi') | (apply OQ.load (b := b10); exact q1c; exact rfl; exact (.there .here); exact (Sl.Own.cell (w_get (by omega)))) | (apply OQ.load (b := b7); exact q1c; exact rfl; exact (.there (.there .here)); exact (Sl.Own.cell (w_get (by omega)))) | (apply OQ.move; exact rfl) | (apply OQ.assign; exact rfl) | (apply OQ.add32; exact rfl; exact rfl) | (apply OQ.shr32; exact rfl; exact rfl) | (apply OQ.conv32_8; exact rfl; exact rfl; exact rfl)) rfl ?_ | refine JC.region ?_ | refine JQ.nil ?_ | refine JE.next ?_)
          have hnx := hbls i
          generalize v.getD i 0 + s.getD i 0 = z at hnx
          refine JL.litL (xs := [.tmp 130, .tmp 133, .tmp 136, .tmp 139]) (vs := (le4 z).map U8) Tryd.underlying26 e5 rfl rfl rfl (all8 _) (by simp [Value.cells]) rfl (by decide) (by decide) rfl fun b140 _ => ?_
          refine JL.append (cs := (le4 z).map U8) (fun b' cap' => [⟨b140, Row 5 ((le4 z).map U8), true⟩, ⟨b', Sl.Own 5 1 (4 * i + 4) cap' ((bl s i).map U8 ++ (le4 z).map U8), true⟩, ⟨b10, Sl.Own 43 1 16 cap10 (v.map U32), true⟩, ⟨b7, Sl.Own 43 1 16 cap7 (s.map U32), true⟩]) Tryd.underlying26 e5 rfl rfl (by intro _ _; repeat (first | exact Repl.here | apply Repl.there)) rfl (fun w' hw' => ?_) (of_u8 _) rfl (by decide) (by omega) (by omega) rfl fun b16' cap16' => ?_
          · obtain ⟨o, ho, hA⟩ := hw'.get .here
            exact Reads.block ho (Row.all _ hA)
          rw [← List.map_append, ← hnx, show 4 * i + 4 = 4 * (i + 1) by omega]
          repeat (first | refine JL.q (by first | (apply OQ.move; exact rfl) | (apply OQ.assign; exact rfl) | (apply OQ.addN; exact rfl; exact rfl; exact (by (try simp only []); omega))) rfl ?_ | refine JC.region ?_ | refine JL.nil ?_ | refine JE.next ?_ | refine JE.blk_normal ?_)
          exact JE.again (ι := Nat × Nat × Nat) (i := (i, b16, cap16)) (i + 1, b16', cap16') (by dsimp only; omega) (by dsimp only; omega) (by repeat (first | exact SubE.nil | refine SubE.cons _ _ _ rfl ?_)) (.drop _ _ _ (Less.refl _))
        · have hi' : ¬ i < 16 := of_decide_eq_false h
          obtain rfl : i = 16 := by omega
          clear h hi hi'
          rw [hks]
          repeat (first | refine JL.q (by first | (apply OQ.move; exact rfl) | (apply OQ.assign; exact rfl)) rfl ?_ | refine JC.seq ?_ | refine JC.region ?_ | refine JC.exit ?_ | refine JL.nil ?_ | refine JE.next ?_ | refine JE.then_exit ?_ | refine JE.blk_hit ?_)
          refine JC.ret ?_
          skip
          exact JE.ret1 rfl (RV.tmp rfl) fun w' hw => ⟨(b16, cap16), rfl, hw.weak (.keep _ _ _ _ _ _ (fun _ h => h) (Less.nil _))⟩
end Go.Proofs.YtakgpocehoeakaaDoor

/-
  Of no statement by itself: what stream.Turn gives.
  Conditions: the theorem's own; the listed table of quarters.
-/
namespace Go.Proofs.YtakgpocehoeakaaDoor
set_option maxRecDepth 10000
open Sl Sha Str

theorem goes_turnb : Goes Tryd.prog 18 := ⟨_, Tryd.func18, rfl, by kernel_rfl⟩
theorem OQ.slS_in {P : Program} {n : Nat} {E : Env} {C : World → Prop} {dst : Option Tmp} {t ty e : TypeId} {pos : String} {aft : Array Edge} {g : Option (Nat × Bool)} {x y z : Operand} {len cap b j lo hi : Nat} (hu : P.underlying t = some (.slice e)) (hz : szT P e = some 1) (hx : ev E x = some (.slice (some ⟨b, j, none⟩) len cap)) (hl : ev E y = some (N lo)) (hh : ev E z = some (N hi)) (h : lo ≤ hi) (h' : hi ≤ cap) (h2 : lo < cap) :
    OQ P n E C ⟨dst, .slice t x (some y) (some z) none, ty, pos, aft, g⟩ (.slice (some ⟨b, j + lo, none⟩) (hi - lo) (cap - lo)) := by
  have := OQ.slS_lohi (P := P) (n := n) (E := E) (C := C) (dst := dst) (ty := ty) (pos := pos) (aft := aft) (g := g) hu hz hx hl hh h h'
  rw [if_neg (by omega), Nat.mul_one] at this
  simpa [add_off] using this

section
variable (key : List B) (ctr : W) (nonce l : List B)
/-- turned as far as j, noughts behind -/
def tz (j : Nat) : List B := turn key ctr nonce (l.take j) ++ List.replicate (l.length - j) 0
theorem tz_length (j : Nat) (h : j ≤ l.length) : ((tz key ctr nonce l j).map U8).length = l.length := by simp [tz, turn_length]; omega
theorem tz_zero : List.replicate (l.length * 1) (Value.int .u8 0) = (tz key ctr nonce l (min (64 * 0) l.length)).map U8 := by simp [tz, turn, turnAt, U8]
theorem tz_all : tz key ctr nonce l l.length = turn key ctr nonce l := by simp [tz]
theorem tz_set (q i : Nat) (hi : i < 64) (h : 64 * q + i < l.length) : ((tz key ctr nonce l (64 * q + i)).map U8).set (64 * q + i) (U8 (l.getD (64 * q + i) 0 ^^^ (ks key (ctr + BitVec.ofNat 32 q) nonce).getD i 0)) = (tz key ctr nonce l (64 * q + i + 1)).map U8 := by
  rw [← sb_at key ctr nonce q i hi]
  generalize 64 * q + i = j at h ⊢
  have hl : (turn key ctr nonce (l.take j)).length = j := by rw [turn_length, List.length_take]; omega
  rw [← List.map_set, tz, List.set_append_right _ _ (by omega), hl, Nat.sub_self, tz, turn_succ key ctr nonce l j h, show l.length - j = (l.length - (j + 1)) + 1 by omega, List.replicate_succ, List.set_cons_zero]
  simp
theorem ctr_succ (q : Nat) : ctr + BitVec.ofNat 32 q + 1#32 = ctr + BitVec.ofNat 32 (q + 1) := by rw [BitVec.add_assoc, BitVec.ofNat_add]
end

set_option maxHeartbeats 16000000 in
set_option maxRecDepth 4000 in
theorem turn_any' (key : List B) (ctr : W) (nonce : List B) (s : Sl8) (hk : key.length = 32) (hn : nonce.length = 12) (w : World) (hQ : GQ w) (hs : s.ok w) (hsl : s.l.length < 140737488355328) :
    Calls Tryd.prog 18 [.agg (key.map U8).toArray, U32 ctr, .agg (nonce.map U8).toArray, s.v].toArray w fun e w' => ∃ b, e = .returned (.slice (some ⟨b, 0, none⟩) s.l.length s.l.length) ∧ Holds w [] [⟨b, Row 5 ((turn key ctr nonce s.l).map U8), true⟩] w' := by
  refine enter (n := 60) Tryd.func18 rfl rfl rfl (Holds.start w []) ?_
  repeat (first | refine JC.seq ?_ | refine JC.region ?_)
  refine JL.box (r := key.map U8) rfl rfl rfl fun b4 _ => ?_
  refine JL.box (r := nonce.map U8) rfl rfl rfl fun b6 _ => ?_
  repeat (first | refine JL.q (by first | (apply OQ.load_agg (cs := key.map U8); exact a25; exact s25; exact rfl; exact (.there .here); exact (by simpa using hk); exact Row.all) | (apply OQ.load_agg (cs := nonce.map U8); exact noa; exact nos; exact rfl; exact .here; exact (by simpa using hn); exact Row.all) | (apply OQ.callx; exact goes_beginning; exact rfl; exact (fun w' _ => beginning_any key ctr nonce hk hn w')) | (apply OQ.move; exact rfl) | (apply OQ.assign; exact rfl)) rfl ?_ | refine JC.seq ?_ | refine JC.region ?_ | refine JL.nil ?_ | refine JE.next ?_)
  refine JL.alloc w16z rfl fun b9 _ => ?_
  have hbl : ∀ c, ((sbegin key c nonce).map U32).length = 16 := fun c => by rw [List.length_map, sbegin_length]
  refine JL.store_all w16s rfl rfl (hbl _) (all32q _) .here (by simp) ?_
  repeat (first | refine JL.q (by first | (apply OQ.move; exact rfl) | (apply OQ.len; exact rfl; exact rfl)) rfl ?_ | refine JC.seq ?_ | refine JC.region ?_ | refine JL.nil ?_ | refine JE.next ?_)
  refine JL.make Tryd.underlying26 e5 rfl (by decide) (c := s.l.length) rfl rfl (by omega) (by omega) rfl fun b10 _ => ?_
  rw [tz_zero key ctr nonce]
  repeat (first | refine JL.q (by (apply OQ.assign; exact rfl)) rfl ?_ | refine JC.seq ?_ | refine JC.region ?_ | refine JC.block ?_ | refine JL.nil ?_ | refine JE.next ?_)
  refine JC.loop (fun q : Nat => [(3, s.v), (9, Pt b9 0), (10, .slice (some ⟨b10, 0, none⟩) s.l.length s.l.length), (11, N (64 * q))])
    (fun q => [⟨b10, Row 5 ((tz key ctr nonce s.l (min (64 * q) s.l.length)).map U8), true⟩, ⟨b9, Row 52 ((sbegin key (ctr + BitVec.ofNat 32 q) nonce).map U32), true⟩])
    (fun q => s.l.length + 64 - 64 * q) (fun q => 64 * q < s.l.length + 64) 0 (by omega) (by repeat (first | exact SubE.nil | refine SubE.cons _ _ _ rfl ?_)) (.keep _ _ _ _ _ _ (fun _ h => h) (.keep _ _ _ _ _ _ (fun o ho => by simpa using ho) (Less.nil _))) ?_
  intro q hq
  repeat (first | refine JL.q (by first | (apply OQ.move; exact rfl) | (apply OQ.len; exact rfl; exact rfl) | (apply OQ.lssN; exact rfl; exact rfl)) rfl ?_ | refine JC.seq ?_ | refine JC.region ?_ | refine JL.nil ?_ | refine JE.next ?_)
  refine JC.cond rfl (fun h => ?_) (fun h => ?_)
  · have hq' : 64 * q < s.l.length := of_decide_eq_true h
    clear h hq
    obtain ⟨bb, jb, hae, hcell⟩ := hs.reads.at (by simp; omega)
    have hav : s.v = .slice (some ⟨bb, jb, none⟩) s.l.length s.cap := by rw [← hae]; rfl
    have hcap := hs.len
    have hksl : ((ks key (ctr + BitVec.ofNat 32 q) nonce).map U8).length = 64 := by rw [List.length_map, ks_length]
    repeat (first | refine JL.q (by first | (apply OQ.load_agg (cs := (sbegin key (ctr + BitVec.ofNat 32 q) nonce).map U32); exact w16a; exact w16s; exact rfl; exact (.there .here); exact (hbl _); exact Row.all) | (apply OQ.callx; exact goes_mixed; exact rfl; exact (fun w' hw' => mixed_any (sbegin key (ctr + BitVec.ofNat 32 q) nonce) (sbegin_length _ _ _) w' (hQ.chg hw'.chg (by simp))))) rfl ?_ | refine JC.seq ?_ | refine JC.region ?_ | refine JC.block ?_ | refine JC.skip ?_ | refine JE.next ?_)
    refine JL.alloc u64z rfl fun b12 _ => ?_
    refine JL.store_all s60 rfl rfl hksl (all8 _) .here (by simp) ?_
    rw [hav]
    obtain ⟨c, hc⟩ : ∃ c, c = min (64 * q + 64) s.l.length - 64 * q := ⟨_, rfl⟩
    have hc1 : c ≤ 64 := by omega
    have hc2 : 64 * q + c ≤ s.l.length := by omega
    repeat (first | refine JL.q (by first | (apply OQ.minN; exact rfl; exact rfl) | (apply OQ.slS_in; exact Tryd.underlying26; exact s5; exact rfl; exact rfl; exact rfl; exact (by (try simp only []); omega); exact (by (try simp only []); omega); exact (by (try simp only []); omega)) | (apply OQ.move; exact rfl) | (apply OQ.len; exact rfl; exact rfl) | (apply OQ.addN; exact rfl; exact rfl; exact (by (try simp only []); omega))) rfl ?_ | refine JC.seq ?_ | refine JC.region ?_ | refine JC.block ?_ | refine JL.nil ?_ | refine JE.next ?_)
    rw [← hc, Nat.min_eq_left (by omega : 64 * q ≤ s.l.length)]
    refine JC.loop (fun i : Nat => [(3, .slice (some ⟨bb, jb, none⟩) s.l.length s.cap), (9, Pt b9 0), (10, .slice (some ⟨b10, 0, none⟩) s.l.length s.l.length), (11, N (64 * q)), (12, Pt b12 0), (37, .slice (some ⟨bb, jb + 64 * q, none⟩) c (s.cap - 64 * q)), (38, N c), (39, N i)])
      (fun i => [⟨b12, Row 54 ((ks key (ctr + BitVec.ofNat 32 q) nonce).map U8), true⟩, ⟨b10, Row 5 ((tz key ctr nonce s.l (64 * q + i)).map U8), true⟩, ⟨b9, Row 52 ((sbegin key (ctr + BitVec.ofNat 32 q) nonce).map U32), true⟩])
      (fun i => c - i) (fun i => i ≤ c) 0 (by omega) (by repeat (first | exact SubE.nil | refine SubE.cons _ _ _ rfl ?_)) (Less.refl _) ?_
    intro i hi
    repeat (first | refine JL.q (by (apply OQ.lssN; exact rfl; exact rfl)) rfl ?_ | refine JC.seq ?_ | refine JC.region ?_ | refine JL.nil ?_ | refine JE.next ?_)
    refine JC.cond rfl (fun h => ?_) (fun h => ?_)
    · have hi' : i < c := of_decide_eq_true h
      clear h hi
      have hci : w.cell? ⟨bb, jb + 64 * q + i, none⟩ = some (U8 (s.l.getD (64 * q + i) 0)) := by
        rw [Nat.add_assoc]
        exact hcell _ _ (map_at U8 0 (by omega))
      repeat (first | refine JL.q (by first | (apply OQ.idxS1; exact Tryd.underlying26; exact s5; exact rfl; exact rfl; exact hi') | (apply OQ.load_old; exact c5; exact rfl; exact (block_lt_of_cell hci); exact (by simp); exact hci) | (apply OQ.idxA0; exact Tryd.underlying54; exact s5; exact rfl; exact rfl; exact (by (try simp only []); omega)) | (apply OQ.load; exact c5; exact rfl; exact .here; exact (Row.cell (map_at U8 0 (by rw [ks_length]; omega)))) | (apply OQ.idxS0; exact Tryd.underlying26; exact s5; exact rfl; exact rfl; exact (show 64 * q + i < s.l.length by omega)) | (apply OQ.move; exact rfl) | (apply OQ.assign; exact rfl) | (apply OQ.xor8; exact rfl; exact rfl) | (apply OQ.addN; exact rfl; exact rfl; exact (by (try simp only []); omega))) rfl ?_ | refine JC.seq ?_ | refine JC.region ?_ | refine JC.block ?_ | refine JC.skip ?_ | refine JL.nil ?_ | refine JE.next ?_)
      refine JL.store_eq s5 rfl rfl rfl rfl (.there .here) (by rw [tz_length _ _ _ _ _ (by omega)]; omega) (tz_set key ctr nonce s.l q i (by omega) (by omega)) ?_
      repeat (first | refine JL.q (by first | (apply OQ.move; exact rfl) | (apply OQ.addN; exact rfl; exact rfl; exact (by (try simp only []); omega))) rfl ?_ | refine JC.region ?_ | refine JL.nil ?_ | refine JE.next ?_ | refine JE.blk_normal ?_)
      exact JE.again (i := i) (i + 1) (by omega) (by omega) (by repeat (first | exact SubE.nil | refine SubE.cons _ _ _ rfl ?_)) (Less.refl _)
    · have hi' : ¬ i < c := of_decide_eq_false h
      obtain rfl : i = c := by omega
      clear h hi hi'
      have hg : ((sbegin key (ctr + BitVec.ofNat 32 q) nonce).map U32)[12]? = some (U32 (ctr + BitVec.ofNat 32 q)) := by
        have := w_get (s := sbegin key (ctr + BitVec.ofNat 32 q) nonce) (j := 12) (by rw [sbegin_length]; decide)
        rwa [sbegin_get] at this
      have hset : ((sbegin key (ctr + BitVec.ofNat 32 q) nonce).map U32).set 12 (U32 (ctr + BitVec.ofNat 32 q + 1#32)) = (sbegin key (ctr + BitVec.ofNat 32 (q + 1)) nonce).map U32 := by
        rw [← List.map_set, sbegin_set, ctr_succ]
      rw [← hav]
      repeat (first | refine JL.q (by first | (apply OQ.idxA0; exact Tryd.underlying52; exact q1s; exact rfl; exact rfl; exact (by decide)) | (apply OQ.load; exact q1c; exact rfl; exact (.there (.there .here)); exact (Row.cell hg)) | (apply OQ.add32 (b := 1#32); exact rfl; exact rfl)) rfl ?_ | refine JC.region ?_ | refine JC.exit ?_ | refine JE.next ?_ | refine JE.then_exit ?_ | refine JE.blk_hit ?_)
      refine JL.store_eq q1s rfl rfl rfl rfl (.there (.there .here)) (by rw [hbl]; decide) hset ?_
      repeat (first | refine JL.q (by first | (apply OQ.move; exact rfl) | (apply OQ.assign; exact rfl) | (apply OQ.addN; exact rfl; exact rfl; exact (by (try simp only []); omega))) rfl ?_ | refine JC.region ?_ | refine JL.nil ?_ | refine JE.next ?_ | refine JE.blk_normal ?_)
      rw [show 64 * q + 64 = 64 * (q + 1) by omega]
      exact JE.again (i := q) (q + 1) (by omega) (by omega) (by repeat (first | exact SubE.nil | refine SubE.cons _ _ _ rfl ?_)) (.drop _ _ _ (.keep _ _ _ _ _ _ (fun o ho => by rw [show min (64 * (q + 1)) s.l.length = 64 * q + i by omega]; exact ho) (Less.refl _)))
  · have hq' : ¬ 64 * q < s.l.length := of_decide_eq_false h
    clear h
    repeat (first | refine JL.q (by first | (apply OQ.move; exact rfl) | (apply OQ.assign; exact rfl)) rfl ?_ | refine JC.seq ?_ | refine JC.region ?_ | refine JC.exit ?_ | refine JL.nil ?_ | refine JE.next ?_ | refine JE.then_exit ?_ | refine JE.blk_hit ?_)
    refine JC.ret ?_
    skip
    refine JE.ret1 rfl (RV.tmp rfl) fun w' hw => ⟨b10, rfl, hw.weak (.keep _ _ _ _ _ _ (fun o ho => ?_) (Less.nil _))⟩
    rw [Nat.min_eq_right (by omega), tz_all] at ho
    exact ho
end Go.Proofs.YtakgpocehoeakaaDoor

/-
  Of no statement by itself: what the reference's Turn gives.
  Conditions: each theorem's own.
-/
namespace Go.Proofs.YtakgpocehoeakaaDoor
set_option maxRecDepth 10000
open Sl Sha Str

theorem goes_rturn : Goes Tryd.prog 22 := ⟨_, Tryd.func22, rfl, by kernel_rfl⟩
def needK : Nat → List (Nat × Nat)
  | 3 => [(1, 42), (2, 43)]
  | 4 => [(3, 44)]
  | 8 => [(6, 47), (7, 48)]
  | 9 => [(5, 46), (8, 49)]
  | 10 => [(9, 50)]
  | 11 => [(4, 45), (10, 51)]
  | 12 => [(11, 52)]
  | 13 => [(0, 41), (12, 53)]
  | 14 => [(13, 54)]
  | _ => []
def inpK : Nat → List Nat
  | 10 => [15]
  | 13 => [16, 12]
  | _ => []
def eatK : Nat → List Nat
  | 13 => [16]
  | _ => []
def srcK : Nat → Option Nat
  | 14 => some 13
  | _ => none

set_option maxHeartbeats 16000000 in
set_option maxRecDepth 8000 in
theorem rturn_any (key : List B) (ctr : W) (nonce : List B) (s : Sl8) (hk : key.length = 32) (hn : nonce.length = 12) (w : World) (hs : s.ok w) (hsl : s.l.length < 35184372088832) :
    Calls Tryd.prog 22 [.agg (key.map U8).toArray, U32 ctr, .agg (nonce.map U8).toArray, s.v].toArray w fun e w' => ∃ x : Nat × Nat, e = .returned (.slice (some ⟨x.1, 0, none⟩) s.l.length x.2) ∧ Holds w [] [⟨x.1, Sl.Own 5 1 s.l.length x.2 ((turn key ctr nonce s.l).map U8), true⟩] w' := by
  refine enter (n := 56) Tryd.func22 rfl rfl rfl (Holds.start w []) ?_
  repeat (first | refine JC.seq ?_ | refine JC.region ?_)
  refine JL.box (r := key.map U8) rfl rfl rfl fun b4 _ => ?_
  refine JL.box (r := nonce.map U8) rfl rfl rfl fun b6 _ => ?_
  repeat (first | refine JL.q (by (apply OQ.assign; exact rfl)) rfl ?_ | refine JC.seq ?_ | refine JC.region ?_ | refine JL.nil ?_ | refine JE.next ?_)
  refine JL.litZ Tryd.underlying26 e5 rfl fun b9 _ => ?_
  repeat (first | refine JL.q (by (apply OQ.assign; exact rfl)) rfl ?_ | refine JC.seq ?_ | refine JC.region ?_ | refine JC.block ?_ | refine JL.nil ?_ | refine JE.next ?_)
  refine JC.loop (ι := Nat × Nat × Nat) (fun i => [(1, U32 ctr), (3, s.v), (4, Pt b4 0), (6, Pt b6 0), (9, .slice (some ⟨i.2.1, 0, none⟩) (min (64 * i.1) s.l.length) i.2.2), (10, N (64 * i.1))])
    (fun i => [⟨i.2.1, Sl.Own 5 1 (min (64 * i.1) s.l.length) i.2.2 ((turn key ctr nonce (s.l.take (min (64 * i.1) s.l.length))).map U8), true⟩, ⟨b6, Row 25 (nonce.map U8), true⟩, ⟨b4, Row 23 (key.map U8), true⟩])
    (fun i => s.l.length + 64 - 64 * i.1) (fun i => 64 * i.1 < s.l.length + 64) (0, b9, 0) (by dsimp only; omega) ?_ (.keep _ _ _ _ _ _ (fun o ho => by simpa [turn, turnAt] using ho) (Less.refl _)) ?_
  · dsimp only
    rw [show min (64 * 0) s.l.length = 0 by omega]
    exact (by repeat (first | exact SubE.nil | refine SubE.cons _ _ _ rfl ?_))
  rintro ⟨q, b9, cap9⟩ hq
  dsimp only at hq ⊢
  repeat (first | refine JL.q (by first | (apply OQ.move; exact rfl) | (apply OQ.len; exact rfl; exact rfl) | (apply OQ.lssN; exact rfl; exact rfl)) rfl ?_ | refine JC.seq ?_ | refine JC.region ?_ | refine JL.nil ?_ | refine JE.next ?_)
  refine JC.cond rfl (fun h => ?_) (fun h => ?_)
  · have hq' : 64 * q < s.l.length := of_decide_eq_true h
    clear h hq
    obtain ⟨bb, jb, hae, hcell⟩ := hs.reads.at (by simp; omega)
    have hav : s.v = .slice (some ⟨bb, jb, none⟩) s.l.length s.cap := by rw [← hae]; rfl
    have hcap := hs.len
    rw [Nat.min_eq_left (by omega : 64 * q ≤ s.l.length)]
    repeat (first | refine JL.q (by first | (apply OQ.load_agg (cs := key.map U8); exact a25; exact s25; exact rfl; exact (.there (.there .here)); exact (by simpa using hk); exact Row.all) | (apply OQ.load_agg (cs := nonce.map U8); exact noa; exact nos; exact rfl; exact (.there .here); exact (by simpa using hn); exact Row.all) | (apply OQ.convN_32; exact rfl; exact rfl; exact rfl) | (apply OQ.move; exact rfl) | (apply OQ.add32; exact rfl; exact rfl) | (apply OQ.quoN; exact rfl; exact rfl; exact (by (try simp only []); omega); exact (by (try simp only []); omega))) rfl ?_ | refine JC.seq ?_ | refine JC.region ?_ | refine JC.block ?_ | refine JC.skip ?_ | refine JE.next ?_)
    rw [Nat.mul_div_cancel_left q (by decide)]
    refine JL.callg (ι := Nat × Nat) (fun x => .slice (some ⟨x.1, 0, none⟩) 64 x.2) (fun x => [⟨x.1, Sl.Own 5 1 64 x.2 ((ks key (ctr + BitVec.ofNat 32 q) nonce).map U8), true⟩]) goes_rblock rfl rfl (fun i => by simp) (fun w' _ => rblock_any key (ctr + BitVec.ofNat 32 q) nonce hk hn w') ?_
    rintro ⟨b11, cap11⟩
    dsimp only
    repeat (first | refine JL.q (by first | (apply OQ.move; exact rfl) | (apply OQ.assign; exact rfl)) rfl ?_ | refine JC.seq ?_ | refine JC.region ?_ | refine JC.block ?_ | refine JL.nil ?_ | refine JE.next ?_)
    rw [hav]
    have hsucc := fun i (hi : i < 64) (h : 64 * q + i < s.l.length) => (turn_succ key ctr nonce s.l (64 * q + i) h).trans (by rw [sb_at key ctr nonce q i hi])
    have hksl := ks_length key (ctr + BitVec.ofNat 32 q) nonce
    generalize ks key (ctr + BitVec.ofNat 32 q) nonce = kk0 at hsucc hksl
    obtain ⟨c, hc⟩ : ∃ c, c = min (64 * q + 64) s.l.length - 64 * q := ⟨_, rfl⟩
    refine JC.loop (ι := Nat × Nat × Nat) (fun i => [(1, U32 ctr), (3, .slice (some ⟨bb, jb, none⟩) s.l.length s.cap), (4, Pt b4 0), (6, Pt b6 0), (9, .slice (some ⟨i.2.1, 0, none⟩) (64 * q + i.1) i.2.2), (10, N (64 * q)), (11, .slice (some ⟨b11, 0, none⟩) 64 cap11), (12, N (64 * q + i.1))])
      (fun i => [⟨b11, Sl.Own 5 1 64 cap11 (kk0.map U8), true⟩, ⟨i.2.1, Sl.Own 5 1 (64 * q + i.1) i.2.2 ((turn key ctr nonce (s.l.take (64 * q + i.1))).map U8), true⟩, ⟨b6, Row 25 (nonce.map U8), true⟩, ⟨b4, Row 23 (key.map U8), true⟩])
      (fun i => c - i.1) (fun i => i.1 ≤ c) (0, b9, cap9) (by dsimp only; omega) (by repeat (first | exact SubE.nil | refine SubE.cons _ _ _ rfl ?_)) (Less.refl _) ?_
    rintro ⟨i, b9, cap9⟩ hi
    dsimp only at hi ⊢
    by_cases h : i < c
    · have h1 : 64 * q + i < 64 * q + 64 := by omega
      have h2 : 64 * q + i < s.l.length := by omega
      have hi64 : i < 64 := by omega
      have hx := hsucc i hi64 h2
      have hci : w.cell? ⟨bb, jb + (64 * q + i), none⟩ = some (U8 (s.l.getD (64 * q + i) 0)) := hcell _ _ (map_at U8 0 h2)
      have hsub : 64 * q + i - 64 * q = i := by omega
      repeat (first | refine JL.q (by first | (apply OQ.lssN_t; exact rfl; exact rfl; exact h1) | (apply OQ.lssN_t; exact rfl; exact rfl; exact h2) | (apply OQ.pick_t; exact rfl; exact rfl) | (apply OQ.move; exact rfl) | (apply OQ.len; exact rfl; exact rfl) | (apply OQ.addN; exact rfl; exact rfl; exact (by (try simp only []); omega))) rfl ?_ | refine JC.seq ?_ | refine JC.region ?_ | refine JL.nil ?_ | refine JE.next ?_ | refine JL.gon rfl rfl ?_)
      refine JC.cond_true rfl rfl ?_
      repeat (first | refine JC.seq ?_ | refine JC.block ?_ | refine JC.skip ?_ | refine JE.next ?_)
      let vs : Nat → X → Value := fun j x => match j with
        | 0 => .slice (some ⟨b9, 0, none⟩) (64 * q + i) cap9
        | 1 => .slice (some ⟨bb, jb, none⟩) s.l.length s.cap
        | 2 => N (64 * q + i)
        | 3 => Pt bb (jb + (64 * q + i))
        | 4 => U8 (s.l.getD (64 * q + i) 0)
        | 5 => .slice (some ⟨b11, 0, none⟩) 64 cap11
        | 6 => N (64 * q + i)
        | 7 => N (64 * q)
        | 8 => N (64 * q + i - 64 * q)
        | 9 => Pt b11 (64 * q + i - 64 * q)
        | 10 => U8 (kk0.getD i 0)
        | 11 => U8 (s.l.getD (64 * q + i) 0 ^^^ kk0.getD i 0)
        | 12 => .slice (some ⟨x.1, 0, none⟩) 1 1
        | _ => .slice (some ⟨x.1, 0, none⟩) (64 * q + i + 1) x.2
      let Ms : Nat → X → List Ent := fun j x => match j with
        | 12 => [⟨x.1, Row 5 [U8 (s.l.getD (64 * q + i) 0 ^^^ kk0.getD i 0)], true⟩]
        | 13 => [⟨x.1, Sl.Own 5 1 (64 * q + i + 1) x.2 ((turn key ctr nonce (s.l.take (64 * q + i))).map U8 ++ [U8 (s.l.getD (64 * q + i) 0 ^^^ kk0.getD i 0)]), true⟩]
        | 15 => [⟨b11, Sl.Own 5 1 64 cap11 (kk0.map U8), true⟩]
        | 16 => [⟨b9, Sl.Own 5 1 (64 * q + i) cap9 ((turn key ctr nonce (s.l.take (64 * q + i))).map U8), true⟩]
        | 17 => [⟨b6, Row 25 (nonce.map U8), true⟩, ⟨b4, Row 23 (key.map U8), true⟩]
        | _ => []
      refine JC.growO (g := ⟨[(1, U32 ctr), (3, .slice (some ⟨bb, jb, none⟩) s.l.length s.cap), (4, Pt b4 0), (6, Pt b6 0), (10, N (64 * q)), (11, .slice (some ⟨b11, 0, none⟩) 64 cap11), (12, N (64 * q + i))], 18, vs, Ms, needK, inpK, eatK, srcK, fun j => match j with | 0 => [(9, .slice (some ⟨b9, 0, none⟩) (64 * q + i) cap9)] | _ => []⟩) [(14, 9)] [15, 13, 17] mixQ (by repeat (first | exact SubE.nil | refine SubE.cons _ _ _ rfl ?_)) (fun j _ => match j with | 0 => (by repeat (first | exact SubE.nil | refine SubE.cons _ _ _ rfl ?_)) | _ + 1 => .nil) (Less.refl _) (by kernel_rfl) (by kernel_rfl) (by kernel_rfl) ?_ ?_
      · refine ⟨?_, ?_, ?_, ?_, ?_, ?_, ?_, ?_, ?_, ?_, ?_, ?_, ?_, ?_, ?_, trivial⟩
        iterate 12 (focus (intro x EF MF Q kk; (try refine JL.gon rfl rfl ?_); exact JL.q (by first | (apply OQ.idxS1 (b := bb); exact Tryd.underlying26; exact s5; exact rfl; exact rfl; exact h2) | (apply OQ.load_old; exact c5; exact rfl; exact (block_lt_of_cell hci); exact (by simp); exact hci) | (apply OQ.idxS0 (b := b11); exact Tryd.underlying26; exact s5; exact rfl; exact rfl; exact (by rw [hsub]; exact hi64)) | (apply OQ.load; exact c5; exact rfl; exact .here; exact (Sl.Own.cell (by rw [hsub]; exact map_at U8 0 (by omega)))) | (apply OQ.move; exact rfl) | (apply OQ.xor8; exact rfl; exact rfl) | (apply OQ.subN; exact rfl; exact rfl; exact (by (try simp only []); omega); exact (by (try simp only []); omega))) rfl (JL.nil (kk default nofun))))
        · intro x EF MF Q kk
          exact JL.lit1 Tryd.underlying26 e5 rfl rfl rfl rfl fun b _ => JL.nil (kk (b, 0) nofun)
        · intro x EF MF Q kk
          refine JL.append (cs := [U8 (s.l.getD (64 * q + i) 0 ^^^ kk0.getD i 0)]) (fun b' cap' => ⟨b', Sl.Own 5 1 (64 * q + i + 1) cap' ((turn key ctr nonce (s.l.take (64 * q + i))).map U8 ++ [U8 (s.l.getD (64 * q + i) 0 ^^^ kk0.getD i 0)]), true⟩ :: ⟨(x 12).1, Row 5 [U8 (s.l.getD (64 * q + i) 0 ^^^ kk0.getD i 0)], true⟩ :: MF) Tryd.underlying26 e5 rfl rfl (fun _ _ => .here) rfl (fun w' hw' => ?_) (by simp [Value.oneCell']) rfl (by decide) (by omega) (by omega) rfl fun b' cap' => JL.nil (kk (b', cap') nofun)
          obtain ⟨o, ho, hA⟩ := hw'.get (.there .here)
          exact Reads.block ho (Row.all _ hA)
        · intro x EF MF Q kk
          exact JL.q (OQ.assign rfl) rfl (JL.nil (kk (x 13) (fun k h => by cases h; rfl)))
      · intro x hx'
        have h14 := hx' 14 13 (by decide) rfl
        show JE _ _ _ _ _ [(9, .slice (some ⟨(x 14).1, 0, none⟩) (64 * q + i + 1) (x 14).2), (1, U32 ctr), (3, .slice (some ⟨bb, jb, none⟩) s.l.length s.cap), (4, Pt b4 0), (6, Pt b6 0), (10, N (64 * q)), (11, .slice (some ⟨b11, 0, none⟩) 64 cap11), (12, N (64 * q + i))]
          [⟨b11, Sl.Own 5 1 64 cap11 (kk0.map U8), true⟩, ⟨(x 13).1, Sl.Own 5 1 (64 * q + i + 1) (x 13).2 ((turn key ctr nonce (s.l.take (64 * q + i))).map U8 ++ [U8 (s.l.getD (64 * q + i) 0 ^^^ kk0.getD i 0)]), true⟩, ⟨b6, Row 25 (nonce.map U8), true⟩, ⟨b4, Row 23 (key.map U8), true⟩]
        rw [h14]
        obtain ⟨b9', cap9'⟩ := x 13
        clear hx' h14 x vs Ms
        dsimp only
        rw [show (turn key ctr nonce (s.l.take (64 * q + i))).map U8 ++ [U8 (s.l.getD (64 * q + i) 0 ^^^ kk0.getD i 0)] = (turn key ctr nonce (s.l.take (64 * q + i + 1))).map U8 by rw [hx]; simp, Nat.add_assoc (64 * q) i 1]
        repeat (first | refine JL.q (by first | (apply OQ.move; exact rfl) | (apply OQ.assign; exact rfl) | (apply OQ.addN; exact rfl; exact rfl; exact (by (try simp only []); omega))) rfl ?_ | refine JC.region ?_ | refine JL.nil ?_ | refine JE.next ?_ | refine JE.blk_normal ?_)
        exact JE.again (ι := Nat × Nat × Nat) (i := (i, b9, cap9)) (i + 1, b9', cap9') (by dsimp only; omega) (by dsimp only; omega) (by repeat (first | exact SubE.nil | refine SubE.cons _ _ _ rfl ?_)) (Less.refl _)
    · have hi' : i = c := by omega
      subst hi'
      rw [← hav]
      have hm : min (64 * (q + 1)) s.l.length = 64 * q + i := by omega
      by_cases h1 : 64 * q + i < 64 * q + 64
      · have h2 : ¬ 64 * q + i < s.l.length := by omega
        repeat (first | refine JL.q (by first | (apply OQ.lssN_t; exact rfl; exact rfl; exact h1) | (apply OQ.lssN_f; exact rfl; exact rfl; exact h2) | (apply OQ.pick_t; exact rfl; exact rfl) | (apply OQ.move; exact rfl) | (apply OQ.len; exact rfl; exact rfl) | (apply OQ.addN; exact rfl; exact rfl; exact (by (try simp only []); omega))) rfl ?_ | refine JC.seq ?_ | refine JC.region ?_ | refine JL.nil ?_ | refine JE.next ?_ | refine JL.gon rfl rfl ?_)
        refine JC.cond_false rfl rfl ?_
        repeat (first | refine JL.q (by first | (apply OQ.move; exact rfl) | (apply OQ.assign; exact rfl) | (apply OQ.addN; exact rfl; exact rfl; exact (by (try simp only []); omega))) rfl ?_ | refine JC.region ?_ | refine JC.exit ?_ | refine JL.nil ?_ | refine JE.next ?_ | refine JE.blk_normal ?_ | refine JE.then_exit ?_ | refine JE.blk_hit ?_)
        rw [show 64 * q + 64 = 64 * (q + 1) by omega]
        refine JE.again (ι := Nat × Nat × Nat) (i := (q, b9, cap9)) (q + 1, b9, cap9) (by dsimp only; omega) (by dsimp only; omega) ?_ (.drop _ _ _ (by dsimp only; rw [hm]; exact Less.refl _))
        dsimp only
        rw [hm]
        exact (by repeat (first | exact SubE.nil | refine SubE.cons _ _ _ rfl ?_))
      · repeat (first | refine JL.q (by first | (apply OQ.lssN_f; exact rfl; exact rfl; exact h1) | (apply OQ.pick_f; exact rfl; exact rfl) | (apply OQ.move; exact rfl) | (apply OQ.addN; exact rfl; exact rfl; exact (by (try simp only []); omega))) rfl ?_ | refine JC.seq ?_ | refine JC.region ?_ | refine JL.nil ?_ | refine JE.next ?_ | refine JL.gskip rfl rfl rfl rfl ?_)
        refine JC.cond_false rfl rfl ?_
        repeat (first | refine JL.q (by first | (apply OQ.move; exact rfl) | (apply OQ.assign; exact rfl) | (apply OQ.addN; exact rfl; exact rfl; exact (by (try simp only []); omega))) rfl ?_ | refine JC.region ?_ | refine JC.exit ?_ | refine JL.nil ?_ | refine JE.next ?_ | refine JE.blk_normal ?_ | refine JE.then_exit ?_ | refine JE.blk_hit ?_)
        rw [show 64 * q + 64 = 64 * (q + 1) by omega]
        refine JE.again (ι := Nat × Nat × Nat) (i := (q, b9, cap9)) (q + 1, b9, cap9) (by dsimp only; omega) (by dsimp only; omega) ?_ (.drop _ _ _ (by dsimp only; rw [hm]; exact Less.refl _))
        dsimp only
        rw [hm]
        exact (by repeat (first | exact SubE.nil | refine SubE.cons _ _ _ rfl ?_))
  · have hq' : ¬ 64 * q < s.l.length := of_decide_eq_false h
    clear h
    rw [Nat.min_eq_right (by omega), List.take_length]
    repeat (first | refine JL.q (by first | (apply OQ.move; exact rfl) | (apply OQ.assign; exact rfl)) rfl ?_ | refine JC.seq ?_ | refine JC.region ?_ | refine JC.exit ?_ | refine JL.nil ?_ | refine JE.next ?_ | refine JE.then_exit ?_ | refine JE.blk_hit ?_)
    refine JC.ret ?_
    skip
    exact JE.ret1 rfl (RV.tmp rfl) fun w' hw => ⟨(b9, cap9), rfl, hw.weak (.keep _ _ _ _ _ _ (fun _ h => h) (Less.nil _))⟩
end Go.Proofs.YtakgpocehoeakaaDoor

/-
  Of no statement by itself: what Turn and the reference's Turn give, once more; the two parts of a cut slice.
  Conditions: each theorem's own.
-/
namespace Go.Proofs.YtakgpocehoeakaaDoor
set_option maxRecDepth 10000
open Sl Sha Str

theorem turnO_any (key : List B) (ctr : W) (nonce : List B) (s : Sl8) {va : Value} (hva : s.v = va) (hk : key.length = 32) (hn : nonce.length = 12) (w : World) (hQ : GQ w) (hs : s.ok w) (hsl : s.l.length < 140737488355328) :
    Calls Tryd.prog 18 [.agg (key.map U8).toArray, U32 ctr, .agg (nonce.map U8).toArray, va].toArray w fun e w' => ∃ b, e = .returned (.slice (some ⟨b, 0, none⟩) s.l.length s.l.length) ∧ Holds w [] [⟨b, Sl.Own 5 1 s.l.length s.l.length ((turn key ctr nonce s.l).map U8), true⟩] w' := by
  subst hva
  exact (turn_any' key ctr nonce s hk hn w hQ hs hsl).mono fun e w' ⟨b, h1, h2⟩ => ⟨b, h1, h2.weak (.keep _ _ _ _ _ _ (row_own (by simp [turn_length])) (Less.nil _))⟩
theorem rturnO_any (key : List B) (ctr : W) (nonce : List B) (s : Sl8) {va : Value} (hva : s.v = va) (hk : key.length = 32) (hn : nonce.length = 12) (w : World) (hs : s.ok w) (hsl : s.l.length < 35184372088832) :
    Calls Tryd.prog 22 [.agg (key.map U8).toArray, U32 ctr, .agg (nonce.map U8).toArray, va].toArray w fun e w' => ∃ x : Nat × Nat, e = .returned (.slice (some ⟨x.1, 0, none⟩) s.l.length x.2) ∧ Holds w [] [⟨x.1, Sl.Own 5 1 s.l.length x.2 ((turn key ctr nonce s.l).map U8), true⟩] w' := by
  subst hva
  exact rturn_any key ctr nonce s hk hn w hs hsl
end Go.Proofs.YtakgpocehoeakaaDoor

/-
  Of no statement by itself: what seal.Seal and seal.Open give.
  Conditions: each theorem's own; the listed tables.
-/
namespace Go.Proofs.YtakgpocehoeakaaDoor
set_option maxRecDepth 10000
open Sl Sha Str

/-- sealed by two keys, and opened -/
def sealK (a1 a2 nonce side p : List B) : List B := turn a1 1#32 nonce p ++ hmac a2 (msg nonce side (turn a1 1#32 nonce p))
def openK (a1 a2 nonce side z : List B) : List B × Nat :=
  if z.length < 32 then ([], 3) else if hmac a2 (msg nonce side (z.take (z.length - 32))) = z.drop (z.length - 32) then (turn a1 1#32 nonce (z.take (z.length - 32)), 0) else ([], 10)
theorem hmacL (k b : List B) : (hmac k b).length = 32 := rfl
theorem sealK_length (a1 a2 nonce side p : List B) : (sealK a1 a2 nonce side p).length = p.length + 32 := by rw [sealK, List.length_append, turn_length, hmacL]
theorem sealK_take (a1 a2 nonce side p : List B) : (sealK a1 a2 nonce side p).take p.length = turn a1 1#32 nonce p := by
  rw [sealK, List.take_append_of_le_length (by rw [turn_length]; exact Nat.le_refl _), List.take_of_length_le (by rw [turn_length]; exact Nat.le_refl _)]
theorem sealK_drop (a1 a2 nonce side p : List B) : (sealK a1 a2 nonce side p).drop p.length = hmac a2 (msg nonce side (turn a1 1#32 nonce p)) := by
  have h := turn_length a1 1#32 nonce p
  rw [sealK, List.drop_append, h, Nat.sub_self, List.drop_zero, List.drop_of_length_le (by omega), List.nil_append]
theorem openK_sealK (a1 a2 nonce side p : List B) : openK a1 a2 nonce side (sealK a1 a2 nonce side p) = (p, 0) := by
  have h1 := sealK_length a1 a2 nonce side p
  have h2 : (sealK a1 a2 nonce side p).length - 32 = p.length := by omega
  rw [openK, if_neg (by omega), h2, sealK_take, sealK_drop, if_pos rfl, turn_twice]
theorem goes_seal : Goes Tryd.prog 9 := ⟨_, Tryd.func9, rfl, by kernel_rfl⟩
theorem goes_open : Goes Tryd.prog 10 := ⟨_, Tryd.func10, rfl, by kernel_rfl⟩

theorem messageV {nonce : List B} {s c : Sl8} {vc : Value} (hvc : c.v = vc) (hn : nonce.length = 12) {w : World} (hs : s.ok w) (hc : c.ok w) (hsl : s.l.length < 35184372088832) (hcl : c.l.length < 35184372088832) :
    Calls Tryd.prog 14 [.agg (nonce.map U8).toArray, s.v, vc].toArray w fun e w' => ∃ x : Nat × Nat, e = .returned (.slice (some ⟨x.1, 0, none⟩) (msg nonce s.l c.l).length x.2) ∧ Holds w [] [⟨x.1, Sl.Own 5 1 (msg nonce s.l c.l).length x.2 ((msg nonce s.l c.l).map U8), true⟩] w' := by
  subst hvc
  exact message_any nonce s c hn w hs hc hsl hcl
theorem tag_ok {w0 w : World} {S : List Nat} {M : List Ent} {a2 m : List B} (ha : a2.length = 32) (hml : m.length < 1000000000) {b10 bL bm cm : Nat} (hw : Holds w0 S M w) (hG : GOk w) (h1 : Has M b10 (Row 23 (a2.map U8)) true) (h2 : Has M bL (Row 26 [.slice (some ⟨bm, 0, none⟩) m.length cm]) true) (h3 : Has M bm (Sl.Own 5 1 m.length cm (m.map U8)) true) :
    Calls Tryd.prog 19 [.slice (some ⟨b10, 0, none⟩) 32 32, .slice (some ⟨bL, 0, none⟩) 1 1].toArray w fun e w'' => e = .returned (.agg ((hmac a2 m).map U8).toArray) ∧ Ext w w'' := by
  obtain ⟨o2, ho2, hA2⟩ := hw.get h2
  have := hmac_any ⟨some ⟨b10, 0, none⟩, 32, a2⟩ (some ⟨bL, 0, none⟩) 1 [⟨some ⟨bm, 0, none⟩, cm, m⟩] w hG (row_ok hw h1 rfl (Nat.le_of_eq ha)) (Reads.block ho2 (Row.all _ hA2)) (by simpa using ownb_ok hw h3) (show a2.length < 4611686018427387904 by omega) (by simp) (by simp [total]; omega)
  simpa [Sl8.v, ha] using this
def needP : Nat → List (Nat × Nat)
  | 4 => [(1, 24), (2, 25), (3, 26)]
  | 5 => [(4, 27)]
  | 6 => [(0, 23), (5, 28)]
  | 8 => [(7, 12), (6, 29)]
  | _ => []
def inpP : Nat → List Nat
  | 1 => [12]
  | 4 => [9]
  | 5 => [4]
  | 6 => [5, 10]
  | 8 => [7]
  | _ => []
def eatP : Nat → List Nat
  | 5 => [4]
  | 8 => [7]
  | _ => []
def srcP : Nat → Option Nat
  | 8 => some 7
  | _ => none
def needQ : Nat → List (Nat × Nat)
  | 4 => [(1, 34), (2, 35), (3, 36)]
  | 5 => [(4, 37)]
  | 6 => [(0, 33), (5, 38)]
  | 8 => [(7, 14), (6, 39)]
  | _ => []
def inpQ : Nat → List Nat
  | 1 => [11]
  | 5 => [4]
  | 6 => [5, 9]
  | 8 => [7]
  | _ => []

set_option maxHeartbeats 4000000 in
set_option maxRecDepth 4000 in
theorem seal_any (key nonce : List B) (s p : Sl8) (hk : key.length = 32) (hn : nonce.length = 12) (w : World) (hG : GOk w) (hQ : GQ w) (hs : s.ok w) (hp : p.ok w) (hsl : s.l.length < 100000000) (hpl : p.l.length < 100000000) :
    Calls Tryd.prog 9 [.agg (key.map U8).toArray, .agg (nonce.map U8).toArray, s.v, p.v].toArray w fun e w' => ∃ x : Nat × Nat, e = .returned (.slice (some ⟨x.1, 0, none⟩) (p.l.length + 32) x.2) ∧ Holds w [] [⟨x.1, Sl.Own 5 1 (p.l.length + 32) x.2 ((sealK (k1 key) (k2 key) nonce s.l p.l).map U8), true⟩] w' := by
  have hTwo := two_any key hk
  have h1 := k1_length key
  have h2 := k2_length key
  generalize k1 key = a1 at hTwo h1 ⊢
  generalize k2 key = a2 at hTwo h2 ⊢
  have hTl := turn_length a1 1#32 nonce p.l
  have hT0 := fun w' (h : GQ w') (h' : p.ok w') => turnO_any a1 1#32 nonce p rfl h1 hn w' h h' (by omega)
  rw [sealK]
  generalize turn a1 1#32 nonce p.l = T at hTl hT0 ⊢
  have hml := msg_length nonce s.l T
  have hM0 := fun (w' : World) (b c : Nat) (hs' : s.ok w') (h : Sl8.ok w' ⟨some ⟨b, 0, none⟩, c, T⟩) => messageV (c := ⟨some ⟨b, 0, none⟩, c, T⟩) (vc := .slice (some ⟨b, 0, none⟩) p.l.length c) (by simp [Sl8.v, hTl]) hn hs' h (show s.l.length < 35184372088832 by omega) (show T.length < 35184372088832 by omega)
  simp only [] at hM0
  rw [hn, hTl] at hml
  generalize msg nonce s.l T = m at hml hM0 ⊢
  refine enter (n := 40) Tryd.func9 rfl rfl rfl (Holds.start w []) ?_
  repeat (first | refine JC.seq ?_ | refine JC.region ?_)
  refine JL.box (r := key.map U8) rfl rfl rfl fun b4 _ => ?_
  refine JL.box (r := nonce.map U8) rfl rfl rfl fun b5 _ => ?_
  repeat (first | refine JL.q (by first | (apply OQ.load_agg (cs := key.map U8); exact a25; exact s25; exact rfl; exact (.there .here); exact (by simpa using hk); exact Row.all) | (apply OQ.callx; exact goes_two; exact rfl; exact (fun w' hw' => hTwo w' (hG.chg hw'.chg (by simp)))) | (apply OQ.extract; exact rfl; exact rfl) | (apply OQ.move; exact rfl) | (apply OQ.assign; exact rfl)) rfl ?_ | refine JC.seq ?_ | refine JC.region ?_ | refine JL.nil ?_ | refine JE.next ?_)
  refine JL.alloc zc25 rfl fun b9 _ => ?_
  refine JL.alloc zc25 rfl fun b10 _ => ?_
  skip
  refine JL.store_all s25 rfl rfl (by simpa using h1) (all8 _) (.there .here) (by simp) ?_
  refine JL.store_all s25 rfl rfl (by simpa using h2) (all8 _) .here (by simp) ?_
  repeat (first | refine JL.q (by first | (apply OQ.load_agg (cs := a1.map U8); exact a25; exact s25; exact rfl; exact (.there .here); exact (by simpa using h1); exact Row.all) | (apply OQ.load_agg (cs := nonce.map U8); exact noa; exact nos; exact rfl; exact (.there (.there .here)); exact (by simpa using hn); exact Row.all) | (apply OQ.move; exact rfl)) rfl ?_ | refine JC.seq ?_ | refine JC.region ?_ | refine JL.nil ?_ | refine JE.next ?_)
  refine JL.callg (ι := Nat) (fun b => .slice (some ⟨b, 0, none⟩) p.l.length p.l.length) (fun b => [⟨b, Sl.Own 5 1 p.l.length p.l.length (T.map U8), true⟩]) goes_turnb rfl rfl (fun i => by simp) (fun w' hw' => hT0 w' (hQ.chg hw'.chg (by simp)) (hp.holds hw' rfl)) fun b11 => ?_
  try dsimp only
  repeat (first | refine JL.q (by (apply OQ.assign; exact rfl)) rfl ?_ | refine JC.seq ?_ | refine JL.nil ?_ | refine JE.next ?_)
  let vs : Nat → X3 → Value := fun j x => match j with
    | 0 => .slice (some ⟨b10, 0, none⟩) 32 32
    | 1 => .agg (nonce.map U8).toArray
    | 2 => s.v
    | 3 => .slice (some ⟨b11, 0, none⟩) p.l.length p.l.length
    | 4 => .slice (some ⟨x.1, 0, none⟩) m.length x.2.1
    | 5 => .slice (some ⟨x.1, 0, none⟩) 1 1
    | 6 => .agg ((hmac a2 m).map U8).toArray
    | _ => Pt x.1 0
  let Ms : Nat → X3 → List Ent := fun j x => match j with
    | 4 => [⟨x.1, Sl.Own 5 1 m.length x.2.1 (m.map U8), true⟩]
    | 5 => [⟨x.1, Row 26 [.slice (some ⟨x.2.1, 0, none⟩) m.length x.2.2], true⟩, ⟨x.2.1, Sl.Own 5 1 m.length x.2.2 (m.map U8), true⟩]
    | 7 => [⟨x.1, Row 23 ((List.replicate 32 (0 : B)).map U8), true⟩]
    | 8 => [⟨x.1, Row 23 ((hmac a2 m).map U8), true⟩]
    | 9 => [⟨b11, Sl.Own 5 1 p.l.length p.l.length (T.map U8), true⟩]
    | 10 => [⟨b10, Row 23 (a2.map U8), true⟩]
    | 11 => [⟨b9, Row 23 (a1.map U8), true⟩]
    | 12 => [⟨b5, Row 25 (nonce.map U8), true⟩]
    | 13 => [⟨b4, Row 23 (key.map U8), true⟩]
    | _ => []
  refine JC.grow (g := ⟨[(2, s.v), (5, Pt b5 0), (10, Pt b10 0), (11, .slice (some ⟨b11, 0, none⟩) p.l.length p.l.length)], 14, vs, Ms, needP, inpP, eatP, srcP⟩) [(7, 12)] [8, 9] mixed (by repeat (first | exact SubE.nil | refine SubE.cons _ _ _ rfl ?_)) (Less.refl _) (by kernel_rfl) (by kernel_rfl) (by kernel_rfl) ?_ ?_
  · refine ⟨?_, ?_, ?_, ?_, ?_, ?_, ?_, ?_, ?_, trivial⟩
    iterate 4 (focus (intro x EF MF Q kk; (try refine JL.gon rfl rfl ?_); exact JL.q (by first | (apply OQ.slA; exact Tryd.underlying23; exact s5; exact rfl) | (apply OQ.load_agg (cs := nonce.map U8); exact noa; exact nos; exact rfl; exact .here; exact (by simpa using hn); exact Row.all) | (apply OQ.move; exact rfl)) rfl (JL.nil (kk default nofun))))
    · intro x EF MF Q kk
      exact JL.callg (ι := Nat × Nat) (fun x => .slice (some ⟨x.1, 0, none⟩) m.length x.2) (fun x => [⟨x.1, Sl.Own 5 1 m.length x.2 (m.map U8), true⟩]) goes_message rfl rfl (fun i => by simp) (fun w' hw' => hM0 w' b11 p.l.length (hs.holds hw' rfl) (ownb_ok hw' .here)) fun i => JL.nil (kk (i.1, i.2, 0) nofun)
    · intro x EF MF Q kk
      exact JL.lit1 Tryd.underlying56 e22 rfl rfl rfl rfl fun b _ => JL.nil (kk (b, (x 4).1, (x 4).2.1) nofun)
    · intro x EF MF Q kk
      exact JL.q (OQ.callx (vs := [.slice (some ⟨b10, 0, none⟩) 32 32, .slice (some ⟨(x 5).1, 0, none⟩) 1 1]) goes_hmac rfl fun w' hw' => tag_ok h2 (by omega) hw' (hG.chg hw'.chg (by simp)) (.there (.there .here)) .here (.there .here)) rfl (JL.nil (kk default nofun))
    · intro x EF MF Q kk
      exact JL.alloc zc25 rfl fun b _ => JL.nil (kk (b, 0, 0) nofun)
    · intro x EF MF Q kk
      exact JL.store_all s25 rfl rfl (shal _) (all8 _) .here (by simp) (JL.nil (kk (x 7) (fun k h => by cases h; rfl)))
  · intro x hx
    have h8 := hx 8 7 (by decide) rfl
    show JE _ _ _ _ _ [(12, Pt (x 7).1 0), (2, s.v), (5, Pt b5 0), (10, Pt b10 0), (11, .slice (some ⟨b11, 0, none⟩) p.l.length p.l.length)] [⟨(x 8).1, Row 23 ((hmac a2 m).map U8), true⟩, ⟨b11, Sl.Own 5 1 p.l.length p.l.length (T.map U8), true⟩]
    rw [h8]
    generalize (x 7).1 = b12
    clear hx h8 x vs Ms
    repeat (first | refine JL.q (by first | (apply OQ.move; exact rfl) | (apply OQ.len; exact rfl; exact rfl) | (apply OQ.addN; exact rfl; exact rfl; exact (by (try simp only []); omega))) rfl ?_ | refine JC.seq ?_ | refine JC.region ?_ | refine JE.next ?_)
    refine JL.make0 (c := p.l.length + 32) Tryd.underlying26 e5 rfl rfl (by omega) rfl fun b13 _ => ?_
    repeat (first | refine JL.q (by first | (apply OQ.move; exact rfl) | (apply OQ.assign; exact rfl)) rfl ?_ | refine JC.seq ?_ | refine JC.region ?_ | refine JL.nil ?_ | refine JE.next ?_)
    refine JL.append (cs := T.map U8) (fun b' cap' => [⟨b', Sl.Own 5 1 (0 + p.l.length) cap' ([] ++ T.map U8), true⟩, ⟨b12, Row 23 ((hmac a2 m).map U8), true⟩, ⟨b11, Sl.Own 5 1 p.l.length p.l.length (T.map U8), true⟩]) Tryd.underlying26 e5 rfl rfl (by intro _ _; repeat (first | exact Repl.here | apply Repl.there)) (by simpa using hTl) (fun w' hw' => (ownb_ok hw' (.there (.there .here))).reads) (of_u8 _) rfl (by decide) (by omega) (by omega) rfl fun b13 cap13 => ?_
    rw [List.nil_append, Nat.zero_add]
    repeat (first | refine JL.q (by first | (apply OQ.slA; exact Tryd.underlying23; exact s5; exact rfl) | (apply OQ.move; exact rfl) | (apply OQ.assign; exact rfl)) rfl ?_ | refine JC.seq ?_ | refine JC.region ?_ | refine JL.nil ?_ | refine JE.next ?_)
    refine JL.append (cs := (hmac a2 m).map U8) (fun b' cap' => [⟨b', Sl.Own 5 1 (p.l.length + 32) cap' (T.map U8 ++ (hmac a2 m).map U8), true⟩, ⟨b12, Row 23 ((hmac a2 m).map U8), true⟩, ⟨b11, Sl.Own 5 1 p.l.length p.l.length (T.map U8), true⟩]) Tryd.underlying26 e5 rfl rfl (by intro _ _; repeat (first | exact Repl.here | apply Repl.there)) (shal _) (fun w' hw' => (row_ok (cap := 32) hw' (.there .here) rfl (Nat.le_of_eq (hmacL _ _))).reads) (of_u8 _) rfl (by decide) (by omega) (by omega) rfl fun b13 cap13 => ?_
    rw [← List.map_append]
    repeat (first | refine JL.q (by (apply OQ.assign; exact rfl)) rfl ?_ | refine JL.nil ?_ | refine JE.next ?_)
    refine JC.ret ?_
    skip
    exact JE.ret1 rfl (RV.tmp rfl) fun w' hw => ⟨(b13, cap13), rfl, hw.weak (.keep _ _ _ _ _ _ (fun _ h => h) (Less.nil _))⟩

set_option maxHeartbeats 4000000 in
set_option maxRecDepth 4000 in
theorem open_any (key nonce : List B) (s z : Sl8) (hk : key.length = 32) (hn : nonce.length = 12) (w : World) (hG : GOk w) (hQ : GQ w) (hs : s.ok w) (hz : z.ok w) (hsl : s.l.length < 100000000) (hzl : z.l.length < 100000000) :
    Calls Tryd.prog 10 [.agg (key.map U8).toArray, .agg (nonce.map U8).toArray, s.v, z.v].toArray w fun e w' => ∃ s' : Sl8, e = .returned (.tuple #[s'.v, N (openK (k1 key) (k2 key) nonce s.l z.l).2]) ∧ Gave s' (openK (k1 key) (k2 key) nonce s.l z.l).1 s'.cap ∧ Holds w [] s'.ents w' := by
  have hTwo := two_any key hk
  have h1 := k1_length key
  have h2 := k2_length key
  generalize k1 key = a1 at hTwo h1 ⊢
  generalize k2 key = a2 at hTwo h2 ⊢
  refine enter (n := 48) Tryd.func10 rfl rfl rfl (Holds.start w []) ?_
  repeat (first | refine JC.seq ?_ | refine JC.region ?_)
  refine JL.box (r := key.map U8) rfl rfl rfl fun b4 _ => ?_
  refine JL.box (r := nonce.map U8) rfl rfl rfl fun b5 _ => ?_
  by_cases hlt : z.l.length < 32
  · rw [openK, if_pos hlt]
    repeat (first | refine JL.q (by first | (apply OQ.lssN_t; exact rfl; exact rfl; exact hlt) | (apply OQ.move; exact rfl) | (apply OQ.assign; exact rfl) | (apply OQ.len; exact rfl; exact rfl)) rfl ?_ | refine JC.seq ?_ | refine JC.region ?_ | refine JL.nil ?_ | refine JE.next ?_)
    refine JC.cond_true rfl rfl ?_
    repeat (first | refine JL.q (by (apply OQ.assign; exact rfl)) rfl ?_ | refine JC.seq ?_ | refine JC.region ?_ | refine JL.nil ?_ | refine JE.next ?_)
    refine JC.ret ?_
    repeat (refine JE.then_ret ?_)
    exact JE.ret2 rfl (RV.tmp rfl) (RV.tmp rfl) fun w' hw => ⟨nilS, rfl, ⟨rfl, rfl, fun _ => rfl⟩, hw.weak (Less.nil _)⟩
  repeat (first | refine JL.q (by first | (apply OQ.lssN_f; exact rfl; exact rfl; exact hlt) | (apply OQ.move; exact rfl) | (apply OQ.assign; exact rfl) | (apply OQ.len; exact rfl; exact rfl)) rfl ?_ | refine JC.seq ?_ | refine JC.region ?_ | refine JL.nil ?_ | refine JE.next ?_)
  refine JC.cond_false rfl rfl ?_
  rw [openK, if_neg hlt]
  have hle : z.l.length - 32 ≤ z.l.length := Nat.sub_le _ _
  have hT0 := fun w' (h : GQ w') (h' : (z.fst (z.l.length - 32)).ok w') => turnO_any a1 1#32 nonce (z.fst (z.l.length - 32)) rfl h1 hn w' h h' (show (z.l.take (z.l.length - 32)).length < 140737488355328 by rw [List.length_take]; omega)
  have hM0 := fun (w' : World) (hs' : s.ok w') (h : (z.fst (z.l.length - 32)).ok w') => message_any nonce s (z.fst (z.l.length - 32)) hn w' hs' h (show s.l.length < 35184372088832 by omega) (show (z.l.take (z.l.length - 32)).length < 35184372088832 by rw [List.length_take]; omega)
  rw [show (z.fst (z.l.length - 32)).l = z.l.take (z.l.length - 32) from rfl] at hT0
  simp only [show (z.fst (z.l.length - 32)).l = z.l.take (z.l.length - 32) from rfl] at hM0
  have hml := msg_length nonce s.l (z.l.take (z.l.length - 32))
  rw [hn, List.length_take] at hml
  generalize msg nonce s.l (z.l.take (z.l.length - 32)) = m at hml hM0 ⊢
  have hTl := turn_length a1 1#32 nonce (z.l.take (z.l.length - 32))
  generalize turn a1 1#32 nonce (z.l.take (z.l.length - 32)) = T at hTl hT0 ⊢
  repeat (first | refine JL.q (by first | (apply OQ.load_agg (cs := key.map U8); exact a25; exact s25; exact rfl; exact (.there .here); exact (by simpa using hk); exact Row.all) | (apply OQ.callx; exact goes_two; exact rfl; exact (fun w' hw' => hTwo w' (hG.chg hw'.chg (by simp)))) | (apply OQ.extract; exact rfl; exact rfl) | (apply OQ.move; exact rfl)) rfl ?_ | refine JC.seq ?_ | refine JC.region ?_ | refine JC.skip ?_ | refine JE.next ?_)
  refine JL.alloc zc25 rfl fun b10 _ => ?_
  refine JL.alloc zc25 rfl fun b11 _ => ?_
  skip
  refine JL.store_all s25 rfl rfl (by simpa using h1) (all8 _) (.there .here) (by simp) ?_
  refine JL.store_all s25 rfl rfl (by simpa using h2) (all8 _) .here (by simp) ?_
  repeat (first | refine JC.seq ?_ | refine JL.nil ?_ | refine JE.next ?_)
  refine JC.quiet mixed (by kernel_rfl) ?_
  repeat (first | refine JQ.q (by first | (apply OQ.fst (s := z); exact Tryd.underlying26; exact s5; exact rfl; exact rfl; exact hle; exact hz.len) | (apply OQ.snd (s := z); exact Tryd.underlying26; exact s5; exact rfl; exact rfl; exact hle) | (apply OQ.move; exact rfl) | (apply OQ.assign; exact rfl) | (apply OQ.len; exact rfl; exact rfl) | (apply OQ.subN; exact rfl; exact rfl; exact (by (try simp only []); omega); exact (by (try simp only []); omega))) rfl ?_ | refine JC.seq ?_ | refine JQ.nil ?_ | refine JE.next ?_)
  let vs : Nat → X3 → Value := fun j x => match j with
    | 0 => .slice (some ⟨b11, 0, none⟩) 32 32
    | 1 => .agg (nonce.map U8).toArray
    | 2 => s.v
    | 3 => (z.fst (z.l.length - 32)).v
    | 4 => .slice (some ⟨x.1, 0, none⟩) m.length x.2.1
    | 5 => .slice (some ⟨x.1, 0, none⟩) 1 1
    | 6 => .agg ((hmac a2 m).map U8).toArray
    | _ => Pt x.1 0
  let Ms : Nat → X3 → List Ent := fun j x => match j with
    | 4 => [⟨x.1, Sl.Own 5 1 m.length x.2.1 (m.map U8), true⟩]
    | 5 => [⟨x.1, Row 26 [.slice (some ⟨x.2.1, 0, none⟩) m.length x.2.2], true⟩, ⟨x.2.1, Sl.Own 5 1 m.length x.2.2 (m.map U8), true⟩]
    | 7 => [⟨x.1, Row 23 ((List.replicate 32 (0 : B)).map U8), true⟩]
    | 8 => [⟨x.1, Row 23 ((hmac a2 m).map U8), true⟩]
    | 9 => [⟨b11, Row 23 (a2.map U8), true⟩]
    | 10 => [⟨b10, Row 23 (a1.map U8), true⟩]
    | 11 => [⟨b5, Row 25 (nonce.map U8), true⟩]
    | 12 => [⟨b4, Row 23 (key.map U8), true⟩]
    | _ => []
  refine JC.grow (g := ⟨[(2, s.v), (5, Pt b5 0), (10, Pt b10 0), (11, Pt b11 0), (12, (z.fst (z.l.length - 32)).v), (13, (z.snd (z.l.length - 32)).v)], 13, vs, Ms, needQ, inpQ, eatP, srcP⟩) [(7, 14)] [8, 10, 11] mixed (by repeat (first | exact SubE.nil | refine SubE.cons _ _ _ rfl ?_)) (Less.refl _) (by kernel_rfl) (by kernel_rfl) (by kernel_rfl) ?_ ?_
  · refine ⟨?_, ?_, ?_, ?_, ?_, ?_, ?_, ?_, ?_, trivial⟩
    iterate 4 (focus (intro x EF MF Q kk; (try refine JL.gon rfl rfl ?_); exact JL.q (by first | (apply OQ.slA; exact Tryd.underlying23; exact s5; exact rfl) | (apply OQ.load_agg (cs := nonce.map U8); exact noa; exact nos; exact rfl; exact .here; exact (by simpa using hn); exact Row.all) | (apply OQ.move; exact rfl)) rfl (JL.nil (kk default nofun))))
    · intro x EF MF Q kk
      exact JL.callg (ι := Nat × Nat) (fun x => .slice (some ⟨x.1, 0, none⟩) m.length x.2) (fun x => [⟨x.1, Sl.Own 5 1 m.length x.2 (m.map U8), true⟩]) goes_message rfl rfl (fun i => by simp) (fun w' hw' => hM0 w' (hs.holds hw' rfl) ((hz.holds hw' rfl).fst _)) fun i => JL.nil (kk (i.1, i.2, 0) nofun)
    · intro x EF MF Q kk
      exact JL.lit1 Tryd.underlying56 e22 rfl rfl rfl rfl fun b _ => JL.nil (kk (b, (x 4).1, (x 4).2.1) nofun)
    · intro x EF MF Q kk
      exact JL.q (OQ.callx (vs := [.slice (some ⟨b11, 0, none⟩) 32 32, .slice (some ⟨(x 5).1, 0, none⟩) 1 1]) goes_hmac rfl fun w' hw' => tag_ok h2 (by omega) hw' (hG.chg hw'.chg (by simp)) (.there (.there .here)) .here (.there .here)) rfl (JL.nil (kk default nofun))
    · intro x EF MF Q kk
      exact JL.alloc zc25 rfl fun b _ => JL.nil (kk (b, 0, 0) nofun)
    · intro x EF MF Q kk
      exact JL.store_all s25 rfl rfl (shal _) (all8 _) .here (by simp) (JL.nil (kk (x 7) (fun k h => by cases h; rfl)))
  · intro x hx
    have h8 := hx 8 7 (by decide) rfl
    show JE _ _ _ _ _ [(14, Pt (x 7).1 0), (2, s.v), (5, Pt b5 0), (10, Pt b10 0), (11, Pt b11 0), (12, (z.fst (z.l.length - 32)).v), (13, (z.snd (z.l.length - 32)).v)] [⟨(x 8).1, Row 23 ((hmac a2 m).map U8), true⟩, ⟨b10, Row 23 (a1.map U8), true⟩, ⟨b5, Row 25 (nonce.map U8), true⟩]
    rw [h8]
    generalize (x 7).1 = b14
    clear hx h8 x vs Ms
    have hgl := hmacL a2 m
    generalize hmac a2 m = g at hgl ⊢
    by_cases hg : g = z.l.drop (z.l.length - 32)
    · rw [if_pos hg]
      repeat (first | refine JL.q (by first | (apply OQ.slA; exact Tryd.underlying23; exact s5; exact rfl) | (apply OQ.callx; exact goes_ssame; exact rfl; exact (fun w' hw' => ssame_b (a := ⟨some ⟨b14, 0, none⟩, 32, g⟩) (b := z.snd (z.l.length - 32)) (c := true) (by simp [Sl8.v, hgl]) rfl (row_ok hw' .here rfl (Nat.le_of_eq hgl)) ((hz.holds hw' rfl).snd _ hle) (show g.length < 4611686018427387904 by omega) (decide_eq_true hg))) | (apply OQ.not; exact rfl) | (apply OQ.move; exact rfl)) rfl ?_ | refine JC.seq ?_ | refine JC.region ?_ | refine JL.nil ?_ | refine JE.next ?_)
      refine JC.cond_false rfl rfl ?_
      repeat (first | refine JL.q (by first | (apply OQ.load_agg (cs := a1.map U8); exact a25; exact s25; exact rfl; exact (.there .here); exact (by simpa using h1); exact Row.all) | (apply OQ.load_agg (cs := nonce.map U8); exact noa; exact nos; exact rfl; exact (.there (.there .here)); exact (by simpa using hn); exact Row.all) | (apply OQ.move; exact rfl)) rfl ?_ | refine JC.seq ?_ | refine JC.region ?_ | refine JC.skip ?_ | refine JE.next ?_)
      refine JL.callg (ι := Nat) (fun b => .slice (some ⟨b, 0, none⟩) (z.l.take (z.l.length - 32)).length (z.l.take (z.l.length - 32)).length) (fun b => [⟨b, Sl.Own 5 1 (z.l.take (z.l.length - 32)).length (z.l.take (z.l.length - 32)).length (T.map U8), true⟩]) goes_turnb rfl rfl (fun i => by simp) (fun w' hw' => hT0 w' (hQ.chg hw'.chg (by simp)) ((hz.holds hw' rfl).fst _)) fun b47 => ?_
      try dsimp only
      repeat (first | refine JL.q (by (apply OQ.assign; exact rfl)) rfl ?_ | refine JL.nil ?_ | refine JE.next ?_)
      refine JC.ret ?_
      skip
      refine JE.ret2 rfl (RV.tmp rfl) (RV.tmp rfl) fun w' hw => ⟨⟨some ⟨b47, 0, none⟩, (z.l.take (z.l.length - 32)).length, T⟩, by simp only [Sl8.v, hTl]; rfl, ⟨rfl, rfl, fun h => by cases h⟩, hw.weak (.keep _ _ _ _ _ _ (fun o ho => ?_) (Less.nil _))⟩
      exact ⟨Sl.Own.cells _ ho, Nat.le_of_eq hTl, rfl⟩
    · rw [if_neg hg]
      repeat (first | refine JL.q (by first | (apply OQ.slA; exact Tryd.underlying23; exact s5; exact rfl) | (apply OQ.callx; exact goes_ssame; exact rfl; exact (fun w' hw' => ssame_b (a := ⟨some ⟨b14, 0, none⟩, 32, g⟩) (b := z.snd (z.l.length - 32)) (c := false) (by simp [Sl8.v, hgl]) rfl (row_ok hw' .here rfl (Nat.le_of_eq hgl)) ((hz.holds hw' rfl).snd _ hle) (show g.length < 4611686018427387904 by omega) (decide_eq_false hg))) | (apply OQ.not; exact rfl) | (apply OQ.move; exact rfl)) rfl ?_ | refine JC.seq ?_ | refine JC.region ?_ | refine JL.nil ?_ | refine JE.next ?_)
      refine JC.cond_true rfl rfl ?_
      repeat (first | refine JL.q (by (apply OQ.assign; exact rfl)) rfl ?_ | refine JC.seq ?_ | refine JC.region ?_ | refine JL.nil ?_ | refine JE.next ?_)
      refine JC.ret ?_
      repeat (refine JE.then_ret ?_)
      exact JE.ret2 rfl (RV.tmp rfl) (RV.tmp rfl) fun w' hw => ⟨nilS, rfl, ⟨rfl, rfl, fun _ => rfl⟩, hw.weak (Less.nil _)⟩
end Go.Proofs.YtakgpocehoeakaaDoor

/-
  Of no statement by itself: what the reference's Seal and Open give.
  Conditions: each theorem's own.
-/
namespace Go.Proofs.YtakgpocehoeakaaDoor
set_option maxRecDepth 10000
open Sl Sha Str

theorem goes_rseal : Goes Tryd.prog 13 := ⟨_, Tryd.func13, rfl, by kernel_rfl⟩
theorem goes_ropen : Goes Tryd.prog 11 := ⟨_, Tryd.func11, rfl, by kernel_rfl⟩
theorem own_part {e : TypeId} {sz n cap k : Nat} {xs ys : List Value} (h : (xs.drop (0 + k)).take ys.length = ys) (hk : k + ys.length ≤ xs.length) : ∀ o, Sl.Own e sz n cap xs o → hasCells o (0 + k) ys := fun o ho => by
  have := has_part (t := ys.length) (Sl.Own.cells o ho) hk
  rw [Nat.zero_add] at h
  rwa [h] at this
theorem rkeysE_any (key : List B) (hk : key.length = 32) (b12 b1 : Nat) (w : World) (hr : Sl8.ok w ⟨some ⟨b1, 0, none⟩, 32, key⟩) :
    Calls Tryd.prog 20 [.slice (some ⟨b12, 0, none⟩) 0 0, .slice (some ⟨b1, 0, none⟩) 32 32, .string sealB, N 2].toArray w fun e w' => ∃ x : Nat × Nat, e = .returned (.slice (some ⟨x.1, 0, none⟩) 2 x.2) ∧ Holds w [] [⟨x.1, Sl.Own 23 32 2 x.2 ((ekey key).map U8), true⟩] w' := by
  have := rkeys_any ⟨some ⟨b12, 0, none⟩, 0, []⟩ ⟨some ⟨b1, 0, none⟩, 32, key⟩ sealB 2 (by decide) w ⟨Nat.le_refl _, Reads.nil _ _⟩ hr (by simp) (show key.length < 35184372088000 by omega) (by decide)
  rw [show Sl8.v ⟨some ⟨b1, 0, none⟩, 32, key⟩ = .slice (some ⟨b1, 0, none⟩) 32 32 by simp [Sl8.v, hk]] at this
  rw [ekey]
  exact this
theorem rtag_ok {w0 w : World} {S : List Nat} {M : List Ent} {a2 m : List B} {xs : List Value} (ha : (a2.map U8).length = 32) (hml : m.length < 1000000000) {bk ck bm cm : Nat} (hw : Holds w0 S M w) (hx : xs.length = 64) (c2 : (xs.drop (0 + 1 * 32)).take (a2.map U8).length = a2.map U8) (h1 : Has M bk (Sl.Own 23 32 2 ck xs) true) (h3 : Has M bm (Sl.Own 5 1 m.length cm (m.map U8)) true) :
    Calls Tryd.prog 21 [.slice (some ⟨bk, 0 + 1 * 32, none⟩) 32 32, .slice (some ⟨bm, 0, none⟩) m.length cm].toArray w fun e w'' => e = .returned (.agg ((hmac a2 m).map U8).toArray) ∧ Ext w w'' := by
  obtain ⟨o1, ho1, hA1⟩ := hw.get h1
  have hl : a2.length = 32 := by simpa using ha
  have := rhmac_any ⟨some ⟨bk, 0 + 1 * 32, none⟩, 32, a2⟩ ⟨some ⟨bm, 0, none⟩, cm, m⟩ w ⟨Nat.le_of_eq hl, Reads.block ho1 (own_part c2 (by rw [ha, hx]; decide) _ hA1)⟩ (ownb_ok hw h3) (show a2.length < 35184372088000 by omega) (show m.length < 35184372088000 by omega)
  simpa [Sl8.v, hl] using this
theorem rmessageV {nonce : List B} {s c : Sl8} {vc : Value} (hvc : c.v = vc) (hn : nonce.length = 12) {w : World} (hs : s.ok w) (hc : c.ok w) (hsl : s.l.length < 35184372088832) (hcl : c.l.length < 35184372088832) :
    Calls Tryd.prog 15 [.agg (nonce.map U8).toArray, s.v, vc].toArray w fun e w' => ∃ x : Nat × Nat, e = .returned (.slice (some ⟨x.1, 0, none⟩) (msg nonce s.l c.l).length x.2) ∧ Holds w [] [⟨x.1, Sl.Own 5 1 (msg nonce s.l c.l).length x.2 ((msg nonce s.l c.l).map U8), true⟩] w' := by
  subst hvc
  exact rmessage_any nonce s c hn w hs hc hsl hcl
def needS : Nat → List (Nat × Nat)
  | 1 => [(0, 15)]
  | 2 => [(1, 16)]
  | 5 => [(2, 17), (3, 18), (4, 19)]
  | 6 => [(5, 20)]
  | _ => []
def inpS : Nat → List Nat
  | 2 => [7]
  | 3 => [9]
  | _ => []
def srcS : Nat → Option Nat
  | 6 => some 5
  | _ => none
def needT : Nat → List (Nat × Nat)
  | 1 => [(0, 21)]
  | 2 => [(1, 22)]
  | 6 => [(3, 24), (4, 25), (5, 26)]
  | 7 => [(2, 23), (6, 27)]
  | 9 => [(8, 11), (7, 28)]
  | _ => []
def inpT : Nat → List Nat
  | 3 => [12]
  | 6 => [10]
  | 7 => [11, 6]
  | 9 => [8]
  | _ => []
def eatT : Nat → List Nat
  | 9 => [8]
  | _ => []
def srcT : Nat → Option Nat
  | 9 => some 8
  | _ => none
def needU : Nat → List (Nat × Nat)
  | 1 => [(0, 22)]
  | 2 => [(1, 23)]
  | 7 => [(5, 27), (6, 28)]
  | 8 => [(3, 25), (4, 26), (7, 29)]
  | 9 => [(2, 24), (8, 30)]
  | 11 => [(10, 12), (9, 31)]
  | _ => []
def inpU : Nat → List Nat
  | 3 => [14]
  | 9 => [12, 8]
  | 11 => [10]
  | _ => []
def eatU : Nat → List Nat
  | 11 => [10]
  | _ => []
def srcU : Nat → Option Nat
  | 11 => some 10
  | _ => none
def needV : Nat → List (Nat × Nat)
  | 1 => [(0, 38)]
  | 2 => [(1, 39)]
  | 6 => [(4, 42), (5, 43)]
  | 7 => [(2, 40), (3, 41), (6, 44)]
  | 8 => [(7, 45)]
  | _ => []
def inpV : Nat → List Nat
  | 2 => [11]
  | 3 => [12]
  | _ => []
def srcV : Nat → Option Nat
  | 8 => some 7
  | _ => none

set_option maxHeartbeats 4000000 in
set_option maxRecDepth 4000 in
theorem rseal_any (key nonce : List B) (s p : Sl8) (hk : key.length = 32) (hn : nonce.length = 12) (w : World) (hs : s.ok w) (hp : p.ok w) (hsl : s.l.length < 100000000) (hpl : p.l.length < 100000000) :
    Calls Tryd.prog 13 [.agg (key.map U8).toArray, .agg (nonce.map U8).toArray, s.v, p.v].toArray w fun e w' => ∃ x : Nat × Nat, e = .returned (.slice (some ⟨x.1, 0, none⟩) (p.l.length + 32) x.2) ∧ Holds w [] [⟨x.1, Sl.Own 5 1 (p.l.length + 32) x.2 ((sealK (k1 key) (k2 key) nonce s.l p.l).map U8), true⟩] w' := by
  have hKeys := rkeysE_any key hk
  have h1 : ((k1 key).map U8).length = 32 := by rw [List.length_map, k1_length]
  have h2 : ((k2 key).map U8).length = 32 := by rw [List.length_map, k2_length]
  have c1 := k1_cells key
  have c2 := k2_cells key
  have hek : ((ekey key).map U8).length = 64 := by rw [List.length_map, ekey_length]
  generalize ekey key = ek at hKeys c1 c2 hek
  generalize k1 key = a1 at h1 c1 ⊢
  generalize k2 key = a2 at h2 c2 ⊢
  have hTl := turn_length a1 1#32 nonce p.l
  have hT0 := fun w' (h' : p.ok w') => rturnO_any a1 1#32 nonce p rfl (by simpa using h1) hn w' h' (by omega)
  rw [sealK]
  generalize turn a1 1#32 nonce p.l = T at hTl hT0 ⊢
  have hml := msg_length nonce s.l T
  have hM0 := fun (w' : World) (b c : Nat) (hs' : s.ok w') (h : Sl8.ok w' ⟨some ⟨b, 0, none⟩, c, T⟩) => rmessageV (c := ⟨some ⟨b, 0, none⟩, c, T⟩) (vc := .slice (some ⟨b, 0, none⟩) p.l.length c) (by simp [Sl8.v, hTl]) hn hs' h (show s.l.length < 35184372088832 by omega) (show T.length < 35184372088832 by omega)
  simp only [] at hM0
  rw [hn, hTl] at hml
  generalize msg nonce s.l T = m at hml hM0 ⊢
  refine enter (n := 32) Tryd.func13 rfl rfl rfl (Holds.start w []) ?_
  repeat (first | refine JC.seq ?_ | refine JC.region ?_)
  refine JL.box (r := key.map U8) rfl rfl rfl fun b4 _ => ?_
  refine JL.box (r := nonce.map U8) rfl rfl rfl fun b5 _ => ?_
  repeat (first | refine JL.q (by (apply OQ.assign; exact rfl)) rfl ?_ | refine JC.seq ?_ | refine JC.region ?_ | refine JL.nil ?_ | refine JE.next ?_)
  refine JL.litZ Tryd.underlying26 e5 rfl fun b12 _ => ?_
  repeat (refine JL.q (by (apply OQ.slA; exact Tryd.underlying23; exact s5; exact rfl)) rfl ?_)
  refine JL.callg (ι := Nat × Nat) (vs := [.slice (some ⟨b12, 0, none⟩) 0 0, .slice (some ⟨b4, 0, none⟩) 32 32, .string sealB, N 2]) (fun x => .slice (some ⟨x.1, 0, none⟩) 2 x.2) (fun x => [⟨x.1, Sl.Own 23 32 2 x.2 (ek.map U8), true⟩]) goes_rkeys rfl rfl (fun i => by simp) (fun w' hw' => hKeys b12 b4 w' (row_ok hw' (.there (.there .here)) rfl (Nat.le_of_eq hk))) ?_
  rintro ⟨bk, ck⟩
  try dsimp only
  repeat (first | refine JL.q (by (apply OQ.assign; exact rfl)) rfl ?_ | refine JC.seq ?_ | refine JL.nil ?_ | refine JE.next ?_)
  let vs : Nat → X → Value := fun j x => match j with
    | 0 => .slice (some ⟨bk, 0, none⟩) 2 ck
    | 1 => Pt bk (0 + 0 * 32)
    | 2 => .agg (a1.map U8).toArray
    | 3 => .agg (nonce.map U8).toArray
    | 4 => p.v
    | _ => .slice (some ⟨x.1, 0, none⟩) p.l.length x.2
  let Ms : Nat → X → List Ent := fun j x => match j with
    | 5 => [⟨x.1, Sl.Own 5 1 p.l.length x.2 (T.map U8), true⟩]
    | 7 => [⟨bk, Sl.Own 23 32 2 ck (ek.map U8), true⟩]
    | 8 => [⟨b12, Sl.Own 5 1 0 0 [], true⟩]
    | 9 => [⟨b5, Row 25 (nonce.map U8), true⟩]
    | 10 => [⟨b4, Row 23 (key.map U8), true⟩]
    | _ => []
  refine JC.grow (g := ⟨[(2, s.v), (3, p.v), (5, Pt b5 0), (9, .slice (some ⟨bk, 0, none⟩) 2 ck)], 11, vs, Ms, needS, inpS, fun _ => [], srcS⟩) [(6, 10)] [5, 7, 9] mixed (by repeat (first | exact SubE.nil | refine SubE.cons _ _ _ rfl ?_)) (Less.refl _) (by kernel_rfl) (by kernel_rfl) (by kernel_rfl) ?_ ?_
  · refine ⟨?_, ?_, ?_, ?_, ?_, ?_, ?_, trivial⟩
    iterate 5 (focus (intro x EF MF Q kk; (try refine JL.gon rfl rfl ?_); exact JL.q (by first | (apply OQ.idxS; exact Tryd.underlying45; exact s25; exact rfl; exact rfl; exact (by decide)) | (apply OQ.load_agg (cs := a1.map U8); exact a25; exact s25; exact rfl; exact .here; exact h1; exact (own_part c1 (by rw [h1, hek]; decide))) | (apply OQ.load_agg (cs := nonce.map U8); exact noa; exact nos; exact rfl; exact .here; exact (by simpa using hn); exact Row.all) | (apply OQ.move; exact rfl)) rfl (JL.nil (kk default nofun))))
    · intro x EF MF Q kk
      exact JL.callg (ι := Nat × Nat) (fun x => .slice (some ⟨x.1, 0, none⟩) p.l.length x.2) (fun x => [⟨x.1, Sl.Own 5 1 p.l.length x.2 (T.map U8), true⟩]) goes_rturn rfl rfl (fun i => by simp) (fun w' hw' => hT0 w' (hp.holds hw' rfl)) fun i => JL.nil (kk i nofun)
    · intro x EF MF Q kk
      exact JL.q (OQ.assign rfl) rfl (JL.nil (kk (x 5) (fun k h => by cases h; rfl)))
  · intro x hx
    have h6 := hx 6 5 (by decide) rfl
    show JE _ _ _ _ _ [(10, .slice (some ⟨(x 6).1, 0, none⟩) p.l.length (x 6).2), (2, s.v), (3, p.v), (5, Pt b5 0), (9, .slice (some ⟨bk, 0, none⟩) 2 ck)] [⟨(x 5).1, Sl.Own 5 1 p.l.length (x 5).2 (T.map U8), true⟩, ⟨bk, Sl.Own 23 32 2 ck (ek.map U8), true⟩, ⟨b5, Row 25 (nonce.map U8), true⟩]
    rw [h6]
    obtain ⟨b10, c10⟩ := x 5
    clear hx h6 x vs Ms
    dsimp only
    repeat (first | refine JC.seq ?_ | refine JE.next ?_)
    let vs : Nat → X → Value := fun j x => match j with
      | 0 => .slice (some ⟨bk, 0, none⟩) 2 ck
      | 1 => Pt bk (0 + 1 * 32)
      | 2 => .slice (some ⟨bk, 0 + 1 * 32, none⟩) 32 32
      | 3 => .agg (nonce.map U8).toArray
      | 4 => s.v
      | 5 => .slice (some ⟨b10, 0, none⟩) p.l.length c10
      | 6 => .slice (some ⟨x.1, 0, none⟩) m.length x.2
      | 7 => .agg ((hmac a2 m).map U8).toArray
      | _ => Pt x.1 0
    let Ms : Nat → X → List Ent := fun j x => match j with
      | 6 => [⟨x.1, Sl.Own 5 1 m.length x.2 (m.map U8), true⟩]
      | 8 => [⟨x.1, Row 23 ((List.replicate 32 (0 : B)).map U8), true⟩]
      | 9 => [⟨x.1, Row 23 ((hmac a2 m).map U8), true⟩]
      | 10 => [⟨b10, Sl.Own 5 1 p.l.length c10 (T.map U8), true⟩]
      | 11 => [⟨bk, Sl.Own 23 32 2 ck (ek.map U8), true⟩]
      | 12 => [⟨b5, Row 25 (nonce.map U8), true⟩]
      | _ => []
    refine JC.grow (g := ⟨[(2, s.v), (5, Pt b5 0), (9, .slice (some ⟨bk, 0, none⟩) 2 ck), (10, .slice (some ⟨b10, 0, none⟩) p.l.length c10)], 13, vs, Ms, needT, inpT, eatT, srcT⟩) [(8, 11)] [9, 10] mixed (by repeat (first | exact SubE.nil | refine SubE.cons _ _ _ rfl ?_)) (Less.refl _) (by kernel_rfl) (by kernel_rfl) (by kernel_rfl) ?_ ?_
    · refine ⟨?_, ?_, ?_, ?_, ?_, ?_, ?_, ?_, ?_, ?_, trivial⟩
      iterate 6 (focus (intro x EF MF Q kk; (try refine JL.gon rfl rfl ?_); exact JL.q (by first | (apply OQ.idxS; exact Tryd.underlying45; exact s25; exact rfl; exact rfl; exact (by decide)) | (apply OQ.slA; exact Tryd.underlying23; exact s5; exact rfl) | (apply OQ.load_agg (cs := nonce.map U8); exact noa; exact nos; exact rfl; exact .here; exact (by simpa using hn); exact Row.all) | (apply OQ.move; exact rfl)) rfl (JL.nil (kk default nofun))))
      · intro x EF MF Q kk
        exact JL.callg (ι := Nat × Nat) (fun x => .slice (some ⟨x.1, 0, none⟩) m.length x.2) (fun x => [⟨x.1, Sl.Own 5 1 m.length x.2 (m.map U8), true⟩]) goes_rmessage rfl rfl (fun i => by simp) (fun w' hw' => hM0 w' b10 c10 (hs.holds hw' rfl) (ownb_ok hw' .here)) fun i => JL.nil (kk i nofun)
      · intro x EF MF Q kk
        exact JL.q (OQ.callx (vs := [.slice (some ⟨bk, 0 + 1 * 32, none⟩) 32 32, .slice (some ⟨(x 6).1, 0, none⟩) m.length (x 6).2]) goes_rhmac rfl fun w' hw' => rtag_ok h2 (by omega) hw' hek c2 .here (.there .here)) rfl (JL.nil (kk default nofun))
      · intro x EF MF Q kk
        exact JL.alloc zc25 rfl fun b _ => JL.nil (kk (b, 0) nofun)
      · intro x EF MF Q kk
        exact JL.store_all s25 rfl rfl (shal _) (all8 _) .here (by simp) (JL.nil (kk (x 8) (fun k h => by cases h; rfl)))
    · intro x hx
      have h9 := hx 9 8 (by decide) rfl
      show JE _ _ _ _ _ [(11, Pt (x 8).1 0), (2, s.v), (5, Pt b5 0), (9, .slice (some ⟨bk, 0, none⟩) 2 ck), (10, .slice (some ⟨b10, 0, none⟩) p.l.length c10)] [⟨(x 9).1, Row 23 ((hmac a2 m).map U8), true⟩, ⟨b10, Sl.Own 5 1 p.l.length c10 (T.map U8), true⟩]
      rw [h9]
      generalize (x 8).1 = b11
      clear hx h9 x vs Ms
      repeat (first | refine JL.q (by first | (apply OQ.slA; exact Tryd.underlying23; exact s5; exact rfl) | (apply OQ.move; exact rfl)) rfl ?_ | refine JC.seq ?_ | refine JC.region ?_ | refine JE.next ?_)
      refine JL.append (cs := (hmac a2 m).map U8) (fun b' cap' => [⟨b11, Row 23 ((hmac a2 m).map U8), true⟩, ⟨b', Sl.Own 5 1 (p.l.length + 32) cap' (T.map U8 ++ (hmac a2 m).map U8), true⟩]) Tryd.underlying26 e5 rfl rfl (by intro _ _; repeat (first | exact Repl.here | apply Repl.there)) (shal _) (fun w' hw' => (row_ok (cap := 32) hw' .here rfl (Nat.le_of_eq (hmacL _ _))).reads) (of_u8 _) rfl (by decide) (by omega) (by omega) rfl fun b13 cap13 => ?_
      rw [← List.map_append]
      repeat (first | refine JL.q (by (apply OQ.assign; exact rfl)) rfl ?_ | refine JL.nil ?_ | refine JE.next ?_)
      refine JC.ret ?_
      skip
      exact JE.ret1 rfl (RV.tmp rfl) fun w' hw => ⟨(b13, cap13), rfl, hw.weak (.drop _ _ _ (.keep _ _ _ _ _ _ (fun _ h => h) (Less.nil _)))⟩

set_option maxHeartbeats 4000000 in
set_option maxRecDepth 4000 in
theorem ropen_any (key nonce : List B) (s z : Sl8) (hk : key.length = 32) (hn : nonce.length = 12) (w : World) (hs : s.ok w) (hz : z.ok w) (hsl : s.l.length < 100000000) (hzl : z.l.length < 100000000) :
    Calls Tryd.prog 11 [.agg (key.map U8).toArray, .agg (nonce.map U8).toArray, s.v, z.v].toArray w fun e w' => ∃ s' : Sl8, e = .returned (.tuple #[s'.v, N (openK (k1 key) (k2 key) nonce s.l z.l).2]) ∧ Gave s' (openK (k1 key) (k2 key) nonce s.l z.l).1 s'.cap ∧ Holds w [] s'.ents w' := by
  have hKeys := rkeysE_any key hk
  have h1 : ((k1 key).map U8).length = 32 := by rw [List.length_map, k1_length]
  have h2 : ((k2 key).map U8).length = 32 := by rw [List.length_map, k2_length]
  have c1 := k1_cells key
  have c2 := k2_cells key
  have hek : ((ekey key).map U8).length = 64 := by rw [List.length_map, ekey_length]
  generalize ekey key = ek at hKeys c1 c2 hek
  generalize k1 key = a1 at h1 c1 ⊢
  generalize k2 key = a2 at h2 c2 ⊢
  refine enter (n := 46) Tryd.func11 rfl rfl rfl (Holds.start w []) ?_
  repeat (first | refine JC.seq ?_ | refine JC.region ?_)
  refine JL.box (r := key.map U8) rfl rfl rfl fun b4 _ => ?_
  refine JL.box (r := nonce.map U8) rfl rfl rfl fun b5 _ => ?_
  by_cases hlt : z.l.length < 32
  · rw [openK, if_pos hlt]
    repeat (first | refine JL.q (by first | (apply OQ.lssN_t; exact rfl; exact rfl; exact hlt) | (apply OQ.move; exact rfl) | (apply OQ.assign; exact rfl) | (apply OQ.len; exact rfl; exact rfl)) rfl ?_ | refine JC.seq ?_ | refine JC.region ?_ | refine JL.nil ?_ | refine JE.next ?_)
    refine JC.cond_true rfl rfl ?_
    repeat (first | refine JL.q (by (apply OQ.assign; exact rfl)) rfl ?_ | refine JC.seq ?_ | refine JC.region ?_ | refine JL.nil ?_ | refine JE.next ?_)
    refine JC.ret ?_
    repeat (refine JE.then_ret ?_)
    exact JE.ret2 rfl (RV.tmp rfl) (RV.tmp rfl) fun w' hw => ⟨nilS, rfl, ⟨rfl, rfl, fun _ => rfl⟩, hw.weak (Less.nil _)⟩
  repeat (first | refine JL.q (by first | (apply OQ.lssN_f; exact rfl; exact rfl; exact hlt) | (apply OQ.move; exact rfl) | (apply OQ.assign; exact rfl) | (apply OQ.len; exact rfl; exact rfl)) rfl ?_ | refine JC.seq ?_ | refine JC.region ?_ | refine JL.nil ?_ | refine JE.next ?_)
  refine JC.cond_false rfl rfl ?_
  rw [openK, if_neg hlt]
  have hle : z.l.length - 32 ≤ z.l.length := Nat.sub_le _ _
  have hT0 := fun w' (h' : (z.fst (z.l.length - 32)).ok w') => rturnO_any a1 1#32 nonce (z.fst (z.l.length - 32)) rfl (by simpa using h1) hn w' h' (show (z.l.take (z.l.length - 32)).length < 35184372088832 by rw [List.length_take]; omega)
  have hM0 := fun (w' : World) (hs' : s.ok w') (h : (z.fst (z.l.length - 32)).ok w') => rmessage_any nonce s (z.fst (z.l.length - 32)) hn w' hs' h (show s.l.length < 35184372088832 by omega) (show (z.l.take (z.l.length - 32)).length < 35184372088832 by rw [List.length_take]; omega)
  rw [show (z.fst (z.l.length - 32)).l = z.l.take (z.l.length - 32) from rfl] at hT0
  simp only [show (z.fst (z.l.length - 32)).l = z.l.take (z.l.length - 32) from rfl] at hM0
  have hml := msg_length nonce s.l (z.l.take (z.l.length - 32))
  rw [hn, List.length_take] at hml
  generalize msg nonce s.l (z.l.take (z.l.length - 32)) = m at hml hM0 ⊢
  have hTl := turn_length a1 1#32 nonce (z.l.take (z.l.length - 32))
  generalize turn a1 1#32 nonce (z.l.take (z.l.length - 32)) = T at hTl hT0 ⊢
  repeat (first | refine JL.q (by first | (apply OQ.move; exact rfl) | (apply OQ.assign; exact rfl) | (apply OQ.len; exact rfl; exact rfl) | (apply OQ.subN; exact rfl; exact rfl; exact (by (try simp only []); omega); exact (by (try simp only []); omega))) rfl ?_ | refine JC.seq ?_ | refine JC.region ?_ | refine JC.skip ?_ | refine JL.nil ?_ | refine JE.next ?_)
  refine JL.litZ Tryd.underlying26 e5 rfl fun b19 _ => ?_
  repeat (refine JL.q (by (apply OQ.slA; exact Tryd.underlying23; exact s5; exact rfl)) rfl ?_)
  refine JL.callg (ι := Nat × Nat) (vs := [.slice (some ⟨b19, 0, none⟩) 0 0, .slice (some ⟨b4, 0, none⟩) 32 32, .string sealB, N 2]) (fun x => .slice (some ⟨x.1, 0, none⟩) 2 x.2) (fun x => [⟨x.1, Sl.Own 23 32 2 x.2 (ek.map U8), true⟩]) goes_rkeys rfl rfl (fun i => by simp) (fun w' hw' => hKeys b19 b4 w' (row_ok hw' (.there (.there .here)) rfl (Nat.le_of_eq hk))) ?_
  rintro ⟨bk, ck⟩
  try dsimp only
  repeat (first | refine JL.q (by (apply OQ.assign; exact rfl)) rfl ?_ | refine JC.seq ?_ | refine JL.nil ?_ | refine JE.next ?_)
  let vs : Nat → X → Value := fun j x => match j with
    | 0 => .slice (some ⟨bk, 0, none⟩) 2 ck
    | 1 => Pt bk (0 + 1 * 32)
    | 2 => .slice (some ⟨bk, 0 + 1 * 32, none⟩) 32 32
    | 3 => .agg (nonce.map U8).toArray
    | 4 => s.v
    | 5 => z.v
    | 6 => N (z.l.length - 32)
    | 7 => (z.fst (z.l.length - 32)).v
    | 8 => .slice (some ⟨x.1, 0, none⟩) m.length x.2
    | 9 => .agg ((hmac a2 m).map U8).toArray
    | _ => Pt x.1 0
  let Ms : Nat → X → List Ent := fun j x => match j with
    | 8 => [⟨x.1, Sl.Own 5 1 m.length x.2 (m.map U8), true⟩]
    | 10 => [⟨x.1, Row 23 ((List.replicate 32 (0 : B)).map U8), true⟩]
    | 11 => [⟨x.1, Row 23 ((hmac a2 m).map U8), true⟩]
    | 12 => [⟨bk, Sl.Own 23 32 2 ck (ek.map U8), true⟩]
    | 13 => [⟨b19, Sl.Own 5 1 0 0 [], true⟩]
    | 14 => [⟨b5, Row 25 (nonce.map U8), true⟩]
    | 15 => [⟨b4, Row 23 (key.map U8), true⟩]
    | _ => []
  refine JC.grow (g := ⟨[(2, s.v), (3, z.v), (5, Pt b5 0), (10, N (z.l.length - 32)), (11, .slice (some ⟨bk, 0, none⟩) 2 ck)], 16, vs, Ms, needU, inpU, eatU, srcU⟩) [(10, 12)] [11, 12, 14] mixed (by repeat (first | exact SubE.nil | refine SubE.cons _ _ _ rfl ?_)) (Less.refl _) (by kernel_rfl) (by kernel_rfl) (by kernel_rfl) ?_ ?_
  · refine ⟨?_, ?_, ?_, ?_, ?_, ?_, ?_, ?_, ?_, ?_, ?_, ?_, trivial⟩
    iterate 8 (focus (intro x EF MF Q kk; (try refine JL.gon rfl rfl ?_); exact JL.q (by first | (apply OQ.idxS; exact Tryd.underlying45; exact s25; exact rfl; exact rfl; exact (by decide)) | (apply OQ.slA; exact Tryd.underlying23; exact s5; exact rfl) | (apply OQ.load_agg (cs := nonce.map U8); exact noa; exact nos; exact rfl; exact .here; exact (by simpa using hn); exact Row.all) | (apply OQ.fst (s := z); exact Tryd.underlying26; exact s5; exact rfl; exact rfl; exact hle; exact hz.len) | (apply OQ.move; exact rfl)) rfl (JL.nil (kk default nofun))))
    · intro x EF MF Q kk
      exact JL.callg (ι := Nat × Nat) (fun x => .slice (some ⟨x.1, 0, none⟩) m.length x.2) (fun x => [⟨x.1, Sl.Own 5 1 m.length x.2 (m.map U8), true⟩]) goes_rmessage rfl rfl (fun i => by simp) (fun w' hw' => hM0 w' (hs.holds hw' rfl) ((hz.holds hw' rfl).fst _)) fun i => JL.nil (kk i nofun)
    · intro x EF MF Q kk
      exact JL.q (OQ.callx (vs := [.slice (some ⟨bk, 0 + 1 * 32, none⟩) 32 32, .slice (some ⟨(x 8).1, 0, none⟩) m.length (x 8).2]) goes_rhmac rfl fun w' hw' => rtag_ok h2 (by omega) hw' hek c2 .here (.there .here)) rfl (JL.nil (kk default nofun))
    · intro x EF MF Q kk
      exact JL.alloc zc25 rfl fun b _ => JL.nil (kk (b, 0) nofun)
    · intro x EF MF Q kk
      exact JL.store_all s25 rfl rfl (shal _) (all8 _) .here (by simp) (JL.nil (kk (x 10) (fun k h => by cases h; rfl)))
  · intro x hx
    have h11 := hx 11 10 (by decide) rfl
    show JE _ _ _ _ _ [(12, Pt (x 10).1 0), (2, s.v), (3, z.v), (5, Pt b5 0), (10, N (z.l.length - 32)), (11, .slice (some ⟨bk, 0, none⟩) 2 ck)] [⟨(x 11).1, Row 23 ((hmac a2 m).map U8), true⟩, ⟨bk, Sl.Own 23 32 2 ck (ek.map U8), true⟩, ⟨b5, Row 25 (nonce.map U8), true⟩]
    rw [h11]
    generalize (x 10).1 = b12
    clear hx h11 x vs Ms
    have hgl := hmacL a2 m
    generalize hmac a2 m = g at hgl ⊢
    by_cases hg : g = z.l.drop (z.l.length - 32)
    · rw [if_pos hg]
      repeat (first | refine JC.seq ?_ | refine JE.next ?_)
      refine JC.quiet mixed (by kernel_rfl) ?_
      repeat (first | refine JQ.q (by first | (apply OQ.slA; exact Tryd.underlying23; exact s5; exact rfl) | (apply OQ.snd (s := z); exact Tryd.underlying26; exact s5; exact rfl; exact rfl; exact hle) | (apply OQ.callx; exact goes_same; exact rfl; exact (fun w' hw' => same_b (a := ⟨some ⟨b12, 0, none⟩, 32, g⟩) (b := z.snd (z.l.length - 32)) (c := true) (by simp [Sl8.v, hgl]) rfl (row_ok hw' .here rfl (Nat.le_of_eq hgl)) ((hz.holds hw' rfl).snd _ hle) (show g.length < 4611686018427387904 by omega) (decide_eq_true hg))) | (apply OQ.not; exact rfl) | (apply OQ.move; exact rfl)) rfl ?_ | refine JQ.nil ?_ | refine JE.next ?_)
      refine JC.cond_false rfl rfl ?_
      repeat (first | refine JC.seq ?_ | refine JC.skip ?_ | refine JE.next ?_)
      let vs : Nat → X → Value := fun j x => match j with
        | 0 => .slice (some ⟨bk, 0, none⟩) 2 ck
        | 1 => Pt bk (0 + 0 * 32)
        | 2 => .agg (a1.map U8).toArray
        | 3 => .agg (nonce.map U8).toArray
        | 4 => z.v
        | 5 => N (z.l.length - 32)
        | 6 => (z.fst (z.l.length - 32)).v
        | 9 => N 0
        | _ => .slice (some ⟨x.1, 0, none⟩) (z.l.take (z.l.length - 32)).length x.2
      let Ms : Nat → X → List Ent := fun j x => match j with
        | 7 => [⟨x.1, Sl.Own 5 1 (z.l.take (z.l.length - 32)).length x.2 (T.map U8), true⟩]
        | 10 => [⟨b12, Row 23 (g.map U8), true⟩]
        | 11 => [⟨bk, Sl.Own 23 32 2 ck (ek.map U8), true⟩]
        | 12 => [⟨b5, Row 25 (nonce.map U8), true⟩]
        | _ => []
      refine JC.grow (g := ⟨[(3, z.v), (5, Pt b5 0), (10, N (z.l.length - 32)), (11, .slice (some ⟨bk, 0, none⟩) 2 ck)], 13, vs, Ms, needV, inpV, fun _ => [], srcV⟩) [(8, 8), (9, 9)] [7] mixed (by repeat (first | exact SubE.nil | refine SubE.cons _ _ _ rfl ?_)) (Less.refl _) (by kernel_rfl) (by kernel_rfl) (by kernel_rfl) ?_ ?_
      · refine ⟨?_, ?_, ?_, ?_, ?_, ?_, ?_, ?_, ?_, ?_, trivial⟩
        iterate 7 (focus (intro x EF MF Q kk; (try refine JL.gon rfl rfl ?_); exact JL.q (by first | (apply OQ.idxS; exact Tryd.underlying45; exact s25; exact rfl; exact rfl; exact (by decide)) | (apply OQ.load_agg (cs := a1.map U8); exact a25; exact s25; exact rfl; exact .here; exact h1; exact (own_part c1 (by rw [h1, hek]; decide))) | (apply OQ.load_agg (cs := nonce.map U8); exact noa; exact nos; exact rfl; exact .here; exact (by simpa using hn); exact Row.all) | (apply OQ.fst (s := z); exact Tryd.underlying26; exact s5; exact rfl; exact rfl; exact hle; exact hz.len) | (apply OQ.move; exact rfl)) rfl (JL.nil (kk default nofun))))
        · intro x EF MF Q kk
          exact JL.callg (ι := Nat × Nat) (fun x => .slice (some ⟨x.1, 0, none⟩) (z.l.take (z.l.length - 32)).length x.2) (fun x => [⟨x.1, Sl.Own 5 1 (z.l.take (z.l.length - 32)).length x.2 (T.map U8), true⟩]) goes_rturn rfl rfl (fun i => by simp) (fun w' hw' => hT0 w' ((hz.holds hw' rfl).fst _)) fun i => JL.nil (kk i nofun)
        · intro x EF MF Q kk
          exact JL.q (OQ.assign rfl) rfl (JL.nil (kk (x 7) (fun k h => by cases h; rfl)))
        · intro x EF MF Q kk
          exact JL.q (OQ.assign rfl) rfl (JL.nil (kk default nofun))
      · intro x hx
        have h8 := hx 8 7 (by decide) rfl
        show JE _ _ _ _ _ [(8, .slice (some ⟨(x 8).1, 0, none⟩) (z.l.take (z.l.length - 32)).length (x 8).2), (9, N 0), (3, z.v), (5, Pt b5 0), (10, N (z.l.length - 32)), (11, .slice (some ⟨bk, 0, none⟩) 2 ck)] [⟨(x 7).1, Sl.Own 5 1 (z.l.take (z.l.length - 32)).length (x 7).2 (T.map U8), true⟩]
        rw [h8]
        obtain ⟨b45, c45⟩ := x 7
        clear hx h8 x vs Ms
        dsimp only
        repeat (refine JE.next ?_)
        refine JC.ret ?_
        skip
        refine JE.ret2 rfl (RV.tmp rfl) (RV.tmp rfl) fun w' hw => ⟨⟨some ⟨b45, 0, none⟩, c45, T⟩, by simp only [Sl8.v, hTl], ⟨rfl, rfl, fun h => by cases h⟩, hw.weak (.keep _ _ _ _ _ _ (fun o ho => ?_) (Less.nil _))⟩
        refine ⟨Sl.Own.cells _ ho, ?_, rfl⟩
        obtain ⟨sp, rfl, q2, q3, q4⟩ := ho
        show T.length ≤ c45
        omega
    · rw [if_neg hg]
      repeat (first | refine JC.seq ?_ | refine JE.next ?_)
      refine JC.quiet mixed (by kernel_rfl) ?_
      repeat (first | refine JQ.q (by first | (apply OQ.slA; exact Tryd.underlying23; exact s5; exact rfl) | (apply OQ.snd (s := z); exact Tryd.underlying26; exact s5; exact rfl; exact rfl; exact hle) | (apply OQ.callx; exact goes_same; exact rfl; exact (fun w' hw' => same_b (a := ⟨some ⟨b12, 0, none⟩, 32, g⟩) (b := z.snd (z.l.length - 32)) (c := false) (by simp [Sl8.v, hgl]) rfl (row_ok hw' .here rfl (Nat.le_of_eq hgl)) ((hz.holds hw' rfl).snd _ hle) (show g.length < 4611686018427387904 by omega) (decide_eq_false hg))) | (apply OQ.not; exact rfl) | (apply OQ.move; exact rfl)) rfl ?_ | refine JQ.nil ?_ | refine JE.next ?_)
      refine JC.cond_true rfl rfl ?_
      repeat (first | refine JL.q (by (apply OQ.assign; exact rfl)) rfl ?_ | refine JC.seq ?_ | refine JC.region ?_ | refine JL.nil ?_ | refine JE.next ?_)
      refine JC.ret ?_
      repeat (refine JE.then_ret ?_)
      exact JE.ret2 rfl (RV.tmp rfl) (RV.tmp rfl) fun w' hw => ⟨nilS, rfl, ⟨rfl, rfl, fun _ => rfl⟩, hw.weak (Less.nil _)⟩
end Go.Proofs.YtakgpocehoeakaaDoor

/-
  Of no statement by itself: what despatchlaw04.speaks and .SealShort answer.
  Conditions: each theorem's own.
-/
namespace Go.Proofs.YtakgpocehoeakaaDoor
set_option maxRecDepth 10000
open Sl Sha Str

theorem set_ne {g : List B} {j : Nat} (h : j < g.length) {d : B} (hd : d ≠ 0) : ¬ g = g.set j (g.getD j 0 ^^^ d) := by
  intro e
  have h1 := congrArg (·.getD j 0) e
  simp only [List.getD, List.getElem?_set, h, if_true, Option.getD_some, List.getElem?_eq_getElem] at h1
  have h2 := congrArg (· ^^^ g[j]) h1
  simp only [BitVec.xor_self] at h2
  rw [BitVec.xor_comm g[j] d, BitVec.xor_assoc, BitVec.xor_self, BitVec.xor_zero] at h2
  exact hd h2.symm
/-- a bit of the tag turned -/
theorem openK_turned (a1 a2 nonce side p : List B) (i : Nat) (h1 : p.length ≤ i) (h2 : i < p.length + 32) (d : B) (hd : d ≠ 0) :
    openK a1 a2 nonce side ((sealK a1 a2 nonce side p).set i ((sealK a1 a2 nonce side p).getD i 0 ^^^ d)) = ([], 10) := by
  have hl := sealK_length a1 a2 nonce side p
  have hT := turn_length a1 1#32 nonce p
  have hg := hmacL a2 (msg nonce side (turn a1 1#32 nonce p))
  have hs : (sealK a1 a2 nonce side p).set i ((sealK a1 a2 nonce side p).getD i 0 ^^^ d) = turn a1 1#32 nonce p ++ (hmac a2 (msg nonce side (turn a1 1#32 nonce p))).set (i - p.length) ((hmac a2 (msg nonce side (turn a1 1#32 nonce p))).getD (i - p.length) 0 ^^^ d) := by
    rw [sealK, List.set_append_right _ _ (by omega), hT, List.getD_eq_getElem?_getD, List.getElem?_append_right (by omega), hT, ← List.getD_eq_getElem?_getD]
  rw [hs]
  generalize hh : hmac a2 (msg nonce side (turn a1 1#32 nonce p)) = g at hg
  generalize turn a1 1#32 nonce p = T at hT hh
  have hz : (T ++ g.set (i - p.length) (g.getD (i - p.length) 0 ^^^ d)).length - 32 = T.length := by simp; omega
  rw [openK, if_neg (by simp; omega), hz, List.take_append_of_le_length (Nat.le_refl _), List.take_length, List.drop_append, Nat.sub_self, List.drop_zero, List.drop_length, List.nil_append, hh, if_neg (set_ne (by omega) hd)]
theorem openK_short (a1 a2 nonce side z : List B) (h : z.length < 32) : openK a1 a2 nonce side z = ([], 3) := by rw [openK, if_pos h]
theorem openK_or (a1 a2 nonce side z : List B) (h : ¬ z.length < 32) : (∃ T, openK a1 a2 nonce side z = (T, 0) ∧ T.length = z.length - 32) ∨ openK a1 a2 nonce side z = ([], 10) := by
  rw [openK, if_neg h]
  split
  · exact .inl ⟨_, rfl, by rw [turn_length, List.length_take]; omega⟩
  · exact .inr rfl
theorem goes_speaks4 : Goes Tryd.prog 8 := ⟨_, Tryd.func8, rfl, by kernel_rfl⟩
theorem openO_any {key nonce : List B} {s z : Sl8} {vs vz : Value} {o : List B × Nat} (hvs : s.v = vs) (hvz : z.v = vz) (ho : openK (k1 key) (k2 key) nonce s.l z.l = o) (hk : key.length = 32) (hn : nonce.length = 12) {w : World} (hG : GOk w) (hQ : GQ w) (hs : s.ok w) (hz : z.ok w) (hsl : s.l.length < 100000000) (hzl : z.l.length < 100000000) :
    Calls Tryd.prog 10 [.agg (key.map U8).toArray, .agg (nonce.map U8).toArray, vs, vz].toArray w fun e w' => ∃ i : { s' : Sl8 // Gave s' o.1 s'.cap }, e = .returned (.tuple #[i.1.v, N o.2]) ∧ Holds w [] i.1.ents w' := by
  subst hvs hvz ho
  exact (open_any key nonce s z hk hn w hG hQ hs hz hsl hzl).mono fun e w' ⟨s', h1, h2, h3⟩ => ⟨⟨s', h2⟩, h1, h3⟩
theorem ropenO_any {key nonce : List B} {s z : Sl8} {vs vz : Value} {o : List B × Nat} (hvs : s.v = vs) (hvz : z.v = vz) (ho : openK (k1 key) (k2 key) nonce s.l z.l = o) (hk : key.length = 32) (hn : nonce.length = 12) {w : World} (hs : s.ok w) (hz : z.ok w) (hsl : s.l.length < 100000000) (hzl : z.l.length < 100000000) :
    Calls Tryd.prog 11 [.agg (key.map U8).toArray, .agg (nonce.map U8).toArray, vs, vz].toArray w fun e w' => ∃ i : { s' : Sl8 // Gave s' o.1 s'.cap }, e = .returned (.tuple #[i.1.v, N o.2]) ∧ Holds w [] i.1.ents w' := by
  subst hvs hvz ho
  exact (ropen_any key nonce s z hk hn w hs hz hsl hzl).mono fun e w' ⟨s', h1, h2, h3⟩ => ⟨⟨s', h2⟩, h1, h3⟩
theorem OQ.eqA_f {P : Program} {n : Nat} {E : Env} {C : World → Prop} {dst : Option Tmp} {t t' ty e : TypeId} {x y : Operand} {pos : String} {aft : Array Edge} {g : Option (Nat × Bool)} {m : Nat} {r q : List (BitVec 8)} (hu : P.underlying t = some (.array m e)) (he : P.underlying e = some (.int .u8)) (hz : szT P e = some 1) (hgd : P.eqGuardType P.depth t = false) (hx : ev E x = some (.agg (r.map U8).toArray)) (hy : ev E y = some (.agg (q.map U8).toArray)) (hr : r.length = m) (hq : q.length = m) (h : ¬ r = q) :
    OQ P n E C ⟨dst, .binOp .eql t x y t', ty, pos, aft, g⟩ (.bool false) := (decide_eq_false h : decide (r = q) = false) ▸ OQ.eqA hu he hz hgd hx hy hr hq
theorem OQ.eqb_t {P : Program} {n : Nat} {E : Env} {C : World → Prop} {dst : Option Tmp} {t t' ty : TypeId} {pos : String} {aft : Array Edge} {g : Option (Nat × Bool)} {x y : Operand} {a c : Bool} (hu : P.underlying t = some .bool) (hx : ev E x = some (.bool a)) (hy : ev E y = some (.bool c)) (h : a = c) : OQ P n E C ⟨dst, .binOp .eql t x y t', ty, pos, aft, g⟩ (.bool true) := by
  have := OQ.eqb (P := P) (n := n) (C := C) (dst := dst) (ty := ty) (t := t) (t' := t') (pos := pos) (aft := aft) (g := g) hu hx hy
  rwa [show (a == c) = true by simpa using h] at this
theorem sealK_get (a1 a2 nonce side p : List B) (i : Nat) (h : i < p.length) : (sealK a1 a2 nonce side p).getD i 0 = p.getD i 0 ^^^ sb a1 1#32 nonce i := by
  rw [sealK, List.getD_eq_getElem?_getD, List.getElem?_append_left (by rw [turn_length]; exact h), ← List.getD_eq_getElem?_getD, turn_get _ _ _ _ _ h]
theorem sealK_inj (a1 a2 nonce side : List B) {p q : List B} (hl : p.length = q.length) : decide (sealK a1 a2 nonce side p = sealK a1 a2 nonce side q) = decide (p = q) := by
  refine decide_eq_decide.2 ⟨fun h => ?_, fun h => by rw [h]⟩
  have h1 := congrArg (List.take p.length) h
  rw [sealK_take] at h1
  rw [hl, sealK_take] at h1
  rw [← turn_twice a1 1#32 nonce p, h1, turn_twice]
theorem OQ.ne8_f {P : Program} {n : Nat} {E : Env} {C : World → Prop} {dst : Option Tmp} {t t' ty : TypeId} {pos : String} {aft : Array Edge} {g : Option (Nat × Bool)} {x y : Operand} {a b : B} (hx : ev E x = some (U8 a)) (hy : ev E y = some (U8 b)) (h : a = b) : OQ P n E C ⟨dst, .binOp .neq t x y t', ty, pos, aft, g⟩ (.bool false) := by
  have := OQ.ne8 (P := P) (n := n) (C := C) (dst := dst) (ty := ty) (t := t) (t' := t') (pos := pos) (aft := aft) (g := g) hx hy
  rwa [decide_eq_true h] at this
theorem sealO_any {key nonce : List B} {s p : Sl8} {vs vp : Value} {m : Nat} {o : List B} (hvs : s.v = vs) (hvp : p.v = vp) (ho : sealK (k1 key) (k2 key) nonce s.l p.l = o) (hm : p.l.length = m) (hk : key.length = 32) (hn : nonce.length = 12) {w : World} (hG : GOk w) (hQ : GQ w) (hs : s.ok w) (hp : p.ok w) (hsl : s.l.length < 100000000) (hpl : p.l.length < 100000000) :
    Calls Tryd.prog 9 [.agg (key.map U8).toArray, .agg (nonce.map U8).toArray, vs, vp].toArray w fun e w' => ∃ x : Nat × Nat, e = .returned (.slice (some ⟨x.1, 0, none⟩) (m + 32) x.2) ∧ Holds w [] [⟨x.1, Sl.Own 5 1 (m + 32) x.2 (o.map U8), true⟩] w' := by
  subst hvs hvp ho hm
  exact seal_any key nonce s p hk hn w hG hQ hs hp hsl hpl
theorem ents_mem {w0 w : World} {S : List Nat} {M : List Ent} {s : Sl8} (hw : Holds w0 S M w) (hs : ∀ e ∈ s.ents, e ∈ M) (h0 : s.ad = none → s.l = []) : s.ok w := by
  have h : Holds w0 S (s.ents ++ []) w := by
    rw [List.append_nil]
    refine hw.sub ?_ hs
    unfold Sl8.ents
    split <;> simp
  exact Sl8.ents_ok h h0
theorem rsealO_any {key nonce : List B} {s p : Sl8} {o : List B} (ho : sealK (k1 key) (k2 key) nonce s.l p.l = o) (hk : key.length = 32) (hn : nonce.length = 12) {w : World} (hs : s.ok w) (hp : p.ok w) (hsl : s.l.length < 100000000) (hpl : p.l.length < 100000000) :
    Calls Tryd.prog 13 [.agg (key.map U8).toArray, .agg (nonce.map U8).toArray, s.v, p.v].toArray w fun e w' => ∃ x : Nat × Nat, e = .returned (.slice (some ⟨x.1, 0, none⟩) (p.l.length + 32) x.2) ∧ Holds w [] [⟨x.1, Sl.Own 5 1 (p.l.length + 32) x.2 (o.map U8), true⟩] w' := by
  subst ho
  exact rseal_any key nonce s p hk hn w hs hp hsl hpl
def zk : List B := List.replicate 32 0
def zn : List B := List.replicate 12 0
set_option maxHeartbeats 4000000 in
theorem speaks4_any (w : World) (hG : GOk w) (hQ : GQ w) : Calls Tryd.prog 8 ([] : List Value).toArray w fun e w' => e = .returned (.bool true) ∧ Ext w w' := by
  have hL := sealK_length (k1 zk) (k2 zk) zn [] []
  have hO := openK_sealK (k1 zk) (k2 zk) zn [] []
  have hF := openK_turned (k1 zk) (k2 zk) zn [] [] 3 (by decide) (by decide) 4#8 (by decide)
  have hS := fun w' (h1 : GOk w') (h2 : GQ w') => seal_any zk zn nilS nilS (by simp [zk]) (by simp [zn]) w' h1 h2 (nilS_ok _) (nilS_ok _) (by simp [nilS]) (by simp [nilS])
  rw [show nilS.l = [] from rfl] at hS
  generalize sealK (k1 zk) (k2 zk) zn [] [] = L at hL hO hF hS
  have hL : L.length = 32 := hL
  refine enter (n := 50) Tryd.func8 rfl rfl rfl (Holds.start w []) ?_
  repeat (first | refine JL.q (by (apply OQ.assign; exact rfl)) rfl ?_ | refine JC.seq ?_ | refine JC.region ?_ | refine JL.nil ?_ | refine JE.next ?_)
  refine JL.q (OQ.pure (v := .agg (zk.map U8).toArray) rfl rfl (by kernel_rfl)) rfl ?_
  refine JL.q (OQ.pure (v := .agg (zn.map U8).toArray) rfl rfl (by kernel_rfl)) rfl ?_
  refine JL.callg (ι := Nat × Nat) (vs := [.agg (zk.map U8).toArray, .agg (zn.map U8).toArray, nilS.v, nilS.v]) (fun x => .slice (some ⟨x.1, 0, none⟩) 32 x.2) (fun x => [⟨x.1, Sl.Own 5 1 32 x.2 (L.map U8), true⟩]) goes_seal rfl rfl (fun i => by simp) (fun w' hw' => hS w' (hG.chg hw'.chg (by simp)) (hQ.chg hw'.chg (by simp))) ?_
  rintro ⟨b1, c1⟩
  try dsimp only
  repeat (first | refine JL.q (by (apply OQ.assign; exact rfl)) rfl ?_ | refine JC.seq ?_ | refine JC.region ?_ | refine JL.nil ?_ | refine JE.next ?_)
  refine JL.q (OQ.pure (v := .agg (zk.map U8).toArray) rfl rfl (by kernel_rfl)) rfl ?_
  refine JL.q (OQ.pure (v := .agg (zn.map U8).toArray) rfl rfl (by kernel_rfl)) rfl ?_
  repeat (refine JL.q (by (apply OQ.move; exact rfl)) rfl ?_)
  refine JL.callg (ι := { s' : Sl8 // Gave s' [] s'.cap }) (vs := [.agg (zk.map U8).toArray, .agg (zn.map U8).toArray, nilS.v, .slice (some ⟨b1, 0, none⟩) 32 c1]) (fun i => .tuple #[i.1.v, N 0]) (fun i => i.1.ents) goes_open rfl rfl (fun i => Sl8.ents_wr _) (fun w' hw' => openO_any (s := nilS) (z := ⟨some ⟨b1, 0, none⟩, c1, L⟩) rfl (by simp [Sl8.v, hL]) hO (by simp [zk]) (by simp [zn]) (hG.chg hw'.chg (by simp)) (hQ.chg hw'.chg (by simp)) (nilS_ok _) (ownb_ok hw' .here) (by simp [nilS]) (show L.length < 100000000 by omega)) ?_
  rintro ⟨⟨ad, cp, l⟩, hs'⟩
  obtain rfl : l = [] := hs'.val
  try dsimp only
  repeat (first | refine JL.q (by first | (apply OQ.extract; exact rfl; exact rfl) | (apply OQ.nei_f; exact rfl; exact rfl; exact rfl) | (apply OQ.pick_f; exact rfl; exact rfl) | (apply OQ.move; exact rfl) | (apply OQ.assign; exact rfl) | (apply OQ.len; exact rfl; exact rfl)) rfl ?_ | refine JC.seq ?_ | refine JC.region ?_ | refine JL.nil ?_ | refine JE.next ?_ | refine JL.gon rfl rfl ?_)
  refine JC.cond_false rfl rfl ?_
  refine JC.weak (E' := [(1, .slice (some ⟨b1, 0, none⟩) 32 c1)]) (M' := [⟨b1, Sl.Own 5 1 32 c1 (L.map U8), true⟩]) ?_ (by repeat (first | exact SubE.nil | refine SubE.cons _ _ _ rfl ?_)) ?_
  · have hg : (L.map U8)[3]? = some (U8 (L.getD 3 0)) := map_at U8 0 (by omega)
    have hset : (L.map U8).set 3 (U8 (L.getD 3 0 ^^^ 4#8)) = (L.set 3 (L.getD 3 0 ^^^ 4#8)).map U8 := by rw [List.map_set]
    have hL' : (L.set 3 (L.getD 3 0 ^^^ 4#8)).length = 32 := by rw [List.length_set, hL]
    generalize L.set 3 (L.getD 3 0 ^^^ 4#8) = L' at hset hL' hF
    repeat (first | refine JL.q (by first | (apply OQ.idxS0; exact Tryd.underlying26; exact s5; exact rfl; exact rfl; exact (by decide)) | (apply OQ.load; exact c5; exact rfl; exact .here; exact (Sl.Own.cell hg)) | (apply OQ.xor8 (b := 4#8); exact rfl; exact rfl) | (apply OQ.move; exact rfl)) rfl ?_ | refine JC.seq ?_ | refine JC.region ?_ | refine JC.skip ?_ | refine JE.next ?_)
    refine JL.store_own s5 rfl rfl rfl rfl .here (by rw [List.length_map, hL]; decide) hset ?_
    repeat (first | refine JC.seq ?_ | refine JC.region ?_ | refine JL.nil ?_ | refine JE.next ?_)
    refine JL.q (OQ.pure (v := .agg (zk.map U8).toArray) rfl rfl (by kernel_rfl)) rfl ?_
    refine JL.q (OQ.pure (v := .agg (zn.map U8).toArray) rfl rfl (by kernel_rfl)) rfl ?_
    repeat (refine JL.q (by (apply OQ.move; exact rfl)) rfl ?_)
    refine JL.callg (ι := { s' : Sl8 // Gave s' [] s'.cap }) (vs := [.agg (zk.map U8).toArray, .agg (zn.map U8).toArray, nilS.v, .slice (some ⟨b1, 0, none⟩) 32 c1]) (fun i => .tuple #[i.1.v, N 10]) (fun i => i.1.ents) goes_open rfl rfl (fun i => Sl8.ents_wr _) (fun w' hw' => openO_any (s := nilS) (z := ⟨some ⟨b1, 0, none⟩, c1, L'⟩) rfl (by simp [Sl8.v, hL']) hF (by simp [zk]) (by simp [zn]) (hG.chg hw'.chg (by simp)) (hQ.chg hw'.chg (by simp)) (nilS_ok _) (ownb_ok hw' .here) (by simp [nilS]) (show L'.length < 100000000 by omega)) ?_
    rintro ⟨⟨ad, cp, l⟩, hs'⟩
    obtain rfl : l = [] := hs'.val
    try dsimp only
    repeat (first | refine JL.q (by first | (apply OQ.extract; exact rfl; exact rfl) | (apply OQ.eqi_t; exact rfl; exact rfl; exact rfl) | (apply OQ.move; exact rfl) | (apply OQ.assign; exact rfl)) rfl ?_ | refine JC.seq ?_ | refine JC.region ?_ | refine JL.nil ?_ | refine JE.next ?_ | refine JL.gon rfl rfl ?_)
    refine JL.lit1 Tryd.underlying26 e5 rfl rfl rfl rfl fun b41 _ => ?_
    refine JL.gon rfl rfl ?_
    refine JL.lit1 Tryd.underlying26 e5 rfl rfl rfl rfl fun b42 _ => ?_
    repeat (first | refine JL.q (by first | (apply OQ.callx; exact goes_ssame; exact rfl; exact (fun w' hw' => ssame_b (a := ⟨some ⟨b41, 0, none⟩, 1, [1]⟩) (b := ⟨some ⟨b42, 0, none⟩, 1, [1]⟩) (c := true) rfl rfl (row_ok hw' (.there .here) rfl (Nat.le_refl _)) (row_ok hw' .here rfl (Nat.le_refl _)) (show 1 < 4611686018427387904 by decide) rfl)) | (apply OQ.pick_t; exact rfl; exact rfl) | (apply OQ.move; exact rfl)) rfl ?_ | refine JL.gon rfl rfl ?_)
    refine JL.lit1 Tryd.underlying26 e5 rfl rfl rfl rfl fun b46 _ => ?_
    repeat (first | refine JL.q (by first | (apply OQ.callx; exact goes_ssame; exact rfl; exact (fun w' hw' => ssame_b (a := ⟨some ⟨b46, 0, none⟩, 1, [1]⟩) (b := nilS) (c := false) rfl rfl (row_ok hw' .here rfl (Nat.le_refl _)) (nilS_ok _) (show 1 < 4611686018427387904 by decide) rfl)) | (apply OQ.not; exact rfl) | (apply OQ.pick_t; exact rfl; exact rfl) | (apply OQ.assign; exact rfl)) rfl ?_ | refine JL.nil ?_ | refine JE.next ?_ | refine JL.gon rfl rfl ?_)
    refine JC.ret ?_
    skip
    exact JE.ret1 rfl (RV.tmp rfl) fun w' hw => ⟨rfl, hw.chg⟩
  · cases ad with
    | none => exact Less.refl _
    | some a => exact .drop _ _ _ (Less.refl _)
end Go.Proofs.YtakgpocehoeakaaDoor

/-
  Of no statement by itself: what despatchlaw04.SealShort answers.
  Conditions: the theorem's own.
-/
namespace Go.Proofs.YtakgpocehoeakaaDoor
set_option maxRecDepth 10000
open Sl Sha Str

set_option maxHeartbeats 4000000 in
theorem law_sealShort (key nonce : List B) (s z : Sl8) (w : World) (hG : GOk w) (hQ : GQ w) (hk : key.length = 32) (hn : nonce.length = 12) (hs : s.ok w) (hz : z.ok w) :
    Calls Tryd.prog 7 [.agg (key.map U8).toArray, .agg (nonce.map U8).toArray, s.v, z.v].toArray w fun e w' => e = .returned (.bool true) ∧ Ext w w' := by
  refine enter (n := 73) Tryd.func7 rfl rfl rfl (Holds.start w []) ?_
  repeat (first | refine JC.seq ?_ | refine JC.region ?_)
  refine JL.box (r := key.map U8) rfl rfl rfl fun b4 _ => ?_
  refine JL.box (r := nonce.map U8) rfl rfl rfl fun b5 _ => ?_
  repeat (first | refine JL.q (by first | (apply OQ.callx; exact goes_speaks4; exact rfl; exact (fun w' hw' => speaks4_any w' (hG.chg hw'.chg (by simp)) (hQ.chg hw'.chg (by simp)))) | (apply OQ.not; exact rfl) | (apply OQ.assign; exact rfl)) rfl ?_ | refine JC.seq ?_ | refine JC.region ?_ | refine JL.nil ?_ | refine JE.next ?_)
  refine JC.cond_false rfl rfl ?_
  by_cases g0 : 200 < z.l.length
  · repeat (first | refine JL.q (by first | (apply OQ.gtrN_t; exact rfl; exact rfl; exact g0) | (apply OQ.pick_t; exact rfl; exact rfl) | (apply OQ.move; exact rfl) | (apply OQ.len; exact rfl; exact rfl)) rfl ?_ | refine JC.seq ?_ | refine JC.region ?_ | refine JC.skip ?_ | refine JL.nil ?_ | refine JE.next ?_ | refine JL.gskip rfl rfl rfl rfl ?_)
    refine JC.cond_true rfl rfl ?_
    repeat (first | refine JL.q (by (apply OQ.assign; exact rfl)) rfl ?_ | refine JC.seq ?_ | refine JC.region ?_ | refine JL.nil ?_ | refine JE.next ?_)
    refine JC.ret ?_
    repeat (refine JE.then_ret ?_)
    exact JE.ret1 rfl (RV.tmp rfl) fun w' hw => ⟨rfl, hw.chg⟩
  by_cases g1 : 200 < s.l.length
  · repeat (first | refine JL.q (by first | (apply OQ.gtrN_f; exact rfl; exact rfl; exact g0) | (apply OQ.gtrN_t; exact rfl; exact rfl; exact g1) | (apply OQ.pick_f; exact rfl; exact rfl) | (apply OQ.move; exact rfl) | (apply OQ.len; exact rfl; exact rfl)) rfl ?_ | refine JC.seq ?_ | refine JC.region ?_ | refine JC.skip ?_ | refine JL.nil ?_ | refine JE.next ?_ | refine JL.gon rfl rfl ?_)
    refine JC.cond_true rfl rfl ?_
    repeat (first | refine JL.q (by (apply OQ.assign; exact rfl)) rfl ?_ | refine JC.seq ?_ | refine JC.region ?_ | refine JL.nil ?_ | refine JE.next ?_)
    refine JC.ret ?_
    repeat (refine JE.then_ret ?_)
    exact JE.ret1 rfl (RV.tmp rfl) fun w' hw => ⟨rfl, hw.chg⟩
  repeat (first | refine JL.q (by first | (apply OQ.gtrN_f; exact rfl; exact rfl; exact g0) | (apply OQ.gtrN_f; exact rfl; exact rfl; exact g1) | (apply OQ.pick_f; exact rfl; exact rfl) | (apply OQ.move; exact rfl) | (apply OQ.len; exact rfl; exact rfl)) rfl ?_ | refine JC.seq ?_ | refine JC.region ?_ | refine JC.skip ?_ | refine JL.nil ?_ | refine JE.next ?_ | refine JL.gon rfl rfl ?_)
  refine JC.cond_false rfl rfl ?_
  have ho : openK (k1 key) (k2 key) nonce s.l z.l = openK (k1 key) (k2 key) nonce s.l z.l := rfl
  have hsh := openK_short (k1 key) (k2 key) nonce s.l z.l
  have hor := openK_or (k1 key) (k2 key) nonce s.l z.l
  generalize hoo : openK (k1 key) (k2 key) nonce s.l z.l = o at hsh hor
  repeat (first | refine JL.q (by first | (apply OQ.load_agg (cs := key.map U8); exact a25; exact s25; exact rfl; exact (.there .here); exact (by simpa using hk); exact Row.all) | (apply OQ.load_agg (cs := nonce.map U8); exact noa; exact nos; exact rfl; exact .here; exact (by simpa using hn); exact Row.all) | (apply OQ.move; exact rfl)) rfl ?_ | refine JC.seq ?_ | refine JC.region ?_ | refine JC.skip ?_ | refine JE.next ?_)
  refine JL.callg (ι := { s' : Sl8 // Gave s' o.1 s'.cap }) (fun i => .tuple #[i.1.v, N o.2]) (fun i => i.1.ents) goes_open rfl rfl (fun i => Sl8.ents_wr _) (fun w' hw' => openO_any rfl rfl hoo hk hn (hG.chg hw'.chg (by simp)) (hQ.chg hw'.chg (by simp)) (hs.holds hw' rfl) (hz.holds hw' rfl) (by omega) (by omega)) ?_
  rintro ⟨x1, h1⟩
  try dsimp only
  have hx1 : x1.l.length = o.1.length := by rw [h1.val]
  refine JL.perm List.perm_append_comm ?_
  repeat (first | refine JL.q (by first | (apply OQ.extract; exact rfl; exact rfl) | (apply OQ.load_agg (cs := key.map U8); exact a25; exact s25; exact rfl; exact (.there .here); exact (by simpa using hk); exact Row.all) | (apply OQ.load_agg (cs := nonce.map U8); exact noa; exact nos; exact rfl; exact .here; exact (by simpa using hn); exact Row.all) | (apply OQ.move; exact rfl) | (apply OQ.assign; exact rfl)) rfl ?_ | refine JC.seq ?_ | refine JC.region ?_ | refine JL.nil ?_ | refine JE.next ?_)
  refine JL.callg (ι := { s' : Sl8 // Gave s' o.1 s'.cap }) (fun i => .tuple #[i.1.v, N o.2]) (fun i => i.1.ents) goes_ropen rfl rfl (fun i => Sl8.ents_wr _) (fun w' hw' => ropenO_any rfl rfl hoo hk hn (hs.holds hw' rfl) (hz.holds hw' rfl) (by omega) (by omega)) ?_
  rintro ⟨x2, h2⟩
  try dsimp only
  clear h1 h2 ho hoo
  by_cases hlt : z.l.length < 32
  · obtain rfl := hsh hlt
    have hx1 : x1.l.length = 0 := hx1
    try dsimp only
    repeat (first | refine JL.q (by first | (apply OQ.extract; exact rfl; exact rfl) | (apply OQ.lssN_t; exact rfl; exact rfl; exact hlt) | (apply OQ.move; exact rfl) | (apply OQ.assign; exact rfl) | (apply OQ.len; exact rfl; exact rfl)) rfl ?_ | refine JC.seq ?_ | refine JC.region ?_ | refine JL.nil ?_ | refine JE.next ?_)
    refine JC.cond_true rfl rfl ?_
    repeat (first | refine JL.q (by first | (apply OQ.eqi_t; exact rfl; exact rfl; exact rfl) | (apply OQ.eqi_t; exact rfl; exact rfl; exact (show ((x1.l.length : Nat) : Int) = 0 by omega)) | (apply OQ.pick_t; exact rfl; exact rfl) | (apply OQ.move; exact rfl) | (apply OQ.assign; exact rfl) | (apply OQ.len; exact rfl; exact rfl)) rfl ?_ | refine JC.seq ?_ | refine JC.region ?_ | refine JL.nil ?_ | refine JE.next ?_ | refine JL.gon rfl rfl ?_)
    refine JC.ret ?_
    repeat (refine JE.then_ret ?_)
    exact JE.ret1 rfl (RV.tmp rfl) fun w' hw => ⟨rfl, hw.chg⟩
  · rcases hor hlt with ⟨T, rfl, hT⟩ | rfl
    · have hx1 : x1.l.length = z.l.length - 32 := hx1.trans hT
      try dsimp only
      repeat (first | refine JL.q (by first | (apply OQ.extract; exact rfl; exact rfl) | (apply OQ.lssN_f; exact rfl; exact rfl; exact hlt) | (apply OQ.move; exact rfl) | (apply OQ.assign; exact rfl) | (apply OQ.len; exact rfl; exact rfl)) rfl ?_ | refine JC.seq ?_ | refine JC.region ?_ | refine JL.nil ?_ | refine JE.next ?_)
      refine JC.cond_false rfl rfl ?_
      repeat (first | refine JL.q (by first | (apply OQ.eqi_t; exact rfl; exact rfl; exact rfl) | (apply OQ.eqi_t; exact rfl; exact rfl; exact (show ((x1.l.length : Nat) : Int) = ((z.l.length - 32 : Nat) : Int) by omega)) | (apply OQ.pick_t; exact rfl; exact rfl) | (apply OQ.move; exact rfl) | (apply OQ.assign; exact rfl) | (apply OQ.len; exact rfl; exact rfl) | (apply OQ.subN; exact rfl; exact rfl; exact (by (try simp only []); omega); exact (by (try simp only []); omega))) rfl ?_ | refine JC.seq ?_ | refine JC.region ?_ | refine JC.skip ?_ | refine JL.nil ?_ | refine JE.next ?_ | refine JL.gon rfl rfl ?_ | refine JL.gskip rfl rfl rfl rfl ?_ | refine JL.gskipU rfl rfl rfl rfl ?_)
      refine JC.ret ?_
      skip
      exact JE.ret1 rfl (RV.tmp rfl) fun w' hw => ⟨rfl, hw.chg⟩
    · have hx1 : x1.l.length = 0 := hx1
      try dsimp only
      repeat (first | refine JL.q (by first | (apply OQ.extract; exact rfl; exact rfl) | (apply OQ.lssN_f; exact rfl; exact rfl; exact hlt) | (apply OQ.move; exact rfl) | (apply OQ.assign; exact rfl) | (apply OQ.len; exact rfl; exact rfl)) rfl ?_ | refine JC.seq ?_ | refine JC.region ?_ | refine JL.nil ?_ | refine JE.next ?_)
      refine JC.cond_false rfl rfl ?_
      repeat (first | refine JL.q (by first | (apply OQ.eqi_t; exact rfl; exact rfl; exact rfl) | (apply OQ.eqi_t; exact rfl; exact rfl; exact (show ((x1.l.length : Nat) : Int) = 0 by omega)) | (apply OQ.eqi_f; exact rfl; exact rfl; exact (show ¬ ((10 : Nat) : Int) = 0 by decide)) | (apply OQ.pick_t; exact rfl; exact rfl) | (apply OQ.pick_f; exact rfl; exact rfl) | (apply OQ.move; exact rfl) | (apply OQ.assign; exact rfl) | (apply OQ.len; exact rfl; exact rfl)) rfl ?_ | refine JC.seq ?_ | refine JC.region ?_ | refine JC.skip ?_ | refine JL.nil ?_ | refine JE.next ?_ | refine JL.gon rfl rfl ?_ | refine JL.gskip rfl rfl rfl rfl ?_)
      refine JC.ret ?_
      skip
      exact JE.ret1 rfl (RV.tmp rfl) fun w' hw => ⟨rfl, hw.chg⟩
end Go.Proofs.YtakgpocehoeakaaDoor

/-
  Of no statement by itself: what despatchlaw04.SealMessages answers.
  Conditions: the theorem's own.
-/
namespace Go.Proofs.YtakgpocehoeakaaDoor
set_option maxRecDepth 10000
open Sl Sha Str

theorem gdn : Tryd.prog.eqGuardType Tryd.prog.depth 25 = false := by kernel_rfl
def needW : Nat → List (Nat × Nat)
  | 3 => [(0, 47), (1, 48), (2, 49)]
  | 7 => [(4, 51), (5, 52), (6, 53)]
  | 8 => [(3, 50), (7, 54)]
  | 10 => [(8, 55), (9, 56)]
  | 11 => [(10, 57)]
  | 12 => [(11, 58)]
  | 13 => [(11, 58)]
  | 14 => [(12, 59), (13, 60), (11, 58)]
  | 15 => [(11, 58)]
  | 16 => [(11, 58)]
  | 17 => [(15, 62), (16, 63), (11, 58)]
  | 18 => [(14, 61), (17, 64), (11, 58)]
  | 19 => [(11, 58), (18, 65)]
  | 20 => [(19, 66)]
  | _ => []
def inpW : Nat → List Nat
  | 0 => [22]
  | 4 => [21]
  | 8 => [3, 7]
  | _ => []

set_option maxHeartbeats 4000000 in
set_option maxRecDepth 4000 in
theorem law_sealMessages (a b : List B) (p r u v : Sl8) (w : World) (hG : GOk w) (hQ : GQ w) (ha : a.length = 12) (hb : b.length = 12) (hx : p.ok w) (hy : r.ok w) (hu : u.ok w) (hv : v.ok w) :
    Calls Tryd.prog 5 [.agg (a.map U8).toArray, .agg (b.map U8).toArray, p.v, r.v, u.v, v.v].toArray w fun e w' => e = .returned (.bool true) ∧ Ext w w' := by
  refine enter (n := 67) Tryd.func5 rfl rfl rfl (Holds.start w []) ?_
  repeat (first | refine JC.seq ?_ | refine JC.region ?_)
  refine JL.box (r := a.map U8) rfl rfl rfl fun b6 _ => ?_
  refine JL.box (r := b.map U8) rfl rfl rfl fun b7 _ => ?_
  repeat (first | refine JL.q (by first | (apply OQ.callx; exact goes_speaks4; exact rfl; exact (fun w' hw' => speaks4_any w' (hG.chg hw'.chg (by simp)) (hQ.chg hw'.chg (by simp)))) | (apply OQ.not; exact rfl) | (apply OQ.assign; exact rfl)) rfl ?_ | refine JC.seq ?_ | refine JC.region ?_ | refine JL.nil ?_ | refine JE.next ?_)
  refine JC.cond_false rfl rfl ?_
  by_cases g0 : 500 < p.l.length
  · repeat (first | refine JL.q (by first | (apply OQ.gtrN_t; exact rfl; exact rfl; exact g0) | (apply OQ.pick_t; exact rfl; exact rfl) | (apply OQ.move; exact rfl) | (apply OQ.len; exact rfl; exact rfl)) rfl ?_ | refine JC.seq ?_ | refine JC.region ?_ | refine JC.skip ?_ | refine JL.nil ?_ | refine JE.next ?_ | refine JL.gskip rfl rfl rfl rfl ?_)
    refine JC.cond_true rfl rfl ?_
    repeat (first | refine JL.q (by (apply OQ.assign; exact rfl)) rfl ?_ | refine JC.seq ?_ | refine JC.region ?_ | refine JL.nil ?_ | refine JE.next ?_)
    refine JC.ret ?_
    repeat (refine JE.then_ret ?_)
    exact JE.ret1 rfl (RV.tmp rfl) fun w' hw => ⟨rfl, hw.chg⟩
  by_cases g1 : 500 < r.l.length
  · repeat (first | refine JL.q (by first | (apply OQ.gtrN_f; exact rfl; exact rfl; exact g0) | (apply OQ.gtrN_t; exact rfl; exact rfl; exact g1) | (apply OQ.pick_t; exact rfl; exact rfl) | (apply OQ.pick_f; exact rfl; exact rfl) | (apply OQ.move; exact rfl) | (apply OQ.len; exact rfl; exact rfl)) rfl ?_ | refine JC.seq ?_ | refine JC.region ?_ | refine JC.skip ?_ | refine JL.nil ?_ | refine JE.next ?_ | refine JL.gon rfl rfl ?_ | refine JL.gskip rfl rfl rfl rfl ?_)
    refine JC.cond_true rfl rfl ?_
    repeat (first | refine JL.q (by (apply OQ.assign; exact rfl)) rfl ?_ | refine JC.seq ?_ | refine JC.region ?_ | refine JL.nil ?_ | refine JE.next ?_)
    refine JC.ret ?_
    repeat (refine JE.then_ret ?_)
    exact JE.ret1 rfl (RV.tmp rfl) fun w' hw => ⟨rfl, hw.chg⟩
  by_cases g2 : 500 < u.l.length
  · repeat (first | refine JL.q (by first | (apply OQ.gtrN_f; exact rfl; exact rfl; exact g0) | (apply OQ.gtrN_f; exact rfl; exact rfl; exact g1) | (apply OQ.gtrN_t; exact rfl; exact rfl; exact g2) | (apply OQ.pick_t; exact rfl; exact rfl) | (apply OQ.pick_f; exact rfl; exact rfl) | (apply OQ.move; exact rfl) | (apply OQ.len; exact rfl; exact rfl)) rfl ?_ | refine JC.seq ?_ | refine JC.region ?_ | refine JC.skip ?_ | refine JL.nil ?_ | refine JE.next ?_ | refine JL.gon rfl rfl ?_ | refine JL.gskip rfl rfl rfl rfl ?_)
    refine JC.cond_true rfl rfl ?_
    repeat (first | refine JL.q (by (apply OQ.assign; exact rfl)) rfl ?_ | refine JC.seq ?_ | refine JC.region ?_ | refine JL.nil ?_ | refine JE.next ?_)
    refine JC.ret ?_
    repeat (refine JE.then_ret ?_)
    exact JE.ret1 rfl (RV.tmp rfl) fun w' hw => ⟨rfl, hw.chg⟩
  by_cases g3 : 500 < v.l.length
  · repeat (first | refine JL.q (by first | (apply OQ.gtrN_f; exact rfl; exact rfl; exact g0) | (apply OQ.gtrN_f; exact rfl; exact rfl; exact g1) | (apply OQ.gtrN_f; exact rfl; exact rfl; exact g2) | (apply OQ.gtrN_t; exact rfl; exact rfl; exact g3) | (apply OQ.pick_f; exact rfl; exact rfl) | (apply OQ.move; exact rfl) | (apply OQ.len; exact rfl; exact rfl)) rfl ?_ | refine JC.seq ?_ | refine JC.region ?_ | refine JC.skip ?_ | refine JL.nil ?_ | refine JE.next ?_ | refine JL.gon rfl rfl ?_)
    refine JC.cond_true rfl rfl ?_
    repeat (first | refine JL.q (by (apply OQ.assign; exact rfl)) rfl ?_ | refine JC.seq ?_ | refine JC.region ?_ | refine JL.nil ?_ | refine JE.next ?_)
    refine JC.ret ?_
    repeat (refine JE.then_ret ?_)
    exact JE.ret1 rfl (RV.tmp rfl) fun w' hw => ⟨rfl, hw.chg⟩
  repeat (first | refine JL.q (by first | (apply OQ.gtrN_f; exact rfl; exact rfl; exact g0) | (apply OQ.gtrN_f; exact rfl; exact rfl; exact g1) | (apply OQ.gtrN_f; exact rfl; exact rfl; exact g2) | (apply OQ.gtrN_f; exact rfl; exact rfl; exact g3) | (apply OQ.pick_f; exact rfl; exact rfl) | (apply OQ.move; exact rfl) | (apply OQ.len; exact rfl; exact rfl)) rfl ?_ | refine JC.seq ?_ | refine JC.region ?_ | refine JC.skip ?_ | refine JL.nil ?_ | refine JE.next ?_ | refine JL.gon rfl rfl ?_)
  refine JC.cond_false rfl rfl ?_
  obtain ⟨one, hone⟩ : ∃ o, o = (decide (a = b) && decide (p.l = r.l) && decide (u.l = v.l)) := ⟨_, rfl⟩
  refine JC.skip ?_
  refine JE.next ?_
  refine JC.seq ?_
  refine JC.join (ι := Unit) (fun _ => [(2, p.v), (3, r.v), (4, u.v), (5, v.v), (6, Pt b6 0), (7, Pt b7 0), (13, .bool one)]) (fun _ => [⟨b7, Row 25 (b.map U8), true⟩, ⟨b6, Row 25 (a.map U8), true⟩]) (fun _ => True) ?_ ?_
  · by_cases h1 : a = b
    · by_cases h2 : p.l = r.l
      · obtain rfl : one = decide (u.l = v.l) := by rw [hone]; simp [h1, h2]
        repeat (first | refine JL.q (by first | (apply OQ.load_agg (b := b6) (cs := a.map U8); exact noa; exact nos; exact rfl; exact (.there .here); exact (by simpa using ha); exact Row.all) | (apply OQ.load_agg (b := b7) (cs := b.map U8); exact noa; exact nos; exact rfl; exact .here; exact (by simpa using hb); exact Row.all) | (apply OQ.eqA_t; exact Tryd.underlying25; exact Tryd.underlying5; exact s5; exact gdn; exact rfl; exact rfl; exact ha; exact hb; exact h1) | (apply OQ.callx (vs := [p.v, r.v]); exact goes_same; exact rfl; exact (fun w' hw' => same_b (a := p) (b := r) (c := true) rfl rfl (hx.holds hw' rfl) (hy.holds hw' rfl) (by omega) (decide_eq_true h2))) | (apply OQ.callx (vs := [u.v, v.v]); exact goes_same; exact rfl; exact (fun w' hw' => same_b (a := u) (b := v) (c := decide (u.l = v.l)) rfl rfl (hu.holds hw' rfl) (hv.holds hw' rfl) (by omega) rfl)) | (apply OQ.pick_t; exact rfl; exact rfl) | (apply OQ.move; exact rfl) | (apply OQ.assign; exact rfl)) rfl ?_ | refine JC.region ?_ | refine JL.nil ?_ | refine JL.gon rfl rfl ?_)
        exact JE.mid () trivial (by repeat (first | exact SubE.nil | refine SubE.cons _ _ _ rfl ?_)) (Less.refl _)
      · obtain rfl : one = false := by rw [hone]; simp [h1, h2]
        repeat (first | refine JL.q (by first | (apply OQ.load_agg (b := b6) (cs := a.map U8); exact noa; exact nos; exact rfl; exact (.there .here); exact (by simpa using ha); exact Row.all) | (apply OQ.load_agg (b := b7) (cs := b.map U8); exact noa; exact nos; exact rfl; exact .here; exact (by simpa using hb); exact Row.all) | (apply OQ.eqA_t; exact Tryd.underlying25; exact Tryd.underlying5; exact s5; exact gdn; exact rfl; exact rfl; exact ha; exact hb; exact h1) | (apply OQ.callx (vs := [p.v, r.v]); exact goes_same; exact rfl; exact (fun w' hw' => same_b (a := p) (b := r) (c := false) rfl rfl (hx.holds hw' rfl) (hy.holds hw' rfl) (by omega) (decide_eq_false h2))) | (apply OQ.pick_t; exact rfl; exact rfl) | (apply OQ.pick_f; exact rfl; exact rfl) | (apply OQ.move; exact rfl) | (apply OQ.assign; exact rfl)) rfl ?_ | refine JC.region ?_ | refine JL.nil ?_ | refine JL.gon rfl rfl ?_ | refine JL.gskip rfl rfl rfl rfl ?_)
        exact JE.mid () trivial (by repeat (first | exact SubE.nil | refine SubE.cons _ _ _ rfl ?_)) (Less.refl _)
    · obtain rfl : one = false := by rw [hone]; simp [h1]
      repeat (first | refine JL.q (by first | (apply OQ.load_agg (b := b6) (cs := a.map U8); exact noa; exact nos; exact rfl; exact (.there .here); exact (by simpa using ha); exact Row.all) | (apply OQ.load_agg (b := b7) (cs := b.map U8); exact noa; exact nos; exact rfl; exact .here; exact (by simpa using hb); exact Row.all) | (apply OQ.eqA_f; exact Tryd.underlying25; exact Tryd.underlying5; exact s5; exact gdn; exact rfl; exact rfl; exact ha; exact hb; exact h1) | (apply OQ.pick_f; exact rfl; exact rfl) | (apply OQ.move; exact rfl) | (apply OQ.assign; exact rfl)) rfl ?_ | refine JC.region ?_ | refine JL.nil ?_ | refine JL.gskip rfl rfl rfl rfl ?_)
      exact JE.mid () trivial (by repeat (first | exact SubE.nil | refine SubE.cons _ _ _ rfl ?_)) (Less.refl _)
  · intro _ _
    have hmm : decide (msg a p.l u.l = msg b r.l v.l) = one := by
      rw [hone, Bool.eq_iff_iff]
      simp only [decide_eq_true_eq, Bool.and_eq_true]
      constructor
      · intro h
        obtain ⟨h1, h2, h3⟩ := msg_inj ha hb (by omega) (by omega) h
        exact ⟨⟨h1, h2⟩, h3⟩
      · rintro ⟨⟨h1, h2⟩, h3⟩
        rw [h1, h2, h3]
    have hl1 := msg_length a p.l u.l
    have hl2 := msg_length b r.l v.l
    have hM1 := fun w' (h1 : p.ok w') (h2 : u.ok w') => message_any a p u ha w' h1 h2 (by omega) (by omega)
    have hM2 := fun w' (h1 : r.ok w') (h2 : v.ok w') => message_any b r v hb w' h1 h2 (by omega) (by omega)
    rw [ha] at hl1
    rw [hb] at hl2
    generalize msg a p.l u.l = m1 at hmm hl1 hM1
    generalize msg b r.l v.l = m2 at hmm hl2 hM2
    repeat (refine JC.seq ?_)
    let vs : Nat → X → Value := fun j z => match j with
      | 0 => .agg (a.map U8).toArray
      | 1 => p.v
      | 2 => u.v
      | 3 => .slice (some ⟨z.1, 0, none⟩) m1.length z.2
      | 4 => .agg (b.map U8).toArray
      | 5 => r.v
      | 6 => v.v
      | 7 => .slice (some ⟨z.1, 0, none⟩) m2.length z.2
      | 8 => .bool one
      | 9 => .bool one
      | 12 => p.v
      | 13 => r.v
      | 14 => .bool (decide (p.l = r.l))
      | 15 => p.v
      | 16 => r.v
      | 17 => .bool (decide (p.l = r.l))
      | _ => .bool true
    let Ms : Nat → X → List Ent := fun j z => match j with
      | 3 => [⟨z.1, Sl.Own 5 1 m1.length z.2 (m1.map U8), true⟩]
      | 7 => [⟨z.1, Sl.Own 5 1 m2.length z.2 (m2.map U8), true⟩]
      | 21 => [⟨b7, Row 25 (b.map U8), true⟩]
      | 22 => [⟨b6, Row 25 (a.map U8), true⟩]
      | _ => []
    refine JC.grow (g := ⟨[(2, p.v), (3, r.v), (4, u.v), (5, v.v), (6, Pt b6 0), (7, Pt b7 0), (13, .bool one)], 23, vs, Ms, needW, inpW, fun _ => [], fun _ => none⟩) [(20, 12)] [] mixed (by repeat (first | exact SubE.nil | refine SubE.cons _ _ _ rfl ?_)) (Less.refl _) (by kernel_rfl) (by kernel_rfl) (by kernel_rfl) ?_ ?_
    · refine ⟨?_, ?_, ?_, ?_, ?_, ?_, ?_, ?_, ?_, ?_, ?_, ?_, ?_, ?_, ?_, ?_, ?_, ?_, ?_, ?_, ?_, trivial⟩
      iterate 3 (focus (intro x EF MF Q kk; (try refine JL.gon rfl rfl ?_); exact JL.q (by first | (apply OQ.load_agg (cs := a.map U8); exact noa; exact nos; exact rfl; exact .here; exact (by simpa using ha); exact Row.all) | (apply OQ.move; exact rfl)) rfl (JL.nil (kk default nofun))))
      · intro z EF MF Q kk
        exact JL.callg (ι := Nat × Nat) (fun x => .slice (some ⟨x.1, 0, none⟩) m1.length x.2) (fun x => [⟨x.1, Sl.Own 5 1 m1.length x.2 (m1.map U8), true⟩]) goes_message rfl rfl (fun i => by simp) (fun w' hw' => hM1 w' (hx.holds hw' rfl) (hu.holds hw' rfl)) fun i => JL.nil (kk i nofun)
      iterate 3 (focus (intro x EF MF Q kk; (try refine JL.gon rfl rfl ?_); exact JL.q (by first | (apply OQ.load_agg (cs := b.map U8); exact noa; exact nos; exact rfl; exact .here; exact (by simpa using hb); exact Row.all) | (apply OQ.move; exact rfl)) rfl (JL.nil (kk default nofun))))
      · intro z EF MF Q kk
        exact JL.callg (ι := Nat × Nat) (fun x => .slice (some ⟨x.1, 0, none⟩) m2.length x.2) (fun x => [⟨x.1, Sl.Own 5 1 m2.length x.2 (m2.map U8), true⟩]) goes_message rfl rfl (fun i => by simp) (fun w' hw' => hM2 w' (hy.holds hw' rfl) (hv.holds hw' rfl)) fun i => JL.nil (kk i nofun)
      · intro z EF MF Q kk
        exact JL.q (OQ.callx (vs := [.slice (some ⟨(z 3).1, 0, none⟩) m1.length (z 3).2, .slice (some ⟨(z 7).1, 0, none⟩) m2.length (z 7).2]) goes_same rfl fun w' hw' => same_b (a := ⟨some ⟨(z 3).1, 0, none⟩, (z 3).2, m1⟩) (b := ⟨some ⟨(z 7).1, 0, none⟩, (z 7).2, m2⟩) (c := one) rfl rfl (ownb_ok hw' .here) (ownb_ok hw' (.there .here)) (show m1.length < 4611686018427387904 by omega) hmm) rfl (JL.nil (kk default nofun))
      iterate 12 (focus (intro x EF MF Q kk; (try refine JL.gon rfl rfl ?_); exact JL.q (by first | (apply OQ.eqb_t; exact Tryd.underlying4; exact rfl; exact rfl; exact rfl) | (apply OQ.callx (vs := [p.v, r.v]); exact goes_ssame; exact rfl; exact (fun w' hw' => ssame_b (a := p) (b := r) (c := decide (p.l = r.l)) rfl rfl (hx.holds hw' rfl) (hy.holds hw' rfl) (by omega) rfl)) | (apply OQ.callx (vs := [p.v, r.v]); exact goes_same; exact rfl; exact (fun w' hw' => same_b (a := p) (b := r) (c := decide (p.l = r.l)) rfl rfl (hx.holds hw' rfl) (hy.holds hw' rfl) (by omega) rfl)) | (apply OQ.pick_t; exact rfl; exact rfl) | (apply OQ.move; exact rfl) | (apply OQ.assign; exact rfl)) rfl (JL.nil (kk default nofun))))
    · intro z _
      repeat (refine JE.next ?_)
      refine JC.ret ?_
      skip
      exact JE.ret1 rfl (RV.tmp rfl) fun w' hw => ⟨rfl, hw.chg⟩
end Go.Proofs.YtakgpocehoeakaaDoor
