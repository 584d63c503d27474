/-
  Of no statement by itself: what seal.Seal and seal.Open give.
  Conditions: each theorem's own; the listed tables.
-/
import Derived.Test.YtheemnpfnefbmaaDoorSealA
import Derived.Test.YtheemnpfnefbmaaDoorStrV
namespace Go.Proofs.YtheemnpfnefbmaaDoor
open Sl Sha Str

/-- sealed by two keys, and opened -/
def sealK (a1 a2 nonce side p : List B) : List B := turn a1 1#32 nonce p ++ hmac a2 (msg nonce side (turn a1 1#32 nonce p))
def openK (a1 a2 nonce side z : List B) : List B × Nat :=
  if z.length < 32 then ([], 3) else if hmac a2 (msg nonce side (z.take (z.length - 32))) = z.drop (z.length - 32) then (turn a1 1#32 nonce (z.take (z.length - 32)), 0) else ([], 10)
theorem hmacL (k b : List B) : (hmac k b).length = 32 := rfl
theorem sealK_length (a1 a2 nonce side p : List B) : (sealK a1 a2 nonce side p).length = p.length + 32 := by rw [sealK, List.length_append, turn_length, hmacL]
theorem sealK_take (a1 a2 nonce side p : List B) : (sealK a1 a2 nonce side p).take p.length = turn a1 1#32 nonce p := by
  rw [sealK, List.take_append_of_le_length (by rw [turn_length]; exact Nat.le_refl _), List.take_of_length_le (by rw [turn_length]; exact Nat.le_refl _)]
theorem sealK_drop (a1 a2 nonce side p : List B) : (sealK a1 a2 nonce side p).drop p.length = hmac a2 (msg nonce side (turn a1 1#32 nonce p)) := by
  have h := turn_length a1 1#32 nonce p
  rw [sealK, List.drop_append, h, Nat.sub_self, List.drop_zero, List.drop_of_length_le (by omega), List.nil_append]
theorem openK_sealK (a1 a2 nonce side p : List B) : openK a1 a2 nonce side (sealK a1 a2 nonce side p) = (p, 0) := by
  have h1 := sealK_length a1 a2 nonce side p
  have h2 : (sealK a1 a2 nonce side p).length - 32 = p.length := by omega
  rw [openK, if_neg (by omega), h2, sealK_take, sealK_drop, if_pos rfl, turn_twice]
theorem goes_seal : Goes Tryd.prog 20 := ⟨_, Tryd.func20, rfl, by kernel_rfl⟩
theorem goes_open : Goes Tryd.prog 21 := ⟨_, Tryd.func21, rfl, by kernel_rfl⟩

theorem OQ.fst {P : Program} {n : Nat} {E : Env} {C : World → Prop} {dst : Option Tmp} {t ty e : TypeId} {pos : String} {aft : Array Edge} {g : Option (Nat × Bool)} {x y : Operand} {s : Sl8} {m : Nat} (hu : P.underlying t = some (.slice e)) (hz : szT P e = some 1) (hx : ev E x = some s.v) (hh : ev E y = some (N m)) (h : m ≤ s.l.length) (hc : s.l.length ≤ s.cap) :
    OQ P n E C ⟨dst, .slice t x none (some y) none, ty, pos, aft, g⟩ (s.fst m).v :=
  OQ.to (OQ.slS_hi (ad := s.ad) (len := s.l.length) (cap := s.cap) hu hz hx hh (Nat.le_trans h hc)) (Sl8.fst_v s m h)
theorem OQ.snd {P : Program} {n : Nat} {E : Env} {C : World → Prop} {dst : Option Tmp} {t ty e : TypeId} {pos : String} {aft : Array Edge} {g : Option (Nat × Bool)} {x y : Operand} {s : Sl8} {m : Nat} (hu : P.underlying t = some (.slice e)) (hz : szT P e = some 1) (hx : ev E x = some s.v) (hl : ev E y = some (N m)) (h : m ≤ s.l.length) :
    OQ P n E C ⟨dst, .slice t x (some y) none none, ty, pos, aft, g⟩ (s.snd m).v :=
  OQ.to (OQ.slS_lo (ad := s.ad) (len := s.l.length) (cap := s.cap) hu hz hx hl h) (Sl8.snd_v s m)
theorem messageV {nonce : List B} {s c : Sl8} {vc : Value} (hvc : c.v = vc) (hn : nonce.length = 12) {w : World} (hs : s.ok w) (hc : c.ok w) (hsl : s.l.length < 35184372088832) (hcl : c.l.length < 35184372088832) :
    Calls Tryd.prog 24 [.agg (nonce.map U8).toArray, s.v, vc].toArray w fun e w' => ∃ x : Nat × Nat, e = .returned (.slice (some ⟨x.1, 0, none⟩) (msg nonce s.l c.l).length x.2) ∧ Holds w [] [⟨x.1, Own 5 1 (msg nonce s.l c.l).length x.2 ((msg nonce s.l c.l).map U8), true⟩] w' := by
  subst hvc
  exact message_any nonce s c hn w hs hc hsl hcl
theorem tag_ok {w0 w : World} {S : List Nat} {M : List Ent} {a2 m : List B} (ha : a2.length = 32) (hml : m.length < 1000000000) {b10 bL bm cm : Nat} (hw : Holds w0 S M w) (hG : GOk w) (h1 : Has M b10 (Row 23 (a2.map U8)) true) (h2 : Has M bL (Row 33 [.slice (some ⟨bm, 0, none⟩) m.length cm]) true) (h3 : Has M bm (Own 5 1 m.length cm (m.map U8)) true) :
    Calls Tryd.prog 34 [.slice (some ⟨b10, 0, none⟩) 32 32, .slice (some ⟨bL, 0, none⟩) 1 1].toArray w fun e w'' => e = .returned (.agg ((hmac a2 m).map U8).toArray) ∧ Ext w w'' := by
  obtain ⟨o2, ho2, hA2⟩ := hw.get h2
  have := hmac_any ⟨some ⟨b10, 0, none⟩, 32, a2⟩ (some ⟨bL, 0, none⟩) 1 [⟨some ⟨bm, 0, none⟩, cm, m⟩] w hG (row_ok hw h1 rfl (Nat.le_of_eq ha)) (Reads.block ho2 (Row.all _ hA2)) (by simpa using ownb_ok hw h3) (show a2.length < 4611686018427387904 by omega) (by simp) (by simp [total]; omega)
  simpa [Sl8.v, ha] using this
def needP : Nat → List (Nat × Nat)
  | 4 => [(1, 24), (2, 25), (3, 26)]
  | 5 => [(4, 27)]
  | 6 => [(0, 23), (5, 28)]
  | 8 => [(7, 12), (6, 29)]
  | _ => []
def inpP : Nat → List Nat
  | 1 => [12]
  | 4 => [9]
  | 5 => [4]
  | 6 => [5, 10]
  | 8 => [7]
  | _ => []
def eatP : Nat → List Nat
  | 5 => [4]
  | 8 => [7]
  | _ => []
def srcP : Nat → Option Nat
  | 8 => some 7
  | _ => none
def needQ : Nat → List (Nat × Nat)
  | 4 => [(1, 34), (2, 35), (3, 36)]
  | 5 => [(4, 37)]
  | 6 => [(0, 33), (5, 38)]
  | 8 => [(7, 14), (6, 39)]
  | _ => []
def inpQ : Nat → List Nat
  | 1 => [11]
  | 5 => [4]
  | 6 => [5, 9]
  | 8 => [7]
  | _ => []

set_option maxHeartbeats 4000000 in
set_option maxRecDepth 4000 in
theorem seal_any (key nonce : List B) (s p : Sl8) (hk : key.length = 32) (hn : nonce.length = 12) (w : World) (hG : GOk w) (hQ : GQ w) (hs : s.ok w) (hp : p.ok w) (hsl : s.l.length < 100000000) (hpl : p.l.length < 100000000) :
    Calls Tryd.prog 20 [.agg (key.map U8).toArray, .agg (nonce.map U8).toArray, s.v, p.v].toArray w fun e w' => ∃ x : Nat × Nat, e = .returned (.slice (some ⟨x.1, 0, none⟩) (p.l.length + 32) x.2) ∧ Holds w [] [⟨x.1, Own 5 1 (p.l.length + 32) x.2 ((sealK (k1 key) (k2 key) nonce s.l p.l).map U8), true⟩] w' := by
  have hTwo := two_any key hk
  have h1 := k1_length key
  have h2 := k2_length key
  generalize k1 key = a1 at hTwo h1 ⊢
  generalize k2 key = a2 at hTwo h2 ⊢
  have hTl := turn_length a1 1#32 nonce p.l
  have hT0 := fun w' (h : GQ w') (h' : p.ok w') => turnO_any a1 1#32 nonce p rfl h1 hn w' h h' (by omega)
  rw [sealK]
  generalize turn a1 1#32 nonce p.l = T at hTl hT0 ⊢
  have hml := msg_length nonce s.l T
  have hM0 := fun (w' : World) (b c : Nat) (hs' : s.ok w') (h : Sl8.ok w' ⟨some ⟨b, 0, none⟩, c, T⟩) => messageV (c := ⟨some ⟨b, 0, none⟩, c, T⟩) (vc := .slice (some ⟨b, 0, none⟩) p.l.length c) (by simp [Sl8.v, hTl]) hn hs' h (show s.l.length < 35184372088832 by omega) (show T.length < 35184372088832 by omega)
  simp only [] at hM0
  rw [hn, hTl] at hml
  generalize msg nonce s.l T = m at hml hM0 ⊢
  refine enter (n := 40) Tryd.func20 rfl rfl rfl (Holds.start w []) ?_
  repeat (first | refine JL.q (by first | (apply OQ.move; exact rfl) | (apply OQ.assign; exact rfl) | (apply OQ.len; exact rfl; exact rfl) | (apply OQ.addN; exact rfl; exact rfl; exact (by (try simp only []); omega)) | (apply OQ.subN; exact rfl; exact rfl; exact (by (try simp only []); omega); exact (by (try simp only []); omega)) | (apply OQ.lssN; exact rfl; exact rfl)) rfl ?_ | refine JC.seq ?_ | refine JC.region ?_ | refine JC.block ?_ | refine JC.skip ?_ | refine JC.exit ?_ | refine JL.nil ?_ | refine JE.next ?_ | refine JE.blk_normal ?_ | refine JE.then_exit ?_ | refine JE.blk_hit ?_ | refine JE.blk_miss rfl ?_ | refine JE.then_ret ?_ | refine JE.blk_ret ?_ | refine JC.label ?_ | refine JL.gon rfl rfl ?_ | refine JL.gskip rfl rfl rfl rfl ?_)
  refine JL.box (r := key.map U8) rfl rfl rfl fun b4 _ => ?_
  refine JL.box (r := nonce.map U8) rfl rfl rfl fun b5 _ => ?_
  repeat (first | refine JL.q (by first | (apply OQ.load_agg (cs := key.map U8); exact a25; exact s25; exact rfl; exact (.there .here); exact (by simpa using hk); exact Row.all) | (apply OQ.callx; exact goes_two; exact rfl; exact (fun w' hw' => hTwo w' (hG.chg hw'.chg (by simp)))) | (apply OQ.extract; exact rfl; exact rfl) | (apply OQ.move; exact rfl) | (apply OQ.assign; exact rfl) | (apply OQ.len; exact rfl; exact rfl) | (apply OQ.addN; exact rfl; exact rfl; exact (by (try simp only []); omega)) | (apply OQ.subN; exact rfl; exact rfl; exact (by (try simp only []); omega); exact (by (try simp only []); omega)) | (apply OQ.lssN; exact rfl; exact rfl)) rfl ?_ | refine JC.seq ?_ | refine JC.region ?_ | refine JC.block ?_ | refine JC.skip ?_ | refine JC.exit ?_ | refine JL.nil ?_ | refine JE.next ?_ | refine JE.blk_normal ?_ | refine JE.then_exit ?_ | refine JE.blk_hit ?_ | refine JE.blk_miss rfl ?_ | refine JE.then_ret ?_ | refine JE.blk_ret ?_ | refine JC.label ?_ | refine JL.gon rfl rfl ?_ | refine JL.gskip rfl rfl rfl rfl ?_)
  refine JL.alloc zc25 rfl fun b9 _ => ?_
  refine JL.alloc zc25 rfl fun b10 _ => ?_
  repeat (first | refine JL.q (by first | (apply OQ.move; exact rfl) | (apply OQ.assign; exact rfl) | (apply OQ.len; exact rfl; exact rfl) | (apply OQ.addN; exact rfl; exact rfl; exact (by (try simp only []); omega)) | (apply OQ.subN; exact rfl; exact rfl; exact (by (try simp only []); omega); exact (by (try simp only []); omega)) | (apply OQ.lssN; exact rfl; exact rfl)) rfl ?_ | refine JC.seq ?_ | refine JC.region ?_ | refine JC.block ?_ | refine JC.skip ?_ | refine JC.exit ?_ | refine JL.nil ?_ | refine JE.next ?_ | refine JE.blk_normal ?_ | refine JE.then_exit ?_ | refine JE.blk_hit ?_ | refine JE.blk_miss rfl ?_ | refine JE.then_ret ?_ | refine JE.blk_ret ?_ | refine JC.label ?_ | refine JL.gon rfl rfl ?_ | refine JL.gskip rfl rfl rfl rfl ?_)
  refine JL.store_all s25 rfl rfl (by simpa using h1) (all8 _) (.there .here) (by simp) ?_
  refine JL.store_all s25 rfl rfl (by simpa using h2) (all8 _) .here (by simp) ?_
  repeat (first | refine JL.q (by first | (apply OQ.load_agg (cs := a1.map U8); exact a25; exact s25; exact rfl; exact (.there .here); exact (by simpa using h1); exact Row.all) | (apply OQ.load_agg (cs := nonce.map U8); exact noa; exact nos; exact rfl; exact (.there (.there .here)); exact (by simpa using hn); exact Row.all) | (apply OQ.move; exact rfl) | (apply OQ.assign; exact rfl) | (apply OQ.len; exact rfl; exact rfl) | (apply OQ.addN; exact rfl; exact rfl; exact (by (try simp only []); omega)) | (apply OQ.subN; exact rfl; exact rfl; exact (by (try simp only []); omega); exact (by (try simp only []); omega)) | (apply OQ.lssN; exact rfl; exact rfl)) rfl ?_ | refine JC.seq ?_ | refine JC.region ?_ | refine JC.block ?_ | refine JC.skip ?_ | refine JC.exit ?_ | refine JL.nil ?_ | refine JE.next ?_ | refine JE.blk_normal ?_ | refine JE.then_exit ?_ | refine JE.blk_hit ?_ | refine JE.blk_miss rfl ?_ | refine JE.then_ret ?_ | refine JE.blk_ret ?_ | refine JC.label ?_ | refine JL.gon rfl rfl ?_ | refine JL.gskip rfl rfl rfl rfl ?_)
  refine JL.callg (ι := Nat) (fun b => .slice (some ⟨b, 0, none⟩) p.l.length p.l.length) (fun b => [⟨b, Own 5 1 p.l.length p.l.length (T.map U8), true⟩]) goes_turnb rfl rfl (fun i => by simp) (fun w' hw' => hT0 w' (hQ.chg hw'.chg (by simp)) (hp.holds hw' rfl)) fun b11 => ?_
  try dsimp only
  repeat (first | refine JL.q (by first | (apply OQ.move; exact rfl) | (apply OQ.assign; exact rfl) | (apply OQ.len; exact rfl; exact rfl) | (apply OQ.addN; exact rfl; exact rfl; exact (by (try simp only []); omega)) | (apply OQ.subN; exact rfl; exact rfl; exact (by (try simp only []); omega); exact (by (try simp only []); omega)) | (apply OQ.lssN; exact rfl; exact rfl)) rfl ?_ | refine JC.seq ?_ | refine JC.region ?_ | refine JC.block ?_ | refine JC.skip ?_ | refine JC.exit ?_ | refine JL.nil ?_ | refine JE.next ?_ | refine JE.blk_normal ?_ | refine JE.then_exit ?_ | refine JE.blk_hit ?_ | refine JE.blk_miss rfl ?_ | refine JE.then_ret ?_ | refine JE.blk_ret ?_ | refine JC.label ?_ | refine JL.gon rfl rfl ?_ | refine JL.gskip rfl rfl rfl rfl ?_)
  let vs : Nat → X3 → Value := fun j x => match j with
    | 0 => .slice (some ⟨b10, 0, none⟩) 32 32
    | 1 => .agg (nonce.map U8).toArray
    | 2 => s.v
    | 3 => .slice (some ⟨b11, 0, none⟩) p.l.length p.l.length
    | 4 => .slice (some ⟨x.1, 0, none⟩) m.length x.2.1
    | 5 => .slice (some ⟨x.1, 0, none⟩) 1 1
    | 6 => .agg ((hmac a2 m).map U8).toArray
    | _ => Pt x.1 0
  let Ms : Nat → X3 → List Ent := fun j x => match j with
    | 4 => [⟨x.1, Own 5 1 m.length x.2.1 (m.map U8), true⟩]
    | 5 => [⟨x.1, Row 33 [.slice (some ⟨x.2.1, 0, none⟩) m.length x.2.2], true⟩, ⟨x.2.1, Own 5 1 m.length x.2.2 (m.map U8), true⟩]
    | 7 => [⟨x.1, Row 23 ((List.replicate 32 (0 : B)).map U8), true⟩]
    | 8 => [⟨x.1, Row 23 ((hmac a2 m).map U8), true⟩]
    | 9 => [⟨b11, Own 5 1 p.l.length p.l.length (T.map U8), true⟩]
    | 10 => [⟨b10, Row 23 (a2.map U8), true⟩]
    | 11 => [⟨b9, Row 23 (a1.map U8), true⟩]
    | 12 => [⟨b5, Row 26 (nonce.map U8), true⟩]
    | 13 => [⟨b4, Row 23 (key.map U8), true⟩]
    | _ => []
  refine JC.grow (g := ⟨[(2, s.v), (5, Pt b5 0), (10, Pt b10 0), (11, .slice (some ⟨b11, 0, none⟩) p.l.length p.l.length)], 14, vs, Ms, needP, inpP, eatP, srcP⟩) [(7, 12)] [8, 9] mixed (by repeat (first | exact SubE.nil | refine SubE.cons _ _ _ rfl ?_)) (Less.refl _) (by kernel_rfl) (by kernel_rfl) (by kernel_rfl) ?_ ?_
  · refine ⟨?_, ?_, ?_, ?_, ?_, ?_, ?_, ?_, ?_, trivial⟩
    iterate 4 (focus (intro x EF MF Q kk; (try refine JL.gon rfl rfl ?_); exact JL.q (by first | (apply OQ.slA; exact Tryd.underlying23; exact s5; exact rfl) | (apply OQ.load_agg (cs := nonce.map U8); exact noa; exact nos; exact rfl; exact .here; exact (by simpa using hn); exact Row.all) | (apply OQ.move; exact rfl) | (apply OQ.assign; exact rfl) | (apply OQ.len; exact rfl; exact rfl) | (apply OQ.addN; exact rfl; exact rfl; exact (by (try simp only []); omega)) | (apply OQ.subN; exact rfl; exact rfl; exact (by (try simp only []); omega); exact (by (try simp only []); omega)) | (apply OQ.lssN; exact rfl; exact rfl)) rfl (JL.nil (kk default nofun))))
    · intro x EF MF Q kk
      exact JL.callg (ι := Nat × Nat) (fun x => .slice (some ⟨x.1, 0, none⟩) m.length x.2) (fun x => [⟨x.1, Own 5 1 m.length x.2 (m.map U8), true⟩]) goes_message rfl rfl (fun i => by simp) (fun w' hw' => hM0 w' b11 p.l.length (hs.holds hw' rfl) (ownb_ok hw' .here)) fun i => JL.nil (kk (i.1, i.2, 0) nofun)
    · intro x EF MF Q kk
      exact JL.lit1 Tryd.underlying73 e22 rfl rfl rfl rfl fun b _ => JL.nil (kk (b, (x 4).1, (x 4).2.1) nofun)
    · intro x EF MF Q kk
      exact JL.q (OQ.callx (vs := [.slice (some ⟨b10, 0, none⟩) 32 32, .slice (some ⟨(x 5).1, 0, none⟩) 1 1]) goes_hmac rfl fun w' hw' => tag_ok h2 (by omega) hw' (hG.chg hw'.chg (by simp)) (.there (.there .here)) .here (.there .here)) rfl (JL.nil (kk default nofun))
    · intro x EF MF Q kk
      exact JL.alloc zc25 rfl fun b _ => JL.nil (kk (b, 0, 0) nofun)
    · intro x EF MF Q kk
      exact JL.store_all s25 rfl rfl (shal _) (all8 _) .here (by simp) (JL.nil (kk (x 7) (fun k h => by cases h; rfl)))
  · intro x hx
    have h8 := hx 8 7 (by decide) rfl
    show JE _ _ _ _ _ [(12, Pt (x 7).1 0), (2, s.v), (5, Pt b5 0), (10, Pt b10 0), (11, .slice (some ⟨b11, 0, none⟩) p.l.length p.l.length)] [⟨(x 8).1, Row 23 ((hmac a2 m).map U8), true⟩, ⟨b11, Own 5 1 p.l.length p.l.length (T.map U8), true⟩]
    rw [h8]
    generalize (x 7).1 = b12
    clear hx h8 x vs Ms
    repeat (first | refine JL.q (by first | (apply OQ.move; exact rfl) | (apply OQ.assign; exact rfl) | (apply OQ.len; exact rfl; exact rfl) | (apply OQ.addN; exact rfl; exact rfl; exact (by (try simp only []); omega)) | (apply OQ.subN; exact rfl; exact rfl; exact (by (try simp only []); omega); exact (by (try simp only []); omega)) | (apply OQ.lssN; exact rfl; exact rfl)) rfl ?_ | refine JC.seq ?_ | refine JC.region ?_ | refine JC.block ?_ | refine JC.skip ?_ | refine JC.exit ?_ | refine JL.nil ?_ | refine JE.next ?_ | refine JE.blk_normal ?_ | refine JE.then_exit ?_ | refine JE.blk_hit ?_ | refine JE.blk_miss rfl ?_ | refine JE.then_ret ?_ | refine JE.blk_ret ?_ | refine JC.label ?_ | refine JL.gon rfl rfl ?_ | refine JL.gskip rfl rfl rfl rfl ?_)
    refine JL.make0 (c := p.l.length + 32) Tryd.underlying33 e5 rfl rfl (by omega) rfl fun b13 _ => ?_
    repeat (first | refine JL.q (by first | (apply OQ.move; exact rfl) | (apply OQ.assign; exact rfl) | (apply OQ.len; exact rfl; exact rfl) | (apply OQ.addN; exact rfl; exact rfl; exact (by (try simp only []); omega)) | (apply OQ.subN; exact rfl; exact rfl; exact (by (try simp only []); omega); exact (by (try simp only []); omega)) | (apply OQ.lssN; exact rfl; exact rfl)) rfl ?_ | refine JC.seq ?_ | refine JC.region ?_ | refine JC.block ?_ | refine JC.skip ?_ | refine JC.exit ?_ | refine JL.nil ?_ | refine JE.next ?_ | refine JE.blk_normal ?_ | refine JE.then_exit ?_ | refine JE.blk_hit ?_ | refine JE.blk_miss rfl ?_ | refine JE.then_ret ?_ | refine JE.blk_ret ?_ | refine JC.label ?_ | refine JL.gon rfl rfl ?_ | refine JL.gskip rfl rfl rfl rfl ?_)
    refine JL.append (cs := T.map U8) (fun b' cap' => [⟨b', Own 5 1 (0 + p.l.length) cap' ([] ++ T.map U8), true⟩, ⟨b12, Row 23 ((hmac a2 m).map U8), true⟩, ⟨b11, Own 5 1 p.l.length p.l.length (T.map U8), true⟩]) Tryd.underlying33 e5 rfl rfl (by intro _ _; repeat (first | exact Repl.here | apply Repl.there)) (by simpa using hTl) (fun w' hw' => (ownb_ok hw' (.there (.there .here))).reads) (of_u8 _) rfl (by decide) (by omega) (by omega) rfl fun b13 cap13 => ?_
    rw [List.nil_append, Nat.zero_add]
    repeat (first | refine JL.q (by first | (apply OQ.slA; exact Tryd.underlying23; exact s5; exact rfl) | (apply OQ.move; exact rfl) | (apply OQ.assign; exact rfl) | (apply OQ.len; exact rfl; exact rfl) | (apply OQ.addN; exact rfl; exact rfl; exact (by (try simp only []); omega)) | (apply OQ.subN; exact rfl; exact rfl; exact (by (try simp only []); omega); exact (by (try simp only []); omega)) | (apply OQ.lssN; exact rfl; exact rfl)) rfl ?_ | refine JC.seq ?_ | refine JC.region ?_ | refine JC.block ?_ | refine JC.skip ?_ | refine JC.exit ?_ | refine JL.nil ?_ | refine JE.next ?_ | refine JE.blk_normal ?_ | refine JE.then_exit ?_ | refine JE.blk_hit ?_ | refine JE.blk_miss rfl ?_ | refine JE.then_ret ?_ | refine JE.blk_ret ?_ | refine JC.label ?_ | refine JL.gon rfl rfl ?_ | refine JL.gskip rfl rfl rfl rfl ?_)
    refine JL.append (cs := (hmac a2 m).map U8) (fun b' cap' => [⟨b', Own 5 1 (p.l.length + 32) cap' (T.map U8 ++ (hmac a2 m).map U8), true⟩, ⟨b12, Row 23 ((hmac a2 m).map U8), true⟩, ⟨b11, Own 5 1 p.l.length p.l.length (T.map U8), true⟩]) Tryd.underlying33 e5 rfl rfl (by intro _ _; repeat (first | exact Repl.here | apply Repl.there)) (shal _) (fun w' hw' => (row_ok (cap := 32) hw' (.there .here) rfl (Nat.le_of_eq (hmacL _ _))).reads) (of_u8 _) rfl (by decide) (by omega) (by omega) rfl fun b13 cap13 => ?_
    rw [← List.map_append]
    repeat (first | refine JL.q (by first | (apply OQ.move; exact rfl) | (apply OQ.assign; exact rfl) | (apply OQ.len; exact rfl; exact rfl) | (apply OQ.addN; exact rfl; exact rfl; exact (by (try simp only []); omega)) | (apply OQ.subN; exact rfl; exact rfl; exact (by (try simp only []); omega); exact (by (try simp only []); omega)) | (apply OQ.lssN; exact rfl; exact rfl)) rfl ?_ | refine JC.seq ?_ | refine JC.region ?_ | refine JC.block ?_ | refine JC.skip ?_ | refine JC.exit ?_ | refine JL.nil ?_ | refine JE.next ?_ | refine JE.blk_normal ?_ | refine JE.then_exit ?_ | refine JE.blk_hit ?_ | refine JE.blk_miss rfl ?_ | refine JE.then_ret ?_ | refine JE.blk_ret ?_ | refine JC.label ?_ | refine JL.gon rfl rfl ?_ | refine JL.gskip rfl rfl rfl rfl ?_)
    refine JC.ret ?_
    repeat (first | refine JL.q (by first | (apply OQ.move; exact rfl) | (apply OQ.assign; exact rfl) | (apply OQ.len; exact rfl; exact rfl) | (apply OQ.addN; exact rfl; exact rfl; exact (by (try simp only []); omega)) | (apply OQ.subN; exact rfl; exact rfl; exact (by (try simp only []); omega); exact (by (try simp only []); omega)) | (apply OQ.lssN; exact rfl; exact rfl)) rfl ?_ | refine JC.seq ?_ | refine JC.region ?_ | refine JC.block ?_ | refine JC.skip ?_ | refine JC.exit ?_ | refine JL.nil ?_ | refine JE.next ?_ | refine JE.blk_normal ?_ | refine JE.then_exit ?_ | refine JE.blk_hit ?_ | refine JE.blk_miss rfl ?_ | refine JE.then_ret ?_ | refine JE.blk_ret ?_ | refine JC.label ?_ | refine JL.gon rfl rfl ?_ | refine JL.gskip rfl rfl rfl rfl ?_)
    exact JE.ret1 rfl (RV.tmp rfl) fun w' hw => ⟨(b13, cap13), rfl, hw.weak (.keep _ _ _ _ _ _ (fun _ h => h) (Less.nil _))⟩

set_option maxHeartbeats 4000000 in
set_option maxRecDepth 4000 in
theorem open_any (key nonce : List B) (s z : Sl8) (hk : key.length = 32) (hn : nonce.length = 12) (w : World) (hG : GOk w) (hQ : GQ w) (hs : s.ok w) (hz : z.ok w) (hsl : s.l.length < 100000000) (hzl : z.l.length < 100000000) :
    Calls Tryd.prog 21 [.agg (key.map U8).toArray, .agg (nonce.map U8).toArray, s.v, z.v].toArray w fun e w' => ∃ s' : Sl8, e = .returned (.tuple #[s'.v, N (openK (k1 key) (k2 key) nonce s.l z.l).2]) ∧ Gave s' (openK (k1 key) (k2 key) nonce s.l z.l).1 s'.cap ∧ Holds w [] s'.ents w' := by
  have hTwo := two_any key hk
  have h1 := k1_length key
  have h2 := k2_length key
  generalize k1 key = a1 at hTwo h1 ⊢
  generalize k2 key = a2 at hTwo h2 ⊢
  refine enter (n := 48) Tryd.func21 rfl rfl rfl (Holds.start w []) ?_
  repeat (first | refine JL.q (by first | (apply OQ.move; exact rfl) | (apply OQ.assign; exact rfl) | (apply OQ.len; exact rfl; exact rfl) | (apply OQ.addN; exact rfl; exact rfl; exact (by (try simp only []); omega)) | (apply OQ.subN; exact rfl; exact rfl; exact (by (try simp only []); omega); exact (by (try simp only []); omega)) | (apply OQ.lssN; exact rfl; exact rfl)) rfl ?_ | refine JC.seq ?_ | refine JC.region ?_ | refine JC.block ?_ | refine JC.skip ?_ | refine JC.exit ?_ | refine JL.nil ?_ | refine JE.next ?_ | refine JE.blk_normal ?_ | refine JE.then_exit ?_ | refine JE.blk_hit ?_ | refine JE.blk_miss rfl ?_ | refine JE.then_ret ?_ | refine JE.blk_ret ?_ | refine JC.label ?_ | refine JL.gon rfl rfl ?_ | refine JL.gskip rfl rfl rfl rfl ?_)
  refine JL.box (r := key.map U8) rfl rfl rfl fun b4 _ => ?_
  refine JL.box (r := nonce.map U8) rfl rfl rfl fun b5 _ => ?_
  by_cases hlt : z.l.length < 32
  · rw [openK, if_pos hlt]
    repeat (first | refine JL.q (by first | (apply OQ.lssN_t; exact rfl; exact rfl; exact hlt) | (apply OQ.move; exact rfl) | (apply OQ.assign; exact rfl) | (apply OQ.len; exact rfl; exact rfl) | (apply OQ.addN; exact rfl; exact rfl; exact (by (try simp only []); omega)) | (apply OQ.subN; exact rfl; exact rfl; exact (by (try simp only []); omega); exact (by (try simp only []); omega)) | (apply OQ.lssN; exact rfl; exact rfl)) rfl ?_ | refine JC.seq ?_ | refine JC.region ?_ | refine JC.block ?_ | refine JC.skip ?_ | refine JC.exit ?_ | refine JL.nil ?_ | refine JE.next ?_ | refine JE.blk_normal ?_ | refine JE.then_exit ?_ | refine JE.blk_hit ?_ | refine JE.blk_miss rfl ?_ | refine JE.then_ret ?_ | refine JE.blk_ret ?_ | refine JC.label ?_ | refine JL.gon rfl rfl ?_ | refine JL.gskip rfl rfl rfl rfl ?_)
    refine JC.cond_true rfl rfl ?_
    repeat (first | refine JL.q (by first | (apply OQ.move; exact rfl) | (apply OQ.assign; exact rfl) | (apply OQ.len; exact rfl; exact rfl) | (apply OQ.addN; exact rfl; exact rfl; exact (by (try simp only []); omega)) | (apply OQ.subN; exact rfl; exact rfl; exact (by (try simp only []); omega); exact (by (try simp only []); omega)) | (apply OQ.lssN; exact rfl; exact rfl)) rfl ?_ | refine JC.seq ?_ | refine JC.region ?_ | refine JC.block ?_ | refine JC.skip ?_ | refine JC.exit ?_ | refine JL.nil ?_ | refine JE.next ?_ | refine JE.blk_normal ?_ | refine JE.then_exit ?_ | refine JE.blk_hit ?_ | refine JE.blk_miss rfl ?_ | refine JE.then_ret ?_ | refine JE.blk_ret ?_ | refine JC.label ?_ | refine JL.gon rfl rfl ?_ | refine JL.gskip rfl rfl rfl rfl ?_)
    refine JC.ret ?_
    repeat (first | refine JL.q (by first | (apply OQ.move; exact rfl) | (apply OQ.assign; exact rfl) | (apply OQ.len; exact rfl; exact rfl) | (apply OQ.addN; exact rfl; exact rfl; exact (by (try simp only []); omega)) | (apply OQ.subN; exact rfl; exact rfl; exact (by (try simp only []); omega); exact (by (try simp only []); omega)) | (apply OQ.lssN; exact rfl; exact rfl)) rfl ?_ | refine JC.seq ?_ | refine JC.region ?_ | refine JC.block ?_ | refine JC.skip ?_ | refine JC.exit ?_ | refine JL.nil ?_ | refine JE.next ?_ | refine JE.blk_normal ?_ | refine JE.then_exit ?_ | refine JE.blk_hit ?_ | refine JE.blk_miss rfl ?_ | refine JE.then_ret ?_ | refine JE.blk_ret ?_ | refine JC.label ?_ | refine JL.gon rfl rfl ?_ | refine JL.gskip rfl rfl rfl rfl ?_)
    exact JE.ret2 rfl (RV.tmp rfl) (RV.tmp rfl) fun w' hw => ⟨nilS, rfl, ⟨rfl, rfl, fun _ => rfl⟩, hw.weak (Less.nil _)⟩
  repeat (first | refine JL.q (by first | (apply OQ.lssN_f; exact rfl; exact rfl; exact hlt) | (apply OQ.move; exact rfl) | (apply OQ.assign; exact rfl) | (apply OQ.len; exact rfl; exact rfl) | (apply OQ.addN; exact rfl; exact rfl; exact (by (try simp only []); omega)) | (apply OQ.subN; exact rfl; exact rfl; exact (by (try simp only []); omega); exact (by (try simp only []); omega)) | (apply OQ.lssN; exact rfl; exact rfl)) rfl ?_ | refine JC.seq ?_ | refine JC.region ?_ | refine JC.block ?_ | refine JC.skip ?_ | refine JC.exit ?_ | refine JL.nil ?_ | refine JE.next ?_ | refine JE.blk_normal ?_ | refine JE.then_exit ?_ | refine JE.blk_hit ?_ | refine JE.blk_miss rfl ?_ | refine JE.then_ret ?_ | refine JE.blk_ret ?_ | refine JC.label ?_ | refine JL.gon rfl rfl ?_ | refine JL.gskip rfl rfl rfl rfl ?_)
  refine JC.cond_false rfl rfl ?_
  rw [openK, if_neg hlt]
  have hle : z.l.length - 32 ≤ z.l.length := Nat.sub_le _ _
  have hT0 := fun w' (h : GQ w') (h' : (z.fst (z.l.length - 32)).ok w') => turnO_any a1 1#32 nonce (z.fst (z.l.length - 32)) rfl h1 hn w' h h' (show (z.l.take (z.l.length - 32)).length < 140737488355328 by rw [List.length_take]; omega)
  have hM0 := fun (w' : World) (hs' : s.ok w') (h : (z.fst (z.l.length - 32)).ok w') => message_any nonce s (z.fst (z.l.length - 32)) hn w' hs' h (show s.l.length < 35184372088832 by omega) (show (z.l.take (z.l.length - 32)).length < 35184372088832 by rw [List.length_take]; omega)
  rw [show (z.fst (z.l.length - 32)).l = z.l.take (z.l.length - 32) from rfl] at hT0
  simp only [show (z.fst (z.l.length - 32)).l = z.l.take (z.l.length - 32) from rfl] at hM0
  have hml := msg_length nonce s.l (z.l.take (z.l.length - 32))
  rw [hn, List.length_take] at hml
  generalize msg nonce s.l (z.l.take (z.l.length - 32)) = m at hml hM0 ⊢
  have hTl := turn_length a1 1#32 nonce (z.l.take (z.l.length - 32))
  generalize turn a1 1#32 nonce (z.l.take (z.l.length - 32)) = T at hTl hT0 ⊢
  repeat (first | refine JL.q (by first | (apply OQ.load_agg (cs := key.map U8); exact a25; exact s25; exact rfl; exact (.there .here); exact (by simpa using hk); exact Row.all) | (apply OQ.callx; exact goes_two; exact rfl; exact (fun w' hw' => hTwo w' (hG.chg hw'.chg (by simp)))) | (apply OQ.extract; exact rfl; exact rfl) | (apply OQ.move; exact rfl) | (apply OQ.assign; exact rfl) | (apply OQ.len; exact rfl; exact rfl) | (apply OQ.addN; exact rfl; exact rfl; exact (by (try simp only []); omega)) | (apply OQ.subN; exact rfl; exact rfl; exact (by (try simp only []); omega); exact (by (try simp only []); omega)) | (apply OQ.lssN; exact rfl; exact rfl)) rfl ?_ | refine JC.seq ?_ | refine JC.region ?_ | refine JC.block ?_ | refine JC.skip ?_ | refine JC.exit ?_ | refine JL.nil ?_ | refine JE.next ?_ | refine JE.blk_normal ?_ | refine JE.then_exit ?_ | refine JE.blk_hit ?_ | refine JE.blk_miss rfl ?_ | refine JE.then_ret ?_ | refine JE.blk_ret ?_ | refine JC.label ?_ | refine JL.gon rfl rfl ?_ | refine JL.gskip rfl rfl rfl rfl ?_)
  refine JL.alloc zc25 rfl fun b10 _ => ?_
  refine JL.alloc zc25 rfl fun b11 _ => ?_
  repeat (first | refine JL.q (by first | (apply OQ.move; exact rfl) | (apply OQ.assign; exact rfl) | (apply OQ.len; exact rfl; exact rfl) | (apply OQ.addN; exact rfl; exact rfl; exact (by (try simp only []); omega)) | (apply OQ.subN; exact rfl; exact rfl; exact (by (try simp only []); omega); exact (by (try simp only []); omega)) | (apply OQ.lssN; exact rfl; exact rfl)) rfl ?_ | refine JC.seq ?_ | refine JC.region ?_ | refine JC.block ?_ | refine JC.skip ?_ | refine JC.exit ?_ | refine JL.nil ?_ | refine JE.next ?_ | refine JE.blk_normal ?_ | refine JE.then_exit ?_ | refine JE.blk_hit ?_ | refine JE.blk_miss rfl ?_ | refine JE.then_ret ?_ | refine JE.blk_ret ?_ | refine JC.label ?_ | refine JL.gon rfl rfl ?_ | refine JL.gskip rfl rfl rfl rfl ?_)
  refine JL.store_all s25 rfl rfl (by simpa using h1) (all8 _) (.there .here) (by simp) ?_
  refine JL.store_all s25 rfl rfl (by simpa using h2) (all8 _) .here (by simp) ?_
  repeat (first | refine JL.q (by first | (apply OQ.move; exact rfl) | (apply OQ.assign; exact rfl) | (apply OQ.len; exact rfl; exact rfl) | (apply OQ.addN; exact rfl; exact rfl; exact (by (try simp only []); omega)) | (apply OQ.subN; exact rfl; exact rfl; exact (by (try simp only []); omega); exact (by (try simp only []); omega)) | (apply OQ.lssN; exact rfl; exact rfl)) rfl ?_ | refine JC.seq ?_ | refine JC.region ?_ | refine JC.block ?_ | refine JC.skip ?_ | refine JC.exit ?_ | refine JL.nil ?_ | refine JE.next ?_ | refine JE.blk_normal ?_ | refine JE.then_exit ?_ | refine JE.blk_hit ?_ | refine JE.blk_miss rfl ?_ | refine JE.then_ret ?_ | refine JE.blk_ret ?_ | refine JC.label ?_ | refine JL.gon rfl rfl ?_ | refine JL.gskip rfl rfl rfl rfl ?_)
  refine JC.quiet mixed (by kernel_rfl) ?_
  repeat (first | refine JL.q (by first | (apply OQ.fst (s := z); exact Tryd.underlying33; exact s5; exact rfl; exact rfl; exact hle; exact hz.len) | (apply OQ.snd (s := z); exact Tryd.underlying33; exact s5; exact rfl; exact rfl; exact hle) | (apply OQ.move; exact rfl) | (apply OQ.assign; exact rfl) | (apply OQ.len; exact rfl; exact rfl) | (apply OQ.addN; exact rfl; exact rfl; exact (by (try simp only []); omega)) | (apply OQ.subN; exact rfl; exact rfl; exact (by (try simp only []); omega); exact (by (try simp only []); omega)) | (apply OQ.lssN; exact rfl; exact rfl)) rfl ?_ | refine JQ.q (by first | (apply OQ.fst (s := z); exact Tryd.underlying33; exact s5; exact rfl; exact rfl; exact hle; exact hz.len) | (apply OQ.snd (s := z); exact Tryd.underlying33; exact s5; exact rfl; exact rfl; exact hle) | (apply OQ.move; exact rfl) | (apply OQ.assign; exact rfl) | (apply OQ.len; exact rfl; exact rfl) | (apply OQ.addN; exact rfl; exact rfl; exact (by (try simp only []); omega)) | (apply OQ.subN; exact rfl; exact rfl; exact (by (try simp only []); omega); exact (by (try simp only []); omega)) | (apply OQ.lssN; exact rfl; exact rfl)) rfl ?_ | refine JC.seq ?_ | refine JC.region ?_ | refine JC.block ?_ | refine JC.skip ?_ | refine JC.exit ?_ | refine JL.nil ?_ | refine JQ.nil ?_ | refine JQ.nil_tail ?_ | refine JE.next ?_ | refine JE.blk_normal ?_ | refine JE.then_exit ?_ | refine JE.blk_hit ?_ | refine JE.blk_miss rfl ?_ | refine JE.then_ret ?_ | refine JE.blk_ret ?_ | refine JC.label ?_ | refine JL.gon rfl rfl ?_ | refine JQ.gon rfl rfl ?_ | refine JL.gskip rfl rfl rfl rfl ?_ | refine JQ.gskip rfl rfl rfl rfl ?_)
  let vs : Nat → X3 → Value := fun j x => match j with
    | 0 => .slice (some ⟨b11, 0, none⟩) 32 32
    | 1 => .agg (nonce.map U8).toArray
    | 2 => s.v
    | 3 => (z.fst (z.l.length - 32)).v
    | 4 => .slice (some ⟨x.1, 0, none⟩) m.length x.2.1
    | 5 => .slice (some ⟨x.1, 0, none⟩) 1 1
    | 6 => .agg ((hmac a2 m).map U8).toArray
    | _ => Pt x.1 0
  let Ms : Nat → X3 → List Ent := fun j x => match j with
    | 4 => [⟨x.1, Own 5 1 m.length x.2.1 (m.map U8), true⟩]
    | 5 => [⟨x.1, Row 33 [.slice (some ⟨x.2.1, 0, none⟩) m.length x.2.2], true⟩, ⟨x.2.1, Own 5 1 m.length x.2.2 (m.map U8), true⟩]
    | 7 => [⟨x.1, Row 23 ((List.replicate 32 (0 : B)).map U8), true⟩]
    | 8 => [⟨x.1, Row 23 ((hmac a2 m).map U8), true⟩]
    | 9 => [⟨b11, Row 23 (a2.map U8), true⟩]
    | 10 => [⟨b10, Row 23 (a1.map U8), true⟩]
    | 11 => [⟨b5, Row 26 (nonce.map U8), true⟩]
    | 12 => [⟨b4, Row 23 (key.map U8), true⟩]
    | _ => []
  refine JC.grow (g := ⟨[(2, s.v), (5, Pt b5 0), (10, Pt b10 0), (11, Pt b11 0), (12, (z.fst (z.l.length - 32)).v), (13, (z.snd (z.l.length - 32)).v)], 13, vs, Ms, needQ, inpQ, eatP, srcP⟩) [(7, 14)] [8, 10, 11] mixed (by repeat (first | exact SubE.nil | refine SubE.cons _ _ _ rfl ?_)) (Less.refl _) (by kernel_rfl) (by kernel_rfl) (by kernel_rfl) ?_ ?_
  · refine ⟨?_, ?_, ?_, ?_, ?_, ?_, ?_, ?_, ?_, trivial⟩
    iterate 4 (focus (intro x EF MF Q kk; (try refine JL.gon rfl rfl ?_); exact JL.q (by first | (apply OQ.slA; exact Tryd.underlying23; exact s5; exact rfl) | (apply OQ.load_agg (cs := nonce.map U8); exact noa; exact nos; exact rfl; exact .here; exact (by simpa using hn); exact Row.all) | (apply OQ.move; exact rfl) | (apply OQ.assign; exact rfl) | (apply OQ.len; exact rfl; exact rfl) | (apply OQ.addN; exact rfl; exact rfl; exact (by (try simp only []); omega)) | (apply OQ.subN; exact rfl; exact rfl; exact (by (try simp only []); omega); exact (by (try simp only []); omega)) | (apply OQ.lssN; exact rfl; exact rfl)) rfl (JL.nil (kk default nofun))))
    · intro x EF MF Q kk
      exact JL.callg (ι := Nat × Nat) (fun x => .slice (some ⟨x.1, 0, none⟩) m.length x.2) (fun x => [⟨x.1, Own 5 1 m.length x.2 (m.map U8), true⟩]) goes_message rfl rfl (fun i => by simp) (fun w' hw' => hM0 w' (hs.holds hw' rfl) ((hz.holds hw' rfl).fst _)) fun i => JL.nil (kk (i.1, i.2, 0) nofun)
    · intro x EF MF Q kk
      exact JL.lit1 Tryd.underlying73 e22 rfl rfl rfl rfl fun b _ => JL.nil (kk (b, (x 4).1, (x 4).2.1) nofun)
    · intro x EF MF Q kk
      exact JL.q (OQ.callx (vs := [.slice (some ⟨b11, 0, none⟩) 32 32, .slice (some ⟨(x 5).1, 0, none⟩) 1 1]) goes_hmac rfl fun w' hw' => tag_ok h2 (by omega) hw' (hG.chg hw'.chg (by simp)) (.there (.there .here)) .here (.there .here)) rfl (JL.nil (kk default nofun))
    · intro x EF MF Q kk
      exact JL.alloc zc25 rfl fun b _ => JL.nil (kk (b, 0, 0) nofun)
    · intro x EF MF Q kk
      exact JL.store_all s25 rfl rfl (shal _) (all8 _) .here (by simp) (JL.nil (kk (x 7) (fun k h => by cases h; rfl)))
  · intro x hx
    have h8 := hx 8 7 (by decide) rfl
    show JE _ _ _ _ _ [(14, Pt (x 7).1 0), (2, s.v), (5, Pt b5 0), (10, Pt b10 0), (11, Pt b11 0), (12, (z.fst (z.l.length - 32)).v), (13, (z.snd (z.l.length - 32)).v)] [⟨(x 8).1, Row 23 ((hmac a2 m).map U8), true⟩, ⟨b10, Row 23 (a1.map U8), true⟩, ⟨b5, Row 26 (nonce.map U8), true⟩]
    rw [h8]
    generalize (x 7).1 = b14
    clear hx h8 x vs Ms
    have hgl := hmacL a2 m
    generalize hmac a2 m = g at hgl ⊢
    by_cases hg : g = z.l.drop (z.l.length - 32)
    · rw [if_pos hg]
      repeat (first | refine JL.q (by first | (apply OQ.slA; exact Tryd.underlying23; exact s5; exact rfl) | (apply OQ.callx; exact goes_ssame; exact rfl; exact (fun w' hw' => ssame_b (a := ⟨some ⟨b14, 0, none⟩, 32, g⟩) (b := z.snd (z.l.length - 32)) (c := true) (by simp [Sl8.v, hgl]) rfl (row_ok hw' .here rfl (Nat.le_of_eq hgl)) ((hz.holds hw' rfl).snd _ hle) (show g.length < 4611686018427387904 by omega) (decide_eq_true hg))) | (apply OQ.not; exact rfl) | (apply OQ.move; exact rfl) | (apply OQ.assign; exact rfl) | (apply OQ.len; exact rfl; exact rfl) | (apply OQ.addN; exact rfl; exact rfl; exact (by (try simp only []); omega)) | (apply OQ.subN; exact rfl; exact rfl; exact (by (try simp only []); omega); exact (by (try simp only []); omega)) | (apply OQ.lssN; exact rfl; exact rfl)) rfl ?_ | refine JQ.q (by first | (apply OQ.slA; exact Tryd.underlying23; exact s5; exact rfl) | (apply OQ.callx; exact goes_ssame; exact rfl; exact (fun w' hw' => ssame_b (a := ⟨some ⟨b14, 0, none⟩, 32, g⟩) (b := z.snd (z.l.length - 32)) (c := true) (by simp [Sl8.v, hgl]) rfl (row_ok hw' .here rfl (Nat.le_of_eq hgl)) ((hz.holds hw' rfl).snd _ hle) (show g.length < 4611686018427387904 by omega) (decide_eq_true hg))) | (apply OQ.not; exact rfl) | (apply OQ.move; exact rfl) | (apply OQ.assign; exact rfl) | (apply OQ.len; exact rfl; exact rfl) | (apply OQ.addN; exact rfl; exact rfl; exact (by (try simp only []); omega)) | (apply OQ.subN; exact rfl; exact rfl; exact (by (try simp only []); omega); exact (by (try simp only []); omega)) | (apply OQ.lssN; exact rfl; exact rfl)) rfl ?_ | refine JC.seq ?_ | refine JC.region ?_ | refine JC.block ?_ | refine JC.skip ?_ | refine JC.exit ?_ | refine JL.nil ?_ | refine JQ.nil ?_ | refine JQ.nil_tail ?_ | refine JE.next ?_ | refine JE.blk_normal ?_ | refine JE.then_exit ?_ | refine JE.blk_hit ?_ | refine JE.blk_miss rfl ?_ | refine JE.then_ret ?_ | refine JE.blk_ret ?_ | refine JC.label ?_ | refine JL.gon rfl rfl ?_ | refine JQ.gon rfl rfl ?_ | refine JL.gskip rfl rfl rfl rfl ?_ | refine JQ.gskip rfl rfl rfl rfl ?_)
      refine JC.cond_false rfl rfl ?_
      repeat (first | refine JL.q (by first | (apply OQ.load_agg (cs := a1.map U8); exact a25; exact s25; exact rfl; exact (.there .here); exact (by simpa using h1); exact Row.all) | (apply OQ.load_agg (cs := nonce.map U8); exact noa; exact nos; exact rfl; exact (.there (.there .here)); exact (by simpa using hn); exact Row.all) | (apply OQ.move; exact rfl) | (apply OQ.assign; exact rfl) | (apply OQ.len; exact rfl; exact rfl) | (apply OQ.addN; exact rfl; exact rfl; exact (by (try simp only []); omega)) | (apply OQ.subN; exact rfl; exact rfl; exact (by (try simp only []); omega); exact (by (try simp only []); omega)) | (apply OQ.lssN; exact rfl; exact rfl)) rfl ?_ | refine JQ.q (by first | (apply OQ.load_agg (cs := a1.map U8); exact a25; exact s25; exact rfl; exact (.there .here); exact (by simpa using h1); exact Row.all) | (apply OQ.load_agg (cs := nonce.map U8); exact noa; exact nos; exact rfl; exact (.there (.there .here)); exact (by simpa using hn); exact Row.all) | (apply OQ.move; exact rfl) | (apply OQ.assign; exact rfl) | (apply OQ.len; exact rfl; exact rfl) | (apply OQ.addN; exact rfl; exact rfl; exact (by (try simp only []); omega)) | (apply OQ.subN; exact rfl; exact rfl; exact (by (try simp only []); omega); exact (by (try simp only []); omega)) | (apply OQ.lssN; exact rfl; exact rfl)) rfl ?_ | refine JC.seq ?_ | refine JC.region ?_ | refine JC.block ?_ | refine JC.skip ?_ | refine JC.exit ?_ | refine JL.nil ?_ | refine JQ.nil ?_ | refine JQ.nil_tail ?_ | refine JE.next ?_ | refine JE.blk_normal ?_ | refine JE.then_exit ?_ | refine JE.blk_hit ?_ | refine JE.blk_miss rfl ?_ | refine JE.then_ret ?_ | refine JE.blk_ret ?_ | refine JC.label ?_ | refine JL.gon rfl rfl ?_ | refine JQ.gon rfl rfl ?_ | refine JL.gskip rfl rfl rfl rfl ?_ | refine JQ.gskip rfl rfl rfl rfl ?_)
      refine JL.callg (ι := Nat) (fun b => .slice (some ⟨b, 0, none⟩) (z.l.take (z.l.length - 32)).length (z.l.take (z.l.length - 32)).length) (fun b => [⟨b, Own 5 1 (z.l.take (z.l.length - 32)).length (z.l.take (z.l.length - 32)).length (T.map U8), true⟩]) goes_turnb rfl rfl (fun i => by simp) (fun w' hw' => hT0 w' (hQ.chg hw'.chg (by simp)) ((hz.holds hw' rfl).fst _)) fun b47 => ?_
      try dsimp only
      repeat (first | refine JL.q (by first | (apply OQ.move; exact rfl) | (apply OQ.assign; exact rfl) | (apply OQ.len; exact rfl; exact rfl) | (apply OQ.addN; exact rfl; exact rfl; exact (by (try simp only []); omega)) | (apply OQ.subN; exact rfl; exact rfl; exact (by (try simp only []); omega); exact (by (try simp only []); omega)) | (apply OQ.lssN; exact rfl; exact rfl)) rfl ?_ | refine JQ.q (by first | (apply OQ.move; exact rfl) | (apply OQ.assign; exact rfl) | (apply OQ.len; exact rfl; exact rfl) | (apply OQ.addN; exact rfl; exact rfl; exact (by (try simp only []); omega)) | (apply OQ.subN; exact rfl; exact rfl; exact (by (try simp only []); omega); exact (by (try simp only []); omega)) | (apply OQ.lssN; exact rfl; exact rfl)) rfl ?_ | refine JC.seq ?_ | refine JC.region ?_ | refine JC.block ?_ | refine JC.skip ?_ | refine JC.exit ?_ | refine JL.nil ?_ | refine JQ.nil ?_ | refine JQ.nil_tail ?_ | refine JE.next ?_ | refine JE.blk_normal ?_ | refine JE.then_exit ?_ | refine JE.blk_hit ?_ | refine JE.blk_miss rfl ?_ | refine JE.then_ret ?_ | refine JE.blk_ret ?_ | refine JC.label ?_ | refine JL.gon rfl rfl ?_ | refine JQ.gon rfl rfl ?_ | refine JL.gskip rfl rfl rfl rfl ?_ | refine JQ.gskip rfl rfl rfl rfl ?_)
      refine JC.ret ?_
      repeat (first | refine JL.q (by first | (apply OQ.move; exact rfl) | (apply OQ.assign; exact rfl) | (apply OQ.len; exact rfl; exact rfl) | (apply OQ.addN; exact rfl; exact rfl; exact (by (try simp only []); omega)) | (apply OQ.subN; exact rfl; exact rfl; exact (by (try simp only []); omega); exact (by (try simp only []); omega)) | (apply OQ.lssN; exact rfl; exact rfl)) rfl ?_ | refine JQ.q (by first | (apply OQ.move; exact rfl) | (apply OQ.assign; exact rfl) | (apply OQ.len; exact rfl; exact rfl) | (apply OQ.addN; exact rfl; exact rfl; exact (by (try simp only []); omega)) | (apply OQ.subN; exact rfl; exact rfl; exact (by (try simp only []); omega); exact (by (try simp only []); omega)) | (apply OQ.lssN; exact rfl; exact rfl)) rfl ?_ | refine JC.seq ?_ | refine JC.region ?_ | refine JC.block ?_ | refine JC.skip ?_ | refine JC.exit ?_ | refine JL.nil ?_ | refine JQ.nil ?_ | refine JQ.nil_tail ?_ | refine JE.next ?_ | refine JE.blk_normal ?_ | refine JE.then_exit ?_ | refine JE.blk_hit ?_ | refine JE.blk_miss rfl ?_ | refine JE.then_ret ?_ | refine JE.blk_ret ?_ | refine JC.label ?_ | refine JL.gon rfl rfl ?_ | refine JQ.gon rfl rfl ?_ | refine JL.gskip rfl rfl rfl rfl ?_ | refine JQ.gskip rfl rfl rfl rfl ?_)
      refine JE.ret2 rfl (RV.tmp rfl) (RV.tmp rfl) fun w' hw => ⟨⟨some ⟨b47, 0, none⟩, (z.l.take (z.l.length - 32)).length, T⟩, by simp only [Sl8.v, hTl]; rfl, ⟨rfl, rfl, fun h => by cases h⟩, hw.weak (.keep _ _ _ _ _ _ (fun o ho => ?_) (Less.nil _))⟩
      exact ⟨Own.cells _ ho, Nat.le_of_eq hTl, rfl⟩
    · rw [if_neg hg]
      repeat (first | refine JL.q (by first | (apply OQ.slA; exact Tryd.underlying23; exact s5; exact rfl) | (apply OQ.callx; exact goes_ssame; exact rfl; exact (fun w' hw' => ssame_b (a := ⟨some ⟨b14, 0, none⟩, 32, g⟩) (b := z.snd (z.l.length - 32)) (c := false) (by simp [Sl8.v, hgl]) rfl (row_ok hw' .here rfl (Nat.le_of_eq hgl)) ((hz.holds hw' rfl).snd _ hle) (show g.length < 4611686018427387904 by omega) (decide_eq_false hg))) | (apply OQ.not; exact rfl) | (apply OQ.move; exact rfl) | (apply OQ.assign; exact rfl) | (apply OQ.len; exact rfl; exact rfl) | (apply OQ.addN; exact rfl; exact rfl; exact (by (try simp only []); omega)) | (apply OQ.subN; exact rfl; exact rfl; exact (by (try simp only []); omega); exact (by (try simp only []); omega)) | (apply OQ.lssN; exact rfl; exact rfl)) rfl ?_ | refine JQ.q (by first | (apply OQ.slA; exact Tryd.underlying23; exact s5; exact rfl) | (apply OQ.callx; exact goes_ssame; exact rfl; exact (fun w' hw' => ssame_b (a := ⟨some ⟨b14, 0, none⟩, 32, g⟩) (b := z.snd (z.l.length - 32)) (c := false) (by simp [Sl8.v, hgl]) rfl (row_ok hw' .here rfl (Nat.le_of_eq hgl)) ((hz.holds hw' rfl).snd _ hle) (show g.length < 4611686018427387904 by omega) (decide_eq_false hg))) | (apply OQ.not; exact rfl) | (apply OQ.move; exact rfl) | (apply OQ.assign; exact rfl) | (apply OQ.len; exact rfl; exact rfl) | (apply OQ.addN; exact rfl; exact rfl; exact (by (try simp only []); omega)) | (apply OQ.subN; exact rfl; exact rfl; exact (by (try simp only []); omega); exact (by (try simp only []); omega)) | (apply OQ.lssN; exact rfl; exact rfl)) rfl ?_ | refine JC.seq ?_ | refine JC.region ?_ | refine JC.block ?_ | refine JC.skip ?_ | refine JC.exit ?_ | refine JL.nil ?_ | refine JQ.nil ?_ | refine JQ.nil_tail ?_ | refine JE.next ?_ | refine JE.blk_normal ?_ | refine JE.then_exit ?_ | refine JE.blk_hit ?_ | refine JE.blk_miss rfl ?_ | refine JE.then_ret ?_ | refine JE.blk_ret ?_ | refine JC.label ?_ | refine JL.gon rfl rfl ?_ | refine JQ.gon rfl rfl ?_ | refine JL.gskip rfl rfl rfl rfl ?_ | refine JQ.gskip rfl rfl rfl rfl ?_)
      refine JC.cond_true rfl rfl ?_
      repeat (first | refine JL.q (by first | (apply OQ.move; exact rfl) | (apply OQ.assign; exact rfl) | (apply OQ.len; exact rfl; exact rfl) | (apply OQ.addN; exact rfl; exact rfl; exact (by (try simp only []); omega)) | (apply OQ.subN; exact rfl; exact rfl; exact (by (try simp only []); omega); exact (by (try simp only []); omega)) | (apply OQ.lssN; exact rfl; exact rfl)) rfl ?_ | refine JQ.q (by first | (apply OQ.move; exact rfl) | (apply OQ.assign; exact rfl) | (apply OQ.len; exact rfl; exact rfl) | (apply OQ.addN; exact rfl; exact rfl; exact (by (try simp only []); omega)) | (apply OQ.subN; exact rfl; exact rfl; exact (by (try simp only []); omega); exact (by (try simp only []); omega)) | (apply OQ.lssN; exact rfl; exact rfl)) rfl ?_ | refine JC.seq ?_ | refine JC.region ?_ | refine JC.block ?_ | refine JC.skip ?_ | refine JC.exit ?_ | refine JL.nil ?_ | refine JQ.nil ?_ | refine JQ.nil_tail ?_ | refine JE.next ?_ | refine JE.blk_normal ?_ | refine JE.then_exit ?_ | refine JE.blk_hit ?_ | refine JE.blk_miss rfl ?_ | refine JE.then_ret ?_ | refine JE.blk_ret ?_ | refine JC.label ?_ | refine JL.gon rfl rfl ?_ | refine JQ.gon rfl rfl ?_ | refine JL.gskip rfl rfl rfl rfl ?_ | refine JQ.gskip rfl rfl rfl rfl ?_)
      refine JC.ret ?_
      repeat (first | refine JL.q (by first | (apply OQ.move; exact rfl) | (apply OQ.assign; exact rfl) | (apply OQ.len; exact rfl; exact rfl) | (apply OQ.addN; exact rfl; exact rfl; exact (by (try simp only []); omega)) | (apply OQ.subN; exact rfl; exact rfl; exact (by (try simp only []); omega); exact (by (try simp only []); omega)) | (apply OQ.lssN; exact rfl; exact rfl)) rfl ?_ | refine JQ.q (by first | (apply OQ.move; exact rfl) | (apply OQ.assign; exact rfl) | (apply OQ.len; exact rfl; exact rfl) | (apply OQ.addN; exact rfl; exact rfl; exact (by (try simp only []); omega)) | (apply OQ.subN; exact rfl; exact rfl; exact (by (try simp only []); omega); exact (by (try simp only []); omega)) | (apply OQ.lssN; exact rfl; exact rfl)) rfl ?_ | refine JC.seq ?_ | refine JC.region ?_ | refine JC.block ?_ | refine JC.skip ?_ | refine JC.exit ?_ | refine JL.nil ?_ | refine JQ.nil ?_ | refine JQ.nil_tail ?_ | refine JE.next ?_ | refine JE.blk_normal ?_ | refine JE.then_exit ?_ | refine JE.blk_hit ?_ | refine JE.blk_miss rfl ?_ | refine JE.then_ret ?_ | refine JE.blk_ret ?_ | refine JC.label ?_ | refine JL.gon rfl rfl ?_ | refine JQ.gon rfl rfl ?_ | refine JL.gskip rfl rfl rfl rfl ?_ | refine JQ.gskip rfl rfl rfl rfl ?_)
      exact JE.ret2 rfl (RV.tmp rfl) (RV.tmp rfl) fun w' hw => ⟨nilS, rfl, ⟨rfl, rfl, fun _ => rfl⟩, hw.weak (Less.nil _)⟩
end Go.Proofs.YtheemnpfnefbmaaDoor
