/-
  Of no statement by itself: what the reference's Seal and Open give.
  Conditions: each theorem's own.
-/
import Derived.Test.YtheemnpfnefbmaaDoorSealB
namespace Go.Proofs.YtheemnpfnefbmaaDoor
open Sl Sha Str

theorem goes_rseal : Goes Tryd.prog 23 := ⟨_, Tryd.func23, rfl, by kernel_rfl⟩
theorem goes_ropen : Goes Tryd.prog 22 := ⟨_, Tryd.func22, rfl, by kernel_rfl⟩
theorem own_part {e : TypeId} {sz n cap k : Nat} {xs ys : List Value} (h : (xs.drop (0 + k)).take ys.length = ys) (hk : k + ys.length ≤ xs.length) : ∀ o, Own e sz n cap xs o → hasCells o (0 + k) ys := fun o ho => by
  have := has_part (t := ys.length) (Own.cells o ho) hk
  rw [Nat.zero_add] at h
  rwa [h] at this
theorem rkeysE_any (key : List B) (hk : key.length = 32) (b12 b1 : Nat) (w : World) (hr : Sl8.ok w ⟨some ⟨b1, 0, none⟩, 32, key⟩) :
    Calls Tryd.prog 35 [.slice (some ⟨b12, 0, none⟩) 0 0, .slice (some ⟨b1, 0, none⟩) 32 32, .string sealB, N 2].toArray w fun e w' => ∃ x : Nat × Nat, e = .returned (.slice (some ⟨x.1, 0, none⟩) 2 x.2) ∧ Holds w [] [⟨x.1, Own 23 32 2 x.2 ((ekey key).map U8), true⟩] w' := by
  have := rkeys_any ⟨some ⟨b12, 0, none⟩, 0, []⟩ ⟨some ⟨b1, 0, none⟩, 32, key⟩ sealB 2 (by decide) w ⟨Nat.le_refl _, Reads.nil _ _⟩ hr (by simp) (show key.length < 35184372088000 by omega) (by decide)
  rw [show Sl8.v ⟨some ⟨b1, 0, none⟩, 32, key⟩ = .slice (some ⟨b1, 0, none⟩) 32 32 by simp [Sl8.v, hk]] at this
  rw [ekey]
  exact this
theorem rtag_ok {w0 w : World} {S : List Nat} {M : List Ent} {a2 m : List B} {xs : List Value} (ha : (a2.map U8).length = 32) (hml : m.length < 1000000000) {bk ck bm cm : Nat} (hw : Holds w0 S M w) (hx : xs.length = 64) (c2 : (xs.drop (0 + 1 * 32)).take (a2.map U8).length = a2.map U8) (h1 : Has M bk (Own 23 32 2 ck xs) true) (h3 : Has M bm (Own 5 1 m.length cm (m.map U8)) true) :
    Calls Tryd.prog 36 [.slice (some ⟨bk, 0 + 1 * 32, none⟩) 32 32, .slice (some ⟨bm, 0, none⟩) m.length cm].toArray w fun e w'' => e = .returned (.agg ((hmac a2 m).map U8).toArray) ∧ Ext w w'' := by
  obtain ⟨o1, ho1, hA1⟩ := hw.get h1
  have hl : a2.length = 32 := by simpa using ha
  have := rhmac_any ⟨some ⟨bk, 0 + 1 * 32, none⟩, 32, a2⟩ ⟨some ⟨bm, 0, none⟩, cm, m⟩ w ⟨Nat.le_of_eq hl, Reads.block ho1 (own_part c2 (by rw [ha, hx]; decide) _ hA1)⟩ (ownb_ok hw h3) (show a2.length < 35184372088000 by omega) (show m.length < 35184372088000 by omega)
  simpa [Sl8.v, hl] using this
theorem rmessageV {nonce : List B} {s c : Sl8} {vc : Value} (hvc : c.v = vc) (hn : nonce.length = 12) {w : World} (hs : s.ok w) (hc : c.ok w) (hsl : s.l.length < 35184372088832) (hcl : c.l.length < 35184372088832) :
    Calls Tryd.prog 25 [.agg (nonce.map U8).toArray, s.v, vc].toArray w fun e w' => ∃ x : Nat × Nat, e = .returned (.slice (some ⟨x.1, 0, none⟩) (msg nonce s.l c.l).length x.2) ∧ Holds w [] [⟨x.1, Own 5 1 (msg nonce s.l c.l).length x.2 ((msg nonce s.l c.l).map U8), true⟩] w' := by
  subst hvc
  exact rmessage_any nonce s c hn w hs hc hsl hcl
def needS : Nat → List (Nat × Nat)
  | 1 => [(0, 15)]
  | 2 => [(1, 16)]
  | 5 => [(2, 17), (3, 18), (4, 19)]
  | 6 => [(5, 20)]
  | _ => []
def inpS : Nat → List Nat
  | 2 => [7]
  | 3 => [9]
  | _ => []
def srcS : Nat → Option Nat
  | 6 => some 5
  | _ => none
def needT : Nat → List (Nat × Nat)
  | 1 => [(0, 21)]
  | 2 => [(1, 22)]
  | 6 => [(3, 24), (4, 25), (5, 26)]
  | 7 => [(2, 23), (6, 27)]
  | 9 => [(8, 11), (7, 28)]
  | _ => []
def inpT : Nat → List Nat
  | 3 => [12]
  | 6 => [10]
  | 7 => [11, 6]
  | 9 => [8]
  | _ => []
def eatT : Nat → List Nat
  | 9 => [8]
  | _ => []
def srcT : Nat → Option Nat
  | 9 => some 8
  | _ => none
def needU : Nat → List (Nat × Nat)
  | 1 => [(0, 22)]
  | 2 => [(1, 23)]
  | 7 => [(5, 27), (6, 28)]
  | 8 => [(3, 25), (4, 26), (7, 29)]
  | 9 => [(2, 24), (8, 30)]
  | 11 => [(10, 12), (9, 31)]
  | _ => []
def inpU : Nat → List Nat
  | 3 => [14]
  | 9 => [12, 8]
  | 11 => [10]
  | _ => []
def eatU : Nat → List Nat
  | 11 => [10]
  | _ => []
def srcU : Nat → Option Nat
  | 11 => some 10
  | _ => none
def needV : Nat → List (Nat × Nat)
  | 1 => [(0, 38)]
  | 2 => [(1, 39)]
  | 6 => [(4, 42), (5, 43)]
  | 7 => [(2, 40), (3, 41), (6, 44)]
  | 8 => [(7, 45)]
  | _ => []
def inpV : Nat → List Nat
  | 2 => [11]
  | 3 => [12]
  | _ => []
def srcV : Nat → Option Nat
  | 8 => some 7
  | _ => none

set_option maxHeartbeats 4000000 in
set_option maxRecDepth 4000 in
theorem rseal_any (key nonce : List B) (s p : Sl8) (hk : key.length = 32) (hn : nonce.length = 12) (w : World) (hs : s.ok w) (hp : p.ok w) (hsl : s.l.length < 100000000) (hpl : p.l.length < 100000000) :
    Calls Tryd.prog 23 [.agg (key.map U8).toArray, .agg (nonce.map U8).toArray, s.v, p.v].toArray w fun e w' => ∃ x : Nat × Nat, e = .returned (.slice (some ⟨x.1, 0, none⟩) (p.l.length + 32) x.2) ∧ Holds w [] [⟨x.1, Own 5 1 (p.l.length + 32) x.2 ((sealK (k1 key) (k2 key) nonce s.l p.l).map U8), true⟩] w' := by
  have hKeys := rkeysE_any key hk
  have h1 : ((k1 key).map U8).length = 32 := by rw [List.length_map, k1_length]
  have h2 : ((k2 key).map U8).length = 32 := by rw [List.length_map, k2_length]
  have c1 := k1_cells key
  have c2 := k2_cells key
  have hek : ((ekey key).map U8).length = 64 := by rw [List.length_map, ekey_length]
  generalize ekey key = ek at hKeys c1 c2 hek
  generalize k1 key = a1 at h1 c1 ⊢
  generalize k2 key = a2 at h2 c2 ⊢
  have hTl := turn_length a1 1#32 nonce p.l
  have hT0 := fun w' (h' : p.ok w') => rturnO_any a1 1#32 nonce p rfl (by simpa using h1) hn w' h' (by omega)
  rw [sealK]
  generalize turn a1 1#32 nonce p.l = T at hTl hT0 ⊢
  have hml := msg_length nonce s.l T
  have hM0 := fun (w' : World) (b c : Nat) (hs' : s.ok w') (h : Sl8.ok w' ⟨some ⟨b, 0, none⟩, c, T⟩) => rmessageV (c := ⟨some ⟨b, 0, none⟩, c, T⟩) (vc := .slice (some ⟨b, 0, none⟩) p.l.length c) (by simp [Sl8.v, hTl]) hn hs' h (show s.l.length < 35184372088832 by omega) (show T.length < 35184372088832 by omega)
  simp only [] at hM0
  rw [hn, hTl] at hml
  generalize msg nonce s.l T = m at hml hM0 ⊢
  refine enter (n := 32) Tryd.func23 rfl rfl rfl (Holds.start w []) ?_
  repeat (first | refine JL.q (by first | (apply OQ.move; exact rfl) | (apply OQ.assign; exact rfl) | (apply OQ.len; exact rfl; exact rfl) | (apply OQ.subN; exact rfl; exact rfl; exact (by (try simp only []); omega); exact (by (try simp only []); omega)) | (apply OQ.lssN; exact rfl; exact rfl)) rfl ?_ | refine JC.seq ?_ | refine JC.region ?_ | refine JC.block ?_ | refine JC.skip ?_ | refine JC.exit ?_ | refine JL.nil ?_ | refine JE.next ?_ | refine JE.blk_normal ?_ | refine JE.then_exit ?_ | refine JE.blk_hit ?_ | refine JE.blk_miss rfl ?_ | refine JE.then_ret ?_ | refine JE.blk_ret ?_ | refine JC.label ?_ | refine JL.gon rfl rfl ?_ | refine JL.gskip rfl rfl rfl rfl ?_)
  refine JL.box (r := key.map U8) rfl rfl rfl fun b4 _ => ?_
  refine JL.box (r := nonce.map U8) rfl rfl rfl fun b5 _ => ?_
  repeat (first | refine JL.q (by first | (apply OQ.move; exact rfl) | (apply OQ.assign; exact rfl) | (apply OQ.len; exact rfl; exact rfl) | (apply OQ.subN; exact rfl; exact rfl; exact (by (try simp only []); omega); exact (by (try simp only []); omega)) | (apply OQ.lssN; exact rfl; exact rfl)) rfl ?_ | refine JC.seq ?_ | refine JC.region ?_ | refine JC.block ?_ | refine JC.skip ?_ | refine JC.exit ?_ | refine JL.nil ?_ | refine JE.next ?_ | refine JE.blk_normal ?_ | refine JE.then_exit ?_ | refine JE.blk_hit ?_ | refine JE.blk_miss rfl ?_ | refine JE.then_ret ?_ | refine JE.blk_ret ?_ | refine JC.label ?_ | refine JL.gon rfl rfl ?_ | refine JL.gskip rfl rfl rfl rfl ?_)
  refine JL.litZ Tryd.underlying33 e5 rfl fun b12 _ => ?_
  repeat (first | refine JL.q (by first | (apply OQ.slA; exact Tryd.underlying23; exact s5; exact rfl) | (apply OQ.move; exact rfl) | (apply OQ.assign; exact rfl) | (apply OQ.len; exact rfl; exact rfl) | (apply OQ.subN; exact rfl; exact rfl; exact (by (try simp only []); omega); exact (by (try simp only []); omega)) | (apply OQ.lssN; exact rfl; exact rfl)) rfl ?_ | refine JC.seq ?_ | refine JC.region ?_ | refine JC.block ?_ | refine JC.skip ?_ | refine JC.exit ?_ | refine JL.nil ?_ | refine JE.next ?_ | refine JE.blk_normal ?_ | refine JE.then_exit ?_ | refine JE.blk_hit ?_ | refine JE.blk_miss rfl ?_ | refine JE.then_ret ?_ | refine JE.blk_ret ?_ | refine JC.label ?_ | refine JL.gon rfl rfl ?_ | refine JL.gskip rfl rfl rfl rfl ?_)
  refine JL.callg (ι := Nat × Nat) (vs := [.slice (some ⟨b12, 0, none⟩) 0 0, .slice (some ⟨b4, 0, none⟩) 32 32, .string sealB, N 2]) (fun x => .slice (some ⟨x.1, 0, none⟩) 2 x.2) (fun x => [⟨x.1, Own 23 32 2 x.2 (ek.map U8), true⟩]) goes_rkeys rfl rfl (fun i => by simp) (fun w' hw' => hKeys b12 b4 w' (row_ok hw' (.there (.there .here)) rfl (Nat.le_of_eq hk))) ?_
  rintro ⟨bk, ck⟩
  try dsimp only
  repeat (first | refine JL.q (by first | (apply OQ.move; exact rfl) | (apply OQ.assign; exact rfl) | (apply OQ.len; exact rfl; exact rfl) | (apply OQ.subN; exact rfl; exact rfl; exact (by (try simp only []); omega); exact (by (try simp only []); omega)) | (apply OQ.lssN; exact rfl; exact rfl)) rfl ?_ | refine JC.seq ?_ | refine JC.region ?_ | refine JC.block ?_ | refine JC.skip ?_ | refine JC.exit ?_ | refine JL.nil ?_ | refine JE.next ?_ | refine JE.blk_normal ?_ | refine JE.then_exit ?_ | refine JE.blk_hit ?_ | refine JE.blk_miss rfl ?_ | refine JE.then_ret ?_ | refine JE.blk_ret ?_ | refine JC.label ?_ | refine JL.gon rfl rfl ?_ | refine JL.gskip rfl rfl rfl rfl ?_)
  let vs : Nat → X → Value := fun j x => match j with
    | 0 => .slice (some ⟨bk, 0, none⟩) 2 ck
    | 1 => Pt bk (0 + 0 * 32)
    | 2 => .agg (a1.map U8).toArray
    | 3 => .agg (nonce.map U8).toArray
    | 4 => p.v
    | _ => .slice (some ⟨x.1, 0, none⟩) p.l.length x.2
  let Ms : Nat → X → List Ent := fun j x => match j with
    | 5 => [⟨x.1, Own 5 1 p.l.length x.2 (T.map U8), true⟩]
    | 7 => [⟨bk, Own 23 32 2 ck (ek.map U8), true⟩]
    | 8 => [⟨b12, Own 5 1 0 0 [], true⟩]
    | 9 => [⟨b5, Row 26 (nonce.map U8), true⟩]
    | 10 => [⟨b4, Row 23 (key.map U8), true⟩]
    | _ => []
  refine JC.grow (g := ⟨[(2, s.v), (3, p.v), (5, Pt b5 0), (9, .slice (some ⟨bk, 0, none⟩) 2 ck)], 11, vs, Ms, needS, inpS, fun _ => [], srcS⟩) [(6, 10)] [5, 7, 9] mixed (by repeat (first | exact SubE.nil | refine SubE.cons _ _ _ rfl ?_)) (Less.refl _) (by kernel_rfl) (by kernel_rfl) (by kernel_rfl) ?_ ?_
  · refine ⟨?_, ?_, ?_, ?_, ?_, ?_, ?_, trivial⟩
    iterate 5 (focus (intro x EF MF Q kk; (try refine JL.gon rfl rfl ?_); exact JL.q (by first | (apply OQ.idxS; exact Tryd.underlying63; exact s25; exact rfl; exact rfl; exact (by decide)) | (apply OQ.load_agg (cs := a1.map U8); exact a25; exact s25; exact rfl; exact .here; exact h1; exact (own_part c1 (by rw [h1, hek]; decide))) | (apply OQ.load_agg (cs := nonce.map U8); exact noa; exact nos; exact rfl; exact .here; exact (by simpa using hn); exact Row.all) | (apply OQ.move; exact rfl) | (apply OQ.assign; exact rfl) | (apply OQ.len; exact rfl; exact rfl) | (apply OQ.subN; exact rfl; exact rfl; exact (by (try simp only []); omega); exact (by (try simp only []); omega)) | (apply OQ.lssN; exact rfl; exact rfl)) rfl (JL.nil (kk default nofun))))
    · intro x EF MF Q kk
      exact JL.callg (ι := Nat × Nat) (fun x => .slice (some ⟨x.1, 0, none⟩) p.l.length x.2) (fun x => [⟨x.1, Own 5 1 p.l.length x.2 (T.map U8), true⟩]) goes_rturn rfl rfl (fun i => by simp) (fun w' hw' => hT0 w' (hp.holds hw' rfl)) fun i => JL.nil (kk i nofun)
    · intro x EF MF Q kk
      exact JL.q (OQ.assign rfl) rfl (JL.nil (kk (x 5) (fun k h => by cases h; rfl)))
  · intro x hx
    have h6 := hx 6 5 (by decide) rfl
    show JE _ _ _ _ _ [(10, .slice (some ⟨(x 6).1, 0, none⟩) p.l.length (x 6).2), (2, s.v), (3, p.v), (5, Pt b5 0), (9, .slice (some ⟨bk, 0, none⟩) 2 ck)] [⟨(x 5).1, Own 5 1 p.l.length (x 5).2 (T.map U8), true⟩, ⟨bk, Own 23 32 2 ck (ek.map U8), true⟩, ⟨b5, Row 26 (nonce.map U8), true⟩]
    rw [h6]
    obtain ⟨b10, c10⟩ := x 5
    clear hx h6 x vs Ms
    dsimp only
    repeat (first | refine JL.q (by first | (apply OQ.move; exact rfl) | (apply OQ.assign; exact rfl) | (apply OQ.len; exact rfl; exact rfl) | (apply OQ.subN; exact rfl; exact rfl; exact (by (try simp only []); omega); exact (by (try simp only []); omega)) | (apply OQ.lssN; exact rfl; exact rfl)) rfl ?_ | refine JC.seq ?_ | refine JC.region ?_ | refine JC.block ?_ | refine JC.skip ?_ | refine JC.exit ?_ | refine JL.nil ?_ | refine JE.next ?_ | refine JE.blk_normal ?_ | refine JE.then_exit ?_ | refine JE.blk_hit ?_ | refine JE.blk_miss rfl ?_ | refine JE.then_ret ?_ | refine JE.blk_ret ?_ | refine JC.label ?_ | refine JL.gon rfl rfl ?_ | refine JL.gskip rfl rfl rfl rfl ?_)
    let vs : Nat → X → Value := fun j x => match j with
      | 0 => .slice (some ⟨bk, 0, none⟩) 2 ck
      | 1 => Pt bk (0 + 1 * 32)
      | 2 => .slice (some ⟨bk, 0 + 1 * 32, none⟩) 32 32
      | 3 => .agg (nonce.map U8).toArray
      | 4 => s.v
      | 5 => .slice (some ⟨b10, 0, none⟩) p.l.length c10
      | 6 => .slice (some ⟨x.1, 0, none⟩) m.length x.2
      | 7 => .agg ((hmac a2 m).map U8).toArray
      | _ => Pt x.1 0
    let Ms : Nat → X → List Ent := fun j x => match j with
      | 6 => [⟨x.1, Own 5 1 m.length x.2 (m.map U8), true⟩]
      | 8 => [⟨x.1, Row 23 ((List.replicate 32 (0 : B)).map U8), true⟩]
      | 9 => [⟨x.1, Row 23 ((hmac a2 m).map U8), true⟩]
      | 10 => [⟨b10, Own 5 1 p.l.length c10 (T.map U8), true⟩]
      | 11 => [⟨bk, Own 23 32 2 ck (ek.map U8), true⟩]
      | 12 => [⟨b5, Row 26 (nonce.map U8), true⟩]
      | _ => []
    refine JC.grow (g := ⟨[(2, s.v), (5, Pt b5 0), (9, .slice (some ⟨bk, 0, none⟩) 2 ck), (10, .slice (some ⟨b10, 0, none⟩) p.l.length c10)], 13, vs, Ms, needT, inpT, eatT, srcT⟩) [(8, 11)] [9, 10] mixed (by repeat (first | exact SubE.nil | refine SubE.cons _ _ _ rfl ?_)) (Less.refl _) (by kernel_rfl) (by kernel_rfl) (by kernel_rfl) ?_ ?_
    · refine ⟨?_, ?_, ?_, ?_, ?_, ?_, ?_, ?_, ?_, ?_, trivial⟩
      iterate 6 (focus (intro x EF MF Q kk; (try refine JL.gon rfl rfl ?_); exact JL.q (by first | (apply OQ.idxS; exact Tryd.underlying63; exact s25; exact rfl; exact rfl; exact (by decide)) | (apply OQ.slA; exact Tryd.underlying23; exact s5; exact rfl) | (apply OQ.load_agg (cs := nonce.map U8); exact noa; exact nos; exact rfl; exact .here; exact (by simpa using hn); exact Row.all) | (apply OQ.move; exact rfl) | (apply OQ.assign; exact rfl) | (apply OQ.len; exact rfl; exact rfl) | (apply OQ.subN; exact rfl; exact rfl; exact (by (try simp only []); omega); exact (by (try simp only []); omega)) | (apply OQ.lssN; exact rfl; exact rfl)) rfl (JL.nil (kk default nofun))))
      · intro x EF MF Q kk
        exact JL.callg (ι := Nat × Nat) (fun x => .slice (some ⟨x.1, 0, none⟩) m.length x.2) (fun x => [⟨x.1, Own 5 1 m.length x.2 (m.map U8), true⟩]) goes_rmessage rfl rfl (fun i => by simp) (fun w' hw' => hM0 w' b10 c10 (hs.holds hw' rfl) (ownb_ok hw' .here)) fun i => JL.nil (kk i nofun)
      · intro x EF MF Q kk
        exact JL.q (OQ.callx (vs := [.slice (some ⟨bk, 0 + 1 * 32, none⟩) 32 32, .slice (some ⟨(x 6).1, 0, none⟩) m.length (x 6).2]) goes_rhmac rfl fun w' hw' => rtag_ok h2 (by omega) hw' hek c2 .here (.there .here)) rfl (JL.nil (kk default nofun))
      · intro x EF MF Q kk
        exact JL.alloc zc25 rfl fun b _ => JL.nil (kk (b, 0) nofun)
      · intro x EF MF Q kk
        exact JL.store_all s25 rfl rfl (shal _) (all8 _) .here (by simp) (JL.nil (kk (x 8) (fun k h => by cases h; rfl)))
    · intro x hx
      have h9 := hx 9 8 (by decide) rfl
      show JE _ _ _ _ _ [(11, Pt (x 8).1 0), (2, s.v), (5, Pt b5 0), (9, .slice (some ⟨bk, 0, none⟩) 2 ck), (10, .slice (some ⟨b10, 0, none⟩) p.l.length c10)] [⟨(x 9).1, Row 23 ((hmac a2 m).map U8), true⟩, ⟨b10, Own 5 1 p.l.length c10 (T.map U8), true⟩]
      rw [h9]
      generalize (x 8).1 = b11
      clear hx h9 x vs Ms
      repeat (first | refine JL.q (by first | (apply OQ.slA; exact Tryd.underlying23; exact s5; exact rfl) | (apply OQ.move; exact rfl) | (apply OQ.assign; exact rfl) | (apply OQ.len; exact rfl; exact rfl) | (apply OQ.subN; exact rfl; exact rfl; exact (by (try simp only []); omega); exact (by (try simp only []); omega)) | (apply OQ.lssN; exact rfl; exact rfl)) rfl ?_ | refine JC.seq ?_ | refine JC.region ?_ | refine JC.block ?_ | refine JC.skip ?_ | refine JC.exit ?_ | refine JL.nil ?_ | refine JE.next ?_ | refine JE.blk_normal ?_ | refine JE.then_exit ?_ | refine JE.blk_hit ?_ | refine JE.blk_miss rfl ?_ | refine JE.then_ret ?_ | refine JE.blk_ret ?_ | refine JC.label ?_ | refine JL.gon rfl rfl ?_ | refine JL.gskip rfl rfl rfl rfl ?_)
      refine JL.append (cs := (hmac a2 m).map U8) (fun b' cap' => [⟨b11, Row 23 ((hmac a2 m).map U8), true⟩, ⟨b', Own 5 1 (p.l.length + 32) cap' (T.map U8 ++ (hmac a2 m).map U8), true⟩]) Tryd.underlying33 e5 rfl rfl (by intro _ _; repeat (first | exact Repl.here | apply Repl.there)) (shal _) (fun w' hw' => (row_ok (cap := 32) hw' .here rfl (Nat.le_of_eq (hmacL _ _))).reads) (of_u8 _) rfl (by decide) (by omega) (by omega) rfl fun b13 cap13 => ?_
      rw [← List.map_append]
      repeat (first | refine JL.q (by first | (apply OQ.move; exact rfl) | (apply OQ.assign; exact rfl) | (apply OQ.len; exact rfl; exact rfl) | (apply OQ.subN; exact rfl; exact rfl; exact (by (try simp only []); omega); exact (by (try simp only []); omega)) | (apply OQ.lssN; exact rfl; exact rfl)) rfl ?_ | refine JC.seq ?_ | refine JC.region ?_ | refine JC.block ?_ | refine JC.skip ?_ | refine JC.exit ?_ | refine JL.nil ?_ | refine JE.next ?_ | refine JE.blk_normal ?_ | refine JE.then_exit ?_ | refine JE.blk_hit ?_ | refine JE.blk_miss rfl ?_ | refine JE.then_ret ?_ | refine JE.blk_ret ?_ | refine JC.label ?_ | refine JL.gon rfl rfl ?_ | refine JL.gskip rfl rfl rfl rfl ?_)
      refine JC.ret ?_
      repeat (first | refine JL.q (by first | (apply OQ.move; exact rfl) | (apply OQ.assign; exact rfl) | (apply OQ.len; exact rfl; exact rfl) | (apply OQ.subN; exact rfl; exact rfl; exact (by (try simp only []); omega); exact (by (try simp only []); omega)) | (apply OQ.lssN; exact rfl; exact rfl)) rfl ?_ | refine JC.seq ?_ | refine JC.region ?_ | refine JC.block ?_ | refine JC.skip ?_ | refine JC.exit ?_ | refine JL.nil ?_ | refine JE.next ?_ | refine JE.blk_normal ?_ | refine JE.then_exit ?_ | refine JE.blk_hit ?_ | refine JE.blk_miss rfl ?_ | refine JE.then_ret ?_ | refine JE.blk_ret ?_ | refine JC.label ?_ | refine JL.gon rfl rfl ?_ | refine JL.gskip rfl rfl rfl rfl ?_)
      exact JE.ret1 rfl (RV.tmp rfl) fun w' hw => ⟨(b13, cap13), rfl, hw.weak (.drop _ _ _ (.keep _ _ _ _ _ _ (fun _ h => h) (Less.nil _)))⟩

set_option maxHeartbeats 4000000 in
set_option maxRecDepth 4000 in
theorem ropen_any (key nonce : List B) (s z : Sl8) (hk : key.length = 32) (hn : nonce.length = 12) (w : World) (hs : s.ok w) (hz : z.ok w) (hsl : s.l.length < 100000000) (hzl : z.l.length < 100000000) :
    Calls Tryd.prog 22 [.agg (key.map U8).toArray, .agg (nonce.map U8).toArray, s.v, z.v].toArray w fun e w' => ∃ s' : Sl8, e = .returned (.tuple #[s'.v, N (openK (k1 key) (k2 key) nonce s.l z.l).2]) ∧ Gave s' (openK (k1 key) (k2 key) nonce s.l z.l).1 s'.cap ∧ Holds w [] s'.ents w' := by
  have hKeys := rkeysE_any key hk
  have h1 : ((k1 key).map U8).length = 32 := by rw [List.length_map, k1_length]
  have h2 : ((k2 key).map U8).length = 32 := by rw [List.length_map, k2_length]
  have c1 := k1_cells key
  have c2 := k2_cells key
  have hek : ((ekey key).map U8).length = 64 := by rw [List.length_map, ekey_length]
  generalize ekey key = ek at hKeys c1 c2 hek
  generalize k1 key = a1 at h1 c1 ⊢
  generalize k2 key = a2 at h2 c2 ⊢
  refine enter (n := 46) Tryd.func22 rfl rfl rfl (Holds.start w []) ?_
  repeat (first | refine JL.q (by first | (apply OQ.move; exact rfl) | (apply OQ.assign; exact rfl) | (apply OQ.len; exact rfl; exact rfl) | (apply OQ.subN; exact rfl; exact rfl; exact (by (try simp only []); omega); exact (by (try simp only []); omega)) | (apply OQ.lssN; exact rfl; exact rfl)) rfl ?_ | refine JC.seq ?_ | refine JC.region ?_ | refine JC.block ?_ | refine JC.skip ?_ | refine JC.exit ?_ | refine JL.nil ?_ | refine JE.next ?_ | refine JE.blk_normal ?_ | refine JE.then_exit ?_ | refine JE.blk_hit ?_ | refine JE.blk_miss rfl ?_ | refine JE.then_ret ?_ | refine JE.blk_ret ?_ | refine JC.label ?_ | refine JL.gon rfl rfl ?_ | refine JL.gskip rfl rfl rfl rfl ?_)
  refine JL.box (r := key.map U8) rfl rfl rfl fun b4 _ => ?_
  refine JL.box (r := nonce.map U8) rfl rfl rfl fun b5 _ => ?_
  by_cases hlt : z.l.length < 32
  · rw [openK, if_pos hlt]
    repeat (first | refine JL.q (by first | (apply OQ.lssN_t; exact rfl; exact rfl; exact hlt) | (apply OQ.move; exact rfl) | (apply OQ.assign; exact rfl) | (apply OQ.len; exact rfl; exact rfl) | (apply OQ.subN; exact rfl; exact rfl; exact (by (try simp only []); omega); exact (by (try simp only []); omega)) | (apply OQ.lssN; exact rfl; exact rfl)) rfl ?_ | refine JC.seq ?_ | refine JC.region ?_ | refine JC.block ?_ | refine JC.skip ?_ | refine JC.exit ?_ | refine JL.nil ?_ | refine JE.next ?_ | refine JE.blk_normal ?_ | refine JE.then_exit ?_ | refine JE.blk_hit ?_ | refine JE.blk_miss rfl ?_ | refine JE.then_ret ?_ | refine JE.blk_ret ?_ | refine JC.label ?_ | refine JL.gon rfl rfl ?_ | refine JL.gskip rfl rfl rfl rfl ?_)
    refine JC.cond_true rfl rfl ?_
    repeat (first | refine JL.q (by first | (apply OQ.move; exact rfl) | (apply OQ.assign; exact rfl) | (apply OQ.len; exact rfl; exact rfl) | (apply OQ.subN; exact rfl; exact rfl; exact (by (try simp only []); omega); exact (by (try simp only []); omega)) | (apply OQ.lssN; exact rfl; exact rfl)) rfl ?_ | refine JC.seq ?_ | refine JC.region ?_ | refine JC.block ?_ | refine JC.skip ?_ | refine JC.exit ?_ | refine JL.nil ?_ | refine JE.next ?_ | refine JE.blk_normal ?_ | refine JE.then_exit ?_ | refine JE.blk_hit ?_ | refine JE.blk_miss rfl ?_ | refine JE.then_ret ?_ | refine JE.blk_ret ?_ | refine JC.label ?_ | refine JL.gon rfl rfl ?_ | refine JL.gskip rfl rfl rfl rfl ?_)
    refine JC.ret ?_
    repeat (first | refine JL.q (by first | (apply OQ.move; exact rfl) | (apply OQ.assign; exact rfl) | (apply OQ.len; exact rfl; exact rfl) | (apply OQ.subN; exact rfl; exact rfl; exact (by (try simp only []); omega); exact (by (try simp only []); omega)) | (apply OQ.lssN; exact rfl; exact rfl)) rfl ?_ | refine JC.seq ?_ | refine JC.region ?_ | refine JC.block ?_ | refine JC.skip ?_ | refine JC.exit ?_ | refine JL.nil ?_ | refine JE.next ?_ | refine JE.blk_normal ?_ | refine JE.then_exit ?_ | refine JE.blk_hit ?_ | refine JE.blk_miss rfl ?_ | refine JE.then_ret ?_ | refine JE.blk_ret ?_ | refine JC.label ?_ | refine JL.gon rfl rfl ?_ | refine JL.gskip rfl rfl rfl rfl ?_)
    exact JE.ret2 rfl (RV.tmp rfl) (RV.tmp rfl) fun w' hw => ⟨nilS, rfl, ⟨rfl, rfl, fun _ => rfl⟩, hw.weak (Less.nil _)⟩
  repeat (first | refine JL.q (by first | (apply OQ.lssN_f; exact rfl; exact rfl; exact hlt) | (apply OQ.move; exact rfl) | (apply OQ.assign; exact rfl) | (apply OQ.len; exact rfl; exact rfl) | (apply OQ.subN; exact rfl; exact rfl; exact (by (try simp only []); omega); exact (by (try simp only []); omega)) | (apply OQ.lssN; exact rfl; exact rfl)) rfl ?_ | refine JC.seq ?_ | refine JC.region ?_ | refine JC.block ?_ | refine JC.skip ?_ | refine JC.exit ?_ | refine JL.nil ?_ | refine JE.next ?_ | refine JE.blk_normal ?_ | refine JE.then_exit ?_ | refine JE.blk_hit ?_ | refine JE.blk_miss rfl ?_ | refine JE.then_ret ?_ | refine JE.blk_ret ?_ | refine JC.label ?_ | refine JL.gon rfl rfl ?_ | refine JL.gskip rfl rfl rfl rfl ?_)
  refine JC.cond_false rfl rfl ?_
  rw [openK, if_neg hlt]
  have hle : z.l.length - 32 ≤ z.l.length := Nat.sub_le _ _
  have hT0 := fun w' (h' : (z.fst (z.l.length - 32)).ok w') => rturnO_any a1 1#32 nonce (z.fst (z.l.length - 32)) rfl (by simpa using h1) hn w' h' (show (z.l.take (z.l.length - 32)).length < 35184372088832 by rw [List.length_take]; omega)
  have hM0 := fun (w' : World) (hs' : s.ok w') (h : (z.fst (z.l.length - 32)).ok w') => rmessage_any nonce s (z.fst (z.l.length - 32)) hn w' hs' h (show s.l.length < 35184372088832 by omega) (show (z.l.take (z.l.length - 32)).length < 35184372088832 by rw [List.length_take]; omega)
  rw [show (z.fst (z.l.length - 32)).l = z.l.take (z.l.length - 32) from rfl] at hT0
  simp only [show (z.fst (z.l.length - 32)).l = z.l.take (z.l.length - 32) from rfl] at hM0
  have hml := msg_length nonce s.l (z.l.take (z.l.length - 32))
  rw [hn, List.length_take] at hml
  generalize msg nonce s.l (z.l.take (z.l.length - 32)) = m at hml hM0 ⊢
  have hTl := turn_length a1 1#32 nonce (z.l.take (z.l.length - 32))
  generalize turn a1 1#32 nonce (z.l.take (z.l.length - 32)) = T at hTl hT0 ⊢
  repeat (first | refine JL.q (by first | (apply OQ.move; exact rfl) | (apply OQ.assign; exact rfl) | (apply OQ.len; exact rfl; exact rfl) | (apply OQ.subN; exact rfl; exact rfl; exact (by (try simp only []); omega); exact (by (try simp only []); omega)) | (apply OQ.lssN; exact rfl; exact rfl)) rfl ?_ | refine JC.seq ?_ | refine JC.region ?_ | refine JC.block ?_ | refine JC.skip ?_ | refine JC.exit ?_ | refine JL.nil ?_ | refine JE.next ?_ | refine JE.blk_normal ?_ | refine JE.then_exit ?_ | refine JE.blk_hit ?_ | refine JE.blk_miss rfl ?_ | refine JE.then_ret ?_ | refine JE.blk_ret ?_ | refine JC.label ?_ | refine JL.gon rfl rfl ?_ | refine JL.gskip rfl rfl rfl rfl ?_)
  refine JL.litZ Tryd.underlying33 e5 rfl fun b19 _ => ?_
  repeat (first | refine JL.q (by first | (apply OQ.slA; exact Tryd.underlying23; exact s5; exact rfl) | (apply OQ.move; exact rfl) | (apply OQ.assign; exact rfl) | (apply OQ.len; exact rfl; exact rfl) | (apply OQ.subN; exact rfl; exact rfl; exact (by (try simp only []); omega); exact (by (try simp only []); omega)) | (apply OQ.lssN; exact rfl; exact rfl)) rfl ?_ | refine JC.seq ?_ | refine JC.region ?_ | refine JC.block ?_ | refine JC.skip ?_ | refine JC.exit ?_ | refine JL.nil ?_ | refine JE.next ?_ | refine JE.blk_normal ?_ | refine JE.then_exit ?_ | refine JE.blk_hit ?_ | refine JE.blk_miss rfl ?_ | refine JE.then_ret ?_ | refine JE.blk_ret ?_ | refine JC.label ?_ | refine JL.gon rfl rfl ?_ | refine JL.gskip rfl rfl rfl rfl ?_)
  refine JL.callg (ι := Nat × Nat) (vs := [.slice (some ⟨b19, 0, none⟩) 0 0, .slice (some ⟨b4, 0, none⟩) 32 32, .string sealB, N 2]) (fun x => .slice (some ⟨x.1, 0, none⟩) 2 x.2) (fun x => [⟨x.1, Own 23 32 2 x.2 (ek.map U8), true⟩]) goes_rkeys rfl rfl (fun i => by simp) (fun w' hw' => hKeys b19 b4 w' (row_ok hw' (.there (.there .here)) rfl (Nat.le_of_eq hk))) ?_
  rintro ⟨bk, ck⟩
  try dsimp only
  repeat (first | refine JL.q (by first | (apply OQ.move; exact rfl) | (apply OQ.assign; exact rfl) | (apply OQ.len; exact rfl; exact rfl) | (apply OQ.subN; exact rfl; exact rfl; exact (by (try simp only []); omega); exact (by (try simp only []); omega)) | (apply OQ.lssN; exact rfl; exact rfl)) rfl ?_ | refine JC.seq ?_ | refine JC.region ?_ | refine JC.block ?_ | refine JC.skip ?_ | refine JC.exit ?_ | refine JL.nil ?_ | refine JE.next ?_ | refine JE.blk_normal ?_ | refine JE.then_exit ?_ | refine JE.blk_hit ?_ | refine JE.blk_miss rfl ?_ | refine JE.then_ret ?_ | refine JE.blk_ret ?_ | refine JC.label ?_ | refine JL.gon rfl rfl ?_ | refine JL.gskip rfl rfl rfl rfl ?_)
  let vs : Nat → X → Value := fun j x => match j with
    | 0 => .slice (some ⟨bk, 0, none⟩) 2 ck
    | 1 => Pt bk (0 + 1 * 32)
    | 2 => .slice (some ⟨bk, 0 + 1 * 32, none⟩) 32 32
    | 3 => .agg (nonce.map U8).toArray
    | 4 => s.v
    | 5 => z.v
    | 6 => N (z.l.length - 32)
    | 7 => (z.fst (z.l.length - 32)).v
    | 8 => .slice (some ⟨x.1, 0, none⟩) m.length x.2
    | 9 => .agg ((hmac a2 m).map U8).toArray
    | _ => Pt x.1 0
  let Ms : Nat → X → List Ent := fun j x => match j with
    | 8 => [⟨x.1, Own 5 1 m.length x.2 (m.map U8), true⟩]
    | 10 => [⟨x.1, Row 23 ((List.replicate 32 (0 : B)).map U8), true⟩]
    | 11 => [⟨x.1, Row 23 ((hmac a2 m).map U8), true⟩]
    | 12 => [⟨bk, Own 23 32 2 ck (ek.map U8), true⟩]
    | 13 => [⟨b19, Own 5 1 0 0 [], true⟩]
    | 14 => [⟨b5, Row 26 (nonce.map U8), true⟩]
    | 15 => [⟨b4, Row 23 (key.map U8), true⟩]
    | _ => []
  refine JC.grow (g := ⟨[(2, s.v), (3, z.v), (5, Pt b5 0), (10, N (z.l.length - 32)), (11, .slice (some ⟨bk, 0, none⟩) 2 ck)], 16, vs, Ms, needU, inpU, eatU, srcU⟩) [(10, 12)] [11, 12, 14] mixed (by repeat (first | exact SubE.nil | refine SubE.cons _ _ _ rfl ?_)) (Less.refl _) (by kernel_rfl) (by kernel_rfl) (by kernel_rfl) ?_ ?_
  · refine ⟨?_, ?_, ?_, ?_, ?_, ?_, ?_, ?_, ?_, ?_, ?_, ?_, trivial⟩
    iterate 8 (focus (intro x EF MF Q kk; (try refine JL.gon rfl rfl ?_); exact JL.q (by first | (apply OQ.idxS; exact Tryd.underlying63; exact s25; exact rfl; exact rfl; exact (by decide)) | (apply OQ.slA; exact Tryd.underlying23; exact s5; exact rfl) | (apply OQ.load_agg (cs := nonce.map U8); exact noa; exact nos; exact rfl; exact .here; exact (by simpa using hn); exact Row.all) | (apply OQ.fst (s := z); exact Tryd.underlying33; exact s5; exact rfl; exact rfl; exact hle; exact hz.len) | (apply OQ.move; exact rfl) | (apply OQ.assign; exact rfl) | (apply OQ.len; exact rfl; exact rfl) | (apply OQ.subN; exact rfl; exact rfl; exact (by (try simp only []); omega); exact (by (try simp only []); omega)) | (apply OQ.lssN; exact rfl; exact rfl)) rfl (JL.nil (kk default nofun))))
    · intro x EF MF Q kk
      exact JL.callg (ι := Nat × Nat) (fun x => .slice (some ⟨x.1, 0, none⟩) m.length x.2) (fun x => [⟨x.1, Own 5 1 m.length x.2 (m.map U8), true⟩]) goes_rmessage rfl rfl (fun i => by simp) (fun w' hw' => hM0 w' (hs.holds hw' rfl) ((hz.holds hw' rfl).fst _)) fun i => JL.nil (kk i nofun)
    · intro x EF MF Q kk
      exact JL.q (OQ.callx (vs := [.slice (some ⟨bk, 0 + 1 * 32, none⟩) 32 32, .slice (some ⟨(x 8).1, 0, none⟩) m.length (x 8).2]) goes_rhmac rfl fun w' hw' => rtag_ok h2 (by omega) hw' hek c2 .here (.there .here)) rfl (JL.nil (kk default nofun))
    · intro x EF MF Q kk
      exact JL.alloc zc25 rfl fun b _ => JL.nil (kk (b, 0) nofun)
    · intro x EF MF Q kk
      exact JL.store_all s25 rfl rfl (shal _) (all8 _) .here (by simp) (JL.nil (kk (x 10) (fun k h => by cases h; rfl)))
  · intro x hx
    have h11 := hx 11 10 (by decide) rfl
    show JE _ _ _ _ _ [(12, Pt (x 10).1 0), (2, s.v), (3, z.v), (5, Pt b5 0), (10, N (z.l.length - 32)), (11, .slice (some ⟨bk, 0, none⟩) 2 ck)] [⟨(x 11).1, Row 23 ((hmac a2 m).map U8), true⟩, ⟨bk, Own 23 32 2 ck (ek.map U8), true⟩, ⟨b5, Row 26 (nonce.map U8), true⟩]
    rw [h11]
    generalize (x 10).1 = b12
    clear hx h11 x vs Ms
    have hgl := hmacL a2 m
    generalize hmac a2 m = g at hgl ⊢
    by_cases hg : g = z.l.drop (z.l.length - 32)
    · rw [if_pos hg]
      repeat (first | refine JL.q (by first | (apply OQ.move; exact rfl) | (apply OQ.assign; exact rfl) | (apply OQ.len; exact rfl; exact rfl) | (apply OQ.subN; exact rfl; exact rfl; exact (by (try simp only []); omega); exact (by (try simp only []); omega)) | (apply OQ.lssN; exact rfl; exact rfl)) rfl ?_ | refine JC.seq ?_ | refine JC.region ?_ | refine JC.block ?_ | refine JC.skip ?_ | refine JC.exit ?_ | refine JL.nil ?_ | refine JE.next ?_ | refine JE.blk_normal ?_ | refine JE.then_exit ?_ | refine JE.blk_hit ?_ | refine JE.blk_miss rfl ?_ | refine JE.then_ret ?_ | refine JE.blk_ret ?_ | refine JC.label ?_ | refine JL.gon rfl rfl ?_ | refine JL.gskip rfl rfl rfl rfl ?_)
      refine JC.quiet mixed (by kernel_rfl) ?_
      repeat (first | refine JL.q (by first | (apply OQ.slA; exact Tryd.underlying23; exact s5; exact rfl) | (apply OQ.snd (s := z); exact Tryd.underlying33; exact s5; exact rfl; exact rfl; exact hle) | (apply OQ.callx; exact goes_same; exact rfl; exact (fun w' hw' => same_b (a := ⟨some ⟨b12, 0, none⟩, 32, g⟩) (b := z.snd (z.l.length - 32)) (c := true) (by simp [Sl8.v, hgl]) rfl (row_ok hw' .here rfl (Nat.le_of_eq hgl)) ((hz.holds hw' rfl).snd _ hle) (show g.length < 4611686018427387904 by omega) (decide_eq_true hg))) | (apply OQ.not; exact rfl) | (apply OQ.move; exact rfl) | (apply OQ.assign; exact rfl) | (apply OQ.len; exact rfl; exact rfl) | (apply OQ.subN; exact rfl; exact rfl; exact (by (try simp only []); omega); exact (by (try simp only []); omega)) | (apply OQ.lssN; exact rfl; exact rfl)) rfl ?_ | refine JQ.q (by first | (apply OQ.slA; exact Tryd.underlying23; exact s5; exact rfl) | (apply OQ.snd (s := z); exact Tryd.underlying33; exact s5; exact rfl; exact rfl; exact hle) | (apply OQ.callx; exact goes_same; exact rfl; exact (fun w' hw' => same_b (a := ⟨some ⟨b12, 0, none⟩, 32, g⟩) (b := z.snd (z.l.length - 32)) (c := true) (by simp [Sl8.v, hgl]) rfl (row_ok hw' .here rfl (Nat.le_of_eq hgl)) ((hz.holds hw' rfl).snd _ hle) (show g.length < 4611686018427387904 by omega) (decide_eq_true hg))) | (apply OQ.not; exact rfl) | (apply OQ.move; exact rfl) | (apply OQ.assign; exact rfl) | (apply OQ.len; exact rfl; exact rfl) | (apply OQ.subN; exact rfl; exact rfl; exact (by (try simp only []); omega); exact (by (try simp only []); omega)) | (apply OQ.lssN; exact rfl; exact rfl)) rfl ?_ | refine JC.seq ?_ | refine JC.region ?_ | refine JC.block ?_ | refine JC.skip ?_ | refine JC.exit ?_ | refine JL.nil ?_ | refine JQ.nil ?_ | refine JQ.nil_tail ?_ | refine JE.next ?_ | refine JE.blk_normal ?_ | refine JE.then_exit ?_ | refine JE.blk_hit ?_ | refine JE.blk_miss rfl ?_ | refine JE.then_ret ?_ | refine JE.blk_ret ?_ | refine JC.label ?_ | refine JL.gon rfl rfl ?_ | refine JQ.gon rfl rfl ?_ | refine JL.gskip rfl rfl rfl rfl ?_ | refine JQ.gskip rfl rfl rfl rfl ?_)
      refine JC.cond_false rfl rfl ?_
      repeat (first | refine JL.q (by first | (apply OQ.move; exact rfl) | (apply OQ.assign; exact rfl) | (apply OQ.len; exact rfl; exact rfl) | (apply OQ.subN; exact rfl; exact rfl; exact (by (try simp only []); omega); exact (by (try simp only []); omega)) | (apply OQ.lssN; exact rfl; exact rfl)) rfl ?_ | refine JQ.q (by first | (apply OQ.move; exact rfl) | (apply OQ.assign; exact rfl) | (apply OQ.len; exact rfl; exact rfl) | (apply OQ.subN; exact rfl; exact rfl; exact (by (try simp only []); omega); exact (by (try simp only []); omega)) | (apply OQ.lssN; exact rfl; exact rfl)) rfl ?_ | refine JC.seq ?_ | refine JC.region ?_ | refine JC.block ?_ | refine JC.skip ?_ | refine JC.exit ?_ | refine JL.nil ?_ | refine JQ.nil ?_ | refine JQ.nil_tail ?_ | refine JE.next ?_ | refine JE.blk_normal ?_ | refine JE.then_exit ?_ | refine JE.blk_hit ?_ | refine JE.blk_miss rfl ?_ | refine JE.then_ret ?_ | refine JE.blk_ret ?_ | refine JC.label ?_ | refine JL.gon rfl rfl ?_ | refine JQ.gon rfl rfl ?_ | refine JL.gskip rfl rfl rfl rfl ?_ | refine JQ.gskip rfl rfl rfl rfl ?_)
      let vs : Nat → X → Value := fun j x => match j with
        | 0 => .slice (some ⟨bk, 0, none⟩) 2 ck
        | 1 => Pt bk (0 + 0 * 32)
        | 2 => .agg (a1.map U8).toArray
        | 3 => .agg (nonce.map U8).toArray
        | 4 => z.v
        | 5 => N (z.l.length - 32)
        | 6 => (z.fst (z.l.length - 32)).v
        | 9 => N 0
        | _ => .slice (some ⟨x.1, 0, none⟩) (z.l.take (z.l.length - 32)).length x.2
      let Ms : Nat → X → List Ent := fun j x => match j with
        | 7 => [⟨x.1, Own 5 1 (z.l.take (z.l.length - 32)).length x.2 (T.map U8), true⟩]
        | 10 => [⟨b12, Row 23 (g.map U8), true⟩]
        | 11 => [⟨bk, Own 23 32 2 ck (ek.map U8), true⟩]
        | 12 => [⟨b5, Row 26 (nonce.map U8), true⟩]
        | _ => []
      refine JC.grow (g := ⟨[(3, z.v), (5, Pt b5 0), (10, N (z.l.length - 32)), (11, .slice (some ⟨bk, 0, none⟩) 2 ck)], 13, vs, Ms, needV, inpV, fun _ => [], srcV⟩) [(8, 8), (9, 9)] [7] mixed (by repeat (first | exact SubE.nil | refine SubE.cons _ _ _ rfl ?_)) (Less.refl _) (by kernel_rfl) (by kernel_rfl) (by kernel_rfl) ?_ ?_
      · refine ⟨?_, ?_, ?_, ?_, ?_, ?_, ?_, ?_, ?_, ?_, trivial⟩
        iterate 7 (focus (intro x EF MF Q kk; (try refine JL.gon rfl rfl ?_); exact JL.q (by first | (apply OQ.idxS; exact Tryd.underlying63; exact s25; exact rfl; exact rfl; exact (by decide)) | (apply OQ.load_agg (cs := a1.map U8); exact a25; exact s25; exact rfl; exact .here; exact h1; exact (own_part c1 (by rw [h1, hek]; decide))) | (apply OQ.load_agg (cs := nonce.map U8); exact noa; exact nos; exact rfl; exact .here; exact (by simpa using hn); exact Row.all) | (apply OQ.fst (s := z); exact Tryd.underlying33; exact s5; exact rfl; exact rfl; exact hle; exact hz.len) | (apply OQ.move; exact rfl) | (apply OQ.assign; exact rfl) | (apply OQ.len; exact rfl; exact rfl) | (apply OQ.subN; exact rfl; exact rfl; exact (by (try simp only []); omega); exact (by (try simp only []); omega)) | (apply OQ.lssN; exact rfl; exact rfl)) rfl (JL.nil (kk default nofun))))
        · intro x EF MF Q kk
          exact JL.callg (ι := Nat × Nat) (fun x => .slice (some ⟨x.1, 0, none⟩) (z.l.take (z.l.length - 32)).length x.2) (fun x => [⟨x.1, Own 5 1 (z.l.take (z.l.length - 32)).length x.2 (T.map U8), true⟩]) goes_rturn rfl rfl (fun i => by simp) (fun w' hw' => hT0 w' ((hz.holds hw' rfl).fst _)) fun i => JL.nil (kk i nofun)
        · intro x EF MF Q kk
          exact JL.q (OQ.assign rfl) rfl (JL.nil (kk (x 7) (fun k h => by cases h; rfl)))
        · intro x EF MF Q kk
          exact JL.q (OQ.assign rfl) rfl (JL.nil (kk default nofun))
      · intro x hx
        have h8 := hx 8 7 (by decide) rfl
        show JE _ _ _ _ _ [(8, .slice (some ⟨(x 8).1, 0, none⟩) (z.l.take (z.l.length - 32)).length (x 8).2), (9, N 0), (3, z.v), (5, Pt b5 0), (10, N (z.l.length - 32)), (11, .slice (some ⟨bk, 0, none⟩) 2 ck)] [⟨(x 7).1, Own 5 1 (z.l.take (z.l.length - 32)).length (x 7).2 (T.map U8), true⟩]
        rw [h8]
        obtain ⟨b45, c45⟩ := x 7
        clear hx h8 x vs Ms
        dsimp only
        repeat (first | refine JL.q (by first | (apply OQ.move; exact rfl) | (apply OQ.assign; exact rfl) | (apply OQ.len; exact rfl; exact rfl) | (apply OQ.subN; exact rfl; exact rfl; exact (by (try simp only []); omega); exact (by (try simp only []); omega)) | (apply OQ.lssN; exact rfl; exact rfl)) rfl ?_ | refine JQ.q (by first | (apply OQ.move; exact rfl) | (apply OQ.assign; exact rfl) | (apply OQ.len; exact rfl; exact rfl) | (apply OQ.subN; exact rfl; exact rfl; exact (by (try simp only []); omega); exact (by (try simp only []); omega)) | (apply OQ.lssN; exact rfl; exact rfl)) rfl ?_ | refine JC.seq ?_ | refine JC.region ?_ | refine JC.block ?_ | refine JC.skip ?_ | refine JC.exit ?_ | refine JL.nil ?_ | refine JQ.nil ?_ | refine JQ.nil_tail ?_ | refine JE.next ?_ | refine JE.blk_normal ?_ | refine JE.then_exit ?_ | refine JE.blk_hit ?_ | refine JE.blk_miss rfl ?_ | refine JE.then_ret ?_ | refine JE.blk_ret ?_ | refine JC.label ?_ | refine JL.gon rfl rfl ?_ | refine JQ.gon rfl rfl ?_ | refine JL.gskip rfl rfl rfl rfl ?_ | refine JQ.gskip rfl rfl rfl rfl ?_)
        refine JC.ret ?_
        repeat (first | refine JL.q (by first | (apply OQ.move; exact rfl) | (apply OQ.assign; exact rfl) | (apply OQ.len; exact rfl; exact rfl) | (apply OQ.subN; exact rfl; exact rfl; exact (by (try simp only []); omega); exact (by (try simp only []); omega)) | (apply OQ.lssN; exact rfl; exact rfl)) rfl ?_ | refine JQ.q (by first | (apply OQ.move; exact rfl) | (apply OQ.assign; exact rfl) | (apply OQ.len; exact rfl; exact rfl) | (apply OQ.subN; exact rfl; exact rfl; exact (by (try simp only []); omega); exact (by (try simp only []); omega)) | (apply OQ.lssN; exact rfl; exact rfl)) rfl ?_ | refine JC.seq ?_ | refine JC.region ?_ | refine JC.block ?_ | refine JC.skip ?_ | refine JC.exit ?_ | refine JL.nil ?_ | refine JQ.nil ?_ | refine JQ.nil_tail ?_ | refine JE.next ?_ | refine JE.blk_normal ?_ | refine JE.then_exit ?_ | refine JE.blk_hit ?_ | refine JE.blk_miss rfl ?_ | refine JE.then_ret ?_ | refine JE.blk_ret ?_ | refine JC.label ?_ | refine JL.gon rfl rfl ?_ | refine JQ.gon rfl rfl ?_ | refine JL.gskip rfl rfl rfl rfl ?_ | refine JQ.gskip rfl rfl rfl rfl ?_)
        refine JE.ret2 rfl (RV.tmp rfl) (RV.tmp rfl) fun w' hw => ⟨⟨some ⟨b45, 0, none⟩, c45, T⟩, by simp only [Sl8.v, hTl], ⟨rfl, rfl, fun h => by cases h⟩, hw.weak (.keep _ _ _ _ _ _ (fun o ho => ?_) (Less.nil _))⟩
        refine ⟨Own.cells _ ho, ?_, rfl⟩
        obtain ⟨sp, rfl, q2, q3, q4⟩ := ho
        show T.length ≤ c45
        omega
    · rw [if_neg hg]
      repeat (first | refine JL.q (by first | (apply OQ.move; exact rfl) | (apply OQ.assign; exact rfl) | (apply OQ.len; exact rfl; exact rfl) | (apply OQ.subN; exact rfl; exact rfl; exact (by (try simp only []); omega); exact (by (try simp only []); omega)) | (apply OQ.lssN; exact rfl; exact rfl)) rfl ?_ | refine JQ.q (by first | (apply OQ.move; exact rfl) | (apply OQ.assign; exact rfl) | (apply OQ.len; exact rfl; exact rfl) | (apply OQ.subN; exact rfl; exact rfl; exact (by (try simp only []); omega); exact (by (try simp only []); omega)) | (apply OQ.lssN; exact rfl; exact rfl)) rfl ?_ | refine JC.seq ?_ | refine JC.region ?_ | refine JC.block ?_ | refine JC.skip ?_ | refine JC.exit ?_ | refine JL.nil ?_ | refine JQ.nil ?_ | refine JQ.nil_tail ?_ | refine JE.next ?_ | refine JE.blk_normal ?_ | refine JE.then_exit ?_ | refine JE.blk_hit ?_ | refine JE.blk_miss rfl ?_ | refine JE.then_ret ?_ | refine JE.blk_ret ?_ | refine JC.label ?_ | refine JL.gon rfl rfl ?_ | refine JQ.gon rfl rfl ?_ | refine JL.gskip rfl rfl rfl rfl ?_ | refine JQ.gskip rfl rfl rfl rfl ?_)
      refine JC.quiet mixed (by kernel_rfl) ?_
      repeat (first | refine JL.q (by first | (apply OQ.slA; exact Tryd.underlying23; exact s5; exact rfl) | (apply OQ.snd (s := z); exact Tryd.underlying33; exact s5; exact rfl; exact rfl; exact hle) | (apply OQ.callx; exact goes_same; exact rfl; exact (fun w' hw' => same_b (a := ⟨some ⟨b12, 0, none⟩, 32, g⟩) (b := z.snd (z.l.length - 32)) (c := false) (by simp [Sl8.v, hgl]) rfl (row_ok hw' .here rfl (Nat.le_of_eq hgl)) ((hz.holds hw' rfl).snd _ hle) (show g.length < 4611686018427387904 by omega) (decide_eq_false hg))) | (apply OQ.not; exact rfl) | (apply OQ.move; exact rfl) | (apply OQ.assign; exact rfl) | (apply OQ.len; exact rfl; exact rfl) | (apply OQ.subN; exact rfl; exact rfl; exact (by (try simp only []); omega); exact (by (try simp only []); omega)) | (apply OQ.lssN; exact rfl; exact rfl)) rfl ?_ | refine JQ.q (by first | (apply OQ.slA; exact Tryd.underlying23; exact s5; exact rfl) | (apply OQ.snd (s := z); exact Tryd.underlying33; exact s5; exact rfl; exact rfl; exact hle) | (apply OQ.callx; exact goes_same; exact rfl; exact (fun w' hw' => same_b (a := ⟨some ⟨b12, 0, none⟩, 32, g⟩) (b := z.snd (z.l.length - 32)) (c := false) (by simp [Sl8.v, hgl]) rfl (row_ok hw' .here rfl (Nat.le_of_eq hgl)) ((hz.holds hw' rfl).snd _ hle) (show g.length < 4611686018427387904 by omega) (decide_eq_false hg))) | (apply OQ.not; exact rfl) | (apply OQ.move; exact rfl) | (apply OQ.assign; exact rfl) | (apply OQ.len; exact rfl; exact rfl) | (apply OQ.subN; exact rfl; exact rfl; exact (by (try simp only []); omega); exact (by (try simp only []); omega)) | (apply OQ.lssN; exact rfl; exact rfl)) rfl ?_ | refine JC.seq ?_ | refine JC.region ?_ | refine JC.block ?_ | refine JC.skip ?_ | refine JC.exit ?_ | refine JL.nil ?_ | refine JQ.nil ?_ | refine JQ.nil_tail ?_ | refine JE.next ?_ | refine JE.blk_normal ?_ | refine JE.then_exit ?_ | refine JE.blk_hit ?_ | refine JE.blk_miss rfl ?_ | refine JE.then_ret ?_ | refine JE.blk_ret ?_ | refine JC.label ?_ | refine JL.gon rfl rfl ?_ | refine JQ.gon rfl rfl ?_ | refine JL.gskip rfl rfl rfl rfl ?_ | refine JQ.gskip rfl rfl rfl rfl ?_)
      refine JC.cond_true rfl rfl ?_
      repeat (first | refine JL.q (by first | (apply OQ.move; exact rfl) | (apply OQ.assign; exact rfl) | (apply OQ.len; exact rfl; exact rfl) | (apply OQ.subN; exact rfl; exact rfl; exact (by (try simp only []); omega); exact (by (try simp only []); omega)) | (apply OQ.lssN; exact rfl; exact rfl)) rfl ?_ | refine JQ.q (by first | (apply OQ.move; exact rfl) | (apply OQ.assign; exact rfl) | (apply OQ.len; exact rfl; exact rfl) | (apply OQ.subN; exact rfl; exact rfl; exact (by (try simp only []); omega); exact (by (try simp only []); omega)) | (apply OQ.lssN; exact rfl; exact rfl)) rfl ?_ | refine JC.seq ?_ | refine JC.region ?_ | refine JC.block ?_ | refine JC.skip ?_ | refine JC.exit ?_ | refine JL.nil ?_ | refine JQ.nil ?_ | refine JQ.nil_tail ?_ | refine JE.next ?_ | refine JE.blk_normal ?_ | refine JE.then_exit ?_ | refine JE.blk_hit ?_ | refine JE.blk_miss rfl ?_ | refine JE.then_ret ?_ | refine JE.blk_ret ?_ | refine JC.label ?_ | refine JL.gon rfl rfl ?_ | refine JQ.gon rfl rfl ?_ | refine JL.gskip rfl rfl rfl rfl ?_ | refine JQ.gskip rfl rfl rfl rfl ?_)
      refine JC.ret ?_
      repeat (first | refine JL.q (by first | (apply OQ.move; exact rfl) | (apply OQ.assign; exact rfl) | (apply OQ.len; exact rfl; exact rfl) | (apply OQ.subN; exact rfl; exact rfl; exact (by (try simp only []); omega); exact (by (try simp only []); omega)) | (apply OQ.lssN; exact rfl; exact rfl)) rfl ?_ | refine JQ.q (by first | (apply OQ.move; exact rfl) | (apply OQ.assign; exact rfl) | (apply OQ.len; exact rfl; exact rfl) | (apply OQ.subN; exact rfl; exact rfl; exact (by (try simp only []); omega); exact (by (try simp only []); omega)) | (apply OQ.lssN; exact rfl; exact rfl)) rfl ?_ | refine JC.seq ?_ | refine JC.region ?_ | refine JC.block ?_ | refine JC.skip ?_ | refine JC.exit ?_ | refine JL.nil ?_ | refine JQ.nil ?_ | refine JQ.nil_tail ?_ | refine JE.next ?_ | refine JE.blk_normal ?_ | refine JE.then_exit ?_ | refine JE.blk_hit ?_ | refine JE.blk_miss rfl ?_ | refine JE.then_ret ?_ | refine JE.blk_ret ?_ | refine JC.label ?_ | refine JL.gon rfl rfl ?_ | refine JQ.gon rfl rfl ?_ | refine JL.gskip rfl rfl rfl rfl ?_ | refine JQ.gskip rfl rfl rfl rfl ?_)
      exact JE.ret2 rfl (RV.tmp rfl) (RV.tmp rfl) fun w' hw => ⟨nilS, rfl, ⟨rfl, rfl, fun _ => rfl⟩, hw.weak (Less.nil _)⟩
end Go.Proofs.YtheemnpfnefbmaaDoor
