/-
  Of no statement by itself: the texts RatF, RatG, LinB, RatH, SealC, SealO, RatI, RatJ, RatR, RatT, RatY, RatU, RatV, RatFp, RatFw, Plain, FraR, CatB in one.
  Conditions: each theorem's own.
-/
import Derived.Test.YtbhlcnimjoppeaaDoorGd
import Derived.Laws.Cover3
import Derived.Laws.StructEq
import Derived.Test.YtbhlcnimjoppeaaDoorProg
import Derived.Test.YtbhlcnimjoppeaaDoorRows
import Derived.ProofKit
import Derived.OpenShut
import Derived.Below
import Derived.Stop.Joined
import Derived.ChangeMaps5
import Derived.Test.YtbhlcnimjoppeaaDoorTie
import Derived.SevenTiedAt
import Derived.LaidMore
import Derived.Lay
import Derived.Lib.LaidTab
import Derived.Test.YtbhlcnimjoppeaaDoorCards
set_option linter.unusedSimpArgs false
set_option linter.unusedVariables false
/-
  Of no statement by itself: what the landed ratchet's newChain gives.
  Conditions: each theorem's own.
-/
namespace Go.Proofs.YtbhlcnimjoppeaaDoor
set_option maxRecDepth 10000
open Sl Sha Str Crv Rtc
open Dsk (Bk)
/-- a session of one's own that a new chain is to be put on -/
structure MidS (o : Option Ses) (ch fresh : Bk) where
  q : Acc
  s : Ses
  ok : s.ok
  nil : q = none → s.kept = []
  is : o = some (turned s ch fresh)
theorem JL.lvO {n : Nat} {w0 : World} {S : List Nat} {ops : Array Oper} {Q : Exit → Act → World → Prop} {l : List Oper} {E : Env} {M : List Ent} {d : Nat} {ty : TypeId} {pos : String} {aft : Array Edge} {x1 x2 : Operand} {ats : Array TypeId} {b : Nat} {q : Acc} {s : Ses} {to : Nat} (hs : s.ok) (hq : q = none → s.kept = []) (hk : s.kept.length ≤ 2000) (hto : to ≤ 2147483647) (ht : s.taken ≤ 2147483648) (hT : Tb S w0) (e1 : ev E x1 = some (Pt b 0)) (e2 : ev E x2 = some (N to)) (hd : Nat.blt d n = true)
    (kk : ∀ r : LvR (leave s to), JL Tryd.prog n w0 S ops Q l ((d, N r.code) :: E) (seE b r.q r.s ++ M)) : JL Tryd.prog n w0 S ops Q (⟨some d, .call ⟨.value (.func 96), #[x1, x2], ats⟩, ty, pos, aft, none⟩ :: l) E (seE b q s ++ M) :=
  JL.callV (ι := LvR (leave s to)) (xs := [x1, x2]) (vs := [Pt b 0, N to]) (fun r => N r.code) (fun r => seE b r.q r.s) goes_lvO (by simp [evs, e1, e2]) hd (seE_wr _ _ _) (fun _ => seE_wr _ _ _)
    (fun w' hw' hx' => lvO_any b q s hs hq hk to hto ht w' (hT.own hw' (seE_wr _ _ _)) hx') kk
theorem goes_newC : Goes Tryd.prog 95 := ⟨_, Tryd.func95, rfl, by kernel_rfl⟩
set_option maxHeartbeats 32000000 in
theorem newC_any (b : Nat) (q0 : Acc) (s0 : Ses) (hs0 : s0.ok) (hq0 : q0 = none → s0.kept = []) (hk0 : s0.kept.length ≤ 2000) (h : Hd) (hh : h.chain.length = 32) (hpv : h.prev ≤ 2147483647) (fresh : Bk) (hf : fresh.length = 32) (ht0 : s0.taken ≤ 2147483648) (w : World) (hT : Tb (keys (seE b q0 s0)) w) (h0 : Holds w (keys (seE b q0 s0)) (seE b q0 s0) w) :
    Calls Tryd.prog 95 [Pt b 0, .agg (hdc h).toArray, .agg (fresh.map U8).toArray].toArray w fun e w' => ∃ r : LvR (newc s0 h fresh), e = .returned (N r.code) ∧ Holds w (keys (seE b q0 s0)) (seE b r.q r.s) w' := by
  generalize keys (seE b q0 s0) = S at h0 hT ⊢
  have hlc : (h.chain.map U8).length = 32 := by rw [List.length_map]; exact hh
  have hlf : (fresh.map U8).length = 32 := by rw [List.length_map]; exact hf
  have hl34 := hdc_len hh
  refine enter (n := 93) Tryd.func95 rfl rfl rfl h0 ?_
  repeat (first | refine JC.seq ?_ | refine JC.region ?_)
  refine JL.box (r := hdc h) rfl rfl rfl fun b4 _ => ?_
  refine JL.box (r := fresh.map U8) rfl rfl rfl fun b5 _ => ?_
  repeat (refine JL.q (by (apply OQ.assign; exact rfl)) rfl ?_)
  refine JL.nil (JE.next ?_)
  refine JC.mid (ι := MidS (newc s0 h fresh) h.chain fresh) (fun _ => [(0, Pt b 0), (4, Pt b4 0), (5, Pt b5 0), (6, N 0)]) (fun z => ⟨b5, Row 23 (fresh.map U8), true⟩ :: ⟨b4, Row 62 (hdc h), true⟩ :: seE b z.q z.s) (fun _ => True) ?_ ?_
  · unfold seE
    cases htk : s0.takes
    · have hld : ∀ o, Row 26 (sec s0 (accV q0 s0.kept.length)) o → cellAt o 97 = some (.bool false) := by rw [← htk]; exact Row.cell (sec_takes hs0 _)
      repeat (first | refine JL.q (by first | (apply OQ.load; exact boolCr; exact rfl; exact (.there (.there .here)); exact hld) | (apply OQ.move; exact rfl) | (apply OQ.nilc; exact rfl) | (apply OQ.fld; exact rfl; exact rfl; exact rfl; exact (by decide); exact rfl)) rfl ?_ | refine JC.seq ?_ | refine JC.region ?_ | refine JL.nil ?_ | refine JE.next ?_)
      refine JC.cond_false rfl rfl ?_
      repeat (refine JC.skip ?_)
      exact JE.mid ⟨q0, s0, hs0, hq0, by rw [newc, if_neg (by rw [htk]; decide)]⟩ trivial (by repeat (first | exact SubE.nil | refine SubE.cons _ _ _ rfl ?_)) (Less.refl _)
    · have hld : ∀ o, Row 26 (sec s0 (accV q0 s0.kept.length)) o → cellAt o 97 = some (.bool true) := by rw [← htk]; exact Row.cell (sec_takes hs0 _)
      have hpr : ∀ o, Row 62 (hdc h) o → cellAt o 32 = some (N h.prev) := Row.cell (hdc_prev hh)
      repeat (first | refine JL.q (by first | (apply OQ.load; exact boolCr; exact rfl; exact (.there (.there .here)); exact hld) | (apply OQ.move; exact rfl) | (apply OQ.nilc; exact rfl) | (apply OQ.fld; exact rfl; exact rfl; exact rfl; exact (by decide); exact rfl)) rfl ?_ | refine JC.seq ?_ | refine JC.region ?_ | refine JL.nil ?_ | refine JE.next ?_)
      refine JC.cond_true rfl rfl ?_
      repeat (first | refine JL.q (by first | (apply OQ.load; exact intCr; exact rfl; exact (.there .here); exact hpr) | (apply OQ.move; exact rfl) | (apply OQ.fld; exact rfl; exact rfl; exact rfl; exact (by decide); exact rfl)) rfl ?_ | refine JC.seq ?_ | refine JC.region ?_)
      refine JL.permS (M' := seE b q0 s0 ++ [⟨b5, Row 23 (fresh.map U8), true⟩, ⟨b4, Row 62 (hdc h), true⟩]) (by exact List.perm_append_comm (l₁ := [_, _])) ?_
      refine JL.lvO hs0 hq0 hk0 hpv ht0 hT rfl rfl rfl fun r => ?_
      obtain ⟨q, s, cd, hs, hq, his⟩ := r
      dsimp only
      rcases his with ⟨hn, rfl⟩ | ⟨hn, rfl⟩
      · repeat (first | refine JL.q (by first | (apply OQ.neB (a := 12) (b := 0) (c := false); exact rfl; exact rfl; exact rfl) | (apply OQ.move; exact rfl) | (apply OQ.assign; exact rfl)) rfl ?_ | refine JC.seq ?_ | refine JC.region ?_ | refine JL.nil ?_ | refine JE.next ?_)
        refine JC.cond_true rfl rfl ?_
        repeat (first | refine JL.q (by first | (apply OQ.move; exact rfl) | (apply OQ.assign; exact rfl)) rfl ?_ | refine JC.seq ?_ | refine JC.region ?_ | refine JL.nil ?_ | refine JE.next ?_)
        refine JC.ret ?_
        repeat (refine JE.then_ret ?_)
        exact JE.ret1 rfl (RV.tmp rfl) fun w' hw => ⟨⟨q, s, 12, hs, hq, .inl ⟨by rw [newc, if_pos htk, hn]; rfl, rfl⟩⟩, rfl, hw.weak (less_pre _ _)⟩
      · repeat (first | refine JL.q (by first | (apply OQ.neB (a := 0) (b := 0) (c := true); exact rfl; exact rfl; exact rfl) | (apply OQ.move; exact rfl) | (apply OQ.assign; exact rfl)) rfl ?_ | refine JC.seq ?_ | refine JC.region ?_ | refine JL.nil ?_ | refine JE.next ?_)
        refine JC.cond_false rfl rfl ?_
        repeat (refine JC.skip ?_)
        refine JE.perm (M' := ⟨b5, Row 23 (fresh.map U8), true⟩ :: ⟨b4, Row 62 (hdc h), true⟩ :: seE b q s) (by exact List.perm_append_comm (l₂ := [_, _])) ?_
        exact JE.mid ⟨q, s, hs, hq, by rw [newc, if_pos htk, hn]; rfl⟩ trivial (by repeat (first | exact SubE.nil | refine SubE.cons _ _ _ rfl ?_)) (Less.refl _)
  rintro ⟨q, s, hs, hq, his⟩ _
  dsimp only
  obtain ⟨ch, hce⟩ : ∃ ch, h.chain = ch := ⟨_, rfl⟩
  have hcc := hdc_chain hh
  rw [hce] at hcc hh his hlc
  -- the steps
  obtain ⟨kv, hkv⟩ : ∃ kv, accV q s.kept.length = kv := ⟨_, rfl⟩
  unfold seE
  rw [hkv]
  have hlm := multB_l s.own ch
  have hla := turnA_len s.root (multB s.own ch)
  have hlt := turnC_len s.root (multB s.own ch)
  have hlm2 := multB_l fresh ch
  have hla2 := turnA_len (turnA s.root (multB s.own ch)) (multB fresh ch)
  have hlt2 := turnC_len (turnA s.root (multB s.own ch)) (multB fresh ch)
  have cM := fun (w' : World) => cmult_any s.own ch hs.own hh w'
  have cM2 := fun (w' : World) => cmult_any fresh ch hf hh w'
  have cT := fun (w' : World) (hG : GOk w') => rtn_any s.root (multB s.own ch) hs.root hlm w' hG
  have cT2 := fun (w' : World) (hG : GOk w') => rtn_any (turnA s.root (multB s.own ch)) (multB fresh ch) hla hlm2 w' hG
  have hfin : turned s ch fresh = ⟨turnA (turnA s.root (multB s.own ch)) (multB fresh ch), fresh, ch, true, true, turnC (turnA s.root (multB s.own ch)) (multB fresh ch), turnC s.root (multB s.own ch), 0, 0, s.sent, s.kept⟩ := rfl
  rw [hfin] at his
  clear hfin
  generalize turnC (turnA s.root (multB s.own ch)) (multB fresh ch) = c2 at *
  generalize turnA (turnA s.root (multB s.own ch)) (multB fresh ch) = a2 at *
  generalize turnC s.root (multB s.own ch) = c1 at *
  generalize turnA s.root (multB s.own ch) = a1 at *
  generalize multB s.own ch = m1 at *
  generalize multB fresh ch = m2 at *
  have l1 : (a1.map U8).length = 32 := by rw [List.length_map]; exact hla
  have l2 : (c1.map U8).length = 32 := by rw [List.length_map]; exact hlt
  have l3 : (a2.map U8).length = 32 := by rw [List.length_map]; exact hla2
  have l4 : (c2.map U8).length = 32 := by rw [List.length_map]; exact hlt2
  have l5 : (s.root.map U8).length = 32 := by rw [List.length_map]; exact hs.root
  have l6 : (s.own.map U8).length = 32 := by rw [List.length_map]; exact hs.own
  have k1 : ({ s with other := ch } : Ses).ok := ⟨hs.root, hs.own, hh, hs.send, hs.take, hs.kept⟩
  have p1 := sec_put_other hs kv ch hh
  obtain ⟨s1, hs1⟩ : ∃ s1, ({ s with other := ch } : Ses) = s1 := ⟨_, rfl⟩
  have g1 : s1.root = s.root ∧ s1.own = s.own ∧ s1.other = ch := by rw [← hs1]; exact ⟨rfl, rfl, rfl⟩
  rw [hs1] at k1 p1
  have k2 : ({ s1 with root := a1 } : Ses).ok := ⟨hla, k1.own, k1.other, k1.send, k1.take, k1.kept⟩
  have p2 := sec_put_root k1 kv a1 hla
  obtain ⟨s2, hs2⟩ : ∃ s2, ({ s1 with root := a1 } : Ses) = s2 := ⟨_, rfl⟩
  rw [hs2] at k2 p2
  have k3 : ({ s2 with take := c1 } : Ses).ok := ⟨k2.root, k2.own, k2.other, k2.send, hlt, k2.kept⟩
  have p3 := sec_put_take k2 kv c1 hlt
  obtain ⟨s3, hs3⟩ : ∃ s3, ({ s2 with take := c1 } : Ses) = s3 := ⟨_, rfl⟩
  rw [hs3] at k3 p3
  have k4 : ({ s3 with own := fresh } : Ses).ok := ⟨k3.root, hf, k3.other, k3.send, k3.take, k3.kept⟩
  have p4 := sec_put_own k3 kv fresh hf
  obtain ⟨s4, hs4⟩ : ∃ s4, ({ s3 with own := fresh } : Ses) = s4 := ⟨_, rfl⟩
  have g4 : s4.root = a1 ∧ s4.own = fresh ∧ s4.other = ch := by rw [← hs4, ← hs3, ← hs2]; exact ⟨rfl, rfl, g1.2.2⟩
  rw [hs4] at k4 p4
  have k5 : ({ s4 with root := a2 } : Ses).ok := ⟨hla2, k4.own, k4.other, k4.send, k4.take, k4.kept⟩
  have p5 := sec_put_root k4 kv a2 hla2
  obtain ⟨s5, hs5⟩ : ∃ s5, ({ s4 with root := a2 } : Ses) = s5 := ⟨_, rfl⟩
  rw [hs5] at k5 p5
  have k6 : ({ s5 with send := c2 } : Ses).ok := ⟨k5.root, k5.own, k5.other, hlt2, k5.take, k5.kept⟩
  have p6 := sec_put_send k5 kv c2 hlt2
  obtain ⟨s6, hs6⟩ : ∃ s6, ({ s5 with send := c2 } : Ses) = s6 := ⟨_, rfl⟩
  have g6 : s6.sent = s.sent := by rw [← hs6, ← hs5, ← hs4, ← hs3, ← hs2, ← hs1]
  rw [hs6] at k6 p6
  have k7 : ({ s6 with takes := true } : Ses).ok := ⟨k6.root, k6.own, k6.other, k6.send, k6.take, k6.kept⟩
  have p7 := sec_set_takes k6 kv true
  obtain ⟨s7, hs7⟩ : ∃ s7, ({ s6 with takes := true } : Ses) = s7 := ⟨_, rfl⟩
  rw [hs7] at k7 p7
  have k8 : ({ s7 with sends := true } : Ses).ok := ⟨k7.root, k7.own, k7.other, k7.send, k7.take, k7.kept⟩
  have p8 := sec_set_sends k7 kv true
  obtain ⟨s8, hs8⟩ : ∃ s8, ({ s7 with sends := true } : Ses) = s8 := ⟨_, rfl⟩
  have g8 : s8.sent = s.sent := by rw [← hs8, ← hs7]; exact g6
  rw [hs8] at k8 p8
  have k9 : ({ s8 with prev := s.sent } : Ses).ok := ⟨k8.root, k8.own, k8.other, k8.send, k8.take, k8.kept⟩
  have p9 := sec_set_prev k8 kv s.sent
  obtain ⟨s9, hs9⟩ : ∃ s9, ({ s8 with prev := s.sent } : Ses) = s9 := ⟨_, rfl⟩
  rw [hs9] at k9 p9
  have k10 : ({ s9 with sent := 0 } : Ses).ok := ⟨k9.root, k9.own, k9.other, k9.send, k9.take, k9.kept⟩
  have p10 := sec_set_sent k9 kv 0
  obtain ⟨s10, hs10⟩ : ∃ s10, ({ s9 with sent := 0 } : Ses) = s10 := ⟨_, rfl⟩
  rw [hs10] at k10 p10
  have k11 : ({ s10 with taken := 0 } : Ses).ok := ⟨k10.root, k10.own, k10.other, k10.send, k10.take, k10.kept⟩
  have p11 := sec_set_taken k10 kv 0
  have hend : (⟨a2, fresh, ch, true, true, c2, c1, 0, 0, s.sent, s.kept⟩ : Ses) = { s10 with taken := 0 } := by rw [← hs10, ← hs9, ← hs8, ← hs7, ← hs6, ← hs5, ← hs4, ← hs3, ← hs2, ← hs1]
  have hkl : ({ s10 with taken := 0 } : Ses).kept = s.kept := by rw [← hend]
  have hn0 := sec_len hs kv
  have hn1 := sec_len k1 kv
  have hn2 := sec_len k2 kv
  have hn3 := sec_len k3 kv
  have hn4 := sec_len k4 kv
  have hn5 := sec_len k5 kv
  have hn6 := sec_len k6 kv
  have hn7 := sec_len k7 kv
  have hn8 := sec_len k8 kv
  have hn9 := sec_len k9 kv
  have hn10 := sec_len k10 kv
  have r1 := sec_root k1 kv
  have o1 := sec_own k1 kv
  have t1 := sec_other k1 kv
  rw [g1.1] at r1
  rw [g1.2.1] at o1
  rw [g1.2.2] at t1
  have r4 := sec_root k4 kv
  have o4 := sec_own k4 kv
  have t4 := sec_other k4 kv
  rw [g4.1] at r4
  rw [g4.2.1] at o4
  rw [g4.2.2] at t4
  have e8 := sec_sent k8 kv
  rw [g8] at e8
  generalize hs11 : ({ s10 with taken := 0 } : Ses) = s11 at *
  clear hs1 hs2 hs3 hs4 hs5 hs6 hs7 hs8 hs9 hs10 g1 g4 g6 g8
  repeat (first | refine JL.q (by first | (apply OQ.load_agg (cs := ch.map U8); exact k32a; exact k32s; exact rfl; exact (.there .here); exact hlc; exact (Row.cells hcc)) | (apply OQ.move; exact rfl) | (apply OQ.nilc; exact rfl) | (apply OQ.fld; exact rfl; exact rfl; exact rfl; exact (by decide); exact rfl)) rfl ?_ | refine JC.seq ?_ | refine JC.region ?_)
  refine JL.store_part (r := sec s kv) (r' := sec s1 kv) k32s rfl rfl hlc (Y_cell _) (.there (.there .here)) (by rw [hn0, hlc]; decide) p1 ?_
  repeat (first | refine JC.seq ?_ | refine JL.nil ?_ | refine JE.next ?_)
  let vs : Nat → Nat → Value := fun j y => match j with
    | 0 => Pt b 0
    | 1 => Pt b 0
    | 2 => Pt b 0
    | 3 => Pt b 0
    | 4 => Pt b 0
    | 5 => .agg (s.root.map U8).toArray
    | 6 => Pt b 0
    | 7 => Pt b 0
    | 8 => Pt b 32
    | 9 => .agg (s.own.map U8).toArray
    | 10 => Pt b 0
    | 11 => Pt b 0
    | 12 => Pt b 64
    | 13 => .agg (ch.map U8).toArray
    | 14 => .agg (m1.map U8).toArray
    | 15 => .tuple #[.agg (a1.map U8).toArray, .agg (c1.map U8).toArray]
    | 16 => .tuple #[.agg (a1.map U8).toArray, .agg (c1.map U8).toArray]
    | 17 => .agg (a1.map U8).toArray
    | 18 => .agg (c1.map U8).toArray
    | 19 => Pt b 0
    | 20 => Pt b 0
    | 22 => Pt b 0
    | 23 => Pt b 130
    | _ => N 0
  let Ms : Nat → Nat → List Ent := fun j y => match j with
    | 21 => [⟨b, Row 26 (sec s2 kv), true⟩]
    | 24 => [⟨b, Row 26 (sec s3 kv), true⟩]
    | 25 => [⟨b5, Row 23 (fresh.map U8), true⟩]
    | 26 => [⟨b4, Row 62 (hdc h), true⟩]
    | 27 => [⟨b, Row 26 (sec s1 kv), true⟩]
    | 28 => kpE q s.kept
    | _ => []
  refine JC.grow (g := ⟨[(0, Pt b 0), (4, Pt b4 0), (5, Pt b5 0)], 29, vs, Ms, (fun j => match j with | 3 => [(2, 27)] | 4 => [(3, 28)] | 5 => [(4, 29)] | 7 => [(6, 31)] | 8 => [(7, 32)] | 9 => [(8, 33)] | 11 => [(10, 35)] | 12 => [(11, 36)] | 13 => [(12, 37)] | 14 => [(9, 34), (13, 38)] | 15 => [(5, 30), (14, 39)] | 16 => [(15, 40)] | 17 => [(16, 24)] | 18 => [(16, 24)] | 19 => [(0, 25)] | 20 => [(19, 43)] | 21 => [(20, 44), (17, 41)] | 22 => [(1, 26)] | 23 => [(22, 45)] | 24 => [(23, 46), (18, 42)] | _ => []), (fun j => match j with | 5 => [27] | 9 => [27] | 13 => [27] | 21 => [27] | 24 => [21] | _ => []), (fun j => match j with | 21 => [27] | 24 => [21] | _ => []), (fun j => match j with | _ => none)⟩) [] [25, 26, 24, 28] mixT (by repeat (first | exact SubE.nil | refine SubE.cons _ _ _ rfl ?_)) ?_ (by kernel_rfl) (by kernel_rfl) (by kernel_rfl) ?_ ?_
  · show Less ([_] ++ ([_] ++ ([_] ++ (kpE q s.kept ++ [])))) _; rw [List.append_nil]; exact Less.refl _
  · refine ⟨?_, ?_, ?_, ?_, ?_, ?_, ?_, ?_, ?_, ?_, ?_, ?_, ?_, ?_, ?_, ?_, ?_, ?_, ?_, ?_, ?_, ?_, ?_, ?_, ?_, trivial⟩
    · (intro xx EF MF Q kk; (try refine JL.gon rfl rfl ?_); exact JL.q (OQ.move rfl) rfl (JL.nil (kk default nofun)))
    · (intro xx EF MF Q kk; (try refine JL.gon rfl rfl ?_); exact JL.q (OQ.move rfl) rfl (JL.nil (kk default nofun)))
    · (intro xx EF MF Q kk; (try refine JL.gon rfl rfl ?_); exact JL.q (OQ.move rfl) rfl (JL.nil (kk default nofun)))
    · (intro xx EF MF Q kk; (try refine JL.gon rfl rfl ?_); exact JL.q (OQ.nilc rfl) rfl (JL.nil (kk default nofun)))
    · (intro xx EF MF Q kk; (try refine JL.gon rfl rfl ?_); exact JL.q (OQ.fld rfl rfl rfl (by decide) rfl) rfl (JL.nil (kk default nofun)))
    · (intro xx EF MF Q kk; (try refine JL.gon rfl rfl ?_); exact JL.q (OQ.load_agg (cs := s.root.map U8) k32a k32s rfl .here l5 (Row.cells r1)) rfl (JL.nil (kk default nofun)))
    · (intro xx EF MF Q kk; (try refine JL.gon rfl rfl ?_); exact JL.q (OQ.move rfl) rfl (JL.nil (kk default nofun)))
    · (intro xx EF MF Q kk; (try refine JL.gon rfl rfl ?_); exact JL.q (OQ.nilc rfl) rfl (JL.nil (kk default nofun)))
    · (intro xx EF MF Q kk; (try refine JL.gon rfl rfl ?_); exact JL.q (OQ.fld rfl rfl rfl (by decide) rfl) rfl (JL.nil (kk default nofun)))
    · (intro xx EF MF Q kk; (try refine JL.gon rfl rfl ?_); exact JL.q (OQ.load_agg (cs := s.own.map U8) k32a k32s rfl .here l6 (Row.cells o1)) rfl (JL.nil (kk default nofun)))
    · (intro xx EF MF Q kk; (try refine JL.gon rfl rfl ?_); exact JL.q (OQ.move rfl) rfl (JL.nil (kk default nofun)))
    · (intro xx EF MF Q kk; (try refine JL.gon rfl rfl ?_); exact JL.q (OQ.nilc rfl) rfl (JL.nil (kk default nofun)))
    · (intro xx EF MF Q kk; (try refine JL.gon rfl rfl ?_); exact JL.q (OQ.fld rfl rfl rfl (by decide) rfl) rfl (JL.nil (kk default nofun)))
    · (intro xx EF MF Q kk; (try refine JL.gon rfl rfl ?_); exact JL.q (OQ.load_agg (cs := ch.map U8) k32a k32s rfl .here hlc (Row.cells t1)) rfl (JL.nil (kk default nofun)))
    · (intro xx EF MF Q kk; (try refine JL.gon rfl rfl ?_); exact JL.q (OQ.callx (vs := [.agg (s.own.map U8).toArray, .agg (ch.map U8).toArray]) goes_cmult rfl fun w' _ => cM w') rfl (JL.nil (kk default nofun)))
    · (intro xx EF MF Q kk; (try refine JL.gon rfl rfl ?_); exact JL.q (OQ.callx (vs := [.agg (s.root.map U8).toArray, .agg (m1.map U8).toArray]) goes_rtn rfl fun w' hw' => cT w' (hT.g hw')) rfl (JL.nil (kk default nofun)))
    · (intro xx EF MF Q kk; (try refine JL.gon rfl rfl ?_); exact JL.q (OQ.move rfl) rfl (JL.nil (kk default nofun)))
    · (intro xx EF MF Q kk; (try refine JL.gon rfl rfl ?_); exact JL.q (OQ.extract rfl rfl) rfl (JL.nil (kk default nofun)))
    · (intro xx EF MF Q kk; (try refine JL.gon rfl rfl ?_); exact JL.q (OQ.extract rfl rfl) rfl (JL.nil (kk default nofun)))
    · (intro xx EF MF Q kk; (try refine JL.gon rfl rfl ?_); exact JL.q (OQ.nilc rfl) rfl (JL.nil (kk default nofun)))
    · (intro xx EF MF Q kk; (try refine JL.gon rfl rfl ?_); exact JL.q (OQ.fld rfl rfl rfl (by decide) rfl) rfl (JL.nil (kk default nofun)))
    · (intro xx EF MF Q kk; exact JL.store_part (r := sec s1 kv) (r' := sec s2 kv) k32s rfl rfl l1 (Y_cell _) .here (by rw [hn1, l1]; decide) p2 (JL.nil (kk default nofun)))
    · (intro xx EF MF Q kk; (try refine JL.gon rfl rfl ?_); exact JL.q (OQ.nilc rfl) rfl (JL.nil (kk default nofun)))
    · (intro xx EF MF Q kk; (try refine JL.gon rfl rfl ?_); exact JL.q (OQ.fld rfl rfl rfl (by decide) rfl) rfl (JL.nil (kk default nofun)))
    · (intro xx EF MF Q kk; exact JL.store_part (r := sec s2 kv) (r' := sec s3 kv) k32s rfl rfl l2 (Y_cell _) .here (by rw [hn2, l2]; decide) p3 (JL.nil (kk default nofun)))
  · intro xx hx
    show JE _ _ _ _ _ [(0, Pt b 0), (4, Pt b4 0), (5, Pt b5 0)] ([⟨b5, Row 23 (fresh.map U8), true⟩] ++ ([⟨b4, Row 62 (hdc h), true⟩] ++ ([⟨b, Row 26 (sec s3 kv), true⟩] ++ (kpE q s.kept ++ []))))
    rw [List.append_nil]
    clear hx xx vs Ms
    repeat (first | refine JL.q (by first | (apply OQ.load_agg (cs := fresh.map U8); exact k32a; exact k32s; exact rfl; exact .here; exact hlf; exact Row.all) | (apply OQ.move; exact rfl) | (apply OQ.nilc; exact rfl) | (apply OQ.fld; exact rfl; exact rfl; exact rfl; exact (by decide); exact rfl)) rfl ?_ | refine JC.seq ?_ | refine JC.region ?_ | refine JE.next ?_)
    refine JL.store_part (r := sec s3 kv) (r' := sec s4 kv) k32s rfl rfl hlf (Y_cell _) (.there (.there .here)) (by rw [hn3, hlf]; decide) p4 ?_
    repeat (first | refine JC.seq ?_ | refine JL.nil ?_ | refine JE.next ?_)
    let vs : Nat → Nat → Value := fun j y => match j with
      | 0 => Pt b 0
      | 1 => Pt b 0
      | 2 => Pt b 0
      | 3 => Pt b 0
      | 4 => Pt b 0
      | 5 => .agg (a1.map U8).toArray
      | 6 => Pt b 0
      | 7 => Pt b 0
      | 8 => Pt b 32
      | 9 => .agg (fresh.map U8).toArray
      | 10 => Pt b 0
      | 11 => Pt b 0
      | 12 => Pt b 64
      | 13 => .agg (ch.map U8).toArray
      | 14 => .agg (m2.map U8).toArray
      | 15 => .tuple #[.agg (a2.map U8).toArray, .agg (c2.map U8).toArray]
      | 16 => .tuple #[.agg (a2.map U8).toArray, .agg (c2.map U8).toArray]
      | 17 => .agg (a2.map U8).toArray
      | 18 => .agg (c2.map U8).toArray
      | 19 => Pt b 0
      | 20 => Pt b 0
      | 22 => Pt b 0
      | 23 => Pt b 98
      | _ => N 0
    let Ms : Nat → Nat → List Ent := fun j y => match j with
      | 21 => [⟨b, Row 26 (sec s5 kv), true⟩]
      | 24 => [⟨b, Row 26 (sec s6 kv), true⟩]
      | 25 => [⟨b5, Row 23 (fresh.map U8), true⟩]
      | 26 => [⟨b4, Row 62 (hdc h), true⟩]
      | 27 => [⟨b, Row 26 (sec s4 kv), true⟩]
      | 28 => kpE q s.kept
      | _ => []
    refine JC.grow (g := ⟨[(0, Pt b 0), (4, Pt b4 0), (5, Pt b5 0)], 29, vs, Ms, (fun j => match j with | 3 => [(2, 54)] | 4 => [(3, 55)] | 5 => [(4, 56)] | 7 => [(6, 58)] | 8 => [(7, 59)] | 9 => [(8, 60)] | 11 => [(10, 62)] | 12 => [(11, 63)] | 13 => [(12, 64)] | 14 => [(9, 61), (13, 65)] | 15 => [(5, 57), (14, 66)] | 16 => [(15, 67)] | 17 => [(16, 51)] | 18 => [(16, 51)] | 19 => [(0, 52)] | 20 => [(19, 70)] | 21 => [(20, 71), (17, 68)] | 22 => [(1, 53)] | 23 => [(22, 72)] | 24 => [(23, 73), (18, 69)] | _ => []), (fun j => match j with | 5 => [27] | 9 => [27] | 13 => [27] | 21 => [27] | 24 => [21] | _ => []), (fun j => match j with | 21 => [27] | 24 => [21] | _ => []), (fun j => match j with | _ => none)⟩) [] [25, 26, 24, 28] mixT (by repeat (first | exact SubE.nil | refine SubE.cons _ _ _ rfl ?_)) ?_ (by kernel_rfl) (by kernel_rfl) (by kernel_rfl) ?_ ?_
    · show Less ([_] ++ ([_] ++ ([_] ++ (kpE q s.kept ++ [])))) _; rw [List.append_nil]; exact Less.refl _
    · refine ⟨?_, ?_, ?_, ?_, ?_, ?_, ?_, ?_, ?_, ?_, ?_, ?_, ?_, ?_, ?_, ?_, ?_, ?_, ?_, ?_, ?_, ?_, ?_, ?_, ?_, trivial⟩
      · (intro xx EF MF Q kk; (try refine JL.gon rfl rfl ?_); exact JL.q (OQ.move rfl) rfl (JL.nil (kk default nofun)))
      · (intro xx EF MF Q kk; (try refine JL.gon rfl rfl ?_); exact JL.q (OQ.move rfl) rfl (JL.nil (kk default nofun)))
      · (intro xx EF MF Q kk; (try refine JL.gon rfl rfl ?_); exact JL.q (OQ.move rfl) rfl (JL.nil (kk default nofun)))
      · (intro xx EF MF Q kk; (try refine JL.gon rfl rfl ?_); exact JL.q (OQ.nilc rfl) rfl (JL.nil (kk default nofun)))
      · (intro xx EF MF Q kk; (try refine JL.gon rfl rfl ?_); exact JL.q (OQ.fld rfl rfl rfl (by decide) rfl) rfl (JL.nil (kk default nofun)))
      · (intro xx EF MF Q kk; (try refine JL.gon rfl rfl ?_); exact JL.q (OQ.load_agg (cs := a1.map U8) k32a k32s rfl .here l1 (Row.cells r4)) rfl (JL.nil (kk default nofun)))
      · (intro xx EF MF Q kk; (try refine JL.gon rfl rfl ?_); exact JL.q (OQ.move rfl) rfl (JL.nil (kk default nofun)))
      · (intro xx EF MF Q kk; (try refine JL.gon rfl rfl ?_); exact JL.q (OQ.nilc rfl) rfl (JL.nil (kk default nofun)))
      · (intro xx EF MF Q kk; (try refine JL.gon rfl rfl ?_); exact JL.q (OQ.fld rfl rfl rfl (by decide) rfl) rfl (JL.nil (kk default nofun)))
      · (intro xx EF MF Q kk; (try refine JL.gon rfl rfl ?_); exact JL.q (OQ.load_agg (cs := fresh.map U8) k32a k32s rfl .here hlf (Row.cells o4)) rfl (JL.nil (kk default nofun)))
      · (intro xx EF MF Q kk; (try refine JL.gon rfl rfl ?_); exact JL.q (OQ.move rfl) rfl (JL.nil (kk default nofun)))
      · (intro xx EF MF Q kk; (try refine JL.gon rfl rfl ?_); exact JL.q (OQ.nilc rfl) rfl (JL.nil (kk default nofun)))
      · (intro xx EF MF Q kk; (try refine JL.gon rfl rfl ?_); exact JL.q (OQ.fld rfl rfl rfl (by decide) rfl) rfl (JL.nil (kk default nofun)))
      · (intro xx EF MF Q kk; (try refine JL.gon rfl rfl ?_); exact JL.q (OQ.load_agg (cs := ch.map U8) k32a k32s rfl .here hlc (Row.cells t4)) rfl (JL.nil (kk default nofun)))
      · (intro xx EF MF Q kk; (try refine JL.gon rfl rfl ?_); exact JL.q (OQ.callx (vs := [.agg (fresh.map U8).toArray, .agg (ch.map U8).toArray]) goes_cmult rfl fun w' _ => cM2 w') rfl (JL.nil (kk default nofun)))
      · (intro xx EF MF Q kk; (try refine JL.gon rfl rfl ?_); exact JL.q (OQ.callx (vs := [.agg (a1.map U8).toArray, .agg (m2.map U8).toArray]) goes_rtn rfl fun w' hw' => cT2 w' (hT.g hw')) rfl (JL.nil (kk default nofun)))
      · (intro xx EF MF Q kk; (try refine JL.gon rfl rfl ?_); exact JL.q (OQ.move rfl) rfl (JL.nil (kk default nofun)))
      · (intro xx EF MF Q kk; (try refine JL.gon rfl rfl ?_); exact JL.q (OQ.extract rfl rfl) rfl (JL.nil (kk default nofun)))
      · (intro xx EF MF Q kk; (try refine JL.gon rfl rfl ?_); exact JL.q (OQ.extract rfl rfl) rfl (JL.nil (kk default nofun)))
      · (intro xx EF MF Q kk; (try refine JL.gon rfl rfl ?_); exact JL.q (OQ.nilc rfl) rfl (JL.nil (kk default nofun)))
      · (intro xx EF MF Q kk; (try refine JL.gon rfl rfl ?_); exact JL.q (OQ.fld rfl rfl rfl (by decide) rfl) rfl (JL.nil (kk default nofun)))
      · (intro xx EF MF Q kk; exact JL.store_part (r := sec s4 kv) (r' := sec s5 kv) k32s rfl rfl l3 (Y_cell _) .here (by rw [hn4, l3]; decide) p5 (JL.nil (kk default nofun)))
      · (intro xx EF MF Q kk; (try refine JL.gon rfl rfl ?_); exact JL.q (OQ.nilc rfl) rfl (JL.nil (kk default nofun)))
      · (intro xx EF MF Q kk; (try refine JL.gon rfl rfl ?_); exact JL.q (OQ.fld rfl rfl rfl (by decide) rfl) rfl (JL.nil (kk default nofun)))
      · (intro xx EF MF Q kk; exact JL.store_part (r := sec s5 kv) (r' := sec s6 kv) k32s rfl rfl l4 (Y_cell _) .here (by rw [hn5, l4]; decide) p6 (JL.nil (kk default nofun)))
    · intro xx hx
      show JE _ _ _ _ _ [(0, Pt b 0), (4, Pt b4 0), (5, Pt b5 0)] ([⟨b5, Row 23 (fresh.map U8), true⟩] ++ ([⟨b4, Row 62 (hdc h), true⟩] ++ ([⟨b, Row 26 (sec s6 kv), true⟩] ++ (kpE q s.kept ++ []))))
      rw [List.append_nil]
      clear hx xx vs Ms
      repeat (first | refine JL.q (by first | (apply OQ.move; exact rfl) | (apply OQ.nilc; exact rfl) | (apply OQ.fld; exact rfl; exact rfl; exact rfl; exact (by decide); exact rfl)) rfl ?_ | refine JC.seq ?_ | refine JC.region ?_ | refine JE.next ?_)
      refine JL.store_eq (r := sec s6 kv) (r' := sec s7 kv) boolSr rfl rfl rfl rfl (.there (.there .here)) (by rw [hn6]; decide) p7 ?_
      repeat (refine JL.q (by first | (apply OQ.nilc; exact rfl) | (apply OQ.fld; exact rfl; exact rfl; exact rfl; exact (by decide); exact rfl)) rfl ?_)
      refine JL.store_eq (r := sec s7 kv) (r' := sec s8 kv) boolSr rfl rfl rfl rfl (.there (.there .here)) (by rw [hn7]; decide) p8 ?_
      repeat (first | refine JL.q (by first | (apply OQ.load; exact intCr; exact rfl; exact (.there (.there .here)); exact (Row.cell e8)) | (apply OQ.move; exact rfl) | (apply OQ.nilc; exact rfl) | (apply OQ.fld; exact rfl; exact rfl; exact rfl; exact (by decide); exact rfl)) rfl ?_ | refine JC.seq ?_ | refine JC.region ?_ | refine JL.nil ?_ | refine JE.next ?_)
      refine JL.store_eq (r := sec s8 kv) (r' := sec s9 kv) intSr rfl rfl rfl rfl (.there (.there .here)) (by rw [hn8]; decide) p9 ?_
      repeat (refine JL.q (by first | (apply OQ.nilc; exact rfl) | (apply OQ.fld; exact rfl; exact rfl; exact rfl; exact (by decide); exact rfl)) rfl ?_)
      refine JL.store_eq (r := sec s9 kv) (r' := sec s10 kv) intSr rfl rfl rfl rfl (.there (.there .here)) (by rw [hn9]; decide) p10 ?_
      repeat (refine JL.q (by first | (apply OQ.nilc; exact rfl) | (apply OQ.fld; exact rfl; exact rfl; exact rfl; exact (by decide); exact rfl)) rfl ?_)
      refine JL.store_eq (r := sec s10 kv) (r' := sec s11 kv) intSr rfl rfl rfl rfl (.there (.there .here)) (by rw [hn10]; decide) p11 ?_
      repeat (first | refine JL.q (by (apply OQ.assign; exact rfl)) rfl ?_ | refine JC.seq ?_ | refine JC.region ?_ | refine JL.nil ?_ | refine JE.next ?_)
      refine JC.ret ?_
      skip
      refine JE.ret1 rfl (RV.tmp rfl) fun w' hw => ⟨⟨q, s11, 0, k11, by rw [hkl]; exact hq, .inr ⟨by rw [his, hend], rfl⟩⟩, rfl, ?_⟩
      show Holds w S (⟨b, Row 26 (sec s11 (accV q s11.kept.length)), true⟩ :: kpE q s11.kept) w'
      rw [hkl, hkv]
      exact hw.weak (.drop _ _ _ (.drop _ _ _ (Less.refl _)))
end Go.Proofs.YtbhlcnimjoppeaaDoor

/-
  Of no statement by itself: what the landed ratchet's messageKey gives.
  Conditions: each theorem's own.
-/
namespace Go.Proofs.YtbhlcnimjoppeaaDoor
set_option maxRecDepth 10000
open Sl Sha Str Crv Rtc
open Dsk (Bk)
theorem kpE_key {q : Nat × Nat} {l : List Kp} {i : Nat} (hl : ∀ k ∈ l, k.ok) (hi : i < l.length) : ∀ o, Sl.Own 57 65 (kpcs l).length q.2 (kpcs l).flatten o → hasCells o (0 + i * 65 + 33) ((l.getD i noK).key.map U8) := by
  intro o ho
  have hk : l.getD i noK ∈ l := by
    rw [List.getD_eq_getElem?_getD, List.getElem?_eq_getElem hi]
    exact List.getElem_mem hi
  have hkk := hl _ hk
  have h1 := Sl.Own.chunk (kpcs_all hl) (by rw [kpcs_len]; exact hi) o ho
  rw [kpcs_at _ hi] at h1
  have h2 := has_part (k := 33) (t := 32) h1 (by rw [kpc_len hkk]; decide)
  have h3 := kpc_key hkk
  rw [List.length_map, hkk.k] at h3
  rw [h3] at h2
  rw [Nat.zero_add]
  exact h2
section
variable {n : Nat} {w0 : World} {S : List Nat} {ops : Array Oper} {Q : Exit → Act → World → Prop} {l : List Oper} {E : Env} {M : List Ent} {d : Nat} {ty : TypeId} {pos : String} {aft : Array Edge} {x1 x2 x3 : Operand} {ats : Array TypeId} {b : Nat} {q : Acc} {s : Ses}
theorem JL.newC {h : Hd} {fresh : Bk} (hs : s.ok) (hq : q = none → s.kept = []) (hk : s.kept.length ≤ 2000) (hh : h.chain.length = 32) (hpv : h.prev ≤ 2147483647) (hf : fresh.length = 32) (ht : s.taken ≤ 2147483648) (hT : Tb S w0) (e1 : ev E x1 = some (Pt b 0)) (e2 : ev E x2 = some (.agg (hdc h).toArray)) (e3 : ev E x3 = some (.agg (fresh.map U8).toArray)) (hd : Nat.blt d n = true)
    (kk : ∀ r : LvR (newc s h fresh), JL Tryd.prog n w0 S ops Q l ((d, N r.code) :: E) (seE b r.q r.s ++ M)) : JL Tryd.prog n w0 S ops Q (⟨some d, .call ⟨.value (.func 95), #[x1, x2, x3], ats⟩, ty, pos, aft, none⟩ :: l) E (seE b q s ++ M) :=
  JL.callV (ι := LvR (newc s h fresh)) (xs := [x1, x2, x3]) (vs := [Pt b 0, .agg (hdc h).toArray, .agg (fresh.map U8).toArray]) (fun r => N r.code) (fun r => seE b r.q r.s) goes_newC (by simp [evs, e1, e2, e3]) hd (seE_wr _ _ _) (fun _ => seE_wr _ _ _)
    (fun w' hw' hx' => newC_any b q s hs hq hk h hh hpv fresh hf ht w' (hT.own hw' (seE_wr _ _ _)) hx') kk
theorem JL.nextT (hs : s.ok) (ht : s.taken < 9000000000000000000) (hT : Tb S w0) (e1 : ev E x1 = some (Pt b 0)) (hd : Nat.blt d n = true)
    (kk : JL Tryd.prog n w0 S ops Q l ((d, .agg ((msB s.take).map U8).toArray) :: E) (seE b q (tookN s) ++ M)) : JL Tryd.prog n w0 S ops Q (⟨some d, .call ⟨.value (.func 97), #[x1], ats⟩, ty, pos, aft, none⟩ :: l) E (seE b q s ++ M) :=
  JL.callV (ι := Unit) (xs := [x1]) (vs := [Pt b 0]) (fun _ => .agg ((msB s.take).map U8).toArray) (fun _ => seE b q (tookN s)) goes_nextT (by simp [evs, e1]) hd (seE_wr _ _ _) (fun _ => seE_wr _ _ _)
    (fun w' hw' hx' => (nextT_any b q s hs ht w' (hT.own hw' (seE_wr _ _ _)) hx').mono fun e w2 ⟨g1, g2⟩ => ⟨(), g1, g2⟩) fun _ => kk
end
/-- what messageKey gives -/
structure MkR (o : Nat ⊕ (Ses × Bk)) where
  q : Acc
  s : Ses
  key : Bk
  code : Nat
  ok : s.ok
  nil : q = none → s.kept = []
  kl : key.length = 32
  is : (o = .inl code ∧ (code = 11 ∨ code = 12)) ∨ (o = .inr (s, key) ∧ code = 0)
/-- a session of one's own that takes by the header's chain -/
structure OnR (o : Option Ses) where
  q : Acc
  s : Ses
  ok : s.ok
  nil : q = none → s.kept = []
  is : o = some s
  kl : s.kept.length ≤ 2000
  tk : s.taken ≤ 2147483648
theorem goes_msgK : Goes Tryd.prog 70 := ⟨_, Tryd.func70, rfl, by kernel_rfl⟩
theorem accV_some {q : Acc} {l : List Kp} (hq : q = none → l = []) {i : Nat} (hi : i < l.length) : ∃ r, q = some r := by
  cases q with
  | none => rw [hq rfl] at hi; cases hi
  | some r => exact ⟨r, rfl⟩
set_option maxHeartbeats 64000000 in
theorem msgK_any (b : Nat) (q0 : Acc) (s0 : Ses) (hs0 : s0.ok) (hq0 : q0 = none → s0.kept = []) (hk0 : s0.kept.length ≤ 2000) (h : Hd) (hh : h.chain.length = 32) (hpv : h.prev ≤ 2147483647) (hnm : h.num ≤ 2147483647) (fresh : Bk) (hf : fresh.length = 32) (ht0 : s0.taken ≤ 2147483648) (w : World) (hT : Tb (keys (seE b q0 s0)) w) (h0 : Holds w (keys (seE b q0 s0)) (seE b q0 s0) w) :
    Calls Tryd.prog 70 [Pt b 0, .agg (hdc h).toArray, .agg (fresh.map U8).toArray].toArray w fun e w' => ∃ r : MkR (msgK s0 h fresh), e = .returned (.tuple #[.agg (r.key.map U8).toArray, N r.code]) ∧ Holds w (keys (seE b q0 s0)) (seE b r.q r.s) w' := by
  generalize keys (seE b q0 s0) = S at h0 hT ⊢
  have hlc : (h.chain.map U8).length = 32 := by rw [List.length_map]; exact hh
  have hlf : (fresh.map U8).length = 32 := by rw [List.length_map]; exact hf
  have hl34 := hdc_len hh
  have hlz : (z32.map U8).length = 32 := rfl
  have hx0 : ∀ {h0b : Nat} (w' : World) (M : List Ent), Holds w S (M ++ kpE q0 s0.kept) w' → (∃ o, w'.heap[h0b]? = some o ∧ Row 62 (hdc h) o) → Calls Tryd.prog 92 [accV q0 s0.kept.length, .func (.func 93) #[] [Pt h0b 0].toArray].toArray w' fun e w'' => e = .returned (.int .i64 (ixI (ixK h s0.kept))) ∧ Ext w' w'' := fun {h0b} w' M hw' hb => by
    have := kix_any (accK q0 s0.kept) h0b h hh w' (accK_ok hs0.kept (hw'.weak (M' := kpE q0 s0.kept ++ []) (by rw [List.append_nil]; exact less_app M (Less.refl _)))) hb (by rw [accK_l hq0]; omega)
    rwa [accK_v, accK_l hq0] at this
  refine enter (n := 80) Tryd.func70 rfl rfl rfl h0 ?_
  repeat (first | refine JC.seq ?_ | refine JC.region ?_)
  refine JL.box (r := hdc h) rfl rfl rfl fun b4 _ => ?_
  refine JL.box (r := fresh.map U8) rfl rfl rfl fun b5 _ => ?_
  refine JL.alloc k32z rfl fun b6 _ => ?_
  unfold seE
  have hkp : ∀ o, Row 26 (sec s0 (accV q0 s0.kept.length)) o → cellAt o 165 = some (accV q0 s0.kept.length) := Row.cell (sec_kept hs0 _)
  have hx := fun (w' : World) (hw' : Holds w S (⟨b6, Row 23 ((List.replicate 32 (0 : B)).map U8), true⟩ :: ⟨b5, Row 23 (fresh.map U8), true⟩ :: ⟨b4, Row 62 (hdc h), true⟩ :: ⟨b, Row 26 (sec s0 (accV q0 s0.kept.length)), true⟩ :: kpE q0 s0.kept) w') => hx0 (h0b := b4) w' [_, _, _, _] hw' (hw'.get (.there (.there .here)))
  clear hx0
  cases hix : ixK h s0.kept with
  | some i =>
    rw [hix] at hx
    have hmk := msg_kept (fresh := fresh) hix
    have hi : i < s0.kept.length := by
      rw [ixK, List.findIdx?_eq_some_iff_getElem] at hix
      exact hix.1
    obtain ⟨r, rfl⟩ := accV_some hq0 hi
    have hge : decide ((0 : Int) ≤ ((i : Nat) : Int)) = true := decide_eq_true (by omega)
    have hmem : s0.kept.getD i noK ∈ s0.kept := by
      rw [List.getD_eq_getElem?_getD, List.getElem?_eq_getElem hi]
      exact List.getElem_mem hi
    have hkey := (hs0.kept _ hmem).k
    have hkc := kpE_key (q := r) hs0.kept hi
    generalize (s0.kept.getD i noK).key = ky at hkey hkc hmk
    have hlk : (ky.map U8).length = 32 := by rw [List.length_map]; exact hkey
    have hav : accV (some r) s0.kept.length = .slice (some ⟨r.1, 0, none⟩) s0.kept.length r.2 := rfl
    repeat (first | refine JL.q (by first | (apply OQ.load; exact slkC; exact rfl; exact (.there (.there (.there .here))); exact hkp) | (apply OQ.mkF (caps := [Pt b4 0]); exact rfl) | (apply OQ.callx (vs := [accV (some r) s0.kept.length, .func (.func 93) #[] [Pt b4 0].toArray]); exact goes_kix; exact rfl; exact hx) | (apply OQ.geqB (a := ((i : Nat) : Int)) (b := 0); exact rfl; exact rfl; exact hge) | (apply OQ.move; exact rfl) | (apply OQ.assign; exact rfl) | (apply OQ.nilc; exact rfl) | (apply OQ.fld; exact rfl; exact rfl; exact rfl; exact (by decide); exact rfl)) rfl ?_ | refine JC.seq ?_ | refine JC.region ?_ | refine JL.nil ?_ | refine JE.next ?_)
    refine JC.cond_true rfl rfl ?_
    repeat (first | refine JL.q (by first | (apply OQ.load; exact slkC; exact rfl; exact (.there (.there (.there .here))); exact hkp) | (apply OQ.idxS (i := i) (len := s0.kept.length) (cap := r.2) (b := r.1) (j := 0); exact Tryd.underlying24; exact kpS; exact rfl; exact rfl; exact hi) | (apply OQ.load_agg (cs := ky.map U8); exact k32a; exact k32s; exact rfl; exact (.there (.there (.there (.there .here)))); exact hlk; exact hkc) | (apply OQ.move; exact rfl) | (apply OQ.nilc; exact rfl) | (apply OQ.fld; exact rfl; exact rfl; exact rfl; exact (by decide); exact rfl)) rfl ?_ | refine JC.seq ?_ | refine JC.region ?_)
    refine JL.alloc k32z rfl fun b9 _ => ?_
    refine JL.store_all (cs := ky.map U8) k32s rfl rfl hlk (Y_cell _) .here (by simp) ?_
    have hdl := fun (w' : World) (hx' : Holds w' [r.1] (kpE (some (r.1, r.2)) s0.kept) w') => kdel_any r.1 r.2 s0.kept i (i + 1) (by omega) (by omega) hs0.kept (by omega) w' hx'
    have her : s0.kept.take i ++ s0.kept.drop (i + 1) = s0.kept.eraseIdx i := (List.eraseIdx_eq_take_drop_succ ..).symm
    rw [her] at hdl
    have hok := eraseIdx_ok hs0 i
    have hset := fun v' => sec_set_kept hs0 (accV (some r) s0.kept.length) (s0.kept.eraseIdx i) v'
    have hl166 := sec_len hs0 (accV (some r) s0.kept.length)
    generalize s0.kept.eraseIdx i = lk at *
    repeat (first | refine JL.q (by first | (apply OQ.load; exact slkC; exact rfl; exact (.there (.there (.there (.there .here)))); exact hkp) | (apply OQ.move; exact rfl) | (apply OQ.nilc; exact rfl) | (apply OQ.addN; exact rfl; exact rfl; exact (by (try simp only []); omega)) | (apply OQ.fld; exact rfl; exact rfl; exact rfl; exact (by decide); exact rfl)) rfl ?_ | refine JC.seq ?_ | refine JC.region ?_ | refine JL.nil ?_ | refine JE.next ?_)
    refine JL.permS (M' := kpE (some r) s0.kept ++ [⟨b9, Row 23 (ky.map U8), true⟩, ⟨b6, Row 23 ((List.replicate 32 (0 : B)).map U8), true⟩, ⟨b5, Row 23 (fresh.map U8), true⟩, ⟨b4, Row 62 (hdc h), true⟩, ⟨b, Row 26 (sec s0 (accV (some r) s0.kept.length)), true⟩]) (by exact List.perm_append_comm (l₁ := [_, _, _, _, _])) ?_
    refine JL.callV (ι := Unit) (vs := [.slice (some ⟨r.1, 0, none⟩) s0.kept.length r.2, N i, N (i + 1)]) (fun _ => .slice (some ⟨r.1, 0, none⟩) lk.length r.2) (fun _ => kpE (some (r.1, r.2)) lk) goes_kdel rfl rfl (kpE_wr _ _) (fun _ => kpE_wr _ _) (fun w' hw' hx' => (hdl w' hx').mono fun e w2 ⟨g1, g2⟩ => ⟨(), g1, g2⟩) fun _ => ?_
    refine JL.permS (M' := ⟨b9, Row 23 (ky.map U8), true⟩ :: ⟨b6, Row 23 ((List.replicate 32 (0 : B)).map U8), true⟩ :: ⟨b5, Row 23 (fresh.map U8), true⟩ :: ⟨b4, Row 62 (hdc h), true⟩ :: ⟨b, Row 26 (sec s0 (accV (some r) s0.kept.length)), true⟩ :: kpE (some (r.1, r.2)) lk) (by exact List.perm_append_comm (l₂ := [_, _, _, _, _])) ?_
    repeat (refine JL.q (by first | (apply OQ.nilc; exact rfl) | (apply OQ.fld; exact rfl; exact rfl; exact rfl; exact (by decide); exact rfl)) rfl ?_)
    refine JL.store_eq (r := sec s0 (accV (some r) s0.kept.length)) (r' := sec { s0 with kept := lk } (accV (some (r.1, r.2)) lk.length)) (v := accV (some (r.1, r.2)) lk.length) slkS rfl rfl (accV_one _ _) (accV_cells _ _) (.there (.there (.there (.there .here)))) (by rw [hl166]; decide) (hset _) ?_
    repeat (first | refine JL.q (by (apply OQ.load_agg (cs := ky.map U8); exact k32a; exact k32s; exact rfl; exact .here; exact hlk; exact Row.all)) rfl ?_ | refine JC.seq ?_ | refine JC.region ?_ | refine JL.nil ?_ | refine JE.next ?_)
    refine JL.store_all (cs := ky.map U8) k32s rfl rfl hlk (Y_cell _) (.there .here) (by simp) ?_
    repeat (first | refine JL.q (by (apply OQ.assign; exact rfl)) rfl ?_ | refine JL.nil ?_ | refine JE.next ?_)
    refine JC.ret ?_
    repeat (refine JE.then_ret ?_)
    exact JE.ret2 rfl (RV.cell_agg k32a k32s rfl (.there .here) hlk Row.all) (RV.tmp rfl) fun w' hw => ⟨⟨some r, { s0 with kept := lk }, ky, 0, hok, nofun, hkey, .inr ⟨hmk, rfl⟩⟩, rfl, hw.weak (.drop _ _ _ (.drop _ _ _ (.drop _ _ _ (.drop _ _ _ (Less.refl _)))))⟩
  | none =>
    rw [hix] at hx
    have hge : decide ((0 : Int) ≤ (-1 : Int)) = false := rfl
    repeat (first | refine JL.q (by first | (apply OQ.load; exact slkC; exact rfl; exact (.there (.there (.there .here))); exact hkp) | (apply OQ.mkF (caps := [Pt b4 0]); exact rfl) | (apply OQ.callx (vs := [accV q0 s0.kept.length, .func (.func 93) #[] [Pt b4 0].toArray]); exact goes_kix; exact rfl; exact hx) | (apply OQ.geqB (a := -1) (b := 0); exact rfl; exact rfl; exact hge) | (apply OQ.move; exact rfl) | (apply OQ.assign; exact rfl) | (apply OQ.nilc; exact rfl) | (apply OQ.fld; exact rfl; exact rfl; exact rfl; exact (by decide); exact rfl)) rfl ?_ | refine JC.seq ?_ | refine JC.region ?_ | refine JL.nil ?_ | refine JE.next ?_)
    refine JC.cond_false rfl rfl ?_
    refine JC.skip (JE.next ?_)
    clear hx hkp
    refine JC.mid (ι := OnR (onto s0 h fresh)) (fun _ => [(0, Pt b 0), (4, Pt b4 0), (5, Pt b5 0), (6, Pt b6 0)]) (fun z => ⟨b6, Row 23 ((List.replicate 32 (0 : B)).map U8), true⟩ :: ⟨b5, Row 23 (fresh.map U8), true⟩ :: ⟨b4, Row 62 (hdc h), true⟩ :: seE b z.q z.s) (fun _ => True) ?_ ?_
    · have hoc := sec_other hs0 (accV q0 s0.kept.length)
      have hlo : (s0.other.map U8).length = 32 := by rw [List.length_map]; exact hs0.other
      have hcn := hdc_chain hh
      by_cases he : h.chain = s0.other
      · cases htk : s0.takes
        case' false => have hon : onto s0 h fresh = newc s0 h fresh := by rw [onto, if_neg (by rw [htk]; intro x; cases x.2)]
        case' true => have hon : onto s0 h fresh = some s0 := by rw [onto, if_pos ⟨he, htk⟩]
        case' true => have hld : ∀ o, Row 26 (sec s0 (accV q0 s0.kept.length)) o → cellAt o 97 = some (.bool true) := by rw [← htk]; exact Row.cell (sec_takes hs0 _)
        case' false => have hld : ∀ o, Row 26 (sec s0 (accV q0 s0.kept.length)) o → cellAt o 97 = some (.bool false) := by rw [← htk]; exact Row.cell (sec_takes hs0 _)
        all_goals
          refine JC.seq ?_
          refine JC.quiet mixT (by kernel_rfl) ?_
          repeat (first | refine JQ.q (by first | (apply OQ.load_agg (cs := h.chain.map U8); exact k32a; exact k32s; exact rfl; exact (.there (.there .here)); exact hlc; exact (Row.cells hcn)) | (apply OQ.load_agg (cs := s0.other.map U8); exact k32a; exact k32s; exact rfl; exact (.there (.there (.there .here))); exact hlo; exact (Row.cells hoc)) | (apply OQ.neA_f (r := h.chain) (q := s0.other); exact Tryd.underlying23; exact Tryd.underlying5; exact u8s; exact k32gR; exact rfl; exact rfl; exact hh; exact hs0.other; exact he) | (apply OQ.load; exact boolCr; exact rfl; exact (.there (.there (.there .here))); exact hld) | (apply OQ.not; exact rfl) | (apply OQ.pick_f; exact rfl; exact rfl) | (apply OQ.move; exact rfl) | (apply OQ.nilc; exact rfl) | (apply OQ.fld; exact rfl; exact rfl; exact rfl; exact (by decide); exact rfl)) rfl ?_ | refine JQ.nil ?_ | refine JE.next ?_ | refine JQ.gon rfl rfl ?_)
        · refine JC.cond_true rfl rfl ?_
          repeat (first | refine JL.q (by first | (apply OQ.load_agg (cs := hdc h); exact hdA; exact hdS; exact rfl; exact (.there (.there .here)); exact hl34; exact Row.all) | (apply OQ.load_agg (cs := fresh.map U8); exact k32a; exact k32s; exact rfl; exact (.there .here); exact hlf; exact Row.all) | (apply OQ.move; exact rfl)) rfl ?_ | refine JC.seq ?_ | refine JC.region ?_)
          refine JL.permS (M' := seE b q0 s0 ++ [⟨b6, Row 23 ((List.replicate 32 (0 : B)).map U8), true⟩, ⟨b5, Row 23 (fresh.map U8), true⟩, ⟨b4, Row 62 (hdc h), true⟩]) (by exact List.perm_append_comm (l₁ := [_, _, _])) ?_
          refine JL.newC hs0 hq0 hk0 hh hpv hf ht0 hT rfl rfl rfl rfl fun r => ?_
          obtain ⟨q2, s2, cd, hs2, hq2, his⟩ := r
          dsimp only
          refine JL.permS (M' := [⟨b6, Row 23 ((List.replicate 32 (0 : B)).map U8), true⟩, ⟨b5, Row 23 (fresh.map U8), true⟩, ⟨b4, Row 62 (hdc h), true⟩] ++ seE b q2 s2) (by exact List.perm_append_comm) ?_
          rcases his with ⟨hn, rfl⟩ | ⟨hn, rfl⟩
          · repeat (first | refine JL.q (by first | (apply OQ.neB (a := 12) (b := 0) (c := false); exact rfl; exact rfl; exact rfl) | (apply OQ.move; exact rfl) | (apply OQ.assign; exact rfl)) rfl ?_ | refine JC.seq ?_ | refine JC.region ?_ | refine JL.nil ?_ | refine JE.next ?_)
            refine JC.cond_true rfl rfl ?_
            repeat (first | refine JC.seq ?_ | refine JC.region ?_)
            refine JL.q (OQ.pure (v := .agg (z32.map U8).toArray) rfl rfl (by kernel_rfl)) rfl ?_
            repeat (refine JL.q (by (apply OQ.move; exact rfl)) rfl ?_)
            refine JL.store_all (cs := z32.map U8) k32s rfl rfl hlz (Y_cell _) .here (by simp) ?_
            repeat (first | refine JL.q (by (apply OQ.assign; exact rfl)) rfl ?_ | refine JL.nil ?_ | refine JE.next ?_)
            refine JC.ret ?_
            repeat (refine JE.then_ret ?_)
            exact JE.ret2 rfl (RV.cell_agg k32a k32s rfl .here hlz Row.all) (RV.tmp rfl) fun w' hw => ⟨⟨q2, s2, z32, 12, hs2, hq2, rfl, .inl ⟨msg_onto hix (hon.trans hn), .inr rfl⟩⟩, rfl, hw.weak (.drop _ _ _ (.drop _ _ _ (.drop _ _ _ (Less.refl _))))⟩
          · have hnk := newc_ok hs0 hh hf hk0 hn
            repeat (first | refine JL.q (by first | (apply OQ.neB (a := 0) (b := 0) (c := true); exact rfl; exact rfl; exact rfl) | (apply OQ.move; exact rfl) | (apply OQ.assign; exact rfl)) rfl ?_ | refine JC.seq ?_ | refine JC.region ?_ | refine JL.nil ?_ | refine JE.next ?_)
            refine JC.cond_false rfl rfl ?_
            repeat (refine JC.skip ?_)
            exact JE.mid ⟨q2, s2, hs2, hq2, hon.trans hn, hnk.2.1, by rw [hnk.2.2]; exact Nat.zero_le _⟩ trivial (by repeat (first | exact SubE.nil | refine SubE.cons _ _ _ rfl ?_)) (Less.refl _)
        · refine JC.cond_false rfl rfl ?_
          repeat (refine JC.skip ?_)
          exact JE.mid ⟨q0, s0, hs0, hq0, hon, hk0, ht0⟩ trivial (by repeat (first | exact SubE.nil | refine SubE.cons _ _ _ rfl ?_)) (Less.refl _)
      · have hon : onto s0 h fresh = newc s0 h fresh := by rw [onto, if_neg (fun x => he x.1)]
        refine JC.seq ?_
        refine JC.quiet mixT (by kernel_rfl) ?_
        repeat (first | refine JQ.q (by first | (apply OQ.load_agg (cs := h.chain.map U8); exact k32a; exact k32s; exact rfl; exact (.there (.there .here)); exact hlc; exact (Row.cells hcn)) | (apply OQ.load_agg (cs := s0.other.map U8); exact k32a; exact k32s; exact rfl; exact (.there (.there (.there .here))); exact hlo; exact (Row.cells hoc)) | (apply OQ.neA_t (r := h.chain) (q := s0.other); exact Tryd.underlying23; exact Tryd.underlying5; exact u8s; exact k32gR; exact rfl; exact rfl; exact hh; exact hs0.other; exact he) | (apply OQ.pick_t; exact rfl; exact rfl) | (apply OQ.move; exact rfl) | (apply OQ.nilc; exact rfl) | (apply OQ.fld; exact rfl; exact rfl; exact rfl; exact (by decide); exact rfl)) rfl ?_ | refine JQ.nil ?_ | refine JE.next ?_ | refine JQ.gskip rfl rfl rfl rfl ?_)
        refine JC.cond_true rfl rfl ?_
        repeat (first | refine JL.q (by first | (apply OQ.load_agg (cs := hdc h); exact hdA; exact hdS; exact rfl; exact (.there (.there .here)); exact hl34; exact Row.all) | (apply OQ.load_agg (cs := fresh.map U8); exact k32a; exact k32s; exact rfl; exact (.there .here); exact hlf; exact Row.all) | (apply OQ.move; exact rfl)) rfl ?_ | refine JC.seq ?_ | refine JC.region ?_)
        refine JL.permS (M' := seE b q0 s0 ++ [⟨b6, Row 23 ((List.replicate 32 (0 : B)).map U8), true⟩, ⟨b5, Row 23 (fresh.map U8), true⟩, ⟨b4, Row 62 (hdc h), true⟩]) (by exact List.perm_append_comm (l₁ := [_, _, _])) ?_
        refine JL.newC hs0 hq0 hk0 hh hpv hf ht0 hT rfl rfl rfl rfl fun r => ?_
        obtain ⟨q2, s2, cd, hs2, hq2, his⟩ := r
        dsimp only
        refine JL.permS (M' := [⟨b6, Row 23 ((List.replicate 32 (0 : B)).map U8), true⟩, ⟨b5, Row 23 (fresh.map U8), true⟩, ⟨b4, Row 62 (hdc h), true⟩] ++ seE b q2 s2) (by exact List.perm_append_comm) ?_
        rcases his with ⟨hn, rfl⟩ | ⟨hn, rfl⟩
        · repeat (first | refine JL.q (by first | (apply OQ.neB (a := 12) (b := 0) (c := false); exact rfl; exact rfl; exact rfl) | (apply OQ.move; exact rfl) | (apply OQ.assign; exact rfl)) rfl ?_ | refine JC.seq ?_ | refine JC.region ?_ | refine JL.nil ?_ | refine JE.next ?_)
          refine JC.cond_true rfl rfl ?_
          repeat (first | refine JC.seq ?_ | refine JC.region ?_)
          refine JL.q (OQ.pure (v := .agg (z32.map U8).toArray) rfl rfl (by kernel_rfl)) rfl ?_
          repeat (refine JL.q (by (apply OQ.move; exact rfl)) rfl ?_)
          refine JL.store_all (cs := z32.map U8) k32s rfl rfl hlz (Y_cell _) .here (by simp) ?_
          repeat (first | refine JL.q (by (apply OQ.assign; exact rfl)) rfl ?_ | refine JL.nil ?_ | refine JE.next ?_)
          refine JC.ret ?_
          repeat (refine JE.then_ret ?_)
          exact JE.ret2 rfl (RV.cell_agg k32a k32s rfl .here hlz Row.all) (RV.tmp rfl) fun w' hw => ⟨⟨q2, s2, z32, 12, hs2, hq2, rfl, .inl ⟨msg_onto hix (hon.trans hn), .inr rfl⟩⟩, rfl, hw.weak (.drop _ _ _ (.drop _ _ _ (.drop _ _ _ (Less.refl _))))⟩
        · have hnk := newc_ok hs0 hh hf hk0 hn
          repeat (first | refine JL.q (by first | (apply OQ.neB (a := 0) (b := 0) (c := true); exact rfl; exact rfl; exact rfl) | (apply OQ.move; exact rfl) | (apply OQ.assign; exact rfl)) rfl ?_ | refine JC.seq ?_ | refine JC.region ?_ | refine JL.nil ?_ | refine JE.next ?_)
          refine JC.cond_false rfl rfl ?_
          repeat (refine JC.skip ?_)
          exact JE.mid ⟨q2, s2, hs2, hq2, hon.trans hn, hnk.2.1, by rw [hnk.2.2]; exact Nat.zero_le _⟩ trivial (by repeat (first | exact SubE.nil | refine SubE.cons _ _ _ rfl ?_)) (Less.refl _)
    rintro ⟨q, s, hs, hq, hon, hk, htk⟩ _
    dsimp only
    have hnum : ∀ o, Row 62 (hdc h) o → cellAt o 33 = some (N h.num) := Row.cell (hdc_num hh)
    have htkn : ∀ o, Row 26 (sec s (accV q s.kept.length)) o → cellAt o 163 = some (N s.taken) := Row.cell (sec_taken hs _)
    unfold seE
    refine JC.seq ?_
    try refine JC.seq ?_
    refine JC.quiet mixT (by kernel_rfl) ?_
    by_cases hold : h.num < s.taken
    · repeat (first | refine JQ.q (by first | (apply OQ.load; exact intCr; exact rfl; exact (.there (.there .here)); exact hnum) | (apply OQ.load; exact intCr; exact rfl; exact (.there (.there (.there .here))); exact htkn) | (apply OQ.lssN_t (a := h.num) (b := s.taken); exact rfl; exact rfl; exact hold) | (apply OQ.move; exact rfl) | (apply OQ.nilc; exact rfl) | (apply OQ.fld; exact rfl; exact rfl; exact rfl; exact (by decide); exact rfl)) rfl ?_ | refine JQ.nil ?_ | refine JE.next ?_)
      refine JC.cond_true rfl rfl ?_
      repeat (first | refine JC.seq ?_ | refine JC.region ?_)
      refine JL.q (OQ.pure (v := .agg (z32.map U8).toArray) rfl rfl (by kernel_rfl)) rfl ?_
      refine JL.store_all (cs := z32.map U8) k32s rfl rfl hlz (Y_cell _) .here (by simp) ?_
      repeat (first | refine JL.q (by (apply OQ.assign; exact rfl)) rfl ?_ | refine JL.nil ?_ | refine JE.next ?_)
      refine JC.ret ?_
      repeat (refine JE.then_ret ?_)
      exact JE.ret2 rfl (RV.cell_agg k32a k32s rfl .here hlz Row.all) (RV.tmp rfl) fun w' hw => ⟨⟨q, s, z32, 11, hs, hq, rfl, .inl ⟨msg_old hix hon hold, .inl rfl⟩⟩, rfl, hw.weak (.drop _ _ _ (.drop _ _ _ (.drop _ _ _ (Less.refl _))))⟩
    · repeat (first | refine JQ.q (by first | (apply OQ.load; exact intCr; exact rfl; exact (.there (.there .here)); exact hnum) | (apply OQ.load; exact intCr; exact rfl; exact (.there (.there (.there .here))); exact htkn) | (apply OQ.lssN_f (a := h.num) (b := s.taken); exact rfl; exact rfl; exact hold) | (apply OQ.move; exact rfl) | (apply OQ.nilc; exact rfl) | (apply OQ.fld; exact rfl; exact rfl; exact rfl; exact (by decide); exact rfl)) rfl ?_ | refine JQ.nil ?_ | refine JE.next ?_)
      refine JC.cond_false rfl rfl ?_
      repeat (first | refine JL.q (by first | (apply OQ.load; exact intCr; exact rfl; exact (.there (.there .here)); exact hnum) | (apply OQ.move; exact rfl) | (apply OQ.fld; exact rfl; exact rfl; exact rfl; exact (by decide); exact rfl)) rfl ?_ | refine JC.seq ?_ | refine JC.region ?_ | refine JC.skip ?_ | refine JE.next ?_)
      refine JL.permS (M' := seE b q s ++ [⟨b6, Row 23 ((List.replicate 32 (0 : B)).map U8), true⟩, ⟨b5, Row 23 (fresh.map U8), true⟩, ⟨b4, Row 62 (hdc h), true⟩]) (by exact List.perm_append_comm (l₁ := [_, _, _])) ?_
      refine JL.lvO hs hq hk hnm htk hT rfl rfl rfl fun r => ?_
      obtain ⟨q2, s2, cd, hs2, hq2, his⟩ := r
      dsimp only
      refine JL.permS (M' := [⟨b6, Row 23 ((List.replicate 32 (0 : B)).map U8), true⟩, ⟨b5, Row 23 (fresh.map U8), true⟩, ⟨b4, Row 62 (hdc h), true⟩] ++ seE b q2 s2) (by exact List.perm_append_comm) ?_
      rcases his with ⟨hn, rfl⟩ | ⟨hn, rfl⟩
      · repeat (first | refine JL.q (by first | (apply OQ.neB (a := 12) (b := 0) (c := false); exact rfl; exact rfl; exact rfl) | (apply OQ.move; exact rfl) | (apply OQ.assign; exact rfl)) rfl ?_ | refine JC.seq ?_ | refine JC.region ?_ | refine JL.nil ?_ | refine JE.next ?_)
        refine JC.cond_true rfl rfl ?_
        repeat (first | refine JC.seq ?_ | refine JC.region ?_)
        refine JL.q (OQ.pure (v := .agg (z32.map U8).toArray) rfl rfl (by kernel_rfl)) rfl ?_
        repeat (refine JL.q (by (apply OQ.move; exact rfl)) rfl ?_)
        refine JL.store_all (cs := z32.map U8) k32s rfl rfl hlz (Y_cell _) .here (by simp) ?_
        repeat (first | refine JL.q (by (apply OQ.assign; exact rfl)) rfl ?_ | refine JL.nil ?_ | refine JE.next ?_)
        refine JC.ret ?_
        repeat (refine JE.then_ret ?_)
        exact JE.ret2 rfl (RV.cell_agg k32a k32s rfl .here hlz Row.all) (RV.tmp rfl) fun w' hw => ⟨⟨q2, s2, z32, 12, hs2, hq2, rfl, .inl ⟨msg_far hix hon hold hn, .inr rfl⟩⟩, rfl, hw.weak (.drop _ _ _ (.drop _ _ _ (.drop _ _ _ (Less.refl _))))⟩
      · have htk2 : s2.taken = max s.taken h.num := (leave_ok hs hn).2.2
        repeat (first | refine JL.q (by first | (apply OQ.neB (a := 0) (b := 0) (c := true); exact rfl; exact rfl; exact rfl) | (apply OQ.move; exact rfl) | (apply OQ.assign; exact rfl)) rfl ?_ | refine JC.seq ?_ | refine JC.region ?_ | refine JL.nil ?_ | refine JE.next ?_)
        refine JC.cond_false rfl rfl ?_
        repeat (first | refine JL.q (by (apply OQ.move; exact rfl)) rfl ?_ | refine JC.seq ?_ | refine JC.region ?_ | refine JC.skip ?_ | refine JE.next ?_)
        refine JL.permS (M' := seE b q2 s2 ++ [⟨b6, Row 23 ((List.replicate 32 (0 : B)).map U8), true⟩, ⟨b5, Row 23 (fresh.map U8), true⟩, ⟨b4, Row 62 (hdc h), true⟩]) (by exact List.perm_append_comm (l₁ := [_, _, _])) ?_
        refine JL.nextT hs2 (by omega) hT rfl rfl ?_
        refine JL.permS (M' := [⟨b6, Row 23 ((List.replicate 32 (0 : B)).map U8), true⟩, ⟨b5, Row 23 (fresh.map U8), true⟩, ⟨b4, Row 62 (hdc h), true⟩] ++ seE b q2 (tookN s2)) (by exact List.perm_append_comm) ?_
        have hlm : ((msB s2.take).map U8).length = 32 := rfl
        refine JL.store_all (cs := (msB s2.take).map U8) k32s rfl rfl hlm (Y_cell _) .here (by simp) ?_
        repeat (first | refine JL.q (by (apply OQ.assign; exact rfl)) rfl ?_ | refine JL.nil ?_ | refine JE.next ?_)
        refine JC.ret ?_
        skip
        exact JE.ret2 rfl (RV.cell_agg k32a k32s rfl .here hlm Row.all) (RV.tmp rfl) fun w' hw => ⟨⟨q2, tookN s2, msB s2.take, 0, tookN_ok hs2, hq2, rfl, .inr ⟨msg_yes hix hon hold hn, rfl⟩⟩, rfl, hw.weak (.drop _ _ _ (.drop _ _ _ (.drop _ _ _ (Less.refl _))))⟩
end Go.Proofs.YtbhlcnimjoppeaaDoor

/-
  Of no statement by itself: package bytes: Equal, HasPrefix, HasSuffix, TrimPrefix, Clone.
  Conditions: each theorem's own.
-/
namespace Go.Proofs.YtbhlcnimjoppeaaDoor
set_option maxRecDepth 10000
open Sl
theorem OQ.isNil {P : Program} {n : Nat} {E : Env} {C : World → Prop} {dst : Option Tmp} {t t' ty e : TypeId} {pos : String} {aft : Array Edge} {g : Option (Nat × Bool)} {x y : Operand} {ad : Option Addr} {k cap : Nat} (hu : P.underlying t = some (.slice e)) (hx : ev E x = some (.slice ad k cap)) (hy : ev E y = some (.slice none 0 0)) :
    OQ P n E C ⟨dst, .binOp .eql t x y t', ty, pos, aft, g⟩ (.bool ad.isNone) :=
  OQ.run fun c ha w _ => by
    have h1 := ha.eval hx
    have h2 := ha.eval hy
    have h4 : (binOp .eql t (.slice ad k cap) (.slice none 0 0)).run P w = .ok (.bool ad.isNone) w := by
      show (do pure (.bool (← Op.equal t (.slice ad k cap) (.slice none 0 0))) : Sem Value).run P w = _
      simp [Sem.run_bind, run_equal_slice_nil w t e ad k cap hu]
    simp [execOp, h1, h2, eqGuard, h4]
theorem goes_clone : Goes Tryd.prog 91 := ⟨_, Tryd.func91, rfl, by kernel_rfl⟩
set_option maxHeartbeats 4000000 in
theorem clone_any (s : Sl8) (w : World) (hs : s.ok w) (hl : s.l.length ≤ 4294967296) : Calls Tryd.prog 91 [s.v].toArray w fun e w' => ∃ q : Acc, e = .returned (accV q s.l.length) ∧ (q = none → s.l = []) ∧ Holds w [] (accE 5 q (s.l.map U8)) w' := by
  refine enter (n := 8) Tryd.func91 rfl rfl rfl (Holds.start w []) ?_
  obtain ⟨ad, cap, l⟩ := s
  cases ad with
  | none =>
    have h0 : l = [] := by
      cases l with
      | nil => rfl
      | cons c l =>
        obtain ⟨b, j, h1, _⟩ := hs.reads.at (by simp)
        cases h1
    repeat (first | refine JL.q (by first | (apply OQ.isNil; exact Tryd.underlying27; exact rfl; exact rfl) | (apply OQ.move; exact rfl) | (apply OQ.assign; exact rfl)) rfl ?_ | refine JC.seq ?_ | refine JC.region ?_ | refine JL.nil ?_ | refine JE.next ?_)
    refine JC.cond_true rfl rfl ?_
    repeat (first | refine JL.q (by (apply OQ.assign; exact rfl)) rfl ?_ | refine JC.seq ?_ | refine JC.region ?_ | refine JL.nil ?_ | refine JE.next ?_)
    refine JC.ret ?_
    repeat (refine JE.then_ret ?_)
    exact JE.ret1 rfl (RV.tmp rfl) fun w' hw => ⟨none, rfl, fun _ => h0, hw⟩
  | some ad =>
    repeat (first | refine JL.q (by first | (apply OQ.isNil; exact Tryd.underlying27; exact rfl; exact rfl) | (apply OQ.move; exact rfl) | (apply OQ.assign; exact rfl)) rfl ?_ | refine JC.seq ?_ | refine JC.region ?_ | refine JL.nil ?_ | refine JE.next ?_)
    refine JC.cond_false rfl rfl ?_
    repeat (first | refine JC.seq ?_ | refine JC.region ?_ | refine JC.skip ?_ | refine JE.next ?_)
    refine JL.lit0O Tryd.underlying27 u8e rfl fun b0 _ => ?_
    repeat (refine JL.q (by (apply OQ.move; exact rfl)) rfl ?_)
    refine JL.append (cs := l.map U8) (m := l.length) (ad := some ad) (sc := cap) (xs := []) (fun b' cap' => [⟨b', Sl.Own 5 1 (0 + l.length) cap' ([] ++ l.map U8), true⟩]) Tryd.underlying27 u8e rfl rfl (by intro _ _; repeat (first | exact Repl.here | apply Repl.there)) (by simp) (fun w' hw' => (hs.holds hw' rfl).reads) (all8U _) rfl (by decide) (by simp only [] at hl; omega) (by simp only [] at hl; omega) rfl fun b1 cap1 => ?_
    rw [Nat.zero_add, List.nil_append]
    repeat (first | refine JL.q (by (apply OQ.assign; exact rfl)) rfl ?_ | refine JL.nil ?_ | refine JE.next ?_)
    refine JC.ret (JE.ret1 rfl (RV.tmp rfl) fun w' hw => ⟨some (b1, cap1), rfl, (fun h => by cases h), ?_⟩)
    show Holds w [] [⟨b1, Sl.Own 5 1 (l.map U8).length cap1 (l.map U8), true⟩] w'
    rw [List.length_map]
    exact hw
end Go.Proofs.YtbhlcnimjoppeaaDoor

/-
  Of no statement by itself: what the landed ratchet's cut and Head give.
  Conditions: each theorem's own.
-/
namespace Go.Proofs.YtbhlcnimjoppeaaDoor
set_option maxRecDepth 10000
open Sl Sha Str Crv Rtc
open Dsk (Bk)
/-- a slice that lies in none of these blocks -/
def Off (s : Sl8) (S : List Nat) : Prop := s.l ≠ [] → ∀ a, s.ad = some a → a.block ∉ S
theorem Sl8.ok.off {w0 w : World} {S : List Nat} {M : List Ent} {s : Sl8} (h : s.ok w0) (hw : Holds w0 S M w) (ha : Off s S) : s.ok w :=
  ⟨h.len, hw.reads h.reads fun h0 a e => ha (fun h1 => h0 (by rw [h1]; rfl)) a e⟩
theorem off_new {w0 w : World} {S : List Nat} {X M : List Ent} {s : Sl8} (hw : Holds w0 S (X ++ M) w) (hX : ∀ e ∈ X, e.wr = true) (hs : s.ok w0) (ho : Off s S) : Off s (keys X) := by
  intro h0 a ha hm
  obtain ⟨e, he, hb⟩ := List.mem_map.1 hm
  have h1 := hs.lt h0 a ha
  rcases (hw.all e (List.mem_append_left _ he)).2 (hX e he) with h | h
  · rw [hb] at h; exact ho h0 a ha h
  · omega
theorem off_nil (s : Sl8) : Off s [] := fun _ _ _ => by simp
theorem Off.snd {s : Sl8} {S : List Nat} (h : Off s S) (m : Nat) : Off (s.snd m) S := by
  intro h0 a ha
  have h1 : s.l ≠ [] := fun e => h0 (by show s.l.drop m = []; rw [e, List.drop_nil])
  cases hs : s.ad with
  | none =>
    simp only [Sl8.snd, hs] at ha
    split at ha <;> cases ha
  | some p =>
    have h2 := h h1 p hs
    simp only [Sl8.snd, hs] at ha
    split at ha
    · cases ha; exact h2
    · cases ha
      obtain ⟨pb, po, ps⟩ := p
      by_cases hm : m = 0 <;> cases ps <;> simpa [Addr.add, hm] using h2
theorem OQ.loadSA {n : Nat} {w0 : World} {S : List Nat} {M : List Ent} {E : Env} {dst : Option Tmp} {ty t : TypeId} {pos : String} {aft : Array Edge} {g : Option (Nat × Bool)} {x : Operand} {s : Sl8} {m : Nat} (hs : s.ok w0) (ho : Off s S) (hl : m ≤ s.l.length) (h0 : 0 < m) (hz : szT Tryd.prog t = some m) (ha : aggT Tryd.prog t = true) (hx : ev E x = some (.pointer s.ad)) :
    OQ Tryd.prog n E (Holds w0 S M) ⟨dst, .load t x, ty, pos, aft, g⟩ (.agg ((s.l.take m).map U8).toArray) := by
  obtain ⟨b, j, hae, hca⟩ := hs.reads.at (by simp; omega)
  rw [hae] at hx
  have hlm : ((s.l.take m).map U8).length = m := by rw [List.length_map, List.length_take, Nat.min_eq_left hl]
  refine OQ.load_agg_old ha hx (by rw [hlm]; exact hz) (block_lt_of_cell (hca 0 _ (map_at U8 0 (by omega)))) (ho (fun e => by rw [e] at hl; simp at hl; omega) _ hae) fun i u hu => ?_
  rw [List.map_take, List.getElem?_take] at hu
  split at hu
  · exact hca i u hu
  · cases hu
theorem fst_ad (s : Sl8) (m : Nat) : (s.fst m).ad = s.ad := by
  unfold Sl8.fst
  dsimp only
  split
  · rfl
  · cases s.ad with
    | none => rfl
    | some a => rw [Option.map_some, Addr.add_zero']
theorem cutC : scal Tryd.prog 27 = true := by kernel_rfl
theorem cut1 : szT Tryd.prog 104 = some 1 := by kernel_rfl
theorem cutZ : zc Tryd.prog 104 = some [.slice none 0 0] := by kernel_rfl
theorem goes_cutK : Goes Tryd.prog 67 := ⟨_, Tryd.func67, rfl, by kernel_rfl⟩
theorem goes_cutN : Goes Tryd.prog 68 := ⟨_, Tryd.func68, rfl, by kernel_rfl⟩
set_option maxHeartbeats 8000000 in
theorem cutK_any (bc : Nat) (s : Sl8) (hl : 32 ≤ s.l.length) (w : World) (hs : s.ok w) (ho : Off s [bc]) (h0 : Holds w [bc] [⟨bc, Row 104 [s.v], true⟩] w) :
    Calls Tryd.prog 67 [Pt bc 0].toArray w fun e w' => e = .returned (.agg ((s.l.take 32).map U8).toArray) ∧ Holds w [bc] [⟨bc, Row 104 [(s.snd 32).v], true⟩] w' := by
  have hlm : ((s.l.take 32).map U8).length = 32 := by rw [List.length_map, List.length_take, Nat.min_eq_left hl]
  have had := fst_ad s 32
  refine enter (n := 20) Tryd.func67 rfl rfl rfl h0 ?_
  refine JC.seq (JC.region (JL.alloc k32z rfl fun b2 _ => ?_))
  repeat (first | refine JL.q (by first | (apply OQ.load (v := s.v); exact cutC; exact rfl; exact (.there .here); exact (Row.cell rfl)) | (apply OQ.fst (s := s) (m := 32); exact Tryd.underlying27; exact u8s; exact rfl; exact rfl; exact hl; exact hs.len) | (apply OQ.arr (k := 32) (ad := (s.fst 32).ad) (len := (s.fst 32).l.length) (cap := (s.fst 32).cap); exact Tryd.underlying23; exact rfl; exact (by show 32 ≤ (s.l.take 32).length; rw [List.length_take]; omega)) | (apply OQ.move; exact rfl) | (apply OQ.nilc; exact rfl) | (apply OQ.fld; exact rfl; exact rfl; exact rfl; exact (by decide); exact rfl)) rfl ?_ | refine JC.seq ?_ | refine JC.region ?_ | refine JL.nil ?_ | refine JE.next ?_)
  rw [had]
  repeat (refine JL.q (by (apply OQ.loadSA (s := s) (m := 32); exact hs; exact ho; exact hl; exact (by decide); exact k32s; exact k32a; exact rfl)) rfl ?_)
  refine JL.alloc k32z rfl fun b3 _ => ?_
  refine JL.store_all (cs := (s.l.take 32).map U8) k32s rfl rfl hlm (Y_cell _) .here (by simp) ?_
  repeat (first | refine JL.q (by first | (apply OQ.load (v := s.v); exact cutC; exact rfl; exact (.there (.there .here)); exact (Row.cell rfl)) | (apply OQ.snd (s := s) (m := 32); exact Tryd.underlying27; exact u8s; exact rfl; exact rfl; exact hl) | (apply OQ.move; exact rfl) | (apply OQ.nilc; exact rfl) | (apply OQ.fld; exact rfl; exact rfl; exact rfl; exact (by decide); exact rfl)) rfl ?_ | refine JC.seq ?_ | refine JC.region ?_ | refine JL.nil ?_ | refine JE.next ?_)
  refine JL.store_eq (r := [s.v]) (r' := [(s.snd 32).v]) s8sz rfl rfl rfl rfl (.there (.there .here)) (show 0 < 1 from Nat.zero_lt_one) rfl ?_
  repeat (first | refine JL.q (by (apply OQ.load_agg (cs := (s.l.take 32).map U8); exact k32a; exact k32s; exact rfl; exact .here; exact hlm; exact Row.all)) rfl ?_ | refine JC.seq ?_ | refine JC.region ?_ | refine JL.nil ?_ | refine JE.next ?_)
  refine JL.store_all (cs := (s.l.take 32).map U8) k32s rfl rfl hlm (Y_cell _) (.there .here) (by simp) ?_
  repeat (first | refine JL.nil ?_ | refine JE.next ?_)
  refine JC.ret (JE.ret1 rfl (RV.cell_agg k32a k32s rfl (.there .here) hlm Row.all) ?_)
  exact fun w' hw => ⟨rfl, hw.weak (.drop _ _ _ (.drop _ _ _ (Less.refl _)))⟩
set_option maxHeartbeats 8000000 in
theorem cutN_any (bc : Nat) (s : Sl8) (hl : 4 ≤ s.l.length) (w : World) (hs : s.ok w) (ho : Off s [bc]) (h0 : Holds w [bc] [⟨bc, Row 104 [s.v], true⟩] w) :
    Calls Tryd.prog 68 [Pt bc 0].toArray w fun e w' => e = .returned (N (Jrn.numB (s.l.take 4))) ∧ Holds w [bc] [⟨bc, Row 104 [(s.snd 4).v], true⟩] w' := by
  have hlt : (s.l.take 4).length = 4 := by rw [List.length_take, Nat.min_eq_left hl]
  have hn := Jrn.num64_toNat (l := s.l.take 4) (by omega)
  have hlt2 := Jrn.numB_lt8 (l := s.l.take 4) (by omega)
  rw [hlt] at hlt2
  have cN := fun (w' : World) (M : List Ent) (hw' : Holds w [bc] M w') => numRead_any (s.fst 4) w' ((hs.off hw' ho).fst 4) (by show (s.l.take 4).length ≤ _; omega)
  rw [show (s.fst 4).l = s.l.take 4 from rfl] at cN
  refine enter (n := 20) Tryd.func68 rfl rfl rfl h0 ?_
  repeat (first | refine JL.q (by first | (apply OQ.load (v := s.v); exact cutC; exact rfl; exact .here; exact (Row.cell rfl)) | (apply OQ.fst (s := s) (m := 4); exact Tryd.underlying27; exact u8s; exact rfl; exact rfl; exact hl; exact hs.len) | (apply OQ.callx (vs := [(s.fst 4).v]); exact goes_numRead; exact rfl; exact (fun w' hw' => cN w' _ hw')) | (apply OQ.snd (s := s) (m := 4); exact Tryd.underlying27; exact u8s; exact rfl; exact rfl; exact hl) | (apply OQ.move; exact rfl) | (apply OQ.assign; exact rfl) | (apply OQ.nilc; exact rfl) | (apply OQ.fld; exact rfl; exact rfl; exact rfl; exact (by decide); exact rfl)) rfl ?_ | refine JC.seq ?_ | refine JC.region ?_ | refine JL.nil ?_ | refine JE.next ?_)
  refine JL.store_eq (r := [s.v]) (r' := [(s.snd 4).v]) s8sz rfl rfl rfl rfl .here (show 0 < 1 from Nat.zero_lt_one) rfl ?_
  repeat (first | refine JL.q (by first | (apply OQ.to; exact (OQ.conv64_N Tryd.underlying76 Tryd.underlying3 rfl (by rw [hn]; omega)); exact (congrArg N hn)) | (apply OQ.move; exact rfl) | (apply OQ.assign; exact rfl)) rfl ?_ | refine JC.seq ?_ | refine JC.region ?_ | refine JL.nil ?_ | refine JE.next ?_)
  refine JC.ret (JE.ret1 rfl (RV.tmp rfl) ?_)
  exact fun w' hw => ⟨rfl, hw⟩
theorem hd_built (c : Bk) (p m : Nat) (hc : c.length = 32) : Tryd.prog.built 62 ([0, 1, 2].zip [.agg (c.map U8).toArray, N p, N m]) = some (hdc ⟨c, p, m⟩).toArray := by
  have h : Tryd.prog.built 62 ([0, 1, 2].zip [.agg (c.map U8).toArray, N p, N m]) = Instr.fill (fun i => #[(0, 32), (32, 1), (33, 1)][i]?) (hdc zeroH).toArray [(0, .agg (c.map U8).toArray), (1, N p), (2, N m)] := by kernel_rfl
  rw [h, fill_one (off := 0) (sz := 32) (cs := c.map U8) rfl rfl (by simp [hc]) (by simp [hdc, zeroH, z32]), fill_one (off := 32) (sz := 1) (cs := [N p]) rfl rfl rfl (by simp [hdc, zeroH, z32, hc]), fill_one (off := 33) (sz := 1) (cs := [N m]) rfl rfl rfl (by simp [hdc, zeroH, z32, hc])]
  have h1 := put3 (a := c.map U8) (b := [N 0]) (c := [N 0]) (j := 32) (k := 1) [N p] (by simp [hc]) rfl
  have h2 := put3 (a := c.map U8 ++ [N p]) (b := [N 0]) (c := []) (j := 33) (k := 1) [N m] (by simp [hc]) rfl
  have h3 : ((hdc zeroH).take 0 ++ c.map U8 ++ (hdc zeroH).drop (0 + 32)) = c.map U8 ++ ([N 0] ++ [N 0]) := rfl
  rw [h3, h1, ← List.append_assoc]
  show some _ = some _
  rw [show (c.map U8 ++ [N p] ++ [N 0] : List Value) = c.map U8 ++ [N p] ++ ([N 0] ++ []) from rfl, h2]
  simp [hdc]
/-- what Head tells -/
def headH (z : Bk) : Hd := match headV z with | none => zeroH | some (h, _) => h
def headR (z : Bk) : Bk := match headV z with | none => [] | some (_, r) => r
def headC (z : Bk) : Nat := match headV z with | none => 3 | some _ => 0
theorem goes_head : Goes Tryd.prog 69 := ⟨_, Tryd.func69, rfl, by kernel_rfl⟩
abbrev AccB (l : Bk) := {q : Acc // q = none → l = []}
instance {l : Bk} : Inhabited (AccB l) := ⟨⟨some (0, 0), nofun⟩⟩
set_option maxHeartbeats 16000000 in
theorem head_any (z : Sl8) (w : World) (hz : z.ok w) (hl : z.l.length ≤ 1000000) :
    Calls Tryd.prog 69 [z.v].toArray w fun e w' => ∃ q : AccB (headR z.l), e = .returned (.tuple #[.agg (hdc (headH z.l)).toArray, accV q.1 (headR z.l).length, N (headC z.l)]) ∧ Holds w [] (accE 5 q.1 ((headR z.l).map U8)) w' := by
  have hz34 : (hdc zeroH).length = 34 := rfl
  refine enter (n := 31) Tryd.func69 rfl rfl rfl (Holds.start w []) ?_
  repeat (first | refine JC.seq ?_ | refine JC.region ?_)
  refine JL.alloc hdZ rfl fun b2 _ => ?_
  by_cases h40 : z.l.length < 40
  · have hv : headV z.l = none := by rw [headV, if_pos h40]
    have e1 : headH z.l = zeroH := by rw [headH, hv]
    have e2 : headR z.l = [] := by rw [headR, hv]
    have e3 : headC z.l = 3 := by rw [headC, hv]
    rw [e1, e2, e3]
    repeat (first | refine JL.q (by first | (apply OQ.len (k := z.l.length) (ad := z.ad) (cap := z.cap); exact Tryd.underlying27; exact rfl) | (apply OQ.lssN_t (a := z.l.length) (b := 40); exact rfl; exact rfl; exact h40) | (apply OQ.move; exact rfl) | (apply OQ.assign; exact rfl)) rfl ?_ | refine JC.seq ?_ | refine JC.region ?_ | refine JL.nil ?_ | refine JE.next ?_)
    refine JC.cond_true rfl rfl ?_
    repeat (first | refine JC.seq ?_ | refine JC.region ?_)
    refine JL.q (OQ.pure (v := .agg (hdc zeroH).toArray) rfl rfl (by kernel_rfl)) rfl ?_
    refine JL.store_all (cs := hdc zeroH) hdS rfl rfl hz34 (hdc_one _) .here hz34 ?_
    repeat (first | refine JL.q (by (apply OQ.assign; exact rfl)) rfl ?_ | refine JL.nil ?_ | refine JE.next ?_)
    refine JC.ret ?_
    repeat (refine JE.then_ret ?_)
    exact JE.ret3 rfl (RV.cell_agg hdA hdS rfl .here hz34 Row.all) (RV.tmp rfl) (RV.tmp rfl) fun w' hw => ⟨⟨none, fun _ => rfl⟩, rfl, hw.weak (.nil _)⟩
  repeat (first | refine JL.q (by first | (apply OQ.len (k := z.l.length) (ad := z.ad) (cap := z.cap); exact Tryd.underlying27; exact rfl) | (apply OQ.lssN_f (a := z.l.length) (b := 40); exact rfl; exact rfl; exact h40) | (apply OQ.move; exact rfl) | (apply OQ.assign; exact rfl)) rfl ?_ | refine JC.seq ?_ | refine JC.region ?_ | refine JL.nil ?_ | refine JE.next ?_)
  refine JC.cond_false rfl rfl ?_
  repeat (first | refine JL.q (by (apply OQ.move; exact rfl)) rfl ?_ | refine JC.seq ?_ | refine JC.region ?_ | refine JC.skip ?_ | refine JE.next ?_)
  refine JL.q (OQ.buildK (cs := [z.v]) [0] [.tmp 10] (vs := [z.v]) rfl rfl (by unfold Sl8.v; kernel_rfl)) rfl ?_
  refine JL.alloc cutZ rfl fun b5 hb5 => ?_
  refine JL.store_all (cs := [z.v]) cut1 rfl rfl rfl rfl .here rfl ?_
  have hoff : ∀ s : Sl8, s.ok w → Off s [b5] := fun s hs h0 a ha hm => by
    have h1 := hs.lt h0 a ha
    rw [List.mem_singleton] at hm
    omega
  have z1 := hz.snd 32 (by omega)
  have z2 := z1.snd 4 (by show 4 ≤ (z.l.drop 32).length; rw [List.length_drop]; omega)
  have z3 := z2.snd 4 (by show 4 ≤ ((z.l.drop 32).drop 4).length; rw [List.length_drop, List.length_drop]; omega)
  have l1 : (z.snd 32).l = z.l.drop 32 := rfl
  have l2 : ((z.snd 32).snd 4).l = z.l.drop 36 := by show (z.l.drop 32).drop 4 = _; rw [List.drop_drop]
  have l3 : (((z.snd 32).snd 4).snd 4).l = z.l.drop 40 := by show ((z.l.drop 32).drop 4).drop 4 = _; rw [List.drop_drop, List.drop_drop]
  have c0 := fun (w' : World) (M : List Ent) (hw' : Holds w [] (⟨b5, Row 104 [z.v], true⟩ :: M) w') (hx : Holds w' [b5] [⟨b5, Row 104 [z.v], true⟩] w') => cutK_any b5 z (by omega) w' (hz.holds hw' rfl) (hoff z hz) hx
  have c1 := fun (w' : World) (M : List Ent) (hw' : Holds w [] (⟨b5, Row 104 [(z.snd 32).v], true⟩ :: M) w') (hx : Holds w' [b5] [⟨b5, Row 104 [(z.snd 32).v], true⟩] w') => cutN_any b5 (z.snd 32) (by rw [l1, List.length_drop]; omega) w' (z1.holds hw' rfl) (hoff _ z1) hx
  have c2 := fun (w' : World) (M : List Ent) (hw' : Holds w [] (⟨b5, Row 104 [((z.snd 32).snd 4).v], true⟩ :: M) w') (hx : Holds w' [b5] [⟨b5, Row 104 [((z.snd 32).snd 4).v], true⟩] w') => cutN_any b5 ((z.snd 32).snd 4) (by rw [l2, List.length_drop]; omega) w' (z2.holds hw' rfl) (hoff _ z2) hx
  rw [l1] at c1
  rw [l2] at c2
  have hlc : (z.l.take 32).length = 32 := by rw [List.length_take, Nat.min_eq_left (by omega)]
  repeat (first | refine JC.seq ?_ | refine JC.region ?_ | refine JL.nil ?_ | refine JE.next ?_)
  refine JL.callV (ι := Unit) (vs := [Pt b5 0]) (X := [⟨b5, Row 104 [z.v], true⟩]) (M0 := [⟨b2, Row 62 (hdc zeroH), true⟩]) (fun _ => .agg ((z.l.take 32).map U8).toArray) (fun _ => [⟨b5, Row 104 [(z.snd 32).v], true⟩]) goes_cutK rfl rfl (by simp) (by simp) (fun w' hw' hx' => (c0 w' _ hw' hx').mono fun e w2 ⟨g1, g2⟩ => ⟨(), g1, g2⟩) fun _ => ?_
  refine JL.callV (ι := Unit) (vs := [Pt b5 0]) (X := [⟨b5, Row 104 [(z.snd 32).v], true⟩]) (M0 := [⟨b2, Row 62 (hdc zeroH), true⟩]) (fun _ => N (Jrn.numB ((z.l.drop 32).take 4))) (fun _ => [⟨b5, Row 104 [((z.snd 32).snd 4).v], true⟩]) goes_cutN rfl rfl (by simp) (by simp) (fun w' hw' hx' => (c1 w' _ hw' hx').mono fun e w2 ⟨g1, g2⟩ => ⟨(), g1, g2⟩) fun _ => ?_
  refine JL.callV (ι := Unit) (vs := [Pt b5 0]) (X := [⟨b5, Row 104 [((z.snd 32).snd 4).v], true⟩]) (M0 := [⟨b2, Row 62 (hdc zeroH), true⟩]) (fun _ => N (Jrn.numB ((z.l.drop 36).take 4))) (fun _ => [⟨b5, Row 104 [(((z.snd 32).snd 4).snd 4).v], true⟩]) goes_cutN rfl rfl (by simp) (by simp) (fun w' hw' hx' => (c2 w' _ hw' hx').mono fun e w2 ⟨g1, g2⟩ => ⟨(), g1, g2⟩) fun _ => ?_
  clear c0 c1 c2 z1 z2
  have hn1 := Jrn.numB_lt8 (l := (z.l.drop 32).take 4) (by simp; omega)
  have hn2 := Jrn.numB_lt8 (l := (z.l.drop 36).take 4) (by simp; omega)
  have hv : headV z.l = if 2147483647 < Jrn.numB ((z.l.drop 32).take 4) ∨ 2147483647 < Jrn.numB ((z.l.drop 36).take 4) then none else some (⟨z.l.take 32, Jrn.numB ((z.l.drop 32).take 4), Jrn.numB ((z.l.drop 36).take 4)⟩, z.l.drop 40) := by rw [headV, if_neg h40]
  have hhb := hd_built (z.l.take 32) (Jrn.numB ((z.l.drop 32).take 4)) (Jrn.numB ((z.l.drop 36).take 4)) hlc
  have hr1 : ∀ o, Row 62 (hdc ⟨z.l.take 32, Jrn.numB ((z.l.drop 32).take 4), Jrn.numB ((z.l.drop 36).take 4)⟩) o → cellAt o 32 = some (I (Jrn.numB ((z.l.drop 32).take 4))) := Row.cell (hdc_prev hlc)
  have hr2 : ∀ o, Row 62 (hdc ⟨z.l.take 32, Jrn.numB ((z.l.drop 32).take 4), Jrn.numB ((z.l.drop 36).take 4)⟩) o → cellAt o 33 = some (I (Jrn.numB ((z.l.drop 36).take 4))) := Row.cell (hdc_num hlc)
  have hl34 := hdc_len (h := ⟨z.l.take 32, Jrn.numB ((z.l.drop 32).take 4), Jrn.numB ((z.l.drop 36).take 4)⟩) hlc
  generalize hp : Jrn.numB ((z.l.drop 32).take 4) = p at *
  generalize hm : Jrn.numB ((z.l.drop 36).take 4) = m at *
  generalize hcc : z.l.take 32 = c at *
  have cp := fun (w' : World) => mayC_any (p : Int) w'
  have cm := fun (w' : World) => mayC_any (m : Int) w'
  have mp : mayI (p : Int) = decide (p ≤ 2147483647) := by
    unfold mayI
    rw [decide_eq_true (by omega), Bool.true_and]
    exact decide_eq_decide.2 (by omega)
  have mm : mayI (m : Int) = decide (m ≤ 2147483647) := by
    unfold mayI
    rw [decide_eq_true (by omega), Bool.true_and]
    exact decide_eq_decide.2 (by omega)
  rw [mp] at cp
  rw [mm] at cm
  refine JL.q (OQ.buildK (cs := hdc ⟨c, p, m⟩) [0, 1, 2] [.tmp 12, .tmp 13, .tmp 14] (vs := [.agg (c.map U8).toArray, N p, N m]) rfl rfl hhb) rfl ?_
  refine JL.store_all (cs := hdc ⟨c, p, m⟩) hdS rfl rfl hl34 (hdc_one _) (.there .here) hz34 ?_
  obtain ⟨g1, hg1⟩ : ∃ g, decide (p ≤ 2147483647) = g := ⟨_, rfl⟩
  obtain ⟨g2, hg2⟩ : ∃ g, decide (m ≤ 2147483647) = g := ⟨_, rfl⟩
  rw [hg1] at cp
  rw [hg2] at cm
  cases g1
  case false =>
    have hv2 : headV z.l = none := by rw [hv, if_pos (.inl (by have := of_decide_eq_false hg1; omega))]
    have e1 : headH z.l = zeroH := by rw [headH, hv2]
    have e2 : headR z.l = [] := by rw [headR, hv2]
    have e3 : headC z.l = 3 := by rw [headC, hv2]
    rw [e1, e2, e3]
    repeat (first | refine JL.q (by first | (apply OQ.load; exact intCr; exact rfl; exact (.there .here); exact hr1) | (apply OQ.callx (vs := [I (p : Int)]); exact goes_mayC; exact rfl; exact (fun w' _ => cp w')) | (apply OQ.notB; exact rfl; exact rfl) | (apply OQ.pick_t; exact rfl; exact rfl) | (apply OQ.move; exact rfl) | (apply OQ.fld; exact rfl; exact rfl; exact rfl; exact (by decide); exact rfl)) rfl ?_ | refine JC.seq ?_ | refine JC.region ?_ | refine JL.nil ?_ | refine JE.next ?_ | refine JL.gskip rfl rfl rfl rfl ?_)
    refine JC.cond_true rfl rfl ?_
    repeat (first | refine JC.seq ?_ | refine JC.region ?_)
    refine JL.q (OQ.pure (v := .agg (hdc zeroH).toArray) rfl rfl (by kernel_rfl)) rfl ?_
    refine JL.store_all (cs := hdc zeroH) hdS rfl rfl hz34 (hdc_one _) (.there .here) hl34 ?_
    repeat (first | refine JL.q (by (apply OQ.assign; exact rfl)) rfl ?_ | refine JL.nil ?_ | refine JE.next ?_)
    refine JC.ret ?_
    repeat (refine JE.then_ret ?_)
    exact JE.ret3 rfl (RV.cell_agg hdA hdS rfl (.there .here) hz34 Row.all) (RV.tmp rfl) (RV.tmp rfl) fun w' hw => ⟨⟨none, fun _ => rfl⟩, rfl, hw.weak (.nil _)⟩
  cases g2
  case false =>
    have hv2 : headV z.l = none := by rw [hv, if_pos (.inr (by have := of_decide_eq_false hg2; omega))]
    have e1 : headH z.l = zeroH := by rw [headH, hv2]
    have e2 : headR z.l = [] := by rw [headR, hv2]
    have e3 : headC z.l = 3 := by rw [headC, hv2]
    rw [e1, e2, e3]
    repeat (first | refine JL.q (by first | (apply OQ.load; exact intCr; exact rfl; exact (.there .here); exact hr1) | (apply OQ.load; exact intCr; exact rfl; exact (.there .here); exact hr2) | (apply OQ.callx (vs := [I (p : Int)]); exact goes_mayC; exact rfl; exact (fun w' _ => cp w')) | (apply OQ.callx (vs := [I (m : Int)]); exact goes_mayC; exact rfl; exact (fun w' _ => cm w')) | (apply OQ.notB; exact rfl; exact rfl) | (apply OQ.pick_f; exact rfl; exact rfl) | (apply OQ.move; exact rfl) | (apply OQ.fld; exact rfl; exact rfl; exact rfl; exact (by decide); exact rfl)) rfl ?_ | refine JC.seq ?_ | refine JC.region ?_ | refine JL.nil ?_ | refine JE.next ?_ | refine JL.gon rfl rfl ?_)
    refine JC.cond_true rfl rfl ?_
    repeat (first | refine JC.seq ?_ | refine JC.region ?_)
    refine JL.q (OQ.pure (v := .agg (hdc zeroH).toArray) rfl rfl (by kernel_rfl)) rfl ?_
    refine JL.store_all (cs := hdc zeroH) hdS rfl rfl hz34 (hdc_one _) (.there .here) hl34 ?_
    repeat (first | refine JL.q (by (apply OQ.assign; exact rfl)) rfl ?_ | refine JL.nil ?_ | refine JE.next ?_)
    refine JC.ret ?_
    repeat (refine JE.then_ret ?_)
    exact JE.ret3 rfl (RV.cell_agg hdA hdS rfl (.there .here) hz34 Row.all) (RV.tmp rfl) (RV.tmp rfl) fun w' hw => ⟨⟨none, fun _ => rfl⟩, rfl, hw.weak (.nil _)⟩
  have hv2 : headV z.l = some (⟨c, p, m⟩, z.l.drop 40) := by rw [hv, if_neg (by have := of_decide_eq_true hg1; have := of_decide_eq_true hg2; omega)]
  have e1 : headH z.l = ⟨c, p, m⟩ := by rw [headH, hv2]
  have e2 : headR z.l = z.l.drop 40 := by rw [headR, hv2]
  have e3 : headC z.l = 0 := by rw [headC, hv2]
  rw [e1, e2, e3, ← l3]
  have hlz : (((z.snd 32).snd 4).snd 4).l.length ≤ 4294967296 := by rw [l3, List.length_drop]; omega
  generalize ((z.snd 32).snd 4).snd 4 = zz at *
  repeat (first | refine JL.q (by first | (apply OQ.load; exact intCr; exact rfl; exact (.there .here); exact hr1) | (apply OQ.load; exact intCr; exact rfl; exact (.there .here); exact hr2) | (apply OQ.callx (vs := [I (p : Int)]); exact goes_mayC; exact rfl; exact (fun w' _ => cp w')) | (apply OQ.callx (vs := [I (m : Int)]); exact goes_mayC; exact rfl; exact (fun w' _ => cm w')) | (apply OQ.notB (c := false); exact rfl; exact rfl) | (apply OQ.pick_f; exact rfl; exact rfl) | (apply OQ.move; exact rfl) | (apply OQ.fld; exact rfl; exact rfl; exact rfl; exact (by decide); exact rfl)) rfl ?_ | refine JC.seq ?_ | refine JC.region ?_ | refine JL.nil ?_ | refine JE.next ?_ | refine JL.gon rfl rfl ?_)
  refine JC.cond_false rfl rfl ?_
  repeat (first | refine JC.seq ?_ | refine JC.skip ?_ | refine JE.next ?_)
  let vs : Nat → AccB zz.l → Value := fun j y => match j with
    | 0 => .agg (hdc ⟨c, p, m⟩).toArray
    | 1 => Pt b5 0
    | 2 => zz.v
    | 3 => accV y.1 zz.l.length
    | 5 => accV y.1 zz.l.length
    | 6 => N 0
    | _ => N 0
  let Ms : Nat → AccB zz.l → List Ent := fun j y => match j with
    | 3 => accE 5 y.1 (zz.l.map U8)
    | 4 => [⟨b2, Row 62 (hdc ⟨c, p, m⟩), true⟩]
    | 7 => [⟨b5, Row 104 [zz.v], true⟩]
    | 8 => [⟨b2, Row 62 (hdc ⟨c, p, m⟩), true⟩]
    | _ => []
  refine JC.grow (g := ⟨[(2, Pt b2 0), (5, Pt b5 0)], 9, vs, Ms, (fun j => match j with | 2 => [(1, 28)] | 3 => [(2, 29)] | 4 => [(0, 27)] | 5 => [(3, 30)] | _ => []), (fun j => match j with | 0 => [8] | 2 => [7] | 4 => [8] | _ => []), (fun j => match j with | 4 => [8] | _ => []), (fun j => match j with | 5 => some 3 | _ => none)⟩) [(5, 3), (6, 4)] [4, 3] mixT (by repeat (first | exact SubE.nil | refine SubE.cons _ _ _ rfl ?_)) ?_ (by kernel_rfl) (by kernel_rfl) (by kernel_rfl) ?_ ?_
  · exact Less.refl _
  · refine ⟨?_, ?_, ?_, ?_, ?_, ?_, ?_, trivial⟩
    · (intro xx EF MF Q kk; (try refine JL.gon rfl rfl ?_); exact JL.q (OQ.load_agg (cs := hdc ⟨c, p, m⟩) hdA hdS rfl .here hl34 Row.all) rfl (JL.nil (kk default nofun)))
    · (intro xx EF MF Q kk; (try refine JL.gon rfl rfl ?_); exact JL.q (OQ.fld rfl rfl rfl (by decide) rfl) rfl (JL.nil (kk default nofun)))
    · (intro xx EF MF Q kk; (try refine JL.gon rfl rfl ?_); exact JL.q (OQ.load (v := zz.v) cutC rfl .here (Row.cell rfl)) rfl (JL.nil (kk default nofun)))
    · (intro xx EF MF Q kk; exact JL.callg (ι := AccB zz.l) (vs := [zz.v]) (fun q => accV q.1 zz.l.length) (fun q => accE 5 q.1 (zz.l.map U8)) goes_clone rfl rfl (fun q => accE_wr _ _ _) (fun w' hw' => (clone_any zz w' (z3.holds hw' rfl) hlz).mono fun e w2 ⟨q, g1, g2, g3⟩ => ⟨⟨q, g2⟩, g1, g3⟩) fun q => JL.nil (kk q nofun))
    · (intro xx EF MF Q kk; exact JL.store_all (cs := hdc ⟨c, p, m⟩) hdS rfl rfl hl34 (hdc_one _) .here hl34 (JL.nil (kk default nofun)))
    · (intro xx EF MF Q kk; (try refine JL.gon rfl rfl ?_); exact JL.q (OQ.assign rfl) rfl (JL.nil (kk (xx 3) (fun k h => by cases h; rfl))))
    · (intro xx EF MF Q kk; (try refine JL.gon rfl rfl ?_); exact JL.q (OQ.assign rfl) rfl (JL.nil (kk default nofun)))
  · intro xx hx
    have e5 := hx 5 3 (by decide) rfl
    show JE _ _ _ _ _ [(3, accV (xx 5).1 zz.l.length), (4, N 0), (2, Pt b2 0), (5, Pt b5 0)] ([⟨b2, Row 62 (hdc ⟨c, p, m⟩), true⟩] ++ (accE 5 (xx 3).1 (zz.l.map U8) ++ []))
    rw [e5, List.append_nil]
    generalize xx 3 = q
    clear hx e5 xx vs Ms
    repeat (refine JE.next ?_)
    refine JC.ret ?_
    skip
    exact JE.ret3 rfl (RV.cell_agg hdA hdS rfl .here hl34 Row.all) (RV.tmp rfl) (RV.tmp rfl) fun w' hw => ⟨q, rfl, hw.weak (.drop _ _ _ (Less.refl _))⟩
end Go.Proofs.YtbhlcnimjoppeaaDoor

/-
  Of no statement by itself: what the reference's Seal and Open give.
  Conditions: each theorem's own.
-/
namespace Go.Proofs.YtbhlcnimjoppeaaDoor
set_option maxRecDepth 10000
open Sl Sha Str

end Go.Proofs.YtbhlcnimjoppeaaDoor

/-
  Of no statement by itself: what seal.Seal, seal.Open and the reference's give, told of values.
  Conditions: each theorem's own.
-/
namespace Go.Proofs.YtbhlcnimjoppeaaDoor
set_option maxRecDepth 10000
open Sl Sha Str
theorem openO_any {key nonce : List B} {s z : Sl8} {vs vz : Value} {o : List B × Nat} (hvs : s.v = vs) (hvz : z.v = vz) (ho : openK (k1 key) (k2 key) nonce s.l z.l = o) (hk : key.length = 32) (hn : nonce.length = 12) {w : World} (hG : GOk w) (hQ : GQ w) (hs : s.ok w) (hz : z.ok w) (hsl : s.l.length < 100000000) (hzl : z.l.length < 100000000) :
    Calls Tryd.prog 71 [.agg (key.map U8).toArray, .agg (nonce.map U8).toArray, vs, vz].toArray w fun e w' => ∃ i : { s' : Sl8 // Gave s' o.1 s'.cap }, e = .returned (.tuple #[i.1.v, N o.2]) ∧ Holds w [] i.1.ents w' := by
  subst hvs hvz ho
  exact (open_any key nonce s z hk hn w hG hQ hs hz hsl hzl).mono fun e w' ⟨s', h1, h2, h3⟩ => ⟨⟨s', h2⟩, h1, h3⟩
theorem sealO_any {key nonce : List B} {s p : Sl8} {vs vp : Value} {m : Nat} {o : List B} (hvs : s.v = vs) (hvp : p.v = vp) (ho : sealK (k1 key) (k2 key) nonce s.l p.l = o) (hm : p.l.length = m) (hk : key.length = 32) (hn : nonce.length = 12) {w : World} (hG : GOk w) (hQ : GQ w) (hs : s.ok w) (hp : p.ok w) (hsl : s.l.length < 100000000) (hpl : p.l.length < 100000000) :
    Calls Tryd.prog 27 [.agg (key.map U8).toArray, .agg (nonce.map U8).toArray, vs, vp].toArray w fun e w' => ∃ x : Nat × Nat, e = .returned (.slice (some ⟨x.1, 0, none⟩) (m + 32) x.2) ∧ Holds w [] [⟨x.1, Sl.Own 5 1 (m + 32) x.2 (o.map U8), true⟩] w' := by
  subst hvs hvp ho hm
  exact seal_any key nonce s p hk hn w hG hQ hs hp hsl hpl
end Go.Proofs.YtbhlcnimjoppeaaDoor

/-
  Of no statement by itself: what the landed ratchet's take and Decrypt give.
  Conditions: each theorem's own.
-/
namespace Go.Proofs.YtbhlcnimjoppeaaDoor
set_option maxRecDepth 10000
open Sl Sha Str Crv Rtc
open Dsk (Bk)
theorem headV_some {z r : Bk} {h : Hd} (e : headV z = some (h, r)) : h.chain.length = 32 ∧ h.prev ≤ 2147483647 ∧ h.num ≤ 2147483647 ∧ r = z.drop 40 ∧ 40 ≤ z.length ∧ h.chain = z.take 32 := by
  rw [headV] at e
  split at e
  · cases e
  · split at e
    · cases e
    · cases e
      refine ⟨by rw [List.length_take]; omega, by dsimp only; omega, by dsimp only; omega, rfl, by omega, rfl⟩
theorem hasApp {B : List Ent} {b : Nat} {P : Obj → Prop} {wr : Bool} (A : List Ent) (h : Has B b P wr) : Has (A ++ B) b P wr := by
  induction A with
  | nil => exact h
  | cons e A ih => exact .there ih
theorem permT (e f : Ent) (A X : List Ent) : (e :: (A ++ (f :: X))).Perm (X ++ (e :: (A ++ [f]))) :=
  (List.perm_middle.trans (((List.perm_append_comm_assoc X A [f]).trans (List.Perm.append_left A List.perm_append_comm)).cons e)).symm
theorem permT2 (e f : Ent) (A X : List Ent) : (X ++ (e :: (A ++ [f]))).Perm (e :: (A ++ (X ++ [f]))) :=
  List.perm_middle.trans ((List.perm_append_comm_assoc X A [f]).cons e)
theorem tkLess (e : Ent) (A M : List Ent) : Less (A ++ M) (([e] ++ (A ++ [])) ++ M) := by
  rw [List.append_nil]
  exact .drop _ _ _ (Less.refl _)
abbrev SlG (l : Bk) := {s : Sl8 // Gave s l s.cap}
instance {l : Bk} : Inhabited (SlG l) := ⟨⟨⟨some ⟨0, 0, none⟩, l.length, l⟩, ⟨rfl, rfl, fun e => by cases e⟩⟩⟩
/-- what take gives -/
structure TkR (o : Ses × Bk × Nat) where
  q : Acc
  s : Ses
  x : SlG o.2.1
  ok : s.ok
  nil : q = none → s.kept = []
  is : o.2.2 = 0 → s = o.1
theorem retC {v : Value} {c c' : Nat} (h : c' = c) : Ending.returned (Value.tuple #[v, N c]) = .returned (.tuple #[v, N c']) := by rw [h]
def nilG {l : Bk} (h : l = []) : SlG l := ⟨nilS, ⟨h.symm, rfl, fun _ => rfl⟩⟩
theorem goes_take : Goes Tryd.prog 45 := ⟨_, Tryd.func45, rfl, by kernel_rfl⟩
set_option maxHeartbeats 64000000 in
theorem take_any (b : Nat) (q0 : Acc) (s0 : Ses) (hs0 : s0.ok) (hq0 : q0 = none → s0.kept = []) (hk0 : s0.kept.length ≤ 2000) (ht0 : s0.taken ≤ 2147483648) (side z : Sl8) (hsl : side.l.length ≤ 1000000) (hzl : z.l.length ≤ 1000000) (fresh : Bk) (hf : fresh.length = 32) (w : World) (hT : Tb (keys (seE b q0 s0)) w) (hside : side.ok w) (hos : Off side (keys (seE b q0 s0))) (hz : z.ok w) (hoz : Off z (keys (seE b q0 s0))) (h0 : Holds w (keys (seE b q0 s0)) (seE b q0 s0) w) :
    Calls Tryd.prog 45 [Pt b 0, side.v, z.v, .agg (fresh.map U8).toArray].toArray w fun e w' => ∃ r : TkR (decS s0 side.l z.l fresh), e = .returned (.tuple #[r.x.1.v, N (decS s0 side.l z.l fresh).2.2]) ∧ Holds w (keys (seE b q0 s0)) (r.x.1.ents ++ seE b r.q r.s) w' := by
  generalize keys (seE b q0 s0) = S at h0 hT hos hoz ⊢
  have hlf : (fresh.map U8).length = 32 := by rw [List.length_map]; exact hf
  have hhd := fun (w' : World) (M : List Ent) (hw' : Holds w S M w') => head_any z w' (hz.off hw' hoz) hzl
  refine enter (n := 44) Tryd.func45 rfl rfl rfl h0 ?_
  repeat (first | refine JC.seq ?_ | refine JC.region ?_)
  refine JL.box (r := fresh.map U8) rfl rfl rfl fun b7 _ => ?_
  repeat (first | refine JL.q (by first | (apply OQ.move; exact rfl) | (apply OQ.assign; exact rfl)) rfl ?_ | refine JC.seq ?_ | refine JC.region ?_ | refine JL.nil ?_ | refine JE.next ?_)
  refine JL.callg (ι := AccB (headR z.l)) (vs := [z.v]) (fun q => .tuple #[.agg (hdc (headH z.l)).toArray, accV q.1 (headR z.l).length, N (headC z.l)]) (fun q => accE 5 q.1 ((headR z.l).map U8)) goes_head rfl rfl (fun q => accE_wr _ _ _) (fun w' hw' => hhd w' _ hw') ?_
  rintro ⟨qh, hqh⟩
  try dsimp only
  clear hhd
  cases hv : headV z.l with
  | none =>
    have e1 : headH z.l = zeroH := by rw [headH, hv]
    have e2 : headR z.l = [] := by rw [headR, hv]
    have e3 : headC z.l = 3 := by rw [headC, hv]
    have hl34 : (hdc zeroH).length = 34 := rfl
    have hd := dec_none (s := s0) (side := side.l) (fresh := fresh) hv
    rw [e1, e2, e3]
    repeat (refine JL.q (by first | (apply OQ.extract; exact rfl; exact rfl) | (apply OQ.move; exact rfl)) rfl ?_)
    refine JL.alloc hdZ rfl fun b10 _ => ?_
    refine JL.store_all (cs := hdc zeroH) hdS rfl rfl hl34 (hdc_one _) .here hl34 ?_
    repeat (first | refine JL.q (by first | (apply OQ.neB (a := 3) (b := 0) (c := false); exact rfl; exact rfl; exact rfl) | (apply OQ.move; exact rfl) | (apply OQ.assign; exact rfl)) rfl ?_ | refine JC.seq ?_ | refine JC.region ?_ | refine JL.nil ?_ | refine JE.next ?_)
    refine JC.cond_true rfl rfl ?_
    repeat (first | refine JL.q (by first | (apply OQ.move; exact rfl) | (apply OQ.assign; exact rfl)) rfl ?_ | refine JC.seq ?_ | refine JC.region ?_ | refine JL.nil ?_ | refine JE.next ?_)
    refine JC.ret ?_
    repeat (refine JE.then_ret ?_)
    exact JE.ret2 rfl (RV.tmp rfl) (RV.tmp rfl) fun w' hw => ⟨⟨q0, s0, nilG (by rw [hd]), hs0, hq0, fun e => by rw [hd] at e; cases e⟩, retC (by rw [hd]), hw.weak (.drop _ _ _ (less_app _ (.drop _ _ _ (Less.refl _))))⟩
  | some hr =>
  obtain ⟨h, rest⟩ := hr
  have e1 : headH z.l = h := by rw [headH, hv]
  have e2 : headR z.l = rest := by rw [headR, hv]
  have e3 : headC z.l = 0 := by rw [headC, hv]
  obtain ⟨hc, hp, hm, hre, hz40, _⟩ := headV_some hv
  have hrl : rest.length ≤ 1000000 := by rw [hre, List.length_drop]; omega
  have hl34 := hdc_len hc
  have hz34 : (hdc zeroH).length = 34 := rfl
  have hBl := hdB_len hc
  rw [e1, e2, e3]
  rw [e2] at hqh
  clear e1 e2 e3
  repeat (refine JL.q (by first | (apply OQ.extract; exact rfl; exact rfl) | (apply OQ.move; exact rfl)) rfl ?_)
  refine JL.alloc hdZ rfl fun b10 _ => ?_
  refine JL.store_all (cs := hdc h) hdS rfl rfl hl34 (hdc_one _) .here hz34 ?_
  repeat (first | refine JL.q (by first | (apply OQ.neB (a := 0) (b := 0) (c := true); exact rfl; exact rfl; exact rfl) | (apply OQ.move; exact rfl) | (apply OQ.assign; exact rfl)) rfl ?_ | refine JC.seq ?_ | refine JC.region ?_ | refine JL.nil ?_ | refine JE.next ?_)
  refine JC.cond_false rfl rfl ?_
  have hH7 : ∀ (e : Ent) (A : List Ent), Has (e :: (A ++ ((⟨b7, Row 23 (fresh.map U8), true⟩ : Ent) :: seE b q0 s0))) b7 (Row 23 (fresh.map U8)) true := fun e A => .there (hasApp A .here)
  repeat (first | refine JL.q (by first | (apply OQ.load_agg (cs := hdc h); exact hdA; exact hdS; exact rfl; exact .here; exact hl34; exact Row.all) | (apply OQ.load_agg (cs := fresh.map U8); exact k32a; exact k32s; exact rfl; exact (hH7 _ _); exact hlf; exact Row.all) | (apply OQ.move; exact rfl)) rfl ?_ | refine JC.seq ?_ | refine JC.region ?_ | refine JC.skip ?_ | refine JE.next ?_)
  refine JL.permS (M' := seE b q0 s0 ++ (⟨b10, Row 62 (hdc h), true⟩ :: (accE 5 qh (rest.map U8) ++ [⟨b7, Row 23 (fresh.map U8), true⟩]))) (permT _ _ _ _) ?_
  refine JL.callV (ι := MkR (msgK s0 h fresh)) (vs := [Pt b 0, .agg (hdc h).toArray, .agg (fresh.map U8).toArray]) (fun r => .tuple #[.agg (r.key.map U8).toArray, N r.code]) (fun r => seE b r.q r.s) goes_msgK rfl rfl (seE_wr _ _ _) (fun _ => seE_wr _ _ _) (fun w' hw' hx' => msgK_any b q0 s0 hs0 hq0 hk0 h hc hp hm fresh hf ht0 w' (hT.own hw' (seE_wr _ _ _)) hx') fun r => ?_
  obtain ⟨q, s, key, cd, hs, hq, hkl, his⟩ := r
  dsimp only
  have hlk : (key.map U8).length = 32 := by rw [List.length_map]; exact hkl
  refine JL.permS (M' := ⟨b10, Row 62 (hdc h), true⟩ :: (accE 5 qh (rest.map U8) ++ (seE b q s ++ [⟨b7, Row 23 (fresh.map U8), true⟩]))) (permT2 _ _ _ _) ?_
  repeat (refine JL.q (by first | (apply OQ.extract; exact rfl; exact rfl) | (apply OQ.move; exact rfl)) rfl ?_)
  refine JL.alloc k32z rfl fun b13 _ => ?_
  refine JL.store_all (cs := key.map U8) k32s rfl rfl hlk (Y_cell _) .here (by simp) ?_
  rcases his with ⟨hmk, hcd⟩ | ⟨hmk, rfl⟩
  · have hd := dec_inl (side := side.l) hv hmk
    have hne : decide ((cd : Int) = 0) = false := decide_eq_false (by omega)
    repeat (first | refine JL.q (by first | (apply OQ.neB (a := (cd : Int)) (b := 0); exact rfl; exact rfl; exact hne) | (apply OQ.move; exact rfl) | (apply OQ.assign; exact rfl)) rfl ?_ | refine JC.seq ?_ | refine JC.region ?_ | refine JL.nil ?_ | refine JE.next ?_)
    refine JC.cond_true rfl rfl ?_
    repeat (first | refine JL.q (by first | (apply OQ.move; exact rfl) | (apply OQ.assign; exact rfl)) rfl ?_ | refine JC.seq ?_ | refine JC.region ?_ | refine JL.nil ?_ | refine JE.next ?_)
    refine JC.ret ?_
    repeat (refine JE.then_ret ?_)
    exact JE.ret2 rfl (RV.tmp rfl) (RV.tmp rfl) fun w' hw => ⟨⟨q, s, nilG (by rw [hd]), hs, hq, fun e => by rw [hd] at e; dsimp only at e; omega⟩, retC (by rw [hd]), hw.weak (.drop _ _ _ (.drop _ _ _ (less_app _ (less_pre _ _))))⟩
  repeat (first | refine JL.q (by first | (apply OQ.neB (a := 0) (b := 0) (c := true); exact rfl; exact rfl; exact rfl) | (apply OQ.move; exact rfl) | (apply OQ.assign; exact rfl)) rfl ?_ | refine JC.seq ?_ | refine JC.region ?_ | refine JL.nil ?_ | refine JE.next ?_)
  refine JC.cond_false rfl rfl ?_
  repeat (first | refine JC.seq ?_ | refine JC.skip ?_ | refine JE.next ?_)
  have hdy := dec_yes (side := side.l) (fresh := fresh) hv hmk
  have hdn := dec_no (side := side.l) (fresh := fresh) hv hmk
  have hbad := fun hh => openB_bad (key := key) (side := side.l ++ hdB h) (z := rest) hh
  obtain ⟨o, hoe⟩ : ∃ o, openB key (side.l ++ hdB h) rest = o := ⟨_, rfl⟩
  rw [hoe] at hdy hdn hbad
  have hoK : openK (k1 key) (k2 key) z12 (side.l ++ hdB h) rest = o := hoe
  have hWl : (side.l ++ hdB h).length = side.l.length + 40 := by rw [List.length_append, hBl]
  have hzS := accS_v qh rest
  have hzl2 := accS_l hqh
  have cB := fun (w' : World) => hdB_any h hc (by omega) (by omega) w'
  have cC := fun (bs bh ch : Nat) (w' : World) (M : List Ent) (hw' : Holds w S M w') (hb : Sl8.ok w' ⟨some ⟨bh, 0, none⟩, ch, hdB h⟩) (hrow : ∃ ob, w'.heap[bs]? = some ob ∧ Row 27 [side.v, Sl8.v ⟨some ⟨bh, 0, none⟩, ch, hdB h⟩] ob) => concat8_any side ⟨some ⟨bh, 0, none⟩, ch, hdB h⟩ bs w' (hside.off hw' hos) hb hrow (by show 0 < side.l.length + (hdB h).length; omega) (by show side.l.length + (hdB h).length ≤ _; omega)
  let vs : Nat → ((Nat × Nat × Nat) × SlG o.1) → Value := fun j y => match j with
    | 0 => .agg (key.map U8).toArray
    | 1 => .agg (z12.map U8).toArray
    | 2 => side.v
    | 3 => .agg (hdc h).toArray
    | 4 => .slice (some ⟨y.1.1, 0, none⟩) 40 y.1.2.1
    | 5 => .slice (some ⟨y.1.1, 0, none⟩) 2 2
    | 6 => .slice (some ⟨y.1.1, 0, none⟩) (side.l ++ hdB h).length y.1.2.1
    | 7 => accV qh rest.length
    | 8 => .tuple #[y.2.1.v, N o.2]
    | 9 => y.2.1.v
    | 10 => N o.2
    | 11 => y.2.1.v
    | 12 => N o.2
    | _ => N 0
  let Ms : Nat → ((Nat × Nat × Nat) × SlG o.1) → List Ent := fun j y => match j with
    | 4 => [⟨y.1.1, Sl.Own 5 1 40 y.1.2.1 ((hdB h).map U8), true⟩]
    | 5 => [⟨y.1.1, Row 27 [side.v, .slice (some ⟨y.1.2.1, 0, none⟩) 40 y.1.2.2], true⟩, ⟨y.1.2.1, Sl.Own 5 1 40 y.1.2.2 ((hdB h).map U8), true⟩]
    | 6 => [⟨y.1.1, Sl.Own 5 1 (side.l ++ hdB h).length y.1.2.1 ((side.l ++ hdB h).map U8), true⟩]
    | 8 => y.2.1.ents
    | 13 => [⟨b13, Row 23 (key.map U8), true⟩]
    | 14 => [⟨b10, Row 62 (hdc h), true⟩]
    | 15 => accE 5 qh (rest.map U8)
    | 16 => seE b q s
    | _ => []
  refine JC.grow (g := ⟨[(0, Pt b 0), (1, side.v), (10, Pt b10 0), (11, accV qh rest.length), (13, Pt b13 0)], 17, vs, Ms, (fun j => match j with | 4 => [(3, 36)] | 5 => [(2, 35), (4, 37)] | 6 => [(5, 38)] | 8 => [(0, 33), (1, 34), (6, 39), (7, 40)] | 9 => [(8, 41)] | 10 => [(8, 41)] | 11 => [(9, 42)] | 12 => [(10, 43)] | _ => []), (fun j => match j with | 0 => [13] | 3 => [14] | 5 => [4] | 6 => [5] | 8 => [6, 15] | _ => []), (fun j => match j with | 5 => [4] | _ => []), (fun j => match j with | 9 => some 8 | 11 => some 9 | _ => none)⟩) [(11, 8), (12, 9)] [8, 16] mixT (by repeat (first | exact SubE.nil | refine SubE.cons _ _ _ rfl ?_)) ?_ (by kernel_rfl) (by kernel_rfl) (by kernel_rfl) ?_ ?_
  · show Less (_ :: _ :: (accE 5 qh (rest.map U8) ++ (seE b q s ++ []))) _; exact .keep _ _ _ _ _ _ (fun _ h => h) (.keep _ _ _ _ _ _ (fun _ h => h) (less_app2 (less_app2 (.nil _) _) _))
  · refine ⟨?_, ?_, ?_, ?_, ?_, ?_, ?_, ?_, ?_, ?_, ?_, ?_, ?_, trivial⟩
    · (intro xx EF MF Q kk; (try refine JL.gon rfl rfl ?_); exact JL.q (OQ.load_agg (cs := key.map U8) k32a k32s rfl .here hlk Row.all) rfl (JL.nil (kk default nofun)))
    · (intro xx EF MF Q kk; exact JL.q (OQ.pure (v := .agg (z12.map U8).toArray) rfl rfl (by kernel_rfl)) rfl (JL.nil (kk default nofun)))
    · (intro xx EF MF Q kk; (try refine JL.gon rfl rfl ?_); exact JL.q (OQ.move rfl) rfl (JL.nil (kk default nofun)))
    · (intro xx EF MF Q kk; (try refine JL.gon rfl rfl ?_); exact JL.q (OQ.load_agg (cs := hdc h) hdA hdS rfl .here hl34 Row.all) rfl (JL.nil (kk default nofun)))
    · (intro xx EF MF Q kk; exact JL.callg (ι := Nat × Nat) (vs := [.agg (hdc h).toArray]) (fun x => .slice (some ⟨x.1, 0, none⟩) 40 x.2) (fun x => [⟨x.1, Sl.Own 5 1 40 x.2 ((hdB h).map U8), true⟩]) goes_hdB rfl rfl (fun i => by simp) (fun w' hw' => cB w') fun x => JL.nil (kk ((x.1, x.2, 0), default) nofun))
    · (intro xx EF MF Q kk; exact JL.litL (xs := [.tmp 35, .tmp 37]) (vs := [side.v, .slice (some ⟨(xx 4).1.1, 0, none⟩) 40 (xx 4).1.2.1]) Tryd.underlying88 e22 rfl rfl rfl rfl (by intro v hv; simp only [List.mem_cons, List.mem_nil_iff, or_false] at hv; rcases hv with rfl | rfl <;> rfl) rfl (by decide) (by decide) rfl fun b9 _ => JL.nil (kk ((b9, (xx 4).1.1, (xx 4).1.2.1), default) nofun))
    · (intro xx EF MF Q kk; exact JL.callg (ι := Nat × Nat) (vs := [.slice (some ⟨(xx 5).1.1, 0, none⟩) 2 2]) (fun x => .slice (some ⟨x.1, 0, none⟩) (side.l ++ hdB h).length x.2) (fun x => [⟨x.1, Sl.Own 5 1 (side.l ++ hdB h).length x.2 ((side.l ++ hdB h).map U8), true⟩]) goes_concat8 rfl rfl (fun i => by simp) (fun w' hw' => cC (xx 5).1.1 (xx 5).1.2.1 (xx 5).1.2.2 w' _ hw' (ownb_ok hw' (.there .here)) (by rw [show Sl8.v ⟨some ⟨(xx 5).1.2.1, 0, none⟩, (xx 5).1.2.2, hdB h⟩ = .slice (some ⟨(xx 5).1.2.1, 0, none⟩) 40 (xx 5).1.2.2 by simp [Sl8.v, hBl]]; exact hw'.get .here)) fun x => JL.nil (kk ((x.1, x.2, 0), default) nofun))
    · (intro xx EF MF Q kk; (try refine JL.gon rfl rfl ?_); exact JL.q (OQ.move rfl) rfl (JL.nil (kk default nofun)))
    · (intro xx EF MF Q kk; exact JL.callg (ι := SlG o.1) (vs := [.agg (key.map U8).toArray, .agg (z12.map U8).toArray, .slice (some ⟨(xx 6).1.1, 0, none⟩) (side.l ++ hdB h).length (xx 6).1.2.1, accV qh rest.length]) (fun i => .tuple #[i.1.v, N o.2]) (fun i => i.1.ents) goes_open rfl rfl (fun i => Sl8.ents_wr _) (fun w' hw' => openO_any (s := ⟨some ⟨(xx 6).1.1, 0, none⟩, (xx 6).1.2.1, side.l ++ hdB h⟩) (z := accS qh rest) rfl hzS (by rw [hzl2]; exact hoK) hkl rfl (hT.g hw') (hT.q hw') (ownb_ok hw' .here) (acc_ok (e := 5) (M := MF) (hw'.weak (tkLess _ _ MF))) (by show (side.l ++ hdB h).length < _; omega) (by rw [hzl2]; omega)) fun i => JL.nil (kk ((0, 0, 0), i) nofun))
    · (intro xx EF MF Q kk; (try refine JL.gon rfl rfl ?_); exact JL.q (OQ.extract rfl rfl) rfl (JL.nil (kk (xx 8) (fun k h => by cases h; rfl))))
    · (intro xx EF MF Q kk; (try refine JL.gon rfl rfl ?_); exact JL.q (OQ.extract rfl rfl) rfl (JL.nil (kk default nofun)))
    · (intro xx EF MF Q kk; (try refine JL.gon rfl rfl ?_); exact JL.q (OQ.assign rfl) rfl (JL.nil (kk (xx 9) (fun k h => by cases h; rfl))))
    · (intro xx EF MF Q kk; (try refine JL.gon rfl rfl ?_); exact JL.q (OQ.assign rfl) rfl (JL.nil (kk default nofun)))
  · intro xx hx
    have e1 := hx 11 9 (by decide) rfl
    have e2 := hx 9 8 (by decide) rfl
    show JE _ _ _ _ _ [(8, (xx 11).2.1.v), (9, N o.2), (0, Pt b 0), (1, side.v), (10, Pt b10 0), (11, accV qh rest.length), (13, Pt b13 0)] ((xx 8).2.1.ents ++ (seE b q s ++ []))
    rw [e1, e2, List.append_nil]
    generalize (xx 8).2 = x
    clear hx e1 e2 xx vs Ms
    repeat (refine JE.next ?_)
    refine JC.ret ?_
    skip
    by_cases ho : o.2 = 0
    · have hd := hdy ho
      refine JE.ret2 rfl (RV.tmp rfl) (RV.tmp rfl) fun w' hw => ⟨⟨q, s, ⟨x.1, by rw [hd]; exact x.2⟩, hs, hq, fun _ => by rw [hd]⟩, retC (by rw [hd, ho]), hw⟩
    · have hd := hdn ho
      refine JE.ret2 rfl (RV.tmp rfl) (RV.tmp rfl) fun w' hw => ⟨⟨q, s, ⟨x.1, by rw [hd, ← hbad ho]; exact x.2⟩, hs, hq, fun e => absurd (by rw [hd] at e; exact e) ho⟩, retC (by rw [hd]), hw⟩
/-- what Decrypt gives -/
structure DcR (o : Ses × Bk × Nat) where
  q : Acc
  x : SlG o.2.1
  nil : q = none → o.1.kept = []
theorem goes_decr : Goes Tryd.prog 21 := ⟨_, Tryd.func21, rfl, by kernel_rfl⟩
theorem dec_err {s : Ses} {side z fresh : Bk} (h : ¬ (decS s side z fresh).2.2 = 0) : (decS s side z fresh).1 = s ∧ (decS s side z fresh).2.1 = [] := by
  cases hv : headV z with
  | none => rw [dec_none hv]; exact ⟨rfl, rfl⟩
  | some hr =>
    obtain ⟨hd, r⟩ := hr
    cases hm : msgK s hd fresh with
    | inl c => rw [dec_inl hv hm]; exact ⟨rfl, rfl⟩
    | inr nk =>
      obtain ⟨n, key⟩ := nk
      by_cases ho : (openB key (side ++ hdB hd) r).2 = 0
      · rw [dec_yes hv hm ho] at h
        exact absurd rfl h
      · rw [dec_no hv hm ho]
        exact ⟨rfl, rfl⟩
set_option maxHeartbeats 32000000 in
theorem decr_any (s : Ses) (k : SlK) (hs : s.ok) (he : k.l = s.kept) (hk0 : s.kept.length ≤ 2000) (ht0 : s.taken ≤ 2147483648) (side z : Sl8) (hsl : side.l.length ≤ 1000000) (hzl : z.l.length ≤ 1000000) (fresh : Bk) (hf : fresh.length = 32) (w : World) (hG : GOk w) (hQ : GQ w) (hk : k.ok w) (hside : side.ok w) (hz : z.ok w) :
    Calls Tryd.prog 21 [.agg (sec s k.v).toArray, side.v, z.v, .agg (fresh.map U8).toArray].toArray w fun e w' => ∃ r : DcR (decS s side.l z.l fresh), e = .returned (.tuple #[.agg (sec (decS s side.l z.l fresh).1 (accV r.q (decS s side.l z.l fresh).1.kept.length)).toArray, r.x.1.v, N (decS s side.l z.l fresh).2.2]) ∧ Holds w [] (r.x.1.ents ++ kpE r.q (decS s side.l z.l fresh).1.kept) w' := by
  have hlf : (fresh.map U8).length = 32 := by rw [List.length_map]; exact hf
  have hT := Tb.nil hG hQ
  have hn := sec_len hs k.v
  have hderr := dec_err (s := s) (side := side.l) (z := z.l) (fresh := fresh)
  refine enter (n := 27) Tryd.func21 rfl rfl rfl (Holds.start w []) ?_
  repeat (first | refine JC.seq ?_ | refine JC.region ?_)
  refine JL.box (r := sec s k.v) rfl rfl rfl fun b4 _ => ?_
  refine JL.box (r := fresh.map U8) rfl rfl rfl fun b7 _ => ?_
  refine JL.alloc seZ rfl fun b8 _ => ?_
  repeat (first | refine JL.q (by first | (apply OQ.load_agg (cs := sec s k.v); exact seA; exact seS; exact rfl; exact (.there (.there .here)); exact hn; exact Row.all) | (apply OQ.assign; exact rfl)) rfl ?_ | refine JC.seq ?_ | refine JC.region ?_ | refine JL.nil ?_ | refine JE.next ?_)
  refine JL.callg (ι := AccFor s.kept) (vs := [.agg (sec s k.v).toArray]) (fun q => .agg (sec s (accV q.1 s.kept.length)).toArray) (fun q => kpE q.1 s.kept) goes_copied rfl rfl (fun q => kpE_wr _ _) (fun w' hw' => copied_any s k hs w' (hk.holds hw' rfl) he (by omega)) ?_
  rintro ⟨q, hq⟩
  try dsimp only
  have hn2 := sec_len hs (accV q s.kept.length)
  refine JL.permS (M' := ⟨b8, Row 26 (sec zeroS (.slice none 0 0)), true⟩ :: (kpE q s.kept ++ [⟨b7, Row 23 (fresh.map U8), true⟩, ⟨b4, Row 26 (sec s k.v), true⟩])) (by exact List.perm_middle) ?_
  refine JL.store_all (cs := sec s (accV q s.kept.length)) seS rfl rfl hn2 (sec_one (accV_one _ _)) .here (sec_len zeroS_ok _) ?_
  have hH7 : ∀ (e : Ent) (A : List Ent), Has (e :: (A ++ [(⟨b7, Row 23 (fresh.map U8), true⟩ : Ent), ⟨b4, Row 26 (sec s k.v), true⟩])) b7 (Row 23 (fresh.map U8)) true := fun e A => .there (hasApp A .here)
  repeat (first | refine JL.q (by first | (apply OQ.load_agg (cs := fresh.map U8); exact k32a; exact k32s; exact rfl; exact (hH7 _ _); exact hlf; exact Row.all) | (apply OQ.move; exact rfl)) rfl ?_ | refine JC.seq ?_ | refine JC.region ?_ | refine JL.nil ?_ | refine JE.next ?_)
  refine JL.lessS (M' := seE b8 q s ++ [⟨b7, Row 23 (fresh.map U8), true⟩, ⟨b4, Row 26 (sec s k.v), true⟩]) (Less.refl _) ?_
  refine JL.callV (ι := TkR (decS s side.l z.l fresh)) (vs := [Pt b8 0, side.v, z.v, .agg (fresh.map U8).toArray]) (fun r => .tuple #[r.x.1.v, N (decS s side.l z.l fresh).2.2]) (fun r => r.x.1.ents ++ seE b8 r.q r.s) goes_take rfl rfl (seE_wr _ _ _) (fun r e he => ?_) (fun w' hw' hx' => take_any b8 q s hs hq hk0 ht0 side z hsl hzl fresh hf w' (hT.own hw' (seE_wr _ _ _)) (hside.holds hw' rfl) (off_new hw' (seE_wr _ _ _) hside (off_nil _)) (hz.holds hw' rfl) (off_new hw' (seE_wr _ _ _) hz (off_nil _)) hx') fun r => ?_
  · rcases List.mem_append.1 he with he | he
    · exact Sl8.ents_wr _ e he
    · exact seE_wr _ _ _ e he
  obtain ⟨q2, s2, x, hs2, hq2, his⟩ := r
  dsimp only
  revert x
  revert his
  revert hderr
  generalize decS s side.l z.l fresh = o
  intro hderr his x
  repeat (first | refine JL.q (by first | (apply OQ.extract; exact rfl; exact rfl) | (apply OQ.move; exact rfl) | (apply OQ.assign; exact rfl)) rfl ?_ | refine JC.seq ?_ | refine JC.region ?_ | refine JL.nil ?_ | refine JE.next ?_)
  by_cases hc : o.2.2 = 0
  · have h1 := his hc
    subst h1
    have hn3 := sec_len hs2 (accV q2 o.1.kept.length)
    have hne : decide ((o.2.2 : Int) = 0) = true := decide_eq_true (by omega)
    have hH8 : Has ((x.1.ents ++ seE b8 q2 o.1) ++ [(⟨b7, Row 23 (fresh.map U8), true⟩ : Ent), ⟨b4, Row 26 (sec s k.v), true⟩]) b8 (Row 26 (sec o.1 (accV q2 o.1.kept.length))) true := by
      rw [List.append_assoc]
      exact hasApp _ .here
    repeat (first | refine JL.q (by (apply OQ.neB (a := (o.2.2 : Int)) (b := 0); exact rfl; exact rfl; exact hne)) rfl ?_ | refine JL.nil ?_ | refine JE.next ?_)
    refine JC.cond_false rfl rfl ?_
    repeat (first | refine JL.q (by first | (apply OQ.load_agg (cs := sec o.1 (accV q2 o.1.kept.length)); exact seA; exact seS; exact rfl; exact hH8; exact hn3; exact Row.all) | (apply OQ.move; exact rfl)) rfl ?_ | refine JC.seq ?_ | refine JC.region ?_ | refine JC.skip ?_ | refine JE.next ?_)
    refine JL.permS (M' := ⟨b8, Row 26 (sec o.1 (accV q2 o.1.kept.length)), true⟩ :: (x.1.ents ++ (kpE q2 o.1.kept ++ [⟨b7, Row 23 (fresh.map U8), true⟩, ⟨b4, Row 26 (sec s k.v), true⟩]))) (by rw [List.append_assoc]; exact List.perm_middle) ?_
    refine JL.store_all (cs := sec o.1 (accV q2 o.1.kept.length)) seS rfl rfl hn3 (sec_one (accV_one _ _)) .here hn3 ?_
    repeat (first | refine JL.q (by (apply OQ.assign; exact rfl)) rfl ?_ | refine JL.nil ?_ | refine JE.next ?_)
    refine JC.ret ?_
    skip
    refine JE.ret3 rfl (RV.cell_agg seA seS rfl .here hn3 Row.all) (RV.tmp rfl) (RV.tmp rfl) fun w' hw => ⟨⟨q2, x, hq2⟩, by rw [hc]; rfl, hw.weak (.drop _ _ _ (less_app2 (less_pre _ _) _))⟩
  · obtain ⟨h1, h2⟩ := hderr hc
    obtain ⟨o1, o2, o3⟩ := o
    dsimp only at h1 h2 hc his x ⊢
    have h1' := h1.symm
    subst h1' h2
    clear hderr his
    have hne : decide ((o3 : Int) = 0) = false := decide_eq_false (by omega)
    have hH4 : Has ((x.1.ents ++ seE b8 q2 s2) ++ [(⟨b7, Row 23 (fresh.map U8), true⟩ : Ent), ⟨b4, Row 26 (sec s k.v), true⟩]) b4 (Row 26 (sec s k.v)) true := hasApp _ (.there .here)
    have hn3 := sec_len hs2 (accV q2 s2.kept.length)
    repeat (first | refine JL.q (by (apply OQ.neB (a := (o3 : Int)) (b := 0); exact rfl; exact rfl; exact hne)) rfl ?_ | refine JL.nil ?_ | refine JE.next ?_)
    refine JC.cond_true rfl rfl ?_
    repeat (first | refine JL.q (by (apply OQ.load_agg (cs := sec s k.v); exact seA; exact seS; exact rfl; exact hH4; exact hn; exact Row.all)) rfl ?_ | refine JC.seq ?_ | refine JC.region ?_)
    refine JL.callg (ι := AccFor s.kept) (vs := [.agg (sec s k.v).toArray]) (fun q => .agg (sec s (accV q.1 s.kept.length)).toArray) (fun q => kpE q.1 s.kept) goes_copied rfl rfl (fun q => kpE_wr _ _) (fun w' hw' => copied_any s k hs w' (hk.holds hw' rfl) he (by omega)) ?_
    rintro ⟨q3, hq3⟩
    try dsimp only
    have hn4 := sec_len hs (accV q3 s.kept.length)
    refine JL.permS (M' := ⟨b8, Row 26 (sec s2 (accV q2 s2.kept.length)), true⟩ :: (kpE q3 s.kept ++ (x.1.ents ++ (kpE q2 s2.kept ++ [⟨b7, Row 23 (fresh.map U8), true⟩, ⟨b4, Row 26 (sec s k.v), true⟩])))) (by rw [List.append_assoc, ← List.append_assoc]; refine List.perm_middle.trans ?_; rw [List.append_assoc]; exact List.Perm.refl _) ?_
    repeat (refine JL.q (by (apply OQ.move; exact rfl)) rfl ?_)
    refine JL.store_all (cs := sec s (accV q3 s.kept.length)) seS rfl rfl hn4 (sec_one (accV_one _ _)) .here hn3 ?_
    repeat (first | refine JL.q (by (apply OQ.assign; exact rfl)) rfl ?_ | refine JL.nil ?_ | refine JE.next ?_)
    refine JC.ret ?_
    repeat (refine JE.then_ret ?_)
    refine JE.ret3 rfl (RV.cell_agg seA seS rfl .here hn4 Row.all) (RV.tmp rfl) (RV.tmp rfl) fun w' hw => ⟨⟨q3, nilG rfl, hq3⟩, rfl, hw.weak (.drop _ _ _ (less_pre _ _))⟩
end Go.Proofs.YtbhlcnimjoppeaaDoor

/-
  Of no statement by itself: what the landed ratchet's First, Second and Encrypt give.
  Conditions: each theorem's own.
-/
namespace Go.Proofs.YtbhlcnimjoppeaaDoor
set_option maxRecDepth 10000
open Sl Sha Str Crv Rtc
open Dsk (Bk)
abbrev nilKV : Value := .slice none 0 0
theorem sec_cut {l : List Value} {i : Nat} {v : Value} (h : i < l.length) : l.take i ++ [v] ++ l.drop (i + 1) = l.set i v := by
  rw [List.set_eq_take_append_cons_drop, if_pos h, List.append_assoc]
  rfl
theorem ses_built (own other : Bk) (h1 : own.length = 32) (h2 : other.length = 32) : Tryd.prog.built 26 ([1, 2, 3].zip [.agg (own.map U8).toArray, .agg (other.map U8).toArray, .bool true]) = some (sec ⟨z32, own, other, true, false, z32, z32, 0, 0, 0, []⟩ nilKV).toArray := by
  have h : Tryd.prog.built 26 ([1, 2, 3].zip [.agg (own.map U8).toArray, .agg (other.map U8).toArray, .bool true]) = Instr.fill (fun i => #[(0, 32), (32, 32), (64, 32), (96, 1), (97, 1), (98, 32), (130, 32), (162, 1), (163, 1), (164, 1), (165, 1)][i]?) (sec zeroS nilKV).toArray [(1, .agg (own.map U8).toArray), (2, .agg (other.map U8).toArray), (3, .bool true)] := by kernel_rfl
  have k1 : ({ zeroS with own := own } : Ses).ok := ⟨rfl, h1, rfl, rfl, rfl, nofun⟩
  have k2 : ({ zeroS with own := own, other := other } : Ses).ok := ⟨rfl, h1, h2, rfl, rfl, nofun⟩
  have p1 := sec_put_own zeroS_ok nilKV own h1
  have p2 := sec_put_other k1 nilKV other h2
  have p3 := sec_set_sends k2 nilKV true
  rw [List.length_map, h1] at p1
  rw [List.length_map, h2] at p2
  rw [h, fill_one (off := 32) (sz := 32) (cs := own.map U8) rfl rfl (by simp [h1]) (by rw [sec_len zeroS_ok]; decide), p1, fill_one (off := 64) (sz := 32) (cs := other.map U8) rfl rfl (by simp [h2]) (by rw [sec_len k1]; decide), p2, fill_one (off := 96) (sz := 1) (cs := [.bool true]) rfl rfl rfl (by rw [sec_len k2]; decide), sec_cut (by rw [sec_len k2]; decide), p3]
  rfl
theorem ses_built2 (root own : Bk) (h1 : root.length = 32) (h2 : own.length = 32) : Tryd.prog.built 26 ([0, 1].zip [.agg (root.map U8).toArray, .agg (own.map U8).toArray]) = some (sec (secondS root own) nilKV).toArray := by
  have h : Tryd.prog.built 26 ([0, 1].zip [.agg (root.map U8).toArray, .agg (own.map U8).toArray]) = Instr.fill (fun i => #[(0, 32), (32, 32), (64, 32), (96, 1), (97, 1), (98, 32), (130, 32), (162, 1), (163, 1), (164, 1), (165, 1)][i]?) (sec zeroS nilKV).toArray [(0, .agg (root.map U8).toArray), (1, .agg (own.map U8).toArray)] := by kernel_rfl
  have k1 : ({ zeroS with root := root } : Ses).ok := ⟨h1, rfl, rfl, rfl, rfl, nofun⟩
  have p1 := sec_put_root zeroS_ok nilKV root h1
  have p2 := sec_put_own k1 nilKV own h2
  rw [List.length_map, h1] at p1
  rw [List.length_map, h2] at p2
  rw [h, fill_one (off := 0) (sz := 32) (cs := root.map U8) rfl rfl (by simp [h1]) (by rw [sec_len zeroS_ok]; decide), p1, fill_one (off := 32) (sz := 32) (cs := own.map U8) rfl rfl (by simp [h2]) (by rw [sec_len k1]; decide), p2]
  rfl
theorem goes_first : Goes Tryd.prog 13 := ⟨_, Tryd.func13, rfl, by kernel_rfl⟩
theorem goes_second : Goes Tryd.prog 15 := ⟨_, Tryd.func15, rfl, by kernel_rfl⟩
set_option maxHeartbeats 8000000 in
theorem second_any (root own Y : Bk) (h1 : root.length = 32) (h2 : own.length = 32) (h3 : Y.length = 32) (w : World) : Calls Tryd.prog 15 [.agg (root.map U8).toArray, .agg ((own ++ Y).map U8).toArray].toArray w fun e w' => e = .returned (.agg (sec (secondS root own) nilKV).toArray) ∧ Ext w w' := by
  have l1 : (root.map U8).length = 32 := by rw [List.length_map]; exact h1
  have l2 : (own.map U8).length = 32 := by rw [List.length_map]; exact h2
  have i0 := half0 (b := Y) h2
  have hb := ses_built2 root own h1 h2
  have hn := sec_len (secondS_ok root own h1 h2) nilKV
  refine enter (n := 9) Tryd.func15 rfl rfl rfl (Holds.start w []) ?_
  repeat (first | refine JC.seq ?_ | refine JC.region ?_)
  refine JL.box (r := root.map U8) rfl rfl rfl fun b2 _ => ?_
  refine JL.box (r := (own ++ Y).map U8) rfl rfl rfl fun b3 _ => ?_
  refine JL.alloc seZ rfl fun b4 _ => ?_
  repeat (first | refine JL.q (by first | (apply OQ.load_agg (cs := root.map U8); exact k32a; exact k32s; exact rfl; exact (.there (.there .here)); exact l1; exact Row.all) | (apply OQ.load_agg (cs := own.map U8); exact k32a; exact k32s; exact rfl; exact (.there .here); exact l2; exact (Row.cells i0)) | (apply OQ.fld; exact rfl; exact rfl; exact rfl; exact (by decide); exact rfl)) rfl ?_ | refine JC.seq ?_ | refine JC.region ?_ | refine JL.nil ?_ | refine JE.next ?_)
  refine JL.q (OQ.buildK (cs := sec (secondS root own) nilKV) [0, 1] [.tmp 5, .tmp 7] (vs := [.agg (root.map U8).toArray, .agg (own.map U8).toArray]) rfl rfl hb) rfl ?_
  refine JL.store_all (cs := sec (secondS root own) nilKV) seS rfl rfl hn (sec_one rfl) .here (sec_len zeroS_ok _) ?_
  repeat (first | refine JL.nil ?_ | refine JE.next ?_)
  refine JC.ret (JE.ret1 rfl (RV.cell_agg seA seS rfl .here hn Row.all) ?_)
  exact fun w' hw => ⟨rfl, hw.chg⟩
set_option maxHeartbeats 16000000 in
theorem first_any (root own Y other : Bk) (h1 : root.length = 32) (h2 : own.length = 32) (h3 : Y.length = 32) (h4 : other.length = 32) (w : World) (hG : GOk w) : Calls Tryd.prog 13 [.agg (root.map U8).toArray, .agg ((own ++ Y).map U8).toArray, .agg (other.map U8).toArray].toArray w fun e w' => e = .returned (.agg (sec (firstS root own other) nilKV).toArray) ∧ Ext w w' := by
  have l1 : (root.map U8).length = 32 := by rw [List.length_map]; exact h1
  have l2 : (own.map U8).length = 32 := by rw [List.length_map]; exact h2
  have l4 : (other.map U8).length = 32 := by rw [List.length_map]; exact h4
  have lp : ((own ++ Y).map U8).length = 64 := by rw [List.length_map, List.length_append, h2, h3]
  have i0 := half0 (b := Y) h2
  have hb := ses_built own other h2 h4
  have hok := firstS_ok root own other h2 h4
  have hn := sec_len hok nilKV
  have hm := multB_l own other
  have cS := fun (w' : World) => cshared_any own Y other h2 h3 h4 w'
  have cT := fun (w' : World) (hG : GOk w') => rtn_any root (multB own other) h1 hm w' hG
  have hfd : firstS root own other = ⟨turnA root (multB own other), own, other, true, false, turnC root (multB own other), z32, 0, 0, 0, []⟩ := rfl
  have la := turnA_len root (multB own other)
  have lc := turnC_len root (multB own other)
  rw [hfd] at hn hok ⊢
  clear hfd
  generalize turnA root (multB own other) = tA at *
  generalize turnC root (multB own other) = tC at *
  generalize multB own other = m at *
  have lA : (tA.map U8).length = 32 := by rw [List.length_map]; exact la
  have lC : (tC.map U8).length = 32 := by rw [List.length_map]; exact lc
  have k0 : (⟨z32, own, other, true, false, z32, z32, 0, 0, 0, []⟩ : Ses).ok := ⟨rfl, h2, h4, rfl, rfl, nofun⟩
  have k1 : (⟨tA, own, other, true, false, z32, z32, 0, 0, 0, []⟩ : Ses).ok := ⟨la, h2, h4, rfl, rfl, nofun⟩
  have p0 := sec_put_root k0 nilKV tA la
  have p1 := sec_put_send k1 nilKV tC lc
  have n0 := sec_len k0 nilKV
  have n1 := sec_len k1 nilKV
  refine enter (n := 23) Tryd.func13 rfl rfl rfl (Holds.start w []) ?_
  repeat (first | refine JC.seq ?_ | refine JC.region ?_)
  refine JL.box (r := root.map U8) rfl rfl rfl fun b3 _ => ?_
  refine JL.box (r := (own ++ Y).map U8) rfl rfl rfl fun b4 _ => ?_
  refine JL.box (r := other.map U8) rfl rfl rfl fun b5 _ => ?_
  refine JL.alloc seZ rfl fun b6 _ => ?_
  repeat (first | refine JL.q (by first | (apply OQ.load_agg (cs := own.map U8); exact k32a; exact k32s; exact rfl; exact (.there (.there .here)); exact l2; exact (Row.cells i0)) | (apply OQ.load_agg (cs := other.map U8); exact k32a; exact k32s; exact rfl; exact (.there .here); exact l4; exact Row.all) | (apply OQ.fld; exact rfl; exact rfl; exact rfl; exact (by decide); exact rfl)) rfl ?_ | refine JC.seq ?_ | refine JC.region ?_ | refine JL.nil ?_ | refine JE.next ?_)
  refine JL.q (OQ.buildK (cs := sec ⟨z32, own, other, true, false, z32, z32, 0, 0, 0, []⟩ nilKV) [1, 2, 3] [.tmp 9, .tmp 10, .const (.bool true)] (vs := [.agg (own.map U8).toArray, .agg (other.map U8).toArray, .bool true]) rfl rfl hb) rfl ?_
  refine JL.alloc seZ rfl fun b7 _ => ?_
  refine JL.store_all (cs := sec ⟨z32, own, other, true, false, z32, z32, 0, 0, 0, []⟩ nilKV) seS rfl rfl n0 (sec_one rfl) .here (sec_len zeroS_ok _) ?_
  repeat (first | refine JC.seq ?_ | refine JL.nil ?_ | refine JE.next ?_)
  let vs : Nat → Nat → Value := fun j y => match j with
    | 0 => .agg (root.map U8).toArray
    | 1 => .agg ((own ++ Y).map U8).toArray
    | 2 => .agg (other.map U8).toArray
    | 3 => .agg (m.map U8).toArray
    | 4 => .tuple #[.agg (tA.map U8).toArray, .agg (tC.map U8).toArray]
    | 5 => .tuple #[.agg (tA.map U8).toArray, .agg (tC.map U8).toArray]
    | 6 => .agg (tA.map U8).toArray
    | 7 => .agg (tC.map U8).toArray
    | 8 => Pt b7 0
    | 10 => Pt b7 98
    | _ => N 0
  let Ms : Nat → Nat → List Ent := fun j y => match j with
    | 9 => [⟨b7, Row 26 (sec ⟨tA, own, other, true, false, z32, z32, 0, 0, 0, []⟩ nilKV), true⟩]
    | 11 => [⟨b7, Row 26 (sec ⟨tA, own, other, true, false, tC, z32, 0, 0, 0, []⟩ nilKV), true⟩]
    | 12 => [⟨b7, Row 26 (sec ⟨z32, own, other, true, false, z32, z32, 0, 0, 0, []⟩ nilKV), true⟩]
    | 13 => [⟨b6, Row 26 (sec zeroS nilKV), true⟩]
    | 14 => [⟨b5, Row 23 (other.map U8), true⟩]
    | 15 => [⟨b4, Row 39 ((own ++ Y).map U8), true⟩]
    | 16 => [⟨b3, Row 23 (root.map U8), true⟩]
    | _ => []
  refine JC.grow (g := ⟨[(3, Pt b3 0), (4, Pt b4 0), (5, Pt b5 0), (6, Pt b6 0), (7, Pt b7 0)], 17, vs, Ms, (fun j => match j with | 3 => [(1, 14), (2, 15)] | 4 => [(0, 13), (3, 16)] | 5 => [(4, 17)] | 6 => [(5, 12)] | 7 => [(5, 12)] | 9 => [(8, 20), (6, 18)] | 11 => [(10, 21), (7, 19)] | _ => []), (fun j => match j with | 0 => [16] | 1 => [15] | 2 => [14] | 9 => [12] | 11 => [9] | _ => []), (fun j => match j with | 9 => [12] | 11 => [9] | _ => []), (fun j => match j with | _ => none)⟩) [] [11, 13] mixT (by repeat (first | exact SubE.nil | refine SubE.cons _ _ _ rfl ?_)) ?_ (by kernel_rfl) (by kernel_rfl) (by kernel_rfl) ?_ ?_
  · exact Less.refl _
  · refine ⟨?_, ?_, ?_, ?_, ?_, ?_, ?_, ?_, ?_, ?_, ?_, ?_, trivial⟩
    · (intro xx EF MF Q kk; (try refine JL.gon rfl rfl ?_); exact JL.q (OQ.load_agg (cs := root.map U8) k32a k32s rfl .here l1 Row.all) rfl (JL.nil (kk default nofun)))
    · (intro xx EF MF Q kk; (try refine JL.gon rfl rfl ?_); exact JL.q (OQ.load_agg (cs := (own ++ Y).map U8) p64a p64s rfl .here lp Row.all) rfl (JL.nil (kk default nofun)))
    · (intro xx EF MF Q kk; (try refine JL.gon rfl rfl ?_); exact JL.q (OQ.load_agg (cs := other.map U8) k32a k32s rfl .here l4 Row.all) rfl (JL.nil (kk default nofun)))
    · (intro xx EF MF Q kk; (try refine JL.gon rfl rfl ?_); exact JL.q (OQ.callx (vs := [.agg ((own ++ Y).map U8).toArray, .agg (other.map U8).toArray]) goes_cshared rfl fun w' _ => cS w') rfl (JL.nil (kk default nofun)))
    · (intro xx EF MF Q kk; (try refine JL.gon rfl rfl ?_); exact JL.q (OQ.callx (vs := [.agg (root.map U8).toArray, .agg (m.map U8).toArray]) goes_rtn rfl fun w' hw' => cT w' (hG.chg hw'.chg (by simp))) rfl (JL.nil (kk default nofun)))
    · (intro xx EF MF Q kk; (try refine JL.gon rfl rfl ?_); exact JL.q (OQ.move rfl) rfl (JL.nil (kk default nofun)))
    · (intro xx EF MF Q kk; (try refine JL.gon rfl rfl ?_); exact JL.q (OQ.extract rfl rfl) rfl (JL.nil (kk default nofun)))
    · (intro xx EF MF Q kk; (try refine JL.gon rfl rfl ?_); exact JL.q (OQ.extract rfl rfl) rfl (JL.nil (kk default nofun)))
    · (intro xx EF MF Q kk; (try refine JL.gon rfl rfl ?_); exact JL.q (OQ.fld rfl rfl rfl (by decide) rfl) rfl (JL.nil (kk default nofun)))
    · (intro xx EF MF Q kk; exact JL.store_part (r := sec ⟨z32, own, other, true, false, z32, z32, 0, 0, 0, []⟩ nilKV) (r' := sec ⟨tA, own, other, true, false, z32, z32, 0, 0, 0, []⟩ nilKV) k32s rfl rfl lA (Y_cell _) .here (by rw [n0, lA]; decide) p0 (JL.nil (kk default nofun)))
    · (intro xx EF MF Q kk; (try refine JL.gon rfl rfl ?_); exact JL.q (OQ.fld rfl rfl rfl (by decide) rfl) rfl (JL.nil (kk default nofun)))
    · (intro xx EF MF Q kk; exact JL.store_part (r := sec ⟨tA, own, other, true, false, z32, z32, 0, 0, 0, []⟩ nilKV) (r' := sec ⟨tA, own, other, true, false, tC, z32, 0, 0, 0, []⟩ nilKV) k32s rfl rfl lC (Y_cell _) .here (by rw [n1, lC]; decide) p1 (JL.nil (kk default nofun)))
  · intro xx hx
    show JE _ _ _ _ _ [(3, Pt b3 0), (4, Pt b4 0), (5, Pt b5 0), (6, Pt b6 0), (7, Pt b7 0)] [⟨b7, Row 26 (sec ⟨tA, own, other, true, false, tC, z32, 0, 0, 0, []⟩ nilKV), true⟩, ⟨b6, Row 26 (sec zeroS nilKV), true⟩]
    clear hx xx vs Ms
    repeat (first | refine JL.q (by (apply OQ.load_agg (cs := sec ⟨tA, own, other, true, false, tC, z32, 0, 0, 0, []⟩ nilKV); exact seA; exact seS; exact rfl; exact .here; exact hn; exact Row.all)) rfl ?_ | refine JC.seq ?_ | refine JC.region ?_ | refine JE.next ?_)
    refine JL.store_all (cs := sec ⟨tA, own, other, true, false, tC, z32, 0, 0, 0, []⟩ nilKV) seS rfl rfl hn (sec_one rfl) (.there .here) (sec_len zeroS_ok _) ?_
    repeat (first | refine JL.nil ?_ | refine JE.next ?_)
    refine JC.ret (JE.ret1 rfl (RV.cell_agg seA seS rfl (.there .here) hn Row.all) ?_)
    exact fun w' hw => ⟨rfl, hw.chg⟩
/-- what Encrypt gives -/
structure EcR (o : Ses × Bk × Nat) where
  q : Acc
  x : Acc
  nil : q = none → o.1.kept = []
  xn : x = none → o.2.1 = []
theorem goes_encr : Goes Tryd.prog 9 := ⟨_, Tryd.func9, rfl, by kernel_rfl⟩
theorem enc_no {s : Ses} (h : s.sends = false) (side p : Bk) : encS s side p = (s, [], 13) := by rw [encS, if_pos h]
theorem enc_far {s : Ses} (h : s.sends = true) (h2 : 2147483647 ≤ s.sent) (side p : Bk) : encS s side p = (s, [], 12) := by rw [encS, if_neg (by rw [h]; decide), if_pos h2]
theorem enc_yes {s : Ses} (h : s.sends = true) (h2 : ¬ 2147483647 ≤ s.sent) (side p : Bk) : encS s side p = (encN s, encB s side p, 0) := by rw [encS, if_neg (by rw [h]; decide), if_neg h2]
set_option maxHeartbeats 32000000 in
theorem encr_any (s : Ses) (k : SlK) (hs : s.ok) (he : k.l = s.kept) (hk0 : s.kept.length ≤ 1000000) (hst : s.sent ≤ 2147483648) (hpv : s.prev ≤ 2147483648) (side p : Sl8) (hsl : side.l.length ≤ 1000000) (hpl : p.l.length ≤ 1000000) (w : World) (hG : GOk w) (hQ : GQ w) (hk : k.ok w) (hside : side.ok w) (hp : p.ok w) :
    Calls Tryd.prog 9 [.agg (sec s k.v).toArray, side.v, p.v].toArray w fun e w' => ∃ r : EcR (encS s side.l p.l), e = .returned (.tuple #[.agg (sec (encS s side.l p.l).1 (accV r.q (encS s side.l p.l).1.kept.length)).toArray, accV r.x (encS s side.l p.l).2.1.length, N (encS s side.l p.l).2.2]) ∧ Holds w [] (accE 5 r.x ((encS s side.l p.l).2.1.map U8) ++ kpE r.q (encS s side.l p.l).1.kept) w' := by
  have hn := sec_len hs k.v
  refine enter (n := 55) Tryd.func9 rfl rfl rfl (Holds.start w []) ?_
  repeat (first | refine JC.seq ?_ | refine JC.region ?_)
  refine JL.box (r := sec s k.v) rfl rfl rfl fun b3 _ => ?_
  refine JL.alloc seZ rfl fun b6 _ => ?_
  repeat (first | refine JL.q (by first | (apply OQ.load_agg (cs := sec s k.v); exact seA; exact seS; exact rfl; exact (.there .here); exact hn; exact Row.all) | (apply OQ.assign; exact rfl)) rfl ?_ | refine JC.seq ?_ | refine JC.region ?_ | refine JL.nil ?_ | refine JE.next ?_)
  refine JL.callg (ι := AccFor s.kept) (vs := [.agg (sec s k.v).toArray]) (fun q => .agg (sec s (accV q.1 s.kept.length)).toArray) (fun q => kpE q.1 s.kept) goes_copied rfl rfl (fun q => kpE_wr _ _) (fun w' hw' => copied_any s k hs w' (hk.holds hw' rfl) he hk0) ?_
  rintro ⟨q, hq⟩
  try dsimp only
  obtain ⟨kv, hkv⟩ : ∃ kv, accV q s.kept.length = kv := ⟨_, rfl⟩
  have hkv1 : kv.oneCell' = true := by rw [← hkv]; exact accV_one _ _
  rw [hkv]
  have hn2 := sec_len hs kv
  refine JL.permS (M' := ⟨b6, Row 26 (sec zeroS (.slice none 0 0)), true⟩ :: ⟨b3, Row 26 (sec s k.v), true⟩ :: kpE q s.kept) (by exact List.perm_append_comm (l₂ := [_, _])) ?_
  refine JL.store_all (cs := sec s kv) seS rfl rfl hn2 (sec_one hkv1) .here (sec_len zeroS_ok _) ?_
  cases hse : s.sends
  · have hd := enc_no hse side.l p.l
    have hld : ∀ o, Row 26 (sec s k.v) o → cellAt o 96 = some (.bool false) := by rw [← hse]; exact Row.cell (sec_sends hs _)
    rw [hd]
    repeat (first | refine JL.q (by first | (apply OQ.load; exact boolCr; exact rfl; exact (.there .here); exact hld) | (apply OQ.not; exact rfl) | (apply OQ.fld; exact rfl; exact rfl; exact rfl; exact (by decide); exact rfl)) rfl ?_ | refine JC.seq ?_ | refine JC.region ?_ | refine JL.nil ?_ | refine JE.next ?_)
    refine JC.cond_true rfl rfl ?_
    repeat (first | refine JL.q (by (apply OQ.load_agg (cs := sec s kv); exact seA; exact seS; exact rfl; exact .here; exact hn2; exact Row.all)) rfl ?_ | refine JC.seq ?_ | refine JC.region ?_)
    refine JL.store_all (cs := sec s kv) seS rfl rfl hn2 (sec_one hkv1) .here hn2 ?_
    repeat (first | refine JL.q (by (apply OQ.assign; exact rfl)) rfl ?_ | refine JL.nil ?_ | refine JE.next ?_)
    refine JC.ret ?_
    repeat (refine JE.then_ret ?_)
    exact JE.ret3 rfl (RV.cell_agg seA seS rfl .here hn2 Row.all) (RV.tmp rfl) (RV.tmp rfl) fun w' hw => ⟨⟨q, none, hq, fun _ => rfl⟩, by rw [← hkv]; rfl, hw.weak (.drop _ _ _ (.drop _ _ _ (Less.refl _)))⟩
  have hld : ∀ o, Row 26 (sec s k.v) o → cellAt o 96 = some (.bool true) := by rw [← hse]; exact Row.cell (sec_sends hs _)
  have hsn : ∀ o, Row 26 (sec s k.v) o → cellAt o 162 = some (N s.sent) := Row.cell (sec_sent hs _)
  by_cases hmx : 2147483647 ≤ s.sent
  · have hd := enc_far hse hmx side.l p.l
    have hge : decide ((2147483647 : Int) ≤ ((s.sent : Nat) : Int)) = true := decide_eq_true (by omega)
    rw [hd]
    repeat (first | refine JL.q (by first | (apply OQ.load; exact boolCr; exact rfl; exact (.there .here); exact hld) | (apply OQ.not; exact rfl) | (apply OQ.fld; exact rfl; exact rfl; exact rfl; exact (by decide); exact rfl)) rfl ?_ | refine JC.seq ?_ | refine JC.region ?_ | refine JL.nil ?_ | refine JE.next ?_)
    refine JC.cond_false rfl rfl ?_
    repeat (first | refine JL.q (by first | (apply OQ.load; exact intCr; exact rfl; exact (.there .here); exact hsn) | (apply OQ.geqB (a := ((s.sent : Nat) : Int)) (b := 2147483647); exact rfl; exact rfl; exact hge) | (apply OQ.fld; exact rfl; exact rfl; exact rfl; exact (by decide); exact rfl)) rfl ?_ | refine JC.seq ?_ | refine JC.region ?_ | refine JC.skip ?_ | refine JL.nil ?_ | refine JE.next ?_)
    refine JC.cond_true rfl rfl ?_
    repeat (first | refine JL.q (by (apply OQ.load_agg (cs := sec s kv); exact seA; exact seS; exact rfl; exact .here; exact hn2; exact Row.all)) rfl ?_ | refine JC.seq ?_ | refine JC.region ?_)
    refine JL.store_all (cs := sec s kv) seS rfl rfl hn2 (sec_one hkv1) .here hn2 ?_
    repeat (first | refine JL.q (by (apply OQ.assign; exact rfl)) rfl ?_ | refine JL.nil ?_ | refine JE.next ?_)
    refine JC.ret ?_
    repeat (refine JE.then_ret ?_)
    exact JE.ret3 rfl (RV.cell_agg seA seS rfl .here hn2 Row.all) (RV.tmp rfl) (RV.tmp rfl) fun w' hw => ⟨⟨q, none, hq, fun _ => rfl⟩, by rw [← hkv]; rfl, hw.weak (.drop _ _ _ (.drop _ _ _ (Less.refl _)))⟩
  have hd := enc_yes hse hmx side.l p.l
  have hge : decide ((2147483647 : Int) ≤ ((s.sent : Nat) : Int)) = false := decide_eq_false (by omega)
  rw [hd]
  repeat (first | refine JL.q (by first | (apply OQ.load; exact boolCr; exact rfl; exact (.there .here); exact hld) | (apply OQ.not; exact rfl) | (apply OQ.fld; exact rfl; exact rfl; exact rfl; exact (by decide); exact rfl)) rfl ?_ | refine JC.seq ?_ | refine JC.region ?_ | refine JL.nil ?_ | refine JE.next ?_)
  refine JC.cond_false rfl rfl ?_
  repeat (first | refine JL.q (by first | (apply OQ.load; exact intCr; exact rfl; exact (.there .here); exact hsn) | (apply OQ.geqB (a := ((s.sent : Nat) : Int)) (b := 2147483647); exact rfl; exact rfl; exact hge) | (apply OQ.fld; exact rfl; exact rfl; exact rfl; exact (by decide); exact rfl)) rfl ?_ | refine JC.seq ?_ | refine JC.region ?_ | refine JC.skip ?_ | refine JL.nil ?_ | refine JE.next ?_)
  refine JC.cond_false rfl rfl ?_
  have hlo : (s.own.map U8).length = 32 := by rw [List.length_map]; exact hs.own
  have hls : (s.send.map U8).length = 32 := by rw [List.length_map]; exact hs.send
  have hpl1 := encH_chain s
  have hH := encH_chain s
  have hBl := hdB_len hH
  have hhb := hd_built (pubB s.own) s.prev s.sent (pubB_len _)
  have cP := fun (w' : World) => cpublic_any s.own hs.own w'
  have cB := fun (w' : World) => hdB_any (encH s) hH (show s.prev < _ by omega) (show s.sent < _ by omega) w'
  have hpr : ∀ o, Row 26 (sec s k.v) o → cellAt o 164 = some (N s.prev) := Row.cell (sec_prev hs _)
  have cP2 : ∀ w', Calls Tryd.prog 25 [.agg (s.own.map U8).toArray].toArray w' fun e w'' => e = .returned (.agg ((pubB s.own).map U8).toArray) ∧ Ext w' w'' := cP
  clear cP
  have hEe : encB s side.l p.l = hdB (encH s) ++ Rtc.sealB (msB s.send) (side.l ++ hdB (encH s)) p.l := rfl
  rw [hEe]
  have hEq : encH s = ⟨pubB s.own, s.prev, s.sent⟩ := rfl
  rw [← hEq] at hhb
  generalize pubB s.own = pk at *
  generalize hHe : encH s = h at *
  repeat (first | refine JC.seq ?_ | refine JC.skip ?_ | refine JE.next ?_)
  refine JC.tail 8 mixT (by kernel_rfl) ?_
  simp only [List.take_succ_cons, List.take_zero, List.drop_succ_cons, List.drop_zero]
  repeat (refine JQ.q (by first | (apply OQ.load_agg (cs := s.own.map U8); exact k32a; exact k32s; exact rfl; exact (.there .here); exact hlo; exact (Row.cells (sec_own hs _))) | (apply OQ.callx (vs := [.agg (s.own.map U8).toArray]); exact goes_cpublic; exact rfl; exact (fun w' _ => cP2 w')) | (apply OQ.load; exact intCr; exact rfl; exact (.there .here); exact hpr) | (apply OQ.load; exact intCr; exact rfl; exact (.there .here); exact hsn) | (apply OQ.fld; exact rfl; exact rfl; exact rfl; exact (by decide); exact rfl)) rfl ?_)
  refine JQ.q (OQ.buildK (cs := hdc h) [0, 1, 2] [.tmp 24, .tmp 26, .tmp 28] (vs := [.agg (pk.map U8).toArray, N s.prev, N s.sent]) rfl rfl hhb) rfl ?_
  repeat (refine JQ.nil_tail ?_)
  refine JL.callg (ι := Nat × Nat) (vs := [.agg (hdc h).toArray]) (fun x => .slice (some ⟨x.1, 0, none⟩) 40 x.2) (fun x => [⟨x.1, Sl.Own 5 1 40 x.2 ((hdB h).map U8), true⟩]) goes_hdB rfl rfl (fun i => by simp) (fun w' hw' => cB w') ?_
  rintro ⟨bh, ch⟩
  try dsimp only
  repeat (first | refine JL.q (by (apply OQ.assign; exact rfl)) rfl ?_ | refine JC.seq ?_ | refine JC.region ?_ | refine JL.nil ?_ | refine JE.next ?_)
  refine JL.alloc k32z rfl fun b10 _ => ?_
  have hst2 : ∀ (w' : World) (M : List Ent) (hw : Holds w [] M w'), Calls Tryd.prog 26 [.agg (s.send.map U8).toArray].toArray w' fun e w'' => e = .returned (.tuple #[.agg ((nxB s.send).map U8).toArray, .agg ((msB s.send).map U8).toArray]) ∧ Ext w' w'' := fun w' M hw => kstep_any s.send hs.send w' (hG.chg hw.chg (by simp))
  have k1 : ({ s with send := nxB s.send } : Ses).ok := ⟨hs.root, hs.own, hs.other, rfl, hs.take, hs.kept⟩
  have p1 := sec_put_send hs kv (nxB s.send) rfl
  have k2 := encN_ok hs
  have p2 := sec_set_sent k1 kv (s.sent + 1)
  have hn3 := sec_len k1 kv
  have hn4 := sec_len k2 kv
  have hR : encN s = { s with send := nxB s.send, sent := s.sent + 1 } := rfl
  rw [hR] at hn4 ⊢
  have hl5 : ((nxB s.send).map U8).length = 32 := rfl
  have hl6 : ((msB s.send).map U8).length = 32 := rfl
  have hkm : (msB s.send).length = 32 := rfl
  clear hR k2
  generalize nxB s.send = nx at *
  generalize msB s.send = ms at *
  have hse2 : ∀ o, Row 26 (sec { s with send := nx } kv) o → cellAt o 162 = some (N s.sent) := Row.cell (sec_sent k1 _)
  repeat (first | refine JL.q (by first | (apply OQ.load_agg (cs := s.send.map U8); exact k32a; exact k32s; exact rfl; exact (.there (.there (.there .here))); exact hls; exact (Row.cells (sec_send hs _))) | (apply OQ.callx (vs := [.agg (s.send.map U8).toArray]); exact goes_kstep; exact rfl; exact (fun w' hw' => hst2 w' _ hw')) | (apply OQ.extract; exact rfl; exact rfl) | (apply OQ.move; exact rfl) | (apply OQ.fld; exact rfl; exact rfl; exact rfl; exact (by decide); exact rfl)) rfl ?_ | refine JC.seq ?_ | refine JC.region ?_ | refine JL.nil ?_ | refine JE.next ?_)
  refine JL.store_part (r := sec s kv) (r' := sec { s with send := nx } kv) k32s rfl rfl hl5 (Y_cell _) (.there (.there .here)) (by rw [hn2, hl5]; decide) p1 ?_
  refine JL.store_all (cs := ms.map U8) k32s rfl rfl hl6 (Y_cell _) .here (by simp) ?_
  repeat (first | refine JL.q (by first | (apply OQ.load; exact intCr; exact rfl; exact (.there (.there .here)); exact hse2) | (apply OQ.addN (a := s.sent) (b := 1); exact rfl; exact rfl; exact (by omega)) | (apply OQ.fld; exact rfl; exact rfl; exact rfl; exact (by decide); exact rfl)) rfl ?_ | refine JC.seq ?_ | refine JC.region ?_ | refine JL.nil ?_ | refine JE.next ?_)
  refine JL.store_eq (r := sec { s with send := nx } kv) (r' := sec { s with send := nx, sent := s.sent + 1 } kv) intSr rfl rfl rfl rfl (.there (.there .here)) (by rw [hn3]; decide) p2 ?_
  repeat (first | refine JC.seq ?_ | refine JL.nil ?_ | refine JE.next ?_)
  have hsK : sealK (Go.Proofs.YtbhlcnimjoppeaaDoor.k1 ms) (Go.Proofs.YtbhlcnimjoppeaaDoor.k2 ms) z12 (side.l ++ hdB h) p.l = Rtc.sealB ms (side.l ++ hdB h) p.l := rfl
  have hsKl : (Rtc.sealB ms (side.l ++ hdB h) p.l).length = p.l.length + 32 := sealK_length _ _ _ _ _
  have hWl : (side.l ++ hdB h).length = side.l.length + 40 := by rw [List.length_append, hBl]
  have cC := fun (bs : Nat) (w' : World) (M : List Ent) (hw' : Holds w [] M w') (hb : Sl8.ok w' ⟨some ⟨bh, 0, none⟩, ch, hdB h⟩) (hrow : ∃ ob, w'.heap[bs]? = some ob ∧ Row 27 [side.v, Sl8.v ⟨some ⟨bh, 0, none⟩, ch, hdB h⟩] ob) => concat8_any side ⟨some ⟨bh, 0, none⟩, ch, hdB h⟩ bs w' (hside.holds hw' rfl) hb hrow (by show 0 < side.l.length + (hdB h).length; omega) (by show side.l.length + (hdB h).length ≤ _; omega)
  have hbv : Sl8.v ⟨some ⟨bh, 0, none⟩, ch, hdB h⟩ = .slice (some ⟨bh, 0, none⟩) 40 ch := by simp [Sl8.v, hBl]
  rw [hbv] at cC
  generalize Rtc.sealB ms (side.l ++ hdB h) p.l = Z at *
  let vs : Nat → (Nat × Nat) → Value := fun j y => match j with
    | 0 => .agg (ms.map U8).toArray
    | 1 => .agg (z12.map U8).toArray
    | 2 => side.v
    | 3 => .slice (some ⟨bh, 0, none⟩) 40 ch
    | 4 => .slice (some ⟨y.1, 0, none⟩) 2 2
    | 5 => .slice (some ⟨y.1, 0, none⟩) (side.l ++ hdB h).length y.2
    | 6 => p.v
    | 7 => .slice (some ⟨y.1, 0, none⟩) (p.l.length + 32) y.2
    | 8 => .slice (some ⟨y.1, 0, none⟩) (p.l.length + 32) y.2
    | _ => N 0
  let Ms : Nat → (Nat × Nat) → List Ent := fun j y => match j with
    | 4 => [⟨y.1, Row 27 [side.v, .slice (some ⟨bh, 0, none⟩) 40 ch], true⟩]
    | 5 => [⟨y.1, Sl.Own 5 1 (side.l ++ hdB h).length y.2 ((side.l ++ hdB h).map U8), true⟩]
    | 7 => [⟨y.1, Sl.Own 5 1 (p.l.length + 32) y.2 (Z.map U8), true⟩]
    | 9 => [⟨b10, Row 23 (ms.map U8), true⟩]
    | 10 => [⟨bh, Sl.Own 5 1 40 ch ((hdB h).map U8), true⟩]
    | 11 => [⟨b6, Row 26 (sec { s with send := nx, sent := s.sent + 1 } kv), true⟩]
    | 12 => [⟨b3, Row 26 (sec s k.v), true⟩]
    | 13 => kpE q s.kept
    | _ => []
  refine JC.grow (g := ⟨[(1, side.v), (2, p.v), (6, Pt b6 0), (9, .slice (some ⟨bh, 0, none⟩) 40 ch), (10, Pt b10 0)], 14, vs, Ms, (fun j => match j with | 4 => [(2, 44), (3, 45)] | 5 => [(4, 46)] | 7 => [(0, 42), (1, 43), (5, 47), (6, 48)] | 8 => [(7, 49)] | _ => []), (fun j => match j with | 0 => [9] | 5 => [4, 10] | 7 => [5] | _ => []), (fun j => match j with | _ => []), (fun j => match j with | 8 => some 7 | _ => none)⟩) [(8, 11)] [7, 10, 11, 13] mixT (by repeat (first | exact SubE.nil | refine SubE.cons _ _ _ rfl ?_)) ?_ (by kernel_rfl) (by kernel_rfl) (by kernel_rfl) ?_ ?_
  · show Less (_ :: _ :: _ :: _ :: (kpE q s.kept ++ [])) _; rw [List.append_nil]; exact Less.refl _
  · refine ⟨?_, ?_, ?_, ?_, ?_, ?_, ?_, ?_, ?_, trivial⟩
    · (intro xx EF MF Q kk; (try refine JL.gon rfl rfl ?_); exact JL.q (OQ.load_agg (cs := ms.map U8) k32a k32s rfl .here hl6 Row.all) rfl (JL.nil (kk default nofun)))
    · (intro xx EF MF Q kk; exact JL.q (OQ.pure (v := .agg (z12.map U8).toArray) rfl rfl (by kernel_rfl)) rfl (JL.nil (kk default nofun)))
    · (intro xx EF MF Q kk; (try refine JL.gon rfl rfl ?_); exact JL.q (OQ.move rfl) rfl (JL.nil (kk default nofun)))
    · (intro xx EF MF Q kk; (try refine JL.gon rfl rfl ?_); exact JL.q (OQ.move rfl) rfl (JL.nil (kk default nofun)))
    · (intro xx EF MF Q kk; exact JL.litL (xs := [.tmp 44, .tmp 45]) (vs := [side.v, .slice (some ⟨bh, 0, none⟩) 40 ch]) Tryd.underlying88 e22 rfl rfl rfl rfl (by intro v hv; simp only [List.mem_cons, List.mem_nil_iff, or_false] at hv; rcases hv with rfl | rfl <;> rfl) rfl (by decide) (by decide) rfl fun b9 _ => JL.nil (kk (b9, 0) nofun))
    · (intro xx EF MF Q kk; exact JL.callg (ι := Nat × Nat) (vs := [.slice (some ⟨(xx 4).1, 0, none⟩) 2 2]) (fun x => .slice (some ⟨x.1, 0, none⟩) (side.l ++ hdB h).length x.2) (fun x => [⟨x.1, Sl.Own 5 1 (side.l ++ hdB h).length x.2 ((side.l ++ hdB h).map U8), true⟩]) goes_concat8 rfl rfl (fun i => by simp) (fun w' hw' => cC (xx 4).1 w' _ hw' (ownb_ok hw' (.there .here)) (hw'.get .here)) fun x => JL.nil (kk (x.1, x.2) nofun))
    · (intro xx EF MF Q kk; (try refine JL.gon rfl rfl ?_); exact JL.q (OQ.move rfl) rfl (JL.nil (kk default nofun)))
    · (intro xx EF MF Q kk; exact JL.callg (ι := Nat × Nat) (vs := [.agg (ms.map U8).toArray, .agg (z12.map U8).toArray, .slice (some ⟨(xx 5).1, 0, none⟩) (side.l ++ hdB h).length (xx 5).2, p.v]) (fun x => .slice (some ⟨x.1, 0, none⟩) (p.l.length + 32) x.2) (fun x => [⟨x.1, Sl.Own 5 1 (p.l.length + 32) x.2 (Z.map U8), true⟩]) goes_seal rfl rfl (fun i => by simp) (fun w' hw' => sealO_any (s := ⟨some ⟨(xx 5).1, 0, none⟩, (xx 5).2, side.l ++ hdB h⟩) (p := p) rfl rfl hsK rfl hkm rfl (hG.chg hw'.chg (by simp)) (hQ.chg hw'.chg (by simp)) (ownb_ok hw' .here) (hp.holds hw' rfl) (by show (side.l ++ hdB h).length < _; omega) (by omega)) fun x => JL.nil (kk (x.1, x.2) nofun))
    · (intro xx EF MF Q kk; (try refine JL.gon rfl rfl ?_); exact JL.q (OQ.assign rfl) rfl (JL.nil (kk (xx 7) (fun k h => by cases h; rfl))))
  · intro xx hx
    have e1 := hx 8 7 (by decide) rfl
    show JE _ _ _ _ _ [(11, .slice (some ⟨(xx 8).1, 0, none⟩) (p.l.length + 32) (xx 8).2), (1, side.v), (2, p.v), (6, Pt b6 0), (9, .slice (some ⟨bh, 0, none⟩) 40 ch), (10, Pt b10 0)] (⟨(xx 7).1, Sl.Own 5 1 (p.l.length + 32) (xx 7).2 (Z.map U8), true⟩ :: ⟨bh, Sl.Own 5 1 40 ch ((hdB h).map U8), true⟩ :: ⟨b6, Row 26 (sec { s with send := nx, sent := s.sent + 1 } kv), true⟩ :: (kpE q s.kept ++ []))
    rw [e1, List.append_nil]
    generalize xx 7 = xz
    obtain ⟨bz, cz⟩ := xz
    clear hx e1 xx vs Ms
    try dsimp only
    repeat (first | refine JC.seq ?_ | refine JE.next ?_)
    have cD := fun (bs : Nat) (w' : World) (hb : Sl8.ok w' ⟨some ⟨bh, 0, none⟩, ch, hdB h⟩) (hb2 : Sl8.ok w' ⟨some ⟨bz, 0, none⟩, cz, Z⟩) (hrow : ∃ ob, w'.heap[bs]? = some ob ∧ Row 27 [Sl8.v ⟨some ⟨bh, 0, none⟩, ch, hdB h⟩, Sl8.v ⟨some ⟨bz, 0, none⟩, cz, Z⟩] ob) => concat8_any ⟨some ⟨bh, 0, none⟩, ch, hdB h⟩ ⟨some ⟨bz, 0, none⟩, cz, Z⟩ bs w' hb hb2 hrow (by show 0 < (hdB h).length + Z.length; omega) (by show (hdB h).length + Z.length ≤ _; omega)
    have hzv : Sl8.v ⟨some ⟨bz, 0, none⟩, cz, Z⟩ = .slice (some ⟨bz, 0, none⟩) (p.l.length + 32) cz := by simp [Sl8.v, hsKl]
    rw [hbv, hzv] at cD
    let vs : Nat → (Nat × Nat) → Value := fun j y => match j with
      | 0 => .agg (sec { s with send := nx, sent := s.sent + 1 } kv).toArray
      | 1 => .slice (some ⟨bh, 0, none⟩) 40 ch
      | 2 => .slice (some ⟨bz, 0, none⟩) (p.l.length + 32) cz
      | 3 => .slice (some ⟨y.1, 0, none⟩) 2 2
      | 4 => .slice (some ⟨y.1, 0, none⟩) (hdB h ++ Z).length y.2
      | 6 => .slice (some ⟨y.1, 0, none⟩) (hdB h ++ Z).length y.2
      | 7 => N 0
      | _ => N 0
    let Ms : Nat → (Nat × Nat) → List Ent := fun j y => match j with
      | 3 => [⟨y.1, Row 27 [.slice (some ⟨bh, 0, none⟩) 40 ch, .slice (some ⟨bz, 0, none⟩) (p.l.length + 32) cz], true⟩]
      | 4 => [⟨y.1, Sl.Own 5 1 (hdB h ++ Z).length y.2 ((hdB h ++ Z).map U8), true⟩]
      | 5 => [⟨b6, Row 26 (sec { s with send := nx, sent := s.sent + 1 } kv), true⟩]
      | 8 => [⟨bz, Sl.Own 5 1 (p.l.length + 32) cz (Z.map U8), true⟩]
      | 9 => [⟨bh, Sl.Own 5 1 40 ch ((hdB h).map U8), true⟩]
      | 10 => [⟨b6, Row 26 (sec { s with send := nx, sent := s.sent + 1 } kv), true⟩]
      | 11 => kpE q s.kept
      | _ => []
    refine JC.grow (g := ⟨[(6, Pt b6 0), (9, .slice (some ⟨bh, 0, none⟩) 40 ch), (11, .slice (some ⟨bz, 0, none⟩) (p.l.length + 32) cz)], 12, vs, Ms, (fun j => match j with | 3 => [(1, 51), (2, 52)] | 4 => [(3, 53)] | 5 => [(0, 50)] | 6 => [(4, 54)] | _ => []), (fun j => match j with | 0 => [10] | 4 => [3, 9, 8] | 5 => [10] | _ => []), (fun j => match j with | 5 => [10] | _ => []), (fun j => match j with | 6 => some 4 | _ => none)⟩) [(6, 7), (7, 8)] [5, 4, 11] mixT (by repeat (first | exact SubE.nil | refine SubE.cons _ _ _ rfl ?_)) ?_ (by kernel_rfl) (by kernel_rfl) (by kernel_rfl) ?_ ?_
    · show Less (_ :: _ :: _ :: (kpE q s.kept ++ [])) _; rw [List.append_nil]; exact Less.refl _
    · refine ⟨?_, ?_, ?_, ?_, ?_, ?_, ?_, ?_, trivial⟩
      · (intro xx EF MF Q kk; (try refine JL.gon rfl rfl ?_); exact JL.q (OQ.load_agg (cs := sec { s with send := nx, sent := s.sent + 1 } kv) seA seS rfl .here hn4 Row.all) rfl (JL.nil (kk default nofun)))
      · (intro xx EF MF Q kk; (try refine JL.gon rfl rfl ?_); exact JL.q (OQ.move rfl) rfl (JL.nil (kk default nofun)))
      · (intro xx EF MF Q kk; (try refine JL.gon rfl rfl ?_); exact JL.q (OQ.move rfl) rfl (JL.nil (kk default nofun)))
      · (intro xx EF MF Q kk; exact JL.litL (xs := [.tmp 51, .tmp 52]) (vs := [.slice (some ⟨bh, 0, none⟩) 40 ch, .slice (some ⟨bz, 0, none⟩) (p.l.length + 32) cz]) Tryd.underlying88 e22 rfl rfl rfl rfl (by intro v hv; simp only [List.mem_cons, List.mem_nil_iff, or_false] at hv; rcases hv with rfl | rfl <;> rfl) rfl (by decide) (by decide) rfl fun b9 _ => JL.nil (kk (b9, 0) nofun))
      · (intro xx EF MF Q kk; exact JL.callg (ι := Nat × Nat) (vs := [.slice (some ⟨(xx 3).1, 0, none⟩) 2 2]) (fun x => .slice (some ⟨x.1, 0, none⟩) (hdB h ++ Z).length x.2) (fun x => [⟨x.1, Sl.Own 5 1 (hdB h ++ Z).length x.2 ((hdB h ++ Z).map U8), true⟩]) goes_concat8 rfl rfl (fun i => by simp) (fun w' hw' => cD (xx 3).1 w' (ownb_ok hw' (.there .here)) (ownb_ok hw' (.there (.there .here))) (hw'.get .here)) fun x => JL.nil (kk (x.1, x.2) nofun))
      · (intro xx EF MF Q kk; exact JL.store_all (cs := sec { s with send := nx, sent := s.sent + 1 } kv) seS rfl rfl hn4 (sec_one hkv1) .here hn4 (JL.nil (kk default nofun)))
      · (intro xx EF MF Q kk; (try refine JL.gon rfl rfl ?_); exact JL.q (OQ.assign rfl) rfl (JL.nil (kk (xx 4) (fun k h => by cases h; rfl))))
      · (intro xx EF MF Q kk; (try refine JL.gon rfl rfl ?_); exact JL.q (OQ.assign rfl) rfl (JL.nil (kk default nofun)))
    · intro xx hx
      have e1 := hx 6 4 (by decide) rfl
      show JE _ _ _ _ _ [(7, .slice (some ⟨(xx 6).1, 0, none⟩) (hdB h ++ Z).length (xx 6).2), (8, N 0), (6, Pt b6 0), (9, .slice (some ⟨bh, 0, none⟩) 40 ch), (11, .slice (some ⟨bz, 0, none⟩) (p.l.length + 32) cz)] (⟨b6, Row 26 (sec { s with send := nx, sent := s.sent + 1 } kv), true⟩ :: ⟨(xx 4).1, Sl.Own 5 1 (hdB h ++ Z).length (xx 4).2 ((hdB h ++ Z).map U8), true⟩ :: (kpE q s.kept ++ []))
      rw [e1, List.append_nil]
      generalize xx 4 = xz
      obtain ⟨bx, cx⟩ := xz
      clear hx e1 xx vs Ms
      try dsimp only
      repeat (refine JE.next ?_)
      refine JC.ret ?_
      skip
      refine JE.ret3 rfl (RV.cell_agg seA seS rfl .here hn4 Row.all) (RV.tmp rfl) (RV.tmp rfl) fun w' hw => ⟨⟨q, some (bx, cx), hq, nofun⟩, by rw [← hkv]; rfl, ?_⟩
      show Holds w [] (⟨bx, Sl.Own 5 1 ((hdB h ++ Z).map U8).length cx ((hdB h ++ Z).map U8), true⟩ :: kpE q s.kept) w'
      rw [List.length_map]
      exact hw.weak (.drop _ _ _ (Less.refl _))
end Go.Proofs.YtbhlcnimjoppeaaDoor

/-
  Of no statement by itself: what the reference's Same, join, number, Header, Turn and First of layer 19 give.
  Conditions: each theorem's own.
-/
namespace Go.Proofs.YtbhlcnimjoppeaaDoor
set_option maxRecDepth 10000
open Sl Sha Str Crv Rtc
open Dsk (Bk)
/-! ### two structs of a key, a number, a key (or a number) -/
theorem kpU : Tryd.prog.underlying 57 = some (.struct (Tryd.prog.fieldsOf 57)) := by kernel_rfl
theorem kpHeld : Tryd.prog.stoodInHeld 57 = false := by kernel_rfl
theorem kpGd : Tryd.prog.eqGuardType Tryd.prog.depth 57 = false := by kernel_rfl
def threeK (P : Program) (t a b c : TypeId) (o : Nat) : Bool := match (P.fieldsOf t).toList with
  | [f0, f1, f2] => f0.type == a && f1.type == b && f2.type == c && f0.offset == 0 && f1.offset == 32 && f2.offset == o && f0.name != "_" && f1.name != "_" && f2.name != "_"
  | _ => false
theorem three_get {P : Program} {t a b c : TypeId} {o : Nat} (h : threeK P t a b c o = true) : ∃ f0 f1 f2, (P.fieldsOf t).toList = [f0, f1, f2] ∧ f0.type = a ∧ f1.type = b ∧ f2.type = c ∧ f0.offset = 0 ∧ f1.offset = 32 ∧ f2.offset = o ∧ ¬ f0.name = "_" ∧ ¬ f1.name = "_" ∧ ¬ f2.name = "_" := by
  unfold threeK at h
  split at h
  · next f0 f1 f2 e =>
    simp only [Bool.and_eq_true, beq_iff_eq, bne_iff_ne, ne_eq] at h
    obtain ⟨⟨⟨⟨⟨⟨⟨⟨h1, h2⟩, h3⟩, h4⟩, h5⟩, h6⟩, h7⟩, h8⟩, h9⟩ := h
    exact ⟨f0, f1, f2, e, h1, h2, h3, h4, h5, h6, h7, h8, h9⟩
  · cases h
theorem key_same (a : Bk) (w : World) (d : Nat) (ha : a.length = 32) : (Op.equalIn (d + 2) 23 (.agg (a.map U8).toArray) (.agg (a.map U8).toArray)).run Tryd.prog w = .ok true w := by
  rw [U8_cell, run_equalIn_bytes w d 23 5 32 Tryd.underlying23 Tryd.underlying5 (fun w => sizeOf_run u8s w) _ _ (by simpa using ha) (by simpa using ha)]
  simp
theorem kp_same (k : Kp) (hk : k.ok) (w : World) : (Op.equalIn 10000 57 (.agg (kpc k).toArray) (.agg (kpc k).toArray)).run Tryd.prog w = .ok true w := by
  obtain ⟨f0, f1, f2, hf, t0, t1, t2, o0, o1, o2, b0, b1, b2⟩ := three_get (show threeK Tryd.prog 57 23 3 23 33 = true by kernel_rfl)
  have p0 : ∀ w, (Go.part 23 (kpc k).toArray 0).run Tryd.prog w = .ok (.agg (k.chain.map U8).toArray) w := fun w => by
    have := kpc_chain hk
    rw [List.length_map, hk.c] at this
    simp [Go.part, isAgg_agg k32a, sizeOf_run k32s]
    simpa using this
  have p1 : ∀ w, (Go.part 3 (kpc k).toArray 32).run Tryd.prog w = .ok (N k.num) w := fun w => by
    have := kpc_num hk
    simp [Go.part, isAgg, run_underlying Tryd.underlying3, this]
  have p2 : ∀ w, (Go.part 23 (kpc k).toArray 33).run Tryd.prog w = .ok (.agg (k.key.map U8).toArray) w := fun w => by
    have := kpc_key hk
    rw [List.length_map, hk.k] at this
    simp [Go.part, isAgg_agg k32a, sizeOf_run k32s]
    simpa using this
  have q0 := fun w => key_same k.chain w 9997 hk.c
  have q2 := fun w => key_same k.key w 9997 hk.k
  have q1 := fun w => run_equalIn_int (P := Tryd.prog) w 9998 3 .i64 .i64 (k.num : Int) (k.num : Int) Tryd.underlying3
  rw [show (10000 : Nat) = 9999 + 1 from rfl, run_equalIn_struct w 9999 57 _ _ kpU kpHeld, hf]
  simp [Op.eqFields, t0, t1, t2, o0, o1, o2, b0, b1, b2, p0, p1, p2, q0, q1, q2]
section
variable {n : Nat} {E : Env} {C : World → Prop} {dst : Option Tmp} {t t' ty : TypeId} {pos : String} {aft : Array Edge} {g : Option (Nat × Bool)} {x y : Operand}
theorem OQ.neKp {k : Kp} (hk : k.ok) (hx : ev E x = some (.agg (kpc k).toArray)) (hy : ev E y = some (.agg (kpc k).toArray)) : OQ Tryd.prog n E C ⟨dst, .binOp .neq 57 x y t', ty, pos, aft, g⟩ (.bool false) :=
  OQ.run fun a ha w _ => by
    have h1 := ha.eval hx
    have h2 := ha.eval hy
    have h4 := fun w => run_eqGuard_agg (P := Tryd.prog) (w := w) .neq 57 x y (kpc k).toArray (kpc k).toArray kpGd
    have h5 := fun w => run_neq_struct (P := Tryd.prog) (w := w) 57 (kpc k).toArray (kpc k).toArray
    simp only [execOp, h1, h2, Sem.run_bind, h4, Result.andThen_ok, h5, kp_same k hk]
    rfl
end
/-! ### Same -/
theorem goes_rsames : Goes Tryd.prog 11 := ⟨_, Tryd.func11, rfl, by kernel_rfl⟩
set_option maxHeartbeats 32000000 in
theorem rsame19_any (s : Ses) (ka kb : SlK) (hs : s.ok) (w : World) (hka : ka.ok w) (hkb : kb.ok w) (ea : ka.l = s.kept) (eb : kb.l = s.kept) (hl : s.kept.length < 9223372036854775807) : Calls Tryd.prog 11 [.agg (sec s ka.v).toArray, .agg (sec s kb.v).toArray].toArray w fun e w' => e = .returned (.bool true) ∧ Ext w w' := by
  have l1 : (s.root.map U8).length = 32 := by rw [List.length_map]; exact hs.root
  have l2 : (s.own.map U8).length = 32 := by rw [List.length_map]; exact hs.own
  have l3 : (s.other.map U8).length = 32 := by rw [List.length_map]; exact hs.other
  have l4 : (s.send.map U8).length = 32 := by rw [List.length_map]; exact hs.send
  have l5 : (s.take.map U8).length = 32 := by rw [List.length_map]; exact hs.take
  have ha : ∀ o, Row 26 (sec s ka.v) o → cellAt o 165 = some ka.v := Row.cell (sec_kept hs _)
  have hb : ∀ o, Row 26 (sec s kb.v) o → cellAt o 165 = some kb.v := Row.cell (sec_kept hs _)
  refine enter (n := 101) Tryd.func11 rfl rfl rfl (Holds.start w []) ?_
  repeat (first | refine JC.seq ?_ | refine JC.region ?_)
  refine JL.box (r := sec s ka.v) rfl rfl rfl fun b2 _ => ?_
  refine JL.box (r := sec s kb.v) rfl rfl rfl fun b3 _ => ?_
  repeat (first | refine JL.q (by first | (apply OQ.assign; exact rfl) | (apply OQ.fld; exact rfl; exact rfl; exact rfl; exact (by decide); exact rfl)) rfl ?_ | refine JC.seq ?_ | refine JC.region ?_ | refine JL.nil ?_ | refine JE.next ?_)
  simp only [List.append]
  repeat (first | refine JL.q (by first | (apply OQ.load_agg (cs := s.root.map U8); exact k32a; exact k32s; exact rfl; exact (.there .here); exact l1; exact (Row.cells (sec_root hs _))) | (apply OQ.load_agg (cs := s.root.map U8); exact k32a; exact k32s; exact rfl; exact .here; exact l1; exact (Row.cells (sec_root hs _))) | (apply OQ.neA_f (r := s.root) (q := s.root); exact Tryd.underlying23; exact Tryd.underlying5; exact u8s; exact k32gR; exact rfl; exact rfl; exact hs.root; exact hs.root; exact rfl) | (apply OQ.load_agg (cs := s.own.map U8); exact k32a; exact k32s; exact rfl; exact (.there .here); exact l2; exact (Row.cells (sec_own hs _))) | (apply OQ.load_agg (cs := s.own.map U8); exact k32a; exact k32s; exact rfl; exact .here; exact l2; exact (Row.cells (sec_own hs _))) | (apply OQ.neA_f (r := s.own) (q := s.own); exact Tryd.underlying23; exact Tryd.underlying5; exact u8s; exact k32gR; exact rfl; exact rfl; exact hs.own; exact hs.own; exact rfl) | (apply OQ.load_agg (cs := s.other.map U8); exact k32a; exact k32s; exact rfl; exact (.there .here); exact l3; exact (Row.cells (sec_other hs _))) | (apply OQ.load_agg (cs := s.other.map U8); exact k32a; exact k32s; exact rfl; exact .here; exact l3; exact (Row.cells (sec_other hs _))) | (apply OQ.neA_f (r := s.other) (q := s.other); exact Tryd.underlying23; exact Tryd.underlying5; exact u8s; exact k32gR; exact rfl; exact rfl; exact hs.other; exact hs.other; exact rfl) | (apply OQ.load_agg (cs := s.send.map U8); exact k32a; exact k32s; exact rfl; exact (.there .here); exact l4; exact (Row.cells (sec_send hs _))) | (apply OQ.load_agg (cs := s.send.map U8); exact k32a; exact k32s; exact rfl; exact .here; exact l4; exact (Row.cells (sec_send hs _))) | (apply OQ.neA_f (r := s.send) (q := s.send); exact Tryd.underlying23; exact Tryd.underlying5; exact u8s; exact k32gR; exact rfl; exact rfl; exact hs.send; exact hs.send; exact rfl) | (apply OQ.load_agg (cs := s.take.map U8); exact k32a; exact k32s; exact rfl; exact (.there .here); exact l5; exact (Row.cells (sec_take hs _))) | (apply OQ.load_agg (cs := s.take.map U8); exact k32a; exact k32s; exact rfl; exact .here; exact l5; exact (Row.cells (sec_take hs _))) | (apply OQ.neA_f (r := s.take) (q := s.take); exact Tryd.underlying23; exact Tryd.underlying5; exact u8s; exact k32gR; exact rfl; exact rfl; exact hs.take; exact hs.take; exact rfl) | (apply OQ.load; exact boolCr; exact rfl; exact (.there .here); exact (Row.cell (sec_sends hs _))) | (apply OQ.load; exact boolCr; exact rfl; exact .here; exact (Row.cell (sec_sends hs _))) | (apply OQ.load; exact boolCr; exact rfl; exact (.there .here); exact (Row.cell (sec_takes hs _))) | (apply OQ.load; exact boolCr; exact rfl; exact .here; exact (Row.cell (sec_takes hs _))) | (apply OQ.neb_f; exact Tryd.underlying4; exact rfl; exact rfl) | (apply OQ.load; exact intCr; exact rfl; exact (.there .here); exact (Row.cell (sec_sent hs _))) | (apply OQ.load; exact intCr; exact rfl; exact .here; exact (Row.cell (sec_sent hs _))) | (apply OQ.load; exact intCr; exact rfl; exact (.there .here); exact (Row.cell (sec_taken hs _))) | (apply OQ.load; exact intCr; exact rfl; exact .here; exact (Row.cell (sec_taken hs _))) | (apply OQ.load; exact intCr; exact rfl; exact (.there .here); exact (Row.cell (sec_prev hs _))) | (apply OQ.load; exact intCr; exact rfl; exact .here; exact (Row.cell (sec_prev hs _))) | (apply OQ.nei_f; exact rfl; exact rfl; exact rfl) | (apply OQ.load; exact slkC; exact rfl; exact (.there .here); exact ha) | (apply OQ.load; exact slkC; exact rfl; exact .here; exact hb) | (apply OQ.len (k := ka.l.length) (ad := ka.ad) (cap := ka.cap); exact Tryd.underlying24; exact rfl) | (apply OQ.len (k := kb.l.length) (ad := kb.ad) (cap := kb.cap); exact Tryd.underlying24; exact rfl) | (apply OQ.nei_f (a := ((ka.l.length : Nat) : Int)) (b := ((kb.l.length : Nat) : Int)); exact rfl; exact rfl; exact (by rw [ea, eb])) | (apply OQ.pick_f; exact rfl; exact rfl) | (apply OQ.move; exact rfl) | (apply OQ.fld; exact rfl; exact rfl; exact rfl; exact (by decide); exact rfl)) rfl ?_ | refine JL.nil ?_ | refine JE.next ?_ | refine JL.gon rfl rfl ?_)
  refine JC.cond_false rfl rfl ?_
  repeat (first | refine JL.q (by (apply OQ.assign; exact rfl)) rfl ?_ | refine JC.seq ?_ | refine JC.region ?_ | refine JC.block ?_ | refine JC.skip ?_ | refine JL.nil ?_ | refine JE.next ?_)
  refine JC.loop (fun i : Nat => [(2, Pt b2 0), (3, Pt b3 0), (5, N i)]) (fun _ => [⟨b3, Row 26 (sec s kb.v), true⟩, ⟨b2, Row 26 (sec s ka.v), true⟩]) (fun i => s.kept.length - i) (fun i => i ≤ s.kept.length) 0 (Nat.zero_le _) (by repeat (first | exact SubE.nil | refine SubE.cons _ _ _ rfl ?_)) (Less.refl _) ?_
  intro i hi
  rw [← ea] at hi
  repeat (first | refine JL.q (by first | (apply OQ.load; exact slkC; exact rfl; exact (.there .here); exact ha) | (apply OQ.len (k := ka.l.length) (ad := ka.ad) (cap := ka.cap); exact Tryd.underlying24; exact rfl) | (apply OQ.lssN (a := i) (b := ka.l.length); exact rfl; exact rfl) | (apply OQ.move; exact rfl) | (apply OQ.fld; exact rfl; exact rfl; exact rfl; exact (by decide); exact rfl)) rfl ?_ | refine JC.seq ?_ | refine JC.region ?_ | refine JL.nil ?_ | refine JE.next ?_)
  refine JC.cond rfl (fun hc => ?_) (fun hc => ?_)
  · have hi' : i < ka.l.length := of_decide_eq_true hc
    clear hc
    have hi2 : i < kb.l.length := by rw [eb, ← ea]; exact hi'
    obtain ⟨ba, ja, eA, la, cA⟩ := hka.at hi'
    obtain ⟨bb, jb, eB, lb, cB⟩ := hkb.at hi2
    have hok := hka.all _ (SlK.mem hi')
    have hkk : kb.l.getD i noK = ka.l.getD i noK := by rw [ea, eb]
    rw [hkk] at cB
    have vA : ka.v = .slice (some ⟨ba, ja, none⟩) ka.l.length ka.cap := by rw [← eA]; rfl
    have vB : kb.v = .slice (some ⟨bb, jb, none⟩) kb.l.length kb.cap := by rw [← eB]; rfl
    generalize ka.l.getD i noK = c at cA cB hok
    have hl65 := kpc_len hok
    have ha2 := ha
    have hb2 := hb
    rw [vA] at ha2
    rw [vB] at hb2
    have ha3 : ∀ o, Row 26 (sec s ka.v) o → cellAt o 165 = some (.slice (some ⟨ba, ja, none⟩) ka.l.length ka.cap) := by rw [vA]; exact ha2
    have hb3 : ∀ o, Row 26 (sec s kb.v) o → cellAt o 165 = some (.slice (some ⟨bb, jb, none⟩) kb.l.length kb.cap) := by rw [vB]; exact hb2
    repeat (first | refine JC.seq ?_ | refine JC.block ?_ | refine JC.skip ?_ | refine JE.next ?_)
    refine JC.quiet mixT (by kernel_rfl) ?_
    repeat (first | refine JQ.q (by first | (apply OQ.load; exact slkC; exact rfl; exact (.there .here); exact ha3) | (apply OQ.load; exact slkC; exact rfl; exact .here; exact hb3) | (apply OQ.idxS (i := i) (len := ka.l.length) (cap := ka.cap) (b := ba) (j := ja); exact Tryd.underlying24; exact kpS; exact rfl; exact rfl; exact hi') | (apply OQ.idxS (i := i) (len := kb.l.length) (cap := kb.cap) (b := bb) (j := jb); exact Tryd.underlying24; exact kpS; exact rfl; exact rfl; exact hi2) | (apply OQ.load_agg_old (cs := kpc c); exact kpA; exact rfl; exact (hl65 ▸ kpS); exact la; exact (by simp); exact cA) | (apply OQ.load_agg_old (cs := kpc c); exact kpA; exact rfl; exact (hl65 ▸ kpS); exact lb; exact (by simp); exact cB) | (apply OQ.neKp; exact hok; exact rfl; exact rfl) | (apply OQ.move; exact rfl) | (apply OQ.fld; exact rfl; exact rfl; exact rfl; exact (by decide); exact rfl)) rfl ?_ | refine JQ.nil ?_ | refine JE.next ?_)
    refine JC.cond_false rfl rfl ?_
    repeat (first | refine JL.q (by first | (apply OQ.addN (a := i) (b := 1); exact rfl; exact rfl; exact (by rw [ea] at hi'; omega)) | (apply OQ.move; exact rfl) | (apply OQ.assign; exact rfl)) rfl ?_ | refine JC.region ?_ | refine JC.skip ?_ | refine JL.nil ?_ | refine JE.next ?_ | refine JE.blk_normal ?_)
    exact JE.again (i := i) (i + 1) (by rw [ea] at hi'; exact hi') (by rw [ea] at hi'; omega) (by repeat (first | exact SubE.nil | refine SubE.cons _ _ _ rfl ?_)) (Less.refl _)
  · repeat (first | refine JL.q (by (apply OQ.assign; exact rfl)) rfl ?_ | refine JC.seq ?_ | refine JC.region ?_ | refine JC.exit ?_ | refine JL.nil ?_ | refine JE.next ?_ | refine JE.then_exit ?_ | refine JE.blk_hit ?_)
    refine JC.ret ?_
    skip
    exact JE.ret1 rfl (RV.tmp rfl) fun w' hw => ⟨rfl, hw.chg⟩
end Go.Proofs.YtbhlcnimjoppeaaDoor

/-
  Of no statement by itself: what the reference's join, number, Header, Turn and First of layer 19 give.
  Conditions: each theorem's own.
-/
namespace Go.Proofs.YtbhlcnimjoppeaaDoor
set_option maxRecDepth 10000
open Sl Sha Str Crv Rtc
open Dsk (Bk)
/-! ### join -/
/-! ### number, Header -/
/-! ### Turn, First -/
/-! ### Encrypt -/
/-- what the reference's Encrypt gives -/
structure ErR (o : Ses × Bk × Nat) where
  x : Acc
  xn : x = none → o.2.1 = []
end Go.Proofs.YtbhlcnimjoppeaaDoor

/-
  Of no statement by itself: sessions whose numbers may be any, their cells; which are right, by definition.
  Conditions: each theorem's own.
-/
namespace Go.Proofs.YtbhlcnimjoppeaaDoor
open Sl
namespace Rtc
open Dsk Jrn
structure Kpz where
  chain : Bk
  num : Int
  key : Bk
def kpy (k : Kpz) : List Value := k.chain.map U8 ++ (I k.num :: k.key.map U8)
structure Kpz.ok (k : Kpz) : Prop where
  c : k.chain.length = 32
  k : k.key.length = 32
theorem kpy_len {k : Kpz} (h : k.ok) : (kpy k).length = 65 := by simp [kpy, h.c, h.k]
def kpys (l : List Kpz) : List (List Value) := l.map kpy
theorem kpys_len (l : List Kpz) : (kpys l).length = l.length := List.length_map ..
theorem kpys_all {l : List Kpz} (h : ∀ k ∈ l, k.ok) : ∀ c ∈ kpys l, c.length = 65 := by
  intro c hc
  obtain ⟨k, hk, rfl⟩ := List.mem_map.1 hc
  exact kpy_len (h k hk)
def noKz : Kpz := ⟨List.replicate 32 0, 0, List.replicate 32 0⟩
theorem kpys_at (l : List Kpz) {i : Nat} (hi : i < l.length) : (kpys l).getD i [] = kpy (l.getD i noKz) := by
  simp [kpys, List.getD_eq_getElem?_getD, hi]
/-- a session -/
structure Sez where
  root : Bk
  own : Bk
  other : Bk
  sends : Bool
  takes : Bool
  send : Bk
  take : Bk
  sent : Int
  taken : Int
  prev : Int
  kept : List Kpz
structure Sez.ok (s : Sez) : Prop where
  root : s.root.length = 32
  own : s.own.length = 32
  other : s.other.length = 32
  send : s.send.length = 32
  take : s.take.length = 32
  kept : ∀ k ∈ s.kept, k.ok
def sey (s : Sez) (kv : Value) : List Value := s.root.map U8 ++ (s.own.map U8 ++ (s.other.map U8 ++ ([.bool s.sends] ++ ([.bool s.takes] ++ (s.send.map U8 ++ (s.take.map U8 ++ ([I s.sent] ++ ([I s.taken] ++ ([I s.prev] ++ [kv])))))))))
def mayZ (a : Int) : Prop := 0 ≤ a ∧ a ≤ 2147483647
structure RightZ (s : Sez) : Prop where
  sent : mayZ s.sent
  taken : mayZ s.taken
  prev : mayZ s.prev
  len : s.kept.length ≤ 2000
  send : s.sends = false → s.send = z32
  take : s.takes = false → s.take = z32
  other : s.sends = false → s.takes = false → s.other = z32
  num : ∀ i, i < s.kept.length → mayZ (s.kept.getD i noKz).num
  one : ∀ i, i < s.kept.length → ∀ k, k < i → ¬ ((s.kept.getD k noKz).num = (s.kept.getD i noKz).num ∧ (s.kept.getD k noKz).chain = (s.kept.getD i noKz).chain)
def Kpz.nat (k : Kpz) : Kp := ⟨k.chain, k.num.toNat, k.key⟩
def Sez.nat (s : Sez) : Ses := ⟨s.root, s.own, s.other, s.sends, s.takes, s.send, s.take, s.sent.toNat, s.taken.toNat, s.prev.toNat, s.kept.map Kpz.nat⟩
theorem nat_I {a : Int} (h : mayZ a) : I a = N a.toNat := by
  unfold I N
  rw [Int.toNat_of_nonneg h.1]
theorem Kpz.nat_c {k : Kpz} (h : mayZ k.num) : kpy k = kpc k.nat := by
  unfold kpy kpc Kpz.nat
  rw [nat_I h]
theorem RightZ.cells {s : Sez} (h : RightZ s) (v : Value) : sey s v = sec s.nat v := by
  unfold sey sec Sez.nat
  dsimp only
  rw [nat_I h.sent, nat_I h.taken, nat_I h.prev]
theorem RightZ.kept {s : Sez} (h : RightZ s) : kpys s.kept = kpcs s.nat.kept := by
  unfold kpys kpcs Sez.nat
  dsimp only
  rw [List.map_map]
  apply List.map_congr_left
  intro k hk
  obtain ⟨i, hi, rfl⟩ := List.mem_iff_getElem.1 hk
  have := h.num i hi
  rw [List.getD_eq_getElem?_getD, List.getElem?_eq_getElem hi] at this
  exact Kpz.nat_c this
end Rtc
open Rtc
structure SlKz where
  ad : Option Addr
  cap : Nat
  l : List Kpz
def SlKz.v (s : SlKz) : Value := .slice s.ad s.l.length s.cap
structure SlKz.ok (w : World) (s : SlKz) : Prop where
  len : s.l.length ≤ s.cap
  reads : Reads w s.ad (kpys s.l).flatten
  all : ∀ k ∈ s.l, k.ok
/-- a session that comes in: its cells, its kept keys -/
structure SeA where
  s : Sez
  k : SlKz
def SeA.v (a : SeA) : Value := .agg (sey a.s a.k.v).toArray
structure SeA.ok (w : World) (a : SeA) : Prop where
  s : a.s.ok
  e : a.k.l = a.s.kept
  k : a.k.ok w
end Go.Proofs.YtbhlcnimjoppeaaDoor

/-
  Of no statement by itself: what the reference's may and Right, and the laws' great and speaks of layer 19 give.
  Conditions: each theorem's own.
-/
namespace Go.Proofs.YtbhlcnimjoppeaaDoor
set_option maxRecDepth 10000
open Sl Sha Str Crv Rtc
open Dsk (Bk)
/-! ### rows of kept keys of any numbers -/
theorem SlKz.ok.at {w : World} {s : SlKz} (h : s.ok w) {i : Nat} (hi : i < s.l.length) : ∃ b j, s.ad = some ⟨b, j, none⟩ ∧ b < w.heap.size ∧ ∀ k u, (kpy (s.l.getD i noKz))[k]? = some u → w.cell? ⟨b, j + i * 65 + k, none⟩ = some u := by
  have hl : (kpys s.l).flatten.length = s.l.length * 65 := by rw [chunk_len (kpys_all h.all), kpys_len]
  have h0 : 0 < (kpys s.l).flatten.length := by omega
  obtain ⟨b, j, e, hc⟩ := h.reads.at h0
  refine ⟨b, j, e, ?_, fun k u hu => ?_⟩
  · obtain ⟨v, hv⟩ : ∃ v, (kpys s.l).flatten[0]? = some v := ⟨_, List.getElem?_eq_getElem h0⟩
    exact block_lt_of_cell (hc 0 v hv)
  · have hat := chunk_at (i := i) (kpys_all h.all) (by rw [kpys_len]; exact hi)
    rw [kpys_at _ hi] at hat
    rw [← hat, List.getElem?_take] at hu
    split at hu
    · rw [List.getElem?_drop] at hu
      rw [Nat.add_assoc]
      exact hc _ u hu
    · cases hu
theorem SlKz.mem {s : SlKz} {i : Nat} (hi : i < s.l.length) : s.l.getD i noKz ∈ s.l := by
  rw [List.getD_eq_getElem?_getD, List.getElem?_eq_getElem hi]
  exact List.getElem_mem hi
/-! ### may, Right -/
section
variable {n : Nat} {E : Env} {C : World → Prop} {dst : Option Tmp} {t t' ty : TypeId} {pos : String} {aft : Array Edge} {g : Option (Nat × Bool)} {x y : Operand}
end
end Go.Proofs.YtbhlcnimjoppeaaDoor

/-
  Of no statement by itself: what the laws' speaks of layer 19 gives.
  Conditions: the listed tables.
-/
namespace Go.Proofs.YtbhlcnimjoppeaaDoor
set_option maxRecDepth 10000
open Sl Sha Str Crv Rtc
open Dsk (Bk)
theorem encr_low (s : Ses) (k : SlK) (hs : s.ok) (he : k.l = s.kept) (hk0 : s.kept.length ≤ 1000000) (hst : s.sent ≤ 2147483648) (hpv : s.prev ≤ 2147483648) (side p : Sl8) (hsl : side.l.length ≤ 1000000) (hpl : p.l.length ≤ 1000000) (w : World) (hG : GOk w) (hQ : GQ w) (hk : k.ok w) (hside : side.ok w) (hp : p.ok w) :
    Calls Tryd.prog 9 [.agg (sec s k.v).toArray, side.v, p.v].toArray w fun e w' => ∃ r : EcR (encS s side.l p.l), e = .returned (.tuple #[.agg (sec (encS s side.l p.l).1 (accV r.q (encS s side.l p.l).1.kept.length)).toArray, accV r.x (encS s side.l p.l).2.1.length, N (encS s side.l p.l).2.2]) ∧ Holds w [] [] w' :=
  (encr_any s k hs he hk0 hst hpv side p hsl hpl w hG hQ hk hside hp).mono fun _ _ ⟨r, e, h⟩ => ⟨r, e, h.weak (Less.nil _)⟩
def nilKk : SlK := ⟨none, 0, []⟩
theorem nilKk_ok (w : World) : nilKk.ok w := ⟨Nat.le_refl _, Reads.nil _ _, nofun⟩
def kk5 : Bk := 5 :: List.replicate 31 0
def kk1 : Bk := 1 :: List.replicate 31 0
theorem goes_speaks19 : Goes Tryd.prog 6 := ⟨_, Tryd.func6, rfl, by kernel_rfl⟩
set_option maxHeartbeats 16000000 in
theorem speaks19_any (w : World) (hG : GOk w) (hQ : GQ w) : Calls Tryd.prog 6 ([] : List Value).toArray w fun e w' => e = .returned (.bool true) ∧ Ext w w' := by
  have c1 := fun w' => cnew_any kk1 rfl w'
  have hY : (multB kk1 (keyN 9)).length = 32 := keyF_len _
  generalize multB kk1 (keyN 9) = Y at c1 hY
  have c2 := fun w' => second_any kk5 kk1 Y rfl rfl hY w'
  have c3 := fun (w' : World) (h1 : GOk w') => first_any kk5 kk1 Y Y rfl rfl hY hY w' h1
  have s2 := secondS_ok kk5 kk1 rfl rfl
  have s1 := firstS_ok kk5 kk1 Y rfl hY
  have e2 : encS (secondS kk5 kk1) [] [] = (secondS kk5 kk1, [], 13) := enc_no rfl _ _
  have e1 : encS (firstS kk5 kk1 Y) [] [1] = (encN (firstS kk5 kk1 Y), encB (firstS kk5 kk1 Y) [] [1], 0) := enc_yes rfl (by show ¬ 2147483647 ≤ 0; decide) _ _
  have hl1 : (encB (firstS kk5 kk1 Y) [] [1]).length = 73 := by
    rw [encB, List.length_append, hdB_len (show (encH (firstS kk5 kk1 Y)).chain.length = 32 from pubB_len _)]
    show 40 + (sealK _ _ z12 _ _).length = 73
    rw [sealK_length]
    rfl
  have s3 := encN_ok s1
  have d2 := fun (w' : World) (h1 : GOk w') (h2 : GQ w') => encr_low (secondS kk5 kk1) nilKk s2 rfl (by show (0 : Nat) ≤ _; decide) (by show (0 : Nat) ≤ _; decide) (by show (0 : Nat) ≤ _; decide) nilS nilS (by show (0 : Nat) ≤ _; decide) (by show (0 : Nat) ≤ _; decide) w' h1 h2 (nilKk_ok _) (nilS_ok _) (nilS_ok _)
  have d1 := fun (b : Nat) (w' : World) (h1 : GOk w') (h2 : GQ w') (h3 : Sl8.ok w' ⟨some ⟨b, 0, none⟩, 1, [1]⟩) => encr_low (firstS kk5 kk1 Y) nilKk s1 rfl (by show (0 : Nat) ≤ _; decide) (by show (0 : Nat) ≤ _; decide) (by show (0 : Nat) ≤ _; decide) nilS ⟨some ⟨b, 0, none⟩, 1, [1]⟩ (by show (0 : Nat) ≤ _; decide) (by show (1 : Nat) ≤ _; decide) w' h1 h2 (nilKk_ok _) (nilS_ok _) h3
  have n2 := fun (v : Value) => sec_len s2 v
  have n3 := fun (v : Value) => sec_len s3 v
  have n1 := sec_len s1 nilKV
  have i1 := half1 (a := kk1) (b := Y) rfl
  have lY : (Y.map U8).length = 32 := by rw [List.length_map, hY]
  rw [show nilS.l = [] from rfl, e2] at d2
  dsimp only at d1
  rw [show nilS.l = [] from rfl, e1] at d1
  clear e1 e2
  have k2 : (secondS kk5 kk1).kept.length = 0 := rfl
  have k3 : (encN (firstS kk5 kk1 Y)).kept.length = 0 := rfl
  simp only [k2] at d2
  simp only [k3, hl1] at d1
  generalize secondS kk5 kk1 = S2 at *
  generalize encN (firstS kk5 kk1 Y) = S3 at *
  generalize firstS kk5 kk1 Y = S1 at *
  generalize encB S1 [] [1] = Z at *
  refine enter (n := 47) Tryd.func6 rfl rfl rfl (Holds.start w []) ?_
  repeat (first | refine JL.q (by (apply OQ.assign; exact rfl)) rfl ?_ | refine JC.seq ?_ | refine JC.region ?_ | refine JL.nil ?_ | refine JE.next ?_)
  refine JL.q (OQ.pure (v := .agg (kk1.map U8).toArray) rfl rfl (by kernel_rfl)) rfl ?_
  repeat (refine JL.q (by (apply OQ.callx (vs := [.agg (kk1.map U8).toArray]); exact goes_cnew; exact rfl; exact (fun w' _ => c1 w'))) rfl ?_)
  refine JL.alloc p64z rfl fun b1 _ => ?_
  refine JL.store_all (cs := (kk1 ++ Y).map U8) p64s rfl rfl (by rw [List.length_map, List.length_append, hY]; rfl) (Y_cell _) .here rfl ?_
  repeat (first | refine JC.seq ?_ | refine JC.region ?_ | refine JL.nil ?_ | refine JE.next ?_)
  refine JL.q (OQ.pure (v := .agg (kk5.map U8).toArray) rfl rfl (by kernel_rfl)) rfl ?_
  have lP : ((kk1 ++ Y).map U8).length = 64 := by rw [List.length_map, List.length_append, hY]; rfl
  repeat (refine JL.q (by first | (apply OQ.load_agg (cs := (kk1 ++ Y).map U8); exact p64a; exact p64s; exact rfl; exact .here; exact lP; exact Row.all) | (apply OQ.callx (vs := [.agg (kk5.map U8).toArray, .agg ((kk1 ++ Y).map U8).toArray]); exact goes_second; exact rfl; exact (fun w' _ => c2 w'))) rfl ?_)
  refine JL.alloc seZ rfl fun b2 _ => ?_
  refine JL.store_all (cs := sec S2 nilKV) seS rfl rfl (n2 _) (sec_one rfl) .here (sec_len zeroS_ok _) ?_
  repeat (first | refine JL.q (by (apply OQ.load_agg (cs := sec S2 nilKV); exact seA; exact seS; exact rfl; exact .here; exact (n2 _); exact Row.all)) rfl ?_ | refine JC.seq ?_ | refine JC.region ?_ | refine JL.nil ?_ | refine JE.next ?_)
  refine JL.callg (ι := EcR (S2, [], 13)) (vs := [.agg (sec S2 nilKV).toArray, nilS.v, nilS.v]) (fun r => .tuple #[.agg (sec S2 (accV r.q 0)).toArray, accV r.x 0, N 13]) (fun _ => []) goes_encr rfl rfl (fun _ => nofun) (fun w' hw' => d2 w' (hG.chg hw'.chg (by simp)) (hQ.chg hw'.chg (by simp))) ?_
  rintro ⟨q2, x2, _, _⟩
  try dsimp only
  simp only [List.nil_append]
  obtain ⟨v2, hv2, hvo2⟩ : ∃ v, accV q2 0 = v ∧ v.oneCell' = true := ⟨_, rfl, by cases q2 <;> rfl⟩
  rw [hv2]
  repeat (refine JL.q (by first | (apply OQ.extract; exact rfl; exact rfl) | (apply OQ.move; exact rfl)) rfl ?_)
  refine JL.alloc seZ rfl fun b3 _ => ?_
  refine JL.store_all (cs := sec S2 v2) seS rfl rfl (n2 _) (sec_one hvo2) .here (sec_len zeroS_ok _) ?_
  repeat (first | refine JL.q (by (apply OQ.assign; exact rfl)) rfl ?_ | refine JC.seq ?_ | refine JC.region ?_ | refine JL.nil ?_ | refine JE.next ?_)
  refine JL.q (OQ.pure (v := .agg (kk5.map U8).toArray) rfl rfl (by kernel_rfl)) rfl ?_
  repeat (refine JL.q (by first | (apply OQ.load_agg (cs := (kk1 ++ Y).map U8); exact p64a; exact p64s; exact rfl; exact (.there (.there .here)); exact lP; exact Row.all) | (apply OQ.load_agg (cs := Y.map U8); exact k32a; exact k32s; exact rfl; exact (.there (.there .here)); exact lY; exact (Row.cells i1)) | (apply OQ.callx (vs := [.agg (kk5.map U8).toArray, .agg ((kk1 ++ Y).map U8).toArray, .agg (Y.map U8).toArray]); exact goes_first; exact rfl; exact (fun w' hw' => c3 w' (hG.chg hw'.chg (by simp)))) | (apply OQ.fld; exact rfl; exact rfl; exact rfl; exact (by decide); exact rfl)) rfl ?_)
  refine JL.lit1 (v := U8 (1 : BitVec 8)) Tryd.underlying27 u8e rfl rfl rfl rfl fun bl _ => ?_
  refine JL.callg (ι := EcR (S3, Z, 0)) (vs := [.agg (sec S1 nilKV).toArray, nilS.v, .slice (some ⟨bl, 0, none⟩) 1 1]) (fun r => .tuple #[.agg (sec S3 (accV r.q 0)).toArray, accV r.x 73, N 0]) (fun _ => []) goes_encr rfl rfl (fun _ => nofun) (fun w' hw' => d1 bl w' (hG.chg hw'.chg (by simp)) (hQ.chg hw'.chg (by simp)) (row_ok (l := [1]) hw' .here rfl (Nat.le_refl _))) ?_
  rintro ⟨q3, x3, _, hx3⟩
  try dsimp only
  simp only [List.nil_append]
  obtain ⟨v3, hv3, hvo3⟩ : ∃ v, accV q3 0 = v ∧ v.oneCell' = true := ⟨_, rfl, by cases q3 <;> rfl⟩
  rw [hv3]
  obtain ⟨a2, c2', hy2⟩ : ∃ a c, accV x2 0 = .slice a 0 c := by cases x2 <;> exact ⟨_, _, rfl⟩
  obtain ⟨a3, c3', hy3⟩ : ∃ a c, accV x3 73 = .slice a 73 c := by
    cases x3 with
    | none => exact absurd (hx3 rfl) (fun h => by have h' : Z = [] := h; rw [h'] at hl1; cases hl1)
    | some r => exact ⟨_, _, rfl⟩
  rw [hy2, hy3]
  repeat (refine JL.q (by first | (apply OQ.extract; exact rfl; exact rfl) | (apply OQ.move; exact rfl)) rfl ?_)
  refine JL.alloc seZ rfl fun b6 _ => ?_
  refine JL.store_all (cs := sec S3 v3) seS rfl rfl (n3 _) (sec_one hvo3) .here (sec_len zeroS_ok _) ?_
  repeat (first | refine JL.q (by first | (apply OQ.eqi_t; exact rfl; exact rfl; exact rfl) | (apply OQ.len (k := 0); exact Tryd.underlying27; exact rfl) | (apply OQ.len (k := 73); exact Tryd.underlying27; exact rfl) | (apply OQ.pick_t; exact rfl; exact rfl) | (apply OQ.move; exact rfl) | (apply OQ.assign; exact rfl)) rfl ?_ | refine JC.seq ?_ | refine JC.region ?_ | refine JL.nil ?_ | refine JE.next ?_ | refine JL.gon rfl rfl ?_)
  exact JC.ret (JE.ret1 rfl (RV.tmp rfl) fun w' hw => ⟨rfl, hw.chg⟩)
end Go.Proofs.YtbhlcnimjoppeaaDoor

/-
  Of no statement by itself: what RatchetFar's mails and sessions are, by definition.
  Conditions: each theorem's own.
-/
namespace Go.Proofs.YtbhlcnimjoppeaaDoor
open Sl Sha Str Crv Rtc
open Dsk (Bk)
theorem far_all (root own other fresh : Bk) (h1 : root.length = 32) (h2 : own.length = 32) (h3 : other.length = 32) (h4 : fresh.length = 32) :
    ∃ (A : Nat → Ses) (m : Nat → Bk) (S T U : Ses), firstS root own (pubB other) = A 0 ∧ secondS root other = S ∧ S.ok ∧ S.kept = [] ∧ S.taken = 0 ∧
      (∀ i, i ≤ 2000 → (A i).ok ∧ (A i).kept = [] ∧ (A i).sent = i ∧ (A i).prev = 0 ∧ encS (A i) [] [BitVec.ofNat 8 i] = (A (i + 1), m i, 0) ∧ (m i).length = 73) ∧
      decS S [] (m 1001) fresh = (S, [], 12) ∧ decS S [] (m 1000) fresh = (T, [232], 0) ∧ decS T [] (m 0) fresh = (U, [0], 0) ∧
      T.ok ∧ U.ok ∧ T.kept.length = 1000 ∧ T.taken ≤ 2147483648 ∧ U.kept.length = 999 := by
  have hF := firstS_ok root own (pubB other) h2 (pubB_len _)
  have hlk : (farS root own other fresh (999 + 1)).kept.length = 1000 := by rw [far_kept root own other fresh _ (by omega), lvK_len]
  have hT := far_ok root own other fresh (999 + 1) h1 h3 h4
  have htk : (farS root own other fresh (999 + 1)).taken ≤ 2147483648 := by
    show 0 + (999 + 1) + 1 ≤ 2147483648
    omega
  have dl := dec_late root own other fresh fresh [] [BitVec.ofNat 8 0] 999 h2 h3 (by omega)
  have dn : decS (secondS root other) [] (encB (encI (firstS root own (pubB other)) 1000) [] [BitVec.ofNat 8 1000]) fresh = (farS root own other fresh (999 + 1), [232], 0) := dec_near root own other fresh [] _ 1000 h2 h3 (by omega)
  generalize farS root own other fresh (999 + 1) = T at *
  refine ⟨fun i => encI (firstS root own (pubB other)) i, fun i => encB (encI (firstS root own (pubB other)) i) [] [BitVec.ofNat 8 i], secondS root other, T, { T with kept := T.kept.eraseIdx 0 }, (encI_zero _ _ _).symm, rfl, secondS_ok _ _ h1 h3, rfl, rfl, fun i hi => ⟨⟨hF.root, hF.own, hF.other, ?_, hF.take, hF.kept⟩, rfl, rfl, rfl, ?_, ?_⟩, ?_, dn, dl, hT, ?_, hlk, htk, ?_⟩
  · exact itr_len hF.send i
  · rw [enc_yes rfl (by show ¬ 2147483647 ≤ i; omega), encI_succ]
  · show (encB _ _ _).length = 73
    rw [encB, List.length_append, hdB_len (show (encH (encI (firstS root own (pubB other)) i)).chain.length = 32 from pubB_len _)]
    have : (Rtc.sealB (msB (encI (firstS root own (pubB other)) i).send) ([] ++ hdB (encH (encI (firstS root own (pubB other)) i))) [BitVec.ofNat 8 i]).length = [BitVec.ofNat 8 i].length + 32 := sealK_length _ _ _ _ _
    rw [this]
    rfl
  · exact dec_far root own other fresh [] _ 1001 (by omega) (by omega)
  · exact ⟨hT.root, hT.own, hT.other, hT.send, hT.take, fun k hk => hT.kept k (List.mem_of_mem_eraseIdx hk)⟩
  · show (T.kept.eraseIdx 0).length = 999
    rw [List.length_eraseIdx, hlk]
    rfl
end Go.Proofs.YtbhlcnimjoppeaaDoor

/-
  RatchetFar: the law's walk.
  Conditions: the listed tables.
-/
namespace Go.Proofs.YtbhlcnimjoppeaaDoor
set_option maxRecDepth 10000
open Sl Sha Str Crv Rtc
open Dsk (Bk)
theorem fE_wr (x : Acc) (l : List Value) : ∀ e ∈ accE 5 x l, e.wr = true := fun e h => by
  cases x with
  | none => cases h
  | some p => simp only [accE, List.mem_singleton] at h; rw [h]
theorem OQ.ne8w {P : Program} {n : Nat} {E : Env} {C : World → Prop} {dst : Option Tmp} {t t' ty : TypeId} {pos : String} {aft : Array Edge} {g : Option (Nat × Bool)} {x y : Operand} {a b : BitVec 8} {c : Bool} (hx : ev E x = some (U8 a)) (hy : ev E y = some (U8 b)) (h : (!decide (a = b)) = c) : OQ P n E C ⟨dst, .binOp .neq t x y t', ty, pos, aft, g⟩ (.bool c) := h ▸ OQ.ne8 hx hy
theorem dcE_wr (x : Sl8) (q : Acc) (ks : List Kp) : ∀ e ∈ x.ents ++ kpE q ks, e.wr = true := fun e he => by
  rcases List.mem_append.1 he with h | h
  · exact Sl8.ents_wr _ e h
  · exact kpE_wr _ _ e h
theorem accK_nil_ok (q : Acc) (w : World) : (accK q []).ok w := by
  cases q with
  | none => exact ⟨Nat.le_refl _, Reads.nil _ _, nofun⟩
  | some p => exact ⟨Nat.zero_le _, Reads.nil _ _, nofun⟩
theorem sl8_nil_ok (ad : Option Addr) (c : Nat) (w : World) : Sl8.ok w ⟨ad, c, []⟩ := ⟨Nat.zero_le _, Reads.nil _ _⟩
/-- the loop's state: how many, the kept keys' slice, the first mail and the last, what holds of the heap -/
structure FarL where
  i : Nat
  q : Acc
  k0 : Sl8
  k1 : Sl8
  es : List Ent
structure FarI (L : Nat) (m : Nat → Bk) (w : World) (t : FarL) : Prop where
  i : t.i ≤ L + 1
  ok : ∀ w', Holds w [] t.es w' → t.k0.ok w' ∧ t.k1.ok w'
  l : 0 < t.i → t.k0.l = m 0 ∧ t.k1.l = m (t.i - 1)
set_option maxHeartbeats 64000000 in
theorem law_ratchetFar (root own other fresh : Bk) (over : Bool) (w : World) (h1 : root.length = 32) (h2 : own.length = 32) (h3 : other.length = 32) (h4 : fresh.length = 32) (hG : GOk w) (hQ : GQ w) :
    Calls Tryd.prog 5 [.agg (root.map U8).toArray, .agg (own.map U8).toArray, .agg (other.map U8).toArray, .agg (fresh.map U8).toArray, .bool over].toArray w fun e w' => e = .returned (.bool true) ∧ Ext w w' := by
  have l1 : (root.map U8).length = 32 := by rw [List.length_map]; exact h1
  have l2 : (own.map U8).length = 32 := by rw [List.length_map]; exact h2
  have l3 : (other.map U8).length = 32 := by rw [List.length_map]; exact h3
  have l4 : (fresh.map U8).length = 32 := by rw [List.length_map]; exact h4
  have csp := fun (w' : World) (hG' : GOk w') (hQ' : GQ w') => speaks19_any w' hG' hQ'
  have cn := fun (w' : World) => cnew_any other h3 w'
  have cm := fun (w' : World) => cnew_any own h2 w'
  have hY : (pubB other).length = 32 := pubB_len _
  have hX : (pubB own).length = 32 := pubB_len _
  have i1 := half1 (b := pubB other) h3
  have cf := fun (w' : World) (hG' : GOk w') => first_any root own (pubB own) (pubB other) h1 h2 hX hY w' hG'
  have cs := fun (w' : World) => second_any root other (pubB other) h1 h3 hY w'
  obtain ⟨A, m, S, T, X, eA, eS, hS, hS2, hS3, hA, hd1, hd2, hd3, hT, hX2, hT2, hT3, hX3⟩ := far_all root own other fresh h1 h2 h3 h4
  rw [eA] at cf
  rw [eS] at cs
  have lY : ((pubB other).map U8).length = 32 := by rw [List.length_map, hY]
  have lP : ((other ++ pubB other).map U8).length = 64 := by rw [List.length_map, List.length_append, h3, hY]
  change (∀ w', Calls _ _ _ w' fun e w'' => e = .returned (.agg ((other ++ pubB other).map U8).toArray) ∧ Ext w' w'') at cn
  change (∀ w', Calls _ _ _ w' fun e w'' => e = .returned (.agg ((own ++ pubB own).map U8).toArray) ∧ Ext w' w'') at cm
  generalize pubB other = Y at *
  generalize pubB own = Z at *
  clear eA eS
  have nA : ∀ i, i ≤ 2000 → ∀ v, (sec (A i) v).length = 166 := fun i hi v => sec_len (hA i hi).1 v
  have nS := fun v => sec_len hS v
  have nT := fun v => sec_len hT v
  have nX := fun v => sec_len hX2 v
  have cE := fun (i : Nat) (hi : i ≤ 1999) (q : Acc) (b : Nat) (w' : World) (g1 : GOk w') (g2 : GQ w') (hp : Sl8.ok w' ⟨some ⟨b, 0, none⟩, 1, [BitVec.ofNat 8 i]⟩) => by
    obtain ⟨a1, a2, a3, a4, a5, a6⟩ := hA i (by omega)
    have := encr_any (A i) (accK q []) a1 (by rw [a2]; cases q <;> rfl) (by rw [a2]; decide) (by omega) (by omega) nilS ⟨some ⟨b, 0, none⟩, 1, [BitVec.ofNat 8 i]⟩ (by show (0 : Nat) ≤ _; decide) (by show (1 : Nat) ≤ _; decide) w' g1 g2 (accK_nil_ok q w') (nilS_ok _) hp
    dsimp only at this
    rw [show nilS.l = [] from rfl, a5, accK_v] at this
    dsimp only at this
    rw [(hA (i + 1) (by omega)).2.1] at this
    exact this
  refine enter (n := 134) Tryd.func5 rfl rfl rfl (Holds.start w []) ?_
  repeat (first | refine JC.seq ?_ | refine JC.region ?_)
  refine JL.box (r := root.map U8) rfl rfl rfl fun b5 _ => ?_
  refine JL.box (r := own.map U8) rfl rfl rfl fun b6 _ => ?_
  refine JL.box (r := other.map U8) rfl rfl rfl fun b7 _ => ?_
  refine JL.box (r := fresh.map U8) rfl rfl rfl fun b8 _ => ?_
  repeat (first | refine JL.q (by first | (apply OQ.callx (vs := []); exact goes_speaks19; exact rfl; exact (fun w' hw' => csp w' (hG.chg hw'.chg (by simp)) (hQ.chg hw'.chg (by simp)))) | (apply OQ.not; exact rfl) | (apply OQ.assign; exact rfl)) rfl ?_ | refine JC.seq ?_ | refine JC.region ?_ | refine JL.nil ?_ | refine JE.next ?_)
  refine JC.cond_false rfl rfl ?_
  repeat (first | refine JL.q (by first | (apply OQ.load_agg (cs := other.map U8); exact k32a; exact k32s; exact rfl; exact (.there .here); exact l3; exact Row.all) | (apply OQ.callx (vs := [.agg (other.map U8).toArray]); exact goes_cnew; exact rfl; exact (fun w' _ => cn w'))) rfl ?_ | refine JC.seq ?_ | refine JC.region ?_ | refine JC.skip ?_ | refine JE.next ?_)
  refine JL.alloc p64z rfl fun b11 _ => ?_
  refine JL.store_all (cs := (other ++ Y).map U8) p64s rfl rfl lP (Y_cell _) .here rfl ?_
  repeat (first | refine JC.seq ?_ | refine JL.nil ?_ | refine JE.next ?_)
  let vs : Nat → Nat → Value := fun j y => match j with
    | 0 => .agg (root.map U8).toArray
    | 1 => .agg (own.map U8).toArray
    | 2 => .agg ((own ++ Z).map U8).toArray
    | 3 => Pt b11 32
    | 4 => .agg (Y.map U8).toArray
    | 5 => .agg (sec (A 0) nilKV).toArray
    | 6 => .agg (root.map U8).toArray
    | 7 => .agg ((other ++ Y).map U8).toArray
    | 8 => .agg (sec S nilKV).toArray
    | 9 => Pt y 0
    | 10 => Pt y 0
    | _ => N 0
  let Ms : Nat → Nat → List Ent := fun j y => match j with
    | 9 => [⟨y, Row 26 (sec zeroS nilKV), true⟩]
    | 10 => [⟨y, Row 26 (sec zeroS nilKV), true⟩]
    | 11 => [⟨y, Row 26 (sec (A 0) nilKV), true⟩]
    | 12 => [⟨y, Row 26 (sec S nilKV), true⟩]
    | 13 => [⟨b11, Row 39 ((other ++ Y).map U8), true⟩]
    | 14 => [⟨b8, Row 23 (fresh.map U8), true⟩]
    | 15 => [⟨b7, Row 23 (other.map U8), true⟩]
    | 16 => [⟨b6, Row 23 (own.map U8), true⟩]
    | 17 => [⟨b5, Row 23 (root.map U8), true⟩]
    | _ => []
  refine JC.grow (g := ⟨[(4, .bool over), (5, Pt b5 0), (6, Pt b6 0), (8, Pt b8 0), (11, Pt b11 0)], 18, vs, Ms, (fun j => match j with | 2 => [(1, 30)] | 4 => [(3, 32)] | 5 => [(0, 29), (2, 31), (4, 33)] | 8 => [(6, 35), (7, 36)] | 11 => [(9, 12), (5, 34)] | 12 => [(10, 13), (8, 37)] | _ => []), (fun j => match j with | 0 => [17] | 1 => [16] | 4 => [13] | 6 => [17] | 7 => [13] | 11 => [9] | 12 => [10] | _ => []), (fun j => match j with | 11 => [9] | 12 => [10] | _ => []), (fun j => match j with | 11 => some 9 | 12 => some 10 | _ => none)⟩) [(9, 12), (10, 13)] [11, 12, 14] mixT (by repeat (first | exact SubE.nil | refine SubE.cons _ _ _ rfl ?_)) ?_ (by kernel_rfl) (by kernel_rfl) (by kernel_rfl) ?_ ?_
  · exact Less.refl _
  · refine ⟨?_, ?_, ?_, ?_, ?_, ?_, ?_, ?_, ?_, ?_, ?_, ?_, ?_, trivial⟩
    · (intro xx EF MF Q kk; (try refine JL.gon rfl rfl ?_); exact JL.q (OQ.load_agg (cs := root.map U8) k32a k32s rfl .here l1 Row.all) rfl (JL.nil (kk default nofun)))
    · (intro xx EF MF Q kk; (try refine JL.gon rfl rfl ?_); exact JL.q (OQ.load_agg (cs := own.map U8) k32a k32s rfl .here l2 Row.all) rfl (JL.nil (kk default nofun)))
    · (intro xx EF MF Q kk; (try refine JL.gon rfl rfl ?_); exact JL.q (OQ.callx (vs := [.agg (own.map U8).toArray]) goes_cnew rfl (fun w' _ => cm w')) rfl (JL.nil (kk default nofun)))
    · (intro xx EF MF Q kk; (try refine JL.gon rfl rfl ?_); exact JL.q (OQ.fld rfl rfl rfl (by decide) rfl) rfl (JL.nil (kk default nofun)))
    · (intro xx EF MF Q kk; (try refine JL.gon rfl rfl ?_); exact JL.q (OQ.load_agg (cs := Y.map U8) k32a k32s rfl .here lY (Row.cells i1)) rfl (JL.nil (kk default nofun)))
    · (intro xx EF MF Q kk; (try refine JL.gon rfl rfl ?_); exact JL.q (OQ.callx (vs := [.agg (root.map U8).toArray, .agg ((own ++ Z).map U8).toArray, .agg (Y.map U8).toArray]) goes_first rfl (fun w' hw' => cf w' (hG.chg hw'.chg (by simp)))) rfl (JL.nil (kk default nofun)))
    · (intro xx EF MF Q kk; (try refine JL.gon rfl rfl ?_); exact JL.q (OQ.load_agg (cs := root.map U8) k32a k32s rfl .here l1 Row.all) rfl (JL.nil (kk default nofun)))
    · (intro xx EF MF Q kk; (try refine JL.gon rfl rfl ?_); exact JL.q (OQ.load_agg (cs := (other ++ Y).map U8) p64a p64s rfl .here lP Row.all) rfl (JL.nil (kk default nofun)))
    · (intro xx EF MF Q kk; (try refine JL.gon rfl rfl ?_); exact JL.q (OQ.callx (vs := [.agg (root.map U8).toArray, .agg ((other ++ Y).map U8).toArray]) goes_second rfl (fun w' _ => cs w')) rfl (JL.nil (kk default nofun)))
    · (intro xx EF MF Q kk; exact JL.alloc seZ rfl fun b0 _ => JL.nil (kk b0 nofun))
    · (intro xx EF MF Q kk; exact JL.alloc seZ rfl fun b0 _ => JL.nil (kk b0 nofun))
    · (intro xx EF MF Q kk; exact JL.store_all (cs := sec (A 0) nilKV) seS rfl rfl (nA 0 (by decide) _) (sec_one rfl) .here (sec_len zeroS_ok _) (JL.nil (kk (xx 9) (fun k h => by cases h; rfl))))
    · (intro xx EF MF Q kk; exact JL.store_all (cs := sec S nilKV) seS rfl rfl (nS _) (sec_one rfl) .here (sec_len zeroS_ok _) (JL.nil (kk (xx 10) (fun k h => by cases h; rfl))))
  · intro xx hx
    have e11 : xx 11 = xx 9 := hx 11 9 (by decide) rfl
    have e12 : xx 12 = xx 10 := hx 12 10 (by decide) rfl
    show JE _ _ _ _ _ [(12, Pt (xx 9) 0), (13, Pt (xx 10) 0), (4, .bool over), (5, Pt b5 0), (6, Pt b6 0), (8, Pt b8 0), (11, Pt b11 0)] [⟨xx 11, Row 26 (sec (A 0) nilKV), true⟩, ⟨xx 12, Row 26 (sec S nilKV), true⟩, ⟨b8, Row 23 (fresh.map U8), true⟩]
    rw [e11, e12]
    generalize xx 9 = b12
    generalize xx 10 = b13
    clear hx e11 e12 xx vs Ms
    refine JE.next ?_
    refine JC.seq (JC.region ?_)
    repeat (refine JL.q (by (apply OQ.assign; exact rfl)) rfl ?_)
    refine JL.nil (JE.next ?_)
    obtain ⟨L, hL⟩ : ∃ L, (if over then 1001 else 1000) = L := ⟨_, rfl⟩
    have hL2 : L ≤ 1001 := by rw [← hL]; split <;> decide
    refine JC.mid (ι := Unit) (fun _ => [(4, .bool over), (8, Pt b8 0), (12, Pt b12 0), (13, Pt b13 0), (14, N L)]) (fun _ => [⟨b12, Row 26 (sec (A 0) nilKV), true⟩, ⟨b13, Row 26 (sec S nilKV), true⟩, ⟨b8, Row 23 (fresh.map U8), true⟩]) (fun _ => True) ?_ ?_
    · cases over
      · obtain rfl : 1000 = L := hL
        repeat (first | refine JL.q (by (apply OQ.move; exact rfl)) rfl ?_ | refine JC.seq ?_ | refine JC.region ?_ | refine JL.nil ?_ | refine JE.next ?_)
        refine JC.cond_false rfl rfl ?_
        repeat (refine JC.skip ?_)
        exact JE.mid () trivial (by repeat (first | exact SubE.nil | refine SubE.cons _ _ _ rfl ?_)) (Less.refl _)
      · obtain rfl : 1001 = L := hL
        repeat (first | refine JL.q (by (apply OQ.move; exact rfl)) rfl ?_ | refine JC.seq ?_ | refine JC.region ?_ | refine JL.nil ?_ | refine JE.next ?_)
        refine JC.cond_true rfl rfl ?_
        repeat (first | refine JL.q (by first | (apply OQ.addN (a := 1000) (b := 1); exact rfl; exact rfl; exact (by decide)) | (apply OQ.move; exact rfl) | (apply OQ.assign; exact rfl)) rfl ?_ | refine JC.region ?_ | refine JL.nil ?_)
        exact JE.mid () trivial (by repeat (first | exact SubE.nil | refine SubE.cons _ _ _ rfl ?_)) (Less.refl _)
    rintro _ _
    repeat (first | refine JC.seq ?_ | refine JC.region ?_)
    refine JL.lit0 Tryd.underlying27 u8e rfl fun b41 _ => ?_
    refine JL.lit0 Tryd.underlying27 u8e rfl fun b42 _ => ?_
    repeat (first | refine JL.q (by (apply OQ.assign; exact rfl)) rfl ?_ | refine JC.seq ?_ | refine JC.region ?_ | refine JC.block ?_ | refine JL.nil ?_ | refine JE.next ?_)
    refine JC.loop (fun t : FarL => [(4, .bool over), (8, Pt b8 0), (12, Pt b12 0), (13, Pt b13 0), (14, N L), (15, t.k0.v), (16, t.k1.v), (17, N t.i)]) (fun t => ⟨b12, Row 26 (sec (A t.i) (accV t.q 0)), true⟩ :: ⟨b13, Row 26 (sec S nilKV), true⟩ :: ⟨b8, Row 23 (fresh.map U8), true⟩ :: t.es) (fun t => L + 1 - t.i) (FarI L m w) ⟨0, none, ⟨some ⟨b41, 0, none⟩, 0, []⟩, ⟨some ⟨b42, 0, none⟩, 0, []⟩, []⟩ ⟨Nat.zero_le _, fun w' _ => ⟨sl8_nil_ok _ _ _, sl8_nil_ok _ _ _⟩, fun h => absurd h (Nat.lt_irrefl _)⟩ (by repeat (first | exact SubE.nil | refine SubE.cons _ _ _ rfl ?_)) (.drop _ _ _ (.drop _ _ _ (Less.refl _))) ?_
    rintro ⟨i, q, k0, k1, es⟩ ⟨hi, hes, hl⟩
    dsimp only at hi hes hl ⊢
    by_cases hc : i ≤ L
    · have e1 : decide ((i : Int) ≤ (L : Int)) = true := decide_eq_true (by omega)
      have hi2 : i ≤ 2000 := by omega
      have lm := (hA i hi2).2.2.2.2.2
      repeat (first | refine JL.q (by first | (apply OQ.leqB (a := i) (b := L); exact rfl; exact rfl; exact e1) | (apply OQ.move; exact rfl)) rfl ?_ | refine JC.seq ?_ | refine JC.region ?_ | refine JL.nil ?_ | refine JE.next ?_)
      refine JC.cond_true rfl rfl ?_
      repeat (first | refine JL.q (by first | (apply OQ.load_agg (cs := sec (A i) (accV q 0)); exact seA; exact seS; exact rfl; exact .here; exact (nA i hi2 _); exact Row.all) | (apply OQ.convN_8; exact Tryd.underlying3; exact Tryd.underlying5; exact rfl) | (apply OQ.move; exact rfl)) rfl ?_ | refine JC.seq ?_ | refine JC.region ?_ | refine JC.block ?_ | refine JC.skip ?_ | refine JE.next ?_)
      refine JL.lit1 (v := U8 (BitVec.ofNat 8 i)) Tryd.underlying27 u8e rfl rfl rfl rfl fun bl _ => ?_
      refine JL.callg (ι := EcR (A (i + 1), m i, 0)) (vs := [.agg (sec (A i) (accV q 0)).toArray, nilS.v, .slice (some ⟨bl, 0, none⟩) 1 1]) (fun r => .tuple #[.agg (sec (A (i + 1)) (accV r.q 0)).toArray, accV r.x (m i).length, N 0]) (fun r => accE 5 r.x ((m i).map U8)) goes_encr rfl rfl (fun r => fE_wr _ _) (fun w' hw' => (cE i (by omega) q bl w' (hG.chg hw'.chg (by simp)) (hQ.chg hw'.chg (by simp)) (row_ok (l := [BitVec.ofNat 8 i]) hw' .here rfl (Nat.le_refl _))).mono fun _ _ ⟨r, e, h⟩ => ⟨r, e, h.weak (less_pre _ _)⟩) ?_
      rintro ⟨q2, x, _, hx⟩
      dsimp only at hx ⊢
      have kok : ∀ w' M', Holds w [] (accE 5 x ((m i).map U8) ++ M') w' → (accS x (m i)).ok w' := fun w' M' h => acc_ok h
      have kl : (accS x (m i)).l = m i := accS_l hx
      rw [← accS_v x (m i)]
      generalize accS x (m i) = kx at *
      refine JL.permS (M' := ⟨bl, Row 5 [U8 (BitVec.ofNat 8 i)], true⟩ :: ⟨b12, Row 26 (sec (A i) (accV q 0)), true⟩ :: ⟨b13, Row 26 (sec S nilKV), true⟩ :: ⟨b8, Row 23 (fresh.map U8), true⟩ :: (accE 5 x ((m i).map U8) ++ es)) (List.perm_append_comm_assoc _ [_, _, _, _] _) ?_
      repeat (refine JL.q (by first | (apply OQ.extract; exact rfl; exact rfl) | (apply OQ.move; exact rfl)) rfl ?_)
      refine JL.alloc seZ rfl fun b18 _ => ?_
      refine JL.store_all (cs := sec (A (i + 1)) (accV q2 0)) seS rfl rfl (nA (i + 1) (by omega) _) (sec_one (accV_one _ _)) .here (sec_len zeroS_ok _) ?_
      repeat (first | refine JL.q (by first | (apply OQ.neB (a := 0) (b := 0) (c := true); exact rfl; exact rfl; exact rfl) | (apply OQ.move; exact rfl) | (apply OQ.assign; exact rfl)) rfl ?_ | refine JC.seq ?_ | refine JC.region ?_ | refine JL.nil ?_ | refine JE.next ?_)
      refine JC.cond_false rfl rfl ?_
      refine JC.skip (JE.next ?_)
      obtain ⟨k0', hk0⟩ : ∃ k, (if i = 0 then kx else k0) = k := ⟨_, rfl⟩
      refine JC.mid (ι := Unit) (fun _ => [(4, .bool over), (8, Pt b8 0), (12, Pt b12 0), (13, Pt b13 0), (14, N L), (15, k0'.v), (17, N i), (18, Pt b18 0), (19, kx.v)]) (fun _ => ⟨b18, Row 26 (sec (A (i + 1)) (accV q2 0)), true⟩ :: ⟨b12, Row 26 (sec (A i) (accV q 0)), true⟩ :: ⟨b13, Row 26 (sec S nilKV), true⟩ :: ⟨b8, Row 23 (fresh.map U8), true⟩ :: (accE 5 x ((m i).map U8) ++ es)) (fun _ => True) ?_ ?_
      · by_cases h0 : i = 0
        · subst h0
          obtain rfl : kx = k0' := by simpa using hk0
          repeat (first | refine JL.q (by first | (apply OQ.eqi_t; exact rfl; exact rfl; exact rfl) | (apply OQ.move; exact rfl)) rfl ?_ | refine JC.seq ?_ | refine JC.region ?_ | refine JL.nil ?_ | refine JE.next ?_)
          refine JC.cond_true rfl rfl ?_
          repeat (first | refine JL.q (by first | (apply OQ.move; exact rfl) | (apply OQ.assign; exact rfl)) rfl ?_ | refine JC.region ?_ | refine JL.nil ?_)
          exact JE.mid () trivial (by repeat (first | exact SubE.nil | refine SubE.cons _ _ _ rfl ?_)) (.keep _ _ _ _ _ _ (fun _ h => h) (.drop _ _ _ (Less.refl _)))
        · obtain rfl : k0 = k0' := by simpa [h0] using hk0
          have e0 : decide ((i : Int) = 0) = false := decide_eq_false (by omega)
          repeat (first | refine JL.q (by first | (apply OQ.eqB (a := i) (b := 0); exact rfl; exact rfl; exact e0) | (apply OQ.move; exact rfl)) rfl ?_ | refine JC.seq ?_ | refine JC.region ?_ | refine JL.nil ?_ | refine JE.next ?_)
          refine JC.cond_false rfl rfl ?_
          repeat (refine JC.skip ?_)
          exact JE.mid () trivial (by repeat (first | exact SubE.nil | refine SubE.cons _ _ _ rfl ?_)) (.keep _ _ _ _ _ _ (fun _ h => h) (.drop _ _ _ (Less.refl _)))
      rintro _ _
      repeat (first | refine JL.q (by first | (apply OQ.load_agg (cs := sec (A (i + 1)) (accV q2 0)); exact seA; exact seS; exact rfl; exact .here; exact (nA (i + 1) (by omega) _); exact Row.all) | (apply OQ.move; exact rfl)) rfl ?_ | refine JC.region ?_)
      refine JL.store_all (cs := sec (A (i + 1)) (accV q2 0)) seS rfl rfl (nA (i + 1) (by omega) _) (sec_one (accV_one _ _)) (.there .here) (nA i hi2 _) ?_
      repeat (first | refine JL.q (by first | (apply OQ.addN (a := i) (b := 1); exact rfl; exact rfl; exact (by omega)) | (apply OQ.move; exact rfl) | (apply OQ.assign; exact rfl)) rfl ?_ | refine JC.region ?_ | refine JL.nil ?_ | refine JE.next ?_ | refine JE.blk_normal ?_)
      refine JE.again (i := (⟨i, q, k0, k1, es⟩ : FarL)) ⟨i + 1, q2, k0', kx, accE 5 x ((m i).map U8) ++ es⟩ ⟨by show i + 1 ≤ L + 1; omega, fun w' h => ⟨?_, kok w' _ h⟩, fun _ => ⟨?_, kl⟩⟩ (by show L + 1 - (i + 1) < L + 1 - i; omega) (by repeat (first | exact SubE.nil | refine SubE.cons _ _ _ rfl ?_)) (.drop _ _ _ (Less.refl _))
      · rw [← hk0]
        split
        · exact kok w' _ h
        · exact (hes w' (h.weak (less_app _ (Less.refl _)))).1
      · rw [← hk0]
        split
        · next h0 => subst h0; exact kl
        · next h0 => exact (hl (by omega)).1
    · have e1 : decide ((i : Int) ≤ (L : Int)) = false := decide_eq_false (by omega)
      obtain rfl : i = L + 1 := by omega
      obtain ⟨hk0, hk1⟩ := hl (Nat.succ_pos _)
      rw [Nat.add_sub_cancel] at hk1
      clear hl hi hc
      have lm := (hA L (by omega)).2.2.2.2.2
      have lm0 := (hA 0 (by omega)).2.2.2.2.2
      repeat (first | refine JL.q (by first | (apply OQ.leqB (a := (L + 1 : Nat)) (b := L); exact rfl; exact rfl; exact e1) | (apply OQ.move; exact rfl)) rfl ?_ | refine JC.seq ?_ | refine JC.region ?_ | refine JL.nil ?_ | refine JE.next ?_)
      refine JC.cond_false rfl rfl ?_
      cases over
      · obtain rfl : 1000 = L := hL
        have lm0' : k0.l.length ≤ 1000000 := by rw [hk0, lm0]; decide
        have lm1' : k1.l.length ≤ 1000000 := by rw [hk1, lm]; decide
        have cD : ∀ w' : World, GOk w' → GQ w' → k1.ok w' → Calls Tryd.prog 21 [.agg (sec S nilKV).toArray, nilS.v, k1.v, .agg (fresh.map U8).toArray].toArray w' fun e w'' => ∃ r : DcR (T, [232], 0), e = .returned (.tuple #[.agg (sec T (accV r.q 1000)).toArray, r.x.1.v, N 0]) ∧ Holds w' [] (r.x.1.ents ++ kpE r.q T.kept) w'' := fun w' g1 g2 hz => by
          have := decr_any S nilKk hS hS2.symm (by rw [hS2]; decide) (by rw [hS3]; decide) nilS k1 (by show (0 : Nat) ≤ _; decide) lm1' fresh h4 w' g1 g2 (nilKk_ok _) (nilS_ok _) hz
          rw [show nilS.l = [] from rfl, hk1, hd2] at this
          dsimp only at this
          rw [hT2] at this
          exact this
        repeat (first | refine JL.q (by first | (apply OQ.load_agg (cs := sec S nilKV); exact seA; exact seS; exact rfl; exact (.there .here); exact (nS _); exact Row.all) | (apply OQ.load_agg (cs := fresh.map U8); exact k32a; exact k32s; exact rfl; exact (.there (.there .here)); exact l4; exact Row.all) | (apply OQ.move; exact rfl)) rfl ?_ | refine JC.seq ?_ | refine JC.region ?_ | refine JC.exit ?_ | refine JE.next ?_ | refine JE.then_exit ?_ | refine JE.blk_hit ?_)
        refine JL.callg (ι := DcR (T, [232], 0)) (vs := [.agg (sec S nilKV).toArray, nilS.v, k1.v, .agg (fresh.map U8).toArray]) (fun r => .tuple #[.agg (sec T (accV r.q 1000)).toArray, r.x.1.v, N 0]) (fun r => r.x.1.ents ++ kpE r.q T.kept) goes_decr rfl rfl (fun r => dcE_wr _ _ _) (fun w' hw' => cD w' (hG.chg hw'.chg (by simp)) (hQ.chg hw'.chg (by simp)) (hes w' (hw'.weak (.drop _ _ _ (.drop _ _ _ (.drop _ _ _ (Less.refl _)))))).2) ?_
        clear cD
        rintro ⟨q3, ⟨⟨ad, cp, l⟩, hs'⟩, hq3⟩
        obtain rfl : l = [232] := hs'.val
        cases q3 with
        | none => exact absurd (hq3 rfl) (fun h => by have h : T.kept = [] := h; rw [h] at hT2; cases hT2)
        | some p3 =>
        cases ad with
        | none => exact absurd (hs'.none rfl) (by simp)
        | some a =>
        obtain ⟨bx, jx, sp⟩ := a
        dsimp only
        simp only [Sl8.ents, List.cons_append, List.nil_append, List.append_assoc]
        refine JL.fact (b := bx) (A := fun o => hasCells o jx ([232].map U8) ∧ [232].length ≤ cp ∧ sp = none) (wr := true) .here (fun o h => h.2.2) fun hsp => ?_
        subst hsp
        repeat (refine JL.q (by first | (apply OQ.extract; exact rfl; exact rfl) | (apply OQ.move; exact rfl)) rfl ?_)
        refine JL.alloc seZ rfl fun b21 _ => ?_
        refine JL.store_all (cs := sec T (accV (some p3) 1000)) seS rfl rfl (nT _) (sec_one (accV_one _ _)) .here (sec_len zeroS_ok _) ?_
        repeat (first | refine JL.q (by first | (apply OQ.move; exact rfl) | (apply OQ.assign; exact rfl)) rfl ?_ | refine JC.seq ?_ | refine JC.region ?_ | refine JL.nil ?_ | refine JE.next ?_)
        refine JC.cond_false rfl rfl ?_
        have hkc : ∀ o, Row 26 (sec T (accV (some p3) 1000)) o → cellAt o 165 = some (.slice (some ⟨p3.1, 0, none⟩) 1000 p3.2) := Row.cell (sec_kept hT _)
        repeat (first | refine JL.q (by first | (apply OQ.neB (a := 0) (b := 0) (c := true); exact rfl; exact rfl; exact rfl) | (apply OQ.pick_f; exact rfl; exact rfl) | (apply OQ.len (k := 1) (ad := some ⟨bx, jx, none⟩) (cap := cp); exact Tryd.underlying27; exact rfl) | (apply OQ.neB (a := 1) (b := 1) (c := true); exact rfl; exact rfl; exact rfl) | (apply OQ.idxS1 (i := 0) (len := 1) (cap := cp) (b := bx) (j := jx); exact Tryd.underlying27; exact u8s; exact rfl; exact rfl; exact (by decide)) | (apply OQ.load (A := fun o => hasCells o jx ([232].map U8) ∧ [232].length ≤ cp ∧ (none : Option Nat) = none) (wr := true); exact u8c; exact rfl; exact (.there .here); exact (fun o h => has_cell h.1 rfl)) | (apply OQ.andI (k := 8) (a := 1000) (m := 255) (r := 256); exact (by decide); exact (by decide); exact (by decide); exact rfl; exact rfl) | (apply OQ.convI_8; exact Tryd.underlying3; exact Tryd.underlying5; exact rfl) | (apply OQ.ne8w (a := 232) (b := BitVec.ofInt 8 (1000 % 256)) (c := false); exact rfl; exact rfl; exact (by decide)) | (apply OQ.load; exact slkC; exact rfl; exact .here; exact hkc) | (apply OQ.len (k := 1000) (ad := some ⟨p3.1, 0, none⟩) (cap := p3.2); exact Tryd.underlying24; exact rfl) | (apply OQ.neB (a := 1000) (b := 1000) (c := true); exact rfl; exact rfl; exact (decide_eq_true rfl)) | (apply OQ.move; exact rfl) | (apply OQ.fld; exact rfl; exact rfl; exact rfl; exact (by decide); exact rfl)) rfl ?_ | refine JC.seq ?_ | refine JC.region ?_ | refine JC.skip ?_ | refine JL.nil ?_ | refine JE.next ?_ | refine JL.gon rfl rfl ?_)
        refine JC.cond_false rfl rfl ?_
        have cD : ∀ w' : World, GOk w' → GQ w' → k0.ok w' → (accK (some p3) T.kept).ok w' → Calls Tryd.prog 21 [.agg (sec T (accV (some p3) 1000)).toArray, nilS.v, k0.v, .agg (fresh.map U8).toArray].toArray w' fun e w'' => ∃ r : DcR (X, [0], 0), e = .returned (.tuple #[.agg (sec X (accV r.q 999)).toArray, r.x.1.v, N 0]) ∧ Holds w' [] (r.x.1.ents ++ kpE r.q X.kept) w'' := fun w' g1 g2 hz hK => by
          have := decr_any T (accK (some p3) T.kept) hT (accK_l nofun) (by rw [hT2]; decide) hT3 nilS k0 (by show (0 : Nat) ≤ _; decide) lm0' fresh h4 w' g1 g2 hK (nilS_ok _) hz
          rw [show nilS.l = [] from rfl, hk0, hd3, accK_v, hT2] at this
          dsimp only at this
          rw [hX3] at this
          exact this
        repeat (first | refine JL.q (by first | (apply OQ.load_agg (cs := sec T (accV (some p3) 1000)); exact seA; exact seS; exact rfl; exact .here; exact (nT _); exact Row.all) | (apply OQ.load_agg (cs := fresh.map U8); exact k32a; exact k32s; exact rfl; exact (.there (.there (hasApp _ (.there (.there .here))))); exact l4; exact Row.all) | (apply OQ.move; exact rfl)) rfl ?_ | refine JC.seq ?_ | refine JC.region ?_ | refine JC.skip ?_ | refine JE.next ?_)
        refine JL.callg (ι := DcR (X, [0], 0)) (vs := [.agg (sec T (accV (some p3) 1000)).toArray, nilS.v, k0.v, .agg (fresh.map U8).toArray]) (fun r => .tuple #[.agg (sec X (accV r.q 999)).toArray, r.x.1.v, N 0]) (fun r => r.x.1.ents ++ kpE r.q X.kept) goes_decr rfl rfl (fun r => dcE_wr _ _ _) (fun w' hw' => cD w' (hG.chg hw'.chg (by simp)) (hQ.chg hw'.chg (by simp)) (hes w' (hw'.weak (.drop _ _ _ (.drop _ _ _ (less_app _ (.drop _ _ _ (.drop _ _ _ (.drop _ _ _ (Less.refl _))))))))).1 (accK_ok hT.kept (hw'.weak (.drop _ _ _ (.drop _ _ _ (Less.refl _)))))) ?_
        clear cD
        rintro ⟨q4, ⟨⟨ad, cp4, l⟩, hs4⟩, hq4⟩
        obtain rfl : l = [0] := hs4.val
        cases q4 with
        | none => exact absurd (hq4 rfl) (fun h => by have h : X.kept = [] := h; rw [h] at hX3; cases hX3)
        | some p4 =>
        cases ad with
        | none => exact absurd (hs4.none rfl) (by simp)
        | some a =>
        obtain ⟨by4, jy, sp⟩ := a
        dsimp only
        simp only [Sl8.ents, List.cons_append, List.nil_append, List.append_assoc]
        refine JL.fact (b := by4) (A := fun o => hasCells o jy ([0].map U8) ∧ [0].length ≤ cp4 ∧ sp = none) (wr := true) .here (fun o h => h.2.2) fun hsp => ?_
        subst hsp
        repeat (refine JL.q (by first | (apply OQ.extract; exact rfl; exact rfl) | (apply OQ.move; exact rfl)) rfl ?_)
        refine JL.alloc seZ rfl fun b24 _ => ?_
        refine JL.store_all (cs := sec X (accV (some p4) 999)) seS rfl rfl (nX _) (sec_one (accV_one _ _)) .here (sec_len zeroS_ok _) ?_
        have hkx : ∀ o, Row 26 (sec X (accV (some p4) 999)) o → cellAt o 165 = some (.slice (some ⟨p4.1, 0, none⟩) 999 p4.2) := Row.cell (sec_kept hX2 _)
        repeat (first | refine JL.q (by first | (apply OQ.pick_t; exact rfl; exact rfl) | (apply OQ.len (k := 1) (ad := some ⟨by4, jy, none⟩) (cap := cp4); exact Tryd.underlying27; exact rfl) | (apply OQ.eqi_t; exact rfl; exact rfl; exact rfl) | (apply OQ.idxS1 (i := 0) (len := 1) (cap := cp4) (b := by4) (j := jy); exact Tryd.underlying27; exact u8s; exact rfl; exact rfl; exact (by decide)) | (apply OQ.load (A := fun o => hasCells o jy ([0].map U8) ∧ [0].length ≤ cp4 ∧ (none : Option Nat) = none) (wr := true); exact u8c; exact rfl; exact (.there .here); exact (fun o h => has_cell h.1 rfl)) | (apply OQ.load; exact slkC; exact rfl; exact .here; exact hkx) | (apply OQ.len (k := 999) (ad := some ⟨p4.1, 0, none⟩) (cap := p4.2); exact Tryd.underlying24; exact rfl) | (apply OQ.move; exact rfl) | (apply OQ.assign; exact rfl) | (apply OQ.fld; exact rfl; exact rfl; exact rfl; exact (by decide); exact rfl)) rfl ?_ | refine JC.seq ?_ | refine JC.region ?_ | refine JL.nil ?_ | refine JE.next ?_ | refine JL.gon rfl rfl ?_)
        refine JC.ret ?_
        skip
        exact JE.ret1 rfl (RV.tmp rfl) fun w' hw => ⟨rfl, hw.chg⟩
      · obtain rfl : 1001 = L := hL
        have lm1' : k1.l.length ≤ 1000000 := by rw [hk1, lm]; decide
        have cD : ∀ w' : World, GOk w' → GQ w' → k1.ok w' → Calls Tryd.prog 21 [.agg (sec S nilKV).toArray, nilS.v, k1.v, .agg (fresh.map U8).toArray].toArray w' fun e w'' => ∃ r : DcR (S, [], 12), e = .returned (.tuple #[.agg (sec S (accV r.q 0)).toArray, r.x.1.v, N 12]) ∧ Holds w' [] [] w'' := fun w' g1 g2 hz => by
          have := decr_any S nilKk hS hS2.symm (by rw [hS2]; decide) (by rw [hS3]; decide) nilS k1 (by show (0 : Nat) ≤ _; decide) lm1' fresh h4 w' g1 g2 (nilKk_ok _) (nilS_ok _) hz
          rw [show nilS.l = [] from rfl, hk1, hd1] at this
          dsimp only at this
          rw [hS2] at this
          exact this.mono fun _ _ ⟨r, e, h⟩ => ⟨r, e, h.weak (Less.nil _)⟩
        have cS : ∀ (q3 : Acc) (w' : World), Calls Tryd.prog 11 [.agg (sec S (accV q3 0)).toArray, .agg (sec S nilKV).toArray].toArray w' fun e w'' => e = .returned (.bool true) ∧ Ext w' w'' := fun q3 w' => by
          have := rsame19_any S (accK q3 []) nilKk hS w' (accK_nil_ok _ _) (nilKk_ok _) (by rw [hS2]; cases q3 <;> rfl) hS2.symm (by rw [hS2]; decide)
          rw [accK_v] at this
          exact this
        repeat (first | refine JL.q (by first | (apply OQ.load_agg (cs := sec S nilKV); exact seA; exact seS; exact rfl; exact (.there .here); exact (nS _); exact Row.all) | (apply OQ.load_agg (cs := fresh.map U8); exact k32a; exact k32s; exact rfl; exact (.there (.there .here)); exact l4; exact Row.all) | (apply OQ.move; exact rfl)) rfl ?_ | refine JC.seq ?_ | refine JC.region ?_ | refine JC.exit ?_ | refine JE.next ?_ | refine JE.then_exit ?_ | refine JE.blk_hit ?_)
        refine JL.callg (ι := DcR (S, [], 12)) (vs := [.agg (sec S nilKV).toArray, nilS.v, k1.v, .agg (fresh.map U8).toArray]) (fun r => .tuple #[.agg (sec S (accV r.q 0)).toArray, r.x.1.v, N 12]) (fun _ => []) goes_decr rfl rfl (fun _ => nofun) (fun w' hw' => cD w' (hG.chg hw'.chg (by simp)) (hQ.chg hw'.chg (by simp)) (hes w' (hw'.weak (.drop _ _ _ (.drop _ _ _ (.drop _ _ _ (Less.refl _)))))).2) ?_
        clear cD
        rintro ⟨q3, ⟨⟨ad, cp, l⟩, hs'⟩, _⟩
        obtain rfl : l = [] := hs'.val
        dsimp only
        simp only [List.nil_append]
        repeat (refine JL.q (by first | (apply OQ.extract; exact rfl; exact rfl) | (apply OQ.move; exact rfl)) rfl ?_)
        refine JL.alloc seZ rfl fun b21 _ => ?_
        refine JL.store_all (cs := sec S (accV q3 0)) seS rfl rfl (nS _) (sec_one (accV_one _ _)) .here (sec_len zeroS_ok _) ?_
        repeat (first | refine JL.q (by first | (apply OQ.move; exact rfl) | (apply OQ.assign; exact rfl)) rfl ?_ | refine JC.seq ?_ | refine JC.region ?_ | refine JL.nil ?_ | refine JE.next ?_)
        refine JC.cond_true rfl rfl ?_
        repeat (first | refine JL.q (by first | (apply OQ.eqi_t; exact rfl; exact rfl; exact rfl) | (apply OQ.load_agg (cs := sec S (accV q3 0)); exact seA; exact seS; exact rfl; exact .here; exact (nS _); exact Row.all) | (apply OQ.load_agg (cs := sec S nilKV); exact seA; exact seS; exact rfl; exact (.there (.there .here)); exact (nS _); exact Row.all) | (apply OQ.callx (vs := [.agg (sec S (accV q3 0)).toArray, .agg (sec S nilKV).toArray]); exact goes_rsames; exact rfl; exact (fun w' _ => cS q3 w')) | (apply OQ.len (k := 0) (ad := ad) (cap := cp); exact Tryd.underlying27; exact rfl) | (apply OQ.pick_t; exact rfl; exact rfl) | (apply OQ.move; exact rfl) | (apply OQ.assign; exact rfl)) rfl ?_ | refine JC.seq ?_ | refine JC.region ?_ | refine JL.nil ?_ | refine JE.next ?_ | refine JL.gon rfl rfl ?_)
        refine JC.ret ?_
        repeat (refine JE.then_ret ?_)
        exact JE.ret1 rfl (RV.tmp rfl) fun w' hw => ⟨rfl, hw.chg⟩
end Go.Proofs.YtbhlcnimjoppeaaDoor

/-
  Of no statement by itself: what a plain row's proof opens its arguments with (keys, bytes, slices of bytes and of int).
  Conditions: each theorem's own.
-/
namespace Go.Proofs.YtbhlcnimjoppeaaDoor
set_option maxRecDepth 10000
open Go.ChangeShapes Go.WideShapes Go.ChangeAt Go.RowKit
open Sl
set_option linter.unusedVariables false
theorem ownQ : ownKnob Tryd.prog.godebug = none := by kernel_rfl
theorem laidOutQ : laidOutB Tryd.prog = true := by kernel_rfl
theorem u8_of {z : Int} (h : (Lit.int .u8 z).wf = true) : U8 (BitVec.ofInt 8 z) = .int .u8 z := by
  have h0 : 0 ≤ z ∧ z ≤ 255 := by
    have h1 : (decide (0 ≤ z) && decide (z ≤ 255)) = true := h
    simpa using h1
  have h2 : ((BitVec.ofInt 8 z).toNat : Int) = z := by
    rw [BitVec.toNat_ofInt]
    omega
  unfold U8
  rw [h2]
theorem arr8_of {H : Type} {enc : TypeId × Value → H} {W : World} {base fuel m : Nat} {t : TypeId} (hu : Tryd.prog.underlying t = some (.array m 5)) (hc : Tryd.prog.cellsOf t = m) {v : Value} {x : DataW H × List MemPlace} (hok : Value.okWide Tryd.prog W .any base t v) (h : DataW.trod enc Tryd.prog W 0 (fun _ => true) true fuel t v.cells.toList = some x) :
    ∃ r : List (BitVec 8), v = .agg (r.map U8).toArray ∧ r.length = m := by
  obtain ⟨xs, m', _, ex, _, hl, hel⟩ := DataW.trod_array hu h
  have c5 : Tryd.prog.cellsOf 5 = 1 := by kernel_rfl
  simp only [Value.okWide, hu] at hok
  obtain ⟨cs, rfl, hsz, _⟩ := hok
  rw [hc] at hsz
  have hk : ∀ i, ∃ k : BitVec 8, i < m → cs[i]? = some (U8 k) := by
    intro i
    by_cases hi : i < m
    · have h1 := hel i hi
      rw [c5, Nat.mul_one, List.getElem?_eq_getElem (by omega)] at h1
      obtain ⟨z, e1, e2, hw⟩ := DataW.trod_int (show Tryd.prog.underlying 5 = some (.int .u8) by kernel_rfl) h1
      refine ⟨BitVec.ofInt 8 z, fun _ => ?_⟩
      have h0 : ((cs.toList.drop i).take 1)[0]? = some (.int .u8 z) := by
        have : (Value.agg cs).cells = cs := rfl
        rw [this] at e1
        rw [e1]; rfl
      rw [u8_of hw]
      simpa using h0
    · exact ⟨0, fun h => absurd h hi⟩
  let f : Nat → BitVec 8 := fun i => Classical.choose (hk i)
  have hf : ∀ i, i < m → cs[i]? = some (U8 (f i)) := fun i => Classical.choose_spec (hk i)
  refine ⟨(List.range m).map f, ?_, by simp⟩
  congr 1
  apply Array.ext_getElem?
  intro i
  by_cases hi : i < m
  · rw [hf i hi]
    simp [hi]
  · rw [Array.getElem?_eq_none (by omega), Array.getElem?_eq_none (by simp; omega)]
theorem key_of {H : Type} {enc : TypeId × Value → H} {W : World} {base fuel : Nat} {v : Value} {x : DataW H × List MemPlace} (hok : Value.okWide Tryd.prog W .any base 23 v) (h : DataW.trod enc Tryd.prog W 0 (fun _ => true) true fuel 23 v.cells.toList = some x) :
    ∃ r : List (BitVec 8), v = .agg (r.map U8).toArray ∧ r.length = 32 := arr8_of (by kernel_rfl) (by kernel_rfl) hok h
end Go.Proofs.YtbhlcnimjoppeaaDoor

/-
  Of no statement by itself: the tables of rounds and quarters out of what a ratchet's card lists; the witness world.
  Conditions: none.
-/
namespace Go.Proofs.YtbhlcnimjoppeaaDoor
open Go.ChangeShapes Go.WideShapes Go.ChangeAt Go.RowKit
open Sl Sha Str
set_option linter.unusedVariables false
set_option maxRecDepth 100000
theorem laidVars_mem {P : Program} {w : World} {n : String} {d : DataW Unit} : ∀ {L : List (String × DataW Unit)} {ps : List MemPlace}, DataW.LaidVars P w L ps → (n, d) ∈ L →
    ∃ g t cs fuel p, P.globalNamed n = some g ∧ (P.globals[g]?).map (·.type) = some t ∧ w.var? P n = some cs ∧ DataW.trod (fun _ => ()) P w 0 (fun _ => true) false fuel t cs.toList = some (d, p)
  | [], _, _, h => by cases h
  | (n', d') :: L, ps, ⟨g, t, cs, fuel, p, q, h1, h2, h3, h4, h5, _⟩, h => by
    rcases List.mem_cons.1 h with h | h
    · cases h
      exact ⟨g, t, cs, fuel, p, h1, h2, h3, h4⟩
    · exact laidVars_mem h5 h
theorem eq_of_chunks {α : Type} {a b : List α} (n : Nat) (hl : a.length = n * 4) (hb : b.length = n * 4) (h : ∀ i < n, (a.drop (i * 4)).take 4 = (b.drop (i * 4)).take 4) : a = b := by
  apply List.ext_getElem?
  intro j
  by_cases hj : j < n * 4
  · have h1 := congrArg (·[j % 4]?) (h (j / 4) (by omega))
    simp only [List.getElem?_take, List.getElem?_drop, Nat.mod_lt j (by decide : 0 < 4), if_true] at h1
    rwa [show j / 4 * 4 + j % 4 = j by omega] at h1
  · rw [List.getElem?_eq_none (by omega), List.getElem?_eq_none (by omega)]
def qRow (i : Nat) : DataW Unit := Lib.tabData .i64 ((o4 i).map fun x : Nat => (x : Int))
def qDat : DataW Unit := .agg [qRow 0, qRow 1, qRow 2, qRow 3, qRow 4, qRow 5, qRow 6, qRow 7]
theorem gq_of {W : World} {ps : List MemPlace} {L : List (String × DataW Unit)} (h : DataW.LaidVars Tryd.prog W L ps) (hm : ("despatch/stream.quarters", qDat) ∈ L) : GQ W := by
  obtain ⟨g, t, cs, fuel, p, h1, h2, h3, h4⟩ := laidVars_mem h hm
  have hg : Tryd.prog.globalNamed "despatch/stream.quarters" = some 0 := by kernel_rfl
  obtain rfl := Option.some.inj (hg.symm.trans h1)
  obtain rfl := Option.some.inj ((show (Tryd.prog.globals[0]?).map (·.type) = some 163 by kernel_rfl).symm.trans h2)
  obtain ⟨xs, m, _, ex, hlen, hl, hel⟩ := DataW.trod_array (show Tryd.prog.underlying 163 = some (.array 8 74) by kernel_rfl) h4
  have c4 : Tryd.prog.cellsOf 74 = 4 := by kernel_rfl
  have c32 : Tryd.prog.cellsOf 163 = 32 := by kernel_rfl
  rw [c32] at hlen
  have hxs : xs.map (·.1) = [qRow 0, qRow 1, qRow 2, qRow 3, qRow 4, qRow 5, qRow 6, qRow 7] := by
    have := congrArg Prod.fst ex
    simpa [qDat] using this.symm
  have hcs : cs.toList = ordF.map N := by
    refine eq_of_chunks 8 hlen rfl fun i hi => ?_
    have h5 := hel i hi
    rw [c4] at h5
    have h6 : (xs.map (·.1))[i]? = some (qRow i) := by
      rw [hxs]
      have : i = 0 ∨ i = 1 ∨ i = 2 ∨ i = 3 ∨ i = 4 ∨ i = 5 ∨ i = 6 ∨ i = 7 := by omega
      rcases this with rfl | rfl | rfl | rfl | rfl | rfl | rfl | rfl <;> rfl
    rw [List.getElem?_map] at h6
    obtain ⟨y, hy, hy1⟩ := Option.map_eq_some_iff.1 h6
    rw [hy] at h5
    obtain ⟨y1, y2⟩ := y
    subst hy1
    have h7 := Lib.cells_of_tab (show Tryd.prog.underlying 74 = some (.array 4 3) by kernel_rfl) (show Tryd.prog.underlying 3 = some (.int .i64) by kernel_rfl) (by kernel_rfl) c4 h5
    rw [h7, o4_eq i hi, List.map_map]
    rfl
  unfold World.var? at h3
  rw [hg] at h3
  simp only [Option.bind_some] at h3
  split at h3
  · rename_i cs' e fr hb
    obtain rfl := Option.some.inj h3
    refine ⟨e, fr, ?_⟩
    rw [hb, ← hcs]
  · cases h3
theorem gok_of {W : World} {ps : List MemPlace} {L : List (String × DataW Unit)} (h : DataW.LaidVars Tryd.prog W L ps) (hm : ("despatch/hash.rounds", Lib.tabData .u32 (K.map fun x => (x.toNat : Int))) ∈ L) : GOk W := by
  obtain ⟨g, t, cs, fuel, p, h1, h2, h3, h4⟩ := laidVars_mem h hm
  have hg : Tryd.prog.globalNamed "despatch/hash.rounds" = some 1 := by kernel_rfl
  obtain rfl := Option.some.inj (hg.symm.trans h1)
  obtain rfl := Option.some.inj ((show (Tryd.prog.globals[1]?).map (·.type) = some 166 by kernel_rfl).symm.trans h2)
  have hcs := Lib.cells_of_tab (show Tryd.prog.underlying 166 = some (.array 64 86) by kernel_rfl) (show Tryd.prog.underlying 86 = some (.int .u32) by kernel_rfl) (by kernel_rfl) (by kernel_rfl) h4
  unfold World.var? at h3
  rw [hg] at h3
  simp only [Option.bind_some] at h3
  split at h3
  · rename_i cs' e fr hb
    obtain rfl := Option.some.inj h3
    refine ⟨e, fr, ?_⟩
    rw [hb]
    have : cs' = (cs'.toList).toArray := by simp
    rw [this, hcs, List.map_map]
    rfl
  · cases h3
theorem laid_plain : ((Rows.ratchetEncryptsRow.laid).all fun x => x.2.handleName?.isNone) = true := by kernel_rfl
theorem laid_is : Rows.ratchetEncryptsRow.laid = [("despatch/hash.rounds", Lib.tabData .u32 (K.map fun x => (x.toNat : Int))), ("despatch/stream.quarters", qDat)] := by kernel_rfl
theorem both_of_laid {W : World} (h : laidMetH Tryd.prog Rows.ratchetEncryptsRow.laid W) : GOk W ∧ GQ W := by
  rw [MakeChecks.laidMetH_plain _ _ _ laid_plain, laid_is] at h
  obtain ⟨ps, h, _⟩ := h
  exact ⟨gok_of h (by simp), gq_of h (by simp)⟩
theorem wit_met (os : Os) (args : Array Value) : laidMetH Tryd.prog Rows.ratchetEncryptsRow.laid ((World.laidAll Tryd.prog os Rows.ratchetEncryptsRow.laid).forCall (fun _ _ => 0) ⟨#[], args, []⟩).memory := by
  rw [MakeChecks.laidMetH_plain _ _ _ laid_plain]
  exact laidMet_laidAll _ (by kernel_rfl) (by kernel_rfl)
theorem wit_shape (os : Os) : (World.laidAll Tryd.prog os Rows.ratchetEncryptsRow.laid).Shaped Tryd.prog := World.shaped_of_ZipB (by kernel_rfl) (by kernel_rfl)
end Go.Proofs.YtbhlcnimjoppeaaDoor

/-
  THE TIED CARD OF RatchetFar: whatever comes in, the law returns true, and what came in reads as it did.
  Condition: the listed tables, as the card ties them (of these the proof reads the project's own alone).
-/
namespace Go.Proofs.YtbhlcnimjoppeaaDoor
set_option maxRecDepth 10000
open Go.ChangeShapes Go.WideShapes Go.ChangeAt Go.RowKit
open Go.ChangeMaps (open_string shut_string)
open Sl
set_option linter.unusedVariables false

set_option maxHeartbeats 4000000 in
set_option maxRecDepth 100000 in
theorem ratchetFar_lifted (os : Os) (started : os.Started) (H : Type) (enc : TypeId × Value → H) :
    ReturnsInHanded {} Tryd.checked os 5 .any (fun w args => (Rows.ratchetFarSpec.pre enc Tryd.prog Tryd.f5 Rows.ratchetFarRow.domain false w args ∧ laidMetH Tryd.prog Rows.ratchetFarRow.laid w) ∧ sizedMet enc Tryd.prog Tryd.f5 (OpenSpec.ofChange Rows.ratchetFarSpec) false w args) (Rows.ratchetFarSpec.post enc Tryd.prog Tryd.f5 false true false false) := by
  refine returnsInHanded_of_change_and (C := Tryd.checked) (X := fun w _ => laidMetH Tryd.prog Rows.ratchetFarRow.laid w) (fun _ _ _ hh h => h.of_heap hh) ownQ started (by kernel_rfl) Tryd.func5
    (ChangeSpec.witness_shaped (enc := enc) (C := Tryd.checked) (os := os) (X := fun w _ => laidMetH Tryd.prog Rows.ratchetFarRow.laid w) false (World.laidAll Tryd.prog os Rows.ratchetFarRow.laid) #[.agg (Array.replicate 32 (.int .u8 0)), .agg (Array.replicate 32 (.int .u8 0)), .agg (Array.replicate 32 (.int .u8 0)), .agg (Array.replicate 32 (.int .u8 0)), .bool false] 8 (World.laidAll_os _ _ _)
      (wit_shape os) (by kernel_rfl) (by kernel_rfl) (by kernel_rfl) (wit_met os _)) ?_
  intro W base args ds gs before hval0 hW hcnd hsz hL _
  have hval : ∀ (j : Nat) t v, Tryd.f5.params[j]? = some t → args[j]? = some v → Value.okWide Tryd.prog W .any base t v := hval0
  have hW' := hW
  obtain ⟨p, q, hA0, hV, rfl, hfz, hnd⟩ := hW
  have hA : DataW.TrodAll enc Tryd.prog W 0 (fun _ => true) true Tryd.f5.params.toList args.toList ds p := hA0
  rw [Tryd.params5] at hA hval
  obtain ⟨v0, vs0, d0, ds0, p0, q0, hargs, rfl, rfl, h0, r0⟩ := trodAll_cons hA
  obtain ⟨v1, vs1, d1, ds1, p1, q1, rfl, rfl, rfl, h1, r1⟩ := trodAll_cons r0
  obtain ⟨v2, vs2, d2, ds2, p2, q2, rfl, rfl, rfl, h2, r2⟩ := trodAll_cons r1
  obtain ⟨v3, vs3, d3, ds3, p3, q3, rfl, rfl, rfl, h3, r3⟩ := trodAll_cons r2
  obtain ⟨v4, vs4, d4, ds4, p4, q4, rfl, rfl, rfl, h4, r4⟩ := trodAll_cons r3
  obtain ⟨rfl, rfl, rfl⟩ := trodAll_nil r4
  obtain rfl : args = #[v0, v1, v2, v3, v4] := by cases args; simp_all
  obtain ⟨rfl, rfl⟩ := trodVars_none hV
  have k0 := h0
  have lt0 : ∀ x ∈ p0, x.block < W.heap.size := by obtain ⟨m, hm⟩ := k0; exact DataW.trod_lt m _ _ _ hm
  have k1 := h1
  have lt1 : ∀ x ∈ p1, x.block < W.heap.size := by obtain ⟨m, hm⟩ := k1; exact DataW.trod_lt m _ _ _ hm
  have k2 := h2
  have lt2 : ∀ x ∈ p2, x.block < W.heap.size := by obtain ⟨m, hm⟩ := k2; exact DataW.trod_lt m _ _ _ hm
  have k3 := h3
  have lt3 : ∀ x ∈ p3, x.block < W.heap.size := by obtain ⟨m, hm⟩ := k3; exact DataW.trod_lt m _ _ _ hm
  obtain ⟨s0, rfl, ok0⟩ : ∃ r : List (BitVec 8), v0 = .agg (r.map U8).toArray ∧ r.length = 32 := by
    obtain ⟨fuel, hf⟩ := h0
    exact key_of (hval 0 23 v0 rfl rfl) hf
  obtain ⟨s1, rfl, ok1⟩ : ∃ r : List (BitVec 8), v1 = .agg (r.map U8).toArray ∧ r.length = 32 := by
    obtain ⟨fuel, hf⟩ := h1
    exact key_of (hval 1 23 v1 rfl rfl) hf
  obtain ⟨s2, rfl, ok2⟩ : ∃ r : List (BitVec 8), v2 = .agg (r.map U8).toArray ∧ r.length = 32 := by
    obtain ⟨fuel, hf⟩ := h2
    exact key_of (hval 2 23 v2 rfl rfl) hf
  obtain ⟨s3, rfl, ok3⟩ : ∃ r : List (BitVec 8), v3 = .agg (r.map U8).toArray ∧ r.length = 32 := by
    obtain ⟨fuel, hf⟩ := h3
    exact key_of (hval 3 23 v3 rfl rfl) hf
  obtain ⟨s4, rfl, rfl, rfl⟩ := open_bool (show Tryd.prog.underlying 4 = some .bool by kernel_rfl) (hval 4 4 v4 rfl rfl) h4
  clear hA0 hval0
  refine (law_ratchetFar s0 s1 s2 s3 s4 W ok0 ok1 ok2 ok3 (both_of_laid hL).1 (both_of_laid hL).2).mono fun e W' ⟨he, hx⟩ => ?_
  have bel := Chg.below hx
  subst he
  exact ⟨_, rfl, _, _, _, [], _, [], hW', trodAll_mk1 (shut_bool (show Tryd.prog.underlying 4 = some .bool by kernel_rfl) _), (trodAll_cons_mk (Below.trod laidOutQ (by kernel_rfl) (of_decide_eq_true (by kernel_rfl)) k0 bel lt0) (trodAll_cons_mk (Below.trod laidOutQ (by kernel_rfl) (of_decide_eq_true (by kernel_rfl)) k1 bel lt1) (trodAll_cons_mk (Below.trod laidOutQ (by kernel_rfl) (of_decide_eq_true (by kernel_rfl)) k2 bel lt2) (trodAll_cons_mk (Below.trod laidOutQ (by kernel_rfl) (of_decide_eq_true (by kernel_rfl)) k3 bel lt3) (trodAll_cons_mk (shut_bool (show Tryd.prog.underlying 4 = some .bool by kernel_rfl) s4) trodAll_mk0))))), rfl, bel.frame _, fun h => by cases h⟩

/-- THE STATEMENT. -/
theorem ratchetFar_row : Rows.RatchetFarSaid :=
  OpenClaim.holds_of_wide 5 Tryd.f5 rfl rfl rfl rfl rfl rfl rfl ⟨rfl, rfl, rfl, rfl, rfl⟩ rfl rfl rfl rfl rfl (by kernel_rfl) Tryd.func5 (by kernel_rfl)
    (of_decide_eq_true (by kernel_rfl)) (by unfold Func.isWrapper; first | (rw [if_pos (by decide +kernel)]; kernel_rfl) | (rw [if_neg (by decide +kernel)]; exact ⟨rfl, rfl⟩))
    (fun os started H enc _ => ratchetFar_lifted os started H enc)

/-- THE TIED CARD. -/
theorem ratchetFar_card : Rows.RatchetFarCardSaid :=
  Claim7.holds_tied_plain_at .later [] [.data, .data] true (true, "79b932a14f4c48ae8c991ea5a1c0a01d57a93b7fa4768c73af16103f33de6f1f") false
    ratchetFar_row (fun _ h => by cases h) (by kernel_rfl) (fun _ h => by cases h) ratchetFar_row_tie rfl ⟨rfl, rfl⟩ (by kernel_rfl) rfl
    (fun f fn hf hfn => by
      obtain rfl : f = 5 := Option.some.inj ((show Tryd.prog.funcNamed "despatch/despatchlaw19.RatchetFar" = some 5 by kernel_rfl).symm.trans hf) |>.symm
      obtain rfl : fn = Tryd.f5 := (Option.some.inj (Tryd.func5.symm.trans hfn)).symm
      exact ⟨by kernel_rfl, fun j t ht => by
        rw [Tryd.params5] at ht
        have hm : t ∈ [23, 23, 23, 23, 4] := by simpa using Array.mem_of_getElem? ht
        have hall : ([23, 23, 23, 23, 4].all fun u => !Tryd.prog.wantsStandIn u) = true := by kernel_rfl
        exact (show Tryd.prog.wantsStandIn t = false by simpa using List.all_eq_true.1 hall t hm)⟩)
    (by kernel_rfl)
#print axioms ratchetFar_card
end Go.Proofs.YtbhlcnimjoppeaaDoor
