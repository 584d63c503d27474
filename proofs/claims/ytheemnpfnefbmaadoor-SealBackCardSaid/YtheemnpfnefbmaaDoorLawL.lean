/-
  Of no statement by itself: what despatchlaw04.speaks and .SealShort answer.
  Conditions: each theorem's own.
-/
import Derived.Test.YtheemnpfnefbmaaDoorSealC
namespace Go.Proofs.YtheemnpfnefbmaaDoor
open Sl Sha Str

theorem set_ne {g : List B} {j : Nat} (h : j < g.length) {d : B} (hd : d ≠ 0) : ¬ g = g.set j (g.getD j 0 ^^^ d) := by
  intro e
  have h1 := congrArg (·.getD j 0) e
  simp only [List.getD, List.getElem?_set, h, if_true, Option.getD_some, List.getElem?_eq_getElem] at h1
  have h2 := congrArg (· ^^^ g[j]) h1
  simp only [BitVec.xor_self] at h2
  rw [BitVec.xor_comm g[j] d, BitVec.xor_assoc, BitVec.xor_self, BitVec.xor_zero] at h2
  exact hd h2.symm
/-- a bit of the tag turned -/
theorem openK_turned (a1 a2 nonce side p : List B) (i : Nat) (h1 : p.length ≤ i) (h2 : i < p.length + 32) (d : B) (hd : d ≠ 0) :
    openK a1 a2 nonce side ((sealK a1 a2 nonce side p).set i ((sealK a1 a2 nonce side p).getD i 0 ^^^ d)) = ([], 10) := by
  have hl := sealK_length a1 a2 nonce side p
  have hT := turn_length a1 1#32 nonce p
  have hg := hmacL a2 (msg nonce side (turn a1 1#32 nonce p))
  have hs : (sealK a1 a2 nonce side p).set i ((sealK a1 a2 nonce side p).getD i 0 ^^^ d) = turn a1 1#32 nonce p ++ (hmac a2 (msg nonce side (turn a1 1#32 nonce p))).set (i - p.length) ((hmac a2 (msg nonce side (turn a1 1#32 nonce p))).getD (i - p.length) 0 ^^^ d) := by
    rw [sealK, List.set_append_right _ _ (by omega), hT, List.getD_eq_getElem?_getD, List.getElem?_append_right (by omega), hT, ← List.getD_eq_getElem?_getD]
  rw [hs]
  generalize hh : hmac a2 (msg nonce side (turn a1 1#32 nonce p)) = g at hg
  generalize turn a1 1#32 nonce p = T at hT hh
  have hz : (T ++ g.set (i - p.length) (g.getD (i - p.length) 0 ^^^ d)).length - 32 = T.length := by simp; omega
  rw [openK, if_neg (by simp; omega), hz, List.take_append_of_le_length (Nat.le_refl _), List.take_length, List.drop_append, Nat.sub_self, List.drop_zero, List.drop_length, List.nil_append, hh, if_neg (set_ne (by omega) hd)]
theorem openK_short (a1 a2 nonce side z : List B) (h : z.length < 32) : openK a1 a2 nonce side z = ([], 3) := by rw [openK, if_pos h]
theorem openK_or (a1 a2 nonce side z : List B) (h : ¬ z.length < 32) : (∃ T, openK a1 a2 nonce side z = (T, 0) ∧ T.length = z.length - 32) ∨ openK a1 a2 nonce side z = ([], 10) := by
  rw [openK, if_neg h]
  split
  · exact .inl ⟨_, rfl, by rw [turn_length, List.length_take]; omega⟩
  · exact .inr rfl
theorem goes_speaks4 : Goes Tryd.prog 19 := ⟨_, Tryd.func19, rfl, by kernel_rfl⟩
theorem openO_any {key nonce : List B} {s z : Sl8} {vs vz : Value} {o : List B × Nat} (hvs : s.v = vs) (hvz : z.v = vz) (ho : openK (k1 key) (k2 key) nonce s.l z.l = o) (hk : key.length = 32) (hn : nonce.length = 12) {w : World} (hG : GOk w) (hQ : GQ w) (hs : s.ok w) (hz : z.ok w) (hsl : s.l.length < 100000000) (hzl : z.l.length < 100000000) :
    Calls Tryd.prog 21 [.agg (key.map U8).toArray, .agg (nonce.map U8).toArray, vs, vz].toArray w fun e w' => ∃ i : { s' : Sl8 // Gave s' o.1 s'.cap }, e = .returned (.tuple #[i.1.v, N o.2]) ∧ Holds w [] i.1.ents w' := by
  subst hvs hvz ho
  exact (open_any key nonce s z hk hn w hG hQ hs hz hsl hzl).mono fun e w' ⟨s', h1, h2, h3⟩ => ⟨⟨s', h2⟩, h1, h3⟩
theorem ropenO_any {key nonce : List B} {s z : Sl8} {vs vz : Value} {o : List B × Nat} (hvs : s.v = vs) (hvz : z.v = vz) (ho : openK (k1 key) (k2 key) nonce s.l z.l = o) (hk : key.length = 32) (hn : nonce.length = 12) {w : World} (hs : s.ok w) (hz : z.ok w) (hsl : s.l.length < 100000000) (hzl : z.l.length < 100000000) :
    Calls Tryd.prog 22 [.agg (key.map U8).toArray, .agg (nonce.map U8).toArray, vs, vz].toArray w fun e w' => ∃ i : { s' : Sl8 // Gave s' o.1 s'.cap }, e = .returned (.tuple #[i.1.v, N o.2]) ∧ Holds w [] i.1.ents w' := by
  subst hvs hvz ho
  exact (ropen_any key nonce s z hk hn w hs hz hsl hzl).mono fun e w' ⟨s', h1, h2, h3⟩ => ⟨⟨s', h2⟩, h1, h3⟩
theorem OQ.eqA_f {P : Program} {n : Nat} {E : Env} {C : World → Prop} {dst : Option Tmp} {t t' ty e : TypeId} {x y : Operand} {pos : String} {aft : Array Edge} {g : Option (Nat × Bool)} {m : Nat} {r q : List (BitVec 8)} (hu : P.underlying t = some (.array m e)) (he : P.underlying e = some (.int .u8)) (hz : szT P e = some 1) (hgd : P.eqGuardType P.depth t = false) (hx : ev E x = some (.agg (r.map U8).toArray)) (hy : ev E y = some (.agg (q.map U8).toArray)) (hr : r.length = m) (hq : q.length = m) (h : ¬ r = q) :
    OQ P n E C ⟨dst, .binOp .eql t x y t', ty, pos, aft, g⟩ (.bool false) := (decide_eq_false h : decide (r = q) = false) ▸ OQ.eqA hu he hz hgd hx hy hr hq
theorem OQ.eqb_t {P : Program} {n : Nat} {E : Env} {C : World → Prop} {dst : Option Tmp} {t t' ty : TypeId} {pos : String} {aft : Array Edge} {g : Option (Nat × Bool)} {x y : Operand} {a c : Bool} (hu : P.underlying t = some .bool) (hx : ev E x = some (.bool a)) (hy : ev E y = some (.bool c)) (h : a = c) : OQ P n E C ⟨dst, .binOp .eql t x y t', ty, pos, aft, g⟩ (.bool true) := by
  have := OQ.eqb (P := P) (n := n) (C := C) (dst := dst) (ty := ty) (t := t) (t' := t') (pos := pos) (aft := aft) (g := g) hu hx hy
  rwa [show (a == c) = true by simpa using h] at this
theorem sealK_get (a1 a2 nonce side p : List B) (i : Nat) (h : i < p.length) : (sealK a1 a2 nonce side p).getD i 0 = p.getD i 0 ^^^ sb a1 1#32 nonce i := by
  rw [sealK, List.getD_eq_getElem?_getD, List.getElem?_append_left (by rw [turn_length]; exact h), ← List.getD_eq_getElem?_getD, turn_get _ _ _ _ _ h]
theorem sealK_inj (a1 a2 nonce side : List B) {p q : List B} (hl : p.length = q.length) : decide (sealK a1 a2 nonce side p = sealK a1 a2 nonce side q) = decide (p = q) := by
  refine decide_eq_decide.2 ⟨fun h => ?_, fun h => by rw [h]⟩
  have h1 := congrArg (List.take p.length) h
  rw [sealK_take] at h1
  rw [hl, sealK_take] at h1
  rw [← turn_twice a1 1#32 nonce p, h1, turn_twice]
theorem OQ.ne8_f {P : Program} {n : Nat} {E : Env} {C : World → Prop} {dst : Option Tmp} {t t' ty : TypeId} {pos : String} {aft : Array Edge} {g : Option (Nat × Bool)} {x y : Operand} {a b : B} (hx : ev E x = some (U8 a)) (hy : ev E y = some (U8 b)) (h : a = b) : OQ P n E C ⟨dst, .binOp .neq t x y t', ty, pos, aft, g⟩ (.bool false) := by
  have := OQ.ne8 (P := P) (n := n) (C := C) (dst := dst) (ty := ty) (t := t) (t' := t') (pos := pos) (aft := aft) (g := g) hx hy
  rwa [decide_eq_true h] at this
theorem sealO_any {key nonce : List B} {s p : Sl8} {vs vp : Value} {m : Nat} {o : List B} (hvs : s.v = vs) (hvp : p.v = vp) (ho : sealK (k1 key) (k2 key) nonce s.l p.l = o) (hm : p.l.length = m) (hk : key.length = 32) (hn : nonce.length = 12) {w : World} (hG : GOk w) (hQ : GQ w) (hs : s.ok w) (hp : p.ok w) (hsl : s.l.length < 100000000) (hpl : p.l.length < 100000000) :
    Calls Tryd.prog 20 [.agg (key.map U8).toArray, .agg (nonce.map U8).toArray, vs, vp].toArray w fun e w' => ∃ x : Nat × Nat, e = .returned (.slice (some ⟨x.1, 0, none⟩) (m + 32) x.2) ∧ Holds w [] [⟨x.1, Own 5 1 (m + 32) x.2 (o.map U8), true⟩] w' := by
  subst hvs hvp ho hm
  exact seal_any key nonce s p hk hn w hG hQ hs hp hsl hpl
theorem ents_mem {w0 w : World} {S : List Nat} {M : List Ent} {s : Sl8} (hw : Holds w0 S M w) (hs : ∀ e ∈ s.ents, e ∈ M) (h0 : s.ad = none → s.l = []) : s.ok w := by
  have h : Holds w0 S (s.ents ++ []) w := by
    rw [List.append_nil]
    refine hw.sub ?_ hs
    unfold Sl8.ents
    split <;> simp
  exact Sl8.ents_ok h h0
theorem rsealO_any {key nonce : List B} {s p : Sl8} {o : List B} (ho : sealK (k1 key) (k2 key) nonce s.l p.l = o) (hk : key.length = 32) (hn : nonce.length = 12) {w : World} (hs : s.ok w) (hp : p.ok w) (hsl : s.l.length < 100000000) (hpl : p.l.length < 100000000) :
    Calls Tryd.prog 23 [.agg (key.map U8).toArray, .agg (nonce.map U8).toArray, s.v, p.v].toArray w fun e w' => ∃ x : Nat × Nat, e = .returned (.slice (some ⟨x.1, 0, none⟩) (p.l.length + 32) x.2) ∧ Holds w [] [⟨x.1, Own 5 1 (p.l.length + 32) x.2 (o.map U8), true⟩] w' := by
  subst ho
  exact rseal_any key nonce s p hk hn w hs hp hsl hpl
def zk : List B := List.replicate 32 0
def zn : List B := List.replicate 12 0
theorem len1 (b : Nat) (c : Nat) (x : B) : Sl8.v ⟨some ⟨b, 0, none⟩, c, [x]⟩ = .slice (some ⟨b, 0, none⟩) 1 c := rfl

set_option maxHeartbeats 4000000 in
theorem speaks4_any (w : World) (hG : GOk w) (hQ : GQ w) : Calls Tryd.prog 19 ([] : List Value).toArray w fun e w' => e = .returned (.bool true) ∧ Ext w w' := by
  have hL := sealK_length (k1 zk) (k2 zk) zn [] []
  have hO := openK_sealK (k1 zk) (k2 zk) zn [] []
  have hF := openK_turned (k1 zk) (k2 zk) zn [] [] 3 (by decide) (by decide) 4#8 (by decide)
  have hS := fun w' (h1 : GOk w') (h2 : GQ w') => seal_any zk zn nilS nilS (by simp [zk]) (by simp [zn]) w' h1 h2 (nilS_ok _) (nilS_ok _) (by simp [nilS]) (by simp [nilS])
  rw [show nilS.l = [] from rfl] at hS
  generalize sealK (k1 zk) (k2 zk) zn [] [] = L at hL hO hF hS
  have hL : L.length = 32 := hL
  refine enter (n := 50) Tryd.func19 rfl rfl rfl (Holds.start w []) ?_
  repeat (first | refine JL.q (by first | (apply OQ.move; exact rfl) | (apply OQ.assign; exact rfl) | (apply OQ.len; exact rfl; exact rfl) | (apply OQ.xor8; exact rfl; exact rfl) | (apply OQ.subN; exact rfl; exact rfl; exact (by (try simp only []); omega); exact (by (try simp only []); omega)) | (apply OQ.lssN; exact rfl; exact rfl)) rfl ?_ | refine JC.seq ?_ | refine JC.region ?_ | refine JC.block ?_ | refine JC.skip ?_ | refine JC.exit ?_ | refine JL.nil ?_ | refine JE.next ?_ | refine JE.blk_normal ?_ | refine JE.then_exit ?_ | refine JE.blk_hit ?_ | refine JE.blk_miss rfl ?_ | refine JE.then_ret ?_ | refine JE.blk_ret ?_ | refine JC.label ?_ | refine JL.gon rfl rfl ?_ | refine JL.gskip rfl rfl rfl rfl ?_)
  refine JL.q (OQ.pure (v := .agg (zk.map U8).toArray) rfl rfl (by kernel_rfl)) rfl ?_
  refine JL.q (OQ.pure (v := .agg (zn.map U8).toArray) rfl rfl (by kernel_rfl)) rfl ?_
  refine JL.callg (ι := Nat × Nat) (vs := [.agg (zk.map U8).toArray, .agg (zn.map U8).toArray, nilS.v, nilS.v]) (fun x => .slice (some ⟨x.1, 0, none⟩) 32 x.2) (fun x => [⟨x.1, Own 5 1 32 x.2 (L.map U8), true⟩]) goes_seal rfl rfl (fun i => by simp) (fun w' hw' => hS w' (hG.chg hw'.chg (by simp)) (hQ.chg hw'.chg (by simp))) ?_
  rintro ⟨b1, c1⟩
  try dsimp only
  repeat (first | refine JL.q (by first | (apply OQ.move; exact rfl) | (apply OQ.assign; exact rfl) | (apply OQ.len; exact rfl; exact rfl) | (apply OQ.xor8; exact rfl; exact rfl) | (apply OQ.subN; exact rfl; exact rfl; exact (by (try simp only []); omega); exact (by (try simp only []); omega)) | (apply OQ.lssN; exact rfl; exact rfl)) rfl ?_ | refine JC.seq ?_ | refine JC.region ?_ | refine JC.block ?_ | refine JC.skip ?_ | refine JC.exit ?_ | refine JL.nil ?_ | refine JE.next ?_ | refine JE.blk_normal ?_ | refine JE.then_exit ?_ | refine JE.blk_hit ?_ | refine JE.blk_miss rfl ?_ | refine JE.then_ret ?_ | refine JE.blk_ret ?_ | refine JC.label ?_ | refine JL.gon rfl rfl ?_ | refine JL.gskip rfl rfl rfl rfl ?_)
  refine JL.q (OQ.pure (v := .agg (zk.map U8).toArray) rfl rfl (by kernel_rfl)) rfl ?_
  refine JL.q (OQ.pure (v := .agg (zn.map U8).toArray) rfl rfl (by kernel_rfl)) rfl ?_
  repeat (first | refine JL.q (by first | (apply OQ.move; exact rfl) | (apply OQ.assign; exact rfl) | (apply OQ.len; exact rfl; exact rfl) | (apply OQ.xor8; exact rfl; exact rfl) | (apply OQ.subN; exact rfl; exact rfl; exact (by (try simp only []); omega); exact (by (try simp only []); omega)) | (apply OQ.lssN; exact rfl; exact rfl)) rfl ?_ | refine JC.seq ?_ | refine JC.region ?_ | refine JC.block ?_ | refine JC.skip ?_ | refine JC.exit ?_ | refine JL.nil ?_ | refine JE.next ?_ | refine JE.blk_normal ?_ | refine JE.then_exit ?_ | refine JE.blk_hit ?_ | refine JE.blk_miss rfl ?_ | refine JE.then_ret ?_ | refine JE.blk_ret ?_ | refine JC.label ?_ | refine JL.gon rfl rfl ?_ | refine JL.gskip rfl rfl rfl rfl ?_)
  refine JL.callg (ι := { s' : Sl8 // Gave s' [] s'.cap }) (vs := [.agg (zk.map U8).toArray, .agg (zn.map U8).toArray, nilS.v, .slice (some ⟨b1, 0, none⟩) 32 c1]) (fun i => .tuple #[i.1.v, N 0]) (fun i => i.1.ents) goes_open rfl rfl (fun i => Sl8.ents_wr _) (fun w' hw' => openO_any (s := nilS) (z := ⟨some ⟨b1, 0, none⟩, c1, L⟩) rfl (by simp [Sl8.v, hL]) hO (by simp [zk]) (by simp [zn]) (hG.chg hw'.chg (by simp)) (hQ.chg hw'.chg (by simp)) (nilS_ok _) (ownb_ok hw' .here) (by simp [nilS]) (show L.length < 100000000 by omega)) ?_
  rintro ⟨⟨ad, cp, l⟩, hs'⟩
  obtain rfl : l = [] := hs'.val
  try dsimp only
  repeat (first | refine JL.q (by first | (apply OQ.extract; exact rfl; exact rfl) | (apply OQ.nei_f; exact rfl; exact rfl; exact rfl) | (apply OQ.pick_f; exact rfl; exact rfl) | (apply OQ.move; exact rfl) | (apply OQ.assign; exact rfl) | (apply OQ.len; exact rfl; exact rfl) | (apply OQ.xor8; exact rfl; exact rfl) | (apply OQ.subN; exact rfl; exact rfl; exact (by (try simp only []); omega); exact (by (try simp only []); omega)) | (apply OQ.lssN; exact rfl; exact rfl)) rfl ?_ | refine JC.seq ?_ | refine JC.region ?_ | refine JC.block ?_ | refine JC.skip ?_ | refine JC.exit ?_ | refine JL.nil ?_ | refine JE.next ?_ | refine JE.blk_normal ?_ | refine JE.then_exit ?_ | refine JE.blk_hit ?_ | refine JE.blk_miss rfl ?_ | refine JE.then_ret ?_ | refine JE.blk_ret ?_ | refine JC.label ?_ | refine JL.gon rfl rfl ?_ | refine JL.gskip rfl rfl rfl rfl ?_)
  refine JC.cond_false rfl rfl ?_
  refine JC.weak (E' := [(1, .slice (some ⟨b1, 0, none⟩) 32 c1)]) (M' := [⟨b1, Own 5 1 32 c1 (L.map U8), true⟩]) ?_ (by repeat (first | exact SubE.nil | refine SubE.cons _ _ _ rfl ?_)) ?_
  · have hg : (L.map U8)[3]? = some (U8 (L.getD 3 0)) := map_at U8 0 (by omega)
    have hset : (L.map U8).set 3 (U8 (L.getD 3 0 ^^^ 4#8)) = (L.set 3 (L.getD 3 0 ^^^ 4#8)).map U8 := by rw [List.map_set]
    have hL' : (L.set 3 (L.getD 3 0 ^^^ 4#8)).length = 32 := by rw [List.length_set, hL]
    generalize L.set 3 (L.getD 3 0 ^^^ 4#8) = L' at hset hL' hF
    repeat (first | refine JL.q (by first | (apply OQ.idxS0; exact Tryd.underlying33; exact s5; exact rfl; exact rfl; exact (by decide)) | (apply OQ.load; exact c5; exact rfl; exact .here; exact (Own.cell hg)) | (apply OQ.xor8 (b := 4#8); exact rfl; exact rfl) | (apply OQ.move; exact rfl) | (apply OQ.assign; exact rfl) | (apply OQ.len; exact rfl; exact rfl) | (apply OQ.xor8; exact rfl; exact rfl) | (apply OQ.subN; exact rfl; exact rfl; exact (by (try simp only []); omega); exact (by (try simp only []); omega)) | (apply OQ.lssN; exact rfl; exact rfl)) rfl ?_ | refine JC.seq ?_ | refine JC.region ?_ | refine JC.block ?_ | refine JC.skip ?_ | refine JC.exit ?_ | refine JL.nil ?_ | refine JE.next ?_ | refine JE.blk_normal ?_ | refine JE.then_exit ?_ | refine JE.blk_hit ?_ | refine JE.blk_miss rfl ?_ | refine JE.then_ret ?_ | refine JE.blk_ret ?_ | refine JC.label ?_ | refine JL.gon rfl rfl ?_ | refine JL.gskip rfl rfl rfl rfl ?_)
    refine JL.store_own s5 rfl rfl rfl rfl .here (by rw [List.length_map, hL]; decide) hset ?_
    repeat (first | refine JL.q (by first | (apply OQ.move; exact rfl) | (apply OQ.assign; exact rfl) | (apply OQ.len; exact rfl; exact rfl) | (apply OQ.xor8; exact rfl; exact rfl) | (apply OQ.subN; exact rfl; exact rfl; exact (by (try simp only []); omega); exact (by (try simp only []); omega)) | (apply OQ.lssN; exact rfl; exact rfl)) rfl ?_ | refine JC.seq ?_ | refine JC.region ?_ | refine JC.block ?_ | refine JC.skip ?_ | refine JC.exit ?_ | refine JL.nil ?_ | refine JE.next ?_ | refine JE.blk_normal ?_ | refine JE.then_exit ?_ | refine JE.blk_hit ?_ | refine JE.blk_miss rfl ?_ | refine JE.then_ret ?_ | refine JE.blk_ret ?_ | refine JC.label ?_ | refine JL.gon rfl rfl ?_ | refine JL.gskip rfl rfl rfl rfl ?_)
    refine JL.q (OQ.pure (v := .agg (zk.map U8).toArray) rfl rfl (by kernel_rfl)) rfl ?_
    refine JL.q (OQ.pure (v := .agg (zn.map U8).toArray) rfl rfl (by kernel_rfl)) rfl ?_
    repeat (first | refine JL.q (by first | (apply OQ.move; exact rfl) | (apply OQ.assign; exact rfl) | (apply OQ.len; exact rfl; exact rfl) | (apply OQ.xor8; exact rfl; exact rfl) | (apply OQ.subN; exact rfl; exact rfl; exact (by (try simp only []); omega); exact (by (try simp only []); omega)) | (apply OQ.lssN; exact rfl; exact rfl)) rfl ?_ | refine JC.seq ?_ | refine JC.region ?_ | refine JC.block ?_ | refine JC.skip ?_ | refine JC.exit ?_ | refine JL.nil ?_ | refine JE.next ?_ | refine JE.blk_normal ?_ | refine JE.then_exit ?_ | refine JE.blk_hit ?_ | refine JE.blk_miss rfl ?_ | refine JE.then_ret ?_ | refine JE.blk_ret ?_ | refine JC.label ?_ | refine JL.gon rfl rfl ?_ | refine JL.gskip rfl rfl rfl rfl ?_)
    refine JL.callg (ι := { s' : Sl8 // Gave s' [] s'.cap }) (vs := [.agg (zk.map U8).toArray, .agg (zn.map U8).toArray, nilS.v, .slice (some ⟨b1, 0, none⟩) 32 c1]) (fun i => .tuple #[i.1.v, N 10]) (fun i => i.1.ents) goes_open rfl rfl (fun i => Sl8.ents_wr _) (fun w' hw' => openO_any (s := nilS) (z := ⟨some ⟨b1, 0, none⟩, c1, L'⟩) rfl (by simp [Sl8.v, hL']) hF (by simp [zk]) (by simp [zn]) (hG.chg hw'.chg (by simp)) (hQ.chg hw'.chg (by simp)) (nilS_ok _) (ownb_ok hw' .here) (by simp [nilS]) (show L'.length < 100000000 by omega)) ?_
    rintro ⟨⟨ad, cp, l⟩, hs'⟩
    obtain rfl : l = [] := hs'.val
    try dsimp only
    repeat (first | refine JL.q (by first | (apply OQ.extract; exact rfl; exact rfl) | (apply OQ.eqi_t; exact rfl; exact rfl; exact rfl) | (apply OQ.move; exact rfl) | (apply OQ.assign; exact rfl) | (apply OQ.len; exact rfl; exact rfl) | (apply OQ.xor8; exact rfl; exact rfl) | (apply OQ.subN; exact rfl; exact rfl; exact (by (try simp only []); omega); exact (by (try simp only []); omega)) | (apply OQ.lssN; exact rfl; exact rfl)) rfl ?_ | refine JC.seq ?_ | refine JC.region ?_ | refine JC.block ?_ | refine JC.skip ?_ | refine JC.exit ?_ | refine JL.nil ?_ | refine JE.next ?_ | refine JE.blk_normal ?_ | refine JE.then_exit ?_ | refine JE.blk_hit ?_ | refine JE.blk_miss rfl ?_ | refine JE.then_ret ?_ | refine JE.blk_ret ?_ | refine JC.label ?_ | refine JL.gon rfl rfl ?_ | refine JL.gskip rfl rfl rfl rfl ?_)
    refine JL.lit1 Tryd.underlying33 e5 rfl rfl rfl rfl fun b41 _ => ?_
    refine JL.gon rfl rfl ?_
    refine JL.lit1 Tryd.underlying33 e5 rfl rfl rfl rfl fun b42 _ => ?_
    repeat (first | refine JL.q (by first | (apply OQ.callx; exact goes_ssame; exact rfl; exact (fun w' hw' => ssame_b (a := ⟨some ⟨b41, 0, none⟩, 1, [1]⟩) (b := ⟨some ⟨b42, 0, none⟩, 1, [1]⟩) (c := true) rfl rfl (row_ok hw' (.there .here) rfl (Nat.le_refl _)) (row_ok hw' .here rfl (Nat.le_refl _)) (show 1 < 4611686018427387904 by decide) rfl)) | (apply OQ.pick_t; exact rfl; exact rfl) | (apply OQ.move; exact rfl) | (apply OQ.assign; exact rfl) | (apply OQ.len; exact rfl; exact rfl) | (apply OQ.xor8; exact rfl; exact rfl) | (apply OQ.subN; exact rfl; exact rfl; exact (by (try simp only []); omega); exact (by (try simp only []); omega)) | (apply OQ.lssN; exact rfl; exact rfl)) rfl ?_ | refine JC.seq ?_ | refine JC.region ?_ | refine JC.block ?_ | refine JC.skip ?_ | refine JC.exit ?_ | refine JL.nil ?_ | refine JE.next ?_ | refine JE.blk_normal ?_ | refine JE.then_exit ?_ | refine JE.blk_hit ?_ | refine JE.blk_miss rfl ?_ | refine JE.then_ret ?_ | refine JE.blk_ret ?_ | refine JC.label ?_ | refine JL.gon rfl rfl ?_ | refine JL.gskip rfl rfl rfl rfl ?_)
    refine JL.lit1 Tryd.underlying33 e5 rfl rfl rfl rfl fun b46 _ => ?_
    repeat (first | refine JL.q (by first | (apply OQ.callx; exact goes_ssame; exact rfl; exact (fun w' hw' => ssame_b (a := ⟨some ⟨b46, 0, none⟩, 1, [1]⟩) (b := nilS) (c := false) rfl rfl (row_ok hw' .here rfl (Nat.le_refl _)) (nilS_ok _) (show 1 < 4611686018427387904 by decide) rfl)) | (apply OQ.not; exact rfl) | (apply OQ.pick_t; exact rfl; exact rfl) | (apply OQ.move; exact rfl) | (apply OQ.assign; exact rfl) | (apply OQ.len; exact rfl; exact rfl) | (apply OQ.xor8; exact rfl; exact rfl) | (apply OQ.subN; exact rfl; exact rfl; exact (by (try simp only []); omega); exact (by (try simp only []); omega)) | (apply OQ.lssN; exact rfl; exact rfl)) rfl ?_ | refine JC.seq ?_ | refine JC.region ?_ | refine JC.block ?_ | refine JC.skip ?_ | refine JC.exit ?_ | refine JL.nil ?_ | refine JE.next ?_ | refine JE.blk_normal ?_ | refine JE.then_exit ?_ | refine JE.blk_hit ?_ | refine JE.blk_miss rfl ?_ | refine JE.then_ret ?_ | refine JE.blk_ret ?_ | refine JC.label ?_ | refine JL.gon rfl rfl ?_ | refine JL.gskip rfl rfl rfl rfl ?_)
    refine JC.ret ?_
    repeat (first | refine JL.q (by first | (apply OQ.move; exact rfl) | (apply OQ.assign; exact rfl) | (apply OQ.len; exact rfl; exact rfl) | (apply OQ.xor8; exact rfl; exact rfl) | (apply OQ.subN; exact rfl; exact rfl; exact (by (try simp only []); omega); exact (by (try simp only []); omega)) | (apply OQ.lssN; exact rfl; exact rfl)) rfl ?_ | refine JC.seq ?_ | refine JC.region ?_ | refine JC.block ?_ | refine JC.skip ?_ | refine JC.exit ?_ | refine JL.nil ?_ | refine JE.next ?_ | refine JE.blk_normal ?_ | refine JE.then_exit ?_ | refine JE.blk_hit ?_ | refine JE.blk_miss rfl ?_ | refine JE.then_ret ?_ | refine JE.blk_ret ?_ | refine JC.label ?_ | refine JL.gon rfl rfl ?_ | refine JL.gskip rfl rfl rfl rfl ?_)
    exact JE.ret1 rfl (RV.tmp rfl) fun w' hw => ⟨rfl, hw.chg⟩
  · cases ad with
    | none => exact Less.refl _
    | some a => exact .drop _ _ _ (Less.refl _)
end Go.Proofs.YtheemnpfnefbmaaDoor
