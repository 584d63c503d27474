/-
  Of no statement by itself: the texts JrnJ, JrnK, JrnL, JrnQ, Same, JrnR, JrnV, JrnX, JrnY, JrnZ, JrnHa, JrnHb, JrnHc in one.
  Conditions: each theorem's own.
-/
import Derived.Test.YtkadoibacliepaaFb
set_option linter.unusedSimpArgs false
set_option linter.unusedVariables false
/-
  Of no statement by itself: the landed journal's begin.
  Conditions: each theorem's own.
-/
namespace Go.Proofs.Ytkadoibacliepaa
set_option maxRecDepth 10000
open Sl Dsk Jrn
theorem slLj_at {w : World} {s : SlL} (h : s.ok w) (h0 : 0 < s.rs.length) : ∃ b j, s.ad = some ⟨b, j, none⟩ ∧ b < w.heap.size ∧ ∀ i, i < s.rs.length → w.cell? ⟨b, j + i, none⟩ = some (s.rs.getD i nilS).v := by
  obtain ⟨b, j, e1, c1⟩ := h.reads.at (by rw [List.length_map]; exact h0)
  exact ⟨b, j, e1, block_lt_of_cell (c1 0 _ (map_at Sl8.v nilS h0)), fun i hi => c1 i _ (map_at Sl8.v nilS hi)⟩
structure AwayL (s : SlL) (S : List Nat) : Prop where
  a : s.rs ≠ [] → ∀ a, s.ad = some a → a.block ∉ S
  all : ∀ y ∈ s.rs, Away y S
theorem getD_mem' {rs : List Sl8} {i : Nat} (h : i < rs.length) : rs.getD i nilS ∈ rs := by
  rw [List.getD_eq_getElem?_getD, List.getElem?_eq_getElem h]
  exact List.getElem_mem h
theorem putAt_app {bl : List Bk} {k : Nat} {a b : List Bk} (h : k + a.length + b.length ≤ bl.length) : putAt (putAt bl k a) (k + a.length) b = putAt bl k (a ++ b) := by
  have h1 : (bl.take k ++ a).length = k + a.length := by rw [List.length_append, List.length_take]; omega
  have e1 : (bl.take k ++ a ++ bl.drop (k + a.length)).take (k + a.length) = bl.take k ++ a := List.take_left' h1
  have e2 : (bl.take k ++ a ++ bl.drop (k + a.length)).drop (k + a.length + b.length) = bl.drop (k + (a ++ b).length) := by
    rw [← List.drop_drop, List.drop_left' h1, List.drop_drop, List.length_append, Nat.add_assoc]
  unfold putAt
  rw [e1, e2]
  simp [List.append_assoc]
theorem putAt_two {bl : List Bk} {k : Nat} {a b : List Bk} (h : k + a.length + b.length ≤ bl.length) : putAt (putAt bl (k + a.length) b) k a = putAt bl k (a ++ b) := by
  have h1 : (bl.take (k + a.length)).length = k + a.length := by rw [List.length_take]; omega
  have e1 : (bl.take (k + a.length) ++ b ++ bl.drop (k + a.length + b.length)).take k = bl.take k := by
    rw [List.append_assoc, List.take_append_of_le_length (by rw [h1]; omega), List.take_take, Nat.min_eq_left (by omega)]
  have e2 : (bl.take (k + a.length) ++ b ++ bl.drop (k + a.length + b.length)).drop (k + a.length) = b ++ bl.drop (k + a.length + b.length) := by
    rw [List.append_assoc, List.drop_left' h1]
  unfold putAt
  rw [e1, e2]
  simp [List.append_assoc, Nat.add_assoc]
theorem slCj : scal Try.prog 31 = true := by kernel_rfl
theorem sleJ : szT Try.prog 31 = some 1 := by kernel_rfl
theorem goes_begin : Goes Try.prog 56 := ⟨_, Try.func56, rfl, by kernel_rfl⟩
/-- a half that begins with a generation and records -/
def begH (h : Hf) (g : BitVec 32) (recs : List Bk) : Hf := ⟨h.x, h.first, h.size, g, recs.length, room recs⟩
def sync0 (x : Dp) : Dp := ⟨x.p, x.q, x.cap, none⟩
theorem room_cons (r : Bk) (rs : List Bk) : room (r :: rs) = nb r.length + room rs := rfl
theorem room_take_le (rs : List Bk) (i : Nat) : room (rs.take i) ≤ room rs := by
  have := room_append (rs.take i) (rs.drop i)
  rw [List.take_append_drop] at this
  omega
/-- the half while its records are put, behind so many of those behind the base -/
def midH (h : Hf) (g : BitVec 32) (n0 : Nat) (rt : List Bk) (i : Nat) (qa : Acc) : Hf := ⟨⟨h.x.p, h.x.q, h.x.cap, qa⟩, h.first, h.size, g, 1 + i, n0 + room (rt.take i)⟩
def midB (h : Hf) (g : BitVec 32) (bl : List Bk) (n0 : Nat) (rt : List Bk) (i : Nat) : List Bk := putAt bl (h.first + n0) (allB g 1 (rt.take i))
theorem take_snoc {rt : List Bk} {i : Nat} (h : i < rt.length) : rt.take (i + 1) = rt.take i ++ [rt.getD i []] := by
  rw [List.take_add_one]
  simp [List.getD_eq_getElem?_getD, h]
theorem mid_snoc {h : Hf} {g : BitVec 32} {bl : List Bk} {n0 : Nat} {rt : List Bk} {i : Nat} (hi : i < rt.length) (hb : h.first + n0 + room rt ≤ bl.length) :
    putAt (midB h g bl n0 rt i) (h.first + (n0 + room (rt.take i))) (blks g (1 + i) (rt.getD i [])) = midB h g bl n0 rt (i + 1) := by
  have e := take_snoc hi
  have hr := room_take_le rt (i + 1)
  rw [e, room_append] at hr
  have hr1 : room [rt.getD i []] = nb (rt.getD i []).length := by simp [room]
  have ea : allB g 1 (rt.take (i + 1)) = allB g 1 (rt.take i) ++ blks g (1 + i) (rt.getD i []) := by
    rw [e, allB_append, List.length_take, Nat.min_eq_left (by omega)]
    congr 1
    rw [allB, allB, List.append_nil]
  unfold midB
  rw [ea, ← putAt_app (by rw [allB_len, blks_len]; omega), allB_len]
  congr 1
  omega
set_option maxHeartbeats 64000000 in
theorem begin_any (j : Nat) (h : Hf) (bl : List Bk) (pd : List (Nat × Bk)) (g : BitVec 32) (s : SlL) (hd : DkOk h.x bl pd) (hs : h.first + h.size ≤ bl.length) (hne : 0 < s.rs.length) (ha : room (s.rs.map Sl8.l) ≤ h.size) (hm : pd.length + (h.size + h.size) ≤ 1000000) (w : World) (hok : s.ok w) (hap : AwayL s (keys (jnE j h bl pd))) (h0 : Holds w (keys (jnE j h bl pd)) (jnE j h bl pd) w) :
    Calls Try.prog 56 [Pt j 0, U32 g, s.v].toArray w fun e w' => e = .returned (.tuple #[]) ∧ Holds w (keys (jnE j h bl pd)) (⟨j, Row 98 (hfc (begH h g (s.rs.map Sl8.l))), true⟩ :: dkE (sync0 h.x) (putAt bl h.first (allB g 0 (s.rs.map Sl8.l))) []) w' := by
  obtain ⟨b, jj, ead, lb, cb⟩ := slLj_at hok hne
  have hcap := hok.len
  have hall := hok.all
  have hbS := hap.a (fun e => by rw [e] at hne; cases hne) _ ead
  have haw := hap.all
  have hn1 := hd.n1
  obtain ⟨ad, cap, rs⟩ := s
  dsimp only at ead hcap hall hbS haw hne ha cb ⊢
  subst ead
  obtain ⟨ls, hls⟩ : ∃ ls, rs.map Sl8.l = ls := ⟨_, rfl⟩
  have hll : ls.length = rs.length := by rw [← hls, List.length_map]
  have hat : ∀ i, i < rs.length → ls.getD i [] = (rs.getD i nilS).l := fun i hi => by rw [← hls]; simp [List.getD_eq_getElem?_getD, hi]
  rw [hls] at ha ⊢
  obtain ⟨r0, rt, hrt⟩ : ∃ r0 rt, ls = r0 :: rt := by
    cases ls with
    | nil => rw [List.length_nil] at hll; omega
    | cons a l => exact ⟨a, l, rfl⟩
  have hr0 : (rs.getD 0 nilS).l = r0 := by rw [← hat 0 hne, hrt]; rfl
  have hrl : rt.length + 1 = rs.length := by rw [← hll, hrt]; rfl
  have hrt' : ∀ i, i < rt.length → rt.getD i [] = (rs.getD (i + 1) nilS).l := fun i hi => by rw [← hat (i + 1) (by omega), hrt]; rfl
  have hroom : nb r0.length + room rt ≤ h.size := by rw [hrt, room_cons] at ha; exact ha
  have hge := room_ge rt
  have hnl : r0.length ≤ nb r0.length * 42 := nb_le _
  obtain ⟨j1, hj1, hj2⟩ : ∃ j1, (if cap = 1 then some (⟨b, jj, none⟩ : Addr) else (some (⟨b, jj, none⟩ : Addr)).map (·.add (1 * 1))) = some ⟨b, j1, none⟩ ∧ (2 ≤ rs.length → j1 = jj + 1) := by
    by_cases hc : cap = 1
    · exact ⟨jj, by rw [if_pos hc], fun h2 => by omega⟩
    · exact ⟨jj + 1, by rw [if_neg hc]; rfl, fun _ => rfl⟩
  have hv1 : (Value.slice (if cap = 1 then some (⟨b, jj, none⟩ : Addr) else (some (⟨b, jj, none⟩ : Addr)).map (·.add (1 * 1))) (rs.length - 1) (cap - 1)) = .slice (some ⟨b, j1, none⟩) rt.length (cap - 1) := by rw [hj1, show rs.length - 1 = rt.length by omega]
  have c0 := cb 0 hne
  have ok0 := hall _ (getD_mem' hne)
  have aw0 := haw _ (getD_mem' hne)
  generalize rs.getD 0 nilS = s0 at c0 ok0 aw0 hr0
  subst hr0
  generalize hS : keys (jnE j h bl pd) = S at hbS haw h0 aw0 ⊢
  refine enter (n := 54) Try.func56 rfl rfl rfl h0 ?_
  repeat (first | refine JL.q (by first | (apply OQ.idxS1 (i := 0); exact Try.underlying34; exact sleJ; exact rfl; exact rfl; exact hne) | (apply OQ.load_old; exact slCj; exact rfl; exact lb; exact hbS; exact c0) | (apply OQ.len (k := s0.l.length) (ad := s0.ad) (cap := s0.cap); exact Try.underlying31; exact rfl) | (apply OQ.callx (vs := [N s0.l.length]); exact goes_bfor; exact rfl; exact (fun w' _ => bfor_any s0.l.length (by omega) w')) | (apply OQ.move; exact rfl) | (apply OQ.nilc; exact rfl) | (apply OQ.fld; exact rfl; exact rfl; exact rfl; exact (by decide); exact rfl)) rfl ?_ | refine JC.seq ?_ | refine JC.region ?_)
  refine JL.store_eq (b := j) (r := hfc h) (r' := hfc ⟨h.x, h.first, h.size, g, h.count, h.used⟩) u321 rfl rfl rfl rfl .here (show 3 < 6 by decide) rfl ?_
  repeat (refine JL.q (by first | (apply OQ.nilc; exact rfl) | (apply OQ.fld; exact rfl; exact rfl; exact rfl; exact (by decide); exact rfl)) rfl ?_)
  refine JL.store_eq (b := j) (r := hfc ⟨h.x, h.first, h.size, g, h.count, h.used⟩) (r' := hfc ⟨h.x, h.first, h.size, g, 1, h.used⟩) is1j rfl rfl rfl rfl .here (show 4 < 6 by decide) rfl ?_
  repeat (refine JL.q (by first | (apply OQ.nilc; exact rfl) | (apply OQ.fld; exact rfl; exact rfl; exact rfl; exact (by decide); exact rfl)) rfl ?_)
  refine JL.store_eq (b := j) (r := hfc ⟨h.x, h.first, h.size, g, 1, h.used⟩) (r' := hfc ⟨h.x, h.first, h.size, g, 1, nb s0.l.length⟩) is1j rfl rfl rfl rfl .here (show 5 < 6 by decide) rfl ?_
  repeat (first | refine JL.q (by first | (apply OQ.to; exact (OQ.slS_lo (lo := 1) (len := rs.length) (cap := cap) (ad := some ⟨b, jj, none⟩) Try.underlying34 sleJ rfl rfl (by omega)); exact hv1) | (apply OQ.len (k := rt.length) (ad := some ⟨b, j1, none⟩) (cap := cap - 1); exact Try.underlying34; exact rfl) | (apply OQ.move; exact rfl)) rfl ?_ | refine JC.seq ?_ | refine JC.region ?_ | refine JC.block ?_ | refine JL.nil ?_ | refine JE.next ?_)
  refine JC.loop (fun z : Nat × Acc × List (Nat × Bk) => [(0, Pt j 0), (1, U32 g), (2, .slice (some ⟨b, jj, none⟩) rs.length cap), (24, .slice (some ⟨b, j1, none⟩) rt.length (cap - 1)), (25, N rt.length), (26, N z.1)]) (fun z => jnE j (midH h g (nb s0.l.length) rt z.1 z.2.1) (midB h g bl (nb s0.l.length) rt z.1) z.2.2) (fun z => rt.length - z.1) (fun z => z.1 ≤ rt.length ∧ DkOk ⟨h.x.p, h.x.q, h.x.cap, z.2.1⟩ (midB h g bl (nb s0.l.length) rt z.1) z.2.2 ∧ z.2.2.length ≤ pd.length + room (rt.take z.1)) (0, h.x.a, pd) ⟨Nat.zero_le _, by unfold midB; rw [List.take_zero, allB, putAt_nil]; exact hd, Nat.le_refl _⟩ (by repeat (first | exact SubE.nil | refine SubE.cons _ _ _ rfl ?_)) (by unfold midB; rw [List.take_zero, allB, putAt_nil]; exact Less.refl _) ?_
  rintro ⟨i, qa, ps⟩ ⟨hi, hdi, hpi⟩
  dsimp only at hi hdi hpi ⊢
  have hmbl : (midB h g bl (nb s0.l.length) rt i).length = bl.length := putAt_len (by rw [allB_len]; have := room_take_le rt i; omega)
  repeat (first | refine JL.q (by (apply OQ.lssN; exact rfl; exact rfl)) rfl ?_ | refine JC.seq ?_ | refine JC.region ?_ | refine JL.nil ?_ | refine JE.next ?_)
  refine JC.cond rfl (fun hc => ?_) (fun hc => ?_)
  · have hi' : i < rt.length := by have := of_decide_eq_true hc; omega
    clear hc
    have hi2 : i + 1 < rs.length := by omega
    have ci : w.cell? ⟨b, j1 + i, none⟩ = some (rs.getD (i + 1) nilS).v := by
      rw [hj2 (by omega), show jj + 1 + i = jj + (i + 1) by omega]
      exact cb (i + 1) hi2
    have hri := hrt' i hi'
    have oki := hall _ (getD_mem' hi2)
    have awi := haw _ (getD_mem' hi2)
    have hsn := mid_snoc (h := h) (g := g) (bl := bl) (n0 := nb s0.l.length) hi' (by omega)
    have hrr := room_take_le rt (i + 1)
    rw [take_snoc hi', room_append] at hrr
    have hr1 : room [rt.getD i []] = nb (rt.getD i []).length := by simp [room]
    have hts := take_snoc hi'
    rw [hr1] at hrr
    generalize rs.getD (i + 1) nilS = si at ci oki awi hri
    rw [hri] at hsn hrr hts
    have hrge := room_ge (rt.take i)
    rw [List.length_take, Nat.min_eq_left hi] at hrge
    have cP := fun w' (hw' : Holds w S (jnE j (midH h g (nb s0.l.length) rt i qa) (midB h g bl (nb s0.l.length) rt i) ps ++ []) w') hx' => put_any j (midH h g (nb s0.l.length) rt i qa) (midB h g bl (nb s0.l.length) rt i) ps si hdi (by rw [hmbl]; exact hs) (by show nb s0.l.length + room (rt.take i) + nb si.l.length ≤ h.size; omega) (by show 1 + i ≤ h.size; have := nb_pos s0.l.length; omega) (by show ps.length + h.size ≤ _; omega) w' (oki.away hw' awi) (away_mid hw' (jnE_wr _ _ _ _) oki awi) hx'
    have hsn2 : putAt (midB h g bl (nb s0.l.length) rt i) ((midH h g (nb s0.l.length) rt i qa).first + (midH h g (nb s0.l.length) rt i qa).used) (blks (midH h g (nb s0.l.length) rt i qa).g (midH h g (nb s0.l.length) rt i qa).count si.l) = midB h g bl (nb s0.l.length) rt (i + 1) := hsn
    rw [hsn2] at cP
    repeat (first | refine JL.q (by first | (apply OQ.idxS1 (i := i); exact Try.underlying34; exact sleJ; exact rfl; exact rfl; exact hi') | (apply OQ.load_old; exact slCj; exact rfl; exact lb; exact hbS; exact ci) | (apply OQ.move; exact rfl) | (apply OQ.assign; exact rfl)) rfl ?_ | refine JC.seq ?_ | refine JC.region ?_ | refine JC.block ?_ | refine JC.skip ?_ | refine JL.nil ?_ | refine JE.next ?_)
    refine JL.perm ?_ (List.Perm.of_eq (List.append_nil _).symm)
    refine JL.callV (ι := Dw (midH h g (nb s0.l.length) rt i qa).x (midB h g bl (nb s0.l.length) rt (i + 1)) (ps.length + nb si.l.length)) (vs := [Pt j 0, si.v]) (fun _ => .tuple #[]) (fun z => z.J j (putH (midH h g (nb s0.l.length) rt i qa) si.l.length)) goes_put rfl rfl (jnE_wr _ _ _ _) (fun z => z.Jwr _ _) cP fun z => ?_
    repeat (first | refine JL.q (by first | (apply OQ.move; exact rfl) | (apply OQ.addN; exact rfl; exact rfl; exact (by (try simp only []); omega))) rfl ?_ | refine JC.region ?_ | refine JL.nil ?_ | refine JE.next ?_ | refine JE.blk_normal ?_)
    have hrs : room (rt.take (i + 1)) = room (rt.take i) + nb si.l.length := by rw [hts, room_append]; simp [room]
    have eH : hfc (putH (midH h g (nb s0.l.length) rt i qa) si.l.length) = hfc (midH h g (nb s0.l.length) rt (i + 1) z.a) := by
      unfold putH midH
      rw [hrs]
      simp only [hfc, Nat.add_assoc]
      rfl
    obtain ⟨za, zp, zo, zn⟩ := z
    dsimp only at eH
    refine JE.again (i := (i, qa, ps)) (i + 1, za, zp) ⟨hi', zo, by dsimp only; omega⟩ (by dsimp only; omega) (by repeat (first | exact SubE.nil | refine SubE.cons _ _ _ rfl ?_)) ?_
    rw [List.append_nil]
    show Less (⟨j, Row 98 (hfc (midH h g (nb s0.l.length) rt (i + 1) za)), true⟩ :: dkE ⟨h.x.p, h.x.q, h.x.cap, za⟩ (midB h g bl (nb s0.l.length) rt (i + 1)) zp) (⟨j, Row 98 (hfc (putH (midH h g (nb s0.l.length) rt i qa) si.l.length)), true⟩ :: _)
    rw [eH]
    exact Less.refl _
  · have hi' : i = rt.length := by have := of_decide_eq_false hc; omega
    subst hi'
    have eT : midB h g bl (nb s0.l.length) rt rt.length = putAt bl (h.first + nb s0.l.length) (allB g 1 rt) := by unfold midB; rw [List.take_length]
    have eH : hfc (midH h g (nb s0.l.length) rt rt.length qa) = hfc (begH h g ls) := by
      unfold midH begH
      rw [List.take_length, hll, hrt, room_cons, ← hrl, Nat.add_comm 1]
      rfl
    rw [List.take_length] at hpi
    rw [eT] at hdi hmbl ⊢
    unfold jnE
    rw [eH]
    have hgl : ((rs.length : Nat) : Int) = rt.length + 1 := by omega
    repeat (first | refine JL.q (by first | (apply OQ.len (k := rs.length) (ad := some ⟨b, jj, none⟩) (cap := cap); exact Try.underlying34; exact rfl) | (apply OQ.move; exact rfl) | (apply OQ.gtrN; exact rfl; exact rfl)) rfl ?_ | refine JC.seq ?_ | refine JC.region ?_ | refine JC.exit ?_ | refine JL.nil ?_ | refine JE.next ?_ | refine JE.then_exit ?_ | refine JE.blk_hit ?_)
    refine JC.join (ι := Acc × List (Nat × Bk)) (fun _ => [(0, Pt j 0), (2, .slice (some ⟨b, jj, none⟩) rs.length cap)]) (fun z => ⟨j, Row 98 (hfc (begH h g ls)), true⟩ :: dkE ⟨h.x.p, h.x.q, h.x.cap, z.1⟩ (putAt bl (h.first + nb s0.l.length) (allB g 1 rt)) z.2) (fun z => DkOk ⟨h.x.p, h.x.q, h.x.cap, z.1⟩ (putAt bl (h.first + nb s0.l.length) (allB g 1 rt)) z.2 ∧ z.2.length ≤ pd.length + room rt) ?_ ?_
    · refine JC.cond rfl (fun hg => ?_) (fun hg => ?_)
      · repeat (first | refine JL.q (by first | (apply OQ.load; exact jbC; exact rfl; exact .here; exact (Row.cell (v := ifD h.x) rfl)) | (apply OQ.move; exact rfl) | (apply OQ.nilc; exact rfl) | (apply OQ.fld; exact rfl; exact rfl; exact rfl; exact (by decide); exact rfl)) rfl ?_ | refine JC.region ?_)
        refine JL.perm (M' := dkE ⟨h.x.p, h.x.q, h.x.cap, qa⟩ (putAt bl (h.first + nb s0.l.length) (allB g 1 rt)) ps ++ [⟨j, Row 98 (hfc (begH h g ls)), true⟩]) ?_ (by exact List.perm_append_comm (l₁ := [_]))
        refine JL.isync rfl rfl ?_
        repeat (refine JL.nil ?_)
        refine JE.perm (M' := ⟨j, Row 98 (hfc (begH h g ls)), true⟩ :: dkE ⟨h.x.p, h.x.q, h.x.cap, none⟩ (putAt bl (h.first + nb s0.l.length) (allB g 1 rt)) []) (by exact List.perm_append_comm (l₂ := [_])) ?_
        exact JE.mid (none, []) ⟨hdi.sync, Nat.zero_le _⟩ (by repeat (first | exact SubE.nil | refine SubE.cons _ _ _ rfl ?_)) (Less.refl _)
      · repeat (refine JC.skip ?_)
        exact JE.mid (qa, ps) ⟨hdi, hpi⟩ (by repeat (first | exact SubE.nil | refine SubE.cons _ _ _ rfl ?_)) (Less.refl _)
    clear hdi hpi
    rintro ⟨qa, ps⟩ ⟨hdi, hpi⟩
    dsimp only at hdi hpi ⊢
    have hfin : putAt (putAt bl (h.first + nb s0.l.length) (allB g 1 rt)) (h.first + 0) (blks g 0 s0.l) = putAt bl h.first (allB g 0 ls) := by
      have := putAt_two (bl := bl) (k := h.first) (a := blks g 0 s0.l) (b := allB g 1 rt) (by rw [blks_len, allB_len]; omega)
      rw [blks_len] at this
      rw [Nat.add_zero, this, hrt]
      rfl
    have cW := fun w' (hw' : Holds w S (dkE ⟨h.x.p, h.x.q, h.x.cap, qa⟩ (putAt bl (h.first + nb s0.l.length) (allB g 1 rt)) ps ++ [⟨j, Row 98 (hfc (begH h g ls)), true⟩]) w') hx' => write_any ⟨⟨h.x.p, h.x.q, h.x.cap, qa⟩, h.first, h.size, g, ls.length, room ls⟩ (putAt bl (h.first + nb s0.l.length) (allB g 1 rt)) ps 0 0 s0 hdi (by rw [hmbl]; exact hs) (by show 0 + nb s0.l.length ≤ h.size; omega) (by show ps.length + h.size ≤ _; omega) w' (ok0.away hw' aw0) (away_mid hw' (dkE_wr _ _ _) ok0 aw0) hx'
    dsimp only at cW
    rw [hfin] at cW
    repeat (refine JC.seq ?_)
    refine JC.tail 6 mixT (by kernel_rfl) ?_
    simp only [List.take_succ_cons, List.take_zero, List.drop_succ_cons, List.drop_zero]
    repeat (first | refine JQ.q (by first | (apply OQ.load_agg (cs := hfc (begH h g ls)); exact hfAg; exact hf6; exact rfl; exact .here; exact rfl; exact Row.all) | (apply OQ.idxS1 (i := 0); exact Try.underlying34; exact sleJ; exact rfl; exact rfl; exact hne) | (apply OQ.load_old; exact slCj; exact rfl; exact lb; exact hbS; exact c0) | (apply OQ.move; exact rfl) | (apply OQ.nilc; exact rfl)) rfl ?_ | refine JQ.nil_tail ?_)
    refine JL.perm (M' := dkE ⟨h.x.p, h.x.q, h.x.cap, qa⟩ (putAt bl (h.first + nb s0.l.length) (allB g 1 rt)) ps ++ [⟨j, Row 98 (hfc (begH h g ls)), true⟩]) ?_ (by exact List.perm_append_comm (l₁ := [_]))
    refine JL.callV (ι := Dw ⟨h.x.p, h.x.q, h.x.cap, qa⟩ (putAt bl h.first (allB g 0 ls)) (ps.length + nb s0.l.length)) (vs := [.agg (hfc (begH h g ls)).toArray, N 0, N 0, s0.v]) (fun _ => .tuple #[]) (fun z => z.E) goes_jwrite rfl rfl (dkE_wr _ _ _) (fun z => z.wr) cW fun z => ?_
    refine JL.perm (M' := ⟨j, Row 98 (hfc (begH h g ls)), true⟩ :: z.E) ?_ (by exact List.perm_append_comm (l₂ := [_]))
    repeat (first | refine JL.q (by first | (apply OQ.load; exact jbC; exact rfl; exact .here; exact (Row.cell (v := ifD h.x) rfl)) | (apply OQ.move; exact rfl) | (apply OQ.nilc; exact rfl) | (apply OQ.fld; exact rfl; exact rfl; exact rfl; exact (by decide); exact rfl)) rfl ?_ | refine JC.region ?_ | refine JL.nil ?_ | refine JE.next ?_)
    refine JL.perm (M' := dkE ⟨h.x.p, h.x.q, h.x.cap, z.a⟩ (putAt bl h.first (allB g 0 ls)) z.pd ++ [⟨j, Row 98 (hfc (begH h g ls)), true⟩]) ?_ (by exact List.perm_append_comm (l₁ := [_]))
    refine JL.isync rfl rfl ?_
    repeat (refine JL.nil ?_)
    refine JE.perm (M' := ⟨j, Row 98 (hfc (begH h g ls)), true⟩ :: dkE (sync0 h.x) (putAt bl h.first (allB g 0 ls)) []) (by exact List.perm_append_comm (l₂ := [_])) ?_
    exact JE.end0 rfl fun w' hw => ⟨rfl, hw⟩
end Go.Proofs.Ytkadoibacliepaa

/-
  Of no statement by itself: the landed journal's open, Open.
  Conditions: each theorem's own.
-/
namespace Go.Proofs.Ytkadoibacliepaa
set_option maxRecDepth 10000
open Sl Dsk Jrn
theorem rd_room {g : BitVec 32} {r : Nat} : ∀ {bs : List Bk} {p : Nat} {acc rec : Bk} {k : Nat}, rd g r bs p acc = some (rec, k) → (∀ b ∈ bs, b.length = 64) → acc.length ≤ p * 42 → rec.length ≤ k * 42
  | [], _, _, _, _, h, _, _ => by simp [rd] at h
  | b :: bs, p, acc, rec, k, h, hb, ha => by
    unfold rd at h
    split at h
    case isTrue hw =>
      have ⟨h1, h2⟩ := part_len (hb b (by simp)) hw.1
      split at h
      · simp only [Option.some.injEq, Prod.mk.injEq] at h
        rw [← h.1, ← h.2, List.length_append, h1]
        omega
      · exact rd_room h (fun x hx => hb x (by simp [hx])) (by rw [List.length_append, h1]; omega)
    · cases h
theorem toldN_room {g : BitVec 32} : ∀ (f : Nat) (bs : List Bk) (n : Nat), (∀ b ∈ bs, b.length = 64) → room (toldN g f bs n) ≤ bs.length
  | 0, bs, n, _ => Nat.zero_le _
  | f + 1, bs, n, hb => by
    rw [toldN]
    cases h : rd g n bs 0 [] with
    | none => exact Nat.zero_le _
    | some rk =>
      obtain ⟨rec, k⟩ := rk
      have h1 := rd_room h hb (Nat.zero_le _)
      have h2 := rd_le h
      have ih := toldN_room (g := g) f (bs.drop k) (n + 1) (fun b hx => hb b (List.mem_of_mem_drop hx))
      rw [List.length_drop] at ih
      rw [room_cons]
      have : nb rec.length ≤ k := by unfold nb; omega
      omega
theorem recH_room {bl : List Bk} {first : Nat} (hb : ∀ b ∈ bl, b.length = 64) (h : first + bl.length / 2 ≤ bl.length) : room (recH bl first) ≤ bl.length / 2 := by
  unfold recH toldH told
  refine Nat.le_trans (toldN_room _ _ _ ?_) (by rw [bsOf_len h]; omega)
  intro b hx
  unfold bsOf at hx
  exact hb b (List.mem_of_mem_drop (List.mem_of_mem_take (List.mem_of_mem_drop hx)))
theorem curF_room {bl : List Bk} (hb : ∀ b ∈ bl, b.length = 64) (h4 : 4 ≤ bl.length) : room (curF bl).2.2 ≤ bl.length / 2 ∧ 0 < (curF bl).2.2.length ∧ (curF bl).1 ≤ bl.length / 2 := by
  have h0 : ∀ f, (0 : Int) < ((genH bl f).toNat : Int) → 0 < (recH bl f).length := fun f h => by
    unfold genH at h
    split at h
    · simp at h
    · omega
  unfold curF
  split
  case isTrue h => exact ⟨recH_room hb (by omega), h0 _ h.1, Nat.zero_le _⟩
  · split
    case isTrue h => exact ⟨recH_room hb (by omega), h0 _ h, Nat.le_refl _⟩
    · exact ⟨by show 1 + 0 ≤ _; omega, Nat.zero_lt_one, Nat.le_refl _⟩
theorem away_gr {w0 w : World} {S : List Nat} {X M : List Ent} {z : Gr} (hw : Holds w0 S (X ++ (z.E ++ M)) w) : AwayL z.s (keys X) := by
  have key : ∀ b, b ∈ z.E.map Ent.b → b ∉ keys X := fun b hb hm => by
    have hn := hw.nodup
    rw [List.map_append, List.nodup_append] at hn
    exact hn.2.2 b hm b (by rw [List.map_append]; exact List.mem_append_left _ hb) rfl
  obtain ⟨q, rs, hq, hr⟩ := z
  refine ⟨fun _ a ha => ?_, fun y hy h0 a ha => ?_⟩
  · cases q with
    | none => cases ha
    | some p =>
      have : a = ⟨p.1, 0, none⟩ := by cases ha; rfl
      rw [this]
      exact key p.1 (by unfold Gr.E; rw [List.map_append]; exact List.mem_append_left _ (by simp [accE]))
  · have hy' : y ∈ rs := by
      have := accL_rs hq
      unfold Gr.s at hy
      rwa [this] at hy
    refine key a.block ?_
    unfold Gr.E
    rw [List.map_append]
    refine List.mem_append_right _ ?_
    unfold flatE
    rw [List.map_flatMap, List.mem_flatMap]
    exact ⟨y, hy', by unfold Sl8.ents; rw [ha]; simp⟩
theorem goes_jopen : Goes Try.prog 59 := ⟨_, Try.func59, rfl, by kernel_rfl⟩
theorem goes_jOpen : Goes Try.prog 28 := ⟨_, Try.func28, rfl, by kernel_rfl⟩
/-- why a journal isn't opened -/
def noOpen (bl : List Bk) : Nat := if bl.length < 4 then 2 else if gm bl = 4294967295#32 then 6 else 0
set_option maxHeartbeats 16000000 in
theorem open_no (x : Dp) (bl : List Bk) (pd : List (Nat × Bk)) (ok : Ok bl pd) (hn : bl.length ≤ 65536) (hno : noOpen bl ≠ 0) (w : World) (h0 : Holds w [] (dkR x bl pd) w) :
    Calls Try.prog 59 [ifD x].toArray w fun e w' => e = .returned (.tuple #[.pointer none, N (noOpen bl)]) ∧ Ext w w' := by
  refine enter (n := 36) Try.func59 rfl rfl rfl h0 ?_
  repeat (first | refine JL.q (by first | (apply OQ.inv (xs := []); exact (isSize x); exact rfl; exact (OQ.callx (vs := [Pt x.p 0]) goes_dsizej rfl (fun w' hw' => dsizeR x bl pd w' (dkR_front (A := []) (M := []) hw')))) | (apply OQ.move; exact rfl) | (apply OQ.assign; exact rfl) | (apply OQ.lssN; exact rfl; exact rfl)) rfl ?_ | refine JC.seq ?_ | refine JC.region ?_ | refine JL.nil ?_ | refine JE.next ?_)
  refine JC.cond rfl (fun hc => ?_) (fun hc => ?_)
  · have h4 : bl.length < 4 := by have := of_decide_eq_true hc; omega
    unfold noOpen
    rw [if_pos h4]
    repeat (first | refine JL.q (by (apply OQ.assign; exact rfl)) rfl ?_ | refine JC.seq ?_ | refine JC.region ?_ | refine JL.nil ?_ | refine JE.next ?_)
    refine JC.ret ?_
    repeat (refine JE.then_ret ?_)
    exact JE.ret2 rfl (RV.tmp rfl) (RV.tmp rfl) fun w' hw => ⟨rfl, hw.chg⟩
  · have h4 : ¬ bl.length < 4 := by have := of_decide_eq_false hc; omega
    unfold noOpen at hno ⊢
    rw [if_neg h4] at hno ⊢
    have hg : gm bl = 4294967295#32 := by
      by_cases hg : gm bl = 4294967295#32
      · exact hg
      · rw [if_neg hg] at hno; exact absurd rfl hno
    rw [if_pos hg]
    have cN := fun {u w' : World} {S : List Nat} (hw' : Holds u S (dkR x bl pd) w') => newGen_any x bl pd ok hn w' (dkR_front (A := []) (M := []) hw')
    have eG : newG bl = .tuple #[U32 0, N 6] := by unfold newG; rw [if_pos hg]
    rw [eG] at cN
    repeat (first | refine JL.q (by first | (apply OQ.callx (vs := [ifD x]); exact goes_newGen; exact rfl; exact (fun w' hw' => cN hw')) | (apply OQ.extract; exact rfl; exact rfl) | (apply OQ.neB (a := 6) (b := 0) (c := false); exact rfl; exact rfl; exact rfl) | (apply OQ.move; exact rfl) | (apply OQ.assign; exact rfl)) rfl ?_ | refine JC.seq ?_ | refine JC.region ?_ | refine JC.skip ?_ | refine JL.nil ?_ | refine JE.next ?_)
    refine JC.cond_true rfl rfl ?_
    repeat (first | refine JL.q (by first | (apply OQ.move; exact rfl) | (apply OQ.assign; exact rfl)) rfl ?_ | refine JC.seq ?_ | refine JC.region ?_ | refine JL.nil ?_ | refine JE.next ?_)
    refine JC.ret ?_
    repeat (refine JE.then_ret ?_)
    exact JE.ret2 rfl (RV.tmp rfl) (RV.tmp rfl) fun w' hw => ⟨rfl, hw.chg⟩
/-- the half that a journal that is opened begins in -/
def opnH (x : Dp) (bl : List Bk) : Hf := ⟨x, bl.length / 2 - (curF bl).1, bl.length / 2, 0, 0, 0⟩
def opnD (bl : List Bk) : List Bk := putAt bl (bl.length / 2 - (curF bl).1) (allB (gm bl + 1#32) 0 (curF bl).2.2)
def syH (h : Hf) : Hf := ⟨sync0 h.x, h.first, h.size, h.g, h.count, h.used⟩
def opnJ (x : Dp) (bl : List Bk) : Hf := syH (begH (opnH x bl) (gm bl + 1#32) (curF bl).2.2)
set_option maxHeartbeats 32000000 in
theorem open_yes (x : Dp) (bl : List Bk) (pd : List (Nat × Bk)) (hd : DkOk x bl pd) (hp : pd.length ≤ 900000) (hno : noOpen bl = 0) (w : World) (h0 : Holds w (keys (dkE x bl pd)) (dkE x bl pd) w) :
    Calls Try.prog 59 [ifD x].toArray w fun e w' => ∃ j : Nat, e = .returned (.tuple #[Pt j 0, N 0]) ∧ Holds w (keys (dkE x bl pd)) (jnE j (opnJ x bl) (opnD bl) []) w' := by
  have hn := hd.n1
  have h4 : ¬ bl.length < 4 := fun h => by unfold noOpen at hno; rw [if_pos h] at hno; cases hno
  have hg : ¬ gm bl = 4294967295#32 := fun h => by unfold noOpen at hno; rw [if_neg h4, if_pos h] at hno; cases hno
  have cN := fun {u w' : World} {S : List Nat} {M : List Ent} (hw' : Holds u S (dkE x bl pd ++ M) w') => newGen_any x bl pd hd.ok hn w' (dkR_of hw')
  have eG : newG bl = .tuple #[U32 (gm bl + 1#32), N 0] := by unfold newG; rw [if_neg hg]
  rw [eG] at cN
  have ⟨hr1, hr2, hr3⟩ := curF_room (bl := bl) hd.ok.b (by omega)
  generalize hS : keys (dkE x bl pd) = S at h0 ⊢
  refine enter (n := 36) Try.func59 rfl rfl rfl h0 ?_
  repeat (first | refine JL.q (by first | (apply OQ.inv (xs := []); exact (isSize x); exact rfl; exact (OQ.callx (vs := [Pt x.p 0]) goes_dsizej rfl (fun w' hw' => dsizeR x bl pd w' (dkR_of (M := []) (by rw [List.append_nil]; exact hw'))))) | (apply OQ.move; exact rfl) | (apply OQ.assign; exact rfl) | (apply OQ.lssN; exact rfl; exact rfl)) rfl ?_ | refine JC.seq ?_ | refine JC.region ?_ | refine JL.nil ?_ | refine JE.next ?_)
  refine JC.cond rfl (fun hc => absurd (of_decide_eq_true hc) (by omega)) (fun _ => ?_)
  repeat (first | refine JL.q (by first | (apply OQ.callx (vs := [ifD x]); exact goes_newGen; exact rfl; exact (fun w' hw' => cN (M := []) (by rw [List.append_nil]; exact hw'))) | (apply OQ.extract; exact rfl; exact rfl) | (apply OQ.neB (a := 0) (b := 0) (c := true); exact rfl; exact rfl; exact rfl) | (apply OQ.move; exact rfl) | (apply OQ.assign; exact rfl)) rfl ?_ | refine JC.seq ?_ | refine JC.region ?_ | refine JC.skip ?_ | refine JL.nil ?_ | refine JE.next ?_)
  refine JC.cond_false rfl rfl ?_
  repeat (first | refine JL.q (by (apply OQ.move; exact rfl)) rfl ?_ | refine JC.seq ?_ | refine JC.region ?_ | refine JC.skip ?_ | refine JE.next ?_)
  refine JL.callg (ι := GrOf (curF bl).2.2 (bl.length / 2)) (vs := [ifD x]) (fun z => .tuple #[.agg (hfc ⟨x, (curF bl).1, bl.length / 2, (curF bl).2.1, 0, 0⟩).toArray, z.1.v]) (fun z => z.1.E) goes_cur rfl rfl (fun z => z.1.wr) (fun w' hw' => cur_any x bl pd hd.ok hn (by omega) w' (dkR_of (M := []) (by rw [List.append_nil]; exact hw'))) fun z => ?_
  repeat (refine JL.q (by first | (apply OQ.extract; exact rfl; exact rfl) | (apply OQ.move; exact rfl)) rfl ?_)
  refine JL.alloc (r := hfc0) hfZ rfl fun b6 _ => ?_
  refine JL.store_all (cs := hfc ⟨x, (curF bl).1, bl.length / 2, (curF bl).2.1, 0, 0⟩) hf6 rfl rfl rfl rfl .here rfl ?_
  have cO := fun w' => other_any ⟨x, (curF bl).1, bl.length / 2, (curF bl).2.1, 0, 0⟩ hr3 (by show bl.length / 2 < _; omega) w'
  repeat (first | refine JL.q (by first | (apply OQ.load_agg (cs := hfc ⟨x, (curF bl).1, bl.length / 2, (curF bl).2.1, 0, 0⟩); exact hfAg; exact hf6; exact rfl; exact .here; exact rfl; exact Row.all) | (apply OQ.callx (vs := [.agg (hfc ⟨x, (curF bl).1, bl.length / 2, (curF bl).2.1, 0, 0⟩).toArray]); exact goes_other; exact rfl; exact (fun w' _ => cO w')) | (apply OQ.buildJ (h := opnH x bl); exact rfl) | (apply OQ.assign; exact rfl)) rfl ?_ | refine JC.seq ?_ | refine JC.region ?_ | refine JL.nil ?_ | refine JE.next ?_)
  refine JL.box (r := hfc (opnH x bl)) rfl rfl rfl fun j _ => ?_
  obtain ⟨z, hz1, hz2⟩ := z
  have hzl : z.s.rs.map Sl8.l = (curF bl).2.2 := by rw [z.rs_eq]; exact hz1
  have hzn : 0 < z.s.rs.length := by rw [← hzl, List.length_map] at hr2; exact hr2
  refine JL.perm (M' := jnE j (opnH x bl) bl pd ++ (z.E ++ [⟨b6, Row 96 (hfc ⟨x, (curF bl).1, bl.length / 2, (curF bl).2.1, 0, 0⟩), true⟩])) ?_ (by
    refine List.Perm.cons _ ?_
    refine (List.perm_append_singleton _ _).symm.trans ?_
    rw [List.append_assoc]
    exact List.perm_append_comm_assoc _ _ _)
  have cB := fun w' (hw' : Holds w S (jnE j (opnH x bl) bl pd ++ (z.E ++ [⟨b6, Row 96 (hfc ⟨x, (curF bl).1, bl.length / 2, (curF bl).2.1, 0, 0⟩), true⟩])) w') hx' => begin_any j (opnH x bl) bl pd (gm bl + 1#32) z.s hd (by show bl.length / 2 - (curF bl).1 + bl.length / 2 ≤ bl.length; omega) hzn (by rw [hzl]; exact hr1) (by show pd.length + (bl.length / 2 + bl.length / 2) ≤ _; omega) w' (z.ok (hw'.weak (less_app (jnE j (opnH x bl) bl pd) (less_pre _ _)))) (away_gr hw') hx'
  rw [hzl, z.v_eq] at cB
  repeat (first | refine JL.q (by first | (apply OQ.move; exact rfl) | (apply OQ.assign; exact rfl) | (apply OQ.nilc; exact rfl) | (apply OQ.fld; exact rfl; exact rfl; exact rfl; exact (by decide); exact rfl)) rfl ?_ | refine JC.seq ?_ | refine JC.region ?_ | refine JL.nil ?_ | refine JE.next ?_)
  refine JL.callV (ι := Unit) (vs := [Pt j 0, U32 (gm bl + 1#32), z.v]) (fun _ => .tuple #[]) (fun _ => jnE j (opnJ x bl) (opnD bl) []) goes_begin rfl rfl (jnE_wr _ _ _ _) (fun _ => jnE_wr _ _ _ _) (fun w' hw' hx' => (cB w' hw' hx').mono fun e w2 ⟨h1, h2⟩ => ⟨(), h1, h2⟩) fun _ => ?_
  repeat (first | refine JL.q (by first | (apply OQ.move; exact rfl) | (apply OQ.assign; exact rfl)) rfl ?_ | refine JC.seq ?_ | refine JC.region ?_ | refine JL.nil ?_ | refine JE.next ?_)
  refine JC.ret ?_
  skip
  exact JE.ret2 rfl (RV.tmp rfl) (RV.tmp rfl) fun w' hw => ⟨j, rfl, hw.weak (less_pre _ _)⟩
theorem Open_no (x : Dp) (bl : List Bk) (pd : List (Nat × Bk)) (ok : Ok bl pd) (hn : bl.length ≤ 65536) (hno : noOpen bl ≠ 0) (w : World) (h0 : Holds w [] (dkR x bl pd) w) :
    Calls Try.prog 28 [Pt x.p 0].toArray w fun e w' => e = .returned (.tuple #[.pointer none, N (noOpen bl)]) ∧ Ext w w' := by
  refine enter (n := 9) Try.func28 rfl rfl rfl h0 ?_
  repeat (first | refine JL.q (by first | (apply OQ.ifaceD (x := x); exact rfl) | (apply OQ.callx (vs := [ifD x]); exact goes_jopen; exact rfl; exact (fun w' hw' => open_no x bl pd ok hn hno w' (dkR_front (A := []) (M := []) hw'))) | (apply OQ.extract; exact rfl; exact rfl) | (apply OQ.move; exact rfl) | (apply OQ.assign; exact rfl)) rfl ?_ | refine JC.seq ?_ | refine JC.region ?_ | refine JL.nil ?_ | refine JE.next ?_)
  exact JC.ret (JE.ret2 rfl (RV.tmp rfl) (RV.tmp rfl) fun w' hw => ⟨rfl, hw.chg⟩)
theorem Open_yes (x : Dp) (bl : List Bk) (pd : List (Nat × Bk)) (hd : DkOk x bl pd) (hp : pd.length ≤ 900000) (hno : noOpen bl = 0) (w : World) (h0 : Holds w (keys (dkE x bl pd)) (dkE x bl pd) w) :
    Calls Try.prog 28 [Pt x.p 0].toArray w fun e w' => ∃ j : Nat, e = .returned (.tuple #[Pt j 0, N 0]) ∧ Holds w (keys (dkE x bl pd)) (jnE j (opnJ x bl) (opnD bl) []) w' := by
  refine enter (n := 9) Try.func28 rfl rfl rfl h0 ?_
  repeat (first | refine JL.q (by first | (apply OQ.ifaceD (x := x); exact rfl) | (apply OQ.move; exact rfl) | (apply OQ.assign; exact rfl)) rfl ?_ | refine JC.seq ?_ | refine JC.region ?_ | refine JL.nil ?_ | refine JE.next ?_)
  refine JL.perm ?_ (List.Perm.of_eq (List.append_nil _).symm)
  refine JL.callV (ι := Nat) (vs := [ifD x]) (fun j => .tuple #[Pt j 0, N 0]) (fun j => jnE j (opnJ x bl) (opnD bl) []) goes_jopen rfl rfl (dkE_wr _ _ _) (fun j => jnE_wr _ _ _ _) (fun w' hw' hx' => open_yes x bl pd hd hp hno w' hx') fun j => ?_
  rw [List.append_nil]
  repeat (first | refine JL.q (by first | (apply OQ.extract; exact rfl; exact rfl) | (apply OQ.assign; exact rfl)) rfl ?_ | refine JL.nil ?_ | refine JE.next ?_)
  exact JC.ret (JE.ret2 rfl (RV.tmp rfl) (RV.tmp rfl) fun w' hw => ⟨j, rfl, hw⟩)
end Go.Proofs.Ytkadoibacliepaa

/-
  Of no statement by itself: the landed journal's Append, Restart.
  Conditions: each theorem's own.
-/
namespace Go.Proofs.Ytkadoibacliepaa
set_option maxRecDepth 10000
open Sl Dsk Jrn
theorem jnR_of {j : Nat} {h : Hf} {bl : List Bk} {pd : List (Nat × Bk)} {u w : World} {S : List Nat} {M : List Ent} (hw : Holds u S (jnE j h bl pd ++ M) w) : Holds w [] (jnR j h bl pd) w :=
  (ro_holds hw).weak (.keep _ _ _ _ _ _ (fun _ h => h) (.keep _ _ _ _ _ _ (fun _ h => h) (.keep _ _ _ _ _ _ (fun _ h => h) (.nil _))))
theorem dkR_jn {j : Nat} {h : Hf} {bl : List Bk} {pd : List (Nat × Bk)} {u w : World} {S : List Nat} {M : List Ent} (hw : Holds u S (jnE j h bl pd ++ M) w) : Holds w [] (dkR h.x bl pd) w :=
  (jnR_of hw).weak (.drop _ _ _ (Less.refl _))
theorem dkR_jr {j : Nat} {h : Hf} {bl : List Bk} {pd : List (Nat × Bk)} {u w : World} {S : List Nat} {M : List Ent} (hw : Holds u S (jnR j h bl pd ++ M) w) : Holds w [] (dkR h.x bl pd) w :=
  dkR_front (A := [⟨j, Row 98 (hfc h), false⟩]) (M := M) hw
theorem fits_nat (j : Nat) (h : Hf) (n : Nat) (hu : h.used ≤ h.size) (hb : h.size < 4611686018427387904) (hn : n < 4611686018427387904) (w : World) (h0 : Holds w [] [⟨j, Row 98 (hfc h), false⟩] w) :
    Calls Try.prog 24 [Pt j 0, N n].toArray w fun e w' => e = .returned (.bool (decide (nb n ≤ h.size - h.used))) ∧ Ext w w' := by
  have := fits_any j h (n : Int) hu hb (by omega) w h0
  rwa [show decide ((0 : Int) ≤ (n : Int) ∧ nb (n : Int).toNat ≤ h.size - h.used) = decide (nb n ≤ h.size - h.used) from decide_eq_decide.2 (by simp)] at this
theorem ro_one {j : Nat} {h : Hf} {u w : World} {S : List Nat} {M : List Ent} {wr : Bool} (hw : Holds u S (⟨j, Row 98 (hfc h), wr⟩ :: M) w) : Holds w [] [⟨j, Row 98 (hfc h), false⟩] w :=
  (ro_holds hw).weak (.keep _ _ _ _ _ _ (fun _ h => h) (.nil _))
theorem goes_app : Goes Try.prog 19 := ⟨_, Try.func19, rfl, by kernel_rfl⟩
theorem goes_rst : Goes Try.prog 22 := ⟨_, Try.func22, rfl, by kernel_rfl⟩
set_option maxHeartbeats 16000000 in
theorem app_no (j : Nat) (h : Hf) (s : Sl8) (hu : h.used ≤ h.size) (hb : h.size ≤ 65536) (hl : s.l.length < 4611686018427387904) (hno : ¬ nb s.l.length ≤ h.size - h.used) (w : World) (h0 : Holds w [] [⟨j, Row 98 (hfc h), false⟩] w) :
    Calls Try.prog 19 [Pt j 0, s.v].toArray w fun e w' => e = .returned (N 6) ∧ Ext w w' := by
  have cF := fun {u w' : World} {S : List Nat} {M : List Ent} (hw' : Holds u S (⟨j, Row 98 (hfc h), false⟩ :: M) w') => fits_nat j h s.l.length hu (by omega) hl w' (ro_one hw')
  rw [decide_eq_false hno] at cF
  refine enter (n := 21) Try.func19 rfl rfl rfl h0 ?_
  repeat (first | refine JL.q (by first | (apply OQ.len (k := s.l.length) (ad := s.ad) (cap := s.cap); exact Try.underlying31; exact rfl) | (apply OQ.callx (vs := [Pt j 0, N s.l.length]); exact goes_fits; exact rfl; exact (fun w' hw' => cF hw')) | (apply OQ.not; exact rfl) | (apply OQ.move; exact rfl) | (apply OQ.assign; exact rfl)) rfl ?_ | refine JC.seq ?_ | refine JC.region ?_ | refine JL.nil ?_ | refine JE.next ?_)
  refine JC.cond_true rfl rfl ?_
  repeat (first | refine JL.q (by (apply OQ.assign; exact rfl)) rfl ?_ | refine JC.seq ?_ | refine JC.region ?_ | refine JL.nil ?_ | refine JE.next ?_)
  refine JC.ret ?_
  repeat (refine JE.then_ret ?_)
  exact JE.ret1 rfl (RV.tmp rfl) fun w' hw => ⟨rfl, hw.chg⟩
/-- the journal behind one more record, and its disk's blocks -/
def appJ (h : Hf) (l : Bk) : Hf := syH (putH h l.length)
def appD (h : Hf) (bl : List Bk) (l : Bk) : List Bk := putAt bl (h.first + h.used) (blks h.g h.count l)
set_option maxHeartbeats 16000000 in
theorem app_yes (j : Nat) (h : Hf) (bl : List Bk) (pd : List (Nat × Bk)) (s : Sl8) (hd : DkOk h.x bl pd) (hs : h.first + h.size ≤ bl.length) (hc : h.count ≤ h.size) (hp : pd.length ≤ 900000) (hu : h.used ≤ h.size) (hyes : nb s.l.length ≤ h.size - h.used) (w : World) (hok : s.ok w) (hap : Away s (keys (jnE j h bl pd))) (h0 : Holds w (keys (jnE j h bl pd)) (jnE j h bl pd) w) :
    Calls Try.prog 19 [Pt j 0, s.v].toArray w fun e w' => e = .returned (N 0) ∧ Holds w (keys (jnE j h bl pd)) (jnE j (appJ h s.l) (appD h bl s.l) []) w' := by
  have hn1 := hd.n1
  have hl : s.l.length < 4611686018427387904 := by have := nb_le s.l.length; omega
  have cF := fun {u w' : World} {S : List Nat} {M : List Ent} (hw' : Holds u S (jnE j h bl pd ++ M) w') => fits_nat j h s.l.length hu (by omega) hl w' (ro_one hw')
  rw [decide_eq_true hyes] at cF
  generalize hS : keys (jnE j h bl pd) = S at hap h0 ⊢
  refine enter (n := 21) Try.func19 rfl rfl rfl h0 ?_
  repeat (first | refine JL.q (by first | (apply OQ.len (k := s.l.length) (ad := s.ad) (cap := s.cap); exact Try.underlying31; exact rfl) | (apply OQ.callx (vs := [Pt j 0, N s.l.length]); exact goes_fits; exact rfl; exact (fun w' hw' => cF (M := []) (by rw [List.append_nil]; exact hw'))) | (apply OQ.not; exact rfl) | (apply OQ.move; exact rfl) | (apply OQ.assign; exact rfl)) rfl ?_ | refine JC.seq ?_ | refine JC.region ?_ | refine JL.nil ?_ | refine JE.next ?_)
  refine JC.cond_false rfl rfl ?_
  repeat (first | refine JL.q (by first | (apply OQ.move; exact rfl) | (apply OQ.nilc; exact rfl) | (apply OQ.fld; exact rfl; exact rfl; exact rfl; exact (by decide); exact rfl)) rfl ?_ | refine JC.seq ?_ | refine JC.region ?_ | refine JC.skip ?_ | refine JE.next ?_)
  refine JL.perm ?_ (List.Perm.of_eq (List.append_nil _).symm)
  refine JL.callV (ι := Dw h.x (appD h bl s.l) (pd.length + nb s.l.length)) (vs := [Pt j 0, s.v]) (fun _ => .tuple #[]) (fun z => z.J j (putH h s.l.length)) goes_put rfl rfl (jnE_wr _ _ _ _) (fun z => z.Jwr _ _) (fun w' hw' hx' => put_any j h bl pd s hd hs (by omega) hc (by omega) w' (hok.away hw' hap) (away_mid hw' (jnE_wr _ _ _ _) hok hap) hx') fun z => ?_
  rw [List.append_nil]
  repeat (first | refine JL.q (by first | (apply OQ.load; exact jbC; exact rfl; exact .here; exact (Row.cell (v := ifD h.x) rfl)) | (apply OQ.move; exact rfl) | (apply OQ.nilc; exact rfl) | (apply OQ.fld; exact rfl; exact rfl; exact rfl; exact (by decide); exact rfl)) rfl ?_ | refine JC.seq ?_ | refine JC.region ?_ | refine JL.nil ?_ | refine JE.next ?_)
  refine JL.perm (M' := dkE ⟨h.x.p, h.x.q, h.x.cap, z.a⟩ (appD h bl s.l) z.pd ++ [⟨j, Row 98 (hfc (putH h s.l.length)), true⟩]) ?_ (by exact List.perm_append_comm (l₁ := [_]))
  refine JL.isync rfl rfl ?_
  repeat (first | refine JL.q (by (apply OQ.assign; exact rfl)) rfl ?_ | refine JC.seq ?_ | refine JC.region ?_ | refine JL.nil ?_ | refine JE.next ?_)
  refine JC.ret ?_
  skip
  exact JE.ret1 rfl (RV.tmp rfl) fun w' hw => ⟨rfl, hw.perm' (by exact List.perm_append_comm (l₂ := [_]))⟩
/-- why a journal doesn't begin anew -/
def noRst (h : Hf) (bl : List Bk) (n : Nat) : Prop := h.size < nb n ∨ gm bl = 4294967295#32
def rstH (h : Hf) : Hf := ⟨h.x, h.size - h.first, h.size, 0, 0, 0⟩
def rstJ (h : Hf) (bl : List Bk) (l : Bk) : Hf := syH (begH (rstH h) (gm bl + 1#32) [l])
def rstD (h : Hf) (bl : List Bk) (l : Bk) : List Bk := putAt bl (h.size - h.first) (allB (gm bl + 1#32) 0 [l])
set_option maxHeartbeats 16000000 in
theorem rst_no (j : Nat) (h : Hf) (bl : List Bk) (pd : List (Nat × Bk)) (s : Sl8) (ok : Ok bl pd) (hn : bl.length ≤ 65536) (hb : h.size ≤ 65536) (hl : s.l.length < 4611686018427387904) (hno : noRst h bl s.l.length) (w : World) (h0 : Holds w [] (jnR j h bl pd) w) :
    Calls Try.prog 22 [Pt j 0, s.v].toArray w fun e w' => e = .returned (N 6) ∧ Ext w w' := by
  refine enter (n := 43) Try.func22 rfl rfl rfl h0 ?_
  repeat (first | refine JL.q (by (apply OQ.assign; exact rfl)) rfl ?_ | refine JC.seq ?_ | refine JC.region ?_ | refine JL.nil ?_ | refine JE.next ?_)
  refine JC.quiet mixT (by kernel_rfl) ?_
  cases c1 : decide ((h.size : Int) < (nb s.l.length : Nat))
  case true =>
    repeat (first | refine JQ.q (by first | (apply OQ.len (k := s.l.length) (ad := s.ad) (cap := s.cap); exact Try.underlying31; exact rfl) | (apply OQ.callx (vs := [N s.l.length]); exact goes_bfor; exact rfl; exact (fun w' _ => bfor_any s.l.length hl w')) | (apply OQ.load; exact intC; exact rfl; exact .here; exact (Row.cell (v := N h.size) rfl)) | (apply OQ.gtrB; exact rfl; exact rfl; exact c1) | (apply OQ.move; exact rfl) | (apply OQ.nilc; exact rfl) | (apply OQ.fld; exact rfl; exact rfl; exact rfl; exact (by decide); exact rfl)) rfl ?_ | refine JQ.nil ?_ | refine JE.next ?_)
    refine JC.cond_true rfl rfl ?_
    repeat (first | refine JL.q (by (apply OQ.assign; exact rfl)) rfl ?_ | refine JC.seq ?_ | refine JC.region ?_ | refine JL.nil ?_ | refine JE.next ?_)
    refine JC.ret ?_
    repeat (refine JE.then_ret ?_)
    exact JE.ret1 rfl (RV.tmp rfl) fun w' hw => ⟨rfl, hw.chg⟩
  case false =>
    have hg : gm bl = 4294967295#32 := by
      rcases hno with h | h
      · exact absurd (by exact_mod_cast h) (of_decide_eq_false c1)
      · exact h
    have eG : newG bl = .tuple #[U32 0, N 6] := by unfold newG; rw [if_pos hg]
    have cN := fun {u w' : World} {S : List Nat} {M : List Ent} (hw' : Holds u S (jnR j h bl pd ++ M) w') => newGen_any h.x bl pd ok hn w' (dkR_jr hw')
    rw [eG] at cN
    repeat (first | refine JQ.q (by first | (apply OQ.len (k := s.l.length) (ad := s.ad) (cap := s.cap); exact Try.underlying31; exact rfl) | (apply OQ.callx (vs := [N s.l.length]); exact goes_bfor; exact rfl; exact (fun w' _ => bfor_any s.l.length hl w')) | (apply OQ.load; exact intC; exact rfl; exact .here; exact (Row.cell (v := N h.size) rfl)) | (apply OQ.gtrB; exact rfl; exact rfl; exact c1) | (apply OQ.move; exact rfl) | (apply OQ.nilc; exact rfl) | (apply OQ.fld; exact rfl; exact rfl; exact rfl; exact (by decide); exact rfl)) rfl ?_ | refine JQ.nil ?_ | refine JE.next ?_)
    refine JC.cond_false rfl rfl ?_
    repeat (first | refine JL.q (by first | (apply OQ.load; exact jbC; exact rfl; exact .here; exact (Row.cell (v := ifD h.x) rfl)) | (apply OQ.callx (vs := [ifD h.x]); exact goes_newGen; exact rfl; exact (fun w' hw' => cN (M := []) (by rw [List.append_nil]; exact hw'))) | (apply OQ.extract; exact rfl; exact rfl) | (apply OQ.neB (a := 6) (b := 0) (c := false); exact rfl; exact rfl; exact rfl) | (apply OQ.move; exact rfl) | (apply OQ.assign; exact rfl) | (apply OQ.nilc; exact rfl) | (apply OQ.fld; exact rfl; exact rfl; exact rfl; exact (by decide); exact rfl)) rfl ?_ | refine JC.seq ?_ | refine JC.region ?_ | refine JC.skip ?_ | refine JL.nil ?_ | refine JE.next ?_)
    refine JC.cond_true rfl rfl ?_
    repeat (first | refine JL.q (by first | (apply OQ.move; exact rfl) | (apply OQ.assign; exact rfl)) rfl ?_ | refine JC.seq ?_ | refine JC.region ?_ | refine JL.nil ?_ | refine JE.next ?_)
    refine JC.ret ?_
    repeat (refine JE.then_ret ?_)
    exact JE.ret1 rfl (RV.tmp rfl) fun w' hw => ⟨rfl, hw.chg⟩
set_option maxHeartbeats 32000000 in
theorem rst_yes (j : Nat) (h : Hf) (bl : List Bk) (pd : List (Nat × Bk)) (s : Sl8) (hd : DkOk h.x bl pd) (hs : h.size + h.size ≤ bl.length) (hf : h.first ≤ h.size) (hp : pd.length ≤ 900000) (hyes : ¬ noRst h bl s.l.length) (w : World) (hok : s.ok w) (hap : Away s (keys (jnE j h bl pd))) (h0 : Holds w (keys (jnE j h bl pd)) (jnE j h bl pd) w) :
    Calls Try.prog 22 [Pt j 0, s.v].toArray w fun e w' => e = .returned (N 0) ∧ Holds w (keys (jnE j h bl pd)) (jnE j (rstJ h bl s.l) (rstD h bl s.l) []) w' := by
  have hn1 := hd.n1
  have hfit : nb s.l.length ≤ h.size := Nat.le_of_not_lt fun e => hyes (.inl e)
  have hg : ¬ gm bl = 4294967295#32 := fun e => hyes (.inr e)
  have hl : s.l.length < 4611686018427387904 := by have := nb_le s.l.length; omega
  have eG : newG bl = .tuple #[U32 (gm bl + 1#32), N 0] := by unfold newG; rw [if_neg hg]
  have cN := fun {u w' : World} {S : List Nat} {M : List Ent} (hw' : Holds u S (jnE j h bl pd ++ M) w') => newGen_any h.x bl pd hd.ok hn1 w' (dkR_jn hw')
  rw [eG] at cN
  have cO := fun w' => other_any h hf (by omega) w'
  have c1 : decide ((h.size : Int) < (nb s.l.length : Nat)) = false := decide_eq_false (by omega)
  generalize hS : keys (jnE j h bl pd) = S at hap h0 ⊢
  refine enter (n := 43) Try.func22 rfl rfl rfl h0 ?_
  repeat (first | refine JL.q (by (apply OQ.assign; exact rfl)) rfl ?_ | refine JC.seq ?_ | refine JC.region ?_ | refine JL.nil ?_ | refine JE.next ?_)
  refine JC.quiet mixT (by kernel_rfl) ?_
  repeat (first | refine JQ.q (by first | (apply OQ.len (k := s.l.length) (ad := s.ad) (cap := s.cap); exact Try.underlying31; exact rfl) | (apply OQ.callx (vs := [N s.l.length]); exact goes_bfor; exact rfl; exact (fun w' _ => bfor_any s.l.length hl w')) | (apply OQ.load; exact intC; exact rfl; exact .here; exact (Row.cell (v := N h.size) rfl)) | (apply OQ.gtrB; exact rfl; exact rfl; exact c1) | (apply OQ.move; exact rfl) | (apply OQ.nilc; exact rfl) | (apply OQ.fld; exact rfl; exact rfl; exact rfl; exact (by decide); exact rfl)) rfl ?_ | refine JQ.nil ?_ | refine JE.next ?_)
  refine JC.cond_false rfl rfl ?_
  repeat (first | refine JL.q (by first | (apply OQ.load; exact jbC; exact rfl; exact .here; exact (Row.cell (v := ifD h.x) rfl)) | (apply OQ.callx (vs := [ifD h.x]); exact goes_newGen; exact rfl; exact (fun w' hw' => cN (M := []) (by rw [List.append_nil]; exact hw'))) | (apply OQ.extract; exact rfl; exact rfl) | (apply OQ.neB (a := 0) (b := 0) (c := true); exact rfl; exact rfl; exact rfl) | (apply OQ.move; exact rfl) | (apply OQ.assign; exact rfl) | (apply OQ.nilc; exact rfl) | (apply OQ.fld; exact rfl; exact rfl; exact rfl; exact (by decide); exact rfl)) rfl ?_ | refine JC.seq ?_ | refine JC.region ?_ | refine JC.skip ?_ | refine JL.nil ?_ | refine JE.next ?_)
  refine JC.cond_false rfl rfl ?_
  repeat (first | refine JL.q (by first | (apply OQ.load_agg (cs := hfc h); exact hfAg; exact hf6; exact rfl; exact .here; exact rfl; exact Row.all) | (apply OQ.callx (vs := [.agg (hfc h).toArray]); exact goes_other; exact rfl; exact (fun w' _ => cO w')) | (apply OQ.move; exact rfl) | (apply OQ.nilc; exact rfl) | (apply OQ.fld; exact rfl; exact rfl; exact rfl; exact (by decide); exact rfl)) rfl ?_ | refine JC.seq ?_ | refine JC.region ?_ | refine JC.skip ?_ | refine JE.next ?_)
  refine JL.store_all (cs := hfc (rstH h)) hf6 rfl rfl rfl rfl .here rfl ?_
  repeat (first | refine JL.q (by first | (apply OQ.move; exact rfl) | (apply OQ.nilc; exact rfl) | (apply OQ.fld; exact rfl; exact rfl; exact rfl; exact (by decide); exact rfl)) rfl ?_ | refine JC.seq ?_ | refine JC.region ?_ | refine JL.nil ?_ | refine JE.next ?_)
  refine JL.lit1 (v := s.v) Try.underlying34 slEj rfl rfl rfl rfl fun bl2 _ => ?_
  refine JL.perm (M' := jnE j (rstH h) bl pd ++ [⟨bl2, Row 31 [s.v], true⟩]) ?_ (by exact List.perm_append_comm (l₁ := [_]))
  have cB := fun w' (hw' : Holds w S (jnE j (rstH h) bl pd ++ [⟨bl2, Row 31 [s.v], true⟩]) w') hx' => begin_any j (rstH h) bl pd (gm bl + 1#32) ⟨some ⟨bl2, 0, none⟩, 1, [s]⟩ hd (by show h.size - h.first + h.size ≤ bl.length; omega) (by show 0 < 1; decide) (by show nb s.l.length + 0 ≤ h.size; omega) (by show pd.length + (h.size + h.size) ≤ _; omega) w' ⟨Nat.le_refl _, (by
      obtain ⟨o, ho, hA⟩ := hw'.get (b := bl2) (A := Row 31 [s.v]) (wr := true) (hasR (N := jnE j (rstH h) bl pd) .here)
      exact Reads.block ho (Row.all _ hA)), fun y hy => by rw [List.mem_singleton.1 hy]; exact hok.away hw' hap⟩ ⟨fun _ a ha => by cases ha; exact away_has (b := bl2) hw' .here, fun y hy => by rw [List.mem_singleton.1 hy]; exact away_mid hw' (jnE_wr _ _ _ _) hok hap⟩ hx'
  skip
  refine JL.callV (ι := Unit) (vs := [Pt j 0, U32 (gm bl + 1#32), .slice (some ⟨bl2, 0, none⟩) 1 1]) (fun _ => .tuple #[]) (fun _ => jnE j (rstJ h bl s.l) (rstD h bl s.l) []) goes_begin rfl rfl (jnE_wr _ _ _ _) (fun _ => jnE_wr _ _ _ _) (fun w' hw' hx' => (cB w' hw' hx').mono fun e w2 ⟨h1, h2⟩ => ⟨(), h1, h2⟩) fun _ => ?_
  repeat (first | refine JL.q (by (apply OQ.assign; exact rfl)) rfl ?_ | refine JC.seq ?_ | refine JC.region ?_ | refine JL.nil ?_ | refine JE.next ?_)
  refine JC.ret ?_
  skip
  exact JE.ret1 rfl (RV.tmp rfl) fun w' hw => ⟨rfl, hw.weak (less_pre _ _)⟩
end Go.Proofs.Ytkadoibacliepaa

/-
  Of no statement by itself: what holds of a journal and its disk between the calls, by definition.
  Conditions: each theorem's own.
-/
namespace Go.Proofs.Ytkadoibacliepaa
open Sl Dsk Jrn
theorem mx_toNat (a b : BitVec 32) : (mx a b).toNat = max a.toNat b.toNat := by
  unfold mx
  split <;> omega
/-- both ends of a block tell generations below a number -/
def Below (m : Nat) (b : Bk) : Prop := (markIn b).1.toNat < m ∧ (markIn (b.drop 54)).1.toNat < m
theorem gm_fold (m : Nat) : ∀ (bl : List Bk) (a : BitVec 32), a.toNat < m → (∀ b ∈ bl, Below m b) → (bl.foldl (fun m b => mx (mx m (markIn b).1) (markIn (b.drop 54)).1) a).toNat < m
  | [], a, h, _ => h
  | b :: bl, a, h, hb => by
    have h1 := hb b (by simp)
    refine gm_fold m bl _ ?_ fun x hx => hb x (by simp [hx])
    rw [mx_toNat, mx_toNat]
    have := h1.1
    have := h1.2
    omega
theorem gm_lt {m : Nat} {bl : List Bk} (h0 : 0 < m) (h : ∀ b ∈ bl, Below m b) : (gm bl).toNat < m := gm_fold m bl 0 h0 h
theorem gm_up : ∀ (bl : List Bk) (a : BitVec 32), a.toNat ≤ (bl.foldl (fun m b => mx (mx m (markIn b).1) (markIn (b.drop 54)).1) a).toNat ∧ ∀ b ∈ bl, Below ((bl.foldl (fun m b => mx (mx m (markIn b).1) (markIn (b.drop 54)).1) a).toNat + 1) b
  | [], a => ⟨Nat.le_refl _, nofun⟩
  | b :: bl, a => by
    have ⟨h1, h2⟩ := gm_up bl (mx (mx a (markIn b).1) (markIn (b.drop 54)).1)
    have hm := mx_toNat (mx a (markIn b).1) (markIn (b.drop 54)).1
    rw [mx_toNat a] at hm
    refine ⟨?_, fun x hx => ?_⟩
    · simp only [List.foldl_cons]
      omega
    · simp only [List.foldl_cons]
      rcases List.mem_cons.1 hx with rfl | hx
      · exact ⟨by omega, by omega⟩
      · exact h2 x hx
theorem gm_below {bl : List Bk} : ∀ b ∈ bl, Below ((gm bl).toNat + 1) b := (gm_up bl 0).2
theorem mk1_ok {g : BitVec 32} {r n i : Nat} (h : i < n) (hn : n ≤ 32768) : okM (mk1 g r n i) := by
  show (BitVec.ofNat 16 i).toNat < 32768
  rw [BitVec.toNat_ofNat]
  omega
theorem blk_mark {g : BitVec 32} {r : Nat} {rec : Bk} {i : Nat} (h : i < nb rec.length) (hn : nb rec.length ≤ 32768) : (markIn (blk g r rec i)).1 = g ∧ (markIn ((blk g r rec i).drop 54)).1 = g ∧ (blk g r rec i).length = 64 := by
  have hc : (chunk rec i).length ≤ 42 := by rw [Jrn.chunk_len]; omega
  have hk := mk1_ok (g := g) (r := r) h hn
  refine ⟨?_, ?_, block_len hc⟩
  · rw [show blk g r rec i = blockOf (mk1 g r (nb rec.length) i) (chunk rec i) from rfl, block_mark hk]; rfl
  · rw [show blk g r rec i = blockOf (mk1 g r (nb rec.length) i) (chunk rec i) from rfl, block_back hk hc]; rfl
theorem blks_mark {g : BitVec 32} {r : Nat} {rec : Bk} (hn : nb rec.length ≤ 32768) : ∀ b ∈ blks g r rec, (markIn b).1 = g ∧ (markIn (b.drop 54)).1 = g ∧ b.length = 64 := by
  intro b hb
  unfold blks at hb
  obtain ⟨i, hi, rfl⟩ := List.mem_map.1 hb
  exact blk_mark (List.mem_range.1 hi) hn
theorem allB_mark {g : BitVec 32} : ∀ (recs : List Bk) (n : Nat), room recs ≤ 32768 → ∀ b ∈ allB g n recs, (markIn b).1 = g ∧ (markIn (b.drop 54)).1 = g ∧ b.length = 64
  | [], _, _, b, hb => by simp [allB] at hb
  | r :: rs, n, h, b, hb => by
    rw [room_cons] at h
    rw [allB] at hb
    rcases List.mem_append.1 hb with hb | hb
    · exact blks_mark (by omega) b hb
    · exact allB_mark rs (n + 1) (by omega) b hb
theorem old_get {bl : List Bk} {i : Nat} (h : i < bl.length) : old bl i = bl[i] := by simp [old, List.getD_eq_getElem?_getD, h]
theorem old_putAt {bl : List Bk} {k : Nat} {l : List Bk} {i : Nat} (hk : k + l.length ≤ bl.length) (hi : i < bl.length) (ho : ¬ (k ≤ i ∧ i < k + l.length)) : old (putAt bl k l) i = old bl i := by
  have hl := putAt_len hk
  have h1 : (bl.take k ++ l).length = k + l.length := by rw [List.length_append, List.length_take]; omega
  rw [old_get (by omega), old_get hi]
  simp only [putAt]
  by_cases h : i < k
  · rw [List.getElem_append_left (by rw [h1]; omega), List.getElem_append_left (by rw [List.length_take]; omega), List.getElem_take]
  · rw [List.getElem_append_right (by rw [h1]; omega), List.getElem_drop]
    congr 1
    omega
theorem putAt_at {bl : List Bk} {k : Nat} {l : List Bk} (hk : k + l.length ≤ bl.length) : ((putAt bl k l).drop k).take l.length = l := by
  have h1 : (bl.take k).length = k := by rw [List.length_take]; omega
  unfold putAt
  rw [List.append_assoc, List.drop_left' h1, List.take_left' rfl]
theorem putAt_mem {bl : List Bk} {k : Nat} {l : List Bk} {P : Bk → Prop} (h : ∀ b ∈ bl, P b) (hl : ∀ b ∈ l, P b) : ∀ b ∈ putAt bl k l, P b := by
  intro b hb
  unfold putAt at hb
  rcases List.mem_append.1 hb with hb | hb
  · rcases List.mem_append.1 hb with hb | hb
    · exact h b (List.mem_of_mem_take hb)
    · exact hl b hb
  · exact h b (List.mem_of_mem_drop hb)
theorem DkOk.put {x : Dp} {bl : List Bk} {pd : List (Nat × Bk)} (h : DkOk x bl pd) {k : Nat} {l : List Bk} (hk : k + l.length ≤ bl.length) (hl : ∀ b ∈ l, b.length = 64) : DkOk (sync0 x) (putAt bl k l) [] where
  ok := ⟨putAt_mem h.ok.b hl, by simp⟩
  n0 := by rw [putAt_len hk]; exact h.n0
  n1 := by rw [putAt_len hk]; exact h.n1
  m := by simp
  a := fun _ => rfl
/-- what holds of a journal between calls -/
structure Jv (h : Hf) (bl : List Bk) (recs : List Bk) : Prop where
  n4 : 4 ≤ bl.length
  n5 : bl.length ≤ 65536
  n : h.size = bl.length / 2
  f : h.first = 0 ∨ h.first = h.size
  c : h.count = recs.length
  u : h.used = room recs
  r : room recs ≤ h.size
  ne : recs ≠ []
  at' : (bl.drop h.first).take (room recs) = allB h.g 0 recs
  o : ∀ i, i < bl.length → ¬ (h.first ≤ i ∧ i < h.first + room recs) → Below h.g.toNat (old bl i)
theorem room_pos {recs : List Bk} (h : recs ≠ []) : 0 < room recs := by
  cases recs with
  | nil => exact absurd rfl h
  | cons r rs => rw [room_cons]; have := nb_pos r.length; omega
namespace Jv
variable {h : Hf} {bl recs : List Bk}
theorem fs (v : Jv h bl recs) : h.first + h.size ≤ bl.length ∧ h.first ≤ h.size ∧ h.size + h.size ≤ bl.length ∧ h.size ≤ 32768 := by
  have := v.n; have := v.n5
  rcases v.f with e | e <;> omega
theorem inn (v : Jv h bl recs) {k : Nat} (hk : k < room recs) : old bl (h.first + k) ∈ allB h.g 0 recs := by
  have h1 := v.fs; have h2 := v.r
  rw [← v.at', old_get (by omega)]
  have : ((bl.drop h.first).take (room recs))[k]'(by rw [List.length_take, List.length_drop]; omega) = bl[h.first + k]'(by omega) := by simp
  rw [← this]
  exact List.getElem_mem _
theorem all (v : Jv h bl recs) : ∀ b ∈ bl, Below (h.g.toNat + 1) b := by
  intro b hb
  have h1 := v.fs; have h2 := v.r
  obtain ⟨i, hi, rfl⟩ := List.mem_iff_getElem.1 hb
  rw [← old_get hi]
  by_cases ho : h.first ≤ i ∧ i < h.first + room recs
  · have := allB_mark recs 0 (by omega) _ (v.inn (k := i - h.first) (by omega))
    rw [show h.first + (i - h.first) = i by omega] at this
    exact ⟨by rw [this.1]; omega, by rw [this.2.1]; omega⟩
  · have := v.o i hi ho
    exact ⟨Nat.lt_succ_of_lt this.1, Nat.lt_succ_of_lt this.2⟩
theorem gm_le (v : Jv h bl recs) : (gm bl).toNat ≤ h.g.toNat := Nat.le_of_lt_succ (gm_lt (Nat.succ_pos _) v.all)
theorem g0 (v : Jv h bl recs) : 0 < h.g.toNat := by
  have h1 := v.fs; have h2 := v.r; have h3 := v.n4; have h4 := v.n
  have := v.o (h.size - h.first) (by omega) (by rcases v.f with e | e <;> omega)
  have := this.1
  omega
theorem told (v : Jv h bl recs) : toldH bl h.first h.size h.g = recs := by
  have h1 := v.fs; have h2 := v.r
  have e : bsOf bl h.first h.size 0 = allB h.g 0 recs ++ ((bl.drop h.first).take h.size).drop (room recs) := by
    rw [← v.at']
    conv => lhs; rw [bsOf, List.drop_zero, ← List.take_append_drop (room recs) ((bl.drop h.first).take h.size), List.take_take, Nat.min_eq_left h2]
  unfold toldH
  rw [e]
  refine told_all (fun b hb => ?_) (by omega)
  obtain ⟨k, hk, rfl⟩ := List.mem_iff_getElem.1 hb
  have hk' := hk
  rw [List.length_drop, List.length_take, List.length_drop] at hk'
  have : (((bl.drop h.first).take h.size).drop (room recs))[k] = old bl (h.first + (room recs + k)) := by
    rw [old_get (by omega)]
    simp
  rw [this]
  intro hg
  have := (v.o (h.first + (room recs + k)) (by omega) (by omega)).1
  rw [hg] at this
  omega
theorem recH (v : Jv h bl recs) : recH bl h.first = recs ∧ genH bl h.first = h.g := by
  have h0 := v.inn (k := 0) (room_pos v.ne)
  have h1 := v.fs; have h2 := v.r
  rw [Nat.add_zero] at h0
  have hm := (allB_mark recs 0 (by omega) _ h0).1
  have e : Go.Proofs.Ytkadoibacliepaa.recH bl h.first = recs := by
    unfold Go.Proofs.Ytkadoibacliepaa.recH
    rw [hm, ← v.n]
    exact v.told
  refine ⟨e, ?_⟩
  unfold genH
  rw [e, hm, if_neg]
  intro h
  exact v.ne (List.length_eq_zero_iff.1 h)
theorem other (v : Jv h bl recs) : (genH bl (h.size - h.first)).toNat < h.g.toNat := by
  have h1 := v.fs; have h2 := v.r; have h3 := v.n4; have h4 := v.n
  have := (v.o (h.size - h.first) (by omega) (by rcases v.f with e | e <;> omega)).1
  have h5 := v.g0
  unfold genH
  split
  · exact h5
  · exact this
theorem cur (v : Jv h bl recs) : curF bl = (h.first, h.g, recs) := by
  have h5 := v.g0
  have ⟨e1, e2⟩ := v.recH
  have e3 := v.other
  have hn := v.n
  unfold curF
  rcases v.f with e | e
  · rw [e] at e1 e2 e3
    rw [e, ← hn]
    rw [Nat.sub_zero] at e3
    rw [e1, e2, if_pos ⟨by omega, by omega⟩]
  · rw [e] at e1 e2 e3
    rw [Nat.sub_self] at e3
    rw [e, ← hn, e1, e2, if_neg (fun hh => by have := hh.2; omega), if_pos (by omega)]
end Jv
/-- a journal that begins with a generation behind all others -/
theorem Jv.beg {x : Dp} {bl recs : List Bk} {first size : Nat} (n4 : 4 ≤ bl.length) (n5 : bl.length ≤ 65536) (n : size = bl.length / 2) (f : first = 0 ∨ first = size) (r : room recs ≤ size) (ne : recs ≠ []) (hg : gm bl ≠ 4294967295#32) :
    Jv ⟨x, first, size, gm bl + 1#32, recs.length, room recs⟩ (putAt bl first (allB (gm bl + 1#32) 0 recs)) recs := by
  have hs : first + size ≤ bl.length := by rcases f with e | e <;> omega
  have hk : first + (allB (gm bl + 1#32) 0 recs).length ≤ bl.length := by rw [allB_len]; omega
  have hl := putAt_len hk
  have hgl : (gm bl).toNat ≠ 4294967295 := fun e => hg (BitVec.eq_of_toNat_eq e)
  have hg1 : (gm bl + 1#32).toNat = (gm bl).toNat + 1 := by
    rw [BitVec.toNat_add, show (1#32).toNat = 1 from rfl]
    have := (gm bl).isLt
    omega
  refine ⟨by rw [hl]; exact n4, by rw [hl]; exact n5, by rw [hl]; exact n, f, rfl, rfl, r, ne, ?_, fun i hi ho => ?_⟩
  · have := putAt_at hk
    rw [allB_len] at this
    exact this
  · dsimp only at ho ⊢
    rw [hl] at hi
    rw [old_putAt hk hi (by rw [allB_len]; exact ho), hg1]
    exact gm_below _ (old_mem hi)
theorem Jv.app {h : Hf} {bl recs : List Bk} (v : Jv h bl recs) {l : Bk} (hf : nb l.length ≤ h.size - h.used) : Jv (appJ h l) (appD h bl l) (recs ++ [l]) := by
  have h1 := v.fs; have h2 := v.r; have h3 := v.u; have h4 := v.c; have hn := v.n
  have hr : room (recs ++ [l]) = room recs + nb l.length := by rw [room_append]; simp [room]
  have hk : h.first + h.used + (blks h.g h.count l).length ≤ bl.length := by rw [blks_len]; omega
  have hl := putAt_len hk
  refine ⟨by unfold appD; rw [hl]; exact v.n4, by unfold appD; rw [hl]; exact v.n5, by unfold appD; rw [hl]; exact hn, v.f, by show h.count + 1 = _; rw [h4, List.length_append]; rfl, by show h.used + nb l.length = _; rw [hr, h3], by rw [hr]; show _ ≤ h.size; omega, by simp, ?_, fun i hi ho => ?_⟩
  · show ((appD h bl l).drop h.first).take _ = allB h.g 0 _
    have e1 : bl.take (h.first + h.used) = bl.take h.first ++ allB h.g 0 recs := by rw [← v.at', h3, List.take_add]
    have e2 : (bl.take h.first).length = h.first := by rw [List.length_take]; omega
    unfold appD putAt
    rw [e1, List.append_assoc, List.append_assoc, List.drop_left' e2, ← List.append_assoc, allB_append, Nat.zero_add, ← h4, List.take_left' (by rw [List.length_append, allB_len, blks_len, hr])]
    congr 1
    rw [allB, allB, List.append_nil]
  · unfold appD at hi ⊢
    rw [hl] at hi
    rw [hr] at ho
    have ho' : ¬ (h.first ≤ i ∧ i < h.first + (room recs + nb l.length)) := ho
    rw [old_putAt hk hi (by rw [blks_len]; omega)]
    exact v.o i hi (by omega)
end Go.Proofs.Ytkadoibacliepaa

/-
  Of no statement by itself: what the reference's Same gives.
  Conditions: each theorem's own.
-/
namespace Go.Proofs.Ytkadoibacliepaa
set_option maxRecDepth 10000
open Sl

section
variable {P : Program} {n : Nat} {E : Env} {C : World → Prop} {dst : Option Tmp} {t t' ty : TypeId} {pos : String} {aft : Array Edge} {g : Option (Nat × Bool)} {x y : Operand}
end
theorem goes_same : Goes Try.prog 36 := ⟨_, Try.func36, rfl, by kernel_rfl⟩

set_option maxHeartbeats 8000000 in
theorem same_any (a b : Sl8) (w : World) (ha : a.ok w) (hb : b.ok w) (hal : a.l.length < 4611686018427387904) : Calls Try.prog 36 [a.v, b.v].toArray w fun e w' => e = .returned (.bool (decide (a.l = b.l))) ∧ Ext w w' := by
  refine enter (n := 26) Try.func36 rfl rfl rfl (Holds.start w []) ?_
  repeat (first | refine JL.q (by first | (apply OQ.move; exact rfl) | (apply OQ.assign; exact rfl) | (apply OQ.len; exact rfl; exact rfl) | (apply OQ.neN; exact rfl; exact rfl)) rfl ?_ | refine JC.seq ?_ | refine JC.region ?_ | refine JL.nil ?_ | refine JE.next ?_)
  refine JC.cond rfl (fun h => ?_) (fun h => ?_)
  · have h : ¬ a.l.length = b.l.length := by simpa using h
    repeat (first | refine JL.q (by (apply OQ.assign; exact rfl)) rfl ?_ | refine JC.seq ?_ | refine JC.region ?_ | refine JL.nil ?_ | refine JE.next ?_)
    refine JC.ret ?_
    repeat (refine JE.then_ret ?_)
    refine JE.ret1 rfl (RV.tmp rfl) fun w' hw => ⟨?_, hw.chg⟩
    rw [decide_eq_false (fun e => h (by rw [e]))]
  · have h : a.l.length = b.l.length := by simpa using h
    repeat (first | refine JL.q (by (apply OQ.assign; exact rfl)) rfl ?_ | refine JC.seq ?_ | refine JC.region ?_ | refine JC.block ?_ | refine JC.skip ?_ | refine JL.nil ?_ | refine JE.next ?_)
    refine JC.loop (fun i : Nat => [(0, a.v), (1, b.v), (5, N i)]) (fun _ => []) (fun i => a.l.length - i) (fun i => i ≤ a.l.length ∧ a.l.take i = b.l.take i) 0 ⟨by omega, by simp⟩ (by repeat (first | exact SubE.nil | refine SubE.cons _ _ _ rfl ?_)) (Less.refl _) ?_
    rintro i ⟨hi, hI⟩
    repeat (first | refine JL.q (by first | (apply OQ.move; exact rfl) | (apply OQ.len; exact rfl; exact rfl) | (apply OQ.lssN; exact rfl; exact rfl)) rfl ?_ | refine JC.seq ?_ | refine JC.region ?_ | refine JL.nil ?_ | refine JE.next ?_)
    refine JC.cond rfl (fun h2 => ?_) (fun h2 => ?_)
    · have hi' : i < a.l.length := of_decide_eq_true h2
      clear h2
      obtain ⟨ba, ja, hae, hca⟩ := ha.reads.at (by simp; omega)
      obtain ⟨bb, jb, hbe, hcb⟩ := hb.reads.at (by simp; omega)
      have hca := hca i _ (map_at U8 0 hi')
      have hcb := hcb i _ (map_at U8 0 (show i < b.l.length by omega))
      have hav : a.v = .slice (some ⟨ba, ja, none⟩) a.l.length a.cap := by rw [← hae]; rfl
      have hbv : b.v = .slice (some ⟨bb, jb, none⟩) b.l.length b.cap := by rw [← hbe]; rfl
      rw [hav, hbv]
      repeat (first | refine JC.seq ?_ | refine JC.block ?_ | refine JC.skip ?_ | refine JE.next ?_)
      refine JC.quiet mixT (by kernel_rfl) ?_
      repeat (first | refine JQ.q (by first | (apply OQ.idxS1; exact Try.underlying31; exact u8s; exact rfl; exact rfl; exact hi') | (apply OQ.idxS1; exact Try.underlying31; exact u8s; exact rfl; exact rfl; exact (show i < b.l.length by omega)) | (apply OQ.load_old; exact u8c; exact rfl; exact (block_lt_of_cell hca); exact (by simp); exact hca) | (apply OQ.load_old; exact u8c; exact rfl; exact (block_lt_of_cell hcb); exact (by simp); exact hcb) | (apply OQ.ne8; exact rfl; exact rfl) | (apply OQ.move; exact rfl)) rfl ?_ | refine JQ.nil ?_ | refine JE.next ?_)
      refine JC.cond rfl (fun h3 => ?_) (fun h3 => ?_)
      · have h3 : ¬ a.l.getD i 0 = b.l.getD i 0 := by simpa using h3
        repeat (first | refine JL.q (by (apply OQ.assign; exact rfl)) rfl ?_ | refine JC.seq ?_ | refine JC.region ?_ | refine JL.nil ?_ | refine JE.next ?_)
        refine JC.ret ?_
        repeat (first | refine JE.then_ret ?_ | refine JE.blk_ret ?_)
        refine JE.ret1 rfl (RV.tmp rfl) fun w' hw => ⟨?_, hw.chg⟩
        rw [decide_eq_false (fun e => h3 (by rw [e]))]
      · have h3 : a.l.getD i 0 = b.l.getD i 0 := by simpa using h3
        rw [← hav, ← hbv]
        repeat (first | refine JL.q (by first | (apply OQ.move; exact rfl) | (apply OQ.assign; exact rfl) | (apply OQ.addN; exact rfl; exact rfl; exact (by (try simp only []); omega))) rfl ?_ | refine JC.region ?_ | refine JC.skip ?_ | refine JL.nil ?_ | refine JE.next ?_ | refine JE.blk_normal ?_)
        refine JE.again (i := i) (i + 1) ⟨by omega, ?_⟩ (by omega) (by repeat (first | exact SubE.nil | refine SubE.cons _ _ _ rfl ?_)) (Less.refl _)
        have e1 : a.l[i]'hi' = b.l[i]'(by omega) := by
          simpa [List.getD, hi', show i < b.l.length by omega] using h3
        rw [List.take_succ_eq_append_getElem hi', List.take_succ_eq_append_getElem (show i < b.l.length by omega), hI, e1]
    · have hi' : ¬ i < a.l.length := of_decide_eq_false h2
      obtain rfl : i = a.l.length := by omega
      rw [List.take_length, h, List.take_length] at hI
      repeat (first | refine JL.q (by (apply OQ.assign; exact rfl)) rfl ?_ | refine JC.seq ?_ | refine JC.region ?_ | refine JC.exit ?_ | refine JL.nil ?_ | refine JE.next ?_ | refine JE.then_exit ?_ | refine JE.blk_hit ?_)
      refine JC.ret ?_
      skip
      refine JE.ret1 rfl (RV.tmp rfl) fun w' hw => ⟨?_, hw.chg⟩
      rw [decide_eq_true hI]

end Go.Proofs.Ytkadoibacliepaa

/-
  Of no statement by itself: rules for calls of a journal; the law's speaks, SameList.
  Conditions: each theorem's own.
-/
namespace Go.Proofs.Ytkadoibacliepaa
set_option maxRecDepth 10000
open Sl Dsk Jrn
section
variable {n : Nat} {w0 : World} {S : List Nat} {ops : Array Oper} {Q : Exit → Act → World → Prop} {l : List Oper} {E : Env} {M : List Ent}
variable {d : Nat} {ty : TypeId} {pos : String} {aft : Array Edge} {x1 x2 x3 : Operand} {ats : Array TypeId} {x : Dp} {bl recs : List Bk} {pd : List (Nat × Bk)} {j : Nat} {h : Hf} {s : Sl8}
theorem JL.jopen (hd : DkOk x bl pd) (hp : pd.length ≤ 900000) (hno : noOpen bl = 0) (e1 : ev E x1 = some (Pt x.p 0)) (hn : Nat.blt d n = true)
    (kk : ∀ j, JL Try.prog n w0 S ops Q l ((d, .tuple #[Pt j 0, N 0]) :: E) (jnE j (opnJ x bl) (opnD bl) [] ++ M)) : JL Try.prog n w0 S ops Q (⟨some d, .call ⟨.value (.func 28), #[x1], ats⟩, ty, pos, aft, none⟩ :: l) E (dkE x bl pd ++ M) :=
  JL.callV (ι := Nat) (xs := [x1]) (vs := [Pt x.p 0]) (fun j => .tuple #[Pt j 0, N 0]) (fun j => jnE j (opnJ x bl) (opnD bl) []) goes_jOpen (by simp [evs, e1]) hn (dkE_wr _ _ _) (fun _ => jnE_wr _ _ _ _)
    (fun w _ hw => Open_yes x bl pd hd hp hno w hw) kk
theorem JL.japp (v : Jv h bl recs) (hd : DkOk h.x bl pd) (hp : pd.length ≤ 900000) (hyes : nb s.l.length ≤ h.size - h.used) (hs : ∀ w, Holds w0 S (jnE j h bl pd ++ M) w → s.ok w ∧ Away s (keys (jnE j h bl pd))) (e1 : ev E x1 = some (Pt j 0)) (e2 : ev E x2 = some s.v) (hn : Nat.blt d n = true)
    (kk : JL Try.prog n w0 S ops Q l ((d, N 0) :: E) (jnE j (appJ h s.l) (appD h bl s.l) [] ++ M)) : JL Try.prog n w0 S ops Q (⟨some d, .call ⟨.value (.func 19), #[x1, x2], ats⟩, ty, pos, aft, none⟩ :: l) E (jnE j h bl pd ++ M) :=
  have h1 := v.fs; have h2 := v.u; have h3 := v.r; have h4 := v.c; have h5 := room_ge recs
  JL.callV (ι := Unit) (xs := [x1, x2]) (vs := [Pt j 0, s.v]) (fun _ => N 0) (fun _ => jnE j (appJ h s.l) (appD h bl s.l) []) goes_app (by simp [evs, e1, e2]) hn (jnE_wr _ _ _ _) (fun _ => jnE_wr _ _ _ _)
    (fun w h0 hw => (app_yes j h bl pd s hd h1.1 (by omega) hp (by omega) hyes w (hs w h0).1 (hs w h0).2 hw).mono fun e w' ⟨g1, g2⟩ => ⟨(), g1, g2⟩) fun _ => kk
theorem JL.jrst (v : Jv h bl recs) (hd : DkOk h.x bl pd) (hp : pd.length ≤ 900000) (hyes : ¬ noRst h bl s.l.length) (hs : ∀ w, Holds w0 S (jnE j h bl pd ++ M) w → s.ok w ∧ Away s (keys (jnE j h bl pd))) (e1 : ev E x1 = some (Pt j 0)) (e2 : ev E x2 = some s.v) (hn : Nat.blt d n = true)
    (kk : JL Try.prog n w0 S ops Q l ((d, N 0) :: E) (jnE j (rstJ h bl s.l) (rstD h bl s.l) [] ++ M)) : JL Try.prog n w0 S ops Q (⟨some d, .call ⟨.value (.func 22), #[x1, x2], ats⟩, ty, pos, aft, none⟩ :: l) E (jnE j h bl pd ++ M) :=
  have h1 := v.fs
  JL.callV (ι := Unit) (xs := [x1, x2]) (vs := [Pt j 0, s.v]) (fun _ => N 0) (fun _ => jnE j (rstJ h bl s.l) (rstD h bl s.l) []) goes_rst (by simp [evs, e1, e2]) hn (jnE_wr _ _ _ _) (fun _ => jnE_wr _ _ _ _)
    (fun w h0 hw => (rst_yes j h bl pd s hd h1.2.2.1 h1.2.1 hp hyes w (hs w h0).1 (hs w h0).2 hw).mono fun e w' ⟨g1, g2⟩ => ⟨(), g1, g2⟩) fun _ => kk
theorem JL.jrecs (v : Jv h bl recs) (hd : DkOk h.x bl pd) (e1 : ev E x1 = some (Pt j 0)) (hn : Nat.blt d n = true)
    (kk : ∀ z : GrOf recs h.size, JL Try.prog n w0 S ops Q l ((d, z.1.v) :: E) (z.1.E ++ (jnE j h bl pd ++ M))) : JL Try.prog n w0 S ops Q (⟨some d, .call ⟨.value (.func 16), #[x1], ats⟩, ty, pos, aft, none⟩ :: l) E (jnE j h bl pd ++ M) :=
  JL.callg (xs := [x1]) (ι := GrOf recs h.size) (vs := [Pt j 0]) (fun z => z.1.v) (fun z => z.1.E) goes_recs (by simp [evs, e1]) hn (fun z => z.1.wr)
    (fun w hw => by have := recs_any j h bl pd hd.ok hd.n1 v.fs.1 w (jnR_of hw); rwa [v.told] at this) kk
end
/-- what a journal is that is opened -/
theorem Jv.opn {x : Dp} {bl : List Bk} (hb : ∀ b ∈ bl, b.length = 64) (n5 : bl.length ≤ 65536) (hno : noOpen bl = 0) : Jv (opnJ x bl) (opnD bl) (curF bl).2.2 := by
  have h4 : ¬ bl.length < 4 := fun h => by unfold noOpen at hno; rw [if_pos h] at hno; cases hno
  have hg : ¬ gm bl = 4294967295#32 := fun h => by unfold noOpen at hno; rw [if_neg h4, if_pos h] at hno; cases hno
  have ⟨h1, h2, h3⟩ := curF_room (bl := bl) hb (by omega)
  have hf : bl.length / 2 - (curF bl).1 = 0 ∨ bl.length / 2 - (curF bl).1 = bl.length / 2 := by
    unfold curF
    split
    · right; rfl
    · split
      · left; exact Nat.sub_self _
      · left; exact Nat.sub_self _
  exact Jv.beg (x := sync0 x) (by omega) n5 rfl hf h1 (fun e => by rw [e] at h2; cases h2) hg
theorem Jv.no (h : Hf) (bl recs : List Bk) (v : Jv h bl recs) (hg : h.g.toNat < 4294967295) : noOpen bl = 0 := by
  have := v.gm_le
  have h4 := v.n4
  unfold noOpen
  rw [if_neg (by omega), if_neg (fun e => by rw [e] at this; rw [show (4294967295#32).toNat = 4294967295 from rfl] at this; omega)]
theorem told_none {g : BitVec 32} {bs : List Bk} (h : ∀ b ∈ bs, wholeB b = false) : told g bs = [] := by
  unfold told toldN
  have : rd g 0 bs 0 [] = none := by
    cases bs with
    | nil => rfl
    | cons b bs => rw [rd, if_neg (fun hh => by rw [h b (by simp)] at hh; cases hh.1)]
  rw [this]
theorem zero_whole : wholeB zero = false := by kernel_rfl
theorem zero_below : Below 1 zero := ⟨by decide, by decide⟩
theorem newB_mem {n : Nat} : ∀ b ∈ newB n, b = zero := fun b hb => List.eq_of_mem_replicate hb
theorem newB_cur (n : Nat) : (curF (newB n)).2.2 = [[]] ∧ (gm (newB n)).toNat = 0 := by
  have h0 : ∀ f, genH (newB n) f = 0 := fun f => by
    unfold genH
    rw [if_pos]
    unfold recH toldH
    rw [told_none]
    · rfl
    · intro b hb
      unfold bsOf at hb
      rw [newB_mem b (List.mem_of_mem_drop (List.mem_of_mem_take (List.mem_of_mem_drop hb)))]
      exact zero_whole
  refine ⟨?_, ?_⟩
  · unfold curF
    rw [h0, h0, if_neg (by decide), if_neg (by decide)]
  · have := gm_lt (m := 1) (bl := newB n) (by decide) fun b hb => by rw [newB_mem b hb]; exact zero_below
    omega
theorem newB_no {n : Nat} (h : 4 ≤ n) : noOpen (newB n) = 0 := by
  have := (newB_cur n).2
  unfold noOpen
  rw [if_neg (by rw [newB_len]; omega), if_neg (fun e => by rw [e] at this; cases this)]
theorem DkOk.opn {x : Dp} {bl : List Bk} {pd : List (Nat × Bk)} (hd : DkOk x bl pd) (hno : noOpen bl = 0) : DkOk (opnJ x bl).x (opnD bl) [] := by
  have h4 : ¬ bl.length < 4 := fun h => by unfold noOpen at hno; rw [if_pos h] at hno; cases hno
  have ⟨h1, h2, h3⟩ := curF_room (bl := bl) hd.ok.b (by omega)
  have := hd.n1
  exact hd.put (by rw [allB_len]; omega) fun b hb => (allB_mark _ _ (by omega) b hb).2.2
theorem DkOk.app {h : Hf} {bl recs : List Bk} {pd : List (Nat × Bk)} (hd : DkOk h.x bl pd) (v : Jv h bl recs) {l : Bk} (hf : nb l.length ≤ h.size - h.used) : DkOk (appJ h l).x (appD h bl l) [] := by
  have h1 := v.fs; have h2 := v.r; have h3 := v.u
  exact hd.put (by rw [blks_len]; omega) fun b hb => (blks_mark (by omega) b hb).2.2
theorem DkOk.rst {h : Hf} {bl recs : List Bk} {pd : List (Nat × Bk)} (hd : DkOk h.x bl pd) (v : Jv h bl recs) {l : Bk} (hf : ¬ noRst h bl l.length) : DkOk (rstJ h bl l).x (rstD h bl l) [] := by
  have h1 := v.fs
  have hfit : nb l.length ≤ h.size := Nat.le_of_not_lt fun e => hf (.inl e)
  have hr : room [l] = nb l.length := by simp [room]
  exact hd.put (by rw [allB_len, hr]; omega) fun b hb => (allB_mark _ _ (by omega) b hb).2.2
theorem Jv.rst {h : Hf} {bl recs : List Bk} (v : Jv h bl recs) {l : Bk} (hf : ¬ noRst h bl l.length) : Jv (rstJ h bl l) (rstD h bl l) [l] := by
  have h1 := v.fs
  have hfit : nb l.length ≤ h.size := Nat.le_of_not_lt fun e => hf (.inl e)
  have hr : room [l] = nb l.length := by simp [room]
  exact Jv.beg (x := sync0 h.x) v.n4 v.n5 v.n (by show h.size - h.first = 0 ∨ h.size - h.first = h.size; rcases v.f with e | e <;> omega) (by rw [hr]; exact hfit) (by simp) (fun e => hf (.inr e))
theorem OQ.ptrNe {P : Program} {n : Nat} {E : Env} {C : World → Prop} {dst : Option Tmp} {t t' ty e : TypeId} {pos : String} {aft : Array Edge} {g : Option (Nat × Bool)} {x y : Operand} {a : Option Addr} (hu : P.underlying t = some (.pointer e)) (hx : ev E x = some (.pointer a)) (hy : ev E y = some (.pointer none)) :
    OQ P n E C ⟨dst, .binOp .neq t x y t', ty, pos, aft, g⟩ (.bool (!a.isNone)) :=
  OQ.run fun c ha w _ => by
    have h1 := ha.eval hx
    have h2 := ha.eval hy
    have h3 : ∀ w, (underlying t).run P w = .ok (.pointer e) w := run_underlying hu
    have h4 : (binOp .neq t (.pointer a) (.pointer none)).run P w = .ok (.bool (!a.isNone)) w := by
      show (do pure (.bool (!(← Op.equalIn (9999 + 1) t (.pointer a) (.pointer none)))) : Sem Value).run P w = _
      unfold Op.equalIn
      cases a <;> simp [Sem.run_bind, h3]
    simp [execOp, h1, h2, eqGuard, h4]
theorem goes_speaks15 : Goes Try.prog 12 := ⟨_, Try.func12, rfl, by kernel_rfl⟩
set_option maxHeartbeats 16000000 in
theorem speaks15_any (w : World) : Calls Try.prog 12 [].toArray w fun e w' => e = .returned (.bool true) ∧ Ext w w' := by
  refine enter (n := 46) Try.func12 rfl rfl rfl (Holds.start w []) ?_
  repeat (first | refine JL.q (by (apply OQ.assign; exact rfl)) rfl ?_ | refine JC.seq ?_ | refine JC.region ?_ | refine JL.nil ?_ | refine JE.next ?_)
  refine JL.dnew (k := 4) (by decide) (by decide) rfl rfl fun x hx => ?_
  repeat (first | refine JL.q (by first | (apply OQ.extract; exact rfl; exact rfl) | (apply OQ.neB (a := 0) (b := 0) (c := true); exact rfl; exact rfl; exact rfl) | (apply OQ.ptrNil; exact Try.underlying25; exact rfl; exact rfl) | (apply OQ.pick_f; exact rfl; exact rfl) | (apply OQ.move; exact rfl) | (apply OQ.assign; exact rfl)) rfl ?_ | refine JC.seq ?_ | refine JC.region ?_ | refine JL.nil ?_ | refine JE.next ?_ | refine JL.gon rfl rfl ?_)
  refine JC.cond_false rfl rfl ?_
  repeat (first | refine JL.q (by (apply OQ.move; exact rfl)) rfl ?_ | refine JC.seq ?_ | refine JC.region ?_ | refine JC.skip ?_ | refine JE.next ?_)
  have hno : noOpen (newB 4) = 0 := newB_no (by decide)
  have hcu := newB_cur 4
  have v := Jv.opn (x := x) hx.ok.b (by rw [newB_len]; decide) hno
  have hd := hx.opn hno
  have hsz : (opnJ x (newB 4)).size = 2 := rfl
  rw [hcu.1] at v
  have hu : (opnJ x (newB 4)).used = 1 := by rw [v.u]; rfl
  refine JL.jopen hx (by decide) hno rfl rfl fun j => ?_
  generalize opnJ x (newB 4) = h at v hd hsz hu ⊢
  generalize opnD (newB 4) = bl at v hd ⊢
  repeat (first | refine JL.q (by first | (apply OQ.extract; exact rfl; exact rfl) | (apply OQ.eqB (a := 0) (b := 0) (c := true); exact rfl; exact rfl; exact rfl) | (apply OQ.ptrNe; exact Try.underlying28; exact rfl; exact rfl) | (apply OQ.pick_t; exact rfl; exact rfl) | (apply OQ.move; exact rfl) | (apply OQ.assign; exact rfl)) rfl ?_ | refine JC.seq ?_ | refine JC.region ?_ | refine JL.nil ?_ | refine JE.next ?_ | refine JL.gon rfl rfl ?_)
  refine JL.jrecs v hd rfl rfl fun z => ?_
  obtain ⟨⟨q1, rs1, hq1, hr1⟩, hz1, hz1n⟩ := z
  have hl1 : rs1.length = 1 := by have := congrArg List.length hz1; rw [Gr.l, List.length_map] at this; exact this
  have hq0 : q1 = none → rs1.length = 0 := fun e => by rw [hq1 e]; rfl
  dsimp only [Gr.v]
  repeat (first | refine JL.q (by first | (apply OQ.lenV (q := q1) (k := rs1.length); exact Try.underlying34; exact hq0; exact rfl) | (apply OQ.eqB (a := (rs1.length : Int)) (b := 1) (c := true); exact rfl; exact rfl; exact (decide_eq_true (by omega))) | (apply OQ.pick_t; exact rfl; exact rfl) | (apply OQ.move; exact rfl)) rfl ?_ | refine JL.gon rfl rfl ?_)
  refine JL.perm (M' := jnE j h bl [] ++ ((Gr.mk q1 rs1 hq1 hr1).E ++ [])) ?_ (by exact List.perm_append_comm_assoc _ _ _)
  refine JL.jrecs v hd rfl rfl fun z => ?_
  obtain ⟨⟨q2, rs2, hq2, hr2⟩, hz2, hz2n⟩ := z
  obtain ⟨p, s0, rfl, rfl⟩ : ∃ p s0, q2 = some p ∧ rs2 = [s0] := by
    have hl2 : rs2.length = 1 := by have := congrArg List.length hz2; rw [Gr.l, List.length_map] at this; exact this
    cases q2 with
    | none => rw [hq2 rfl] at hl2; cases hl2
    | some p =>
      cases rs2 with
      | nil => cases hl2
      | cons a l =>
        cases l with
        | nil => exact ⟨p, a, rfl, rfl⟩
        | cons c l => simp at hl2
  have hs0 : s0.l = [] := by have := hz2; simpa [Gr.l] using this
  dsimp only [Gr.v, Gr.E]
  repeat (first | refine JL.q (by first | (apply OQ.idxS1 (i := 0) (b := p.1) (j := 0) (len := 1) (cap := p.2); exact Try.underlying34; exact sleJ; exact rfl; exact rfl; exact (by decide)) | (apply OQ.load; exact slCj; exact rfl; exact .here; exact (Sl.Own.cell (v := s0.v) rfl)) | (apply OQ.len (k := s0.l.length) (ad := s0.ad) (cap := s0.cap); exact Try.underlying31; exact rfl) | (apply OQ.eqB (a := (s0.l.length : Int)) (b := 0) (c := true); exact rfl; exact rfl; exact (by rw [hs0]; rfl)) | (apply OQ.pick_t; exact rfl; exact rfl) | (apply OQ.move; exact rfl)) rfl ?_ | refine JL.gon rfl rfl ?_)
  refine JL.lit1 (v := U8 1) Try.underlying31 u8e rfl rfl rfl rfl fun b5 _ => ?_
  refine JL.perm (M' := jnE j h bl [] ++ ((⟨b5, Row 5 [U8 1], true⟩ :: (accE 31 (some p) ([s0].map Sl8.v) ++ flatE [s0])) ++ ((accE 31 q1 (rs1.map Sl8.v) ++ flatE rs1) ++ []))) ?_ (by exact List.perm_append_comm_assoc (_ :: _) _ _)
  repeat (refine JL.gon rfl rfl ?_)
  refine JL.japp (s := ⟨some ⟨b5, 0, none⟩, 1, [1]⟩) v hd (by decide) (by rw [hsz, hu]; show nb 1 ≤ 2 - 1; decide) (fun w' hw' => ⟨row_ok hw' (hasR (N := jnE j h bl []) .here) rfl (by decide), fun _ a ha => by cases ha; exact away_has (b := b5) hw' .here⟩) rfl rfl rfl ?_
  repeat (first | refine JL.q (by first | (apply OQ.eqB (a := 0) (b := 0) (c := true); exact rfl; exact rfl; exact rfl) | (apply OQ.pick_t; exact rfl; exact rfl) | (apply OQ.assign; exact rfl)) rfl ?_ | refine JL.nil ?_ | refine JE.next ?_ | refine JL.gon rfl rfl ?_)
  exact JC.ret (JE.ret1 rfl (RV.tmp rfl) fun w' hw => ⟨rfl, hw.chg⟩)
theorem goes_samel : Goes Try.prog 21 := ⟨_, Try.func21, rfl, by kernel_rfl⟩
set_option maxHeartbeats 16000000 in
theorem samel_any (a b : SlL) (w : World) (ha : a.ok w) (hb : b.ok w) (hn : a.rs.length ≤ 1000000) (hl : ∀ y ∈ a.rs, y.l.length < 4611686018427387904) : Calls Try.prog 21 [a.v, b.v].toArray w fun e w' => e = .returned (.bool (decide (a.rs.map Sl8.l = b.rs.map Sl8.l))) ∧ Ext w w' := by
  refine enter (n := 27) Try.func21 rfl rfl rfl (Holds.start w []) ?_
  cases g1 : decide ((a.rs.length : Int) = (b.rs.length : Int))
  case false =>
    have hne : ¬ a.rs.map Sl8.l = b.rs.map Sl8.l := fun e => of_decide_eq_false g1 (by have := congrArg List.length e; rw [List.length_map, List.length_map] at this; omega)
    rw [decide_eq_false hne]
    repeat (first | refine JL.q (by first | (apply OQ.len (k := a.rs.length) (ad := a.ad) (cap := a.cap); exact Try.underlying34; exact rfl) | (apply OQ.len (k := b.rs.length) (ad := b.ad) (cap := b.cap); exact Try.underlying34; exact rfl) | (apply OQ.neB; exact rfl; exact rfl; exact g1) | (apply OQ.move; exact rfl) | (apply OQ.assign; exact rfl)) rfl ?_ | refine JC.seq ?_ | refine JC.region ?_ | refine JL.nil ?_ | refine JE.next ?_)
    refine JC.cond_true rfl rfl ?_
    repeat (first | refine JL.q (by (apply OQ.assign; exact rfl)) rfl ?_ | refine JC.seq ?_ | refine JC.region ?_ | refine JL.nil ?_ | refine JE.next ?_)
    refine JC.ret ?_
    repeat (refine JE.then_ret ?_)
    exact JE.ret1 rfl (RV.tmp rfl) fun w' hw => ⟨rfl, hw.chg⟩
  have hab : a.rs.length = b.rs.length := by have := of_decide_eq_true g1; omega
  repeat (first | refine JL.q (by first | (apply OQ.len (k := a.rs.length) (ad := a.ad) (cap := a.cap); exact Try.underlying34; exact rfl) | (apply OQ.len (k := b.rs.length) (ad := b.ad) (cap := b.cap); exact Try.underlying34; exact rfl) | (apply OQ.neB; exact rfl; exact rfl; exact g1) | (apply OQ.move; exact rfl) | (apply OQ.assign; exact rfl)) rfl ?_ | refine JC.seq ?_ | refine JC.region ?_ | refine JL.nil ?_ | refine JE.next ?_)
  refine JC.cond_false rfl rfl ?_
  repeat (first | refine JL.q (by (apply OQ.assign; exact rfl)) rfl ?_ | refine JC.seq ?_ | refine JC.region ?_ | refine JC.block ?_ | refine JC.skip ?_ | refine JL.nil ?_ | refine JE.next ?_)
  refine JC.loop (fun i : Nat => [(0, a.v), (1, b.v), (5, N i)]) (fun _ => []) (fun i => a.rs.length - i) (fun i => i ≤ a.rs.length ∧ (a.rs.map Sl8.l).take i = (b.rs.map Sl8.l).take i) 0 ⟨Nat.zero_le _, rfl⟩ (by repeat (first | exact SubE.nil | refine SubE.cons _ _ _ rfl ?_)) (Less.refl _) ?_
  rintro i ⟨hi, ht⟩
  repeat (first | refine JL.q (by first | (apply OQ.len (k := a.rs.length) (ad := a.ad) (cap := a.cap); exact Try.underlying34; exact rfl) | (apply OQ.move; exact rfl) | (apply OQ.lssN; exact rfl; exact rfl)) rfl ?_ | refine JC.seq ?_ | refine JC.region ?_ | refine JL.nil ?_ | refine JE.next ?_)
  refine JC.cond rfl (fun hc => ?_) (fun hc => ?_)
  · have hi' : i < a.rs.length := by have := of_decide_eq_true hc; omega
    clear hc
    obtain ⟨ba, ja, ea, la, ca⟩ := slLj_at ha (by omega)
    obtain ⟨bb, jb, eb, lb, cb⟩ := slLj_at hb (by omega)
    have cai := ca i hi'
    have cbi := cb i (by omega)
    have oka := ha.all _ (getD_mem' hi')
    have okb := hb.all _ (getD_mem' (show i < b.rs.length by omega))
    have hla := hl _ (getD_mem' hi')
    have eqi : (a.rs.map Sl8.l).take (i + 1) = (a.rs.map Sl8.l).take i ++ [(a.rs.getD i nilS).l] := by
      rw [List.take_add_one]; simp [List.getD_eq_getElem?_getD, hi']
    have eqj : (b.rs.map Sl8.l).take (i + 1) = (b.rs.map Sl8.l).take i ++ [(b.rs.getD i nilS).l] := by
      rw [List.take_add_one]; simp [List.getD_eq_getElem?_getD, show i < b.rs.length by omega]
    generalize a.rs.getD i nilS = sa at cai oka hla eqi
    generalize b.rs.getD i nilS = sb at cbi okb eqj
    have hva : a.v = .slice (some ⟨ba, ja, none⟩) a.rs.length a.cap := by rw [← ea]; rfl
    have hvb : b.v = .slice (some ⟨bb, jb, none⟩) b.rs.length b.cap := by rw [← eb]; rfl
    rw [hva, hvb]
    repeat (first | refine JC.seq ?_ | refine JC.block ?_ | refine JC.skip ?_ | refine JE.next ?_)
    refine JC.quiet mixT (by kernel_rfl) ?_
    repeat (first | refine JQ.q (by first | (apply OQ.idxS1 (i := i) (b := ba) (j := ja); exact Try.underlying34; exact sleJ; exact rfl; exact rfl; exact hi') | (apply OQ.idxS1 (i := i) (b := bb) (j := jb); exact Try.underlying34; exact sleJ; exact rfl; exact rfl; exact (show i < b.rs.length by omega)) | (apply OQ.load_old; exact slCj; exact rfl; exact la; exact (by simp); exact cai) | (apply OQ.load_old; exact slCj; exact rfl; exact lb; exact (by simp); exact cbi) | (apply OQ.callx (vs := [sa.v, sb.v]); exact goes_same; exact rfl; exact (fun w' hw' => same_any sa sb w' (oka.holds hw' rfl) (okb.holds hw' rfl) hla)) | (apply OQ.not; exact rfl) | (apply OQ.move; exact rfl)) rfl ?_ | refine JQ.nil ?_ | refine JE.next ?_)
    cases g2 : decide (sa.l = sb.l)
    case false =>
      refine JC.cond_true rfl rfl ?_
      have hne : ¬ a.rs.map Sl8.l = b.rs.map Sl8.l := fun e => by
        rw [e, eqj] at eqi
        exact of_decide_eq_false g2 (by simpa using (List.append_cancel_left eqi).symm)
      rw [decide_eq_false hne]
      repeat (first | refine JL.q (by (apply OQ.assign; exact rfl)) rfl ?_ | refine JC.seq ?_ | refine JC.region ?_ | refine JL.nil ?_ | refine JE.next ?_)
      refine JC.ret ?_
      repeat (first | refine JE.then_ret ?_ | refine JE.blk_ret ?_)
      exact JE.ret1 rfl (RV.tmp rfl) fun w' hw => ⟨rfl, hw.chg⟩
    case true =>
      refine JC.cond_false rfl rfl ?_
      repeat (first | refine JL.q (by first | (apply OQ.move; exact rfl) | (apply OQ.assign; exact rfl) | (apply OQ.addN; exact rfl; exact rfl; exact (by (try simp only []); omega))) rfl ?_ | refine JC.region ?_ | refine JC.skip ?_ | refine JL.nil ?_ | refine JE.next ?_ | refine JE.blk_normal ?_)
      exact JE.again (i := i) (i + 1) ⟨hi', by rw [eqi, eqj, ht, of_decide_eq_true g2]⟩ (by omega) (by repeat (first | exact SubE.nil | refine SubE.cons _ _ _ rfl ?_)) (Less.refl _)
  · have hi' : i = a.rs.length := by have := of_decide_eq_false hc; omega
    have he : a.rs.map Sl8.l = b.rs.map Sl8.l := by
      rw [hi', List.take_of_length_le (by rw [List.length_map]; exact Nat.le_refl _), List.take_of_length_le (by rw [List.length_map]; omega)] at ht
      exact ht
    rw [decide_eq_true he]
    repeat (first | refine JL.q (by (apply OQ.assign; exact rfl)) rfl ?_ | refine JC.seq ?_ | refine JC.region ?_ | refine JC.exit ?_ | refine JL.nil ?_ | refine JE.next ?_ | refine JE.then_exit ?_ | refine JE.blk_hit ?_)
    exact JC.ret (JE.ret1 rfl (RV.tmp rfl) fun w' hw => ⟨rfl, hw.chg⟩)
end Go.Proofs.Ytkadoibacliepaa

/-
  Of no statement by itself: the reference's Blocks (how many), Room.
  Conditions: each theorem's own.
-/
namespace Go.Proofs.Ytkadoibacliepaa
set_option maxRecDepth 10000
open Sl Dsk Jrn
section
variable {P : Program} {n : Nat} {E : Env} {C : World → Prop} {dst : Option Tmp} {t t' ty : TypeId} {pos : String} {aft : Array Edge} {g : Option (Nat × Bool)} {x y : Operand}
theorem OQ.shrN {a m : Nat} {yk : IntKind} {k : Nat} (hm : (2 : Int) ^ k = (m : Int)) (hk : k ≤ 64) (hx : ev E x = some (N a)) (hy : ev E y = some (.int yk k)) : OQ P n E C ⟨dst, .binOp .shr t x y t', ty, pos, aft, g⟩ (N (a / m)) :=
  OQ.to (OQ.shrI (a := (a : Int)) hm hk hx hy) (by show Value.int .i64 ((a : Int) / (m : Int)) = .int .i64 ((a / m : Nat) : Int); rw [Int.natCast_ediv])
end
theorem set_bc {x : Bk} {i : Nat} {v : Bt} : (bc x).set i (U8 v) = bc (x.set i v) := by simp [bc, List.map_set]
theorem goes_rblocks : Goes Try.prog 46 := ⟨_, Try.func46, rfl, by kernel_rfl⟩
theorem u8sj : szT Try.prog 5 = some 1 := by kernel_rfl
set_option maxHeartbeats 64000000 in
theorem rblen_any (gen rec : Nat) (s : Sl8) (w : World) (hs : s.ok w) (hl : s.l.length ≤ 1000000) : Calls Try.prog 46 [N gen, N rec, s.v].toArray w fun e w' => ∃ z : {z : (Nat × Nat) × List Bk // z.2.length = nb s.l.length}, e = .returned (accV (some z.1.1) (bcs z.1.2).length) ∧ Holds w [] (accC 83 64 (some z.1.1) (bcs z.1.2)) w' := by
  have hcl := hs.len
  refine enter (n := 110) Try.func46 rfl rfl rfl (Holds.start w []) ?_
  repeat (first | refine JL.q (by (apply OQ.assign; exact rfl)) rfl ?_ | refine JC.seq ?_ | refine JC.region ?_ | refine JL.nil ?_ | refine JE.next ?_)
  refine JL.litZ Try.underlying22 dkI rfl fun b0 _ => ?_
  repeat (first | refine JL.q (by (apply OQ.assign; exact rfl)) rfl ?_ | refine JC.seq ?_ | refine JC.region ?_ | refine JC.block ?_ | refine JL.nil ?_ | refine JE.next ?_)
  refine JC.loop (fun z : Nat × (Nat × Nat) × List Bk => [(0, N gen), (1, N rec), (2, s.v), (7, accV (some z.2.1) (bcs z.2.2).length), (8, N (z.1 * 42))]) (fun z => accC 83 64 (some z.2.1) (bcs z.2.2)) (fun z => nb s.l.length - z.1) (fun z => z.1 ≤ nb s.l.length ∧ z.2.2.length = z.1) (0, (b0, 0), []) ⟨Nat.zero_le _, rfl⟩ (by repeat (first | exact SubE.nil | refine SubE.cons _ _ _ rfl ?_)) (Less.refl _) ?_
  rintro ⟨k, q, L⟩ ⟨hk, hL⟩
  dsimp only at hk hL ⊢
  have hnb := nb_le s.l.length
  have hbn := bcs_n L
  by_cases hk' : k < nb s.l.length
  case neg =>
    have e1 : decide (((k * 42 : Nat) : Int) < (s.l.length : Int)) = false := decide_eq_false (by omega)
    have e2 : decide (((k * 42 : Nat) : Int) = 0) = false := decide_eq_false (by have := nb_pos s.l.length; omega)
    repeat (first | refine JL.q (by first | (apply OQ.len (k := s.l.length) (ad := s.ad) (cap := s.cap); exact Try.underlying31; exact rfl) | (apply OQ.lssB; exact rfl; exact rfl; exact e1) | (apply OQ.eqB (b := 0); exact rfl; exact rfl; exact e2) | (apply OQ.pick_f; exact rfl; exact rfl) | (apply OQ.move; exact rfl)) rfl ?_ | refine JC.seq ?_ | refine JC.region ?_ | refine JL.nil ?_ | refine JE.next ?_ | refine JL.gon rfl rfl ?_)
    refine JC.cond_false rfl rfl ?_
    repeat (first | refine JL.q (by first | (apply OQ.move; exact rfl) | (apply OQ.assign; exact rfl)) rfl ?_ | refine JC.seq ?_ | refine JC.region ?_ | refine JC.exit ?_ | refine JL.nil ?_ | refine JE.next ?_ | refine JE.then_exit ?_ | refine JE.blk_hit ?_)
    refine JC.ret ?_
    skip
    exact JE.ret1 rfl (RV.tmp rfl) fun w' hw => ⟨⟨(q, L), by show L.length = _; omega⟩, rfl, hw⟩
  case pos =>
    have hlo := nb_at hk'
    have hgo : (decide (((k * 42 : Nat) : Int) < (s.l.length : Int)) = true) ∨ (decide (((k * 42 : Nat) : Int) < (s.l.length : Int)) = false ∧ decide (((k * 42 : Nat) : Int) = 0) = true) := by
      by_cases h : k * 42 < s.l.length
      · exact .inl (decide_eq_true (by omega))
      · refine .inr ⟨decide_eq_false (by omega), decide_eq_true ?_⟩
        unfold nb at hk'
        omega
    refine JC.mid (ι := Unit) (fun _ => [(0, N gen), (1, N rec), (2, s.v), (7, accV (some q) (bcs L).length), (8, N (k * 42))]) (fun _ => accC 83 64 (some q) (bcs L)) (fun _ => True) ?_ ?_
    · rcases hgo with e1 | ⟨e1, e2⟩
      · repeat (first | refine JL.q (by first | (apply OQ.len (k := s.l.length) (ad := s.ad) (cap := s.cap); exact Try.underlying31; exact rfl) | (apply OQ.lssB; exact rfl; exact rfl; exact e1) | (apply OQ.pick_t; exact rfl; exact rfl) | (apply OQ.move; exact rfl)) rfl ?_ | refine JC.seq ?_ | refine JC.region ?_ | refine JL.nil ?_ | refine JE.next ?_ | refine JL.gskip rfl rfl rfl rfl ?_)
        refine JC.cond_true rfl rfl ?_
        repeat (refine JC.skip ?_)
        exact JE.mid () trivial (by repeat (first | exact SubE.nil | refine SubE.cons _ _ _ rfl ?_)) (Less.refl _)
      · repeat (first | refine JL.q (by first | (apply OQ.len (k := s.l.length) (ad := s.ad) (cap := s.cap); exact Try.underlying31; exact rfl) | (apply OQ.lssB; exact rfl; exact rfl; exact e1) | (apply OQ.eqB (b := 0); exact rfl; exact rfl; exact e2) | (apply OQ.pick_f; exact rfl; exact rfl) | (apply OQ.move; exact rfl)) rfl ?_ | refine JC.seq ?_ | refine JC.region ?_ | refine JL.nil ?_ | refine JE.next ?_ | refine JL.gon rfl rfl ?_)
        refine JC.cond_true rfl rfl ?_
        repeat (refine JC.skip ?_)
        exact JE.mid () trivial (by repeat (first | exact SubE.nil | refine SubE.cons _ _ _ rfl ?_)) (Less.refl _)
    rintro _ _
    have e9 : decide (((s.snd (k * 42)).l.length : Int) ≤ 42) = decide (s.l.length - k * 42 ≤ 42) := decide_eq_decide.2 (by show ((s.l.drop (k * 42)).length : Int) ≤ 42 ↔ _; rw [List.length_drop]; omega)
    repeat (first | refine JL.q (by first | (apply OQ.snd (s := s) (m := k * 42); exact Try.underlying31; exact u8sj; exact rfl; exact rfl; exact hlo) | (apply OQ.len (k := (s.snd (k * 42)).l.length) (ad := (s.snd (k * 42)).ad) (cap := (s.snd (k * 42)).cap); exact Try.underlying31; exact rfl) | (apply OQ.leqB (b := 42); exact rfl; exact rfl; exact e9) | (apply OQ.not; exact rfl) | (apply OQ.move; exact rfl) | (apply OQ.assign; exact rfl)) rfl ?_ | refine JC.seq ?_ | refine JC.region ?_ | refine JC.block ?_ | refine JL.nil ?_ | refine JE.next ?_)
    refine JC.join (ι := {t : Sl8 // t.ok w ∧ t.l.length ≤ 42}) (fun t => [(0, N gen), (1, N rec), (2, s.v), (7, accV (some q) (bcs L).length), (8, N (k * 42)), (9, t.1.v), (10, .bool (decide (s.l.length - k * 42 ≤ 42)))]) (fun _ => accC 83 64 (some q) (bcs L)) (fun _ => True) ?_ ?_
    · have hd9 : (s.snd (k * 42)).l.length = s.l.length - k * 42 := by show (s.l.drop (k * 42)).length = _; rw [List.length_drop]
      cases h9 : decide (s.l.length - k * 42 ≤ 42)
      · have h10 : 42 ≤ (s.snd (k * 42)).l.length := by have := of_decide_eq_false h9; omega
        refine JC.cond_true rfl rfl ?_
        repeat (first | refine JL.q (by first | (apply OQ.fst (s := s.snd (k * 42)) (m := 42); exact Try.underlying31; exact u8sj; exact rfl; exact rfl; exact h10; exact (hs.snd _ hlo).len) | (apply OQ.move; exact rfl) | (apply OQ.assign; exact rfl)) rfl ?_ | refine JC.region ?_ | refine JL.nil ?_)
        exact JE.mid ⟨(s.snd (k * 42)).fst 42, (hs.snd _ hlo).fst 42, by show ((s.snd (k * 42)).l.take 42).length ≤ 42; rw [List.length_take]; omega⟩ trivial (by repeat (first | exact SubE.nil | refine SubE.cons _ _ _ rfl ?_)) (Less.refl _)
      · refine JC.cond_false rfl rfl ?_
        repeat (refine JC.skip ?_)
        exact JE.mid ⟨s.snd (k * 42), hs.snd _ hlo, by have := of_decide_eq_true h9; omega⟩ trivial (by repeat (first | exact SubE.nil | refine SubE.cons _ _ _ rfl ?_)) (Less.refl _)
    rintro ⟨t, ht, ht42⟩ _
    dsimp only
    generalize decide (s.l.length - k * 42 ≤ 42) = last
    have htc := ht.len
    repeat (first | refine JL.q (by (apply OQ.buildB0)) rfl ?_ | refine JC.seq ?_ | refine JC.region ?_)
    refine JL.alloc dkZ rfl fun b11 _ => ?_
    refine JL.store_all (cs := bc zero) dkB rfl rfl (bc_len rfl) (bc_cell _) .here rfl ?_
    have hq0 : some q = (none : Acc) → (bcs L).length = 0 := nofun
    repeat (first | refine JL.q (by first | (apply OQ.lenV (q := some q) (k := (bcs L).length); exact Try.underlying22; exact hq0; exact rfl) | (apply OQ.move; exact rfl) | (apply OQ.assign; exact rfl)) rfl ?_ | refine JC.seq ?_ | refine JC.region ?_ | refine JL.nil ?_ | refine JE.next ?_)
    refine JC.join (ι := {p : Nat // p ≤ 10000000}) (fun p => [(0, N gen), (1, N rec), (2, s.v), (7, accV (some q) (bcs L).length), (8, N (k * 42)), (9, t.v), (11, Pt b11 0), (12, N p.1)]) (fun _ => ⟨b11, Row 83 (bc zero), true⟩ :: accC 83 64 (some q) (bcs L)) (fun _ => True) ?_ ?_
    · have hkb : (bcs L).length + 32768 ≤ 10000000 := by unfold nb at hk'; omega
      refine JC.cond rfl (fun _ => ?_) (fun _ => ?_)
      · repeat (first | refine JL.q (by first | (apply OQ.addN (a := (bcs L).length) (b := 32768); exact rfl; exact rfl; exact (by omega)) | (apply OQ.move; exact rfl) | (apply OQ.assign; exact rfl)) rfl ?_ | refine JC.region ?_ | refine JL.nil ?_)
        exact JE.mid ⟨(bcs L).length + 32768, hkb⟩ trivial (by repeat (first | exact SubE.nil | refine SubE.cons _ _ _ rfl ?_)) (Less.refl _)
      · repeat (refine JC.skip ?_)
        exact JE.mid ⟨(bcs L).length, by omega⟩ trivial (by repeat (first | exact SubE.nil | refine SubE.cons _ _ _ rfl ?_)) (Less.refl _)
    rintro ⟨p, hp⟩ _
    dsimp only
    repeat (first | refine JL.q (by first | (apply OQ.shrN (a := gen) (m := 16777216) (k := 24); exact (by decide); exact (by decide); exact rfl; exact rfl) | (apply OQ.shrN (a := gen) (m := 65536) (k := 16); exact (by decide); exact (by decide); exact rfl; exact rfl) | (apply OQ.shrN (m := 256) (k := 8); exact (by decide); exact (by decide); exact rfl; exact rfl) | (apply OQ.shrN (a := rec) (m := 16777216) (k := 24); exact (by decide); exact (by decide); exact rfl; exact rfl) | (apply OQ.shrN (a := rec) (m := 65536) (k := 16); exact (by decide); exact (by decide); exact rfl; exact rfl) | (apply OQ.convN_8; exact Try.underlying3; exact Try.underlying5; exact rfl) | (apply OQ.move; exact rfl)) rfl ?_ | refine JC.seq ?_ | refine JC.region ?_)
    refine JL.litL (xs := [.tmp 45, .tmp 48, .tmp 51, .tmp 53, .tmp 56, .tmp 59, .tmp 62, .tmp 64, .tmp 67, .tmp 69]) (vs := ([BitVec.ofNat 8 (gen / 16777216), BitVec.ofNat 8 (gen / 65536), BitVec.ofNat 8 (gen / 256), BitVec.ofNat 8 gen, BitVec.ofNat 8 (rec / 16777216), BitVec.ofNat 8 (rec / 65536), BitVec.ofNat 8 (rec / 256), BitVec.ofNat 8 rec, BitVec.ofNat 8 (p / 256), BitVec.ofNat 8 p] : Bk).map U8) (m := 10) Try.underlying31 u8e rfl rfl rfl (by simp [Value.oneCell']) (by simp [Value.cells]) rfl (by decide) (by decide) rfl fun b13 _ => ?_
    generalize hmm : ([BitVec.ofNat 8 (gen / 16777216), BitVec.ofNat 8 (gen / 65536), BitVec.ofNat 8 (gen / 256), BitVec.ofNat 8 gen, BitVec.ofNat 8 (rec / 16777216), BitVec.ofNat 8 (rec / 65536), BitVec.ofNat 8 (rec / 256), BitVec.ofNat 8 rec, BitVec.ofNat 8 (p / 256), BitVec.ofNat 8 p] : Bk) = mm
    have hm10 : mm.length = 10 := by rw [← hmm]; rfl
    clear hmm
    repeat (first | refine JL.q (by (apply OQ.assign; exact rfl)) rfl ?_ | refine JC.seq ?_ | refine JC.region ?_ | refine JC.block ?_ | refine JL.nil ?_ | refine JE.next ?_)
    refine JC.loop (fun z : Nat × Bk => [(0, N gen), (1, N rec), (2, s.v), (7, accV (some q) (bcs L).length), (8, N (k * 42)), (9, t.v), (11, Pt b11 0), (13, .slice (some ⟨b13, 0, none⟩) 10 10), (14, N z.1)]) (fun z => ⟨b13, Row 5 (mm.map U8), true⟩ :: ⟨b11, Row 83 (bc z.2), true⟩ :: accC 83 64 (some q) (bcs L)) (fun z => 10 - z.1) (fun z => z.1 ≤ 10 ∧ z.2.length = 64) (0, zero) ⟨Nat.zero_le _, rfl⟩ (by repeat (first | exact SubE.nil | refine SubE.cons _ _ _ rfl ?_)) (Less.refl _) ?_
    rintro ⟨i, x⟩ ⟨hi, hx⟩
    dsimp only at hi hx ⊢
    repeat (first | refine JL.q (by first | (apply OQ.move; exact rfl) | (apply OQ.lssN; exact rfl; exact rfl)) rfl ?_ | refine JC.seq ?_ | refine JC.region ?_ | refine JL.nil ?_ | refine JE.next ?_)
    refine JC.cond rfl (fun hc => ?_) (fun hc => ?_)
    · have hi' : i < 10 := by have := of_decide_eq_true hc; omega
      clear hc
      have hcell : (mm.map U8)[i]? = some (U8 (mm.getD i 0)) := map_at U8 0 (by omega)
      generalize mm.getD i 0 = c at hcell
      repeat (first | refine JL.q (by first | (apply OQ.idxS0 (i := i); exact Try.underlying31; exact u8sj; exact rfl; exact rfl; exact hi') | (apply OQ.load; exact u8c; exact rfl; exact .here; exact (Row.cell (v := U8 c) hcell)) | (apply OQ.idxA0 (i := i) (len := 64); exact Try.underlying83; exact u8sj; exact rfl; exact rfl; exact (by omega)) | (apply OQ.move; exact rfl)) rfl ?_ | refine JC.seq ?_ | refine JC.region ?_ | refine JC.block ?_ | refine JC.skip ?_ | refine JE.next ?_)
      refine JL.store_eq (b := b11) (r := bc x) (r' := bc (x.set i c)) u8sj rfl rfl rfl rfl (.there .here) (by rw [bc_len hx]; omega) set_bc ?_
      repeat (first | refine JL.q (by first | (apply OQ.addN (a := 54) (b := i); exact rfl; exact rfl; exact (by omega)) | (apply OQ.idxS0 (i := i); exact Try.underlying31; exact u8sj; exact rfl; exact rfl; exact hi') | (apply OQ.load; exact u8c; exact rfl; exact .here; exact (Row.cell (v := U8 c) hcell)) | (apply OQ.idxA0 (i := 54 + i) (len := 64); exact Try.underlying83; exact u8sj; exact rfl; exact rfl; exact (by omega)) | (apply OQ.move; exact rfl)) rfl ?_ | refine JC.region ?_ | refine JL.nil ?_ | refine JE.next ?_)
      refine JL.store_eq (b := b11) (r := bc (x.set i c)) (r' := bc ((x.set i c).set (54 + i) c)) u8sj rfl rfl rfl rfl (.there .here) (by rw [bc_len (by rw [List.length_set]; exact hx)]; omega) set_bc ?_
      repeat (first | refine JL.q (by first | (apply OQ.move; exact rfl) | (apply OQ.assign; exact rfl) | (apply OQ.addN; exact rfl; exact rfl; exact (by (try simp only []); omega))) rfl ?_ | refine JC.region ?_ | refine JL.nil ?_ | refine JE.next ?_ | refine JE.blk_normal ?_)
      exact JE.again (i := (i, x)) (i + 1, (x.set i c).set (54 + i) c) ⟨hi', by dsimp only; rw [List.length_set, List.length_set]; exact hx⟩ (by dsimp only; omega) (by repeat (first | exact SubE.nil | refine SubE.cons _ _ _ rfl ?_)) (Less.refl _)
    · clear hi hc
      repeat (first | refine JL.q (by first | (apply OQ.len (k := t.l.length) (ad := t.ad) (cap := t.cap); exact Try.underlying31; exact rfl) | (apply OQ.convN_8; exact Try.underlying3; exact Try.underlying5; exact rfl) | (apply OQ.idxA0 (i := 11) (len := 64); exact Try.underlying83; exact u8sj; exact rfl; exact rfl; exact (by decide)) | (apply OQ.move; exact rfl)) rfl ?_ | refine JC.seq ?_ | refine JC.region ?_ | refine JC.exit ?_ | refine JE.next ?_ | refine JE.then_exit ?_ | refine JE.blk_hit ?_)
      refine JL.store_eq (b := b11) (r := bc x) (r' := bc (x.set 11 (BitVec.ofNat 8 t.l.length))) u8sj rfl rfl rfl rfl (.there .here) (by rw [bc_len hx]; decide) set_bc ?_
      have hx1 : (x.set 11 (BitVec.ofNat 8 t.l.length)).length = 64 := by rw [List.length_set]; exact hx
      generalize x.set 11 (BitVec.ofNat 8 t.l.length) = x1 at hx1
      repeat (first | refine JL.q (by (apply OQ.assign; exact rfl)) rfl ?_ | refine JC.seq ?_ | refine JC.region ?_ | refine JC.block ?_ | refine JL.nil ?_ | refine JE.next ?_)
      clear hx x
      refine JC.loop (fun z : Nat × Bk => [(0, N gen), (1, N rec), (2, s.v), (7, accV (some q) (bcs L).length), (8, N (k * 42)), (9, t.v), (11, Pt b11 0), (15, N z.1)]) (fun z => ⟨b11, Row 83 (bc z.2), true⟩ :: accC 83 64 (some q) (bcs L)) (fun z => t.l.length - z.1) (fun z => z.1 ≤ t.l.length ∧ z.2.length = 64) (0, x1) ⟨Nat.zero_le _, hx1⟩ (by repeat (first | exact SubE.nil | refine SubE.cons _ _ _ rfl ?_)) (.drop _ _ _ (Less.refl _)) ?_
      clear hx1 x1
      rintro ⟨i, x⟩ ⟨hi, hx⟩
      dsimp only at hi hx ⊢
      repeat (first | refine JL.q (by first | (apply OQ.len (k := t.l.length) (ad := t.ad) (cap := t.cap); exact Try.underlying31; exact rfl) | (apply OQ.move; exact rfl) | (apply OQ.lssN; exact rfl; exact rfl)) rfl ?_ | refine JC.seq ?_ | refine JC.region ?_ | refine JL.nil ?_ | refine JE.next ?_)
      refine JC.cond rfl (fun hc => ?_) (fun hc => ?_)
      · have hi' : i < t.l.length := by have := of_decide_eq_true hc; omega
        clear hc
        obtain ⟨bt, jt, et, ct⟩ := ht.reads i _ (map_at U8 0 hi')
        have hvt : t.v = .slice (some ⟨bt, jt, none⟩) t.l.length t.cap := by rw [← et]; rfl
        rw [hvt]
        generalize t.l.getD i 0 = c at ct
        repeat (first | refine JL.q (by first | (apply OQ.addN (a := 12) (b := i); exact rfl; exact rfl; exact (by omega)) | (apply OQ.idxS1 (i := i) (b := bt) (j := jt); exact Try.underlying31; exact u8sj; exact rfl; exact rfl; exact hi') | (apply OQ.load_old; exact u8c; exact rfl; exact (block_lt_of_cell ct); exact (by simp); exact ct) | (apply OQ.idxA0 (i := 12 + i) (len := 64); exact Try.underlying83; exact u8sj; exact rfl; exact rfl; exact (by omega)) | (apply OQ.move; exact rfl)) rfl ?_ | refine JC.seq ?_ | refine JC.region ?_ | refine JC.block ?_ | refine JC.skip ?_ | refine JE.next ?_)
        refine JL.store_eq (b := b11) (r := bc x) (r' := bc (x.set (12 + i) c)) u8sj rfl rfl rfl rfl .here (by rw [bc_len hx]; omega) set_bc ?_
        repeat (first | refine JL.q (by first | (apply OQ.move; exact rfl) | (apply OQ.assign; exact rfl) | (apply OQ.addN; exact rfl; exact rfl; exact (by (try simp only []); omega))) rfl ?_ | refine JC.region ?_ | refine JL.nil ?_ | refine JE.next ?_ | refine JE.blk_normal ?_)
        exact JE.again (i := (i, x)) (i + 1, x.set (12 + i) c) ⟨hi', by dsimp only; rw [List.length_set]; exact hx⟩ (by dsimp only; omega) (by repeat (first | exact SubE.nil | refine SubE.cons _ _ _ rfl ?_)) (Less.refl _)
      · repeat (first | refine JL.q (by first | (apply OQ.load_agg (cs := bc x); exact dkAg; exact dkB; exact rfl; exact .here; exact (bc_len hx); exact Row.all) | (apply OQ.move; exact rfl)) rfl ?_ | refine JC.region ?_ | refine JC.exit ?_ | refine JE.next ?_ | refine JE.then_exit ?_ | refine JE.blk_hit ?_)
        refine JL.litA (cs := bc x) Try.underlying22 dkI rfl (by decide) (by decide) rfl (bc_len hx) rfl fun b7 _ => ?_
        refine JL.perm (M' := ⟨b7, Row 83 (bc x), true⟩ :: (accC 83 64 (some q) (bcs L) ++ [⟨b11, Row 83 (bc x), true⟩])) ?_ (by exact List.Perm.cons _ (List.perm_append_singleton _ _).symm)
        refine JL.appendC (c := bc x) (L := bcs L) (some q) Try.underlying22 dkI nofun rfl rfl (bc_len hx) (fun v hv => List.all_eq_true.1 (bc_cell _) v hv) rfl (by decide) (by unfold nb at hk'; omega) (by unfold nb at hk'; omega) rfl fun b' cap' => ?_
        have eL : bcs L ++ [bc x] = bcs (L ++ [x]) := by simp [bcs]
        rw [eL]
        repeat (first | refine JL.q (by first | (apply OQ.addN (a := k * 42) (b := 42); exact rfl; exact rfl; exact (by omega)) | (apply OQ.move; exact rfl) | (apply OQ.assign; exact rfl)) rfl ?_ | refine JC.region ?_ | refine JL.nil ?_ | refine JE.next ?_ | refine JE.blk_normal ?_)
        exact JE.again (i := (k, q, L)) (k + 1, (b', cap'), L ++ [x]) ⟨hk', by dsimp only; rw [List.length_append, List.length_singleton, hL]⟩ (by dsimp only; omega) (by rw [show (k + 1) * 42 = k * 42 + 42 by omega]; exact (by repeat (first | exact SubE.nil | refine SubE.cons _ _ _ rfl ?_))) (less_pre _ _)
theorem goes_room : Goes Try.prog 18 := ⟨_, Try.func18, rfl, by kernel_rfl⟩
set_option maxHeartbeats 16000000 in
theorem room_any (s : SlL) (w : World) (hs : s.ok w) (hn : s.rs.length ≤ 1000) (hl : ∀ y ∈ s.rs, y.l.length ≤ 1000000) : Calls Try.prog 18 [s.v].toArray w fun e w' => e = .returned (N (room (s.rs.map Sl8.l))) ∧ Ext w w' := by
  refine enter (n := 20) Try.func18 rfl rfl rfl (Holds.start w []) ?_
  repeat (first | refine JL.q (by (apply OQ.assign; exact rfl)) rfl ?_ | refine JC.seq ?_ | refine JC.region ?_ | refine JC.block ?_ | refine JL.nil ?_ | refine JE.next ?_)
  refine JC.loop (fun i : Nat => [(0, s.v), (3, N (room ((s.rs.map Sl8.l).take i))), (4, N i)]) (fun _ => []) (fun i => s.rs.length - i) (fun i => i ≤ s.rs.length ∧ room ((s.rs.map Sl8.l).take i) ≤ i * 1000000) 0 ⟨Nat.zero_le _, Nat.le_refl _⟩ (by repeat (first | exact SubE.nil | refine SubE.cons _ _ _ rfl ?_)) (Less.refl _) ?_
  rintro i ⟨hi, hr⟩
  repeat (first | refine JL.q (by first | (apply OQ.len (k := s.rs.length) (ad := s.ad) (cap := s.cap); exact Try.underlying34; exact rfl) | (apply OQ.move; exact rfl) | (apply OQ.lssN; exact rfl; exact rfl)) rfl ?_ | refine JC.seq ?_ | refine JC.region ?_ | refine JL.nil ?_ | refine JE.next ?_)
  refine JC.cond rfl (fun hc => ?_) (fun hc => ?_)
  · have hi' : i < s.rs.length := by have := of_decide_eq_true hc; omega
    clear hc
    obtain ⟨b, j, e, lb, c⟩ := slLj_at hs (by omega)
    have ci := c i hi'
    have oki := hs.all _ (getD_mem' hi')
    have hli := hl _ (getD_mem' hi')
    have eqi : (s.rs.map Sl8.l).take (i + 1) = (s.rs.map Sl8.l).take i ++ [(s.rs.getD i nilS).l] := by
      rw [List.take_add_one]; simp [List.getD_eq_getElem?_getD, hi']
    generalize s.rs.getD i nilS = y at ci oki hli eqi
    have hv : s.v = .slice (some ⟨b, j, none⟩) s.rs.length s.cap := by rw [← e]; rfl
    rw [hv]
    have hr1 : room ((s.rs.map Sl8.l).take (i + 1)) = room ((s.rs.map Sl8.l).take i) + nb y.l.length := by rw [eqi, room_append]; simp [room]
    have hnb : nb y.l.length ≤ 1000000 := by unfold nb; omega
    generalize room ((s.rs.map Sl8.l).take i) = r0 at hr hr1 ⊢
    repeat (first | refine JL.q (by first | (apply OQ.idxS1 (i := i) (b := b) (j := j); exact Try.underlying34; exact sleJ; exact rfl; exact rfl; exact hi') | (apply OQ.load_old; exact slCj; exact rfl; exact lb; exact (by simp); exact ci) | (apply OQ.move; exact rfl)) rfl ?_ | refine JC.seq ?_ | refine JC.region ?_ | refine JC.block ?_ | refine JC.skip ?_ | refine JE.next ?_)
    refine JL.callg (ι := {z : (Nat × Nat) × List Bk // z.2.length = nb y.l.length}) (vs := [N 1, N 0, y.v]) (fun z => accV (some z.1.1) (bcs z.1.2).length) (fun z => accC 83 64 (some z.1.1) (bcs z.1.2)) goes_rblocks rfl rfl (fun _ => accC_wr _ _ _ _) (fun w' hw' => rblen_any 1 0 y w' (oki.holds hw' rfl) hli) fun z => ?_
    obtain ⟨⟨zq, zl⟩, hz⟩ := z
    have hz' : (bcs zl).length = nb y.l.length := by rw [bcs_n]; exact hz
    dsimp only
    rw [hz']
    have hq0 : some zq = (none : Acc) → nb y.l.length = 0 := nofun
    repeat (first | refine JL.q (by first | (apply OQ.lenV (q := some zq) (k := nb y.l.length); exact Try.underlying22; exact hq0; exact rfl) | (apply OQ.addN (a := r0) (b := nb y.l.length); exact rfl; exact rfl; exact (by omega)) | (apply OQ.move; exact rfl) | (apply OQ.assign; exact rfl) | (apply OQ.addN; exact rfl; exact rfl; exact (by (try simp only []); omega))) rfl ?_ | refine JC.region ?_ | refine JL.nil ?_ | refine JE.next ?_ | refine JE.blk_normal ?_)
    exact JE.again (i := i) (i + 1) ⟨hi', by rw [hr1]; omega⟩ (by omega) (by rw [hr1]; exact (by repeat (first | exact SubE.nil | refine SubE.cons _ _ _ rfl ?_))) (.nil _)
  · have hi' : i = s.rs.length := by have := of_decide_eq_false hc; omega
    rw [hi', List.take_of_length_le (by rw [List.length_map]; exact Nat.le_refl _)]
    repeat (first | refine JL.q (by first | (apply OQ.move; exact rfl) | (apply OQ.assign; exact rfl)) rfl ?_ | refine JC.seq ?_ | refine JC.region ?_ | refine JC.exit ?_ | refine JL.nil ?_ | refine JE.next ?_ | refine JE.then_exit ?_ | refine JE.blk_hit ?_)
    refine JC.ret ?_
    skip
    exact JE.ret1 rfl (RV.tmp rfl) fun w' hw => ⟨rfl, hw.chg⟩
end Go.Proofs.Ytkadoibacliepaa

/-
  Of no statement by itself: the reference's number, Gen, Record, Place, Whole: they tell what the landed journal's marks tell.
  Conditions: each theorem's own.
-/
namespace Go.Proofs.Ytkadoibacliepaa
set_option maxRecDepth 10000
open Sl Dsk Jrn
/-! ### marks and bytes are one -/
theorem be_num4 {l : Bk} (h : l.length = 4) : be (num32 l) 4 = l := by
  have hn := num_toNat (l := l) (by omega)
  match l, h with
  | [a, b, c, d], _ =>
    have e : be (num32 [a, b, c, d]) 4 = [((num32 [a, b, c, d]) >>> 24).setWidth 8, ((num32 [a, b, c, d]) >>> 16).setWidth 8, ((num32 [a, b, c, d]) >>> 8).setWidth 8, ((num32 [a, b, c, d]) >>> 0).setWidth 8] := rfl
    rw [e]
    simp only [numB, List.foldl_cons, List.foldl_nil] at hn
    generalize num32 [a, b, c, d] = m at hn ⊢
    have ha := a.isLt; have hb := b.isLt; have hc := c.isLt; have hd := d.isLt
    have k1 : (m >>> 24).setWidth 8 = a := BitVec.eq_of_toNat_eq (by simp only [BitVec.toNat_setWidth, BitVec.toNat_ushiftRight, Nat.shiftRight_eq_div_pow]; omega)
    have k2 : (m >>> 16).setWidth 8 = b := BitVec.eq_of_toNat_eq (by simp only [BitVec.toNat_setWidth, BitVec.toNat_ushiftRight, Nat.shiftRight_eq_div_pow]; omega)
    have k3 : (m >>> 8).setWidth 8 = c := BitVec.eq_of_toNat_eq (by simp only [BitVec.toNat_setWidth, BitVec.toNat_ushiftRight, Nat.shiftRight_eq_div_pow]; omega)
    have k4 : (m >>> 0).setWidth 8 = d := BitVec.eq_of_toNat_eq (by simp only [BitVec.toNat_setWidth, BitVec.toNat_ushiftRight, Nat.shiftRight_eq_div_pow]; omega)
    rw [k1, k2, k3, k4]
theorem be_num2 {l : Bk} (h : l.length = 2) : be (num32 l) 2 = l := by
  have hn := num_toNat (l := l) (by omega)
  match l, h with
  | [a, b], _ =>
    have e : be (num32 [a, b]) 2 = [((num32 [a, b]) >>> 8).setWidth 8, ((num32 [a, b]) >>> 0).setWidth 8] := rfl
    rw [e]
    simp only [numB, List.foldl_cons, List.foldl_nil] at hn
    generalize num32 [a, b] = m at hn ⊢
    have ha := a.isLt; have hb := b.isLt
    have k1 : (m >>> 8).setWidth 8 = a := BitVec.eq_of_toNat_eq (by simp only [BitVec.toNat_setWidth, BitVec.toNat_ushiftRight, Nat.shiftRight_eq_div_pow]; omega)
    have k2 : (m >>> 0).setWidth 8 = b := BitVec.eq_of_toNat_eq (by simp only [BitVec.toNat_setWidth, BitVec.toNat_ushiftRight, Nat.shiftRight_eq_div_pow]; omega)
    rw [k1, k2]
/-- what the two bytes of a place tell -/
def plN (b : Bk) : Nat := numB ((b.drop 8).take 2)
theorem plN_lt (b : Bk) : plN b < 65536 := by
  have := numB_lt (l := (b.drop 8).take 2) (by rw [List.length_take]; omega)
  have h2 : 256 ^ ((b.drop 8).take 2).length ≤ 256 ^ 2 := Nat.pow_le_pow_right (by decide) (by rw [List.length_take]; omega)
  unfold plN
  omega
theorem place_toNat (b : Bk) : (placeIn b).toNat = plN b := by
  have h := plN_lt b
  unfold placeIn
  rw [BitVec.toNat_setWidth, num_toNat (by rw [List.length_take]; omega)]
  unfold plN at h ⊢
  omega
theorem mark_gen (b : Bk) : (markIn b).1.toNat = numB (b.take 4) := num_toNat (by rw [List.length_take]; omega)
theorem mark_rec (b : Bk) : (markIn b).2.1.toNat = numB ((b.drop 4).take 4) := num_toNat (by rw [List.length_take]; omega)
theorem mark_place (b : Bk) : (markIn b).2.2.1.toNat = plN b % 32768 := by
  show (placeIn b % 32768#16).toNat = _
  rw [BitVec.toNat_umod, place_toNat]
  rfl
theorem mark_last (b : Bk) : (markIn b).2.2.2 = decide (32768 ≤ plN b) := by
  show decide (32768 ≤ (placeIn b).toNat) = _
  rw [place_toNat]
theorem mb_mark {l : Bk} (h : 10 ≤ l.length) : mb (markIn l) = l.take 10 := by
  have e3 : plc (markIn l) = num32 ((l.drop 8).take 2) := by
    apply BitVec.eq_of_toNat_eq
    have h1 := mark_place l
    have h2 := mark_last l
    have h3 := plN_lt l
    have h4 : (num32 ((l.drop 8).take 2)).toNat = plN l := num_toNat (by rw [List.length_take]; omega)
    unfold plc
    rw [h2, h4]
    by_cases hh : 32768 ≤ plN l
    · rw [if_pos (decide_eq_true hh), BitVec.toNat_add, BitVec.toNat_setWidth, h1, show (32768#32).toNat = 32768 from rfl]
      omega
    · rw [if_neg (by simpa using hh), BitVec.toNat_setWidth, h1]
      omega
  unfold mb
  rw [e3, be_num2 (by rw [List.length_take, List.length_drop]; omega)]
  show be (num32 (l.take 4)) 4 ++ be (num32 ((l.drop 4).take 4)) 4 ++ (l.drop 8).take 2 = _
  rw [be_num4 (by rw [List.length_take]; omega), be_num4 (by rw [List.length_take, List.length_drop]; omega)]
  rw [show 10 = 4 + (4 + 2) from rfl, List.take_add, List.take_add, List.drop_drop, List.append_assoc]
theorem mark_inj {l l' : Bk} (h : 10 ≤ l.length) (h' : 10 ≤ l'.length) : markIn l = markIn l' ↔ l.take 10 = l'.take 10 := by
  constructor
  · intro e
    rw [← mb_mark h, ← mb_mark h', e]
  · intro e
    have k : ∀ x : Bk, 10 ≤ x.length → markIn x = markIn (x.take 10) := fun x hx => by
      have a1 : (x.take 10).take 4 = x.take 4 := by rw [List.take_take]; rfl
      have a2 : ((x.take 10).drop 4).take 4 = (x.drop 4).take 4 := by rw [List.drop_take, List.take_take]; rfl
      have a3 : ((x.take 10).drop 8).take 2 = (x.drop 8).take 2 := by rw [List.drop_take, List.take_take]; rfl
      unfold markIn placeIn
      rw [a1, a2, a3]
    rw [k l h, k l' h', e]
/-- whether a block is whole, as the document says it -/
theorem whole_is {b : Bk} (hb : b.length = 64) : wholeB b = (decide (b.take 10 = b.drop 54) && (decide (numB ((b.drop 10).take 2) ≤ 42) && (decide (numB ((b.drop 10).take 2) = 42) || decide (32768 ≤ plN b)))) := by
  have hc : cnt b = numB ((b.drop 10).take 2) := num_toNat (by rw [List.length_take]; omega)
  have e : (b.drop 54).take 10 = b.drop 54 := List.take_of_length_le (by rw [List.length_drop]; omega)
  unfold wholeB
  rw [hc, mark_last]
  congr 1
  have := mark_inj (l := b) (l' := b.drop 54) (by omega) (by rw [List.length_drop]; omega)
  rw [e] at this
  exact decide_eq_decide.2 this
/-! ### walks -/
theorem goes_rnum15 : Goes Try.prog 57 := ⟨_, Try.func57, rfl, by kernel_rfl⟩
theorem rnum15_any (s : Sl8) (w : World) (hs : s.ok w) (hl : s.l.length ≤ 4) : Calls Try.prog 57 [s.v].toArray w fun e w' => e = .returned (N (numB s.l)) ∧ Ext w w' := by
  refine enter (n := 20) Try.func57 rfl rfl rfl (Holds.start w []) ?_
  repeat (first | refine JL.q (by (apply OQ.assign; exact rfl)) rfl ?_ | refine JC.seq ?_ | refine JC.region ?_ | refine JC.block ?_ | refine JL.nil ?_ | refine JE.next ?_)
  refine JC.loop (fun i : Nat => [(0, s.v), (3, N (numB (s.l.take i))), (4, N i)]) (fun _ => []) (fun i => s.l.length - i) (fun i => i ≤ s.l.length) 0 (Nat.zero_le _) (by repeat (first | exact SubE.nil | refine SubE.cons _ _ _ rfl ?_)) (Less.refl _) ?_
  intro i hi
  repeat (first | refine JL.q (by first | (apply OQ.len (k := s.l.length) (ad := s.ad) (cap := s.cap); exact Try.underlying31; exact rfl) | (apply OQ.move; exact rfl) | (apply OQ.lssN; exact rfl; exact rfl)) rfl ?_ | refine JC.seq ?_ | refine JC.region ?_ | refine JL.nil ?_ | refine JE.next ?_)
  refine JC.cond rfl (fun h => ?_) (fun h => ?_)
  · have hi' : i < s.l.length := by have := of_decide_eq_true h; omega
    clear h
    obtain ⟨b, j, hae, hca⟩ := hs.reads.at (by simp; omega)
    have hca := hca i _ (map_at U8 0 hi')
    have hsv : s.v = .slice (some ⟨b, j, none⟩) s.l.length s.cap := by rw [← hae]; rfl
    have e : numB (s.l.take (i + 1)) = 256 * numB (s.l.take i) + (s.l.getD i 0).toNat := by
      rw [List.take_succ_eq_append_getElem hi']
      unfold numB
      rw [List.foldl_append]
      simp [hi']
    have hlt := numB_lt (l := s.l.take i) (by rw [List.length_take]; omega)
    have h2 : 256 ^ (s.l.take i).length ≤ 256 ^ 4 := Nat.pow_le_pow_right (by decide) (by rw [List.length_take]; omega)
    have hc := (s.l.getD i 0).isLt
    rw [hsv]
    repeat (first | refine JL.q (by first | (apply OQ.mulN (a := 256); exact rfl; exact rfl; exact (by omega)) | (apply OQ.idxS1; exact Try.underlying31; exact u8s; exact rfl; exact rfl; exact hi') | (apply OQ.load_old; exact u8c; exact rfl; exact (block_lt_of_cell hca); exact (by simp); exact hca) | (apply OQ.conv8_N; exact Try.underlying5; exact Try.underlying3; exact rfl) | (apply OQ.move; exact rfl) | (apply OQ.assign; exact rfl) | (apply OQ.addN; exact rfl; exact rfl; exact (by (try simp only []); omega))) rfl ?_ | refine JC.seq ?_ | refine JC.region ?_ | refine JC.block ?_ | refine JC.skip ?_ | refine JL.nil ?_ | refine JE.next ?_ | refine JE.blk_normal ?_)
    rw [← hsv, ← e]
    exact JE.again (i := i) (i + 1) hi' (by omega) (by repeat (first | exact SubE.nil | refine SubE.cons _ _ _ rfl ?_)) (Less.refl _)
  · have hi' : i = s.l.length := by have := of_decide_eq_false h; omega
    subst hi'
    rw [List.take_length]
    repeat (first | refine JL.q (by first | (apply OQ.move; exact rfl) | (apply OQ.assign; exact rfl)) rfl ?_ | refine JC.seq ?_ | refine JC.region ?_ | refine JC.exit ?_ | refine JL.nil ?_ | refine JE.next ?_ | refine JE.then_exit ?_ | refine JE.blk_hit ?_)
    refine JC.ret ?_
    skip
    exact JE.ret1 rfl (RV.tmp rfl) fun w' hw => ⟨rfl, hw.chg⟩
theorem goes_rgen15 : Goes Try.prog 77 := ⟨_, Try.func77, rfl, by kernel_rfl⟩
theorem rgen15_any (b : Bk) (hb : b.length = 64) (w : World) : Calls Try.prog 77 [.agg (bc b).toArray].toArray w fun e w' => e = .returned (N (markIn b).1.toNat) ∧ Ext w w' := by
  refine enter (n := 5) Try.func77 rfl rfl rfl (Holds.start w []) ?_
  rw [mark_gen]
  repeat (first | refine JC.seq ?_ | refine JC.region ?_)
  refine JL.box (r := bc b) rfl rfl rfl fun b1 _ => ?_
  have c := fun {u w' : World} {S : List Nat} {M : List Ent} (hw' : Holds u S M w') (hM : Has M b1 (Row 83 (bc b)) true) => rnum15_any _ w' (mid_ok (lo := 0) (k := 4) hw' hM hb (by decide) (by decide)) (by show ((b.drop 0).take 4).length ≤ 4; rw [List.length_take]; omega)
  repeat (first | refine JL.q (by first | (apply OQ.slMid (lo := 0) (hi := 4); exact hb; exact Try.underlying83; exact u8s; exact rfl; exact rfl; exact rfl; exact (by decide); exact (by decide); exact (by decide)) | (apply OQ.callx (vs := [(⟨some ⟨b1, 0 + 0, none⟩, 64 - 0, (b.drop 0).take 4⟩ : Sl8).v]); exact goes_rnum15; exact rfl; exact (fun w' hw' => c hw' .here)) | (apply OQ.assign; exact rfl)) rfl ?_ | refine JC.seq ?_ | refine JC.region ?_ | refine JL.nil ?_ | refine JE.next ?_)
  exact JC.ret (JE.ret1 rfl (RV.tmp rfl) fun w' hw => ⟨rfl, hw.chg⟩)
theorem goes_rrec15 : Goes Try.prog 78 := ⟨_, Try.func78, rfl, by kernel_rfl⟩
theorem rrec15_any (b : Bk) (hb : b.length = 64) (w : World) : Calls Try.prog 78 [.agg (bc b).toArray].toArray w fun e w' => e = .returned (N (markIn b).2.1.toNat) ∧ Ext w w' := by
  refine enter (n := 5) Try.func78 rfl rfl rfl (Holds.start w []) ?_
  rw [mark_rec]
  repeat (first | refine JC.seq ?_ | refine JC.region ?_)
  refine JL.box (r := bc b) rfl rfl rfl fun b1 _ => ?_
  have c := fun {u w' : World} {S : List Nat} {M : List Ent} (hw' : Holds u S M w') (hM : Has M b1 (Row 83 (bc b)) true) => rnum15_any _ w' (mid_ok (lo := 4) (k := 4) hw' hM hb (by decide) (by decide)) (by show ((b.drop 4).take 4).length ≤ 4; rw [List.length_take]; omega)
  repeat (first | refine JL.q (by first | (apply OQ.slMid (lo := 4) (hi := 8); exact hb; exact Try.underlying83; exact u8s; exact rfl; exact rfl; exact rfl; exact (by decide); exact (by decide); exact (by decide)) | (apply OQ.callx (vs := [(⟨some ⟨b1, 0 + 4, none⟩, 64 - 4, (b.drop 4).take 4⟩ : Sl8).v]); exact goes_rnum15; exact rfl; exact (fun w' hw' => c hw' .here)) | (apply OQ.assign; exact rfl)) rfl ?_ | refine JC.seq ?_ | refine JC.region ?_ | refine JL.nil ?_ | refine JE.next ?_)
  exact JC.ret (JE.ret1 rfl (RV.tmp rfl) fun w' hw => ⟨rfl, hw.chg⟩)
theorem goes_rplace15 : Goes Try.prog 79 := ⟨_, Try.func79, rfl, by kernel_rfl⟩
theorem rplace15_any (b : Bk) (hb : b.length = 64) (w : World) : Calls Try.prog 79 [.agg (bc b).toArray].toArray w fun e w' => e = .returned (N (plN b)) ∧ Ext w w' := by
  refine enter (n := 5) Try.func79 rfl rfl rfl (Holds.start w []) ?_
  repeat (first | refine JC.seq ?_ | refine JC.region ?_)
  refine JL.box (r := bc b) rfl rfl rfl fun b1 _ => ?_
  have c := fun {u w' : World} {S : List Nat} {M : List Ent} (hw' : Holds u S M w') (hM : Has M b1 (Row 83 (bc b)) true) => rnum15_any _ w' (mid_ok (lo := 8) (k := 2) hw' hM hb (by decide) (by decide)) (by show ((b.drop 8).take 2).length ≤ 4; rw [List.length_take]; omega)
  repeat (first | refine JL.q (by first | (apply OQ.slMid (lo := 8) (hi := 10); exact hb; exact Try.underlying83; exact u8s; exact rfl; exact rfl; exact rfl; exact (by decide); exact (by decide); exact (by decide)) | (apply OQ.callx (vs := [(⟨some ⟨b1, 0 + 8, none⟩, 64 - 8, (b.drop 8).take 2⟩ : Sl8).v]); exact goes_rnum15; exact rfl; exact (fun w' hw' => c hw' .here)) | (apply OQ.assign; exact rfl)) rfl ?_ | refine JC.seq ?_ | refine JC.region ?_ | refine JL.nil ?_ | refine JE.next ?_)
  exact JC.ret (JE.ret1 rfl (RV.tmp rfl) fun w' hw => ⟨rfl, hw.chg⟩)
theorem goes_rwhole15 : Goes Try.prog 76 := ⟨_, Try.func76, rfl, by kernel_rfl⟩
set_option maxHeartbeats 4000000 in
theorem rwhole15_any (b : Bk) (hb : b.length = 64) (w : World) : Calls Try.prog 76 [.agg (bc b).toArray].toArray w fun e w' => e = .returned (.bool (wholeB b)) ∧ Ext w w' := by
  refine enter (n := 22) Try.func76 rfl rfl rfl (Holds.start w []) ?_
  rw [whole_is hb]
  repeat (first | refine JC.seq ?_ | refine JC.region ?_)
  refine JL.box (r := bc b) rfl rfl rfl fun b1 _ => ?_
  have c10 := fun {u w' : World} {S : List Nat} {M : List Ent} (hw' : Holds u S M w') (hM : Has M b1 (Row 83 (bc b)) true) => rnum15_any _ w' (mid_ok (lo := 10) (k := 2) hw' hM hb (by decide) (by decide)) (by show ((b.drop 10).take 2).length ≤ 4; rw [List.length_take]; omega)
  have c8 := fun {u w' : World} {S : List Nat} {M : List Ent} (hw' : Holds u S M w') (hM : Has M b1 (Row 83 (bc b)) true) => rnum15_any _ w' (mid_ok (lo := 8) (k := 2) hw' hM hb (by decide) (by decide)) (by show ((b.drop 8).take 2).length ≤ 4; rw [List.length_take]; omega)
  have cS := fun {u w' : World} {S : List Nat} {M : List Ent} (hw' : Holds u S M w') (hM : Has M b1 (Row 83 (bc b)) true) => same_any (⟨some ⟨b1, 0, none⟩, 64, b.take 10⟩ : Sl8) (⟨some ⟨b1, 0 + 54, none⟩, 64 - 54, b.drop 54⟩ : Sl8) w' (by have := mid_ok (lo := 0) (k := 10) hw' hM hb (by decide) (by decide); exact this) (end_ok hw' hM hb (by decide)) (by show (b.take 10).length < _; rw [List.length_take]; omega)
  repeat (first | refine JL.q (by first | (apply OQ.slMid (lo := 10) (hi := 12); exact hb; exact Try.underlying83; exact u8s; exact rfl; exact rfl; exact rfl; exact (by decide); exact (by decide); exact (by decide)) | (apply OQ.callx (vs := [(⟨some ⟨b1, 0 + 10, none⟩, 64 - 10, (b.drop 10).take 2⟩ : Sl8).v]); exact goes_rnum15; exact rfl; exact (fun w' hw' => c10 hw' .here)) | (apply OQ.assign; exact rfl)) rfl ?_ | refine JC.seq ?_ | refine JC.region ?_ | refine JL.nil ?_ | refine JE.next ?_)
  have hv10 : (Value.slice (some ⟨b1, 0, none⟩) 10 64) = (⟨some ⟨b1, 0, none⟩, 64, b.take 10⟩ : Sl8).v := by
    have : (b.take 10).length = 10 := by rw [List.length_take]; omega
    simp only [Sl8.v, this]
  dsimp only at cS
  generalize hn : numB ((b.drop 10).take 2) = nn
  refine JC.tail 16 mixT (by kernel_rfl) ?_
  simp only [List.take_succ_cons, List.take_zero, List.drop_succ_cons, List.drop_zero]
  cases g1 : decide (b.take 10 = b.drop 54)
  case false =>
    rw [g1] at cS
    repeat (first | refine JL.q (by first | (apply OQ.to; exact (OQ.slA_hi (hi := 10) Try.underlying83 u8s rfl rfl (by decide)); exact hv10) | (apply OQ.slEnd (lo := 54); exact hb; exact Try.underlying83; exact u8s; exact rfl; exact rfl; exact (by decide)) | (apply OQ.callx (vs := [(⟨some ⟨b1, 0, none⟩, 64, b.take 10⟩ : Sl8).v, (⟨some ⟨b1, 0 + 54, none⟩, 64 - 54, b.drop 54⟩ : Sl8).v]); exact goes_same; exact rfl; exact (fun w' hw' => cS hw' .here)) | (apply OQ.pick_f; exact rfl; exact rfl) | (apply OQ.move; exact rfl) | (apply OQ.assign; exact rfl)) rfl ?_ | refine JQ.q (by first | (apply OQ.to; exact (OQ.slA_hi (hi := 10) Try.underlying83 u8s rfl rfl (by decide)); exact hv10) | (apply OQ.slEnd (lo := 54); exact hb; exact Try.underlying83; exact u8s; exact rfl; exact rfl; exact (by decide)) | (apply OQ.callx (vs := [(⟨some ⟨b1, 0, none⟩, 64, b.take 10⟩ : Sl8).v, (⟨some ⟨b1, 0 + 54, none⟩, 64 - 54, b.drop 54⟩ : Sl8).v]); exact goes_same; exact rfl; exact (fun w' hw' => cS hw' .here)) | (apply OQ.pick_f; exact rfl; exact rfl) | (apply OQ.move; exact rfl) | (apply OQ.assign; exact rfl)) rfl ?_ | refine JL.nil ?_ | refine JQ.nil_tail ?_ | refine JE.next ?_ | refine JQ.gskip rfl rfl rfl rfl ?_ | refine JQ.gskipU rfl rfl rfl rfl ?_)
    exact JC.ret (JE.ret1 rfl (RV.tmp rfl) fun w' hw => ⟨by simp, hw.chg⟩)
  rw [g1] at cS
  cases g2 : decide ((nn : Int) ≤ 42)
  case false =>
    have e2 : decide (nn ≤ 42) = false := decide_eq_false (by have := of_decide_eq_false g2; omega)
    rw [e2]
    repeat (first | refine JL.q (by first | (apply OQ.to; exact (OQ.slA_hi (hi := 10) Try.underlying83 u8s rfl rfl (by decide)); exact hv10) | (apply OQ.slEnd (lo := 54); exact hb; exact Try.underlying83; exact u8s; exact rfl; exact rfl; exact (by decide)) | (apply OQ.callx (vs := [(⟨some ⟨b1, 0, none⟩, 64, b.take 10⟩ : Sl8).v, (⟨some ⟨b1, 0 + 54, none⟩, 64 - 54, b.drop 54⟩ : Sl8).v]); exact goes_same; exact rfl; exact (fun w' hw' => cS hw' .here)) | (apply OQ.leqB (b := 42); exact rfl; exact rfl; exact g2) | (apply OQ.pick_t; exact rfl; exact rfl) | (apply OQ.pick_f; exact rfl; exact rfl) | (apply OQ.move; exact rfl) | (apply OQ.assign; exact rfl)) rfl ?_ | refine JQ.q (by first | (apply OQ.to; exact (OQ.slA_hi (hi := 10) Try.underlying83 u8s rfl rfl (by decide)); exact hv10) | (apply OQ.slEnd (lo := 54); exact hb; exact Try.underlying83; exact u8s; exact rfl; exact rfl; exact (by decide)) | (apply OQ.callx (vs := [(⟨some ⟨b1, 0, none⟩, 64, b.take 10⟩ : Sl8).v, (⟨some ⟨b1, 0 + 54, none⟩, 64 - 54, b.drop 54⟩ : Sl8).v]); exact goes_same; exact rfl; exact (fun w' hw' => cS hw' .here)) | (apply OQ.leqB (b := 42); exact rfl; exact rfl; exact g2) | (apply OQ.pick_t; exact rfl; exact rfl) | (apply OQ.pick_f; exact rfl; exact rfl) | (apply OQ.move; exact rfl) | (apply OQ.assign; exact rfl)) rfl ?_ | refine JL.nil ?_ | refine JQ.nil_tail ?_ | refine JE.next ?_ | refine JQ.gon rfl rfl ?_ | refine JQ.gskip rfl rfl rfl rfl ?_ | refine JQ.gskipU rfl rfl rfl rfl ?_)
    exact JC.ret (JE.ret1 rfl (RV.tmp rfl) fun w' hw => ⟨by simp, hw.chg⟩)
  have e2 : decide (nn ≤ 42) = true := decide_eq_true (by have := of_decide_eq_true g2; omega)
  rw [e2]
  cases g3 : decide ((nn : Int) = 42)
  case true =>
    have e3 : decide (nn = 42) = true := decide_eq_true (by have := of_decide_eq_true g3; omega)
    rw [e3]
    repeat (first | refine JL.q (by first | (apply OQ.to; exact (OQ.slA_hi (hi := 10) Try.underlying83 u8s rfl rfl (by decide)); exact hv10) | (apply OQ.slEnd (lo := 54); exact hb; exact Try.underlying83; exact u8s; exact rfl; exact rfl; exact (by decide)) | (apply OQ.callx (vs := [(⟨some ⟨b1, 0, none⟩, 64, b.take 10⟩ : Sl8).v, (⟨some ⟨b1, 0 + 54, none⟩, 64 - 54, b.drop 54⟩ : Sl8).v]); exact goes_same; exact rfl; exact (fun w' hw' => cS hw' .here)) | (apply OQ.leqB (b := 42); exact rfl; exact rfl; exact g2) | (apply OQ.eqB (b := 42); exact rfl; exact rfl; exact g3) | (apply OQ.pick_t; exact rfl; exact rfl) | (apply OQ.move; exact rfl) | (apply OQ.assign; exact rfl)) rfl ?_ | refine JQ.q (by first | (apply OQ.to; exact (OQ.slA_hi (hi := 10) Try.underlying83 u8s rfl rfl (by decide)); exact hv10) | (apply OQ.slEnd (lo := 54); exact hb; exact Try.underlying83; exact u8s; exact rfl; exact rfl; exact (by decide)) | (apply OQ.callx (vs := [(⟨some ⟨b1, 0, none⟩, 64, b.take 10⟩ : Sl8).v, (⟨some ⟨b1, 0 + 54, none⟩, 64 - 54, b.drop 54⟩ : Sl8).v]); exact goes_same; exact rfl; exact (fun w' hw' => cS hw' .here)) | (apply OQ.leqB (b := 42); exact rfl; exact rfl; exact g2) | (apply OQ.eqB (b := 42); exact rfl; exact rfl; exact g3) | (apply OQ.pick_t; exact rfl; exact rfl) | (apply OQ.move; exact rfl) | (apply OQ.assign; exact rfl)) rfl ?_ | refine JL.nil ?_ | refine JQ.nil_tail ?_ | refine JE.next ?_ | refine JQ.gon rfl rfl ?_ | refine JQ.gskip rfl rfl rfl rfl ?_)
    exact JC.ret (JE.ret1 rfl (RV.tmp rfl) fun w' hw => ⟨by simp, hw.chg⟩)
  have e3 : decide (nn = 42) = false := decide_eq_false (by have := of_decide_eq_false g3; omega)
  rw [e3]
  have e4 : decide ((32768 : Int) ≤ ((plN b : Nat) : Int)) = decide (32768 ≤ plN b) := decide_eq_decide.2 (by omega)
  repeat (first | refine JL.q (by first | (apply OQ.to; exact (OQ.slA_hi (hi := 10) Try.underlying83 u8s rfl rfl (by decide)); exact hv10) | (apply OQ.slEnd (lo := 54); exact hb; exact Try.underlying83; exact u8s; exact rfl; exact rfl; exact (by decide)) | (apply OQ.callx (vs := [(⟨some ⟨b1, 0, none⟩, 64, b.take 10⟩ : Sl8).v, (⟨some ⟨b1, 0 + 54, none⟩, 64 - 54, b.drop 54⟩ : Sl8).v]); exact goes_same; exact rfl; exact (fun w' hw' => cS hw' .here)) | (apply OQ.leqB (b := 42); exact rfl; exact rfl; exact g2) | (apply OQ.eqB (b := 42); exact rfl; exact rfl; exact g3) | (apply OQ.slMid (lo := 8) (hi := 10); exact hb; exact Try.underlying83; exact u8s; exact rfl; exact rfl; exact rfl; exact (by decide); exact (by decide); exact (by decide)) | (apply OQ.callx (vs := [(⟨some ⟨b1, 0 + 8, none⟩, 64 - 8, (b.drop 8).take 2⟩ : Sl8).v]); exact goes_rnum15; exact rfl; exact (fun w' hw' => c8 hw' .here)) | (apply OQ.geqB (a := ((plN b : Nat) : Int)) (b := 32768); exact rfl; exact rfl; exact e4) | (apply OQ.pick_t; exact rfl; exact rfl) | (apply OQ.pick_f; exact rfl; exact rfl) | (apply OQ.move; exact rfl) | (apply OQ.assign; exact rfl)) rfl ?_ | refine JQ.q (by first | (apply OQ.to; exact (OQ.slA_hi (hi := 10) Try.underlying83 u8s rfl rfl (by decide)); exact hv10) | (apply OQ.slEnd (lo := 54); exact hb; exact Try.underlying83; exact u8s; exact rfl; exact rfl; exact (by decide)) | (apply OQ.callx (vs := [(⟨some ⟨b1, 0, none⟩, 64, b.take 10⟩ : Sl8).v, (⟨some ⟨b1, 0 + 54, none⟩, 64 - 54, b.drop 54⟩ : Sl8).v]); exact goes_same; exact rfl; exact (fun w' hw' => cS hw' .here)) | (apply OQ.leqB (b := 42); exact rfl; exact rfl; exact g2) | (apply OQ.eqB (b := 42); exact rfl; exact rfl; exact g3) | (apply OQ.slMid (lo := 8) (hi := 10); exact hb; exact Try.underlying83; exact u8s; exact rfl; exact rfl; exact rfl; exact (by decide); exact (by decide); exact (by decide)) | (apply OQ.callx (vs := [(⟨some ⟨b1, 0 + 8, none⟩, 64 - 8, (b.drop 8).take 2⟩ : Sl8).v]); exact goes_rnum15; exact rfl; exact (fun w' hw' => c8 hw' .here)) | (apply OQ.geqB (a := ((plN b : Nat) : Int)) (b := 32768); exact rfl; exact rfl; exact e4) | (apply OQ.pick_t; exact rfl; exact rfl) | (apply OQ.pick_f; exact rfl; exact rfl) | (apply OQ.move; exact rfl) | (apply OQ.assign; exact rfl)) rfl ?_ | refine JL.nil ?_ | refine JQ.nil_tail ?_ | refine JE.next ?_ | refine JQ.gon rfl rfl ?_)
  exact JC.ret (JE.ret1 rfl (RV.tmp rfl) fun w' hw => ⟨by simp, hw.chg⟩)
end Go.Proofs.Ytkadoibacliepaa

/-
  Of no statement by itself: what the reference's Half, Disk, Newest tell, by definition; that it is what the landed journal reads.
  Conditions: each theorem's own.
-/
namespace Go.Proofs.Ytkadoibacliepaa
open Sl Dsk Jrn
/-- does a block go on with a record, as the reference asks it -/
def goesOn (g r p : Nat) (b : Bk) : Bool := wholeB b && (decide ((markIn b).1.toNat = g) && (decide ((markIn b).2.1.toNat = r) && decide (plN b % 32768 = p)))
/-- the reference's walk over a half's blocks -/
def scanR (g : Nat) : List Bk → List Bk → Bk → Nat → List Bk
  | [], out, _, _ => out
  | b :: bs, out, part, p => if goesOn g out.length p b = true then
      (if 32768 ≤ plN b then scanR g bs (out ++ [part ++ partOf b]) [] 0 else scanR g bs out (part ++ partOf b) (p + 1)) else out
theorem goes_is {g : BitVec 32} {r p : Nat} {b : Bk} (hr : r < 4294967296) (hp : p < 65536) : goesOn g.toNat r p b = true ↔ wholeB b = true ∧ markIn b = (g, BitVec.ofNat 32 r, BitVec.ofNat 16 p, (markIn b).2.2.2) := by
  unfold goesOn
  simp only [Bool.and_eq_true, decide_eq_true_eq]
  constructor
  · rintro ⟨h1, h2, h3, h4⟩
    refine ⟨h1, ?_⟩
    have e1 : (markIn b).1 = g := BitVec.eq_of_toNat_eq h2
    have e2 : (markIn b).2.1 = BitVec.ofNat 32 r := BitVec.eq_of_toNat_eq (by rw [h3, BitVec.toNat_ofNat]; omega)
    have e3 : (markIn b).2.2.1 = BitVec.ofNat 16 p := BitVec.eq_of_toNat_eq (by rw [mark_place, h4, BitVec.toNat_ofNat]; omega)
    rw [← e1, ← e2, ← e3]
  · rintro ⟨h1, h2⟩
    have e1 : (markIn b).1 = g := by rw [h2]
    have e2 : (markIn b).2.1 = BitVec.ofNat 32 r := by rw [h2]
    have e3 : (markIn b).2.2.1 = BitVec.ofNat 16 p := by rw [h2]
    refine ⟨h1, by rw [e1], by rw [e2, BitVec.toNat_ofNat]; omega, ?_⟩
    have := mark_place b
    rw [e3, BitVec.toNat_ofNat] at this
    omega
/-- the records behind a place, as the landed journal reads them -/
def tailN (g : BitVec 32) (f : Nat) (bs : List Bk) (n p : Nat) (part : Bk) : List Bk := match rd g n bs p part with
  | some (rec, k) => rec :: toldN g f (bs.drop (k - p)) (n + 1)
  | none => []
theorem toldN_tail (g : BitVec 32) (f : Nat) (bs : List Bk) (n : Nat) : toldN g (f + 1) bs n = tailN g f bs n 0 [] := by
  rw [toldN, tailN]
  cases rd g n bs 0 [] with
  | none => rfl
  | some rk => rfl
theorem scan_told {g : BitVec 32} : ∀ (bs out : List Bk) (part : Bk) (p f : Nat), bs.length ≤ f → p + bs.length ≤ 65535 → out.length + bs.length < 4294967296 → scanR g.toNat bs out part p = out ++ tailN g f bs out.length p part
  | [], out, part, p, f, _, _, _ => by
    unfold tailN rd
    simp [scanR]
  | b :: bs, out, part, p, f, hf, hp, ho => by
    simp only [List.length_cons] at hf hp ho
    have hg := goes_is (g := g) (r := out.length) (p := p) (b := b) (by omega) (by omega)
    unfold scanR tailN
    rw [rd]
    by_cases hc : goesOn g.toNat out.length p b = true
    · rw [if_pos hc, if_pos (hg.1 hc), mark_last]
      by_cases hl : 32768 ≤ plN b
      · rw [if_pos hl, if_pos (decide_eq_true hl)]
        obtain ⟨f, rfl⟩ : ∃ f', f = f' + 1 := ⟨f - 1, by omega⟩
        have ih := scan_told (g := g) bs (out ++ [part ++ partOf b]) [] 0 f (by omega) (by omega) (by rw [List.length_append, List.length_singleton]; omega)
        rw [ih]
        simp only [Nat.add_sub_cancel_left, List.drop_succ_cons, List.drop_zero]
        rw [toldN_tail, List.append_assoc, List.length_append]
        rfl
      · rw [if_neg hl, if_neg (by simpa using hl)]
        have ih := scan_told (g := g) bs out (part ++ partOf b) (p + 1) f (by omega) (by omega) (by omega)
        rw [ih]
        unfold tailN
        cases e : rd g out.length bs (p + 1) (part ++ partOf b) with
        | none => rfl
        | some rk =>
          obtain ⟨rec, k⟩ := rk
          have := rd_le e
          dsimp only
          rw [show k - p = (k - (p + 1)) + 1 by omega, List.drop_succ_cons]
    · rw [if_neg hc, if_neg (fun h => hc (hg.2 h)), List.append_nil]
/-- a half's generation and records, as the reference tells them -/
def halfR (bs : List Bk) : Nat × List Bk :=
  if bs = [] ∨ wholeB (old bs 0) = false ∨ (markIn (old bs 0)).1.toNat = 0 then (0, []) else
    (if scanR (markIn (old bs 0)).1.toNat bs [] [] 0 = [] then 0 else (markIn (old bs 0)).1.toNat, scanR (markIn (old bs 0)).1.toNat bs [] [] 0)
theorem halfR_is {bl : List Bk} {first : Nat} (hs : first + bl.length / 2 ≤ bl.length) (h0 : 0 < bl.length / 2) (hn : bl.length ≤ 65536) :
    (halfR (bsOf bl first (bl.length / 2) 0)).1 = (genH bl first).toNat ∧ (0 < (genH bl first).toNat → (halfR (bsOf bl first (bl.length / 2) 0)).2 = recH bl first) := by
  have hl := bsOf_len (at' := 0) hs
  have h1 := bsOf_at (bl := bl) (first := first) (size := bl.length / 2) (at' := 0) (p := 0) hs (by omega)
  rw [List.drop_zero] at h1
  have hold : old (bsOf bl first (bl.length / 2) 0) 0 = old bl first := by rw [h1]; rfl
  have hr : recH bl first = told (markIn (old bl first)).1 (bsOf bl first (bl.length / 2) 0) := rfl
  unfold halfR genH
  rw [hold, hr]
  generalize hB : bsOf bl first (bl.length / 2) 0 = bs at hl h1 ⊢
  have hne : bs ≠ [] := fun e => by rw [e] at hl; simp at hl; omega
  have hsc := scan_told (g := (markIn (old bl first)).1) bs [] [] 0 bs.length (Nat.le_refl _) (by omega) (by simp; omega)
  rw [List.nil_append, List.length_nil, ← toldN_tail] at hsc
  have ht : told (markIn (old bl first)).1 bs = scanR (markIn (old bl first)).1.toNat bs [] [] 0 := hsc.symm
  by_cases hw : wholeB (old bl first) = false
  · rw [if_pos (.inr (.inl hw))]
    have : told (markIn (old bl first)).1 bs = [] := by
      unfold told toldN
      rw [h1, rd, if_neg (fun hh => by rw [show first + 0 + 0 = first from rfl, hw] at hh; cases hh.1)]
    rw [this]
    exact ⟨rfl, fun h => by simp at h⟩
  · by_cases hg : (markIn (old bl first)).1.toNat = 0
    · rw [if_pos (.inr (.inr hg))]
      refine ⟨?_, fun h => ?_⟩
      · split
        · rfl
        · exact hg.symm
      · exfalso
        split at h
        · simp at h
        · omega
    · rw [if_neg (by rintro (h | h | h); exact hne h; exact hw h; exact hg h), ← ht]
      refine ⟨?_, fun _ => rfl⟩
      by_cases he : told (markIn (old bl first)).1 bs = []
      · simp [he]
      · simp [he]
end Go.Proofs.Ytkadoibacliepaa

/-
  Of no statement by itself: slices of blocks as arguments; the reference's Newest, Half.
  Conditions: each theorem's own.
-/
namespace Go.Proofs.Ytkadoibacliepaa
set_option maxRecDepth 10000
open Sl Dsk Jrn
structure SlE where
  ad : Option Addr
  cap : Nat
  l : List Bk
def SlE.v (s : SlE) : Value := .slice s.ad s.l.length s.cap
structure SlE.ok (w : World) (s : SlE) : Prop where
  len : s.l.length ≤ s.cap
  reads : Reads w s.ad (bcs s.l).flatten
  all : ∀ b ∈ s.l, b.length = 64
theorem SlE.ok.ok {w : World} {s : SlE} (h : s.ok w) : Ok s.l [] := ⟨h.all, by simp⟩
/-- the i-th block's cells -/
theorem SlE.ok.at {w : World} {s : SlE} (h : s.ok w) {i : Nat} (hi : i < s.l.length) : ∃ b j, s.ad = some ⟨b, j, none⟩ ∧ b < w.heap.size ∧ ∀ k u, (bc (old s.l i))[k]? = some u → w.cell? ⟨b, j + i * 64 + k, none⟩ = some u := by
  have hl := chunk_len (bcs_len h.ok)
  rw [bcs_n] at hl
  have h0 : 0 < (bcs s.l).flatten.length := by omega
  obtain ⟨b, j, e, hc⟩ := h.reads.at h0
  refine ⟨b, j, e, ?_, fun k u hu => ?_⟩
  · obtain ⟨v, hv⟩ : ∃ v, (bcs s.l).flatten[0]? = some v := ⟨_, List.getElem?_eq_getElem h0⟩
    exact block_lt_of_cell (hc 0 v hv)
  · have hat := chunk_at (i := i) (bcs_len h.ok) (by rw [bcs_n]; exact hi)
    rw [bcs_at hi] at hat
    rw [← hat, List.getElem?_take] at hu
    split at hu
    · rw [List.getElem?_drop] at hu
      rw [Nat.add_assoc]
      exact hc _ u hu
    · cases hu
theorem SlE.ok.holds {w0 w : World} {S : List Nat} {M : List Ent} {s : SlE} (h : s.ok w0) (hw : Holds w0 S M w) (hS : S = []) : s.ok w := ⟨h.len, hw.reads h.reads (fun _ a _ => by rw [hS]; simp), h.all⟩
theorem slE_own {w0 w : World} {S : List Nat} {M : List Ent} {q cap : Nat} {l : List Bk} {wr : Bool} (hw : Holds w0 S M w) (hM : Has M q (Sl.Own 83 64 l.length cap (bcs l).flatten) wr) (hb : ∀ b ∈ l, b.length = 64) : SlE.ok w ⟨some ⟨q, 0, none⟩, cap, l⟩ := by
  obtain ⟨o, ho, hA⟩ := hw.get hM
  have hc := hA
  obtain ⟨sp, _, _, _, h4⟩ := hc
  exact ⟨h4, Reads.block ho (Sl.Own.cells o hA), hb⟩
/-- bytes of a block that lies in a slice -/
theorem cut_ok {w : World} {b o m lo k : Nat} {x : Bk} (hx : x.length = m) (hc : ∀ i u, (bc x)[i]? = some u → w.cell? ⟨b, o + i, none⟩ = some u) (h1 : lo ≤ m) (h2 : k ≤ m - lo) : Sl8.ok w ⟨some ⟨b, o + lo, none⟩, m - lo, (x.drop lo).take k⟩ := by
  refine ⟨by show ((x.drop lo).take k).length ≤ m - lo; rw [List.length_take, List.length_drop]; omega, fun i v hv => ⟨b, o + lo, rfl, ?_⟩⟩
  have hv' : (bc x)[lo + i]? = some v := by
    simp only [List.map_take, List.map_drop] at hv
    rw [List.getElem?_take] at hv
    split at hv
    · rw [List.getElem?_drop] at hv
      exact hv
    · cases hv
  have := hc (lo + i) v hv'
  rwa [← Nat.add_assoc] at this
theorem OQ.max3 {n : Nat} {E : Env} {C : World → Prop} {dst : Option Tmp} {ty t t' t'' : TypeId} {pos : String} {aft : Array Edge} {g : Option (Nat × Bool)} {x1 x2 x3 : Operand} {a b c : Nat} (h1 : ev E x1 = some (N a)) (h2 : ev E x2 = some (N b)) (h3 : ev E x3 = some (N c)) : OQ Try.prog n E C ⟨dst, .call ⟨.builtin .max, #[x1, x2, x3], #[t, t', t'']⟩, ty, pos, aft, g⟩ (N (max (max a b) c)) :=
  OQ.run fun ac ha w _ => by
    have e1 := ha.eval h1
    have e2 := ha.eval h2
    have e3 := ha.eval h3
    have k1 : (if a < b then (b : Int) else (a : Int)) = ((max a b : Nat) : Int) := by split <;> omega
    have k2 : (if max a b < c then (c : Int) else ((max a b : Nat) : Int)) = ((max (max a b) c : Nat) : Int) := by split <;> omega
    simp [execOp, e1, e2, e3, resolve, invoke, builtin, Builtin.max_, Builtin.max2, Sem.run_bind, N]
    by_cases h : a < b
    · simp only [h, if_true]
      by_cases h' : b < c <;> simp [h'] <;> omega
    · simp only [h, if_false]
      by_cases h' : a < c <;> simp [h'] <;> omega
theorem goes_newest : Goes Try.prog 23 := ⟨_, Try.func23, rfl, by kernel_rfl⟩
theorem gm_toNat_at {bl : List Bk} {p : Nat} (h : p < bl.length) : (gm (bl.take (p + 1))).toNat = max (max (gm (bl.take p)).toNat (markIn (old bl p)).1.toNat) (markIn ((old bl p).drop 54)).1.toNat := by
  rw [gm_at h, mx_toNat, mx_toNat]
set_option maxHeartbeats 8000000 in
theorem newest_any (s : SlE) (w : World) (hs : s.ok w) (hn : s.l.length ≤ 65536) : Calls Try.prog 23 [s.v].toArray w fun e w' => e = .returned (N ((gm s.l).toNat + 1)) ∧ Ext w w' := by
  refine enter (n := 25) Try.func23 rfl rfl rfl (Holds.start w []) ?_
  repeat (first | refine JL.q (by (apply OQ.assign; exact rfl)) rfl ?_ | refine JC.seq ?_ | refine JC.region ?_ | refine JC.block ?_ | refine JL.nil ?_ | refine JE.next ?_)
  refine JC.loop (fun i : Nat => [(0, s.v), (3, N (gm (s.l.take i)).toNat), (4, N i)]) (fun _ => []) (fun i => s.l.length - i) (fun i => i ≤ s.l.length) 0 (Nat.zero_le _) (by repeat (first | exact SubE.nil | refine SubE.cons _ _ _ rfl ?_)) (Less.refl _) ?_
  intro i hi
  repeat (first | refine JL.q (by first | (apply OQ.len (k := s.l.length) (ad := s.ad) (cap := s.cap); exact Try.underlying22; exact rfl) | (apply OQ.move; exact rfl) | (apply OQ.lssN; exact rfl; exact rfl)) rfl ?_ | refine JC.seq ?_ | refine JC.region ?_ | refine JL.nil ?_ | refine JE.next ?_)
  refine JC.cond rfl (fun h => ?_) (fun h => ?_)
  · have hi' : i < s.l.length := by have := of_decide_eq_true h; omega
    clear h
    obtain ⟨b, j, e, lb, c⟩ := hs.at hi'
    have hb : (old s.l i).length = 64 := hs.ok.old hi'
    have hg := gm_toNat_at hi'
    rw [mark_gen, mark_gen] at hg
    have k1 := fun w' (hw' : Holds w [] [] w') => rnum15_any _ w' ((cut_ok (lo := 0) (k := 4) hb c (by decide) (by decide)).holds hw' rfl) (by show (((old s.l i).drop 0).take 4).length ≤ 4; rw [List.length_take]; omega)
    have k2 := fun w' (hw' : Holds w [] [] w') => rnum15_any _ w' ((cut_ok (lo := 54) (k := 4) hb c (by decide) (by decide)).holds hw' rfl) (by show (((old s.l i).drop 54).take 4).length ≤ 4; rw [List.length_take]; omega)
    generalize old s.l i = x at hb hg k1 k2
    have hsv : s.v = .slice (some ⟨b, j, none⟩) s.l.length s.cap := by rw [← e]; rfl
    have v1 : (Value.slice (some ⟨b, j + i * 64 + 0, none⟩) (4 - 0) (64 - 0)) = (⟨some ⟨b, j + i * 64 + 0, none⟩, 64 - 0, (x.drop 0).take 4⟩ : Sl8).v := by
      have : ((x.drop 0).take 4).length = 4 - 0 := by rw [List.length_take, List.length_drop]; omega
      simp only [Sl8.v, this]
    have v2 : (Value.slice (some ⟨b, j + i * 64 + 54, none⟩) (58 - 54) (64 - 54)) = (⟨some ⟨b, j + i * 64 + 54, none⟩, 64 - 54, (x.drop 54).take 4⟩ : Sl8).v := by
      have : ((x.drop 54).take 4).length = 58 - 54 := by rw [List.length_take, List.length_drop]; omega
      simp only [Sl8.v, this]
    rw [hsv]
    repeat (first | refine JC.seq ?_ | refine JC.block ?_ | refine JC.skip ?_ | refine JE.next ?_)
    refine JC.tail 12 mixT (by kernel_rfl) ?_
    simp only [List.take_succ_cons, List.take_zero, List.drop_succ_cons, List.drop_zero]
    repeat (first | refine JL.q (by first | (apply OQ.idxS (i := i); exact Try.underlying22; exact dkB; exact rfl; exact rfl; exact hi') | (apply OQ.to; exact (OQ.slA_lohi (lo := 0) (hi := 4) (j := j + i * 64) Try.underlying83 u8s rfl rfl rfl (by decide) (by decide) (by decide)); exact v1) | (apply OQ.to; exact (OQ.slA_lohi (lo := 54) (hi := 58) (j := j + i * 64) Try.underlying83 u8s rfl rfl rfl (by decide) (by decide) (by decide)); exact v2) | (apply OQ.callx (vs := [(⟨some ⟨b, j + i * 64 + 0, none⟩, 64 - 0, (x.drop 0).take 4⟩ : Sl8).v]); exact goes_rnum15; exact rfl; exact (fun w' hw' => k1 w' hw')) | (apply OQ.callx (vs := [(⟨some ⟨b, j + i * 64 + 54, none⟩, 64 - 54, (x.drop 54).take 4⟩ : Sl8).v]); exact goes_rnum15; exact rfl; exact (fun w' hw' => k2 w' hw')) | (apply OQ.max3; exact rfl; exact rfl; exact rfl) | (apply OQ.move; exact rfl) | (apply OQ.assign; exact rfl) | (apply OQ.addN; exact rfl; exact rfl; exact (by (try simp only []); omega))) rfl ?_ | refine JQ.q (by first | (apply OQ.idxS (i := i); exact Try.underlying22; exact dkB; exact rfl; exact rfl; exact hi') | (apply OQ.to; exact (OQ.slA_lohi (lo := 0) (hi := 4) (j := j + i * 64) Try.underlying83 u8s rfl rfl rfl (by decide) (by decide) (by decide)); exact v1) | (apply OQ.to; exact (OQ.slA_lohi (lo := 54) (hi := 58) (j := j + i * 64) Try.underlying83 u8s rfl rfl rfl (by decide) (by decide) (by decide)); exact v2) | (apply OQ.callx (vs := [(⟨some ⟨b, j + i * 64 + 0, none⟩, 64 - 0, (x.drop 0).take 4⟩ : Sl8).v]); exact goes_rnum15; exact rfl; exact (fun w' hw' => k1 w' hw')) | (apply OQ.callx (vs := [(⟨some ⟨b, j + i * 64 + 54, none⟩, 64 - 54, (x.drop 54).take 4⟩ : Sl8).v]); exact goes_rnum15; exact rfl; exact (fun w' hw' => k2 w' hw')) | (apply OQ.max3; exact rfl; exact rfl; exact rfl) | (apply OQ.move; exact rfl) | (apply OQ.assign; exact rfl) | (apply OQ.addN; exact rfl; exact rfl; exact (by (try simp only []); omega))) rfl ?_ | refine JC.region ?_ | refine JL.nil ?_ | refine JQ.nil_tail ?_ | refine JE.next ?_ | refine JE.blk_normal ?_)
    exact JE.again (i := i) (i + 1) hi' (by omega) (by rw [hg]; exact (by repeat (first | exact SubE.nil | refine SubE.cons _ _ _ rfl ?_))) (Less.refl _)
  · have hi' : i = s.l.length := by have := of_decide_eq_false h; omega
    subst hi'
    rw [List.take_length]
    have := (gm s.l).isLt
    repeat (first | refine JL.q (by first | (apply OQ.addN (b := 1); exact rfl; exact rfl; exact (by omega)) | (apply OQ.move; exact rfl) | (apply OQ.assign; exact rfl)) rfl ?_ | refine JC.seq ?_ | refine JC.region ?_ | refine JC.exit ?_ | refine JL.nil ?_ | refine JE.next ?_ | refine JE.then_exit ?_ | refine JE.blk_hit ?_)
    refine JC.ret ?_
    skip
    exact JE.ret1 rfl (RV.tmp rfl) fun w' hw => ⟨rfl, hw.chg⟩
end Go.Proofs.Ytkadoibacliepaa

/-
  Of no statement by itself: the reference's Half.
  Conditions: each theorem's own.
-/
namespace Go.Proofs.Ytkadoibacliepaa
set_option maxRecDepth 10000
open Sl Dsk Jrn
/-- where the reference's walk is -/
structure Hz where
  i : Nat
  zq : Nat × Nat
  rs : List Sl8
  pq : Acc
  part : Bk
  p : Nat
def Hz.E (z : Hz) : List Ent := accE 31 (some z.zq) (z.rs.map Sl8.v) ++ (flatE z.rs ++ accE 5 z.pq (z.part.map U8))
structure Hz.ok (z : Hz) (g : Nat) (l : List Bk) : Prop where
  i : z.i ≤ l.length
  s : scanR g l [] [] 0 = scanR g (l.drop z.i) (z.rs.map Sl8.l) z.part z.p
  n : z.rs.length ≤ z.i
  p : z.p ≤ z.i
  l : z.part.length ≤ z.p * 42
  q : z.pq = none → z.part = []
  h0 : ∀ x ∈ z.rs, x.ad = none → x.l = []
theorem perm_hz (bl b9 : Ent) (A F P : List Ent) : (bl :: (P ++ b9 :: (A ++ F))).Perm (A ++ bl :: ((F ++ P) ++ [b9])) := by
  refine (List.Perm.cons _ ?_).trans List.perm_middle.symm
  rw [show A ++ ((F ++ P) ++ [b9]) = (A ++ F) ++ (P ++ [b9]) by simp [List.append_assoc], show P ++ b9 :: (A ++ F) = (P ++ [b9]) ++ (A ++ F) by simp]
  exact List.perm_append_comm
theorem perm_hz2 (b10 bl b9 : Ent) (A FP : List Ent) : (b10 :: (A ++ bl :: (FP ++ [b9]))).Perm (A ++ bl :: (FP ++ (b10 :: [b9]))) := by
  rw [show A ++ bl :: (FP ++ (b10 :: [b9])) = (A ++ bl :: FP) ++ b10 :: [b9] by simp, show A ++ bl :: (FP ++ [b9]) = (A ++ bl :: FP) ++ [b9] by simp]
  exact List.perm_middle.symm
theorem goes_rhalf15 : Goes Try.prog 58 := ⟨_, Try.func58, rfl, by kernel_rfl⟩
def grE (b : Nat) : Gr := ⟨some (b, 0), [], fun _ => rfl, nofun⟩
theorem cnt_num (b : Bk) : cnt b = numB ((b.drop 10).take 2) := num_toNat (by rw [List.length_take]; omega)
set_option maxHeartbeats 64000000 in
theorem rhalf15_any (s : SlE) (w : World) (hs : s.ok w) (hn : s.l.length ≤ 65535) : Calls Try.prog 58 [s.v].toArray w fun e w' => ∃ z : GrOf (halfR s.l).2 s.l.length, e = .returned (.tuple #[N (halfR s.l).1, z.1.v]) ∧ Holds w [] z.1.E w' := by
  refine enter (n := 89) Try.func58 rfl rfl rfl (Holds.start w []) ?_
  repeat (first | refine JL.q (by (apply OQ.assign; exact rfl)) rfl ?_ | refine JC.seq ?_ | refine JC.region ?_ | refine JL.nil ?_ | refine JE.next ?_)
  refine JL.lit0O Try.underlying34 slEj rfl fun b4 _ => ?_
  cases g1 : decide ((s.l.length : Int) = 0)
  case true =>
    have he : s.l = [] := List.length_eq_zero_iff.1 (by have := of_decide_eq_true g1; omega)
    have hh : halfR s.l = (0, []) := by unfold halfR; rw [if_pos (.inl he)]
    rw [hh]
    repeat (first | refine JL.q (by first | (apply OQ.len (k := s.l.length) (ad := s.ad) (cap := s.cap); exact Try.underlying22; exact rfl) | (apply OQ.eqB (b := 0); exact rfl; exact rfl; exact g1) | (apply OQ.pick_t; exact rfl; exact rfl) | (apply OQ.move; exact rfl) | (apply OQ.assign; exact rfl)) rfl ?_ | refine JC.seq ?_ | refine JC.region ?_ | refine JL.nil ?_ | refine JE.next ?_ | refine JL.gskip rfl rfl rfl rfl ?_)
    refine JC.cond_true rfl rfl ?_
    repeat (first | refine JL.q (by first | (apply OQ.move; exact rfl) | (apply OQ.assign; exact rfl)) rfl ?_ | refine JC.seq ?_ | refine JC.region ?_ | refine JL.nil ?_ | refine JE.next ?_)
    refine JC.ret ?_
    repeat (refine JE.then_ret ?_)
    exact JE.ret2 rfl (RV.tmp rfl) (RV.tmp rfl) fun w' hw => ⟨⟨grE b4, rfl, Nat.zero_le _⟩, rfl, hw⟩
  have h0 : 0 < s.l.length := by have := of_decide_eq_false g1; omega
  have hne : s.l ≠ [] := fun e => by rw [e] at h0; cases h0
  obtain ⟨b, j, e, lb, c⟩ := hs.at h0
  have hb : (old s.l 0).length = 64 := hs.ok.old h0
  have hsv : s.v = .slice (some ⟨b, j, none⟩) s.l.length s.cap := by rw [← e]; rfl
  have hhr : halfR s.l = if s.l = [] ∨ wholeB (old s.l 0) = false ∨ (markIn (old s.l 0)).1.toNat = 0 then (0, []) else (if scanR (markIn (old s.l 0)).1.toNat s.l [] [] 0 = [] then 0 else (markIn (old s.l 0)).1.toNat, scanR (markIn (old s.l 0)).1.toNat s.l [] [] 0) := rfl
  generalize old s.l 0 = x0 at hb c hhr
  have hx0 : szT Try.prog 83 = some (bc x0).length := by rw [bc_len hb]; exact dkB
  rw [hsv]
  cases g2 : wholeB x0
  case false =>
    rw [hhr, if_pos (.inr (.inl g2))]
    have cw := fun w' => rwhole15_any x0 hb w'
    rw [g2] at cw
    repeat (first | refine JL.q (by first | (apply OQ.len (k := s.l.length) (ad := some ⟨b, j, none⟩) (cap := s.cap); exact Try.underlying22; exact rfl) | (apply OQ.eqB (b := 0); exact rfl; exact rfl; exact g1) | (apply OQ.idxS (i := 0); exact Try.underlying22; exact dkB; exact rfl; exact rfl; exact h0) | (apply OQ.load_agg_old (cs := bc x0); exact dkAg; exact rfl; exact hx0; exact lb; exact (by simp); exact c) | (apply OQ.callx (vs := [.agg (bc x0).toArray]); exact goes_rwhole15; exact rfl; exact (fun w' _ => cw w')) | (apply OQ.not; exact rfl) | (apply OQ.pick_t; exact rfl; exact rfl) | (apply OQ.pick_f; exact rfl; exact rfl) | (apply OQ.move; exact rfl) | (apply OQ.assign; exact rfl)) rfl ?_ | refine JC.seq ?_ | refine JC.region ?_ | refine JL.nil ?_ | refine JE.next ?_ | refine JL.gon rfl rfl ?_ | refine JL.gskip rfl rfl rfl rfl ?_)
    refine JC.cond_true rfl rfl ?_
    repeat (first | refine JL.q (by first | (apply OQ.move; exact rfl) | (apply OQ.assign; exact rfl)) rfl ?_ | refine JC.seq ?_ | refine JC.region ?_ | refine JL.nil ?_ | refine JE.next ?_)
    refine JC.ret ?_
    repeat (refine JE.then_ret ?_)
    exact JE.ret2 rfl (RV.tmp rfl) (RV.tmp rfl) fun w' hw => ⟨⟨grE b4, rfl, Nat.zero_le _⟩, rfl, hw⟩
  have cw := fun w' => rwhole15_any x0 hb w'
  rw [g2] at cw
  cases g3 : decide (((markIn x0).1.toNat : Int) = 0)
  case true =>
    rw [hhr, if_pos (.inr (.inr (by have := of_decide_eq_true g3; omega)))]
    repeat (first | refine JL.q (by first | (apply OQ.len (k := s.l.length) (ad := some ⟨b, j, none⟩) (cap := s.cap); exact Try.underlying22; exact rfl) | (apply OQ.eqB (a := (s.l.length : Int)) (b := 0); exact rfl; exact rfl; exact g1) | (apply OQ.idxS (i := 0); exact Try.underlying22; exact dkB; exact rfl; exact rfl; exact h0) | (apply OQ.load_agg_old (cs := bc x0); exact dkAg; exact rfl; exact hx0; exact lb; exact (by simp); exact c) | (apply OQ.callx (vs := [.agg (bc x0).toArray]); exact goes_rwhole15; exact rfl; exact (fun w' _ => cw w')) | (apply OQ.callx (vs := [.agg (bc x0).toArray]); exact goes_rgen15; exact rfl; exact (fun w' _ => rgen15_any x0 hb w')) | (apply OQ.not; exact rfl) | (apply OQ.eqB (a := ((markIn x0).1.toNat : Int)) (b := 0); exact rfl; exact rfl; exact g3) | (apply OQ.pick_f; exact rfl; exact rfl) | (apply OQ.move; exact rfl) | (apply OQ.assign; exact rfl)) rfl ?_ | refine JC.seq ?_ | refine JC.region ?_ | refine JL.nil ?_ | refine JE.next ?_ | refine JL.gon rfl rfl ?_)
    refine JC.cond_true rfl rfl ?_
    repeat (first | refine JL.q (by first | (apply OQ.move; exact rfl) | (apply OQ.assign; exact rfl)) rfl ?_ | refine JC.seq ?_ | refine JC.region ?_ | refine JL.nil ?_ | refine JE.next ?_)
    refine JC.ret ?_
    repeat (refine JE.then_ret ?_)
    exact JE.ret2 rfl (RV.tmp rfl) (RV.tmp rfl) fun w' hw => ⟨⟨grE b4, rfl, Nat.zero_le _⟩, rfl, hw⟩
  rw [hhr, if_neg (by rintro (h | h | h); exact hne h; rw [g2] at h; cases h; exact of_decide_eq_false g3 (by omega))]
  repeat (first | refine JL.q (by first | (apply OQ.len (k := s.l.length) (ad := some ⟨b, j, none⟩) (cap := s.cap); exact Try.underlying22; exact rfl) | (apply OQ.eqB (a := (s.l.length : Int)) (b := 0); exact rfl; exact rfl; exact g1) | (apply OQ.idxS (i := 0); exact Try.underlying22; exact dkB; exact rfl; exact rfl; exact h0) | (apply OQ.load_agg_old (cs := bc x0); exact dkAg; exact rfl; exact hx0; exact lb; exact (by simp); exact c) | (apply OQ.callx (vs := [.agg (bc x0).toArray]); exact goes_rwhole15; exact rfl; exact (fun w' _ => cw w')) | (apply OQ.callx (vs := [.agg (bc x0).toArray]); exact goes_rgen15; exact rfl; exact (fun w' _ => rgen15_any x0 hb w')) | (apply OQ.not; exact rfl) | (apply OQ.eqB (a := ((markIn x0).1.toNat : Int)) (b := 0); exact rfl; exact rfl; exact g3) | (apply OQ.pick_f; exact rfl; exact rfl) | (apply OQ.move; exact rfl) | (apply OQ.assign; exact rfl)) rfl ?_ | refine JC.seq ?_ | refine JC.region ?_ | refine JL.nil ?_ | refine JE.next ?_ | refine JL.gon rfl rfl ?_)
  refine JC.cond_false rfl rfl ?_
  repeat (first | refine JL.q (by first | (apply OQ.idxS (i := 0); exact Try.underlying22; exact dkB; exact rfl; exact rfl; exact h0) | (apply OQ.load_agg_old (cs := bc x0); exact dkAg; exact rfl; exact hx0; exact lb; exact (by simp); exact c) | (apply OQ.callx (vs := [.agg (bc x0).toArray]); exact goes_rgen15; exact rfl; exact (fun w' _ => rgen15_any x0 hb w')) | (apply OQ.move; exact rfl) | (apply OQ.assign; exact rfl)) rfl ?_ | refine JC.seq ?_ | refine JC.region ?_ | refine JC.skip ?_ | refine JL.nil ?_ | refine JE.next ?_)
  refine JL.lit0O Try.underlying31 u8e rfl fun b6 _ => ?_
  refine JL.perm (M' := [⟨b4, Sl.Own 31 1 0 0 [], true⟩, ⟨b6, Sl.Own 5 1 0 0 [], true⟩]) ?_ (by exact List.Perm.swap _ _ _)
  repeat (first | refine JL.q (by (apply OQ.assign; exact rfl)) rfl ?_ | refine JC.seq ?_ | refine JC.region ?_ | refine JC.block ?_ | refine JL.nil ?_ | refine JE.next ?_)
  refine JC.loop (fun z : Hz => [(0, .slice (some ⟨b, j, none⟩) s.l.length s.cap), (4, accV (some z.zq) z.rs.length), (5, N (markIn x0).1.toNat), (6, accV z.pq z.part.length), (7, N z.p), (8, N z.i)]) (fun z => z.E) (fun z => s.l.length - z.i) (fun z => z.ok (markIn x0).1.toNat s.l) ⟨0, (b4, 0), [], some (b6, 0), [], 0⟩ ⟨Nat.zero_le _, rfl, Nat.le_refl _, Nat.le_refl _, Nat.le_refl _, nofun, nofun⟩ (by repeat (first | exact SubE.nil | refine SubE.cons _ _ _ rfl ?_)) (Less.refl _) ?_
  rintro ⟨i, zq, rs, pq, part, p⟩ hz
  have hi := hz.i; have hzn := hz.n; have hzp := hz.p; have hzl := hz.l; have hzq := hz.q
  dsimp only at hi hzn hzp hzl hzq ⊢
  repeat (first | refine JL.q (by first | (apply OQ.len (k := s.l.length) (ad := some ⟨b, j, none⟩) (cap := s.cap); exact Try.underlying22; exact rfl) | (apply OQ.move; exact rfl) | (apply OQ.lssN; exact rfl; exact rfl)) rfl ?_ | refine JC.seq ?_ | refine JC.region ?_ | refine JL.nil ?_ | refine JE.next ?_)
  refine JC.cond rfl (fun hc => ?_) (fun hc => ?_)
  · have hi' : i < s.l.length := by have := of_decide_eq_true hc; omega
    clear hc
    obtain ⟨bx, jx, ex, lx, cx⟩ := hs.at hi'
    have exx : bx = b ∧ jx = j := by rw [ex] at e; cases e; exact ⟨rfl, rfl⟩
    obtain ⟨rfl, rfl⟩ := exx
    have hbx : (old s.l i).length = 64 := hs.ok.old hi'
    have hds : s.l.drop i = old s.l i :: s.l.drop (i + 1) := by
      rw [List.drop_eq_getElem_cons hi', old_get hi']
    have hsc := hz.s
    dsimp only at hsc
    rw [hds, scanR] at hsc
    generalize old s.l i = y at hbx cx hsc
    have hy : szT Try.prog 83 = some (bc y).length := by rw [bc_len hbx]; exact dkB
    repeat (first | refine JL.q (by first | (apply OQ.idxS (i := i); exact Try.underlying22; exact dkB; exact rfl; exact rfl; exact hi') | (apply OQ.load_agg_old (cs := bc y); exact dkAg; exact rfl; exact hy; exact lx; exact (by simp); exact cx) | (apply OQ.move; exact rfl)) rfl ?_ | refine JC.seq ?_ | refine JC.region ?_ | refine JC.block ?_ | refine JC.skip ?_ | refine JE.next ?_)
    refine JL.alloc dkZ rfl fun b9 _ => ?_
    refine JL.store_all (cs := bc y) dkB rfl rfl (bc_len hbx) (bc_cell _) .here rfl ?_
    have cwy := fun w' => rwhole15_any y hbx w'
    have hpl := plN_lt y
    have hqz : some zq = (none : Acc) → rs.length = 0 := nofun
    cases g4 : wholeB y
    case false =>
      have hfin : scanR (markIn x0).1.toNat s.l [] [] 0 = rs.map Sl8.l := by
        rw [hsc, if_neg]
        unfold goesOn
        rw [List.length_map]
        simp [g4]
      rw [g4] at cwy
      repeat (first | refine JL.q (by first | (apply OQ.load_agg (cs := bc y); exact dkAg; exact dkB; exact rfl; exact .here; exact (bc_len hbx); exact Row.all) | (apply OQ.callx (vs := [.agg (bc y).toArray]); exact goes_rwhole15; exact rfl; exact (fun w' _ => cwy w')) | (apply OQ.not; exact rfl) | (apply OQ.pick_t; exact rfl; exact rfl) | (apply OQ.move; exact rfl)) rfl ?_ | refine JC.seq ?_ | refine JC.region ?_ | refine JL.nil ?_ | refine JE.next ?_ | refine JL.gskip rfl rfl rfl rfl ?_)
      refine JC.cond_true rfl rfl ?_
      obtain ⟨zf, hzf⟩ : ∃ zf : Gr, zf = ⟨some zq, rs, nofun, hz.h0⟩ := ⟨_, rfl⟩
      have hlf : (rs.length = 0) = (scanR (markIn x0).1.toNat s.l [] [] 0 = []) := by
        rw [hfin]
        exact propext ⟨fun h => by rw [List.length_eq_zero_iff.1 h]; rfl, fun h => List.length_eq_zero_iff.2 (List.map_eq_nil_iff.1 h)⟩
      have hq0 : some zq = (none : Acc) → rs.length = 0 := nofun
      cases g7 : decide ((rs.length : Int) = 0)
      case true =>
        have h7 : rs.length = 0 := by have := of_decide_eq_true g7; omega
        rw [if_pos (hlf ▸ h7)]
        repeat (first | refine JL.q (by first | (apply OQ.lenV (q := some zq) (k := rs.length); exact Try.underlying34; exact hq0; exact rfl) | (apply OQ.eqB (a := (rs.length : Int)) (b := 0); exact rfl; exact rfl; exact g7) | (apply OQ.move; exact rfl)) rfl ?_ | refine JC.seq ?_ | refine JC.region ?_ | refine JC.exit ?_ | refine JL.nil ?_ | refine JE.next ?_ | refine JE.then_exit ?_ | refine JE.blk_hit ?_ | refine JE.blk_miss rfl ?_)
        refine JC.cond_true rfl rfl ?_
        repeat (first | refine JL.q (by first | (apply OQ.move; exact rfl) | (apply OQ.assign; exact rfl)) rfl ?_ | refine JC.seq ?_ | refine JC.region ?_ | refine JL.nil ?_ | refine JE.next ?_)
        refine JC.ret ?_
        repeat (refine JE.then_ret ?_)
        exact JE.ret2 rfl (RV.tmp rfl) (RV.tmp rfl) fun w' hw => ⟨⟨⟨some zq, rs, nofun, hz.h0⟩, hfin.symm, by show rs.length ≤ _; have := hz.n; have := hz.i; omega⟩, rfl, hw.weak (.drop _ _ _ (less_two (Less.refl _) (less_pre _ _)))⟩
      case false =>
        have h7 : ¬ rs.length = 0 := by have := of_decide_eq_false g7; omega
        rw [if_neg (fun h => h7 (hlf ▸ h))]
        repeat (first | refine JL.q (by first | (apply OQ.lenV (q := some zq) (k := rs.length); exact Try.underlying34; exact hq0; exact rfl) | (apply OQ.eqB (a := (rs.length : Int)) (b := 0); exact rfl; exact rfl; exact g7) | (apply OQ.move; exact rfl)) rfl ?_ | refine JC.seq ?_ | refine JC.region ?_ | refine JC.exit ?_ | refine JL.nil ?_ | refine JE.next ?_ | refine JE.then_exit ?_ | refine JE.blk_hit ?_ | refine JE.blk_miss rfl ?_)
        refine JC.cond_false rfl rfl ?_
        repeat (first | refine JL.q (by first | (apply OQ.move; exact rfl) | (apply OQ.assign; exact rfl)) rfl ?_ | refine JC.seq ?_ | refine JC.region ?_ | refine JC.skip ?_ | refine JL.nil ?_ | refine JE.next ?_)
        refine JC.ret ?_
        skip
        exact JE.ret2 rfl (RV.tmp rfl) (RV.tmp rfl) fun w' hw => ⟨⟨⟨some zq, rs, nofun, hz.h0⟩, hfin.symm, by show rs.length ≤ _; have := hz.n; have := hz.i; omega⟩, rfl, hw.weak (.drop _ _ _ (less_two (Less.refl _) (less_pre _ _)))⟩
    rw [g4] at cwy
    cases g5 : decide (((markIn y).1.toNat : Int) = ((markIn x0).1.toNat : Int))
    case false =>
      have hfin : scanR (markIn x0).1.toNat s.l [] [] 0 = rs.map Sl8.l := by
        rw [hsc, if_neg]
        unfold goesOn
        rw [List.length_map]
        simp [show ¬ (markIn y).1.toNat = (markIn x0).1.toNat from fun h => of_decide_eq_false g5 (by omega)]
      repeat (first | refine JL.q (by first | (apply OQ.load_agg (cs := bc y); exact dkAg; exact dkB; exact rfl; exact .here; exact (bc_len hbx); exact Row.all) | (apply OQ.callx (vs := [.agg (bc y).toArray]); exact goes_rwhole15; exact rfl; exact (fun w' _ => cwy w')) | (apply OQ.not; exact rfl) | (apply OQ.callx (vs := [.agg (bc y).toArray]); exact goes_rgen15; exact rfl; exact (fun w' _ => rgen15_any y hbx w')) | (apply OQ.neB (a := ((markIn y).1.toNat : Int)) (b := ((markIn x0).1.toNat : Int)); exact rfl; exact rfl; exact g5) | (apply OQ.pick_t; exact rfl; exact rfl) | (apply OQ.pick_f; exact rfl; exact rfl) | (apply OQ.move; exact rfl)) rfl ?_ | refine JC.seq ?_ | refine JC.region ?_ | refine JL.nil ?_ | refine JE.next ?_ | refine JL.gon rfl rfl ?_ | refine JL.gskip rfl rfl rfl rfl ?_)
      refine JC.cond_true rfl rfl ?_
      obtain ⟨zf, hzf⟩ : ∃ zf : Gr, zf = ⟨some zq, rs, nofun, hz.h0⟩ := ⟨_, rfl⟩
      have hlf : (rs.length = 0) = (scanR (markIn x0).1.toNat s.l [] [] 0 = []) := by
        rw [hfin]
        exact propext ⟨fun h => by rw [List.length_eq_zero_iff.1 h]; rfl, fun h => List.length_eq_zero_iff.2 (List.map_eq_nil_iff.1 h)⟩
      have hq0 : some zq = (none : Acc) → rs.length = 0 := nofun
      cases g7 : decide ((rs.length : Int) = 0)
      case true =>
        have h7 : rs.length = 0 := by have := of_decide_eq_true g7; omega
        rw [if_pos (hlf ▸ h7)]
        repeat (first | refine JL.q (by first | (apply OQ.lenV (q := some zq) (k := rs.length); exact Try.underlying34; exact hq0; exact rfl) | (apply OQ.eqB (a := (rs.length : Int)) (b := 0); exact rfl; exact rfl; exact g7) | (apply OQ.move; exact rfl)) rfl ?_ | refine JC.seq ?_ | refine JC.region ?_ | refine JC.exit ?_ | refine JL.nil ?_ | refine JE.next ?_ | refine JE.then_exit ?_ | refine JE.blk_hit ?_ | refine JE.blk_miss rfl ?_)
        refine JC.cond_true rfl rfl ?_
        repeat (first | refine JL.q (by first | (apply OQ.move; exact rfl) | (apply OQ.assign; exact rfl)) rfl ?_ | refine JC.seq ?_ | refine JC.region ?_ | refine JL.nil ?_ | refine JE.next ?_)
        refine JC.ret ?_
        repeat (refine JE.then_ret ?_)
        exact JE.ret2 rfl (RV.tmp rfl) (RV.tmp rfl) fun w' hw => ⟨⟨⟨some zq, rs, nofun, hz.h0⟩, hfin.symm, by show rs.length ≤ _; have := hz.n; have := hz.i; omega⟩, rfl, hw.weak (.drop _ _ _ (less_two (Less.refl _) (less_pre _ _)))⟩
      case false =>
        have h7 : ¬ rs.length = 0 := by have := of_decide_eq_false g7; omega
        rw [if_neg (fun h => h7 (hlf ▸ h))]
        repeat (first | refine JL.q (by first | (apply OQ.lenV (q := some zq) (k := rs.length); exact Try.underlying34; exact hq0; exact rfl) | (apply OQ.eqB (a := (rs.length : Int)) (b := 0); exact rfl; exact rfl; exact g7) | (apply OQ.move; exact rfl)) rfl ?_ | refine JC.seq ?_ | refine JC.region ?_ | refine JC.exit ?_ | refine JL.nil ?_ | refine JE.next ?_ | refine JE.then_exit ?_ | refine JE.blk_hit ?_ | refine JE.blk_miss rfl ?_)
        refine JC.cond_false rfl rfl ?_
        repeat (first | refine JL.q (by first | (apply OQ.move; exact rfl) | (apply OQ.assign; exact rfl)) rfl ?_ | refine JC.seq ?_ | refine JC.region ?_ | refine JC.skip ?_ | refine JL.nil ?_ | refine JE.next ?_)
        refine JC.ret ?_
        skip
        exact JE.ret2 rfl (RV.tmp rfl) (RV.tmp rfl) fun w' hw => ⟨⟨⟨some zq, rs, nofun, hz.h0⟩, hfin.symm, by show rs.length ≤ _; have := hz.n; have := hz.i; omega⟩, rfl, hw.weak (.drop _ _ _ (less_two (Less.refl _) (less_pre _ _)))⟩
    cases g6 : decide (((markIn y).2.1.toNat : Int) = (rs.length : Int))
    case false =>
      have hfin : scanR (markIn x0).1.toNat s.l [] [] 0 = rs.map Sl8.l := by
        rw [hsc, if_neg]
        unfold goesOn
        rw [List.length_map]
        simp [show ¬ (markIn y).2.1.toNat = rs.length from fun h => of_decide_eq_false g6 (by omega)]
      repeat (first | refine JL.q (by first | (apply OQ.load_agg (cs := bc y); exact dkAg; exact dkB; exact rfl; exact .here; exact (bc_len hbx); exact Row.all) | (apply OQ.callx (vs := [.agg (bc y).toArray]); exact goes_rwhole15; exact rfl; exact (fun w' _ => cwy w')) | (apply OQ.not; exact rfl) | (apply OQ.callx (vs := [.agg (bc y).toArray]); exact goes_rgen15; exact rfl; exact (fun w' _ => rgen15_any y hbx w')) | (apply OQ.neB (a := ((markIn y).1.toNat : Int)) (b := ((markIn x0).1.toNat : Int)); exact rfl; exact rfl; exact g5) | (apply OQ.callx (vs := [.agg (bc y).toArray]); exact goes_rrec15; exact rfl; exact (fun w' _ => rrec15_any y hbx w')) | (apply OQ.lenV (q := some zq) (k := rs.length); exact Try.underlying34; exact hqz; exact rfl) | (apply OQ.neB (a := ((markIn y).2.1.toNat : Int)) (b := (rs.length : Int)); exact rfl; exact rfl; exact g6) | (apply OQ.pick_t; exact rfl; exact rfl) | (apply OQ.pick_f; exact rfl; exact rfl) | (apply OQ.move; exact rfl)) rfl ?_ | refine JC.seq ?_ | refine JC.region ?_ | refine JL.nil ?_ | refine JE.next ?_ | refine JL.gon rfl rfl ?_ | refine JL.gskip rfl rfl rfl rfl ?_)
      refine JC.cond_true rfl rfl ?_
      obtain ⟨zf, hzf⟩ : ∃ zf : Gr, zf = ⟨some zq, rs, nofun, hz.h0⟩ := ⟨_, rfl⟩
      have hlf : (rs.length = 0) = (scanR (markIn x0).1.toNat s.l [] [] 0 = []) := by
        rw [hfin]
        exact propext ⟨fun h => by rw [List.length_eq_zero_iff.1 h]; rfl, fun h => List.length_eq_zero_iff.2 (List.map_eq_nil_iff.1 h)⟩
      have hq0 : some zq = (none : Acc) → rs.length = 0 := nofun
      cases g7 : decide ((rs.length : Int) = 0)
      case true =>
        have h7 : rs.length = 0 := by have := of_decide_eq_true g7; omega
        rw [if_pos (hlf ▸ h7)]
        repeat (first | refine JL.q (by first | (apply OQ.lenV (q := some zq) (k := rs.length); exact Try.underlying34; exact hq0; exact rfl) | (apply OQ.eqB (a := (rs.length : Int)) (b := 0); exact rfl; exact rfl; exact g7) | (apply OQ.move; exact rfl)) rfl ?_ | refine JC.seq ?_ | refine JC.region ?_ | refine JC.exit ?_ | refine JL.nil ?_ | refine JE.next ?_ | refine JE.then_exit ?_ | refine JE.blk_hit ?_ | refine JE.blk_miss rfl ?_)
        refine JC.cond_true rfl rfl ?_
        repeat (first | refine JL.q (by first | (apply OQ.move; exact rfl) | (apply OQ.assign; exact rfl)) rfl ?_ | refine JC.seq ?_ | refine JC.region ?_ | refine JL.nil ?_ | refine JE.next ?_)
        refine JC.ret ?_
        repeat (refine JE.then_ret ?_)
        exact JE.ret2 rfl (RV.tmp rfl) (RV.tmp rfl) fun w' hw => ⟨⟨⟨some zq, rs, nofun, hz.h0⟩, hfin.symm, by show rs.length ≤ _; have := hz.n; have := hz.i; omega⟩, rfl, hw.weak (.drop _ _ _ (less_two (Less.refl _) (less_pre _ _)))⟩
      case false =>
        have h7 : ¬ rs.length = 0 := by have := of_decide_eq_false g7; omega
        rw [if_neg (fun h => h7 (hlf ▸ h))]
        repeat (first | refine JL.q (by first | (apply OQ.lenV (q := some zq) (k := rs.length); exact Try.underlying34; exact hq0; exact rfl) | (apply OQ.eqB (a := (rs.length : Int)) (b := 0); exact rfl; exact rfl; exact g7) | (apply OQ.move; exact rfl)) rfl ?_ | refine JC.seq ?_ | refine JC.region ?_ | refine JC.exit ?_ | refine JL.nil ?_ | refine JE.next ?_ | refine JE.then_exit ?_ | refine JE.blk_hit ?_ | refine JE.blk_miss rfl ?_)
        refine JC.cond_false rfl rfl ?_
        repeat (first | refine JL.q (by first | (apply OQ.move; exact rfl) | (apply OQ.assign; exact rfl)) rfl ?_ | refine JC.seq ?_ | refine JC.region ?_ | refine JC.skip ?_ | refine JL.nil ?_ | refine JE.next ?_)
        refine JC.ret ?_
        skip
        exact JE.ret2 rfl (RV.tmp rfl) (RV.tmp rfl) fun w' hw => ⟨⟨⟨some zq, rs, nofun, hz.h0⟩, hfin.symm, by show rs.length ≤ _; have := hz.n; have := hz.i; omega⟩, rfl, hw.weak (.drop _ _ _ (less_two (Less.refl _) (less_pre _ _)))⟩
    cases g8 : decide (((plN y % 32768 : Nat) : Int) = (p : Int))
    case false =>
      have hfin : scanR (markIn x0).1.toNat s.l [] [] 0 = rs.map Sl8.l := by
        rw [hsc, if_neg]
        unfold goesOn
        rw [List.length_map]
        simp [show ¬ plN y % 32768 = p from fun h => of_decide_eq_false g8 (by omega)]
      repeat (first | refine JL.q (by first | (apply OQ.load_agg (cs := bc y); exact dkAg; exact dkB; exact rfl; exact .here; exact (bc_len hbx); exact Row.all) | (apply OQ.callx (vs := [.agg (bc y).toArray]); exact goes_rwhole15; exact rfl; exact (fun w' _ => cwy w')) | (apply OQ.not; exact rfl) | (apply OQ.callx (vs := [.agg (bc y).toArray]); exact goes_rgen15; exact rfl; exact (fun w' _ => rgen15_any y hbx w')) | (apply OQ.neB (a := ((markIn y).1.toNat : Int)) (b := ((markIn x0).1.toNat : Int)); exact rfl; exact rfl; exact g5) | (apply OQ.callx (vs := [.agg (bc y).toArray]); exact goes_rrec15; exact rfl; exact (fun w' _ => rrec15_any y hbx w')) | (apply OQ.lenV (q := some zq) (k := rs.length); exact Try.underlying34; exact hqz; exact rfl) | (apply OQ.neB (a := ((markIn y).2.1.toNat : Int)) (b := (rs.length : Int)); exact rfl; exact rfl; exact g6) | (apply OQ.callx (vs := [.agg (bc y).toArray]); exact goes_rplace15; exact rfl; exact (fun w' _ => rplace15_any y hbx w')) | (apply OQ.remN (a := plN y) (b := 32768); exact rfl; exact rfl; exact (by decide)) | (apply OQ.neB (a := ((plN y % 32768 : Nat) : Int)) (b := (p : Int)); exact rfl; exact rfl; exact g8) | (apply OQ.pick_f; exact rfl; exact rfl) | (apply OQ.move; exact rfl)) rfl ?_ | refine JC.seq ?_ | refine JC.region ?_ | refine JL.nil ?_ | refine JE.next ?_ | refine JL.gon rfl rfl ?_)
      refine JC.cond_true rfl rfl ?_
      obtain ⟨zf, hzf⟩ : ∃ zf : Gr, zf = ⟨some zq, rs, nofun, hz.h0⟩ := ⟨_, rfl⟩
      have hlf : (rs.length = 0) = (scanR (markIn x0).1.toNat s.l [] [] 0 = []) := by
        rw [hfin]
        exact propext ⟨fun h => by rw [List.length_eq_zero_iff.1 h]; rfl, fun h => List.length_eq_zero_iff.2 (List.map_eq_nil_iff.1 h)⟩
      have hq0 : some zq = (none : Acc) → rs.length = 0 := nofun
      cases g7 : decide ((rs.length : Int) = 0)
      case true =>
        have h7 : rs.length = 0 := by have := of_decide_eq_true g7; omega
        rw [if_pos (hlf ▸ h7)]
        repeat (first | refine JL.q (by first | (apply OQ.lenV (q := some zq) (k := rs.length); exact Try.underlying34; exact hq0; exact rfl) | (apply OQ.eqB (a := (rs.length : Int)) (b := 0); exact rfl; exact rfl; exact g7) | (apply OQ.move; exact rfl)) rfl ?_ | refine JC.seq ?_ | refine JC.region ?_ | refine JC.exit ?_ | refine JL.nil ?_ | refine JE.next ?_ | refine JE.then_exit ?_ | refine JE.blk_hit ?_ | refine JE.blk_miss rfl ?_)
        refine JC.cond_true rfl rfl ?_
        repeat (first | refine JL.q (by first | (apply OQ.move; exact rfl) | (apply OQ.assign; exact rfl)) rfl ?_ | refine JC.seq ?_ | refine JC.region ?_ | refine JL.nil ?_ | refine JE.next ?_)
        refine JC.ret ?_
        repeat (refine JE.then_ret ?_)
        exact JE.ret2 rfl (RV.tmp rfl) (RV.tmp rfl) fun w' hw => ⟨⟨⟨some zq, rs, nofun, hz.h0⟩, hfin.symm, by show rs.length ≤ _; have := hz.n; have := hz.i; omega⟩, rfl, hw.weak (.drop _ _ _ (less_two (Less.refl _) (less_pre _ _)))⟩
      case false =>
        have h7 : ¬ rs.length = 0 := by have := of_decide_eq_false g7; omega
        rw [if_neg (fun h => h7 (hlf ▸ h))]
        repeat (first | refine JL.q (by first | (apply OQ.lenV (q := some zq) (k := rs.length); exact Try.underlying34; exact hq0; exact rfl) | (apply OQ.eqB (a := (rs.length : Int)) (b := 0); exact rfl; exact rfl; exact g7) | (apply OQ.move; exact rfl)) rfl ?_ | refine JC.seq ?_ | refine JC.region ?_ | refine JC.exit ?_ | refine JL.nil ?_ | refine JE.next ?_ | refine JE.then_exit ?_ | refine JE.blk_hit ?_ | refine JE.blk_miss rfl ?_)
        refine JC.cond_false rfl rfl ?_
        repeat (first | refine JL.q (by first | (apply OQ.move; exact rfl) | (apply OQ.assign; exact rfl)) rfl ?_ | refine JC.seq ?_ | refine JC.region ?_ | refine JC.skip ?_ | refine JL.nil ?_ | refine JE.next ?_)
        refine JC.ret ?_
        skip
        exact JE.ret2 rfl (RV.tmp rfl) (RV.tmp rfl) fun w' hw => ⟨⟨⟨some zq, rs, nofun, hz.h0⟩, hfin.symm, by show rs.length ≤ _; have := hz.n; have := hz.i; omega⟩, rfl, hw.weak (.drop _ _ _ (less_two (Less.refl _) (less_pre _ _)))⟩
    have hgo : goesOn (markIn x0).1.toNat (rs.map Sl8.l).length p y = true := by
      unfold goesOn
      rw [g4, List.length_map, decide_eq_true (show (markIn y).1.toNat = (markIn x0).1.toNat by have := of_decide_eq_true g5; omega), decide_eq_true (show (markIn y).2.1.toNat = rs.length by have := of_decide_eq_true g6; omega), decide_eq_true (show plN y % 32768 = p by have := of_decide_eq_true g8; omega)]
      rfl
    rw [if_pos hgo] at hsc
    repeat (first | refine JL.q (by first | (apply OQ.load_agg (cs := bc y); exact dkAg; exact dkB; exact rfl; exact .here; exact (bc_len hbx); exact Row.all) | (apply OQ.callx (vs := [.agg (bc y).toArray]); exact goes_rwhole15; exact rfl; exact (fun w' _ => cwy w')) | (apply OQ.not; exact rfl) | (apply OQ.callx (vs := [.agg (bc y).toArray]); exact goes_rgen15; exact rfl; exact (fun w' _ => rgen15_any y hbx w')) | (apply OQ.neB (a := ((markIn y).1.toNat : Int)) (b := ((markIn x0).1.toNat : Int)); exact rfl; exact rfl; exact g5) | (apply OQ.callx (vs := [.agg (bc y).toArray]); exact goes_rrec15; exact rfl; exact (fun w' _ => rrec15_any y hbx w')) | (apply OQ.lenV (q := some zq) (k := rs.length); exact Try.underlying34; exact hqz; exact rfl) | (apply OQ.neB (a := ((markIn y).2.1.toNat : Int)) (b := (rs.length : Int)); exact rfl; exact rfl; exact g6) | (apply OQ.callx (vs := [.agg (bc y).toArray]); exact goes_rplace15; exact rfl; exact (fun w' _ => rplace15_any y hbx w')) | (apply OQ.remN (a := plN y) (b := 32768); exact rfl; exact rfl; exact (by decide)) | (apply OQ.neB (a := ((plN y % 32768 : Nat) : Int)) (b := (p : Int)); exact rfl; exact rfl; exact g8) | (apply OQ.pick_f; exact rfl; exact rfl) | (apply OQ.move; exact rfl)) rfl ?_ | refine JC.seq ?_ | refine JC.region ?_ | refine JL.nil ?_ | refine JE.next ?_ | refine JL.gon rfl rfl ?_)
    refine JC.cond_false rfl rfl ?_
    have ⟨hpn, hc42⟩ := part_len hbx g4
    have c10 := fun {u w' : World} {S : List Nat} {M : List Ent} (hw' : Holds u S M w') (hM : Has M b9 (Row 83 (bc y)) true) => rnum15_any _ w' (mid_ok (lo := 10) (k := 2) hw' hM hbx (by decide) (by decide)) (by show ((y.drop 10).take 2).length ≤ 4; rw [List.length_take]; omega)
    dsimp only at c10
    rw [← cnt_num] at c10
    have hv12 : Value.slice (some ⟨b9, 0 + 12, none⟩) (12 + cnt y - 12) (64 - 12) = .slice (some ⟨b9, 12, none⟩) (cnt y) 52 := by rw [Nat.add_sub_cancel_left]
    repeat (first | refine JL.q (by first | (apply OQ.slMid (lo := 10) (hi := 12); exact hbx; exact Try.underlying83; exact u8s; exact rfl; exact rfl; exact rfl; exact (by decide); exact (by decide); exact (by decide)) | (apply OQ.callx (vs := [(⟨some ⟨b9, 0 + 10, none⟩, 64 - 10, (y.drop 10).take 2⟩ : Sl8).v]); exact goes_rnum15; exact rfl; exact (fun w' hw' => c10 hw' .here)) | (apply OQ.addN (a := 12); exact rfl; exact rfl; exact (by omega)) | (apply OQ.to; exact (OQ.slA_lohi (lo := 12) (hi := 12 + cnt y) Try.underlying83 u8s rfl rfl rfl (by decide) (by omega) (by omega)); exact hv12) | (apply OQ.move; exact rfl)) rfl ?_ | refine JC.seq ?_ | refine JC.region ?_ | refine JC.skip ?_ | refine JE.next ?_)
    refine JL.perm (M' := accE 5 pq (part.map U8) ++ (⟨b9, Row 83 (bc y), true⟩ :: (accE 31 (some zq) (rs.map Sl8.v) ++ flatE rs))) ?_ (by unfold Hz.E; dsimp only; rw [← List.append_assoc]; exact List.perm_append_comm (l₁ := _ :: (_ ++ _)))
    refine JL.appendQ (xs := part.map U8) (cs := (partOf y).map U8) (m := cnt y) (ad := some ⟨b9, 12, none⟩) (sc := 52) pq Try.underlying31 u8e (fun e => by rw [hzq e]; rfl) (by rw [List.length_map]; rfl) rfl (by rw [List.length_map, hpn]) (fun w' hw' => part_reads hw' (hasR (N := accE 5 pq (part.map U8)) .here) hpn) (all8U _) rfl (by rw [List.length_map]; omega) (by rw [List.length_map]; omega) rfl fun q2 hq2 => ?_
    rw [← List.map_append] at hq2 ⊢
    have hq3 : q2 = none → part ++ partOf y = [] := fun e => List.map_eq_nil_iff.1 (hq2 e)
    have hl3 : (part ++ partOf y).length ≤ (p + 1) * 42 := by rw [List.length_append, hpn]; omega
    clear hq2 hzq hzl
    generalize part ++ partOf y = part2 at hq3 hl3 hsc ⊢
    rw [List.length_map]
    have e9 : decide ((32768 : Int) ≤ ((plN y : Nat) : Int)) = decide (32768 ≤ plN y) := decide_eq_decide.2 (by omega)
    repeat (first | refine JL.q (by first | (apply OQ.addN (a := p) (b := 1); exact rfl; exact rfl; exact (by omega)) | (apply OQ.load_agg (cs := bc y); exact dkAg; exact dkB; exact rfl; exact (hasR (N := accE 5 q2 (part2.map U8)) .here); exact (bc_len hbx); exact Row.all) | (apply OQ.callx (vs := [.agg (bc y).toArray]); exact goes_rplace15; exact rfl; exact (fun w' _ => rplace15_any y hbx w')) | (apply OQ.geqB (a := ((plN y : Nat) : Int)) (b := 32768); exact rfl; exact rfl; exact e9) | (apply OQ.move; exact rfl) | (apply OQ.assign; exact rfl)) rfl ?_ | refine JC.seq ?_ | refine JC.region ?_ | refine JL.nil ?_ | refine JE.next ?_)
    refine JC.cond rfl (fun hl => ?_) (fun hl => ?_)
    · rw [if_pos (of_decide_eq_true hl)] at hsc
      repeat (first | refine JL.q (by (apply OQ.move; exact rfl)) rfl ?_ | refine JC.seq ?_ | refine JC.region ?_)
      refine JL.lit1 (v := accV q2 part2.length) Try.underlying34 slEj rfl rfl (accV_cells _ _) rfl fun bl2 _ => ?_
      refine JL.perm (M' := accE 31 (some zq) (rs.map Sl8.v) ++ (⟨bl2, Row 31 [accV q2 part2.length], true⟩ :: ((flatE rs ++ accE 5 q2 (part2.map U8)) ++ [⟨b9, Row 83 (bc y), true⟩]))) ?_ (by exact perm_hz _ _ _ _ _)
      refine JL.appendQ (xs := rs.map Sl8.v) (cs := [accV q2 part2.length]) (m := 1) (ad := some ⟨bl2, 0, none⟩) (sc := 1) (some zq) Try.underlying34 slEj nofun (by rw [List.length_map]; rfl) rfl rfl (fun w' hw' => ?_) (fun v hv => by rw [List.mem_singleton.1 hv]; exact accV_one _ _) rfl (by rw [List.length_map]; omega) (by rw [List.length_map]; omega) rfl fun q3 hq3' => ?_
      · obtain ⟨o, ho, hA⟩ := (hw'.weak (less_app _ (Less.refl _))).get (b := bl2) (A := Row 31 [accV q2 part2.length]) (wr := true) .here
        exact Reads.block ho (Row.all _ hA)
      cases q3 with
      | none => have := congrArg List.length (hq3' rfl); simp at this
      | some zq3 =>
      clear hq3'
      have eM : rs.map Sl8.v ++ [accV q2 part2.length] = (rs ++ [accS q2 part2]).map Sl8.v := by
        rw [List.map_append, List.map_singleton, accS_v]
      have eL : (rs ++ [accS q2 part2]).map Sl8.l = rs.map Sl8.l ++ [part2] := by
        rw [List.map_append, List.map_singleton, accS_l hq3]
      have hr4 : ∀ x ∈ rs ++ [accS q2 part2], x.ad = none → x.l = [] := by
        intro x hx hn
        rcases List.mem_append.1 hx with hx | hx
        · exact hz.h0 x hx hn
        · rw [List.mem_singleton.1 hx] at hn ⊢
          cases q2 with
          | none => rfl
          | some p => cases hn
      rw [eM, List.length_map]
      rw [← eL] at hsc
      repeat (first | refine JL.q (by (apply OQ.assign; exact rfl)) rfl ?_ | refine JC.seq ?_ | refine JC.region ?_ | refine JL.nil ?_ | refine JE.next ?_)
      refine JL.lit0O Try.underlying31 u8e rfl fun b10 _ => ?_
      repeat (first | refine JL.q (by first | (apply OQ.addN (a := i) (b := 1); exact rfl; exact rfl; exact (by omega)) | (apply OQ.move; exact rfl) | (apply OQ.assign; exact rfl)) rfl ?_ | refine JC.region ?_ | refine JL.nil ?_ | refine JE.next ?_ | refine JE.blk_normal ?_)
      refine JE.perm (M' := accE 31 (some zq3) ((rs ++ [accS q2 part2]).map Sl8.v) ++ (⟨bl2, Row 31 [accV q2 part2.length], true⟩ :: ((flatE rs ++ accE 5 q2 (part2.map U8)) ++ (⟨b10, Sl.Own 5 1 0 0 [], true⟩ :: [⟨b9, Row 83 (bc y), true⟩])))) (by exact perm_hz2 _ _ _ _ _) ?_
      exact JE.again (i := Hz.mk i zq rs pq part p) ⟨i + 1, zq3, rs ++ [accS q2 part2], some (b10, 0), [], 0⟩ ⟨hi', hsc, by show (rs ++ [_]).length ≤ i + 1; rw [List.length_append, List.length_singleton]; omega, Nat.zero_le _, Nat.zero_le _, nofun, hr4⟩ (by dsimp only; omega) (by repeat (first | exact SubE.nil | refine SubE.cons _ _ _ rfl ?_)) (less_two (Less.refl _) (.drop _ _ _ (less_two (flat_snoc rs q2 part2) (less_pre [_] _))))
    · rw [if_neg (of_decide_eq_false hl)] at hsc
      repeat (first | refine JL.q (by first | (apply OQ.addN (a := i) (b := 1); exact rfl; exact rfl; exact (by omega)) | (apply OQ.move; exact rfl) | (apply OQ.assign; exact rfl)) rfl ?_ | refine JC.region ?_ | refine JC.skip ?_ | refine JL.nil ?_ | refine JE.next ?_ | refine JE.blk_normal ?_)
      refine JE.perm (M' := ⟨b9, Row 83 (bc y), true⟩ :: (accE 31 (some zq) (rs.map Sl8.v) ++ (flatE rs ++ accE 5 q2 (part2.map U8)))) (by rw [← List.append_assoc]; exact List.perm_append_comm (l₂ := _ :: (_ ++ _))) ?_
      exact JE.again (i := Hz.mk i zq rs pq part p) ⟨i + 1, zq, rs, q2, part2, p + 1⟩ ⟨hi', hsc, by show rs.length ≤ i + 1; omega, by show p + 1 ≤ i + 1; omega, hl3, hq3, hz.h0⟩ (by dsimp only; omega) (by repeat (first | exact SubE.nil | refine SubE.cons _ _ _ rfl ?_)) (.drop _ _ _ (Less.refl _))
  · have hi' : i = s.l.length := by have := of_decide_eq_false hc; omega
    have hfin : scanR (markIn x0).1.toNat s.l [] [] 0 = rs.map Sl8.l := by
      have := hz.s
      dsimp only at this
      rw [hi', List.drop_length] at this
      exact this
    obtain ⟨zf, hzf⟩ : ∃ zf : Gr, zf = ⟨some zq, rs, nofun, hz.h0⟩ := ⟨_, rfl⟩
    have hlf : (rs.length = 0) = (scanR (markIn x0).1.toNat s.l [] [] 0 = []) := by
      rw [hfin]
      exact propext ⟨fun h => by rw [List.length_eq_zero_iff.1 h]; rfl, fun h => List.length_eq_zero_iff.2 (List.map_eq_nil_iff.1 h)⟩
    have hq0 : some zq = (none : Acc) → rs.length = 0 := nofun
    cases g7 : decide ((rs.length : Int) = 0)
    case true =>
      have h7 : rs.length = 0 := by have := of_decide_eq_true g7; omega
      rw [if_pos (hlf ▸ h7)]
      repeat (first | refine JL.q (by first | (apply OQ.lenV (q := some zq) (k := rs.length); exact Try.underlying34; exact hq0; exact rfl) | (apply OQ.eqB (a := (rs.length : Int)) (b := 0); exact rfl; exact rfl; exact g7) | (apply OQ.move; exact rfl)) rfl ?_ | refine JC.seq ?_ | refine JC.region ?_ | refine JC.exit ?_ | refine JL.nil ?_ | refine JE.next ?_ | refine JE.then_exit ?_ | refine JE.blk_hit ?_)
      refine JC.cond_true rfl rfl ?_
      repeat (first | refine JL.q (by first | (apply OQ.move; exact rfl) | (apply OQ.assign; exact rfl)) rfl ?_ | refine JC.seq ?_ | refine JC.region ?_ | refine JL.nil ?_ | refine JE.next ?_)
      refine JC.ret ?_
      repeat (refine JE.then_ret ?_)
      exact JE.ret2 rfl (RV.tmp rfl) (RV.tmp rfl) fun w' hw => ⟨⟨⟨some zq, rs, nofun, hz.h0⟩, hfin.symm, by show rs.length ≤ _; have := hz.n; have := hz.i; omega⟩, rfl, hw.weak (less_two (Less.refl _) (less_pre _ _))⟩
    case false =>
      have h7 : ¬ rs.length = 0 := by have := of_decide_eq_false g7; omega
      rw [if_neg (fun h => h7 (hlf ▸ h))]
      repeat (first | refine JL.q (by first | (apply OQ.lenV (q := some zq) (k := rs.length); exact Try.underlying34; exact hq0; exact rfl) | (apply OQ.eqB (a := (rs.length : Int)) (b := 0); exact rfl; exact rfl; exact g7) | (apply OQ.move; exact rfl)) rfl ?_ | refine JC.seq ?_ | refine JC.region ?_ | refine JC.exit ?_ | refine JL.nil ?_ | refine JE.next ?_ | refine JE.then_exit ?_ | refine JE.blk_hit ?_)
      refine JC.cond_false rfl rfl ?_
      repeat (first | refine JL.q (by first | (apply OQ.move; exact rfl) | (apply OQ.assign; exact rfl)) rfl ?_ | refine JC.seq ?_ | refine JC.region ?_ | refine JC.skip ?_ | refine JL.nil ?_ | refine JE.next ?_)
      refine JC.ret ?_
      skip
      exact JE.ret2 rfl (RV.tmp rfl) (RV.tmp rfl) fun w' hw => ⟨⟨⟨some zq, rs, nofun, hz.h0⟩, hfin.symm, by show rs.length ≤ _; have := hz.n; have := hz.i; omega⟩, rfl, hw.weak (less_two (Less.refl _) (less_pre _ _))⟩
end Go.Proofs.Ytkadoibacliepaa

/-
  Of no statement by itself: the reference's Disk.
  Conditions: each theorem's own.
-/
namespace Go.Proofs.Ytkadoibacliepaa
set_option maxRecDepth 10000
open Sl Dsk Jrn
def SlE.cut (s : SlE) (lo hi : Nat) : SlE := ⟨if s.cap = lo then s.ad else s.ad.map (·.add (lo * 64)), s.cap - lo, (s.l.take hi).drop lo⟩
theorem SlE.ok.cut {s : SlE} {w : World} (h : s.ok w) {lo hi : Nat} (h1 : lo ≤ hi) (h2 : hi ≤ s.l.length) : (s.cut lo hi).ok w := by
  have hl := h.len
  refine ⟨by show ((s.l.take hi).drop lo).length ≤ s.cap - lo; rw [List.length_drop, List.length_take]; omega, ?_, fun b hb => h.all b (List.mem_of_mem_take (List.mem_of_mem_drop hb))⟩
  by_cases hc : s.cap = lo
  · have : (s.l.take hi).drop lo = [] := by rw [List.drop_eq_nil_of_le]; rw [List.length_take]; omega
    show Reads w _ (bcs ((s.l.take hi).drop lo)).flatten
    rw [this]
    exact Reads.nil _ _
  · intro i v hv
    have e1 : (bcs ((s.l.take hi).drop lo)).flatten = ((bcs s.l).flatten.take (hi * 64)).drop (lo * 64) := by
      have a1 : bcs ((s.l.take hi).drop lo) = ((bcs s.l).take hi).drop lo := by simp [bcs, List.map_take, List.map_drop]
      rw [a1, chunk_take (bcs_len h.ok), chunk_drop (fun c hc => bcs_len h.ok c (List.mem_of_mem_take hc))]
    have hv' : (bcs s.l).flatten[lo * 64 + i]? = some v := by
      have : (bcs (s.cut lo hi).l).flatten = ((bcs s.l).flatten.take (hi * 64)).drop (lo * 64) := e1
      rw [this, List.getElem?_drop, List.getElem?_take] at hv
      split at hv
      · exact hv
      · cases hv
    obtain ⟨b, j, e, hcell⟩ := h.reads _ _ hv'
    refine ⟨b, j + lo * 64, ?_, ?_⟩
    · show (if s.cap = lo then s.ad else s.ad.map (·.add (lo * 64))) = _
      rw [if_neg hc, e]
      show some ((⟨b, j, none⟩ : Addr).add (lo * 64)) = _
      rw [add_off]
    · rwa [Nat.add_assoc]
/-- whether the second half is the disk's journal, its generation, its records -/
def diskR (l : List Bk) : Bool × Nat × List Bk :=
  if (halfR ((l.take (l.length / 2)).drop 0)).1 < (halfR ((l.take (2 * (l.length / 2))).drop (l.length / 2))).1 then (true, halfR ((l.take (2 * (l.length / 2))).drop (l.length / 2))) else (false, halfR ((l.take (l.length / 2)).drop 0))
theorem bs_first (l : List Bk) : (l.take (l.length / 2)).drop 0 = bsOf l 0 (l.length / 2) 0 := by simp [bsOf]
theorem bs_second (l : List Bk) : (l.take (2 * (l.length / 2))).drop (l.length / 2) = bsOf l (l.length / 2) (l.length / 2) 0 := by
  unfold bsOf
  rw [List.drop_take, List.drop_zero]
  congr 1
  omega
/-- the journal that the reference finds is the one that is opened -/
theorem diskR_is {l : List Bk} (h4 : 4 ≤ l.length) (hn : l.length ≤ 65536) : (if (diskR l).2.1 = 0 then (true, [[]]) else ((diskR l).1, (diskR l).2.2)) = (decide ((curF l).1 ≠ 0), (curF l).2.2) := by
  have ⟨a1, a2⟩ := halfR_is (bl := l) (first := 0) (by omega) (by omega) hn
  have ⟨b1, b2⟩ := halfR_is (bl := l) (first := l.length / 2) (by omega) (by omega) hn
  have hne : decide (l.length / 2 ≠ 0) = true := decide_eq_true (by omega)
  by_cases h : (genH l 0).toNat < (genH l (l.length / 2)).toNat
  · have dr : diskR l = (true, halfR (bsOf l (l.length / 2) (l.length / 2) 0)) := by unfold diskR; rw [bs_first, bs_second, a1, b1, if_pos h]
    have cf : curF l = (l.length / 2, genH l (l.length / 2), recH l (l.length / 2)) := by unfold curF; rw [if_neg (fun hh => by have := hh.2; omega), if_pos (by omega)]
    rw [dr, cf]
    dsimp only
    rw [b1, if_neg (by omega), b2 (by omega), hne]
  · have dr : diskR l = (false, halfR (bsOf l 0 (l.length / 2) 0)) := by unfold diskR; rw [bs_first, bs_second, a1, b1, if_neg h]
    rw [dr]
    dsimp only
    rw [a1]
    by_cases h0 : (genH l 0).toNat = 0
    · have cf : curF l = (l.length / 2, genH l (l.length / 2), [[]]) := by unfold curF; rw [if_neg (fun hh => by have := hh.1; omega), if_neg (by omega)]
      rw [cf, if_pos h0]
      dsimp only
      rw [hne]
    · have cf : curF l = (0, genH l 0, recH l 0) := by unfold curF; rw [if_pos ⟨by omega, by omega⟩]
      rw [cf, if_neg h0, a2 (by omega)]
      rfl
theorem goes_rdisk15 : Goes Try.prog 25 := ⟨_, Try.func25, rfl, by kernel_rfl⟩
set_option maxHeartbeats 16000000 in
theorem rdisk15_any (s : SlE) (w : World) (hs : s.ok w) (hn : s.l.length ≤ 65535) : Calls Try.prog 25 [s.v].toArray w fun e w' => ∃ z : GrOf (diskR s.l).2.2 s.l.length, e = .returned (.tuple #[.bool (diskR s.l).1, N (diskR s.l).2.1, z.1.v]) ∧ Holds w [] z.1.E w' := by
  have hcl := hs.len
  have k1 := hs.cut (lo := 0) (hi := s.l.length / 2) (by omega) (by omega)
  have k2 := hs.cut (lo := s.l.length / 2) (hi := 2 * (s.l.length / 2)) (by omega) (by omega)
  have l1 : (s.cut 0 (s.l.length / 2)).l.length = s.l.length / 2 := by show ((s.l.take _).drop 0).length = _; rw [List.drop_zero, List.length_take]; omega
  have l2 : (s.cut (s.l.length / 2) (2 * (s.l.length / 2))).l.length = s.l.length / 2 := by show ((s.l.take _).drop _).length = _; rw [List.length_drop, List.length_take]; omega
  have hd : diskR s.l = if (halfR (s.cut 0 (s.l.length / 2)).l).1 < (halfR (s.cut (s.l.length / 2) (2 * (s.l.length / 2))).l).1 then (true, halfR (s.cut (s.l.length / 2) (2 * (s.l.length / 2))).l) else (false, halfR (s.cut 0 (s.l.length / 2)).l) := rfl
  have v1 : (Value.slice (if s.cap = 0 then s.ad else s.ad.map (·.add 0)) (s.l.length / 2) s.cap) = (s.cut 0 (s.l.length / 2)).v := by show _ = Value.slice _ (s.cut 0 (s.l.length / 2)).l.length _; rw [l1]; rfl
  have v2 : (Value.slice (if s.cap = s.l.length / 2 then s.ad else s.ad.map (·.add (s.l.length / 2 * 64))) (2 * (s.l.length / 2) - s.l.length / 2) (s.cap - s.l.length / 2)) = (s.cut (s.l.length / 2) (2 * (s.l.length / 2))).v := by show _ = Value.slice _ (s.cut (s.l.length / 2) (2 * (s.l.length / 2))).l.length _; rw [l2, show 2 * (s.l.length / 2) - s.l.length / 2 = s.l.length / 2 by omega]; rfl
  rw [hd]
  refine enter (n := 36) Try.func25 rfl rfl rfl (Holds.start w []) ?_
  repeat (first | refine JL.q (by first | (apply OQ.len (k := s.l.length) (ad := s.ad) (cap := s.cap); exact Try.underlying22; exact rfl) | (apply OQ.quoN (a := s.l.length) (b := 2); exact rfl; exact rfl; exact (by decide); exact (by omega)) | (apply OQ.move; exact rfl) | (apply OQ.assign; exact rfl)) rfl ?_ | refine JC.seq ?_ | refine JC.region ?_ | refine JL.nil ?_ | refine JE.next ?_)
  generalize s.cut 0 (s.l.length / 2) = sa at k1 l1 v1 hd ⊢
  generalize s.cut (s.l.length / 2) (2 * (s.l.length / 2)) = sb at k2 l2 v2 hd ⊢
  have ca := fun w' (hw' : Holds w [] [] w') => rhalf15_any sa w' (k1.holds hw' rfl) (by omega)
  have cb := fun {M : List Ent} w' (hw' : Holds w [] M w') => rhalf15_any sb w' (k2.holds hw' rfl) (by omega)
  repeat (refine JL.q (by (apply OQ.to; exact (OQ.slS_hi (hi := s.l.length / 2) Try.underlying22 dkB rfl rfl (by omega)); exact v1)) rfl ?_)
  refine JL.callg (ι := GrOf (halfR sa.l).2 sa.l.length) (vs := [sa.v]) (fun z => .tuple #[N (halfR sa.l).1, z.1.v]) (fun z => z.1.E) goes_rhalf15 rfl rfl (fun z => z.1.wr) (fun w' hw' => ca w' hw') fun za => ?_
  repeat (first | refine JL.q (by first | (apply OQ.extract; exact rfl; exact rfl) | (apply OQ.mulN (a := 2) (b := s.l.length / 2); exact rfl; exact rfl; exact (by omega)) | (apply OQ.to; exact (OQ.slS_lohi (lo := s.l.length / 2) (hi := 2 * (s.l.length / 2)) Try.underlying22 dkB rfl rfl rfl (by omega) (by omega)); exact v2) | (apply OQ.move; exact rfl) | (apply OQ.assign; exact rfl)) rfl ?_ | refine JC.seq ?_ | refine JC.region ?_ | refine JL.nil ?_ | refine JE.next ?_)
  refine JL.callg (ι := GrOf (halfR sb.l).2 sb.l.length) (vs := [sb.v]) (fun z => .tuple #[N (halfR sb.l).1, z.1.v]) (fun z => z.1.E) goes_rhalf15 rfl rfl (fun z => z.1.wr) (fun w' hw' => cb w' hw') fun zb => ?_
  cases g1 : decide (((halfR sa.l).1 : Int) < ((halfR sb.l).1 : Int))
  case true =>
    rw [if_pos (by have := of_decide_eq_true g1; omega)]
    repeat (first | refine JL.q (by first | (apply OQ.extract; exact rfl; exact rfl) | (apply OQ.gtrB (a := ((halfR sb.l).1 : Int)) (b := ((halfR sa.l).1 : Int)); exact rfl; exact rfl; exact g1) | (apply OQ.move; exact rfl) | (apply OQ.assign; exact rfl)) rfl ?_ | refine JC.seq ?_ | refine JC.region ?_ | refine JL.nil ?_ | refine JE.next ?_)
    refine JC.cond_true rfl rfl ?_
    repeat (first | refine JL.q (by first | (apply OQ.move; exact rfl) | (apply OQ.assign; exact rfl)) rfl ?_ | refine JC.seq ?_ | refine JC.region ?_ | refine JL.nil ?_ | refine JE.next ?_)
    refine JC.ret ?_
    repeat (refine JE.then_ret ?_)
    exact JE.ret3 rfl (RV.tmp rfl) (RV.tmp rfl) (RV.tmp rfl) fun w' hw => ⟨⟨zb.1, zb.2.1, by have := zb.2.2; omega⟩, rfl, hw.weak (less_pre _ _)⟩
  case false =>
    rw [if_neg (by have := of_decide_eq_false g1; omega)]
    repeat (first | refine JL.q (by first | (apply OQ.extract; exact rfl; exact rfl) | (apply OQ.gtrB (a := ((halfR sb.l).1 : Int)) (b := ((halfR sa.l).1 : Int)); exact rfl; exact rfl; exact g1) | (apply OQ.move; exact rfl) | (apply OQ.assign; exact rfl)) rfl ?_ | refine JC.seq ?_ | refine JC.region ?_ | refine JL.nil ?_ | refine JE.next ?_)
    refine JC.cond_false rfl rfl ?_
    repeat (first | refine JL.q (by first | (apply OQ.move; exact rfl) | (apply OQ.assign; exact rfl)) rfl ?_ | refine JC.seq ?_ | refine JC.region ?_ | refine JC.skip ?_ | refine JL.nil ?_ | refine JE.next ?_)
    refine JC.ret ?_
    skip
    exact JE.ret3 rfl (RV.tmp rfl) (RV.tmp rfl) (RV.tmp rfl) fun w' hw => ⟨⟨za.1, za.2.1, by have := za.2.2; omega⟩, rfl, hw.weak (less_app _ (less_pre _ _))⟩
end Go.Proofs.Ytkadoibacliepaa

/-
  Of no statement by itself: the reference's Blocks: the blocks of a record, as the landed journal writes them.
  Conditions: each theorem's own.
-/
namespace Go.Proofs.Ytkadoibacliepaa
set_option maxRecDepth 10000
open Sl Dsk Jrn
def setA (mm : Bk) (i : Nat) : Bk := (List.range i).foldl (fun x j => (x.set j (mm.getD j 0)).set (54 + j) (mm.getD j 0)) zero
theorem setA_succ (mm : Bk) (i : Nat) : setA mm (i + 1) = ((setA mm i).set i (mm.getD i 0)).set (54 + i) (mm.getD i 0) := by
  unfold setA
  rw [List.range_succ, List.foldl_append]
  rfl
theorem setA_ten (m0 m1 m2 m3 m4 m5 m6 m7 m8 m9 c : Bt) : (setA [m0, m1, m2, m3, m4, m5, m6, m7, m8, m9] 10).set 11 c = [m0, m1, m2, m3, m4, m5, m6, m7, m8, m9] ++ [0, c] ++ ([] : Bk) ++ List.replicate 42 0 ++ [m0, m1, m2, m3, m4, m5, m6, m7, m8, m9] := by kernel_rfl
theorem setA_end {mm : Bk} (h : mm.length = 10) (c : Bt) : (setA mm 10).set 11 c = mm ++ [0, c] ++ ([] : Bk) ++ List.replicate 42 0 ++ mm := by
  match mm, h with
  | [m0, m1, m2, m3, m4, m5, m6, m7, m8, m9], _ => exact setA_ten m0 m1 m2 m3 m4 m5 m6 m7 m8 m9 c
theorem setB_step {mm t : Bk} {c : Bt} {i : Nat} (h : mm.length = 10) (hi : i < t.length) (h42 : i < 42) : (mm ++ [0, c] ++ t.take i ++ List.replicate (42 - i) 0 ++ mm).set (12 + i) (t.getD i 0) = mm ++ [0, c] ++ t.take (i + 1) ++ List.replicate (42 - (i + 1)) 0 ++ mm := by
  have h1 : (mm ++ [0, c] ++ t.take i).length = 12 + i := by simp [h]; omega
  have h2 : List.replicate (42 - i) (0 : Bt) = 0 :: List.replicate (42 - (i + 1)) 0 := by rw [show 42 - i = (42 - (i + 1)) + 1 by omega, List.replicate_succ]
  have h3 : t.take (i + 1) = t.take i ++ [t.getD i 0] := by rw [List.take_add_one]; simp [List.getD_eq_getElem?_getD, hi]
  rw [h2, h3, List.append_assoc, List.set_append_right _ _ (by rw [h1]; exact Nat.le_refl _), h1, Nat.sub_self]
  simp [List.append_assoc]
theorem mm_is {gen rec n k p : Nat} (hg : gen < 4294967296) (hr : rec < 4294967296) (hk : k < 32768) (hp : p = if decide (k + 1 = n) = true then k + 32768 else k) : mb (mk1 (BitVec.ofNat 32 gen) rec n k) = [BitVec.ofNat 8 (gen / 16777216), BitVec.ofNat 8 (gen / 65536), BitVec.ofNat 8 (gen / 256), BitVec.ofNat 8 gen, BitVec.ofNat 8 (rec / 16777216), BitVec.ofNat 8 (rec / 65536), BitVec.ofNat 8 (rec / 256), BitVec.ofNat 8 rec, BitVec.ofNat 8 (p / 256), BitVec.ofNat 8 p] := by
  have b4 : ∀ m : Nat, m < 4294967296 → be (BitVec.ofNat 32 m) 4 = [BitVec.ofNat 8 (m / 16777216), BitVec.ofNat 8 (m / 65536), BitVec.ofNat 8 (m / 256), BitVec.ofNat 8 m] := fun m hm => by
    have e : be (BitVec.ofNat 32 m) 4 = [((BitVec.ofNat 32 m) >>> 24).setWidth 8, ((BitVec.ofNat 32 m) >>> 16).setWidth 8, ((BitVec.ofNat 32 m) >>> 8).setWidth 8, ((BitVec.ofNat 32 m) >>> 0).setWidth 8] := rfl
    rw [e]
    congr 1
    · apply BitVec.eq_of_toNat_eq; simp only [BitVec.toNat_setWidth, BitVec.toNat_ushiftRight, BitVec.toNat_ofNat, Nat.shiftRight_eq_div_pow]; omega
    congr 1
    · apply BitVec.eq_of_toNat_eq; simp only [BitVec.toNat_setWidth, BitVec.toNat_ushiftRight, BitVec.toNat_ofNat, Nat.shiftRight_eq_div_pow]; omega
    congr 1
    · apply BitVec.eq_of_toNat_eq; simp only [BitVec.toNat_setWidth, BitVec.toNat_ushiftRight, BitVec.toNat_ofNat, Nat.shiftRight_eq_div_pow]; omega
    congr 1
    · apply BitVec.eq_of_toNat_eq; simp only [BitVec.toNat_setWidth, BitVec.toNat_ushiftRight, BitVec.toNat_ofNat, Nat.shiftRight_eq_div_pow]; omega
  have hpl : (plc (mk1 (BitVec.ofNat 32 gen) rec n k)).toNat = p := by
    unfold plc mk1
    dsimp only
    rw [hp]
    by_cases hh : k + 1 = n
    · rw [if_pos (decide_eq_true hh), if_pos (decide_eq_true hh), BitVec.toNat_add, BitVec.toNat_setWidth, BitVec.toNat_ofNat, show (32768#32).toNat = 32768 from rfl]
      omega
    · rw [if_neg (by simpa using hh), if_neg (by simpa using hh), BitVec.toNat_setWidth, BitVec.toNat_ofNat]
      omega
  have hp2 : p < 65536 := by rw [hp]; split <;> omega
  have b2 : be (plc (mk1 (BitVec.ofNat 32 gen) rec n k)) 2 = [BitVec.ofNat 8 (p / 256), BitVec.ofNat 8 p] := by
    generalize plc (mk1 (BitVec.ofNat 32 gen) rec n k) = m at hpl ⊢
    have e : be m 2 = [(m >>> 8).setWidth 8, (m >>> 0).setWidth 8] := rfl
    rw [e]
    congr 1
    · apply BitVec.eq_of_toNat_eq; simp only [BitVec.toNat_setWidth, BitVec.toNat_ushiftRight, BitVec.toNat_ofNat, Nat.shiftRight_eq_div_pow]; omega
    congr 1
    · apply BitVec.eq_of_toNat_eq; simp only [BitVec.toNat_setWidth, BitVec.toNat_ushiftRight, BitVec.toNat_ofNat, Nat.shiftRight_eq_div_pow]; omega
  unfold mb
  rw [b2]
  show be (BitVec.ofNat 32 gen) 4 ++ be (BitVec.ofNat 32 rec) 4 ++ _ = _
  rw [b4 gen hg, b4 rec hr]
  rfl
theorem blk_is {g : BitVec 32} {r k : Nat} {rec mm t : Bk} (hm : mb (mk1 g r (nb rec.length) k) = mm) (ht : t = chunk rec k) (h42 : t.length ≤ 42) : mm ++ [0, BitVec.ofNat 8 t.length] ++ t ++ List.replicate (42 - t.length) 0 ++ mm = blk g r rec k := by
  have e : be (BitVec.ofNat 32 t.length) 2 = [0, BitVec.ofNat 8 t.length] := by
    have e : be (BitVec.ofNat 32 t.length) 2 = [((BitVec.ofNat 32 t.length) >>> 8).setWidth 8, ((BitVec.ofNat 32 t.length) >>> 0).setWidth 8] := rfl
    rw [e]
    congr 1
    · apply BitVec.eq_of_toNat_eq; simp only [BitVec.ofNat_eq_ofNat, BitVec.toNat_setWidth, BitVec.toNat_ushiftRight, BitVec.toNat_ofNat, Nat.shiftRight_eq_div_pow]; omega
    congr 1
    · apply BitVec.eq_of_toNat_eq; simp only [BitVec.toNat_setWidth, BitVec.toNat_ushiftRight, BitVec.toNat_ofNat, Nat.shiftRight_eq_div_pow]; omega
  unfold blk blockOf
  rw [hm, ← ht, e]
set_option maxHeartbeats 64000000 in
theorem rblocks_any (gen rec : Nat) (s : Sl8) (w : World) (hs : s.ok w) (hl : s.l.length ≤ 1000000) (hgen : gen < 4294967296) (hrec : rec < 4294967296) : Calls Try.prog 46 [N gen, N rec, s.v].toArray w fun e w' => ∃ q : Nat × Nat, e = .returned (accV (some q) (nb s.l.length)) ∧ Holds w [] (accC 83 64 (some q) (bcs (blks (BitVec.ofNat 32 gen) rec s.l))) w' := by
  have hcl := hs.len
  refine enter (n := 110) Try.func46 rfl rfl rfl (Holds.start w []) ?_
  repeat (first | refine JL.q (by (apply OQ.assign; exact rfl)) rfl ?_ | refine JC.seq ?_ | refine JC.region ?_ | refine JL.nil ?_ | refine JE.next ?_)
  refine JL.litZ Try.underlying22 dkI rfl fun b0 _ => ?_
  repeat (first | refine JL.q (by (apply OQ.assign; exact rfl)) rfl ?_ | refine JC.seq ?_ | refine JC.region ?_ | refine JC.block ?_ | refine JL.nil ?_ | refine JE.next ?_)
  refine JC.loop (fun z : Nat × (Nat × Nat) × List Bk => [(0, N gen), (1, N rec), (2, s.v), (7, accV (some z.2.1) (bcs z.2.2).length), (8, N (z.1 * 42))]) (fun z => accC 83 64 (some z.2.1) (bcs z.2.2)) (fun z => nb s.l.length - z.1) (fun z => z.1 ≤ nb s.l.length ∧ z.2.2 = (List.range z.1).map (blk (BitVec.ofNat 32 gen) rec s.l)) (0, (b0, 0), []) ⟨Nat.zero_le _, rfl⟩ (by repeat (first | exact SubE.nil | refine SubE.cons _ _ _ rfl ?_)) (Less.refl _) ?_
  rintro ⟨k, q, L⟩ ⟨hk, hLr⟩
  dsimp only at hk hLr ⊢
  have hL : L.length = k := by rw [hLr]; simp
  have hnb := nb_le s.l.length
  have hbn := bcs_n L
  by_cases hk' : k < nb s.l.length
  case neg =>
    have e1 : decide (((k * 42 : Nat) : Int) < (s.l.length : Int)) = false := decide_eq_false (by omega)
    have e2 : decide (((k * 42 : Nat) : Int) = 0) = false := decide_eq_false (by have := nb_pos s.l.length; omega)
    repeat (first | refine JL.q (by first | (apply OQ.len (k := s.l.length) (ad := s.ad) (cap := s.cap); exact Try.underlying31; exact rfl) | (apply OQ.lssB; exact rfl; exact rfl; exact e1) | (apply OQ.eqB (b := 0); exact rfl; exact rfl; exact e2) | (apply OQ.pick_f; exact rfl; exact rfl) | (apply OQ.move; exact rfl)) rfl ?_ | refine JC.seq ?_ | refine JC.region ?_ | refine JL.nil ?_ | refine JE.next ?_ | refine JL.gon rfl rfl ?_)
    refine JC.cond_false rfl rfl ?_
    repeat (first | refine JL.q (by first | (apply OQ.move; exact rfl) | (apply OQ.assign; exact rfl)) rfl ?_ | refine JC.seq ?_ | refine JC.region ?_ | refine JC.exit ?_ | refine JL.nil ?_ | refine JE.next ?_ | refine JE.then_exit ?_ | refine JE.blk_hit ?_)
    refine JC.ret ?_
    skip
    exact JE.ret1 rfl (RV.tmp rfl) fun w' hw => ⟨q, by rw [hbn, hL, show k = nb s.l.length by omega], by rw [show k = nb s.l.length by omega] at hLr; rw [← show L = blks (BitVec.ofNat 32 gen) rec s.l from hLr]; exact hw⟩
  case pos =>
    have hlo := nb_at hk'
    have hgo : (decide (((k * 42 : Nat) : Int) < (s.l.length : Int)) = true) ∨ (decide (((k * 42 : Nat) : Int) < (s.l.length : Int)) = false ∧ decide (((k * 42 : Nat) : Int) = 0) = true) := by
      by_cases h : k * 42 < s.l.length
      · exact .inl (decide_eq_true (by omega))
      · refine .inr ⟨decide_eq_false (by omega), decide_eq_true ?_⟩
        unfold nb at hk'
        omega
    refine JC.mid (ι := Unit) (fun _ => [(0, N gen), (1, N rec), (2, s.v), (7, accV (some q) (bcs L).length), (8, N (k * 42))]) (fun _ => accC 83 64 (some q) (bcs L)) (fun _ => True) ?_ ?_
    · rcases hgo with e1 | ⟨e1, e2⟩
      · repeat (first | refine JL.q (by first | (apply OQ.len (k := s.l.length) (ad := s.ad) (cap := s.cap); exact Try.underlying31; exact rfl) | (apply OQ.lssB; exact rfl; exact rfl; exact e1) | (apply OQ.pick_t; exact rfl; exact rfl) | (apply OQ.move; exact rfl)) rfl ?_ | refine JC.seq ?_ | refine JC.region ?_ | refine JL.nil ?_ | refine JE.next ?_ | refine JL.gskip rfl rfl rfl rfl ?_)
        refine JC.cond_true rfl rfl ?_
        repeat (refine JC.skip ?_)
        exact JE.mid () trivial (by repeat (first | exact SubE.nil | refine SubE.cons _ _ _ rfl ?_)) (Less.refl _)
      · repeat (first | refine JL.q (by first | (apply OQ.len (k := s.l.length) (ad := s.ad) (cap := s.cap); exact Try.underlying31; exact rfl) | (apply OQ.lssB; exact rfl; exact rfl; exact e1) | (apply OQ.eqB (b := 0); exact rfl; exact rfl; exact e2) | (apply OQ.pick_f; exact rfl; exact rfl) | (apply OQ.move; exact rfl)) rfl ?_ | refine JC.seq ?_ | refine JC.region ?_ | refine JL.nil ?_ | refine JE.next ?_ | refine JL.gon rfl rfl ?_)
        refine JC.cond_true rfl rfl ?_
        repeat (refine JC.skip ?_)
        exact JE.mid () trivial (by repeat (first | exact SubE.nil | refine SubE.cons _ _ _ rfl ?_)) (Less.refl _)
    rintro _ _
    have e9 : decide (((s.snd (k * 42)).l.length : Int) ≤ 42) = decide (s.l.length - k * 42 ≤ 42) := decide_eq_decide.2 (by show ((s.l.drop (k * 42)).length : Int) ≤ 42 ↔ _; rw [List.length_drop]; omega)
    repeat (first | refine JL.q (by first | (apply OQ.snd (s := s) (m := k * 42); exact Try.underlying31; exact u8sj; exact rfl; exact rfl; exact hlo) | (apply OQ.len (k := (s.snd (k * 42)).l.length) (ad := (s.snd (k * 42)).ad) (cap := (s.snd (k * 42)).cap); exact Try.underlying31; exact rfl) | (apply OQ.leqB (b := 42); exact rfl; exact rfl; exact e9) | (apply OQ.not; exact rfl) | (apply OQ.move; exact rfl) | (apply OQ.assign; exact rfl)) rfl ?_ | refine JC.seq ?_ | refine JC.region ?_ | refine JC.block ?_ | refine JL.nil ?_ | refine JE.next ?_)
    refine JC.join (ι := {t : Sl8 // t.ok w ∧ t.l.length ≤ 42 ∧ t.l = chunk s.l k}) (fun t => [(0, N gen), (1, N rec), (2, s.v), (7, accV (some q) (bcs L).length), (8, N (k * 42)), (9, t.1.v), (10, .bool (decide (s.l.length - k * 42 ≤ 42)))]) (fun _ => accC 83 64 (some q) (bcs L)) (fun _ => True) ?_ ?_
    · have hd9 : (s.snd (k * 42)).l.length = s.l.length - k * 42 := by show (s.l.drop (k * 42)).length = _; rw [List.length_drop]
      cases h9 : decide (s.l.length - k * 42 ≤ 42)
      · have h10 : 42 ≤ (s.snd (k * 42)).l.length := by have := of_decide_eq_false h9; omega
        refine JC.cond_true rfl rfl ?_
        repeat (first | refine JL.q (by first | (apply OQ.fst (s := s.snd (k * 42)) (m := 42); exact Try.underlying31; exact u8sj; exact rfl; exact rfl; exact h10; exact (hs.snd _ hlo).len) | (apply OQ.move; exact rfl) | (apply OQ.assign; exact rfl)) rfl ?_ | refine JC.region ?_ | refine JL.nil ?_)
        exact JE.mid ⟨(s.snd (k * 42)).fst 42, (hs.snd _ hlo).fst 42, by show ((s.snd (k * 42)).l.take 42).length ≤ 42; rw [List.length_take]; omega, rfl⟩ trivial (by repeat (first | exact SubE.nil | refine SubE.cons _ _ _ rfl ?_)) (Less.refl _)
      · refine JC.cond_false rfl rfl ?_
        repeat (refine JC.skip ?_)
        exact JE.mid ⟨s.snd (k * 42), hs.snd _ hlo, by have := of_decide_eq_true h9; omega, (List.take_of_length_le (by have := of_decide_eq_true h9; have h99 : (s.l.drop (k * 42)).length = s.l.length - k * 42 := List.length_drop; omega)).symm⟩ trivial (by repeat (first | exact SubE.nil | refine SubE.cons _ _ _ rfl ?_)) (Less.refl _)
    rintro ⟨t, ht, ht42, htc⟩ _
    dsimp only
    have hlast : decide (s.l.length - k * 42 ≤ 42) = decide (k + 1 = nb s.l.length) := decide_eq_decide.2 (by unfold nb at hk' ⊢; omega)
    rw [hlast]
    generalize hlst : decide (k + 1 = nb s.l.length) = last
    have htl := ht.len
    repeat (first | refine JL.q (by (apply OQ.buildB0)) rfl ?_ | refine JC.seq ?_ | refine JC.region ?_)
    refine JL.alloc dkZ rfl fun b11 _ => ?_
    refine JL.store_all (cs := bc zero) dkB rfl rfl (bc_len rfl) (bc_cell _) .here rfl ?_
    have hq0 : some q = (none : Acc) → (bcs L).length = 0 := nofun
    repeat (first | refine JL.q (by first | (apply OQ.lenV (q := some q) (k := (bcs L).length); exact Try.underlying22; exact hq0; exact rfl) | (apply OQ.move; exact rfl) | (apply OQ.assign; exact rfl)) rfl ?_ | refine JC.seq ?_ | refine JC.region ?_ | refine JL.nil ?_ | refine JE.next ?_)
    refine JC.join (ι := {p : Nat // p ≤ 10000000 ∧ p = if last then k + 32768 else k}) (fun p => [(0, N gen), (1, N rec), (2, s.v), (7, accV (some q) (bcs L).length), (8, N (k * 42)), (9, t.v), (11, Pt b11 0), (12, N p.1)]) (fun _ => ⟨b11, Row 83 (bc zero), true⟩ :: accC 83 64 (some q) (bcs L)) (fun _ => True) ?_ ?_
    · have hkb : (bcs L).length + 32768 ≤ 10000000 := by unfold nb at hk'; omega
      refine JC.cond rfl (fun hl1 => ?_) (fun hl1 => ?_)
      · repeat (first | refine JL.q (by first | (apply OQ.addN (a := (bcs L).length) (b := 32768); exact rfl; exact rfl; exact (by omega)) | (apply OQ.move; exact rfl) | (apply OQ.assign; exact rfl)) rfl ?_ | refine JC.region ?_ | refine JL.nil ?_)
        exact JE.mid ⟨(bcs L).length + 32768, hkb, by rw [hl1, hbn, hL]; rfl⟩ trivial (by repeat (first | exact SubE.nil | refine SubE.cons _ _ _ rfl ?_)) (Less.refl _)
      · repeat (refine JC.skip ?_)
        exact JE.mid ⟨(bcs L).length, by omega, by rw [hl1, hbn, hL]; rfl⟩ trivial (by repeat (first | exact SubE.nil | refine SubE.cons _ _ _ rfl ?_)) (Less.refl _)
    rintro ⟨p, hp, hpe⟩ _
    dsimp only
    repeat (first | refine JL.q (by first | (apply OQ.shrN (a := gen) (m := 16777216) (k := 24); exact (by decide); exact (by decide); exact rfl; exact rfl) | (apply OQ.shrN (a := gen) (m := 65536) (k := 16); exact (by decide); exact (by decide); exact rfl; exact rfl) | (apply OQ.shrN (m := 256) (k := 8); exact (by decide); exact (by decide); exact rfl; exact rfl) | (apply OQ.shrN (a := rec) (m := 16777216) (k := 24); exact (by decide); exact (by decide); exact rfl; exact rfl) | (apply OQ.shrN (a := rec) (m := 65536) (k := 16); exact (by decide); exact (by decide); exact rfl; exact rfl) | (apply OQ.convN_8; exact Try.underlying3; exact Try.underlying5; exact rfl) | (apply OQ.move; exact rfl)) rfl ?_ | refine JC.seq ?_ | refine JC.region ?_)
    refine JL.litL (xs := [.tmp 45, .tmp 48, .tmp 51, .tmp 53, .tmp 56, .tmp 59, .tmp 62, .tmp 64, .tmp 67, .tmp 69]) (vs := ([BitVec.ofNat 8 (gen / 16777216), BitVec.ofNat 8 (gen / 65536), BitVec.ofNat 8 (gen / 256), BitVec.ofNat 8 gen, BitVec.ofNat 8 (rec / 16777216), BitVec.ofNat 8 (rec / 65536), BitVec.ofNat 8 (rec / 256), BitVec.ofNat 8 rec, BitVec.ofNat 8 (p / 256), BitVec.ofNat 8 p] : Bk).map U8) (m := 10) Try.underlying31 u8e rfl rfl rfl (by simp [Value.oneCell']) (by simp [Value.cells]) rfl (by decide) (by decide) rfl fun b13 _ => ?_
    generalize hmm : ([BitVec.ofNat 8 (gen / 16777216), BitVec.ofNat 8 (gen / 65536), BitVec.ofNat 8 (gen / 256), BitVec.ofNat 8 gen, BitVec.ofNat 8 (rec / 16777216), BitVec.ofNat 8 (rec / 65536), BitVec.ofNat 8 (rec / 256), BitVec.ofNat 8 rec, BitVec.ofNat 8 (p / 256), BitVec.ofNat 8 p] : Bk) = mm
    have hm10 : mm.length = 10 := by rw [← hmm]; rfl
    have hmb : mb (mk1 (BitVec.ofNat 32 gen) rec (nb s.l.length) k) = mm := by rw [← hmm]; exact mm_is hgen hrec (by unfold nb at hk'; omega) (by rw [hpe, ← hlst])
    clear hmm
    repeat (first | refine JL.q (by (apply OQ.assign; exact rfl)) rfl ?_ | refine JC.seq ?_ | refine JC.region ?_ | refine JC.block ?_ | refine JL.nil ?_ | refine JE.next ?_)
    refine JC.loop (fun z : Nat × Bk => [(0, N gen), (1, N rec), (2, s.v), (7, accV (some q) (bcs L).length), (8, N (k * 42)), (9, t.v), (11, Pt b11 0), (13, .slice (some ⟨b13, 0, none⟩) 10 10), (14, N z.1)]) (fun z => ⟨b13, Row 5 (mm.map U8), true⟩ :: ⟨b11, Row 83 (bc z.2), true⟩ :: accC 83 64 (some q) (bcs L)) (fun z => 10 - z.1) (fun z => z.1 ≤ 10 ∧ z.2.length = 64 ∧ z.2 = setA mm z.1) (0, zero) ⟨Nat.zero_le _, rfl, rfl⟩ (by repeat (first | exact SubE.nil | refine SubE.cons _ _ _ rfl ?_)) (Less.refl _) ?_
    rintro ⟨i, x⟩ ⟨hi, hx, hxa⟩
    dsimp only at hi hx hxa ⊢
    repeat (first | refine JL.q (by first | (apply OQ.move; exact rfl) | (apply OQ.lssN; exact rfl; exact rfl)) rfl ?_ | refine JC.seq ?_ | refine JC.region ?_ | refine JL.nil ?_ | refine JE.next ?_)
    refine JC.cond rfl (fun hc => ?_) (fun hc => ?_)
    · have hi' : i < 10 := by have := of_decide_eq_true hc; omega
      clear hc
      have hcell : (mm.map U8)[i]? = some (U8 (mm.getD i 0)) := map_at U8 0 (by omega)
      have hsa : setA mm (i + 1) = ((setA mm i).set i (mm.getD i 0)).set (54 + i) (mm.getD i 0) := setA_succ mm i
      rw [← hxa] at hsa
      generalize mm.getD i 0 = c at hcell hsa
      repeat (first | refine JL.q (by first | (apply OQ.idxS0 (i := i); exact Try.underlying31; exact u8sj; exact rfl; exact rfl; exact hi') | (apply OQ.load; exact u8c; exact rfl; exact .here; exact (Row.cell (v := U8 c) hcell)) | (apply OQ.idxA0 (i := i) (len := 64); exact Try.underlying83; exact u8sj; exact rfl; exact rfl; exact (by omega)) | (apply OQ.move; exact rfl)) rfl ?_ | refine JC.seq ?_ | refine JC.region ?_ | refine JC.block ?_ | refine JC.skip ?_ | refine JE.next ?_)
      refine JL.store_eq (b := b11) (r := bc x) (r' := bc (x.set i c)) u8sj rfl rfl rfl rfl (.there .here) (by rw [bc_len hx]; omega) set_bc ?_
      repeat (first | refine JL.q (by first | (apply OQ.addN (a := 54) (b := i); exact rfl; exact rfl; exact (by omega)) | (apply OQ.idxS0 (i := i); exact Try.underlying31; exact u8sj; exact rfl; exact rfl; exact hi') | (apply OQ.load; exact u8c; exact rfl; exact .here; exact (Row.cell (v := U8 c) hcell)) | (apply OQ.idxA0 (i := 54 + i) (len := 64); exact Try.underlying83; exact u8sj; exact rfl; exact rfl; exact (by omega)) | (apply OQ.move; exact rfl)) rfl ?_ | refine JC.region ?_ | refine JL.nil ?_ | refine JE.next ?_)
      refine JL.store_eq (b := b11) (r := bc (x.set i c)) (r' := bc ((x.set i c).set (54 + i) c)) u8sj rfl rfl rfl rfl (.there .here) (by rw [bc_len (by rw [List.length_set]; exact hx)]; omega) set_bc ?_
      repeat (first | refine JL.q (by first | (apply OQ.move; exact rfl) | (apply OQ.assign; exact rfl) | (apply OQ.addN; exact rfl; exact rfl; exact (by (try simp only []); omega))) rfl ?_ | refine JC.region ?_ | refine JL.nil ?_ | refine JE.next ?_ | refine JE.blk_normal ?_)
      exact JE.again (i := (i, x)) (i + 1, (x.set i c).set (54 + i) c) ⟨hi', by dsimp only; rw [List.length_set, List.length_set]; exact hx, hsa.symm⟩ (by dsimp only; omega) (by repeat (first | exact SubE.nil | refine SubE.cons _ _ _ rfl ?_)) (Less.refl _)
    · have hi10 : i = 10 := Nat.le_antisymm hi (Nat.le_of_not_lt (of_decide_eq_false hc))
      subst hi10
      clear hi hc
      repeat (first | refine JL.q (by first | (apply OQ.len (k := t.l.length) (ad := t.ad) (cap := t.cap); exact Try.underlying31; exact rfl) | (apply OQ.convN_8; exact Try.underlying3; exact Try.underlying5; exact rfl) | (apply OQ.idxA0 (i := 11) (len := 64); exact Try.underlying83; exact u8sj; exact rfl; exact rfl; exact (by decide)) | (apply OQ.move; exact rfl)) rfl ?_ | refine JC.seq ?_ | refine JC.region ?_ | refine JC.exit ?_ | refine JE.next ?_ | refine JE.then_exit ?_ | refine JE.blk_hit ?_)
      refine JL.store_eq (b := b11) (r := bc x) (r' := bc (x.set 11 (BitVec.ofNat 8 t.l.length))) u8sj rfl rfl rfl rfl (.there .here) (by rw [bc_len hx]; decide) set_bc ?_
      have hx1 : (x.set 11 (BitVec.ofNat 8 t.l.length)).length = 64 := by rw [List.length_set]; exact hx
      have hx2 : x.set 11 (BitVec.ofNat 8 t.l.length) = mm ++ [0, BitVec.ofNat 8 t.l.length] ++ t.l.take 0 ++ List.replicate (42 - 0) 0 ++ mm := by rw [hxa]; exact setA_end hm10 _
      generalize x.set 11 (BitVec.ofNat 8 t.l.length) = x1 at hx1 hx2
      repeat (first | refine JL.q (by (apply OQ.assign; exact rfl)) rfl ?_ | refine JC.seq ?_ | refine JC.region ?_ | refine JC.block ?_ | refine JL.nil ?_ | refine JE.next ?_)
      clear hx hxa x
      refine JC.loop (fun z : Nat × Bk => [(0, N gen), (1, N rec), (2, s.v), (7, accV (some q) (bcs L).length), (8, N (k * 42)), (9, t.v), (11, Pt b11 0), (15, N z.1)]) (fun z => ⟨b11, Row 83 (bc z.2), true⟩ :: accC 83 64 (some q) (bcs L)) (fun z => t.l.length - z.1) (fun z => z.1 ≤ t.l.length ∧ z.2.length = 64 ∧ z.2 = mm ++ [0, BitVec.ofNat 8 t.l.length] ++ t.l.take z.1 ++ List.replicate (42 - z.1) 0 ++ mm) (0, x1) ⟨Nat.zero_le _, hx1, hx2⟩ (by repeat (first | exact SubE.nil | refine SubE.cons _ _ _ rfl ?_)) (.drop _ _ _ (Less.refl _)) ?_
      clear hx1 hx2 x1
      rintro ⟨i, x⟩ ⟨hi, hx, hxe⟩
      dsimp only at hi hx hxe ⊢
      repeat (first | refine JL.q (by first | (apply OQ.len (k := t.l.length) (ad := t.ad) (cap := t.cap); exact Try.underlying31; exact rfl) | (apply OQ.move; exact rfl) | (apply OQ.lssN; exact rfl; exact rfl)) rfl ?_ | refine JC.seq ?_ | refine JC.region ?_ | refine JL.nil ?_ | refine JE.next ?_)
      refine JC.cond rfl (fun hc => ?_) (fun hc => ?_)
      · have hi' : i < t.l.length := by have := of_decide_eq_true hc; omega
        clear hc
        obtain ⟨bt, jt, et, ct⟩ := ht.reads i _ (map_at U8 0 hi')
        have hvt : t.v = .slice (some ⟨bt, jt, none⟩) t.l.length t.cap := by rw [← et]; rfl
        rw [hvt]
        have hxs : x.set (12 + i) (t.l.getD i 0) = mm ++ [0, BitVec.ofNat 8 t.l.length] ++ t.l.take (i + 1) ++ List.replicate (42 - (i + 1)) 0 ++ mm := by rw [hxe]; exact setB_step hm10 hi' (by omega)
        generalize t.l.getD i 0 = c at ct hxs
        repeat (first | refine JL.q (by first | (apply OQ.addN (a := 12) (b := i); exact rfl; exact rfl; exact (by omega)) | (apply OQ.idxS1 (i := i) (b := bt) (j := jt); exact Try.underlying31; exact u8sj; exact rfl; exact rfl; exact hi') | (apply OQ.load_old; exact u8c; exact rfl; exact (block_lt_of_cell ct); exact (by simp); exact ct) | (apply OQ.idxA0 (i := 12 + i) (len := 64); exact Try.underlying83; exact u8sj; exact rfl; exact rfl; exact (by omega)) | (apply OQ.move; exact rfl)) rfl ?_ | refine JC.seq ?_ | refine JC.region ?_ | refine JC.block ?_ | refine JC.skip ?_ | refine JE.next ?_)
        refine JL.store_eq (b := b11) (r := bc x) (r' := bc (x.set (12 + i) c)) u8sj rfl rfl rfl rfl .here (by rw [bc_len hx]; omega) set_bc ?_
        repeat (first | refine JL.q (by first | (apply OQ.move; exact rfl) | (apply OQ.assign; exact rfl) | (apply OQ.addN; exact rfl; exact rfl; exact (by (try simp only []); omega))) rfl ?_ | refine JC.region ?_ | refine JL.nil ?_ | refine JE.next ?_ | refine JE.blk_normal ?_)
        exact JE.again (i := (i, x)) (i + 1, x.set (12 + i) c) ⟨hi', by dsimp only; rw [List.length_set]; exact hx, hxs⟩ (by dsimp only; omega) (by repeat (first | exact SubE.nil | refine SubE.cons _ _ _ rfl ?_)) (Less.refl _)
      · have hit : i = t.l.length := by have := of_decide_eq_false hc; omega
        have hxb : x = blk (BitVec.ofNat 32 gen) rec s.l k := by
          rw [hxe, hit, List.take_of_length_le (Nat.le_refl _), blk_is hmb htc ht42]
        repeat (first | refine JL.q (by first | (apply OQ.load_agg (cs := bc x); exact dkAg; exact dkB; exact rfl; exact .here; exact (bc_len hx); exact Row.all) | (apply OQ.move; exact rfl)) rfl ?_ | refine JC.region ?_ | refine JC.exit ?_ | refine JE.next ?_ | refine JE.then_exit ?_ | refine JE.blk_hit ?_)
        refine JL.litA (cs := bc x) Try.underlying22 dkI rfl (by decide) (by decide) rfl (bc_len hx) rfl fun b7 _ => ?_
        refine JL.perm (M' := ⟨b7, Row 83 (bc x), true⟩ :: (accC 83 64 (some q) (bcs L) ++ [⟨b11, Row 83 (bc x), true⟩])) ?_ (by exact List.Perm.cons _ (List.perm_append_singleton _ _).symm)
        refine JL.appendC (c := bc x) (L := bcs L) (some q) Try.underlying22 dkI nofun rfl rfl (bc_len hx) (fun v hv => List.all_eq_true.1 (bc_cell _) v hv) rfl (by decide) (by unfold nb at hk'; omega) (by unfold nb at hk'; omega) rfl fun b' cap' => ?_
        have eL : bcs L ++ [bc x] = bcs (L ++ [x]) := by simp [bcs]
        rw [eL]
        repeat (first | refine JL.q (by first | (apply OQ.addN (a := k * 42) (b := 42); exact rfl; exact rfl; exact (by omega)) | (apply OQ.move; exact rfl) | (apply OQ.assign; exact rfl)) rfl ?_ | refine JC.region ?_ | refine JL.nil ?_ | refine JE.next ?_ | refine JE.blk_normal ?_)
        exact JE.again (i := (k, q, L)) (k + 1, (b', cap'), L ++ [x]) ⟨hk', by dsimp only; rw [List.range_succ, List.map_append, List.map_singleton, ← hLr, ← hxb]⟩ (by dsimp only; omega) (by rw [show (k + 1) * 42 = k * 42 + 42 by omega]; exact (by repeat (first | exact SubE.nil | refine SubE.cons _ _ _ rfl ?_))) (less_pre _ _)
end Go.Proofs.Ytkadoibacliepaa
