/-
  Of no statement by itself: append onto a slice of bytes that a conversion of a string has made (its block bears a mark behind its cells); over X's partial knowledge, for any program P.
  Conditions: each rule's own hypotheses.
-/
import Derived.Test.YtchoiikhepjdiaaDoorSlp
namespace Go.Proofs.YtchoiikhepjdiaaDoor
namespace Sl
/-- a slice's own cells, first in their block, none of which is frozen -/
def OwnF (e : TypeId) (n cap : Nat) (xs : List Value) : Obj → Prop := fun o => ∃ (sp : List Value) (fr : Nat × Nat), o = .cells (xs ++ sp).toArray e fr ∧ (cap ≤ fr.1 ∨ fr.2 = 0) ∧ (xs ++ sp).length = cap ∧ xs.length = n ∧ n ≤ cap
theorem Own.toF {e : TypeId} {n cap : Nat} {xs : List Value} : ∀ o, Sl.Own e 1 n cap xs o → OwnF e n cap xs o := by
  rintro o ⟨sp, rfl, h1, h2, h3⟩
  exact ⟨sp, (0, 0), rfl, .inr rfl, by rw [h1, Nat.mul_one], by rw [h2, Nat.mul_one], h3⟩
theorem OwnF.cells {e : TypeId} {n cap : Nat} {xs : List Value} : ∀ o, OwnF e n cap xs o → hasCells o 0 xs := by
  rintro o ⟨sp, fr, rfl, _⟩
  exact ⟨_, _, _, rfl, fun i hi => by simp [List.getElem?_append_left hi]⟩
theorem ownF_ents {e : TypeId} {b n cap : Nat} {Y : List Bt} (hn : Y.length = n) : Less (Sl8.ents ⟨some ⟨b, 0, none⟩, cap, Y⟩) [⟨b, OwnF e n cap (Y.map U8), true⟩] :=
  .keep _ _ _ _ _ _ (fun o h => ⟨OwnF.cells o h, by obtain ⟨_, _, _, _, _, _, h4⟩ := h; rw [hn]; exact h4, rfl⟩) (.nil _)
theorem ownF_ok {w0 w : World} {S : List Nat} {M : List Ent} {b k cap : Nat} {e : TypeId} {l : List Bt} {wr : Bool} (hw : Holds w0 S M w) (hM : Has M b (OwnF e k cap (l.map U8)) wr) : Sl8.ok w ⟨some ⟨b, 0, none⟩, cap, l⟩ := by
  obtain ⟨o, ho, hA⟩ := hw.get hM
  have hh := OwnF.cells _ hA
  obtain ⟨sp, fr, rfl, _, h2, h3, h4⟩ := hA
  simp only [List.length_map] at h3
  exact ⟨by show l.length ≤ cap; omega, Reads.block ho hh⟩
section
variable {P : Program} {t tx e : TypeId}
theorem store_runF {w : World} {b j : Nat} {v : Value} {c : Array Value} {e : TypeId} {fr : Nat × Nat} (hv : v.oneCell' = true) (ho : w.heap[b]? = some (.cells c e fr)) (hf : c.size ≤ fr.1 ∨ fr.2 = 0) (hj : j < c.size) :
    (Go.store ⟨b, j, none⟩ v).run P w = .ok () (w.setCell ⟨b, j, none⟩ v) := by
  have hc : w.cell? ⟨b, j, none⟩ = some c[j] := by simp [World.cell?, ho, hj]
  have hf : w.frozen? ⟨b, j, none⟩ = false := by
    obtain ⟨lo, hi⟩ := fr
    simp only [World.frozen?, ho, Bool.and_eq_false_iff, decide_eq_false_iff_not]
    simp only at hf
    omega
  cases v <;> simp_all [Go.store, Sem.run, Value.oneCell']
theorem storeCells_runF {b j : Nat} {e : TypeId} {fr : Nat × Nat} : ∀ (vs : List Value) (i : Nat) (w : World) (c : List Value), (∀ v ∈ vs, v.oneCell' = true) → w.heap[b]? = some (.cells c.toArray e fr) → c.length ≤ fr.1 ∨ fr.2 = 0 → j + i + vs.length ≤ c.length →
    ∃ w', (storeCells ⟨b, j, none⟩ vs i).run P w = .ok () w' ∧ w'.heap[b]? = some (.cells (c.take (j + i) ++ vs ++ c.drop (j + i + vs.length)).toArray e fr) ∧ w'.heap.size = w.heap.size ∧
      (∀ k, k ≠ b → w'.heap[k]? = w.heap[k]?) ∧ w'.os = w.os ∧ w'.tape = w.tape ∧ w'.output = w.output
  | [], i, w, c, _, ho, _, _ => ⟨w, rfl, by simpa using ho, rfl, fun _ _ => rfl, rfl, rfl, rfl⟩
  | v :: vs, i, w, c, h1, ho, hf, hl => by
    simp only [List.length_cons] at hl
    obtain ⟨w', r1, r2, r3, r4, r5, r6, r7⟩ := storeCells_runF (j := j) (e := e) (fr := fr) vs (i + 1) (w.setCell ⟨b, j + i, none⟩ v) (c.set (j + i) v) (fun u hu => h1 u (by simp [hu])) (by
      rw [setCell_heap ho]; simp) (by simpa using hf) (by simp; omega)
    refine ⟨w', ?_, ?_, r3.trans setCell_size, fun k hk => (r4 k hk).trans (setCell_other hk), r5, r6, r7⟩
    · simp only [storeCells, Sem.run_bind, add_off]
      rw [store_runF (h1 v (by simp)) ho (by simpa using hf) (by simp; omega)]
      exact r1
    · rw [r2]
      congr 3
      rw [List.take_set, List.drop_set, if_pos (by omega)]
      rw [show j + (i + 1) = j + i + 1 by omega, List.take_add_one]
      simp only [List.getElem?_eq_getElem (show j + i < c.length by omega), Option.toList_some, List.length_cons]
      rw [List.set_append_right _ _ (by rw [List.length_take]; omega)]
      simp [List.length_take, Nat.min_eq_left (show j + i ≤ c.length by omega), Nat.add_assoc, Nat.add_comm, Nat.add_left_comm]
theorem append_roomF {w : World} {ty : TypeId} {i : TypeInfo} (ht : P.underlying t = some (.slice e)) (hi : P.info? e = some i) (hs1 : i.size = 1) {b k cap m : Nat} {x : Value} {news cur : List Value} {fr : Nat × Nat} (hs : Src P 1 tx x m news w)
    (hg : w.heap[b]? = some (.cells cur.toArray e fr)) (hf : cur.length ≤ fr.1 ∨ fr.2 = 0) (hroom : k + m ≤ cap) (hfit : k + news.length ≤ cur.length) :
    ∃ w', (Builtin.append_ #[t, tx] ty #[.slice (some ⟨b, 0, none⟩) k cap, x]).run P w = .ok (.slice (some ⟨b, 0, none⟩) (k + m) cap) w' ∧ w'.heap[b]? = some (.cells (cur.take k ++ news ++ cur.drop (k + news.length)).toArray e fr) ∧ w'.heap.size = w.heap.size ∧
      (∀ q, q ≠ b → w'.heap[q]? = w.heap[q]?) ∧ w'.os = w.os ∧ w'.tape = w.tape ∧ w'.output = w.output := by
  obtain ⟨w', r1, r2, r3, r4, r5, r6, r7⟩ := storeCells_runF (P := P) (b := b) (j := k) (e := e) (fr := fr) news 0 w cur hs.one hg hf (by omega)
  simp only [Nat.add_zero] at r2
  refine ⟨w', ?_, r2, r3, r4, r5, r6, r7⟩
  have hc := hs.cells
  rcases hs.kind with ⟨e', hk⟩ | hk <;> simp [Builtin.append_, run_underlying ht, run_underlying hk, sizeOf, typeInfo, hi, hs1, hs.len, hroom, hc, add_off, r1]
variable {n : Nat} {w0 : World} {S : List Nat} {ops : Array Oper} {Q : Exit → Act → World → Prop} {l : List Oper} {E : Env} {M : List Ent} {d b : Nat} {ty : TypeId} {pos : String} {aft : Array Edge} {x y : Operand}
theorem JL.appendX {k cap m : Nat} {v : Value} {xs news : List Value} (M' : Nat → Nat → List Ent) (hu : P.underlying t = some (.slice e)) (hi : EI P e (.int .u8 0) 1 1) (hx : ev E x = some (.slice (some ⟨b, 0, none⟩) k cap)) (hy : ev E y = some v)
    (hs : ∀ w, Holds w0 S M w → Src P 1 tx v m news w) (hup : ∀ b' cap', Repl M b (OwnF e k cap xs) b' (OwnF e (k + m) cap' (xs ++ news)) (M' b' cap'))
    (hsm : (k + m) ≤ 140737488355328) (hd : Nat.blt d n = true)
    (kk : ∀ b' cap', JL P n w0 S ops Q l ((d, .slice (some ⟨b', 0, none⟩) (k + m) cap') :: E) (M' b' cap')) : JL P n w0 S ops Q (⟨some d, .call ⟨.builtin .append, #[x, y], #[t, tx]⟩, ty, pos, aft, none⟩ :: l) E M :=
  ⟨fun a w ha hw => wpList_plain rfl fun K hK => by
    obtain ⟨i, hi1, hi2, hi3, hi4⟩ := hi.get
    obtain ⟨o, ho, sp, fr, rfl, hfr, hc1, hc2, hc3⟩ := hw.get (hup 0 0).has
    have hsrc := hs w hw
    have hnl : news.length = m := by have := hsrc.newsLen; omega
    unfold Oper.wp
    simp only [execOp, resolve, invoke, builtin, Sem.run_bind, Sem.run_pure, Result.andThen_ok, List.map_toArray, List.map_cons, List.map_nil, ha.eval hx, ha.eval hy]
    by_cases hroom : k + m ≤ cap
    · obtain ⟨w', r1, r2, r3, r4, r5, r6, r7⟩ := append_roomF (ty := ty) hu hi1 hi3 hsrc ho (by rw [hc1]; exact hfr) hroom (by rw [hc1, hnl]; exact hroom)
      rw [r1]
      refine hK _ _ ((kk b cap).go _ _ (ha.put d _ hd) (hw.write (hup b cap).upd (o' := .cells ((xs ++ sp).take k ++ news ++ (xs ++ sp).drop (k + news.length)).toArray e fr) ?_ r2 r3 r4 r5 r6 r7))
      subst hc2
      rw [List.take_left]
      refine ⟨(xs ++ sp).drop (xs.length + news.length), fr, rfl, hfr, ?_, by rw [List.length_append, hnl], hroom⟩
      simp only [List.length_append, List.length_drop] at hc1 ⊢
      omega
    · have hold : ∀ u v, xs[u]? = some v → w.cell? ((⟨b, 0, none⟩ : Addr).add u) = some v := fun u v hv => by
        rw [add_off]
        have hu' : u < xs.length := (List.getElem?_eq_some_iff.1 hv).1
        exact cell_of ho (by simpa [cellAt, List.getElem?_append_left hu'] using hv)
      have hfit := growslice_fits (need := k + m) (old := cap) (bytes := 1) (by omega) (by omega)
      have hfo := run_firstCells_some (P := P) w.drew i.size k ⟨b, 0, none⟩ k cap xs (by rw [hc2, hi3, Nat.mul_one]) (by simpa using hold)
      rw [run_append_grow_src w t tx ty e i (.int .u8 0) hu hi1 hi2 (some ⟨b, 0, none⟩) k cap xs hfo v m news (by rw [hi3]; exact hsrc) (by omega) (by omega) (by rw [hi4]; exact hfit)]
      have hge := grownCap_ge w (k + m) cap e
      generalize grownCap w (k + m) cap e = nc at hge
      refine hK _ _ ((kk w.heap.size nc).go _ _ (ha.put d _ hd) (hw.renew (.cells ((xs ++ news).toArray ++ Builtin.zeroCells (Value.int .u8 0).cells (nc - (k + m))) e) (hup _ _) ?_ rfl rfl rfl rfl))
      have h8 : (Builtin.zeroCells (Value.int .u8 0).cells (nc - (k + m))).size = (nc - (k + m)) := by
        rw [show (Value.int .u8 0).cells = #[Value.int .u8 0] from rfl]; simp [Builtin.zeroCells]
      refine ⟨(Builtin.zeroCells (Value.int .u8 0).cells (nc - (k + m))).toList, (0, 0), by simp, .inr rfl, ?_, by rw [List.length_append, hc2, hnl], hge⟩
      simp only [List.length_append, Array.length_toList, h8, hc2, hnl]
      omega⟩
theorem src_reads {w : World} {ad : Option Addr} {m sc : Nat} {cs : List Value} (hu : P.underlying tx = some (.slice e)) (hl : cs.length = m) (hr : Reads w ad cs) (h1 : ∀ v ∈ cs, v.oneCell' = true) : Src P 1 tx (.slice ad m sc) m cs w := by
  by_cases h0 : m = 0
  · subst h0
    obtain rfl : cs = [] := List.eq_nil_of_length_eq_zero hl
    cases ad with
    | none => exact Src.ofNil w hu sc
    | some a => exact Src.ofSlice w hu a 0 sc [] rfl (fun j u h => by simp at h) (fun u h => by cases h)
  · obtain ⟨b2, j2, rfl, hcell⟩ := hr.at (by omega)
    exact Src.ofSlice w hu ⟨b2, j2, none⟩ m sc cs (by omega) (fun u v hv => by rw [add_off]; exact hcell u v hv) h1
theorem src_str {w : World} {r : List Bt} (hk : P.underlying tx = some .string) : Src P 1 tx (Z r) r.length (r.map U8) w := by
  have := Src.ofString (P := P) w hk (strB r)
  rw [byteCells_strB, strB_size] at this
  exact this
/-- x = append(x, v) -/
theorem JL.pushF {t ty ty' : TypeId} {v : Value} {k cap d1 d2 : Nat} {pos pos' : String} {aft aft' : Array Edge} {xs : List Value} {x y : Operand}
    (M' : Nat → Nat → List Ent) (hu : P.underlying t = some (.slice e)) (hi : EI P e (.int .u8 0) 1 1) (hx : ev E x = some v) (hv : v.cells = #[v]) (h1 : v.oneCell' = true)
    (ha : ∀ bl, ev ((d1, .slice (some ⟨bl, 0, none⟩) 1 1) :: E) y = some (.slice (some ⟨b, 0, none⟩) k cap)) (hup : ∀ b' cap', Repl M b (OwnF e k cap xs) b' (OwnF e (k + 1) cap' (xs ++ [v])) (M' b' cap'))
    (hsm : k + 1 ≤ 140737488355328) (hd1 : Nat.blt d1 n = true) (hd2 : Nat.blt d2 n = true)
    (kk : ∀ bl b' cap', JL P n w0 S ops Q l ((d2, .slice (some ⟨b', 0, none⟩) (k + 1) cap') :: (d1, .slice (some ⟨bl, 0, none⟩) 1 1) :: E) (M' b' cap')) :
    JL P n w0 S ops Q (⟨some d1, .buildSlice t 1 #[(0, x)], ty, pos, aft, none⟩ :: ⟨some d2, .call ⟨.builtin .append, #[y, .tmp d1], #[t, t]⟩, ty', pos', aft', none⟩ :: l) E M := by
  refine JL.lit1 hu hi rfl hx hv hd1 fun bl _ => ?_
  refine JL.appendX (news := [v]) (m := 1) (v := .slice (some ⟨bl, 0, none⟩) 1 1) (fun b' cap' => ⟨bl, Row e [v], true⟩ :: M' b' cap') hu hi (ha bl) (by simp [ev, lk]) (fun w hw => src_reads hu rfl ?_ (by simpa using h1)) (fun b' cap' => .there (hup b' cap')) hsm hd2 fun b' cap' => ?_
  · obtain ⟨o, ho, hA⟩ := hw.get (b := bl) (A := Row e [v]) (wr := true) .here
    exact Reads.block ho (Row.all _ hA)
  · exact ⟨fun a w ha hw => (kk bl b' cap').go a w ha (hw.weak (.drop _ _ _ (Less.refl _)))⟩
/-- x = append(x, v1, v2) -/
theorem JL.pushF2 {t ty ty' : TypeId} {v1 v2 : Value} {k cap d1 d2 : Nat} {pos pos' : String} {aft aft' : Array Edge} {xs : List Value} {x1 x2 y : Operand}
    (M' : Nat → Nat → List Ent) (hu : P.underlying t = some (.slice e)) (hi : EI P e (.int .u8 0) 1 1) (hx1 : ev E x1 = some v1) (hx2 : ev E x2 = some v2) (hv1 : v1.cells = #[v1]) (hv2 : v2.cells = #[v2]) (h1 : v1.oneCell' = true) (h2 : v2.oneCell' = true)
    (ha : ∀ bl, ev ((d1, .slice (some ⟨bl, 0, none⟩) 2 2) :: E) y = some (.slice (some ⟨b, 0, none⟩) k cap)) (hup : ∀ b' cap', Repl M b (OwnF e k cap xs) b' (OwnF e (k + 2) cap' (xs ++ [v1, v2])) (M' b' cap'))
    (hsm : k + 2 ≤ 140737488355328) (hd1 : Nat.blt d1 n = true) (hd2 : Nat.blt d2 n = true)
    (kk : ∀ bl b' cap', JL P n w0 S ops Q l ((d2, .slice (some ⟨b', 0, none⟩) (k + 2) cap') :: (d1, .slice (some ⟨bl, 0, none⟩) 2 2) :: E) (M' b' cap')) :
    JL P n w0 S ops Q (⟨some d1, .buildSlice t 2 #[(0, x1), (1, x2)], ty, pos, aft, none⟩ :: ⟨some d2, .call ⟨.builtin .append, #[y, .tmp d1], #[t, t]⟩, ty', pos', aft', none⟩ :: l) E M := by
  refine JL.litL (xs := [x1, x2]) (vs := [v1, v2]) hu hi rfl rfl (by simp [evs, hx1, hx2]) (by simp [h1, h2]) (by simp [hv1, hv2]) rfl (by decide) (by decide) hd1 fun bl _ => ?_
  refine JL.appendX (news := [v1, v2]) (m := 2) (v := .slice (some ⟨bl, 0, none⟩) 2 2) (fun b' cap' => ⟨bl, Row e [v1, v2], true⟩ :: M' b' cap') hu hi (ha bl) (by simp [ev, lk]) (fun w hw => src_reads hu rfl ?_ (by simp [h1, h2])) (fun b' cap' => .there (hup b' cap')) hsm hd2 fun b' cap' => ?_
  · obtain ⟨o, ho, hA⟩ := hw.get (b := bl) (A := Row e [v1, v2]) (wr := true) .here
    exact Reads.block ho (Row.all _ hA)
  · exact ⟨fun a w ha hw => (kk bl b' cap').go a w ha (hw.weak (.drop _ _ _ (Less.refl _)))⟩
/-- []byte(s), onto which may be appended -/
theorem JL.s2o {t' : TypeId} {r : List Bt} {u : TypeDesc} (hs : P.underlying t = some u) (hsu : u = .string) (hu : P.underlying t' = some (.slice e)) (he : P.underlying e = some (.int .u8)) (hx : ev E x = some (Z r)) (hd : Nat.blt d n = true)
    (k : ∀ b cap, w0.heap.size ≤ b → JL P n w0 S ops Q l ((d, .slice (some ⟨b, 0, none⟩) r.length cap) :: E) (⟨b, OwnF e r.length cap (r.map U8), true⟩ :: M)) : JL P n w0 S ops Q (⟨some d, .convert t t' x, ty, pos, aft, none⟩ :: l) E M :=
  ⟨fun a w ha hw => wpList_plain rfl fun K hK => by
    subst hsu
    have hrun := Lib.run_convert_string_bytes (P := P) w t t' e (strB r) hs hu he
    have hheap : (Lib.bytesWorld w e (strB r)).heap = w.heap.push (.cells (Lib.bytesCells w e (strB r)) e ((Lib.bytesCells w e (strB r)).size, (Lib.bytesCells w e (strB r)).size + 1)) := by
      apply Array.ext_getElem?
      intro i
      rw [Array.getElem?_push]
      by_cases h : i = w.heap.size
      · rw [if_pos h, h, Lib.bytesWorld_at_new]
      · rw [if_neg h]
        by_cases h2 : i < w.heap.size
        · rw [Lib.bytesWorld_at_old _ _ _ _ h2]
        · rw [Array.getElem?_eq_none (by rw [Lib.bytesWorld_size]; omega), Array.getElem?_eq_none (by omega)]
    have hge := grownCap_ge w (strB r).size 0 e
    rw [strB_size] at hge hrun
    have hA : OwnF e r.length (grownCap w r.length 0 e) (r.map U8) (.cells (Lib.bytesCells w e (strB r)) e ((Lib.bytesCells w e (strB r)).size, (Lib.bytesCells w e (strB r)).size + 1)) := by
      have hb : ((strB r).data.toList.map fun b => Value.int .u8 b.toNat) = r.map U8 := by
        have := byteCells_strB r
        exact this
      have hc : Lib.bytesCells w e (strB r) = (r.map U8 ++ List.replicate (grownCap w r.length 0 e - r.length) (Value.int .u8 0)).toArray := by
        have hsz := strB_size r
        rw [← hb]
        apply Array.ext'
        simp [Lib.bytesCells, hsz]
      have hl : (Lib.bytesCells w e (strB r)).size = grownCap w r.length 0 e := by rw [hc]; simp; omega
      refine ⟨List.replicate (grownCap w r.length 0 e - r.length) (Value.int .u8 0), _, by rw [← hc], .inl (by show _ ≤ (Lib.bytesCells w e (strB r)).size; omega), ?_, by simp, hge⟩
      simp; omega
    unfold Oper.wp
    simp only [execOp, ha.eval hx, Sem.run_bind, hrun, Result.andThen_ok]
    exact hK _ _ ((k w.heap.size _ hw.chg.size).go _ _ (ha.put d _ hd) (hw.push _ hA hheap rfl rfl rfl))⟩
end
end Sl
end Go.Proofs.YtchoiikhepjdiaaDoor
