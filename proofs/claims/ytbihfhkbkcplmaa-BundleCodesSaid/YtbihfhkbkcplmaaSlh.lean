/-
  Of no statement by itself: append of made noughts onto a byte slice of the function's own.
  Conditions: the rule's own hypotheses.
-/
import Derived.Test.YtbihfhkbkcplmaaSlg
namespace Go.Proofs.Ytbihfhkbkcplmaa
namespace Sl
section
variable {P : Program} {t tx e : TypeId}
theorem zeroCells_u8 (n : Nat) : Builtin.zeroCells #[.int .u8 0] n = (List.replicate n (Value.int .u8 0)).toArray := by
  apply Array.ext'
  simp only [Builtin.zeroCells, List.size_toArray, List.length_cons, List.length_nil, Array.toList_map, Array.toList_range]
  apply List.ext_getElem?
  intro i
  by_cases h : i < n
  · simp [h, Nat.mod_one]
  · simp [h]
theorem run_append0_room (w : World) (ty : TypeId) (i : TypeInfo) (ht : P.underlying t = some (.slice e)) (hk : P.underlying tx = some (.int .i64)) (hi : P.info? e = some i) (hz : i.zero = some (.int .u8 0)) (hs : i.size = 1) (hb : i.bytes = 1)
    (g sLen sCap m : Nat) (cur : Array Value) (hg : w.heap[g]? = some (.cells cur e (0, 0))) (hm : m ≤ 281474976710656)
    (hroom : sLen + m ≤ sCap) (hfit : sLen + m ≤ cur.size) :
    (Builtin.append_ #[t, tx] ty #[.slice (some ⟨g, 0, none⟩) sLen sCap, N m]).run P w =
      .ok (.slice (some ⟨g, 0, none⟩) (sLen + m) sCap) (w.setRow g (cur.toList.take (sLen * i.size) ++ List.replicate m (Value.int .u8 0) ++ cur.toList.drop (sLen * i.size + (List.replicate m (Value.int .u8 0)).length)).toArray) := by
  have hst := run_storeCells_at P g (sLen * i.size) e (List.replicate m (Value.int .u8 0)) 0 cur w hg (by simp [hs]; omega) (by simp [Value.oneCell'])
  simp only [Nat.add_zero] at hst
  have hw : IntKind.i64.wrap (m : Int) = m := wrapN (by omega) (by omega)
  have h1 : ¬ ((m : Int) < 0) := by omega
  have h2 : ¬ ((281474976710656 : Int) < (m : Int)) := by omega
  have hz' : (Value.int .u8 0).cells = #[Value.int .u8 0] := rfl
  by_cases h0 : m = 0
  · subst h0
    have hw0 : IntKind.i64.wrap 0 = 0 := rfl
    have hr : sLen ≤ sCap := by omega
    simp [Builtin.append_, run_underlying ht, run_underlying hk, sizeOf, typeInfo, hi, hs, hb, asInt, asIntOf, N, hr, Addr.add_lit, hw0] at hst ⊢
    simp [hst]
  · simp [Builtin.append_, run_underlying ht, run_underlying hk, sizeOf, typeInfo, zeroValue, hi, hz, hs, hb, asInt, asIntOf, N, hw, h1, h2, h0, hroom, Addr.add_lit, hz', zeroCells_u8] at hst ⊢
    rw [hst]; rfl
theorem run_append0_grow (w : World) (ty : TypeId) (i : TypeInfo) (ht : P.underlying t = some (.slice e)) (hk : P.underlying tx = some (.int .i64)) (hi : P.info? e = some i) (hz : i.zero = some (.int .u8 0)) (hs : i.size = 1) (hb : i.bytes = 1)
    (b : Addr) (sLen sCap m : Nat) (olds : List Value) (hlo : olds.length = sLen * i.size) (holds : ∀ j v, olds[j]? = some v → w.cell? (b.add j) = some v) (hm : m ≤ 281474976710656)
    (hg : sCap < sLen + m) (h63 : ((sLen + m : Nat) : Int) ≤ 9223372036854775807) (hfit : Builtin.nextslicecap (sLen + m) sCap * i.bytes ≤ 281474976710656) :
    (Builtin.append_ #[t, tx] ty #[.slice (some b) sLen sCap, N m]).run P w =
      .ok (.slice (some ⟨w.heap.size, 0, none⟩) (sLen + m) (grownCap w (sLen + m) sCap e))
        (w.drew.alloc (.cells (olds.toArray ++ (List.replicate m (Value.int .u8 0)).toArray ++ Builtin.zeroCells #[.int .u8 0] (grownCap w (sLen + m) sCap e - (sLen + m))) e)) := by
  have hn : ¬ (sLen + m ≤ sCap) := by omega
  have h63' : ¬ (9223372036854775807 < ((sLen : Int) + (m : Int))) := by omega
  have h48' : ¬ (281474976710656 < Builtin.nextslicecap (sLen + m) sCap) := by rw [hb] at hfit; omega
  have hfo := run_firstCells_some (P := P) w.drew i.size sLen b sLen sCap olds hlo (by simpa using holds)
  have hw : IntKind.i64.wrap (m : Int) = m := wrapN (by omega) (by omega)
  have h1 : ¬ ((m : Int) < 0) := by omega
  have h2 : ¬ ((281474976710656 : Int) < (m : Int)) := by omega
  have hz' : (Value.int .u8 0).cells = #[Value.int .u8 0] := rfl
  rw [hs] at hfo
  by_cases h0 : m = 0
  · subst h0
    have hw0 : IntKind.i64.wrap 0 = 0 := rfl
    have hn0 : ¬ (sLen ≤ sCap) := by omega
    have h63'' : ¬ (9223372036854775807 < (sLen : Int)) := by omega
    have h48'' : ¬ (281474976710656 < Builtin.nextslicecap sLen sCap) := by simpa using h48'
    simp [Builtin.append_, run_underlying ht, run_underlying hk, sizeOf, typeInfo, zeroValue, hi, hz, hs, hb, asInt, asIntOf, N, hw0, hn0, h63'', h48'', Question.forced, hfo, newRow, grownCap, hz']
  · have h48' : ¬ (281474976710656 < Builtin.nextslicecap (sLen + m) sCap) := h48'
    simp [Builtin.append_, run_underlying ht, run_underlying hk, sizeOf, typeInfo, zeroValue, hi, hz, hs, hb, asInt, asIntOf, N, hw, h1, h2, h0, hn, h63', h48', Question.forced, hfo, newRow, grownCap, hz', zeroCells_u8]
variable {n : Nat} {w0 : World} {S : List Nat} {ops : Array Oper} {Q : Exit → Act → World → Prop} {l : List Oper} {E : Env} {M : List Ent} {d b : Nat} {ty : TypeId} {pos : String} {aft : Array Edge} {x y : Operand}
/-- append(x, make([]byte, m)...) onto a slice of the function's own -/
theorem JL.append0 {k m cap : Nat} {xs : List Value} (M' : Nat → Nat → List Ent) (hu : P.underlying t = some (.slice e)) (hk : P.underlying tx = some (.int .i64)) (hi : EI P e (.int .u8 0) 1 1) (hx : ev E x = some (.slice (some ⟨b, 0, none⟩) k cap)) (hy : ev E y = some (N m))
    (hup : ∀ b' cap', Repl M b (Own e 1 k cap xs) b' (Own e 1 (k + m) cap' (xs ++ List.replicate m (Value.int .u8 0))) (M' b' cap'))
    (hsm : (k + m) ≤ 140737488355328) (hd : Nat.blt d n = true)
    (kk : ∀ b' cap', JL P n w0 S ops Q l ((d, .slice (some ⟨b', 0, none⟩) (k + m) cap') :: E) (M' b' cap')) : JL P n w0 S ops Q (⟨some d, .call ⟨.builtin .append, #[x, y], #[t, tx]⟩, ty, pos, aft, none⟩ :: l) E M :=
  ⟨fun a w ha hw => wpList_plain rfl fun K hK => by
    obtain ⟨i, hi1, hi2, hi3, hi4⟩ := hi.get
    obtain ⟨o, ho, sp, rfl, hc1, hc2, hc3⟩ := hw.get (hup 0 0).has
    unfold Oper.wp
    simp only [execOp, resolve, invoke, builtin, Sem.run_bind, Sem.run_pure, Result.andThen_ok, List.map_toArray, List.map_cons, List.map_nil, ha.eval hx, ha.eval hy]
    by_cases hroom : k + m ≤ cap
    · have hfit : k + m ≤ (xs ++ sp).toArray.size := by
        rw [List.size_toArray, hc1]; omega
      rw [run_append0_room w ty i hu hk hi1 hi2 hi3 hi4 b k cap m (xs ++ sp).toArray ho (by omega) hroom hfit]
      refine hK _ _ ((kk b cap).go _ _ (ha.put d _ hd) (hw.write (hup b cap).upd (o' := .cells ((xs ++ sp).take (k * i.size) ++ List.replicate m (Value.int .u8 0) ++ (xs ++ sp).drop (k * i.size + (List.replicate m (Value.int .u8 0)).length)).toArray e (0, 0)) ?_ (setRow_heap w b _ _ e _ ho) (by simp) (fun q hq => setRow_other w b q _ hq) rfl rfl rfl))
      rw [hi3, ← hc2, List.take_left]
      refine ⟨(xs ++ sp).drop (xs.length + (List.replicate m (Value.int .u8 0)).length), rfl, ?_, by rw [List.length_append, hc2, List.length_replicate, Nat.add_mul, Nat.mul_one m], hroom⟩
      simp only [List.size_toArray] at hfit
      simp only [List.length_append, List.length_drop, List.length_replicate] at hfit hc1 ⊢
      omega
    · have hold : ∀ u v, xs[u]? = some v → w.cell? ((⟨b, 0, none⟩ : Addr).add u) = some v := fun u v hv => by
        rw [add_off]
        have hu' : u < xs.length := (List.getElem?_eq_some_iff.1 hv).1
        exact cell_of ho (by simpa [cellAt, List.getElem?_append_left hu'] using hv)
      have hfit := growslice_fits (need := k + m) (old := cap) (bytes := 1) (by omega) (by omega)
      rw [run_append0_grow w ty i hu hk hi1 hi2 hi3 hi4 ⟨b, 0, none⟩ k cap m xs (by rw [hc2, hi3]) hold (by omega) (by omega) (by omega) (by rw [hi4]; exact hfit)]
      have hge := grownCap_ge w (k + m) cap e
      generalize grownCap w (k + m) cap e = nc at hge
      refine hK _ _ ((kk w.heap.size nc).go _ _ (ha.put d _ hd) (hw.renew (.cells (xs.toArray ++ (List.replicate m (Value.int .u8 0)).toArray ++ Builtin.zeroCells #[.int .u8 0] (nc - (k + m))) e) (hup _ _) ?_ rfl rfl rfl rfl))
      refine ⟨(Builtin.zeroCells #[.int .u8 0] (nc - (k + m))).toList, by simp, ?_, by rw [List.length_append, hc2, List.length_replicate, Nat.add_mul, Nat.mul_one m], hge⟩
      have h8 : (Builtin.zeroCells #[.int .u8 0] (nc - (k + m))).size = (nc - (k + m)) := by simp [Builtin.zeroCells]
      simp only [List.length_append, Array.length_toList, h8, hc2, List.length_replicate]
      omega⟩
end
end Sl
end Go.Proofs.Ytbihfhkbkcplmaa
