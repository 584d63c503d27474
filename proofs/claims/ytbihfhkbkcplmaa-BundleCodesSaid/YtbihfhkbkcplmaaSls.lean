/-
  Of no statement by itself: append of a string's bytes onto a slice of the function's own; over X's partial knowledge, for any program P.
  Conditions: each rule's own hypotheses.
-/
import Derived.Test.YtbihfhkbkcplmaaSlr
import Derived.Deep.AppendSrc
namespace Go.Proofs.Ytbihfhkbkcplmaa
namespace Sl
section
variable {P : Program} {t tx e : TypeId}
theorem byteCells_strB (l : List Bt) : Go.byteCells (strB l) = l.map U8 := by
  unfold Go.byteCells strB
  simp [U8, Function.comp_def]
theorem run_appendS_room (w : World) (ty : TypeId) (i : TypeInfo) (ht : P.underlying t = some (.slice e)) (hi : P.info? e = some i)
    (g sLen sCap : Nat) (x : Value) (m : Nat) (news : List Value) (hs : Src P i.size tx x m news w) (cur : Array Value) (hg : w.heap[g]? = some (.cells cur e (0, 0)))
    (hroom : sLen + m ≤ sCap) (hfit : sLen * i.size + news.length ≤ cur.size) :
    (Builtin.append_ #[t, tx] ty #[.slice (some ⟨g, 0, none⟩) sLen sCap, x]).run P w =
      .ok (.slice (some ⟨g, 0, none⟩) (sLen + m) sCap) (w.setRow g (cur.toList.take (sLen * i.size) ++ news ++ cur.toList.drop (sLen * i.size + news.length)).toArray) := by
  have hst := run_storeCells_at P g (sLen * i.size) e news 0 cur w hg (by simpa using hfit) hs.one
  simp only [Nat.add_zero] at hst
  rcases hs.kind with ⟨e', hk⟩ | hk <;> simp [Builtin.append_, run_underlying ht, run_underlying hk, sizeOf, typeInfo, hi, hs.len, hroom, hs.cells, Addr.add_lit] at hst ⊢ <;> simp [hst]
variable {n : Nat} {w0 : World} {S : List Nat} {ops : Array Oper} {Q : Exit → Act → World → Prop} {l : List Oper} {E : Env} {M : List Ent} {d b : Nat} {ty : TypeId} {pos : String} {aft : Array Edge} {x y : Operand}
theorem JL.appendS {k cap : Nat} {xs : List Value} {r : List Bt} (M' : Nat → Nat → List Ent) (hu : P.underlying t = some (.slice e)) (hk : P.underlying tx = some .string) (hi : EI P e (.int .u8 0) 1 1) (hx : ev E x = some (.slice (some ⟨b, 0, none⟩) k cap)) (hy : ev E y = some (Z r))
    (hup : ∀ b' cap', Repl M b (Own e 1 k cap xs) b' (Own e 1 (k + r.length) cap' (xs ++ r.map U8)) (M' b' cap'))
    (hsm : (k + r.length) ≤ 140737488355328) (hd : Nat.blt d n = true)
    (kk : ∀ b' cap', JL P n w0 S ops Q l ((d, .slice (some ⟨b', 0, none⟩) (k + r.length) cap') :: E) (M' b' cap')) : JL P n w0 S ops Q (⟨some d, .call ⟨.builtin .append, #[x, y], #[t, tx]⟩, ty, pos, aft, none⟩ :: l) E M :=
  ⟨fun a w ha hw => wpList_plain rfl fun K hK => by
    obtain ⟨i, hi1, hi2, hi3, hi4⟩ := hi.get
    obtain ⟨o, ho, sp, rfl, hc1, hc2, hc3⟩ := hw.get (hup 0 0).has
    have hsrc : Src P i.size tx (Z r) r.length (r.map U8) w := by
      have := Src.ofString (P := P) w hk (strB r)
      rw [byteCells_strB, strB_size] at this
      rw [hi3]; exact this
    unfold Oper.wp
    simp only [execOp, resolve, invoke, builtin, Sem.run_bind, Sem.run_pure, Result.andThen_ok, List.map_toArray, List.map_cons, List.map_nil, ha.eval hx, ha.eval hy]
    by_cases hroom : k + r.length ≤ cap
    · have hfit : k * i.size + (r.map U8).length ≤ (xs ++ sp).toArray.size := by
        rw [List.size_toArray, hc1, hi3, List.length_map]; omega
      rw [run_appendS_room w ty i hu hi1 b k cap (Z r) r.length (r.map U8) hsrc (xs ++ sp).toArray ho hroom hfit]
      refine hK _ _ ((kk b cap).go _ _ (ha.put d _ hd) (hw.write (hup b cap).upd (o' := .cells ((xs ++ sp).take (k * i.size) ++ r.map U8 ++ (xs ++ sp).drop (k * i.size + (r.map U8).length)).toArray e (0, 0)) ?_ (setRow_heap w b _ _ e _ ho) (by simp) (fun q hq => setRow_other w b q _ hq) rfl rfl rfl))
      rw [hi3, ← hc2, List.take_left]
      refine ⟨(xs ++ sp).drop (xs.length + (r.map U8).length), rfl, ?_, by rw [List.length_append, hc2, List.length_map, Nat.add_mul, Nat.mul_one r.length], hroom⟩
      simp only [List.size_toArray] at hfit
      simp only [List.length_append, List.length_drop, List.length_map] at hfit hc1 ⊢
      rw [hi3] at hfit
      omega
    · have hold : ∀ u v, xs[u]? = some v → w.cell? ((⟨b, 0, none⟩ : Addr).add u) = some v := fun u v hv => by
        rw [add_off]
        have hu' : u < xs.length := (List.getElem?_eq_some_iff.1 hv).1
        exact cell_of ho (by simpa [cellAt, List.getElem?_append_left hu'] using hv)
      have hfit := growslice_fits (need := k + r.length) (old := cap) (bytes := 1) (by omega) (by omega)
      have hfo := run_firstCells_some (P := P) w.drew i.size k ⟨b, 0, none⟩ k cap xs (by rw [hc2, hi3]) (by simpa using hold)
      rw [run_append_grow_src w t tx ty e i (.int .u8 0) hu hi1 hi2 (some ⟨b, 0, none⟩) k cap xs hfo (Z r) r.length (r.map U8) hsrc (by omega) (by omega) (by rw [hi4]; exact hfit)]
      have hge := grownCap_ge w (k + r.length) cap e
      generalize grownCap w (k + r.length) cap e = nc at hge
      refine hK _ _ ((kk w.heap.size nc).go _ _ (ha.put d _ hd) (hw.renew (.cells ((xs ++ r.map U8).toArray ++ Builtin.zeroCells (Value.int .u8 0).cells (nc - (k + r.length))) e) (hup _ _) ?_ rfl rfl rfl rfl))
      have h8 : (Builtin.zeroCells (Value.int .u8 0).cells (nc - (k + r.length))).size = (nc - (k + r.length)) := by
        rw [show (Value.int .u8 0).cells = #[Value.int .u8 0] from rfl]; simp [Builtin.zeroCells]
      refine ⟨(Builtin.zeroCells (Value.int .u8 0).cells (nc - (k + r.length))).toList, by simp, ?_, by rw [List.length_append, hc2, List.length_map, Nat.add_mul, Nat.mul_one r.length], hge⟩
      simp only [List.length_append, Array.length_toList, h8, hc2, List.length_map]
      omega⟩
end
end Sl
end Go.Proofs.Ytbihfhkbkcplmaa
