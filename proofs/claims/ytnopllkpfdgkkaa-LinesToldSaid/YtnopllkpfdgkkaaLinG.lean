/-
  Of no statement by itself: what the reference's functions of layer 8 give, told as facts of the world.
  Conditions: each theorem's own.
-/
import Derived.Test.YtnopllkpfdgkkaaLinA
import Derived.Test.YtnopllkpfdgkkaaLinZ
namespace Go.Proofs.Ytnopllkpfdgkkaa
open Sl Lin
theorem rwhole_g (s : Sl8) (w : World) (hs : s.ok w) (hl : s.l.length ≤ 1000000) : Calls Try.prog 13 [s.v].toArray w (Gives (whB s.l) w) :=
  (rwhole_any s w hs hl).mono fun e w' ⟨q, h1, h2⟩ => ⟨⟨some ⟨q.1, 0, none⟩, q.2, whB s.l⟩, h1, h2.chg, rfl, ownb_ok h2 .here⟩
theorem rstuff_g (s : Sl8) (w : World) (hs : s.ok w) (hl : s.l.length ≤ 1000000) : Calls Try.prog 19 [s.v].toArray w (Gives (stB s.l) w) :=
  (rstuff_any s w hs hl).mono fun e w' ⟨q, h1, h2⟩ => ⟨⟨some ⟨q.1, 0, none⟩, q.2, stB s.l⟩, h1, h2.chg, rfl, ownb_ok h2 .here⟩
theorem rlaid_g (s : Sl8) (w : World) (hs : s.ok w) (hl : s.l.length ≤ 1000000) : Calls Try.prog 20 [s.v].toArray w (Gives (laidB s.l) w) :=
  (rlaid_any s w hs hl).mono fun e w' ⟨q, h1, h2⟩ => ⟨⟨some ⟨q.1, 0, none⟩, q.2, laidB s.l⟩, h1, h2.chg, rfl, ownb_ok h2 .here⟩
end Go.Proofs.Ytnopllkpfdgkkaa
