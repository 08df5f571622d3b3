/-
  odd draws a truth value. Conditions: fewer than 10^9 draws before; the odds are from 1 to 10^9.
-/
import Derived.Test.YtbejafbpipdbjaaDoorDraw
import Derived.Test.YtbejafbpipdbjaaDoorPush
namespace Go.Proofs.YtbejafbpipdbjaaDoor
set_option maxRecDepth 4000
open Go.RowKit

set_option maxHeartbeats 400000 in
theorem oddAt_any (g p : Nat) (m : Int) (w : World) (h : Rdr w g p) (hp : p ≤ 1000000000) (hm : 1 ≤ m) (hm2 : m ≤ 1000000000) :
    Calls Tryd.prog 85 #[.pointer (some ⟨g, 0, none⟩), .int .i64 m] w fun e w' => ∃ b : Bool, e = .returned (.bool b) ∧ ∃ p', p' ≤ p + 1 ∧ Rdr w' g p' ∧ w.grownBy w' (some g) := by
  go_enter Tryd.func85, Tryd.ntmps85
  go_wp2_with fail
  refine (pick_any g p _ _ h (by omega) (by omega) (by omega)).mono ?_
  rintro e w1 ⟨k1, rfl, -, -, hr1, hg1, -⟩
  go_wp2_with fail
  go_ret
  exact ⟨_, rfl, p + 1, Nat.le_refl _, hr1, hg1⟩
/-- A row of the call's own that does not lie in the reader's block stays as the reader goes on. -/
theorem Own.keepRd {w w' : World} {base g : Nat} {v : Value} {l : List UInt8} (h : Own w base v l) (hg : w.grownBy w' (some g)) (hb : g < base) : Own w' base v l :=
  h.keep hg (by
    cases hv : v.ownBlock with
    | none => exact .inl rfl
    | some q =>
      refine .inr fun e => ?_
      have := (World.ownsRow.lt h q hv).1
      injection e with e
      omega)
end Go.Proofs.YtbejafbpipdbjaaDoor
