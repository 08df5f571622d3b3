/-
  odd of the draws, at any number. Condition: fewer than 10^9 draws before.
-/
import Derived.Test.YtbejafbpipdbjaaDoorDrawOdd
namespace Go.Proofs.YtbejafbpipdbjaaDoor
set_option maxRecDepth 4000
open Go.RowKit

set_option maxHeartbeats 400000 in
theorem odd_any (g p : Nat) (m : Int) (w : World) (h : Rdr w g p) (hp : p ≤ 1000000000) (hm : 0 ≤ m) (hm2 : m ≤ 1000000000) :
    Calls Tryd.prog 85 #[.pointer (some ⟨g, 0, none⟩), .int .i64 m] w fun e w' => ∃ b : Bool, e = .returned (.bool b) ∧ ∃ p', p' ≤ p + 1 ∧ Rdr w' g p' ∧ w.grownBy w' (some g) := by
  by_cases h1 : 1 ≤ m
  · exact oddAt_any g p m w h hp h1 hm2
  · obtain rfl : m = 0 := by omega
    clear h1
    go_enter Tryd.func85, Tryd.ntmps85
    go_wp2_with fail
    go_ret
    exact ⟨_, rfl, p, by omega, h, World.grownBy.refl _ _⟩
end Go.Proofs.YtbejafbpipdbjaaDoor
