/-
  A number as a byte. No condition.
-/
import Derived.Test.YtbejafbpipdbjaaDoorDraw
namespace Go.Proofs.YtbejafbpipdbjaaDoor
set_option maxRecDepth 4000
open Go.RowKit

theorem byte_of (z : Int) : ∃ x : UInt8, IntKind.u8.wrap z = (x.toNat : Int) := by
  refine ⟨UInt8.ofNat (z % 256).toNat, ?_⟩
  rw [IntKind.wrap_u8]
  simp
  omega

end Go.Proofs.YtbejafbpipdbjaaDoor
