/-
  A row of a raster is a part of its pixels. Condition: the row lies in the raster.
-/
import Derived.Test.YtiemlakjallphabDoorRasI
import Derived.Test.YtiemlakjallphabDoorRasBox
namespace Go.Proofs.YtiemlakjallphabDoor
set_option maxRecDepth 4000
open Go.RowKit

set_option maxHeartbeats 1000000 in
theorem row_any (b o c n s W : Nat) (y : Int) (w : World) (hs : y * (W : Int) = (s : Int)) (hW : 1 ≤ W) (h36 : s + W ≤ n) (hn : n ≤ 1000) (hc : n ≤ c) :
    Calls Tryd.prog 112 #[.slice (some ⟨b, o, none⟩) n c, .int .i64 (W : Int), .int .i64 y] w fun e w' => e = .returned (.slice (some ⟨b, o + s * 4, none⟩) W W) ∧ w' = w := by
  have hw1 : wrap64 (y * (W : Int)) = (s : Int) := by rw [hs]; unfold wrap64; omega
  have n1 : ¬ s + W = s := by omega
  have n2 : ¬ W = 0 := by omega
  have HS := Lib.hid hs
  clear hs
  go_enter Tryd.func112, Tryd.ntmps112
  go_wp2
  go_ret
  refine ⟨?_, rfl⟩
  show Ending.returned (Value.slice _ (s + W - s) (s + W - s)) = _
  rw [Nat.add_sub_cancel_left]
end Go.Proofs.YtiemlakjallphabDoor
