/-
  markUrlAsk writes counted marks into a request's operations, heldUrlAsk finds them. Condition: at most 2^30 operations.
-/
import Derived.Test.YtbejafbpipdbjaaDoorAskQ
import Derived.Test.YtbejafbpipdbjaaDoorOpH
namespace Go.Proofs.YtbejafbpipdbjaaDoor
set_option maxRecDepth 4000
open Go.RowKit

set_option maxHeartbeats 1000000 in
theorem markUrlAsk_one (A : Option Addr) (c : Nat) (l : List Op) (p : List UInt8) (t : Int) (base : Nat) (w : World) (hs : l.length ≤ 1073741824) (h : opE.Own w base (.slice A l.length c) l) :
    Calls Tryd.prog 30 #[askV A l.length c p t, .int .i64 1] w fun e w' => e = .returned (.int .i64 (1 + 5 * (l.length : Int))) ∧
      opE.Own w' base (.slice A l.length c) (omarks 1 l.length) ∧ (w.alloc (.cells #[.slice A l.length c, .string (bs p), .int .i64 t] 39)).grownBy w' (Value.slice A l.length c).ownBlock := by
  have X0 : Hid (Box (w.alloc (.cells #[.slice A l.length c, .string (bs p), .int .i64 t] 39)) w.heap.size #[.slice A l.length c, .string (bs p), .int .i64 t] 39) := Lib.hid (Box.new w _ _)
  have C := Lib.hid (markOpOpS_from A c l base 1 _ (by decide) hs (h.alloc (.cells #[.slice A l.length c, .string (bs p), .int .i64 t] 39)))
  have d0 := X0.out.cell (i := 0) (v := .slice A l.length c) rfl
  have h1 : ((1 : Nat) : Int) = 1 := rfl
  rw [h1] at C
  generalize l.length = n at *
  clear hs h X0
  unfold askV
  go_enter Tryd.func30, Tryd.ntmps30
  go_wp2_with fail
  refine C.out.mono ?_
  rintro e w1 ⟨rfl, ho, hg⟩
  have HO := Lib.hid ho
  have HG := Lib.hid hg
  clear ho hg d0
  go_wp2_with fail
  go_ret
  exact ⟨rfl, HO.out, HG.out⟩
set_option maxHeartbeats 1000000 in
theorem heldUrlAsk_one (A : Option Addr) (c n : Nat) (p : List UInt8) (t : Int) (w : World) (hs : n ≤ 1073741824) (h : opE.Has w w.heap.size A (omarks 1 n)) :
    Calls Tryd.prog 31 #[askV A n c p t, .int .i64 1] w fun e w' => e = .returned (.int .i64 (1 + 5 * (n : Int))) ∧ Below w.heap.size w w' := by
  have b0 : Below w.heap.size w (w.alloc (.cells #[.slice A n c, .string (bs p), .int .i64 t] 39)) := (Below.refl _ w).alloc (Nat.le_refl _) _
  have X0 : Hid (Box (w.alloc (.cells #[.slice A n c, .string (bs p), .int .i64 t] 39)) w.heap.size #[.slice A n c, .string (bs p), .int .i64 t] 39) := Lib.hid (Box.new w _ _)
  have C := Lib.hid (heldOpOpS_any A c n _ _ hs (h.carry b0 (Nat.le_refl _) b0.size))
  have HB := Lib.hid b0
  have d0 := X0.out.cell (i := 0) (v := .slice A n c) rfl
  have hz : ¬ (1 + 5 * (n : Int) < 0) := by omega
  clear hs h X0 b0
  unfold askV
  go_enter Tryd.func31, Tryd.ntmps31
  go_wp2_with fail
  refine C.out.mono ?_
  rintro e w1 ⟨rfl, rfl⟩
  go_wp2_with fail
  go_ret
  exact ⟨rfl, HB.out⟩
end Go.Proofs.YtbejafbpipdbjaaDoor
