/-
  The law FnExactOpOk returns true for every operation. Condition: the table of ranges reads as the program's text lays it.
-/
import Derived.Test.YthdggnfffebnlaaDoorRanL
import Derived.Test.YthdggnfffebnlaaDoorOpVal
import Derived.Test.YthdggnfffebnlaaDoorOpTo
import Derived.Test.YthdggnfffebnlaaDoorRanI
import Derived.Test.YthdggnfffebnlaaDoorOpOkS
namespace Go.Proofs.YthdggnfffebnlaaDoor
set_option maxRecDepth 4000
open Go.RowKit

set_option maxHeartbeats 1000000 in
theorem fnExactOpOk_walk (o : Op) (w : World) (hR : RangesIn w) :
    Calls Tryd.prog 3 #[o.v] w fun e w' => e = .returned (.bool true) ∧ Below w.heap.size w w' := by
  have CT := Lib.hid fun u => toOpOp_any o u
  have CS := Lib.hid fun u => specOpOk_any o u
  have CI := Lib.hid fun u hu => implOpOk_any o u hu
  have hb : Below w.heap.size w (w.alloc (.cells #[.int .i64 o.k, .int .i64 o.a, .int .i64 o.b, .int .i64 o.c, .int .i64 o.d] 23)) := (Below.refl _ w).alloc (Nat.le_refl _) _
  have hx : Box (w.alloc (.cells #[.int .i64 o.k, .int .i64 o.a, .int .i64 o.b, .int .i64 o.c, .int .i64 o.d] 23)) w.heap.size #[.int .i64 o.k, .int .i64 o.a, .int .i64 o.b, .int .i64 o.c, .int .i64 o.d] 23 := Box.new w _ _
  have HR := Lib.hid hR
  unfold Op.v at *
  generalize opB o = q at *
  clear hR
  go_enter Tryd.func3, Tryd.ntmps3
  go_wp2_with fail
  generalize w.alloc (.cells #[.int .i64 o.k, .int .i64 o.a, .int .i64 o.b, .int .i64 o.c, .int .i64 o.d] 23) = w0 at *
  have hlt := hx.lt
  have x0 := Box.cell hx (i := 0) rfl
  have x1 := Box.cell hx (i := 1) rfl
  have x2 := Box.cell hx (i := 2) rfl
  have x3 := Box.cell hx (i := 3) rfl
  have x4 := Box.cell hx (i := 4) rfl
  go_wp2_with fail
  refine (CT.out _).mono ?_
  rintro e w1 ⟨rfl, b1⟩
  clear x0 x1 x2 x3 x4
  go_wp2_with fail
  refine (CS.out _).mono ?_
  rintro e w2 ⟨rfl, b2⟩
  have b12 := b1.trans (b2.mono b1.size)
  have hx2 := hx.below b12 hlt
  have B2 := hb.trans (b12.mono hb.size)
  have hlt2 := hx2.lt
  have x0 := Box.cell hx2 (i := 0) rfl
  have x1 := Box.cell hx2 (i := 1) rfl
  have x2 := Box.cell hx2 (i := 2) rfl
  have x3 := Box.cell hx2 (i := 3) rfl
  have x4 := Box.cell hx2 (i := 4) rfl
  clear b1 b2 b12 hb hx
  go_wp2_with fail
  refine (CT.out _).mono ?_
  rintro e w3 ⟨rfl, b3⟩
  have B3 := B2.trans (b3.mono B2.size)
  clear x0 x1 x2 x3 x4 B2 b3 hx2
  go_wp2_with fail
  refine (CI.out _ (HR.out.below B3 HR.out.1)).mono ?_
  rintro e w4 ⟨rfl, b4⟩
  have HB := Lib.hid (B3.trans (b4.mono B3.size))
  clear B3 b4
  cases q <;> (
    go_wp2_with fail
    go_ret
    exact ⟨rfl, HB.out⟩)
end Go.Proofs.YthdggnfffebnlaaDoor
