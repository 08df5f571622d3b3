/-
  FnExactOpText: the program and the reference write the same text of every operation. Condition: the listed variables hold what they must.
-/
import Derived.Test.YtbejafbpipdbjaaDoorUrlU
import Derived.Test.YtbejafbpipdbjaaDoorUrlV
import Derived.Test.YtbejafbpipdbjaaDoorOpTo
import Derived.Test.YtbejafbpipdbjaaDoorOpVal
namespace Go.Proofs.YtbejafbpipdbjaaDoor
set_option maxRecDepth 4000
open Go.RowKit

set_option maxHeartbeats 1000000 in
theorem fnExactOpText_walk (o : Op) (w : World) (hE : EnvW w w.heap.size) : Calls Tryd.prog 3 #[o.v] w fun e w' => e = .returned (.bool true) ∧ Below w.heap.size w w' := by
  have b0 : Below w.heap.size w (w.alloc (.cells #[.int .i64 o.k, .int .i64 o.a, .int .i64 o.b, .int .i64 o.c, .int .i64 o.d] 23)) := (Below.refl _ w).alloc (Nat.le_refl _) _
  have HX0 : Hid (Box (w.alloc (.cells #[.int .i64 o.k, .int .i64 o.a, .int .i64 o.b, .int .i64 o.c, .int .i64 o.d] 23)) w.heap.size #[.int .i64 o.k, .int .i64 o.a, .int .i64 o.b, .int .i64 o.c, .int .i64 o.d] 23) := Lib.hid (Box.new w _ _)
  have HE := Lib.hid hE
  have HB0 := Lib.hid b0
  have CT := Lib.hid (toOpOp_any o)
  have CS := Lib.hid (specOpText_any o)
  have CI := Lib.hid fun u (hb : Below w.heap.size w u) => implOpText_any o u w.heap.size (HE.out.below hb) hb.size
  have hq : ∀ a : List UInt8, ((bs a).toList == (bs a).toList) = true := fun a => by simp
  unfold Op.v at CT CS CI ⊢
  clear hE b0
  go_enter Tryd.func3, Tryd.ntmps3
  go_wp2_with fail
  refine (CT.out _).mono ?_
  rintro e w1 ⟨rfl, b1⟩
  have B1 := Lib.hid (HB0.out.trans (b1.mono HB0.out.size))
  have X1 := Lib.hid (HX0.out.next b1)
  clear b1
  go_wp2_with fail
  refine (CS.out _).mono ?_
  rintro e w2 ⟨rfl, b2⟩
  have B2 := Lib.hid (B1.out.trans (b2.mono B1.out.size))
  have X2 := Lib.hid (X1.out.next b2)
  have x0 := X2.out.cell (i := 0) (v := .int .i64 o.k) rfl
  have x1 := X2.out.cell (i := 1) (v := .int .i64 o.a) rfl
  have x2 := X2.out.cell (i := 2) (v := .int .i64 o.b) rfl
  have x3 := X2.out.cell (i := 3) (v := .int .i64 o.c) rfl
  have x4 := X2.out.cell (i := 4) (v := .int .i64 o.d) rfl
  clear b2 B1 X1
  go_wp2_with fail
  refine (CT.out _).mono ?_
  rintro e w3 ⟨rfl, b3⟩
  have B3 := Lib.hid (B2.out.trans (b3.mono B2.out.size))
  clear b3 B2 X2 x0 x1 x2 x3 x4
  go_wp2_with fail
  refine (CI.out _ B3.out).mono ?_
  rintro e w4 ⟨rfl, b4⟩
  have B4 := Lib.hid (B3.out.trans (b4.mono B3.out.size))
  clear b4 B3
  go_wp2_with fail
  go_ret
  exact ⟨rfl, B4.out⟩
end Go.Proofs.YtbejafbpipdbjaaDoor
