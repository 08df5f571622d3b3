/-
  FnExactOpRead: the program and the reference read the same of every text. Condition: the listed variables hold what they must.
-/
import Derived.Test.YtbejafbpipdbjaaDoorUrlT
import Derived.Test.YtbejafbpipdbjaaDoorUrlY
namespace Go.Proofs.YtbejafbpipdbjaaDoor
set_option maxRecDepth 4000
open Go.RowKit

set_option maxHeartbeats 400000 in
theorem eqOpOp_self (p : Op) (w : World) :
    Calls Tryd.prog 16 #[.agg #[.int .i64 p.k, .int .i64 p.a, .int .i64 p.b, .int .i64 p.c, .int .i64 p.d], .agg #[.int .i64 p.k, .int .i64 p.a, .int .i64 p.b, .int .i64 p.c, .int .i64 p.d]] w fun e w' => e = .returned (.bool true) ∧ Below w.heap.size w w' := by
  go_enter Tryd.func16, Tryd.ntmps16
  go_wp2
  go_ret
  exact ⟨rfl, ((Below.refl _ w).alloc (Nat.le_refl _) _).alloc (by simp) _⟩
theorem eqOpOp_zero (w : World) :
    Calls Tryd.prog 16 #[.agg #[.int .i64 0, .int .i64 0, .int .i64 0, .int .i64 0, .int .i64 0], .agg #[.int .i64 0, .int .i64 0, .int .i64 0, .int .i64 0, .int .i64 0]] w fun e w' => e = .returned (.bool true) ∧ Below w.heap.size w w' := eqOpOp_self ⟨0, 0, 0, 0, 0⟩ w
set_option maxHeartbeats 1000000 in
theorem fnExactOpRead_walk (l : List UInt8) (w : World) (hE : Env w w.heap.size) : Calls Tryd.prog 4 #[.string (bs l)] w fun e w' => e = .returned (.bool true) ∧ Below w.heap.size w w' := by
  obtain ⟨n, hn⟩ : ∃ n, l.length = n := ⟨_, rfl⟩
  have sz : (bs l).size = n := by rw [bs_size, hn]
  have HN := Lib.hid hn
  clear hn
  by_cases hb : (n : Int) > 1048576
  · go_enter Tryd.func4, Tryd.ntmps4
    go_wp2_with fail
    go_ret
    exact ⟨rfl, Below.refl _ _⟩
  have CS := Lib.hid fun u => specOpRead_any l u (by rw [HN.out]; omega)
  have CI := Lib.hid fun u (h : Below w.heap.size w u) => opRead_any l w.heap.size u (by rw [HN.out]; omega) (hE.below h) h.size
  have CE := Lib.hid eqOpOp_self
  have CZ := Lib.hid eqOpOp_zero
  clear hE
  go_enter Tryd.func4, Tryd.ntmps4
  go_wp2_with fail
  refine (CS.out _).mono ?_
  rintro e w1 ⟨hs, b1⟩
  rcases hs with ⟨o, h1, h2, rfl⟩ | ⟨hno, rfl⟩
  · unfold Op.v
    have B1 := Lib.hid b1
    have HA := Lib.hid (And.intro h1 h2)
    have X1 : Hid (Box (w1.alloc (.cells #[.int .i64 o.k, .int .i64 o.a, .int .i64 o.b, .int .i64 o.c, .int .i64 o.d] 25)) w1.heap.size #[.int .i64 o.k, .int .i64 o.a, .int .i64 o.b, .int .i64 o.c, .int .i64 o.d] 25) := Lib.hid (Box.new w1 _ _)
    have B2 := Lib.hid (b1.alloc b1.size (.cells #[.int .i64 o.k, .int .i64 o.a, .int .i64 o.b, .int .i64 o.c, .int .i64 o.d] 25))
    clear b1 h1 h2
    go_wp2_with fail
    refine (CI.out _ B2.out).mono ?_
    rintro e w2 ⟨hi, b2⟩
    rcases hi with ⟨o', k1, k2, rfl⟩ | ⟨kno, rfl⟩
    · obtain rfl := op_of_text HA.out.1 k1 (HA.out.2.trans k2.symm)
      unfold Op.v
      have X2 := Lib.hid (X1.out.next b2)
      have B3 := Lib.hid (B2.out.trans (b2.mono B2.out.size))
      have x0 := X2.out.cell (i := 0) (v := .int .i64 o.k) rfl
      have x1 := X2.out.cell (i := 1) (v := .int .i64 o.a) rfl
      have x2 := X2.out.cell (i := 2) (v := .int .i64 o.b) rfl
      have x3 := X2.out.cell (i := 3) (v := .int .i64 o.c) rfl
      have x4 := X2.out.cell (i := 4) (v := .int .i64 o.d) rfl
      have hlt := X2.out.lt
      have B4 := Lib.hid (B3.out.alloc B3.out.size (.cells #[.int .i64 o.k, .int .i64 o.a, .int .i64 o.b, .int .i64 o.c, .int .i64 o.d] 25))
      clear b2 k1 k2
      go_wp2_with fail
      refine (CE.out o _).mono ?_
      rintro e w4 ⟨rfl, b4⟩
      have B5 := Lib.hid (B4.out.trans (b4.mono B4.out.size))
      clear b4 x0 x1 x2 x3 x4 hlt
      go_wp2_with fail
      go_ret
      exact ⟨rfl, B5.out⟩
    · exact absurd HA.out.2 (kno o HA.out.1)
  · have B1 := Lib.hid b1
    have HA := Lib.hid hno
    have X1 : Hid (Box (w1.alloc (.cells #[.int .i64 0, .int .i64 0, .int .i64 0, .int .i64 0, .int .i64 0] 25)) w1.heap.size #[.int .i64 0, .int .i64 0, .int .i64 0, .int .i64 0, .int .i64 0] 25) := Lib.hid (Box.new w1 _ _)
    have B2 := Lib.hid (b1.alloc b1.size (.cells #[.int .i64 0, .int .i64 0, .int .i64 0, .int .i64 0, .int .i64 0] 25))
    clear b1 hno
    go_wp2_with fail
    refine (CI.out _ B2.out).mono ?_
    rintro e w2 ⟨hi, b2⟩
    rcases hi with ⟨o', k1, k2, rfl⟩ | ⟨kno, rfl⟩
    · exact absurd k2 (HA.out o' k1)
    · have X2 := Lib.hid (X1.out.next b2)
      have B3 := Lib.hid (B2.out.trans (b2.mono B2.out.size))
      have x0 := X2.out.cell (i := 0) (v := .int .i64 0) rfl
      have x1 := X2.out.cell (i := 1) (v := .int .i64 0) rfl
      have x2 := X2.out.cell (i := 2) (v := .int .i64 0) rfl
      have x3 := X2.out.cell (i := 3) (v := .int .i64 0) rfl
      have x4 := X2.out.cell (i := 4) (v := .int .i64 0) rfl
      have hlt := X2.out.lt
      have B4 := Lib.hid (B3.out.alloc B3.out.size (.cells #[.int .i64 0, .int .i64 0, .int .i64 0, .int .i64 0, .int .i64 0] 25))
      clear b2 kno
      go_wp2_with fail
      refine (CZ.out _).mono ?_
      rintro e w4 ⟨rfl, b4⟩
      have B5 := Lib.hid (B4.out.trans (b4.mono B4.out.size))
      clear b4 x0 x1 x2 x3 x4 hlt
      go_wp2_with fail
      go_ret
      exact ⟨rfl, B5.out⟩
end Go.Proofs.YtbejafbpipdbjaaDoor
