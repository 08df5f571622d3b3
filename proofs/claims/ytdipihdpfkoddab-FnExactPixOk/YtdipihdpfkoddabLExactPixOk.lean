/-
  The law FnExactPixOk returns true for every pixel. No condition.
-/
import Derived.Test.YtdipihdpfkoddabRasI
import Derived.Test.YtdipihdpfkoddabPixQ
namespace Go.Proofs.Ytdipihdpfkoddab
open Go.RowKit

set_option maxHeartbeats 1000000 in
theorem fnExactPixOk_walk (r g b a : Int) (w : World) :
    Calls Try.prog 6 #[.agg #[.int .i64 r, .int .i64 g, .int .i64 b, .int .i64 a]] w fun e w' => e = .returned (.bool true) ∧ Below w.heap.size w w' := by
  have CT := Lib.hid (toPixPix_any ⟨r, g, b, a⟩)
  have CS := Lib.hid (specPixOk_any ⟨r, g, b, a⟩)
  have CI := Lib.hid (implPixOk_any ⟨r, g, b, a⟩)
  unfold Px.v at CS CI
  generalize pixB ⟨r, g, b, a⟩ = q at *
  have hx : (w.alloc (.cells #[.int .i64 r, .int .i64 g, .int .i64 b, .int .i64 a] 43)).heap[w.heap.size]? = some (.cells #[.int .i64 r, .int .i64 g, .int .i64 b, .int .i64 a] 43 (0, 0)) := heap_alloc_new w _
  have hb : Below w.heap.size w (w.alloc (.cells #[.int .i64 r, .int .i64 g, .int .i64 b, .int .i64 a] 43)) := (Below.refl _ w).alloc (Nat.le_refl _) _
  go_enter Try.func6, Try.ntmps6
  go_wp2_with fail
  generalize w.alloc (.cells #[.int .i64 r, .int .i64 g, .int .i64 b, .int .i64 a] 43) = w0 at *
  have hlt : w.heap.size < w0.heap.size := (Array.getElem?_eq_some_iff.1 hx).1
  refine (CT.out _).mono ?_
  rintro e w1 ⟨rfl, b1⟩
  go_wp2_with fail
  refine (CS.out _).mono ?_
  rintro e w2 ⟨rfl, b2⟩
  have B2 : Below w0.heap.size w0 w2 := b1.trans (b2.mono b1.size)
  have hx2 := (B2.block _ hlt).trans hx
  have p0 : w2.cell? ⟨w.heap.size, 0, none⟩ = some (.int .i64 r) := by rw [cell_of_row w2 _ 0 _ _ _ hx2]; rfl
  have p1 : w2.cell? ⟨w.heap.size, 1, none⟩ = some (.int .i64 g) := by rw [cell_of_row w2 _ 1 _ _ _ hx2]; rfl
  have p2 : w2.cell? ⟨w.heap.size, 2, none⟩ = some (.int .i64 b) := by rw [cell_of_row w2 _ 2 _ _ _ hx2]; rfl
  have p3 : w2.cell? ⟨w.heap.size, 3, none⟩ = some (.int .i64 a) := by rw [cell_of_row w2 _ 3 _ _ _ hx2]; rfl
  clear b1 b2 hx hx2
  go_wp2_with fail
  refine (CT.out _).mono ?_
  rintro e w3 ⟨rfl, b3⟩
  go_wp2_with fail
  refine (CI.out _).mono ?_
  rintro e w4 ⟨rfl, b4⟩
  have B4 : Below w0.heap.size w0 w4 := B2.trans ((b3.trans (b4.mono b3.size)).mono B2.size)
  have HB := Lib.hid (hb.trans (B4.mono (Nat.le_of_lt hlt)))
  clear b3 b4 B2 B4 hb
  cases q <;> (go_wp2_with fail; go_ret; exact ⟨rfl, HB.out⟩)
end Go.Proofs.Ytdipihdpfkoddab
