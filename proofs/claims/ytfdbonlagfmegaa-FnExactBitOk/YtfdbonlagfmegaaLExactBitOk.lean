/-
  The law FnExactBitOk returns true for every bit number. No condition.
-/
import Derived.Test.YtfdbonlagfmegaaBitOk
namespace Go.Proofs.Ytfdbonlagfmegaa
open Go.RowKit

set_option maxHeartbeats 1000000 in
theorem fnExactBitOk_walk (n b : Int) (w : World) :
    Calls Try.prog 4 #[bnum n b] w fun e w' => e = .returned (.bool true) ∧ Below w.heap.size w w' := by
  have CT := Lib.hid (toBitNum_any n b)
  have CS := Lib.hid (specBitOk_any n b)
  have CI := Lib.hid (implBitOk_any n b)
  unfold bnum at *
  generalize bitOkB n b = ok at *
  have hb0 : Below w.heap.size w (w.alloc (.cells #[.int .i64 n, .int .i64 b] 27)) := (Below.refl _ w).alloc (Nat.le_refl _) _
  have hh : (w.alloc (.cells #[.int .i64 n, .int .i64 b] 27)).heap[w.heap.size]? = some (.cells #[.int .i64 n, .int .i64 b] 27 (0, 0)) := heap_alloc_new w _
  go_enter Try.func4, Try.ntmps4
  go_wp2_with fail
  generalize w.alloc (.cells #[.int .i64 n, .int .i64 b] 27) = w0 at *
  have hlt : w.heap.size < w0.heap.size := (Array.getElem?_eq_some_iff.1 hh).1
  refine (CT.out _).mono ?_
  rintro e w1 ⟨rfl, hb1⟩
  have hh1 := (hb1.block w.heap.size hlt).trans hh
  have B1 : Below w.heap.size w w1 := hb0.trans (hb1.mono (by omega))
  have z1 : w.heap.size < w1.heap.size := by have := hb1.size; omega
  clear hb0 hb1 hh hlt
  go_wp2_with fail
  refine (CS.out _).mono ?_
  rintro e w2 ⟨rfl, hb2⟩
  have hh2 := (hb2.block w.heap.size z1).trans hh1
  have B2 : Below w.heap.size w w2 := B1.trans (hb2.mono (by omega))
  have z2 : w.heap.size < w2.heap.size := by have := hb2.size; omega
  have c0 : w2.cell? ⟨w.heap.size, 0, none⟩ = some (.int .i64 n) := by rw [cell_of_row w2 _ 0 _ _ _ hh2]; rfl
  have c1 : w2.cell? ⟨w.heap.size, 1, none⟩ = some (.int .i64 b) := by rw [cell_of_row w2 _ 1 _ _ _ hh2]; rfl
  clear hb2 hh1 hh2 B1 z1
  go_wp2_with fail
  refine (CT.out _).mono ?_
  rintro e w3 ⟨rfl, hb3⟩
  have B3 : Below w.heap.size w w3 := B2.trans (hb3.mono (by omega))
  have z3 : w.heap.size < w3.heap.size := by have := hb3.size; omega
  clear hb3 B2
  go_wp2_with fail
  refine (CI.out _).mono ?_
  rintro e w4 ⟨rfl, hb4⟩
  have B4 : Below w.heap.size w w4 := B3.trans (hb4.mono (by omega))
  cases ok
  all_goals
    go_wp2_with fail
    go_ret
    exact ⟨rfl, B4⟩
end Go.Proofs.Ytfdbonlagfmegaa
