/-
  A block that holds a raster. No condition.
-/
import Derived.Test.YtiemlakjallphabDoorRasS
namespace Go.Proofs.YtiemlakjallphabDoor
set_option maxRecDepth 4000
open Go.RowKit

/-- Block g holds a raster. -/
def RasAtB (w : World) (g : Nat) (W H : Int) (A : Option Addr) (n c : Nat) (t : TypeId) : Prop := w.heap[g]? = some (.cells #[.int .i64 W, .int .i64 H, .slice A n c] t (0, 0))
section
variable {w w' : World} {g : Nat} {W H : Int} {A : Option Addr} {n c : Nat} {t : TypeId}
theorem RasAtB.c0 (h : RasAtB w g W H A n c t) : w.cell? ⟨g, 0, none⟩ = some (.int .i64 W) := by rw [cell_of_row w g 0 _ _ _ h]; rfl
theorem RasAtB.c1 (h : RasAtB w g W H A n c t) : w.cell? ⟨g, 1, none⟩ = some (.int .i64 H) := by rw [cell_of_row w g 1 _ _ _ h]; rfl
theorem RasAtB.c2 (h : RasAtB w g W H A n c t) : w.cell? ⟨g, 2, none⟩ = some (.slice A n c) := by rw [cell_of_row w g 2 _ _ _ h]; rfl
theorem RasAtB.lt (h : RasAtB w g W H A n c t) : g < w.heap.size := (Array.getElem?_eq_some_iff.1 h).1
theorem RasAtB.below {B : Nat} (h : RasAtB w g W H A n c t) (hb : Below B w w') (hg : g < B) : RasAtB w' g W H A n c t := (hb.block g hg).trans h
theorem RasAtB.grown {row : Option Nat} (h : RasAtB w g W H A n c t) (hg : w.grownBy w' row) (hne : row ≠ some g) : RasAtB w' g W H A n c t := (hg.block g h.lt (fun e => hne e.symm)).trans h
theorem RasAtB.free (h : RasAtB w g W H A n c t) (i : Nat) : w.frozen? ⟨g, i, none⟩ = false := by unfold RasAtB at h; simp [World.frozen?, h]
theorem RasAtB.set_other (h : RasAtB w g W H A n c t) {b : Nat} (hb : b ≠ g) (i : Nat) (x : Value) : RasAtB (w.setCell ⟨b, i, none⟩ x) g W H A n c t := (Below.heap_setCell w _ _ g (fun e => hb e.symm)).trans h
theorem RasAtB.set2 (h : RasAtB w g W H A n c t) (A' : Option Addr) (n' c' : Nat) : RasAtB (w.setCell ⟨g, 2, none⟩ (.slice A' n' c')) g W H A' n' c' t := by
  have := heap_setCell_same w g 2 _ _ (.slice A' n' c') h
  unfold RasAtB
  simpa using this
theorem RasAtB.set1 (h : RasAtB w g W H A n c t) (z : Int) : RasAtB (w.setCell ⟨g, 1, none⟩ (.int .i64 z)) g W z A n c t := by
  have := heap_setCell_same w g 1 _ _ (.int .i64 z) h
  unfold RasAtB
  simpa using this
theorem RasAtB.set0 (h : RasAtB w g W H A n c t) (z : Int) : RasAtB (w.setCell ⟨g, 0, none⟩ (.int .i64 z)) g z H A n c t := by
  have := heap_setCell_same w g 0 _ _ (.int .i64 z) h
  unfold RasAtB
  simpa using this
theorem RasAtB.drew1 (h : RasAtB w g W H A n c t) : RasAtB w.drew g W H A n c t := h
end
theorem below_drew1 {B : Nat} {a w : World} (h : Below B a w) : Below B a w.drew := ⟨h.os, h.tape, h.output, h.size, h.block⟩

end Go.Proofs.YtiemlakjallphabDoor
