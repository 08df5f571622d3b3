/-
  A variable that holds an error; worlds in which one block has changed. No condition.
-/
import Derived.Test.YtbejafbpipdbjaaDoorBase
namespace Go.Proofs.YtbejafbpipdbjaaDoor
set_option maxRecDepth 4000
open Go.RowKit

/-- The variable g holds an error that is not nil. -/
def ErrV (w : World) (g : Nat) : Prop := ∃ u v, w.cell? ⟨g, 0, none⟩ = some (.iface u v)
theorem ErrV.lt {w : World} {g : Nat} (h : ErrV w g) : g < w.heap.size := by
  obtain ⟨u, v, h⟩ := h
  exact World.block_lt_of_cell? w _ h
theorem ErrV.kept {w w' : World} {g : Nat} (h : ErrV w g) (hk : w'.heap[g]? = w.heap[g]?) : ErrV w' g := by
  obtain ⟨u, v, h⟩ := h
  exact ⟨u, v, (World.cell?_of_block hk).trans h⟩
theorem ErrV.below {w w' : World} {g B : Nat} (h : ErrV w g) (hb : Below B w w') (hg : g < B) : ErrV w' g := h.kept (hb.block g hg)
theorem ErrV.grown {w w' : World} {g r : Nat} (h : ErrV w g) (hb : w.grownBy w' (some r)) (hg : g ≠ r) : ErrV w' g := h.kept (hb.block g h.lt (by simpa using hg))

theorem grown_cell (w : World) (g i : Nat) (v : Value) : w.grownBy (w.setCell ⟨g, i, none⟩ v) (some g) := ⟨rfl, rfl, rfl, by simp, fun k _ hne => Below.heap_setCell w _ _ k (fun e => hne (by rw [e]))⟩
theorem grown_draw (w : World) (n g i : Nat) (v : Value) : w.grownBy ((w.drewN n).setCell ⟨g, i, none⟩ v) (some g) := ⟨rfl, rfl, rfl, by simp, fun k _ hne => Below.heap_setCell w _ _ k (fun e => hne (by rw [e]))⟩
end Go.Proofs.YtbejafbpipdbjaaDoor
