/-
  Words for RasAt: where a pixel stands, what is there. No condition.
-/
import Derived.Test.YtiemlakjallphabDoorRasS
namespace Go.Proofs.YtiemlakjallphabDoor
set_option maxRecDepth 4000
open Go.RowKit

/-- A row of four cells, written anew. -/
theorem fin_px {W : World} {R : Nat} {a b c d : Value} {t : TypeId} (h : W.heap[R]? = some (.cells #[a, b, c, d] t (0, 0))) (p : Px) : ((((W.setCell ⟨R, 0, none⟩ (.int .i64 p.r)).setCell ⟨R, 1, none⟩ (.int .i64 p.g)).setCell ⟨R, 2, none⟩ (.int .i64 p.b)).setCell ⟨R, 3, none⟩ (.int .i64 p.a)).heap[R]? = some (.cells #[.int .i64 p.r, .int .i64 p.g, .int .i64 p.b, .int .i64 p.a] t (0, 0)) := by
  have h1 := heap_setCell_same W R 0 _ _ (.int .i64 p.r) h
  have h2 := heap_setCell_same _ R 1 _ _ (.int .i64 p.g) h1
  have h3 := heap_setCell_same _ R 2 _ _ (.int .i64 p.b) h2
  have h4 := heap_setCell_same _ R 3 _ _ (.int .i64 p.a) h3
  simpa using h4
theorem below_px {W0 W : World} {B R : Nat} (h : Below B W0 W) (hR : B ≤ R) (a b c d : Value) : Below B W0 ((((W.setCell ⟨R, 0, none⟩ a).setCell ⟨R, 1, none⟩ b).setCell ⟨R, 2, none⟩ c).setCell ⟨R, 3, none⟩ d) :=
  (((h.setCell hR _).setCell hR _).setCell hR _).setCell hR _
/-- No pixel. -/
def px0 : Px := ⟨0, 0, 0, 0⟩
/-- Whether there is such a place. -/
def atB (W H x y : Int) (l : List Px) : Bool := rasB W H l && decide ((0 ≤ x ∧ x < W) ∧ 0 ≤ y ∧ y < H)
/-- The pixel at a column and a row. -/
def rasAtP (W H x y : Int) (l : List Px) : Px := if atB W H x y l then (l[(y * W + x).toNat]?).getD px0 else px0
theorem rasB_parts {W H : Int} {l : List Px} (h : rasB W H l = true) : (1 ≤ W ∧ W ≤ 6) ∧ (1 ≤ H ∧ H ≤ 6) ∧ (l.length : Int) = W * H ∧ l.all pixB = true := by
  unfold rasB at h
  rw [Bool.and_eq_true, decide_eq_true_eq] at h
  exact ⟨h.1.1, h.1.2.1, h.1.2.2, h.2⟩
theorem place_lt {W H x y : Int} (hW : 1 ≤ W ∧ W ≤ 6) (hx : 0 ≤ x ∧ x < W) (hy : 0 ≤ y ∧ y < H) : 0 ≤ y * W + x ∧ y * W + x < W * H ∧ y * W ≤ 6 * y ∧ 0 ≤ y * W := by
  have e : W = 1 ∨ W = 2 ∨ W = 3 ∨ W = 4 ∨ W = 5 ∨ W = 6 := by omega
  rcases e with rfl | rfl | rfl | rfl | rfl | rfl <;> omega
end Go.Proofs.YtiemlakjallphabDoor
