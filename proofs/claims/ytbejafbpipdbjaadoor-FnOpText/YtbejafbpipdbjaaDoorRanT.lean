/-
  The ranges of the parameters of operations: the program's table, and OpOk of the program over it. Condition: the table reads as the program's text lays it.
-/
import Derived.Test.YtbejafbpipdbjaaDoorOpO
import Derived.Lib.SmallJoins
import Derived.LaidMore
namespace Go.Proofs.YtbejafbpipdbjaaDoor
set_option maxRecDepth 4000
open Go.RowKit

/-- The table. -/
def rangeT : List (List (Int × Int)) := [[(0, 0), (0, 0), (0, 0), (0, 0)], [(0, 5), (0, 5), (1, 6), (1, 6)], [(0, 0), (0, 0), (0, 0), (0, 0)], [(0, 0), (0, 0), (0, 0), (0, 0)], [(0, 0), (0, 0), (0, 0), (0, 0)], [(0, 0), (0, 0), (0, 0), (0, 0)], [(0, 0), (0, 0), (0, 0), (0, 0)], [(1, 6), (1, 6), (0, 0), (0, 0)], [(0, 255), (0, 255), (0, 255), (0, 0)]]
/-- A place of the table. -/
def rangeP (k i : Nat) : Int × Int := (rangeT.getD k []).getD i (0, 0)
/-- The program's table lies in memory. -/
def RangesIn (w : World) : Prop := (1 : Nat) < w.heap.size ∧ ∀ k i : Nat, k < 9 → i < 4 → w.cell? ⟨1, k * 8 + i * 2, none⟩ = some (.int .i64 (rangeP k i).1) ∧ w.cell? ⟨1, k * 8 + i * 2 + 1, none⟩ = some (.int .i64 (rangeP k i).2)
theorem RangesIn.below {w w' : World} {B : Nat} (h : RangesIn w) (hb : Below B w w') (hB : (1 : Nat) < B) : RangesIn w' :=
  ⟨Nat.lt_of_lt_of_le h.1 hb.size, fun k i hk hi => ⟨(hb.cell (p := ⟨1, k * 8 + i * 2, none⟩) hB).trans (h.2 k i hk hi).1, (hb.cell (p := ⟨1, k * 8 + i * 2 + 1, none⟩) hB).trans (h.2 k i hk hi).2⟩⟩
theorem RangesIn.next {w w' : World} (h : RangesIn w) (hb : Below w.heap.size w w') : RangesIn w' := h.below hb h.1
/-- An operation's parameter. -/
def Op.par (o : Op) : Nat → Int
  | 0 => o.a
  | 1 => o.b
  | 2 => o.c
  | _ => o.d
theorem opB_ranges (o : Op) : opB o = (decide (1 ≤ o.k ∧ o.k ≤ 8) && (List.range 4).all fun i => decide ((rangeP o.k.toNat i).1 ≤ o.par i ∧ o.par i ≤ (rangeP o.k.toNat i).2)) := by
  obtain ⟨k, a, b, c, d⟩ := o
  by_cases hk : 1 ≤ k ∧ k ≤ 8
  · have e : k = 1 ∨ k = 2 ∨ k = 3 ∨ k = 4 ∨ k = 5 ∨ k = 6 ∨ k = 7 ∨ k = 8 := by omega
    rcases e with rfl | rfl | rfl | rfl | rfl | rfl | rfl | rfl <;> simp [opB, inR, rangeP, rangeT, Op.par, List.range, List.range.loop]
  · rw [decide_eq_false hk, Bool.false_and]
    unfold opB inR
    simp only
    rw [if_neg (by omega), if_neg (by omega), if_neg (by omega), decide_eq_false (by omega), Bool.false_and]
end Go.Proofs.YtbejafbpipdbjaaDoor
