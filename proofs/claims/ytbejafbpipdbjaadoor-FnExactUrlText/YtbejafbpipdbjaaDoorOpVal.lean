/-
  An operation that came in by value. No condition.
-/
import Derived.Test.YtbejafbpipdbjaaDoorOpO
import Derived.ProofKit
import Derived.Deep.SlicePairs
import Derived.Lib.SmallJoins
namespace Go.Proofs.YtbejafbpipdbjaaDoor
set_option maxRecDepth 4000
open Go.RowKit

theorem cellsOfOpL : Tryd.prog.cellsOf 23 = 5 := by kernel_rfl
theorem cellsOfIntO : Tryd.prog.cellsOf 3 = 1 := by kernel_rfl
/-- Operations as they come in. -/
def opL : El Op := { t := 23, n := 5, bytes := 40, z := .agg #[.int .i64 0, .int .i64 0, .int .i64 0, .int .i64 0, .int .i64 0], cells := Op.cells, len := fun _ => rfl, one := op_one, pos := by decide, small := by decide, zlen := rfl, info := by kernel_rfl }
theorem op_in {H : Type} {enc : TypeId × Value → H} {W : World} {n : Nat} {cs : List Value} {x : DataW H × List MemPlace} (hl : cs.length = 5) (h : DataW.trod enc Tryd.prog W 0 (fun _ => true) true n 23 cs = some x) : ∃ o : Op, cs = o.cells := by
  obtain ⟨xs, k, _, _, _, hlen, hf⟩ := DataW.trod_struct Tryd.underlying23 h
  match xs, hlen, cs, hl with
  | [y0, y1, y2, y3, y4], _, [v0, v1, v2, v3, v4], _ =>
    have g0 : DataW.trod enc Tryd.prog W 0 (fun _ => true) true k 3 [v0] = some y0 := by simpa [cellsOfIntO] using hf 0 _ rfl
    have g1 : DataW.trod enc Tryd.prog W 0 (fun _ => true) true k 3 [v1] = some y1 := by simpa [cellsOfIntO] using hf 1 _ rfl
    have g2 : DataW.trod enc Tryd.prog W 0 (fun _ => true) true k 3 [v2] = some y2 := by simpa [cellsOfIntO] using hf 2 _ rfl
    have g3 : DataW.trod enc Tryd.prog W 0 (fun _ => true) true k 3 [v3] = some y3 := by simpa [cellsOfIntO] using hf 3 _ rfl
    have g4 : DataW.trod enc Tryd.prog W 0 (fun _ => true) true k 3 [v4] = some y4 := by simpa [cellsOfIntO] using hf 4 _ rfl
    obtain ⟨z0, e0, _, _⟩ := DataW.trod_int Tryd.underlying3 g0
    obtain ⟨z1, e1, _, _⟩ := DataW.trod_int Tryd.underlying3 g1
    obtain ⟨z2, e2, _, _⟩ := DataW.trod_int Tryd.underlying3 g2
    obtain ⟨z3, e3, _, _⟩ := DataW.trod_int Tryd.underlying3 g3
    obtain ⟨z4, e4, _, _⟩ := DataW.trod_int Tryd.underlying3 g4
    simp at e0 e1 e2 e3 e4
    exact ⟨⟨z0, z1, z2, z3, z4⟩, by rw [e0, e1, e2, e3, e4]; rfl⟩
/-- An operation by value. -/
theorem op_val {H : Type} {enc : TypeId × Value → H} {W : World} {r : Reach} {b0 : Nat} {v : Value} {d : DataW H} {p : List MemPlace} (hv : Value.okWide Tryd.prog W r b0 23 v) (h : DataW.Trod enc Tryd.prog W 0 (fun _ => true) true 23 v d p) : ∃ o : Op, v = o.v := by
  obtain ⟨cs, rfl, hsz⟩ := Go.WideShapes.okWide_struct Tryd.underlying23 hv
  rw [cellsOfOpL] at hsz
  obtain ⟨fuel, hf⟩ := h
  obtain ⟨o, ho⟩ := op_in (cs := (Value.agg cs).cells.toList) (by
    have : (Value.agg cs).cells = cs := rfl
    rw [this]
    simpa using hsz) hf
  refine ⟨o, ?_⟩
  have hc : cs.toList = o.cells := ho
  have : cs = o.cells.toArray := by rw [← hc]
  rw [this]
  rfl
end Go.Proofs.YtbejafbpipdbjaaDoor
