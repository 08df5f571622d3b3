/-
  The table of ranges holds what it must where it reads as the program's text lays it. No condition.
-/
import Derived.Test.YtbejafbpipdbjaaDoorRows
import Derived.Test.YtbejafbpipdbjaaDoorRanT
import Derived.ProofKit
import Derived.OpenShut
import Derived.Stop.Joined
namespace Go.Proofs.YtbejafbpipdbjaaDoor
set_option maxRecDepth 4000
open Go.ChangeShapes Go.WideShapes Go.ChangeAt Go.WideElems Go.RowKit

theorem gRanges : Tryd.prog.globalNamed "loop.example/easel/impl.opRanges" = some 1 := by kernel_rfl
theorem tRanges : (Tryd.prog.globals[1]?).map (·.type) = some 95 := by kernel_rfl
theorem cRow : Tryd.prog.cellsOf 94 = 8 := by kernel_rfl
theorem cRange : Tryd.prog.cellsOf 93 = 2 := by kernel_rfl
theorem cIntR : Tryd.prog.cellsOf 3 = 1 := by kernel_rfl
theorem range_cells {H : Type} {enc : TypeId × Value → H} {W : World} {base fuel : Nat} {spare : Nat → Bool} {held : Bool} {cs : List Value} {lo hi : Int} {q : List MemPlace}
    (h : DataW.trod enc Tryd.prog W base spare held fuel 93 cs = some (.agg [.lit (.int .i64 lo), .lit (.int .i64 hi)], q)) : cs[0]? = some (.int .i64 lo) ∧ cs[1]? = some (.int .i64 hi) := by
  obtain ⟨xs, m, _, hx, hl, hlen, hf⟩ := DataW.trod_struct Tryd.underlying93 h
  rw [cRange] at hl
  match xs, hlen, cs, hl with
  | [y0, y1], _, [v0, v1], _ =>
    have g0 : DataW.trod enc Tryd.prog W base spare held m 3 [v0] = some y0 := by simpa [cIntR] using hf 0 _ rfl
    have g1 : DataW.trod enc Tryd.prog W base spare held m 3 [v1] = some y1 := by simpa [cIntR] using hf 1 _ rfl
    obtain ⟨z0, e0, f0, _⟩ := DataW.trod_int Tryd.underlying3 g0
    obtain ⟨z1, e1, f1, _⟩ := DataW.trod_int Tryd.underlying3 g1
    subst f0 f1
    simp at e0 e1 hx
    obtain ⟨⟨h0, h1⟩, _⟩ := hx
    subst e0 e1 h0 h1
    exact ⟨rfl, rfl⟩
theorem row_cells {H : Type} {enc : TypeId × Value → H} {W : World} {base fuel : Nat} {spare : Nat → Bool} {held : Bool} {cs : List Value} {row : List (Int × Int)} {q : List MemPlace}
    (h : DataW.trod enc Tryd.prog W base spare held fuel 94 cs = some (.agg (row.map fun p => .agg [.lit (.int .i64 p.1), .lit (.int .i64 p.2)]), q)) :
    ∀ i p, row[i]? = some p → cs[i * 2]? = some (.int .i64 p.1) ∧ cs[i * 2 + 1]? = some (.int .i64 p.2) := by
  intro i p hp
  obtain ⟨xs, m, _, hx, _, hlen, hf⟩ := DataW.trod_array Tryd.underlying94 h
  simp only [Prod.mk.injEq, DataW.agg.injEq] at hx
  have hrl : row.length = xs.length := by have := congrArg List.length hx.1; simpa using this
  have hi : i < 4 := by have := (List.getElem?_eq_some_iff.1 hp).1; omega
  have h0 := hf i hi
  rw [cRange, List.getElem?_eq_getElem (by omega)] at h0
  have h1 : (row.map fun p => DataW.agg (H := H) [.lit (.int .i64 p.1), .lit (.int .i64 p.2)])[i]? = (xs.map (·.1))[i]? := by rw [hx.1]
  rw [List.getElem?_map, List.getElem?_map, hp, List.getElem?_eq_getElem (by omega)] at h1
  simp only [Option.map_some, Option.some.injEq] at h1
  have h2 : xs[i]'(by omega) = (.agg [.lit (.int .i64 p.1), .lit (.int .i64 p.2)], (xs[i]'(by omega)).2) := by rw [h1]
  rw [h2] at h0
  obtain ⟨a0, a1⟩ := range_cells h0
  rw [List.getElem?_take_of_lt (by omega), List.getElem?_drop] at a0 a1
  exact ⟨a0, a1⟩
theorem table_cells {H : Type} {enc : TypeId × Value → H} {W : World} {base fuel : Nat} {spare : Nat → Bool} {held : Bool} {cs : List Value} {tab : List (List (Int × Int))} {q : List MemPlace}
    (h : DataW.trod enc Tryd.prog W base spare held fuel 95 cs = some (.agg (tab.map fun row => .agg (row.map fun p => .agg [.lit (.int .i64 p.1), .lit (.int .i64 p.2)])), q)) :
    ∀ k row, tab[k]? = some row → ∀ i p, row[i]? = some p → i < 4 → cs[k * 8 + i * 2]? = some (.int .i64 p.1) ∧ cs[k * 8 + i * 2 + 1]? = some (.int .i64 p.2) := by
  intro k row hr i p hp hi4
  obtain ⟨xs, m, _, hx, _, hlen, hf⟩ := DataW.trod_array Tryd.underlying95 h
  simp only [Prod.mk.injEq, DataW.agg.injEq] at hx
  have hrl : tab.length = xs.length := by have := congrArg List.length hx.1; simpa using this
  have hk : k < 9 := by have := (List.getElem?_eq_some_iff.1 hr).1; omega
  have h0 := hf k hk
  rw [cRow, List.getElem?_eq_getElem (by omega)] at h0
  have h1 : (tab.map fun row => DataW.agg (H := H) (row.map fun p => .agg [.lit (.int .i64 p.1), .lit (.int .i64 p.2)]))[k]? = (xs.map (·.1))[k]? := by rw [hx.1]
  rw [List.getElem?_map, List.getElem?_map, hr, List.getElem?_eq_getElem (by omega)] at h1
  simp only [Option.map_some, Option.some.injEq] at h1
  have h2 : xs[k]'(by omega) = (.agg (row.map fun p => .agg [.lit (.int .i64 p.1), .lit (.int .i64 p.2)]), (xs[k]'(by omega)).2) := by rw [h1]
  rw [h2] at h0
  obtain ⟨a0, a1⟩ := row_cells h0 i p hp
  rw [List.getElem?_take_of_lt (by omega), List.getElem?_drop] at a0 a1
  rw [Nat.add_assoc]
  exact ⟨a0, a1⟩
theorem of_laid_ranges {W : World} {L : List (String × DataW Unit)} (h : laidMetH Tryd.prog L W) (hL : L = [("loop.example/easel/impl.opRanges", Rows.laid_loop_example_easel_impl_opRanges)]) : RangesIn W := by
  subst hL
  rw [MakeChecks.laidMetH_plain _ _ _ (by kernel_rfl)] at h
  obtain ⟨ps, ⟨g0, t0, cs0, f0, p0, q0, hg0, ht0, hv0, hd0, _, _⟩, _, _⟩ := h
  obtain rfl := Option.some.inj (gRanges.symm.trans hg0)
  obtain rfl := Option.some.inj (tRanges.symm.trans ht0)
  have a0 := table_cells (tab := rangeT) hd0
  have b0 : ∀ k i : Nat, k < 9 → i < 4 → W.cell? ⟨1, k * 8 + i * 2, none⟩ = some (.int .i64 (rangeP k i).1) ∧ W.cell? ⟨1, k * 8 + i * 2 + 1, none⟩ = some (.int .i64 (rangeP k i).2) := by
    intro k i hk hi
    have hrow : rangeT[k]? = some (rangeT.getD k []) := by
      rw [List.getD_eq_getElem?_getD, List.getElem?_eq_getElem (by simpa [rangeT] using hk)]
      rfl
    have hp : (rangeT.getD k [])[i]? = some (rangeP k i) := by
      have : k = 0 ∨ k = 1 ∨ k = 2 ∨ k = 3 ∨ k = 4 ∨ k = 5 ∨ k = 6 ∨ k = 7 ∨ k = 8 := by omega
      have : i = 0 ∨ i = 1 ∨ i = 2 ∨ i = 3 := by omega
      rcases this with rfl | rfl | rfl | rfl <;> rcases ‹k = 0 ∨ _› with rfl | rfl | rfl | rfl | rfl | rfl | rfl | rfl | rfl <;> rfl
    obtain ⟨c0, c1⟩ := a0 k _ hrow i _ hp hi
    exact ⟨by rw [World.var?_cell hg0 hv0, ← Array.getElem?_toList]; exact c0, by rw [World.var?_cell hg0 hv0, ← Array.getElem?_toList]; exact c1⟩
  refine ⟨?_, b0⟩
  have := (b0 0 0 (by decide) (by decide)).1
  cases hh : W.heap[(1 : Nat)]? with
  | none => simp [World.cell?, hh] at this
  | some o => exact (Array.getElem?_eq_some_iff.1 hh).1
end Go.Proofs.YtbejafbpipdbjaaDoor
