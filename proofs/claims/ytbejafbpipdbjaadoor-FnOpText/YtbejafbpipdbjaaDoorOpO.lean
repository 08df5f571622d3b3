/-
  Operations as values and as elements of a slice; what comes to the start of walks over them. Plain definitions and lemmas; no condition.
-/
import Derived.Test.YtbejafbpipdbjaaDoorElem
import Derived.Test.YtbejafbpipdbjaaDoorOpPl
namespace Go.Proofs.YtbejafbpipdbjaaDoor
set_option maxRecDepth 4000
open Go.RowKit

/-- An operation's cells, and the operation as a value. -/
def Op.cells (o : Op) : List Value := [.int .i64 o.k, .int .i64 o.a, .int .i64 o.b, .int .i64 o.c, .int .i64 o.d]
def Op.v (o : Op) : Value := .agg #[.int .i64 o.k, .int .i64 o.a, .int .i64 o.b, .int .i64 o.c, .int .i64 o.d]
theorem op_one (o : Op) : ∀ u ∈ o.cells, u.oneCell' = true := by
  intro u hu
  simp [Op.cells] at hu
  rcases hu with rfl | rfl | rfl | rfl | rfl <;> rfl
/-- Operations of the program in a slice. -/
def opE : El Op := { t := 25, n := 5, bytes := 40, z := .agg #[.int .i64 0, .int .i64 0, .int .i64 0, .int .i64 0, .int .i64 0], cells := Op.cells, len := fun _ => rfl, one := op_one, pos := by decide, small := by decide, zlen := rfl, info := by kernel_rfl }
/-- Five cells from a place on hold an operation. -/
theorem op_at {w : World} {B b o : Nat} {l : List Op} (h : opE.Has w B (some ⟨b, o, none⟩) l) {i : Nat} {x : Op} (hx : l[i]? = some x) :
    w.cell? ⟨b, o + i * 5, none⟩ = some (.int .i64 x.k) ∧ w.cell? ⟨b, o + i * 5 + 1, none⟩ = some (.int .i64 x.a) ∧ w.cell? ⟨b, o + i * 5 + 2, none⟩ = some (.int .i64 x.b) ∧ w.cell? ⟨b, o + i * 5 + 3, none⟩ = some (.int .i64 x.c) ∧ w.cell? ⟨b, o + i * 5 + 4, none⟩ = some (.int .i64 x.d) :=
  ⟨h.at hx (k := 0) rfl, h.at hx (k := 1) rfl, h.at hx (k := 2) rfl, h.at hx (k := 3) rfl, h.at hx (k := 4) rfl⟩
/-- Block g holds an operation. -/
def OpAtB (w : World) (g : Nat) (o : Op) : Prop := Box w g #[.int .i64 o.k, .int .i64 o.a, .int .i64 o.b, .int .i64 o.c, .int .i64 o.d] 25
theorem OpAtB.cs {w : World} {g : Nat} {o : Op} (h : OpAtB w g o) : w.cell? ⟨g, 0, none⟩ = some (.int .i64 o.k) ∧ w.cell? ⟨g, 1, none⟩ = some (.int .i64 o.a) ∧ w.cell? ⟨g, 2, none⟩ = some (.int .i64 o.b) ∧ w.cell? ⟨g, 3, none⟩ = some (.int .i64 o.c) ∧ w.cell? ⟨g, 4, none⟩ = some (.int .i64 o.d) :=
  ⟨Box.cell h rfl, Box.cell h rfl, Box.cell h rfl, Box.cell h rfl, Box.cell h rfl⟩
theorem opB_alt (o : Op) : opB o = if o.k = 1 then inR o.a 0 5 && (inR o.b 0 5 && (inR o.c 1 6 && inR o.d 1 6)) else if o.k = 7 then inR o.a 1 6 && (inR o.b 1 6 && (inR o.c 0 0 && inR o.d 0 0)) else if o.k = 8 then inR o.a 0 255 && (inR o.b 0 255 && (inR o.c 0 255 && inR o.d 0 0)) else inR o.k 2 6 && (inR o.a 0 0 && (inR o.b 0 0 && (inR o.c 0 0 && inR o.d 0 0))) := rfl
theorem inR_zero (n : Int) : inR n 0 0 = (n == 0) := by
  unfold inR
  by_cases h : n = 0
  · subst h; rfl
  · rw [decide_eq_false (by omega), beq_eq_false_iff_ne.2 h]
end Go.Proofs.YtbejafbpipdbjaaDoor
