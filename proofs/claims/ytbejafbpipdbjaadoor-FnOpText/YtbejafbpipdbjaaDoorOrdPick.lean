/-
  Regions that draw their order over a reader: what each slot holds once its operation has come up, and that it stays so. Plain definitions and laws; no condition.
-/
import Derived.Test.YtbejafbpipdbjaaDoorOrdInv
import Derived.Test.YtbejafbpipdbjaaDoorDraw
import Derived.Test.YtbejafbpipdbjaaDoorPush
namespace Go.Proofs.YtbejafbpipdbjaaDoor
set_option maxRecDepth 4000
open Go.RowKit

/-- What a slot holds: a known value · a number below a bound · a number with a property · a table of numbers with a property, behind block g · the place of such a number · a value with a property. -/
inductive Slot
  | is (v : Value)
  | below (n : Int)
  | num (R : Int → Prop)
  | tab (n : Nat) (R : Int → Prop)
  | spot (R : Int → Prop)
  | sat (R : Value → Prop)
def Slot.holds (g : Nat) : Slot → World → Value → Prop
  | .is x, _, v => v = x
  | .below n, _, v => ∃ k : Nat, v = .int .i64 (k : Int) ∧ (k : Int) < n
  | .num R, _, v => ∃ z : Int, v = .int .i64 z ∧ R z
  | .tab n R, w, v => ∃ s, v = .slice (some ⟨s, 0, none⟩) n n ∧ g < s ∧ s < w.heap.size ∧ ∀ j, j < n → ∃ z : Int, w.cell? ⟨s, j, none⟩ = some (.int .i64 z) ∧ R z
  | .spot R, w, v => ∃ s j, v = .pointer (some ⟨s, j, none⟩) ∧ g < s ∧ s < w.heap.size ∧ ∃ z : Int, w.cell? ⟨s, j, none⟩ = some (.int .i64 z) ∧ R z
  | .sat R, _, v => R v
theorem Slot.stays {g : Nat} {t : Slot} {w w' : World} {v : Value} (h : t.holds g w v) (hg : w.grownBy w' (some g)) : t.holds g w' v := by
  cases t with
  | is x => exact h
  | below n => exact h
  | num R => exact h
  | sat R => exact h
  | tab n R =>
    obtain ⟨s, e, h1, h2, h3⟩ := h
    refine ⟨s, e, h1, Nat.lt_of_lt_of_le h2 hg.size, fun j hj => ?_⟩
    obtain ⟨z, hz, hr⟩ := h3 j hj
    exact ⟨z, (World.cell?_of_block (hg.block s h2 (by simp; omega))).trans hz, hr⟩
  | spot R =>
    obtain ⟨s, j, e, h1, h2, z, hz, hr⟩ := h
    exact ⟨s, j, e, h1, Nat.lt_of_lt_of_le h2 hg.size, z, (World.cell?_of_block (hg.block s h2 (by simp; omega))).trans hz, hr⟩

/-- The world of such a region: a reader that has gone no further than so many draws, and nothing else of before changed. -/
def Reads (w0 : World) (g N fuel : Nat) (w : World) : Prop := ∃ p, p + fuel ≤ N ∧ Rdr w g p ∧ w0.grownBy w (some g)
/-- Behind each operation that has come up its slot holds what it should. -/
def Slots (g : Nat) (T : List (Nat × Slot)) (V : Nat → Value) (listed : Array Bool) (w : World) : Prop := ∀ i d t, T[i]? = some (d, t) → listed.getD i false = true → t.holds g w (V d)
theorem Slots.next {g : Nat} {T : List (Nat × Slot)} {V : Nat → Value} {listed : Array Bool} {w w' : World} {i d : Nat} {t : Slot} {v : Value} (h : Slots g T V listed w) (hT : T[i]? = some (d, t)) (hu : ∀ j d' t', T[j]? = some (d', t') → d' = d → j = i) (hg : w.grownBy w' (some g)) (hv : t.holds g w' v) :
    Slots g T (fun k => if k = d then v else V k) (listed.setIfInBounds i true) w' := by
  intro j d' t' hj hl
  by_cases hji : j = i
  · subst hji
    rw [hT] at hj
    cases hj
    simpa using hv
  · have hd : d' ≠ d := fun e => hji (hu j d' t' hj e)
    simp only [hd, if_false]
    refine Slot.stays (h j d' t' hj ?_) hg
    have : (listed.setIfInBounds i true).getD j false = listed.getD j false := by
      simp only [Array.getD_eq_getD_getElem?, Array.getElem?_setIfInBounds]
      rw [if_neg (fun e => hji e.symm)]
    rw [this] at hl
    exact hl
/-- No two operations write one slot (a closed fact). -/
def apartB (T : List (Nat × Slot)) : Bool := (List.range T.length).all fun i => (List.range T.length).all fun j => (i == j) || ((T[i]?).map (·.1) != (T[j]?).map (·.1))
theorem apartB_spec {T : List (Nat × Slot)} (h : apartB T = true) {i d : Nat} {t : Slot} (hT : T[i]? = some (d, t)) : ∀ j d' t', T[j]? = some (d', t') → d' = d → j = i := by
  intro j d' t' hj e
  unfold apartB at h
  rw [List.all_eq_true] at h
  have h1 := h i (List.mem_range.2 (List.getElem?_eq_some_iff.1 hT).1)
  rw [List.all_eq_true] at h1
  have h2 := h1 j (List.mem_range.2 (List.getElem?_eq_some_iff.1 hj).1)
  rw [hT, hj] at h2
  simp [e] at h2
  exact h2.symm
theorem Reads.quiet {w0 w : World} {g N fuel : Nat} (h : Reads w0 g N (fuel + 1) w) : Reads w0 g N fuel w := by
  obtain ⟨p, h1, h2, h3⟩ := h
  exact ⟨p, by omega, h2, h3⟩
theorem Reads.alloc {w0 w : World} {g N fuel : Nat} (h : Reads w0 g N (fuel + 1) w) (o : Obj) : Reads w0 g N fuel (w.alloc o) := by
  obtain ⟨p, h1, h2, h3⟩ := h
  exact ⟨p, by omega, h2.alloc o, grown_trans h3 (World.grownBy_alloc w o _)⟩
/-- A new table. -/
theorem tab_new {g n : Nat} {R : Int → Prop} {w : World} {t : TypeId} (cs : Array Value) (hg : g < w.heap.size) (h : ∀ j, j < n → ∃ z : Int, cs[j]? = some (.int .i64 z) ∧ R z) : (Slot.tab n R).holds g (w.alloc (.cells cs t)) (.slice (some ⟨w.heap.size, 0, none⟩) n n) :=
  ⟨w.heap.size, rfl, hg, by simp, fun j hj => by
    obtain ⟨z, hz, hr⟩ := h j hj
    exact ⟨z, (World.cell?_alloc_mark w _ _ _ j).trans hz, hr⟩⟩
end Go.Proofs.YtbejafbpipdbjaaDoor
