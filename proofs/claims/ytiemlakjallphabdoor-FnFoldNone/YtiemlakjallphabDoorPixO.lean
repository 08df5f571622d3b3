/-
  Rows of pixels of the call's own: small lemmas. No condition.
-/
import Derived.Test.YtiemlakjallphabDoorRasAtM
import Derived.Test.YtiemlakjallphabDoorBitE
import Derived.StillTailTactics
namespace Go.Proofs.YtiemlakjallphabDoor
set_option maxRecDepth 4000
open Go.RowKit
theorem OwnP.reads {w : World} {base : Nat} {A : Option Addr} {n c : Nat} {l : List Px} (h : OwnP w base (.slice A n c) l) : HasP w w.heap.size A l := by
  obtain ⟨A', c', e, _, hh⟩ := h.has
  injection e with e1 _ _
  rw [e1]
  exact hh
theorem rowP_below {w w' : World} {base B : Nat} {e : TypeId} {size : Nat} {v : Value} {n : Nat} {xs : List Value} (h : w.ownsRow base e size v n xs) (hb : Below B w w') (hB : w.heap.size ≤ B) : w'.ownsRow base e size v n xs := by
  refine ⟨h.1, ?_⟩
  rcases h.2 with hn | ⟨g, cap, cur, rfl, hg, hh, rest⟩
  · exact .inl hn
  · exact .inr ⟨g, cap, cur, rfl, hg, (hb.block g (Nat.lt_of_lt_of_le (Array.getElem?_eq_some_iff.1 hh).1 hB)).trans hh, rest⟩
theorem OwnP.below {w w' : World} {base B : Nat} {v : Value} {l : List Px} (h : OwnP w base v l) (hb : Below B w w') (hB : w.heap.size ≤ B) : OwnP w' base v l := rowP_below h hb hB
theorem OwnP.alloc {w : World} {base : Nat} {v : Value} {l : List Px} (h : OwnP w base v l) (o : Obj) : OwnP (w.alloc o) base v l := World.ownsRow.alloc h o
theorem OwnP.drewN {w : World} {base : Nat} {v : Value} {l : List Px} (h : OwnP w base v l) (n : Nat) : OwnP (w.drewN n) base v l := h

/-- What is copied after k of the pixels: the first k, and noughts. -/
def partP (l : List Px) (k : Nat) : List Value := flatP (l.take k) ++ List.replicate ((l.length - k) * 4) (.int .i64 0)
theorem partP_all (l : List Px) : partP l l.length = flatP l := by simp [partP]
theorem madeP (n : Nat) : (madeCells (Value.agg #[.int .i64 0, .int .i64 0, .int .i64 0, .int .i64 0]).cells (n * 4)).toList = List.replicate (n * 4) (.int .i64 0) := by
  apply List.ext_getElem?
  intro i
  by_cases hi : i < n * 4
  · have h2 : i % 4 = 0 ∨ i % 4 = 1 ∨ i % 4 = 2 ∨ i % 4 = 3 := by omega
    rcases h2 with h2 | h2 | h2 | h2 <;> simp [madeCells, hi, Value.cells, h2]
  · simp [madeCells, hi]
theorem partP_zero (l : List Px) : partP l 0 = List.replicate (l.length * 4) (.int .i64 0) := by simp [partP, flatP_nil]
theorem partP_length (l : List Px) (k : Nat) (hk : k ≤ l.length) : (partP l k).length = l.length * 4 := by
  simp only [partP, List.length_append, flatP_length, List.length_take, List.length_replicate]
  omega
theorem partP_set (l : List Px) (k : Nat) (p : Px) (hp : l[k]? = some p) : ((((partP l k).set (k * 4) (.int .i64 p.r)).set (k * 4 + 1) (.int .i64 p.g)).set (k * 4 + 2) (.int .i64 p.b)).set (k * 4 + 3) (.int .i64 p.a) = partP l (k + 1) := by
  obtain ⟨hk, hpk⟩ := List.getElem?_eq_some_iff.1 hp
  have h1 : (flatP (l.take k)).length = k * 4 := by rw [flatP_length, List.length_take]; omega
  obtain ⟨m, hm⟩ : ∃ m, l.length - k = m + 1 := ⟨l.length - k - 1, by omega⟩
  unfold partP
  rw [List.set_append_right _ _ (by omega), List.set_append_right _ _ (by omega), List.set_append_right _ _ (by omega), List.set_append_right _ _ (by omega), h1, Nat.sub_self, show k * 4 + 1 - k * 4 = 1 from by omega, show k * 4 + 2 - k * 4 = 2 from by omega, show k * 4 + 3 - k * 4 = 3 from by omega, hm, show l.length - (k + 1) = m from by omega,
    show (m + 1) * 4 = m * 4 + 1 + 1 + 1 + 1 from by omega, List.replicate_succ, List.replicate_succ, List.replicate_succ, List.replicate_succ]
  simp only [List.set_cons_zero, List.set_cons_succ]
  rw [List.take_add_one, hp, flatP_append]
  simp [flatP, Px.cells]

theorem OwnP.lower {w : World} {base b' : Nat} {v : Value} {l : List Px} (h : OwnP w base v l) (hb : b' ≤ base) : OwnP w b' v l := by
  refine ⟨h.1, ?_⟩
  rcases h.2 with hn | ⟨g, cap, cur, rfl, hg, rest⟩
  · exact .inl hn
  · exact .inr ⟨g, cap, cur, rfl, by omega, rest⟩
theorem OwnP.set_at {w : World} {g n c b : Nat} {l : List Px} (h : OwnP w g (.slice (some ⟨g, 0, none⟩) n c) l) (hb : b < g) (i : Nat) (x : Value) : OwnP (w.setCell ⟨b, i, none⟩ x) g (.slice (some ⟨g, 0, none⟩) n c) l :=
  World.ownsRow.kept h (grown_cell w b i x) (.inr (by simp [Value.ownBlock]; omega))
theorem OwnP.set_low {w : World} {base b : Nat} {v : Value} {l : List Px} (h : OwnP w base v l) (hb : b < base) (i : Nat) (x : Value) : OwnP (w.setCell ⟨b, i, none⟩ x) base v l :=
  World.ownsRow.kept h (grown_cell w b i x) (by
    cases hv : v.ownBlock with
    | none => exact .inl rfl
    | some q => exact .inr fun e => by have := (World.ownsRow.lt h q hv).1; injection e with e; omega)
theorem fin_ras {W : World} {R : Nat} {a b c : Value} {t : TypeId} (h : W.heap[R]? = some (.cells #[a, b, c] t (0, 0))) (x y z : Value) : (((W.setCell ⟨R, 0, none⟩ x).setCell ⟨R, 1, none⟩ y).setCell ⟨R, 2, none⟩ z).heap[R]? = some (.cells #[x, y, z] t (0, 0)) := by
  have h1 := heap_setCell_same W R 0 _ _ x h
  have h2 := heap_setCell_same _ R 1 _ _ y h1
  have h3 := heap_setCell_same _ R 2 _ _ z h2
  simpa using h3
end Go.Proofs.YtiemlakjallphabDoor
