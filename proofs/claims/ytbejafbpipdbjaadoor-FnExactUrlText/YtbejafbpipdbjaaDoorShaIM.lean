/-
  The program's mixBlock mixes a block into eight words. Conditions: the program's two tables are the standard's; a hash under way.
-/
import Derived.Test.YtbejafbpipdbjaaDoorShaIS
import Derived.Test.YtbejafbpipdbjaaDoorShaIP
import Derived.Test.YtbejafbpipdbjaaDoorShaMore
namespace Go.Proofs.YtbejafbpipdbjaaDoor
set_option maxRecDepth 4000
open Go.RowKit

/-- The two tables are the standard's. -/
def Tabs (w : World) : Prop := w.rangeAt 3 0 (first8.list.map (kv .u32)) ∧ w.rangeAt 7 0 (round64.map (kv .u32)) ∧ 7 + 1 ≤ w.heap.size
theorem Tabs.kept {w w' : World} (h : Tabs w) (hk : ∀ k, k < 7 + 1 → w'.heap[k]? = w.heap[k]?) (hz : 7 + 1 ≤ w'.heap.size) : Tabs w' :=
  ⟨fun j v hv => (World.cell?_of_block (hk 3 (by omega))).trans (h.1 j v hv), fun j v hv => (World.cell?_of_block (hk 7 (by omega))).trans (h.2.1 j v hv), hz⟩
theorem Tabs.below {w w' : World} {B : Nat} (h : Tabs w) (hb : Below B w w') (hB : 7 + 1 ≤ B) : Tabs w' := h.kept (fun k hk => hb.block k (by omega)) (Nat.le_trans h.2.2 hb.size)
theorem Tabs.grown {w w' : World} {row : Option Nat} (h : Tabs w) (hg : w.grownBy w' row) (hr : ∀ k, row = some k → 7 + 1 ≤ k) : Tabs w' :=
  h.kept (fun k hk => hg.block k (by have := h.2.2; omega) (fun e => by have := hr k e.symm; omega)) (Nat.le_trans h.2.2 hg.size)
theorem Tabs.round {w : World} (h : Tabs w) (k x : Nat) (hx : round64[k]? = some x) : w.cell? ⟨7, k, none⟩ = some (.int .u32 (x : Int)) := by
  have := h.2.1 k (kv .u32 x) (by rw [List.getElem?_map, hx]; rfl)
  rw [Nat.zero_add] at this
  exact this

/-- The cells of a hash under way: eight words, a block, how many bytes. -/
def hcells (ws : List Nat) (blk : List UInt8) (n : Nat) : List Value := ws.map (kv .u32) ++ (blk.map bv ++ [.int .u64 (n : Int)])
/-- Block g is a hash under way. -/
def HashAt (w : World) (g : Nat) (ws : List Nat) (blk : List UInt8) (n : Nat) : Prop :=
  w.heap[g]? = some (.cells (hcells ws blk n).toArray 176 (0, 0)) ∧ ws.length = 8 ∧ blk.length = 64
section
variable {w w' : World} {g n : Nat} {ws : List Nat} {blk : List UInt8}
theorem HashAt.lt (h : HashAt w g ws blk n) : g < w.heap.size := (Array.getElem?_eq_some_iff.1 h.1).1
theorem HashAt.word (h : HashAt w g ws blk n) (i x : Nat) (hx : ws[i]? = some x) : w.cell? ⟨g, i, none⟩ = some (.int .u32 (x : Int)) := by
  have hi : i < ws.length := (List.getElem?_eq_some_iff.1 hx).1
  rw [cell_of_row w g i _ _ _ h.1]
  simp only [hcells, List.getElem?_toArray]
  rw [List.getElem?_append_left (by simpa using hi), List.getElem?_map, hx]
  rfl
theorem HashAt.byte (h : HashAt w g ws blk n) (i : Nat) (x : UInt8) (hx : blk[i]? = some x) : w.cell? ⟨g, 8 + i, none⟩ = some (.int .u8 (x.toNat : Int)) := by
  have hi : i < blk.length := (List.getElem?_eq_some_iff.1 hx).1
  rw [cell_of_row w g _ _ _ _ h.1]
  simp only [hcells, List.getElem?_toArray]
  rw [List.getElem?_append_right (by simp [h.2.1]), List.length_map, h.2.1, Nat.add_sub_cancel_left, List.getElem?_append_left (by simpa using hi), List.getElem?_map, hx]
  rfl
theorem HashAt.many (h : HashAt w g ws blk n) : w.cell? ⟨g, 72, none⟩ = some (.int .u64 (n : Int)) := by
  rw [cell_of_row w g _ _ _ _ h.1]
  simp only [hcells, List.getElem?_toArray]
  rw [List.getElem?_append_right (by simp [h.2.1]), List.length_map, h.2.1, List.getElem?_append_right (by simp [h.2.2]), List.length_map, h.2.2]
  rfl
theorem HashAt.free (h : HashAt w g ws blk n) (i : Nat) : w.frozen? ⟨g, i, none⟩ = false := by
  have := h.1
  simp [World.frozen?, this]
theorem HashAt.kept (h : HashAt w g ws blk n) (hk : w'.heap[g]? = w.heap[g]?) : HashAt w' g ws blk n := ⟨hk.trans h.1, h.2⟩
theorem HashAt.below {B : Nat} (h : HashAt w g ws blk n) (hb : Below B w w') (hB : g < B) : HashAt w' g ws blk n := h.kept (hb.block g hB)
theorem HashAt.drewN (h : HashAt w g ws blk n) (k : Nat) : HashAt (w.drewN k) g ws blk n := h
theorem HashAt.setWord (h : HashAt w g ws blk n) (i x : Nat) (hi : i < 8) : HashAt (w.setCell ⟨g, i, none⟩ (.int .u32 (x : Int))) g (ws.set i x) blk n := by
  refine ⟨?_, by rw [List.length_set]; exact h.2.1, h.2.2⟩
  rw [heap_setCell_same w g i _ _ _ h.1]
  congr 2
  simp only [hcells, List.setIfInBounds_toArray]
  rw [List.set_append_left _ _ (by rw [List.length_map, h.2.1]; exact hi), List.map_set]
  rfl
theorem HashAt.setByte (h : HashAt w g ws blk n) (i : Nat) (x : UInt8) (hi : i < 64) : HashAt (w.setCell ⟨g, 8 + i, none⟩ (.int .u8 (x.toNat : Int))) g ws (blk.set i x) n := by
  refine ⟨?_, h.2.1, by rw [List.length_set]; exact h.2.2⟩
  rw [heap_setCell_same w g _ _ _ _ h.1]
  congr 2
  simp only [hcells, List.setIfInBounds_toArray]
  rw [List.set_append_right _ _ (by rw [List.length_map, h.2.1]; omega), List.length_map, h.2.1, Nat.add_sub_cancel_left, List.set_append_left _ _ (by rw [List.length_map, h.2.2]; exact hi), List.map_set]
  rfl
theorem HashAt.setMany (h : HashAt w g ws blk n) (m : Nat) : HashAt (w.setCell ⟨g, 72, none⟩ (.int .u64 (m : Int))) g ws blk m := by
  refine ⟨?_, h.2⟩
  rw [heap_setCell_same w g _ _ _ _ h.1]
  congr 2
  simp only [hcells, List.setIfInBounds_toArray]
  rw [List.set_append_right _ _ (by rw [List.length_map, h.2.1]; omega), List.length_map, h.2.1, List.set_append_right _ _ (by rw [List.length_map, h.2.2]; omega), List.length_map, h.2.2]
  rfl
end
end Go.Proofs.YtbejafbpipdbjaaDoor
