/-
  DrawPixOk draws some pixel. Condition: at most 2^30 bytes to draw from.
-/
import Derived.Test.YtiemlakjallphaaDoorDrawPix
namespace Go.Proofs.YtiemlakjallphaaDoor
set_option maxRecDepth 4000
open Go.RowKit

/-- What DrawPixOk answers. -/
def DrewX (w : World) (e : Ending) (w' : World) : Prop := ∃ q : Px, e = .returned q.v ∧ Below w.heap.size w w'
set_option maxHeartbeats 1000000 in
theorem drawPixOk_any (A : Option Addr) (c : Nat) (l : List UInt8) (w : World) (hs : l.length ≤ 1073741824) (hc : l.length ≤ c) (h : Has w w.heap.size A l) :
    Calls Tryd.prog 21 #[.slice A l.length c] w (DrewX w) := by
  have hb0 : Below w.heap.size w (w.alloc (.cells #[.int .i64 0, .int .i64 0, .int .i64 0, .int .i64 0] 39)) := (Below.refl _ w).alloc (Nat.le_refl _) _
  have hx0 : (w.alloc (.cells #[.int .i64 0, .int .i64 0, .int .i64 0, .int .i64 0] 39)).heap[w.heap.size]? = some (.cells #[.int .i64 0, .int .i64 0, .int .i64 0, .int .i64 0] 39 (0, 0)) := heap_alloc_new w _
  have h0 : Has (w.alloc (.cells #[.int .i64 0, .int .i64 0, .int .i64 0, .int .i64 0] 39)) (w.alloc (.cells #[.int .i64 0, .int .i64 0, .int .i64 0, .int .i64 0] 39)).heap.size A l := (h.below hb0).wider (by simp)
  go_enter Tryd.func21, Tryd.ntmps21
  go_wp2_with fail
  generalize w.alloc (.cells #[.int .i64 0, .int .i64 0, .int .i64 0, .int .i64 0] 39) = w0 at *
  have hlt : w.heap.size < w0.heap.size := (Array.getElem?_eq_some_iff.1 hx0).1
  refine (l20Open_any A c l _ hs hc h0).mono ?_
  rintro e w1 ⟨rfl, hr, b1⟩
  have hx1 := (b1.block w.heap.size hlt).trans hx0
  have B1 : Below w.heap.size w w1 := hb0.trans (b1.mono (by omega))
  have hz1 := hr.lt
  clear hb0 b1 hx0 h0 h hs hc
  go_wp2_with fail
  refine (l20Pix_any _ 0 _ hr (by omega)).mono ?_
  rintro e w2 ⟨q, rfl, -, ⟨p2, hp2, hr2⟩, hg2⟩
  have hx2 := (hg2.block w.heap.size (by omega) (by simp; omega)).trans hx1
  have B2 := below_of_grown B1 hg2 (by omega) B1.size
  have hz2 := hr2.lt
  unfold Px.v
  clear hx1 B1 hg2 hr
  go_wp2_with fail
  have hx3a : (w2.alloc (.cells #[.int .i64 q.r, .int .i64 q.g, .int .i64 q.b, .int .i64 q.a] 39)).heap[w.heap.size]? = some (.cells #[.int .i64 0, .int .i64 0, .int .i64 0, .int .i64 0] 39 (0, 0)) := (Below.heap_alloc w2 _ _ (by omega)).trans hx2
  have hy3a : (w2.alloc (.cells #[.int .i64 q.r, .int .i64 q.g, .int .i64 q.b, .int .i64 q.a] 39)).heap[w2.heap.size]? = some (.cells #[.int .i64 q.r, .int .i64 q.g, .int .i64 q.b, .int .i64 q.a] 39 (0, 0)) := heap_alloc_new w2 _
  have B3a := B2.alloc B2.size (.cells #[.int .i64 q.r, .int .i64 q.g, .int .i64 q.b, .int .i64 q.a] 39)
  have hr3a := hr2.alloc (.cells #[.int .i64 q.r, .int .i64 q.g, .int .i64 q.b, .int .i64 q.a] 39)
  generalize w2.alloc (.cells #[.int .i64 q.r, .int .i64 q.g, .int .i64 q.b, .int .i64 q.a] 39) = w3 at *
  have hz3 : w2.heap.size < w3.heap.size := (Array.getElem?_eq_some_iff.1 hy3a).1
  refine (pick_any _ p2 _ _ hr3a (by omega) (by omega) (by omega)).mono ?_
  rintro e w4 ⟨k4, rfl, -, -, hr4, hg4, -⟩
  have HX4 := Lib.hid ((hg4.block w.heap.size (by omega) (by simp; omega)).trans hx3a)
  have HY4 := Lib.hid ((hg4.block w2.heap.size hz3 (by simp; omega)).trans hy3a)
  have HB4 := Lib.hid (below_of_grown B3a hg4 (by omega) B3a.size)
  have hz4 : w3.heap.size ≤ w4.heap.size := hg4.size
  have hne : ¬ w.heap.size = w2.heap.size := by omega
  clear hx2 hx3a hy3a B2 B3a hr2 hr3a hg4
  by_cases h0 : (k4 : Int) = 0
  rotate_left
  by_cases h1 : (k4 : Int) = 1
  rotate_left
  · have e0 : ((k4 : Int) == 0) = false := beq_eq_false_iff_ne.2 h0
    have e1 : ((k4 : Int) == 1) = false := beq_eq_false_iff_ne.2 h1
    have y0 : w4.cell? ⟨w2.heap.size, 0, none⟩ = some (.int .i64 q.r) := by rw [cell_of_row w4 _ 0 _ _ _ HY4.out]; rfl
    have y1 : w4.cell? ⟨w2.heap.size, 1, none⟩ = some (.int .i64 q.g) := by rw [cell_of_row w4 _ 1 _ _ _ HY4.out]; rfl
    have y2 : w4.cell? ⟨w2.heap.size, 2, none⟩ = some (.int .i64 q.b) := by rw [cell_of_row w4 _ 2 _ _ _ HY4.out]; rfl
    have y3 : w4.cell? ⟨w2.heap.size, 3, none⟩ = some (.int .i64 q.a) := by rw [cell_of_row w4 _ 3 _ _ _ HY4.out]; rfl
    have x0 : w4.cell? ⟨w.heap.size, 0, none⟩ = some (.int .i64 0) := by rw [cell_of_row w4 _ 0 _ _ _ HX4.out]; rfl
    have x1 : w4.cell? ⟨w.heap.size, 1, none⟩ = some (.int .i64 0) := by rw [cell_of_row w4 _ 1 _ _ _ HX4.out]; rfl
    have x2 : w4.cell? ⟨w.heap.size, 2, none⟩ = some (.int .i64 0) := by rw [cell_of_row w4 _ 2 _ _ _ HX4.out]; rfl
    have x3 : w4.cell? ⟨w.heap.size, 3, none⟩ = some (.int .i64 0) := by rw [cell_of_row w4 _ 3 _ _ _ HX4.out]; rfl
    have f0 : w4.frozen? ⟨w.heap.size, 0, none⟩ = false := by simp [World.frozen?, HX4.out]
    have f1 : w4.frozen? ⟨w.heap.size, 1, none⟩ = false := by simp [World.frozen?, HX4.out]
    have f2 : w4.frozen? ⟨w.heap.size, 2, none⟩ = false := by simp [World.frozen?, HX4.out]
    have f3 : w4.frozen? ⟨w.heap.size, 3, none⟩ = false := by simp [World.frozen?, HX4.out]
    clear hr4
    go_wp2_with fail
    (try simp only [Exit.inBlock, Exit.then])
    refine bodyPost_ret (results_cell_row rfl _ _ w.heap.size 39 #[.int .i64 q.r, .int .i64 q.g, .int .i64 q.b, .int .i64 q.a] (0, 0) _ rfl (fin_px HX4.out q) Tryd.underlying39 rfl (by kernel_rfl)) rfl ?_
    exact ⟨q, rfl, below_px HB4.out (Nat.le_refl _) _ _ _ _⟩
  · have e0 : ((k4 : Int) == 0) = true := beq_iff_eq.2 h0
    have hz5 := hr4.lt
    have HX5 := Lib.hid ((Below.heap_alloc w4 (.cells #[.int .i64 (-1), .int .i64 256] 3) _ (by omega)).trans HX4.out)
    have HY5 := Lib.hid ((Below.heap_alloc w4 (.cells #[.int .i64 (-1), .int .i64 256] 3) _ (by omega)).trans HY4.out)
    have HB5 := Lib.hid (HB4.out.alloc HB4.out.size (.cells #[.int .i64 (-1), .int .i64 256] 3))
    have C5 := Lib.hid (pick_any _ (p2 + 1) 2 _ (hr4.alloc (.cells #[.int .i64 (-1), .int .i64 256] 3)) (by omega) (by omega) (by omega))
    clear hr4
    go_wp2_with fail
    refine C5.out.mono ?_
    rintro e w5 ⟨j, rfl, hj, -, -, hg5, -⟩
    have hj2 : (j : Int) < 2 := hj (by omega)
    obtain ⟨z, hz⟩ : ∃ z : Int, w5.cell? ⟨w4.heap.size, j, none⟩ = some (.int .i64 z) := by
      obtain ⟨s, e, _, _, ht⟩ := Slot.stays (tab_new (n := 2) (R := fun _ => True) (t := 3) #[.int .i64 (-1), .int .i64 256] hz5 (fun j hj => by
        match j, hj with
        | 0, _ => exact ⟨_, rfl, trivial⟩
        | 1, _ => exact ⟨_, rfl, trivial⟩)) hg5
      injection e with e1 _ _
      injection e1 with e1
      injection e1 with e1 _ _
      rw [e1]
      obtain ⟨z, hz, _⟩ := ht j (by omega)
      exact ⟨z, hz⟩
    have hxr := (hg5.block w.heap.size (by simp; omega) (by simp; omega)).trans HX5.out
    have hyr := (hg5.block w2.heap.size (by simp; omega) (by simp; omega)).trans HY5.out
    have HB6 := Lib.hid ((below_of_grown HB5.out hg5 (by omega) HB5.out.size).setCell (p := ⟨w2.heap.size, 0, none⟩) (by simp; omega) (.int .i64 z))
    have HX6 : Hid ((w5.setCell ⟨w2.heap.size, 0, none⟩ (.int .i64 z)).heap[w.heap.size]? = some (.cells #[.int .i64 0, .int .i64 0, .int .i64 0, .int .i64 0] 39 (0, 0))) := Lib.hid ((Below.heap_setCell w5 _ _ _ (by simp; omega)).trans hxr)
    have HXR := Lib.hid hxr
    have HYR := Lib.hid hyr
    clear hxr hyr hg5 hj C5
    have y0 : w5.cell? ⟨w2.heap.size, 0, none⟩ = some (.int .i64 q.r) := by rw [cell_of_row w5 _ 0 _ _ _ HYR.out]; rfl
    have y1 : w5.cell? ⟨w2.heap.size, 1, none⟩ = some (.int .i64 q.g) := by rw [cell_of_row w5 _ 1 _ _ _ HYR.out]; rfl
    have y2 : w5.cell? ⟨w2.heap.size, 2, none⟩ = some (.int .i64 q.b) := by rw [cell_of_row w5 _ 2 _ _ _ HYR.out]; rfl
    have y3 : w5.cell? ⟨w2.heap.size, 3, none⟩ = some (.int .i64 q.a) := by rw [cell_of_row w5 _ 3 _ _ _ HYR.out]; rfl
    have g0 : w5.frozen? ⟨w2.heap.size, 0, none⟩ = false := by simp [World.frozen?, HYR.out]
    have g1 : w5.frozen? ⟨w2.heap.size, 1, none⟩ = false := by simp [World.frozen?, HYR.out]
    have g2 : w5.frozen? ⟨w2.heap.size, 2, none⟩ = false := by simp [World.frozen?, HYR.out]
    have g3 : w5.frozen? ⟨w2.heap.size, 3, none⟩ = false := by simp [World.frozen?, HYR.out]
    have x0 : w5.cell? ⟨w.heap.size, 0, none⟩ = some (.int .i64 0) := by rw [cell_of_row w5 _ 0 _ _ _ HXR.out]; rfl
    have x1 : w5.cell? ⟨w.heap.size, 1, none⟩ = some (.int .i64 0) := by rw [cell_of_row w5 _ 1 _ _ _ HXR.out]; rfl
    have x2 : w5.cell? ⟨w.heap.size, 2, none⟩ = some (.int .i64 0) := by rw [cell_of_row w5 _ 2 _ _ _ HXR.out]; rfl
    have x3 : w5.cell? ⟨w.heap.size, 3, none⟩ = some (.int .i64 0) := by rw [cell_of_row w5 _ 3 _ _ _ HXR.out]; rfl
    have f0 : w5.frozen? ⟨w.heap.size, 0, none⟩ = false := by simp [World.frozen?, HXR.out]
    have f1 : w5.frozen? ⟨w.heap.size, 1, none⟩ = false := by simp [World.frozen?, HXR.out]
    have f2 : w5.frozen? ⟨w.heap.size, 2, none⟩ = false := by simp [World.frozen?, HXR.out]
    have f3 : w5.frozen? ⟨w.heap.size, 3, none⟩ = false := by simp [World.frozen?, HXR.out]
    go_wp2_with fail
    (try simp only [Exit.inBlock, Exit.then])
    refine bodyPost_ret (results_cell_row rfl _ _ w.heap.size 39 #[.int .i64 (⟨z, q.g, q.b, q.a⟩ : Px).r, .int .i64 (⟨z, q.g, q.b, q.a⟩ : Px).g, .int .i64 (⟨z, q.g, q.b, q.a⟩ : Px).b, .int .i64 (⟨z, q.g, q.b, q.a⟩ : Px).a] (0, 0) _ rfl (fin_px HX6.out (⟨z, q.g, q.b, q.a⟩ : Px)) Tryd.underlying39 rfl (by kernel_rfl)) rfl ?_
    exact ⟨(⟨z, q.g, q.b, q.a⟩ : Px), rfl, below_px HB6.out (Nat.le_refl _) _ _ _ _⟩
  · have e0 : ((k4 : Int) == 0) = false := beq_eq_false_iff_ne.2 h0
    have e1 : ((k4 : Int) == 1) = true := beq_iff_eq.2 h1
    have hz5 := hr4.lt
    have HX5 := Lib.hid ((Below.heap_alloc w4 (.cells #[.int .i64 (-1), .int .i64 256] 3) _ (by omega)).trans HX4.out)
    have HY5 := Lib.hid ((Below.heap_alloc w4 (.cells #[.int .i64 (-1), .int .i64 256] 3) _ (by omega)).trans HY4.out)
    have HB5 := Lib.hid (HB4.out.alloc HB4.out.size (.cells #[.int .i64 (-1), .int .i64 256] 3))
    have C5 := Lib.hid (pick_any _ (p2 + 1) 2 _ (hr4.alloc (.cells #[.int .i64 (-1), .int .i64 256] 3)) (by omega) (by omega) (by omega))
    clear hr4
    go_wp2_with fail
    refine C5.out.mono ?_
    rintro e w5 ⟨j, rfl, hj, -, -, hg5, -⟩
    have hj2 : (j : Int) < 2 := hj (by omega)
    obtain ⟨z, hz⟩ : ∃ z : Int, w5.cell? ⟨w4.heap.size, j, none⟩ = some (.int .i64 z) := by
      obtain ⟨s, e, _, _, ht⟩ := Slot.stays (tab_new (n := 2) (R := fun _ => True) (t := 3) #[.int .i64 (-1), .int .i64 256] hz5 (fun j hj => by
        match j, hj with
        | 0, _ => exact ⟨_, rfl, trivial⟩
        | 1, _ => exact ⟨_, rfl, trivial⟩)) hg5
      injection e with e1 _ _
      injection e1 with e1
      injection e1 with e1 _ _
      rw [e1]
      obtain ⟨z, hz, _⟩ := ht j (by omega)
      exact ⟨z, hz⟩
    have hxr := (hg5.block w.heap.size (by simp; omega) (by simp; omega)).trans HX5.out
    have hyr := (hg5.block w2.heap.size (by simp; omega) (by simp; omega)).trans HY5.out
    have HB6 := Lib.hid ((below_of_grown HB5.out hg5 (by omega) HB5.out.size).setCell (p := ⟨w2.heap.size, 3, none⟩) (by simp; omega) (.int .i64 z))
    have HX6 : Hid ((w5.setCell ⟨w2.heap.size, 3, none⟩ (.int .i64 z)).heap[w.heap.size]? = some (.cells #[.int .i64 0, .int .i64 0, .int .i64 0, .int .i64 0] 39 (0, 0))) := Lib.hid ((Below.heap_setCell w5 _ _ _ (by simp; omega)).trans hxr)
    have HXR := Lib.hid hxr
    have HYR := Lib.hid hyr
    clear hxr hyr hg5 hj C5
    have y0 : w5.cell? ⟨w2.heap.size, 0, none⟩ = some (.int .i64 q.r) := by rw [cell_of_row w5 _ 0 _ _ _ HYR.out]; rfl
    have y1 : w5.cell? ⟨w2.heap.size, 1, none⟩ = some (.int .i64 q.g) := by rw [cell_of_row w5 _ 1 _ _ _ HYR.out]; rfl
    have y2 : w5.cell? ⟨w2.heap.size, 2, none⟩ = some (.int .i64 q.b) := by rw [cell_of_row w5 _ 2 _ _ _ HYR.out]; rfl
    have y3 : w5.cell? ⟨w2.heap.size, 3, none⟩ = some (.int .i64 q.a) := by rw [cell_of_row w5 _ 3 _ _ _ HYR.out]; rfl
    have g0 : w5.frozen? ⟨w2.heap.size, 0, none⟩ = false := by simp [World.frozen?, HYR.out]
    have g1 : w5.frozen? ⟨w2.heap.size, 1, none⟩ = false := by simp [World.frozen?, HYR.out]
    have g2 : w5.frozen? ⟨w2.heap.size, 2, none⟩ = false := by simp [World.frozen?, HYR.out]
    have g3 : w5.frozen? ⟨w2.heap.size, 3, none⟩ = false := by simp [World.frozen?, HYR.out]
    have x0 : w5.cell? ⟨w.heap.size, 0, none⟩ = some (.int .i64 0) := by rw [cell_of_row w5 _ 0 _ _ _ HXR.out]; rfl
    have x1 : w5.cell? ⟨w.heap.size, 1, none⟩ = some (.int .i64 0) := by rw [cell_of_row w5 _ 1 _ _ _ HXR.out]; rfl
    have x2 : w5.cell? ⟨w.heap.size, 2, none⟩ = some (.int .i64 0) := by rw [cell_of_row w5 _ 2 _ _ _ HXR.out]; rfl
    have x3 : w5.cell? ⟨w.heap.size, 3, none⟩ = some (.int .i64 0) := by rw [cell_of_row w5 _ 3 _ _ _ HXR.out]; rfl
    have f0 : w5.frozen? ⟨w.heap.size, 0, none⟩ = false := by simp [World.frozen?, HXR.out]
    have f1 : w5.frozen? ⟨w.heap.size, 1, none⟩ = false := by simp [World.frozen?, HXR.out]
    have f2 : w5.frozen? ⟨w.heap.size, 2, none⟩ = false := by simp [World.frozen?, HXR.out]
    have f3 : w5.frozen? ⟨w.heap.size, 3, none⟩ = false := by simp [World.frozen?, HXR.out]
    go_wp2_with fail
    (try simp only [Exit.inBlock, Exit.then])
    refine bodyPost_ret (results_cell_row rfl _ _ w.heap.size 39 #[.int .i64 (⟨q.r, q.g, q.b, z⟩ : Px).r, .int .i64 (⟨q.r, q.g, q.b, z⟩ : Px).g, .int .i64 (⟨q.r, q.g, q.b, z⟩ : Px).b, .int .i64 (⟨q.r, q.g, q.b, z⟩ : Px).a] (0, 0) _ rfl (fin_px HX6.out (⟨q.r, q.g, q.b, z⟩ : Px)) Tryd.underlying39 rfl (by kernel_rfl)) rfl ?_
    exact ⟨(⟨q.r, q.g, q.b, z⟩ : Px), rfl, below_px HB6.out (Nat.le_refl _) _ _ _ _⟩
end Go.Proofs.YtiemlakjallphaaDoor
