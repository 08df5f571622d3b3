/-
  DrawOpOk draws some operation, DrawOpDo some raster and some operation. Condition: at most 2^30 bytes to draw from.
-/
import Derived.Test.YtiemlakjallphaaDoorDrawRasC
import Derived.Test.YtiemlakjallphaaDoorOpO
namespace Go.Proofs.YtiemlakjallphaaDoor
set_option maxRecDepth 4000
open Go.RowKit

theorem fin_op {W : World} {g : Nat} {a b c d e : Value} {t : TypeId} (h : Box W g #[a, b, c, d, e] t) (x y z u v : Value) : Box (((((W.setCell ⟨g, 0, none⟩ x).setCell ⟨g, 1, none⟩ y).setCell ⟨g, 2, none⟩ z).setCell ⟨g, 3, none⟩ u).setCell ⟨g, 4, none⟩ v) g #[x, y, z, u, v] t := by
  have := ((((h.set 0 x).set 1 y).set 2 z).set 3 u).set 4 v
  simpa using this
/-- What l20Op answers. -/
def DrewQ (w : World) (g p : Nat) (e : Ending) (w' : World) : Prop := ∃ o : Op, e = .returned o.v ∧ (∃ p', p' ≤ p + 10 ∧ Rdr w' g p') ∧ w.grownBy w' (some g)
set_option maxHeartbeats 4000000 in
theorem l20Op_any (g p : Nat) (n : Int) (w : World) (h : Rdr w g p) (hp : p ≤ 100000000) (hn : 0 ≤ n) (hn2 : n ≤ 1000000000) :
    Calls Tryd.prog 31 #[.pointer (some ⟨g, 0, none⟩), .int .i64 n] w (DrewQ w g p) := by
  have hgw := h.lt
  have hR0 : Box (w.alloc (.cells #[.int .i64 0, .int .i64 0, .int .i64 0, .int .i64 0, .int .i64 0] 27)) w.heap.size #[.int .i64 0, .int .i64 0, .int .i64 0, .int .i64 0, .int .i64 0] 27 := Box.new w _ _
  have hG0 : w.grownBy (w.alloc (.cells #[.int .i64 0, .int .i64 0, .int .i64 0, .int .i64 0, .int .i64 0] 27)) (some g) := World.grownBy_alloc w _ _
  have hr0 := h.alloc (.cells #[.int .i64 0, .int .i64 0, .int .i64 0, .int .i64 0, .int .i64 0] 27)
  go_enter Tryd.func31, Tryd.ntmps31
  go_wp2_with fail
  generalize w.alloc (.cells #[.int .i64 0, .int .i64 0, .int .i64 0, .int .i64 0, .int .i64 0] 27) = w0 at *
  obtain ⟨R, hRR, hRg⟩ : ∃ R, w.heap.size = R ∧ g < R := ⟨_, rfl, hgw⟩
  have FIN : Hid (∀ (W1 : World) (o : Op) (p'' : Nat), Box W1 R #[.int .i64 0, .int .i64 0, .int .i64 0, .int .i64 0, .int .i64 0] 27 → True → Rdr W1 g p'' → p'' ≤ p + 10 → w.grownBy W1 (some g) →
      Box (((((W1.setCell ⟨R, 0, none⟩ (.int .i64 o.k)).setCell ⟨R, 1, none⟩ (.int .i64 o.a)).setCell ⟨R, 2, none⟩ (.int .i64 o.b)).setCell ⟨R, 3, none⟩ (.int .i64 o.c)).setCell ⟨R, 4, none⟩ (.int .i64 o.d)) R #[.int .i64 o.k, .int .i64 o.a, .int .i64 o.b, .int .i64 o.c, .int .i64 o.d] 27 ∧ DrewQ w g p (.returned (.agg #[.int .i64 o.k, .int .i64 o.a, .int .i64 o.b, .int .i64 o.c, .int .i64 o.d])) (((((W1.setCell ⟨R, 0, none⟩ (.int .i64 o.k)).setCell ⟨R, 1, none⟩ (.int .i64 o.a)).setCell ⟨R, 2, none⟩ (.int .i64 o.b)).setCell ⟨R, 3, none⟩ (.int .i64 o.c)).setCell ⟨R, 4, none⟩ (.int .i64 o.d))) := Lib.hid fun W1 o p'' h1 _ h3 h4 h5 =>
    ⟨fin_op h1 _ _ _ _ _, o, rfl, ⟨p'', h4, h3.kept (fun j hj => by
      have := h3.lt
      rw [Below.heap_setCell _ _ _ j (by simp; omega), Below.heap_setCell _ _ _ j (by simp; omega), Below.heap_setCell _ _ _ j (by simp; omega), Below.heap_setCell _ _ _ j (by simp; omega), Below.heap_setCell _ _ _ j (by simp; omega)])⟩,
      grown_own (grown_own (grown_own (grown_own (grown_own h5 (grown_cell _ R 0 _) (fun b hb => by injection hb with hb; omega)) (grown_cell _ R 1 _) (fun b hb => by injection hb with hb; omega)) (grown_cell _ R 2 _) (fun b hb => by injection hb with hb; omega)) (grown_cell _ R 3 _) (fun b hb => by injection hb with hb; omega)) (grown_cell _ R 4 _) (fun b hb => by injection hb with hb; omega)⟩
  rw [hRR] at hR0 ⊢
  refine (pick_any g p _ _ hr0 (by omega) (by omega) (by omega)).mono ?_
  rintro e w1 ⟨k1, rfl, hk1, -, hr1, hg1, -⟩
  have hk1' : (k1 : Int) < 8 := hk1 (by omega)
  have hR1 := Box.grown hR0 hg1 (by simp; omega)
  have hG1 := grown_trans hG0 hg1
  have hRz1 := Box.lt hR1
  clear hk1 hr0 hg1 hR0 hG0
  by_cases c0 : k1 = 0
  · subst c0
    have hX2 : Box (w1.alloc (.cells #[.int .i64 1, .int .i64 0, .int .i64 0, .int .i64 0, .int .i64 0] 27)) w1.heap.size #[.int .i64 1, .int .i64 0, .int .i64 0, .int .i64 0, .int .i64 0] 27 := Box.new w1 _ _
    have hR2 := Box.alloc hR1 (.cells #[.int .i64 1, .int .i64 0, .int .i64 0, .int .i64 0, .int .i64 0] 27)
    have hG2 := grown_trans hG1 (World.grownBy_alloc w1 (.cells #[.int .i64 1, .int .i64 0, .int .i64 0, .int .i64 0, .int .i64 0] 27) (some g))
    have hr2 := hr1.alloc (.cells #[.int .i64 1, .int .i64 0, .int .i64 0, .int .i64 0, .int .i64 0] 27)
    obtain ⟨X, hXX, hXR⟩ : ∃ X, w1.heap.size = X ∧ R < X := ⟨_, rfl, hRz1⟩
    rw [hXX] at hX2
    clear hR1 hG1 hr1
    have HX2 := Lib.hid hX2
    have HR2 := Lib.hid hR2
    have HG2 := Lib.hid hG2
    have Hr2 := Lib.hid hr2
    clear hX2 hR2 hG2 hr2
    go_wp2_with fail
    try rw [hXX]
    have hX2 := HX2.out
    have hR2 := HR2.out
    have hG2 := HG2.out
    have hr2 := Hr2.out
    clear HX2 HR2 HG2 Hr2
    generalize w1.alloc (.cells #[.int .i64 1, .int .i64 0, .int .i64 0, .int .i64 0, .int .i64 0] 27) = w2 at *
    refine (pick_any g (p + 1) _ _ hr2 (by omega) (by omega) (by omega)).mono ?_
    rintro e w3 ⟨k3, rfl, hk3, -, hr3, hg3, -⟩
    have hk3' : (k3 : Int) < 3 := hk3 (by omega)
    have hX3 := Box.grown hX2 hg3 (by simp; omega)
    have hR3 := Box.grown hR2 hg3 (by simp; omega)
    have hG3 := grown_trans hG2 hg3
    clear hX2 hR2 hG2 hr2 hg3 hk3
    go_wp2_with fail
    refine (pick_any g (p + 1 + 1) _ _ hr3 (by omega) (by omega) (by omega)).mono ?_
    rintro e w4 ⟨k4, rfl, hk4, -, hr4, hg4, -⟩
    have hk4' : (k4 : Int) < 3 := hk4 (by omega)
    have hX4 := Box.grown hX3 hg4 (by simp; omega)
    have hR4 := Box.grown hR3 hg4 (by simp; omega)
    have hG4 := grown_trans hG3 hg4
    clear hX3 hR3 hG3 hr3 hg4 hk4
    go_wp2_with fail
    refine (pick_any g (p + 1 + 1 + 1) _ _ hr4 (by omega) (by omega) (by omega)).mono ?_
    rintro e w5 ⟨k5, rfl, hk5, -, hr5, hg5, -⟩
    have hk5' : (k5 : Int) < 4 := hk5 (by omega)
    have hX5 := Box.grown hX4 hg5 (by simp; omega)
    have hR5 := Box.grown hR4 hg5 (by simp; omega)
    have hG5 := grown_trans hG4 hg5
    clear hX4 hR4 hG4 hr4 hg5 hk5
    go_wp2_with fail
    refine (pick_any g (p + 1 + 1 + 1 + 1) _ _ hr5 (by omega) (by omega) (by omega)).mono ?_
    rintro e w6 ⟨k6, rfl, hk6, -, hr6, hg6, -⟩
    have hk6' : (k6 : Int) < 4 := hk6 (by omega)
    have hX6 := Box.grown hX5 hg6 (by simp; omega)
    have hR6 := Box.grown hR5 hg6 (by simp; omega)
    have hG6 := grown_trans hG5 hg6
    clear hX5 hR5 hG5 hr5 hg6 hk6
    have hX7 : OpAtB (((((w6.setCell ⟨X, 0, none⟩ (.int .i64 1)).setCell ⟨X, 1, none⟩ (.int .i64 (k3 : Int))).setCell ⟨X, 2, none⟩ (.int .i64 (k4 : Int))).setCell ⟨X, 3, none⟩ (.int .i64 (1 + (k5 : Int)))).setCell ⟨X, 4, none⟩ (.int .i64 (1 + (k6 : Int)))) X ⟨1, (k3 : Int), (k4 : Int), (1 + (k5 : Int)), (1 + (k6 : Int))⟩ := fin_op hX6 _ _ _ _ _
    have hR7 := Box.set_other (b := X) (Box.set_other (b := X) (Box.set_other (b := X) (Box.set_other (b := X) (Box.set_other (b := X) hR6 (by omega) 0 (.int .i64 1)) (by omega) 1 (.int .i64 (k3 : Int))) (by omega) 2 (.int .i64 (k4 : Int))) (by omega) 3 (.int .i64 (1 + (k5 : Int)))) (by omega) 4 (.int .i64 (1 + (k6 : Int)))
    have hG7 := grown_own (grown_own (grown_own (grown_own (grown_own hG6 (grown_cell _ X 0 (.int .i64 1)) (fun b hb => by injection hb with hb; omega)) (grown_cell _ X 1 (.int .i64 (k3 : Int))) (fun b hb => by injection hb with hb; omega)) (grown_cell _ X 2 (.int .i64 (k4 : Int))) (fun b hb => by injection hb with hb; omega)) (grown_cell _ X 3 (.int .i64 (1 + (k5 : Int)))) (fun b hb => by injection hb with hb; omega)) (grown_cell _ X 4 (.int .i64 (1 + (k6 : Int)))) (fun b hb => by injection hb with hb; omega)
    have hr7 : Rdr (((((w6.setCell ⟨X, 0, none⟩ (.int .i64 1)).setCell ⟨X, 1, none⟩ (.int .i64 (k3 : Int))).setCell ⟨X, 2, none⟩ (.int .i64 (k4 : Int))).setCell ⟨X, 3, none⟩ (.int .i64 (1 + (k5 : Int)))).setCell ⟨X, 4, none⟩ (.int .i64 (1 + (k6 : Int)))) g (p + 1 + 1 + 1 + 1 + 1) := hr6.kept (fun j hj => by
      have := hr6.lt
      rw [Below.heap_setCell _ _ _ j (by simp; omega), Below.heap_setCell _ _ _ j (by simp; omega), Below.heap_setCell _ _ _ j (by simp; omega), Below.heap_setCell _ _ _ j (by simp; omega), Below.heap_setCell _ _ _ j (by simp; omega)])
    have HX := Lib.hid hX7
    have HR := Lib.hid hR7
    have HG := Lib.hid hG7
    have Hr := Lib.hid hr7
    have x0 := Box.cell hX6 (i := 0) rfl
    have x1 := Box.cell hX6 (i := 1) rfl
    have x2 := Box.cell hX6 (i := 2) rfl
    have x3 := Box.cell hX6 (i := 3) rfl
    have x4 := Box.cell hX6 (i := 4) rfl
    have f0 := Box.free hX6 0
    have f1 := Box.free hX6 1
    have f2 := Box.free hX6 2
    have f3 := Box.free hX6 3
    have f4 := Box.free hX6 4
    clear hX7 hR7 hG7 hr7 hX6 hR6 hG6 hr6
    go_wp2_with fail
    have hX7 := HX.out
    have hR7 := HR.out
    have hG7 := HG.out
    have hr7 := Hr.out
    clear HX HR HG Hr x0 x1 x2 x3 x4 f0 f1 f2 f3 f4
    generalize (((((w6.setCell ⟨X, 0, none⟩ (.int .i64 1)).setCell ⟨X, 1, none⟩ (.int .i64 (k3 : Int))).setCell ⟨X, 2, none⟩ (.int .i64 (k4 : Int))).setCell ⟨X, 3, none⟩ (.int .i64 (1 + (k5 : Int)))).setCell ⟨X, 4, none⟩ (.int .i64 (1 + (k6 : Int)))) = w7 at *
    obtain ⟨o1, ho1⟩ : ∃ o1 : Op, ⟨1, (k3 : Int), (k4 : Int), (1 + (k5 : Int)), (1 + (k6 : Int))⟩ = o1 := ⟨_, rfl⟩
    rw [ho1] at hX7
    obtain ⟨p7, hp7, hp77⟩ : ∃ p7, p + 1 + 1 + 1 + 1 + 1 = p7 ∧ p7 ≤ p + 5 := ⟨_, rfl, by omega⟩
    rw [hp7] at hr7
    clear ho1
    refine (odd_any g p7 _ _ hr7 (by omega) hn hn2).mono ?_
    rintro e w8 ⟨bo, rfl, p8, hp8, hr8, hg8⟩
    have hX8 : OpAtB w8 X o1 := Box.grown hX7 hg8 (by simp; omega)
    have hR8 := Box.grown hR7 hg8 (by simp; omega)
    have hG8 := grown_trans hG7 hg8
    clear hX7 hR7 hG7 hr7 hg8
    cases bo
    · have HF := Lib.hid (FIN.out w8 o1 p8 hR8 trivial hr8 (by omega) hG8)
      obtain ⟨x0, x1, x2, x3, x4⟩ := hX8.cs
      have r0 := Box.cell hR8 (i := 0) rfl
      have r1 := Box.cell hR8 (i := 1) rfl
      have r2 := Box.cell hR8 (i := 2) rfl
      have r3 := Box.cell hR8 (i := 3) rfl
      have r4 := Box.cell hR8 (i := 4) rfl
      have f0 := Box.free hR8 0
      have f1 := Box.free hR8 1
      have f2 := Box.free hR8 2
      have f3 := Box.free hR8 3
      have f4 := Box.free hR8 4
      clear FIN hX8 hR8 hG8 hr8
      go_wp2_with fail
      (try simp only [Exit.inBlock, Exit.then])
      exact bodyPost_ret (results_cell_row rfl _ _ R 27 #[.int .i64 o1.k, .int .i64 o1.a, .int .i64 o1.b, .int .i64 o1.c, .int .i64 o1.d] (0, 0) _ rfl HF.out.1 Tryd.underlying27 rfl (by kernel_rfl)) rfl HF.out.2
    · go_wp2_with fail
      refine (pick_any g p8 _ _ hr8 (by omega) (by omega) (by omega)).mono ?_
      rintro e w9 ⟨k9, rfl, hk9, -, hr9, hg9, -⟩
      have hk9' : (k9 : Int) < 4 := hk9 (by omega)
      have hX9 : OpAtB w9 X o1 := Box.grown hX8 hg9 (by simp; omega)
      have hR9 := Box.grown hR8 hg9 (by simp; omega)
      have hG9 := grown_trans hG8 hg9
      have hz9 := hr9.lt
      have hXz := Box.lt hX9
      have hRz := Box.lt hR9
      clear hX8 hR8 hG8 hr8 hg9 hk9
      have h4 : k9 = 0 ∨ k9 = 1 ∨ k9 = 2 ∨ k9 = 3 := by omega
      rcases h4 with rfl | rfl | rfl | rfl
      · have hXa := Box.alloc hX9 (.cells #[.int .i64 0, .int .i64 9] 3)
        have hRa := Box.alloc hR9 (.cells #[.int .i64 0, .int .i64 9] 3)
        have hGa := grown_trans hG9 (World.grownBy_alloc w9 (.cells #[.int .i64 0, .int .i64 9] 3) (some g))
        have CP := Lib.hid (pick_any g (p8 + 1) 2 _ (hr9.alloc (.cells #[.int .i64 0, .int .i64 9] 3)) (by omega) (by omega) (by omega))
        clear hr9
        go_wp2_with fail
        refine CP.out.mono ?_
        rintro e wb ⟨j, rfl, hj, -, hrb, hgb, -⟩
        have hj2 : (j : Int) < 2 := hj (by omega)
        have hj3 : 0 ≤ (j : Int) ∧ (j : Int) < 2 := by omega
        obtain ⟨z, hz⟩ : ∃ z : Int, wb.cell? ⟨w9.heap.size, j, none⟩ = some (.int .i64 z) := by
          obtain ⟨s, e, _, _, ht⟩ := Slot.stays (tab_new (n := 2) (R := fun _ => True) (t := 3) #[.int .i64 0, .int .i64 9] hz9 (fun j hj => by
            match j, hj with
            | 0, _ => exact ⟨_, rfl, trivial⟩
            | 1, _ => exact ⟨_, rfl, trivial⟩)) hgb
          injection e with e1 _ _
          injection e1 with e1
          injection e1 with e1 _ _
          rw [e1]
          obtain ⟨z, hz, _⟩ := ht j (by omega)
          exact ⟨z, hz⟩
        have hXb : OpAtB wb X o1 := Box.grown hXa hgb (by simp; omega)
        have hRb := Box.grown hRa hgb (by simp; omega)
        have hGb := grown_trans hGa hgb
        have hXc : OpAtB (wb.setCell ⟨X, 0, none⟩ (.int .i64 z)) X ⟨z, o1.a, o1.b, o1.c, o1.d⟩ := Box.set hXb 0 _
        have hRc := Box.set_other (b := X) hRb (by omega) 0 (.int .i64 z)
        have hGc := grown_own hGb (grown_cell wb X 0 (.int .i64 z)) (fun b hb => by injection hb with hb; omega)
        have hrc : Rdr (wb.setCell ⟨X, 0, none⟩ (.int .i64 z)) g (p8 + 1 + 1) := hrb.kept (fun j hj => Below.heap_setCell wb _ _ j (by simp; omega))
        have HF := Lib.hid (FIN.out _ (⟨z, o1.a, o1.b, o1.c, o1.d⟩ : Op) _ hRc trivial hrc (by omega) hGc)
        obtain ⟨x0, x1, x2, x3, x4⟩ := hXb.cs
        have xf := Box.free hXb 0
        have r0 := Box.cell hRb (i := 0) rfl
        have r1 := Box.cell hRb (i := 1) rfl
        have r2 := Box.cell hRb (i := 2) rfl
        have r3 := Box.cell hRb (i := 3) rfl
        have r4 := Box.cell hRb (i := 4) rfl
        have f0 := Box.free hRb 0
        have f1 := Box.free hRb 1
        have f2 := Box.free hRb 2
        have f3 := Box.free hRb 3
        have f4 := Box.free hRb 4
        clear FIN hXa hRa hGa CP hXb hRb hGb hXc hRc hGc hrc hrb hgb hX9 hR9 hG9 hj
        go_wp2_with fail
        (try simp only [Exit.inBlock, Exit.then])
        exact bodyPost_ret (results_cell_row rfl _ _ R 27 #[.int .i64 z, .int .i64 o1.a, .int .i64 o1.b, .int .i64 o1.c, .int .i64 o1.d] (0, 0) _ rfl HF.out.1 Tryd.underlying27 rfl (by kernel_rfl)) rfl HF.out.2
      · have hXa := Box.alloc hX9 (.cells #[.int .i64 (-1), .int .i64 256] 3)
        have hRa := Box.alloc hR9 (.cells #[.int .i64 (-1), .int .i64 256] 3)
        have hGa := grown_trans hG9 (World.grownBy_alloc w9 (.cells #[.int .i64 (-1), .int .i64 256] 3) (some g))
        have CP := Lib.hid (pick_any g (p8 + 1) 2 _ (hr9.alloc (.cells #[.int .i64 (-1), .int .i64 256] 3)) (by omega) (by omega) (by omega))
        clear hr9
        go_wp2_with fail
        refine CP.out.mono ?_
        rintro e wb ⟨j, rfl, hj, -, hrb, hgb, -⟩
        have hj2 : (j : Int) < 2 := hj (by omega)
        have hj3 : 0 ≤ (j : Int) ∧ (j : Int) < 2 := by omega
        obtain ⟨z, hz⟩ : ∃ z : Int, wb.cell? ⟨w9.heap.size, j, none⟩ = some (.int .i64 z) := by
          obtain ⟨s, e, _, _, ht⟩ := Slot.stays (tab_new (n := 2) (R := fun _ => True) (t := 3) #[.int .i64 (-1), .int .i64 256] hz9 (fun j hj => by
            match j, hj with
            | 0, _ => exact ⟨_, rfl, trivial⟩
            | 1, _ => exact ⟨_, rfl, trivial⟩)) hgb
          injection e with e1 _ _
          injection e1 with e1
          injection e1 with e1 _ _
          rw [e1]
          obtain ⟨z, hz, _⟩ := ht j (by omega)
          exact ⟨z, hz⟩
        have hXb : OpAtB wb X o1 := Box.grown hXa hgb (by simp; omega)
        have hRb := Box.grown hRa hgb (by simp; omega)
        have hGb := grown_trans hGa hgb
        have hXc : OpAtB (wb.setCell ⟨X, 1, none⟩ (.int .i64 z)) X ⟨o1.k, z, o1.b, o1.c, o1.d⟩ := Box.set hXb 1 _
        have hRc := Box.set_other (b := X) hRb (by omega) 1 (.int .i64 z)
        have hGc := grown_own hGb (grown_cell wb X 1 (.int .i64 z)) (fun b hb => by injection hb with hb; omega)
        have hrc : Rdr (wb.setCell ⟨X, 1, none⟩ (.int .i64 z)) g (p8 + 1 + 1) := hrb.kept (fun j hj => Below.heap_setCell wb _ _ j (by simp; omega))
        have HF := Lib.hid (FIN.out _ (⟨o1.k, z, o1.b, o1.c, o1.d⟩ : Op) _ hRc trivial hrc (by omega) hGc)
        obtain ⟨x0, x1, x2, x3, x4⟩ := hXb.cs
        have xf := Box.free hXb 1
        have r0 := Box.cell hRb (i := 0) rfl
        have r1 := Box.cell hRb (i := 1) rfl
        have r2 := Box.cell hRb (i := 2) rfl
        have r3 := Box.cell hRb (i := 3) rfl
        have r4 := Box.cell hRb (i := 4) rfl
        have f0 := Box.free hRb 0
        have f1 := Box.free hRb 1
        have f2 := Box.free hRb 2
        have f3 := Box.free hRb 3
        have f4 := Box.free hRb 4
        clear FIN hXa hRa hGa CP hXb hRb hGb hXc hRc hGc hrc hrb hgb hX9 hR9 hG9 hj
        go_wp2_with fail
        (try simp only [Exit.inBlock, Exit.then])
        exact bodyPost_ret (results_cell_row rfl _ _ R 27 #[.int .i64 o1.k, .int .i64 z, .int .i64 o1.b, .int .i64 o1.c, .int .i64 o1.d] (0, 0) _ rfl HF.out.1 Tryd.underlying27 rfl (by kernel_rfl)) rfl HF.out.2
      · have hXa := Box.alloc hX9 (.cells #[.int .i64 (-1), .int .i64 256] 3)
        have hRa := Box.alloc hR9 (.cells #[.int .i64 (-1), .int .i64 256] 3)
        have hGa := grown_trans hG9 (World.grownBy_alloc w9 (.cells #[.int .i64 (-1), .int .i64 256] 3) (some g))
        have CP := Lib.hid (pick_any g (p8 + 1) 2 _ (hr9.alloc (.cells #[.int .i64 (-1), .int .i64 256] 3)) (by omega) (by omega) (by omega))
        clear hr9
        go_wp2_with fail
        refine CP.out.mono ?_
        rintro e wb ⟨j, rfl, hj, -, hrb, hgb, -⟩
        have hj2 : (j : Int) < 2 := hj (by omega)
        have hj3 : 0 ≤ (j : Int) ∧ (j : Int) < 2 := by omega
        obtain ⟨z, hz⟩ : ∃ z : Int, wb.cell? ⟨w9.heap.size, j, none⟩ = some (.int .i64 z) := by
          obtain ⟨s, e, _, _, ht⟩ := Slot.stays (tab_new (n := 2) (R := fun _ => True) (t := 3) #[.int .i64 (-1), .int .i64 256] hz9 (fun j hj => by
            match j, hj with
            | 0, _ => exact ⟨_, rfl, trivial⟩
            | 1, _ => exact ⟨_, rfl, trivial⟩)) hgb
          injection e with e1 _ _
          injection e1 with e1
          injection e1 with e1 _ _
          rw [e1]
          obtain ⟨z, hz, _⟩ := ht j (by omega)
          exact ⟨z, hz⟩
        have hXb : OpAtB wb X o1 := Box.grown hXa hgb (by simp; omega)
        have hRb := Box.grown hRa hgb (by simp; omega)
        have hGb := grown_trans hGa hgb
        have hXc : OpAtB (wb.setCell ⟨X, 3, none⟩ (.int .i64 z)) X ⟨o1.k, o1.a, o1.b, z, o1.d⟩ := Box.set hXb 3 _
        have hRc := Box.set_other (b := X) hRb (by omega) 3 (.int .i64 z)
        have hGc := grown_own hGb (grown_cell wb X 3 (.int .i64 z)) (fun b hb => by injection hb with hb; omega)
        have hrc : Rdr (wb.setCell ⟨X, 3, none⟩ (.int .i64 z)) g (p8 + 1 + 1) := hrb.kept (fun j hj => Below.heap_setCell wb _ _ j (by simp; omega))
        have HF := Lib.hid (FIN.out _ (⟨o1.k, o1.a, o1.b, z, o1.d⟩ : Op) _ hRc trivial hrc (by omega) hGc)
        obtain ⟨x0, x1, x2, x3, x4⟩ := hXb.cs
        have xf := Box.free hXb 3
        have r0 := Box.cell hRb (i := 0) rfl
        have r1 := Box.cell hRb (i := 1) rfl
        have r2 := Box.cell hRb (i := 2) rfl
        have r3 := Box.cell hRb (i := 3) rfl
        have r4 := Box.cell hRb (i := 4) rfl
        have f0 := Box.free hRb 0
        have f1 := Box.free hRb 1
        have f2 := Box.free hRb 2
        have f3 := Box.free hRb 3
        have f4 := Box.free hRb 4
        clear FIN hXa hRa hGa CP hXb hRb hGb hXc hRc hGc hrc hrb hgb hX9 hR9 hG9 hj
        go_wp2_with fail
        (try simp only [Exit.inBlock, Exit.then])
        exact bodyPost_ret (results_cell_row rfl _ _ R 27 #[.int .i64 o1.k, .int .i64 o1.a, .int .i64 o1.b, .int .i64 z, .int .i64 o1.d] (0, 0) _ rfl HF.out.1 Tryd.underlying27 rfl (by kernel_rfl)) rfl HF.out.2
      · have hXa := Box.alloc hX9 (.cells #[.int .i64 1, .int .i64 7] 3)
        have hRa := Box.alloc hR9 (.cells #[.int .i64 1, .int .i64 7] 3)
        have hGa := grown_trans hG9 (World.grownBy_alloc w9 (.cells #[.int .i64 1, .int .i64 7] 3) (some g))
        have CP := Lib.hid (pick_any g (p8 + 1) 2 _ (hr9.alloc (.cells #[.int .i64 1, .int .i64 7] 3)) (by omega) (by omega) (by omega))
        clear hr9
        go_wp2_with fail
        refine CP.out.mono ?_
        rintro e wb ⟨j, rfl, hj, -, hrb, hgb, -⟩
        have hj2 : (j : Int) < 2 := hj (by omega)
        have hj3 : 0 ≤ (j : Int) ∧ (j : Int) < 2 := by omega
        obtain ⟨z, hz⟩ : ∃ z : Int, wb.cell? ⟨w9.heap.size, j, none⟩ = some (.int .i64 z) := by
          obtain ⟨s, e, _, _, ht⟩ := Slot.stays (tab_new (n := 2) (R := fun _ => True) (t := 3) #[.int .i64 1, .int .i64 7] hz9 (fun j hj => by
            match j, hj with
            | 0, _ => exact ⟨_, rfl, trivial⟩
            | 1, _ => exact ⟨_, rfl, trivial⟩)) hgb
          injection e with e1 _ _
          injection e1 with e1
          injection e1 with e1 _ _
          rw [e1]
          obtain ⟨z, hz, _⟩ := ht j (by omega)
          exact ⟨z, hz⟩
        have hXb : OpAtB wb X o1 := Box.grown hXa hgb (by simp; omega)
        have hRb := Box.grown hRa hgb (by simp; omega)
        have hGb := grown_trans hGa hgb
        have hXc : OpAtB (wb.setCell ⟨X, 4, none⟩ (.int .i64 z)) X ⟨o1.k, o1.a, o1.b, o1.c, z⟩ := Box.set hXb 4 _
        have hRc := Box.set_other (b := X) hRb (by omega) 4 (.int .i64 z)
        have hGc := grown_own hGb (grown_cell wb X 4 (.int .i64 z)) (fun b hb => by injection hb with hb; omega)
        have hrc : Rdr (wb.setCell ⟨X, 4, none⟩ (.int .i64 z)) g (p8 + 1 + 1) := hrb.kept (fun j hj => Below.heap_setCell wb _ _ j (by simp; omega))
        have HF := Lib.hid (FIN.out _ (⟨o1.k, o1.a, o1.b, o1.c, z⟩ : Op) _ hRc trivial hrc (by omega) hGc)
        obtain ⟨x0, x1, x2, x3, x4⟩ := hXb.cs
        have xf := Box.free hXb 4
        have r0 := Box.cell hRb (i := 0) rfl
        have r1 := Box.cell hRb (i := 1) rfl
        have r2 := Box.cell hRb (i := 2) rfl
        have r3 := Box.cell hRb (i := 3) rfl
        have r4 := Box.cell hRb (i := 4) rfl
        have f0 := Box.free hRb 0
        have f1 := Box.free hRb 1
        have f2 := Box.free hRb 2
        have f3 := Box.free hRb 3
        have f4 := Box.free hRb 4
        clear FIN hXa hRa hGa CP hXb hRb hGb hXc hRc hGc hrc hrb hgb hX9 hR9 hG9 hj
        go_wp2_with fail
        (try simp only [Exit.inBlock, Exit.then])
        exact bodyPost_ret (results_cell_row rfl _ _ R 27 #[.int .i64 o1.k, .int .i64 o1.a, .int .i64 o1.b, .int .i64 o1.c, .int .i64 z] (0, 0) _ rfl HF.out.1 Tryd.underlying27 rfl (by kernel_rfl)) rfl HF.out.2
  by_cases c6 : k1 = 6
  · subst c6
    clear c0
    have hX2 : Box (w1.alloc (.cells #[.int .i64 7, .int .i64 0, .int .i64 0, .int .i64 0, .int .i64 0] 27)) w1.heap.size #[.int .i64 7, .int .i64 0, .int .i64 0, .int .i64 0, .int .i64 0] 27 := Box.new w1 _ _
    have hR2 := Box.alloc hR1 (.cells #[.int .i64 7, .int .i64 0, .int .i64 0, .int .i64 0, .int .i64 0] 27)
    have hG2 := grown_trans hG1 (World.grownBy_alloc w1 (.cells #[.int .i64 7, .int .i64 0, .int .i64 0, .int .i64 0, .int .i64 0] 27) (some g))
    have hr2 := hr1.alloc (.cells #[.int .i64 7, .int .i64 0, .int .i64 0, .int .i64 0, .int .i64 0] 27)
    obtain ⟨X, hXX, hXR⟩ : ∃ X, w1.heap.size = X ∧ R < X := ⟨_, rfl, hRz1⟩
    rw [hXX] at hX2
    clear hR1 hG1 hr1
    have HX2 := Lib.hid hX2
    have HR2 := Lib.hid hR2
    have HG2 := Lib.hid hG2
    have Hr2 := Lib.hid hr2
    clear hX2 hR2 hG2 hr2
    go_wp2_with fail
    try rw [hXX]
    have hX2 := HX2.out
    have hR2 := HR2.out
    have hG2 := HG2.out
    have hr2 := Hr2.out
    clear HX2 HR2 HG2 Hr2
    generalize w1.alloc (.cells #[.int .i64 7, .int .i64 0, .int .i64 0, .int .i64 0, .int .i64 0] 27) = w2 at *
    refine (pick_any g (p + 1) _ _ hr2 (by omega) (by omega) (by omega)).mono ?_
    rintro e w3 ⟨k3, rfl, hk3, -, hr3, hg3, -⟩
    have hk3' : (k3 : Int) < 6 := hk3 (by omega)
    have hX3 := Box.grown hX2 hg3 (by simp; omega)
    have hR3 := Box.grown hR2 hg3 (by simp; omega)
    have hG3 := grown_trans hG2 hg3
    clear hX2 hR2 hG2 hr2 hg3 hk3
    go_wp2_with fail
    refine (pick_any g (p + 1 + 1) _ _ hr3 (by omega) (by omega) (by omega)).mono ?_
    rintro e w4 ⟨k4, rfl, hk4, -, hr4, hg4, -⟩
    have hk4' : (k4 : Int) < 6 := hk4 (by omega)
    have hX4 := Box.grown hX3 hg4 (by simp; omega)
    have hR4 := Box.grown hR3 hg4 (by simp; omega)
    have hG4 := grown_trans hG3 hg4
    clear hX3 hR3 hG3 hr3 hg4 hk4
    have hX7 : OpAtB (((((w4.setCell ⟨X, 0, none⟩ (.int .i64 7)).setCell ⟨X, 1, none⟩ (.int .i64 (1 + (k3 : Int)))).setCell ⟨X, 2, none⟩ (.int .i64 (1 + (k4 : Int)))).setCell ⟨X, 3, none⟩ (.int .i64 0)).setCell ⟨X, 4, none⟩ (.int .i64 0)) X ⟨7, (1 + (k3 : Int)), (1 + (k4 : Int)), 0, 0⟩ := fin_op hX4 _ _ _ _ _
    have hR7 := Box.set_other (b := X) (Box.set_other (b := X) (Box.set_other (b := X) (Box.set_other (b := X) (Box.set_other (b := X) hR4 (by omega) 0 (.int .i64 7)) (by omega) 1 (.int .i64 (1 + (k3 : Int)))) (by omega) 2 (.int .i64 (1 + (k4 : Int)))) (by omega) 3 (.int .i64 0)) (by omega) 4 (.int .i64 0)
    have hG7 := grown_own (grown_own (grown_own (grown_own (grown_own hG4 (grown_cell _ X 0 (.int .i64 7)) (fun b hb => by injection hb with hb; omega)) (grown_cell _ X 1 (.int .i64 (1 + (k3 : Int)))) (fun b hb => by injection hb with hb; omega)) (grown_cell _ X 2 (.int .i64 (1 + (k4 : Int)))) (fun b hb => by injection hb with hb; omega)) (grown_cell _ X 3 (.int .i64 0)) (fun b hb => by injection hb with hb; omega)) (grown_cell _ X 4 (.int .i64 0)) (fun b hb => by injection hb with hb; omega)
    have hr7 : Rdr (((((w4.setCell ⟨X, 0, none⟩ (.int .i64 7)).setCell ⟨X, 1, none⟩ (.int .i64 (1 + (k3 : Int)))).setCell ⟨X, 2, none⟩ (.int .i64 (1 + (k4 : Int)))).setCell ⟨X, 3, none⟩ (.int .i64 0)).setCell ⟨X, 4, none⟩ (.int .i64 0)) g (p + 1 + 1 + 1) := hr4.kept (fun j hj => by
      have := hr4.lt
      rw [Below.heap_setCell _ _ _ j (by simp; omega), Below.heap_setCell _ _ _ j (by simp; omega), Below.heap_setCell _ _ _ j (by simp; omega), Below.heap_setCell _ _ _ j (by simp; omega), Below.heap_setCell _ _ _ j (by simp; omega)])
    have HX := Lib.hid hX7
    have HR := Lib.hid hR7
    have HG := Lib.hid hG7
    have Hr := Lib.hid hr7
    have x0 := Box.cell hX4 (i := 0) rfl
    have x1 := Box.cell hX4 (i := 1) rfl
    have x2 := Box.cell hX4 (i := 2) rfl
    have x3 := Box.cell hX4 (i := 3) rfl
    have x4 := Box.cell hX4 (i := 4) rfl
    have f0 := Box.free hX4 0
    have f1 := Box.free hX4 1
    have f2 := Box.free hX4 2
    have f3 := Box.free hX4 3
    have f4 := Box.free hX4 4
    clear hX7 hR7 hG7 hr7 hX4 hR4 hG4 hr4
    go_wp2_with fail
    have hX7 := HX.out
    have hR7 := HR.out
    have hG7 := HG.out
    have hr7 := Hr.out
    clear HX HR HG Hr x0 x1 x2 x3 x4 f0 f1 f2 f3 f4
    generalize (((((w4.setCell ⟨X, 0, none⟩ (.int .i64 7)).setCell ⟨X, 1, none⟩ (.int .i64 (1 + (k3 : Int)))).setCell ⟨X, 2, none⟩ (.int .i64 (1 + (k4 : Int)))).setCell ⟨X, 3, none⟩ (.int .i64 0)).setCell ⟨X, 4, none⟩ (.int .i64 0)) = w7 at *
    obtain ⟨o1, ho1⟩ : ∃ o1 : Op, ⟨7, (1 + (k3 : Int)), (1 + (k4 : Int)), 0, 0⟩ = o1 := ⟨_, rfl⟩
    rw [ho1] at hX7
    obtain ⟨p7, hp7, hp77⟩ : ∃ p7, p + 1 + 1 + 1 = p7 ∧ p7 ≤ p + 5 := ⟨_, rfl, by omega⟩
    rw [hp7] at hr7
    clear ho1
    refine (odd_any g p7 _ _ hr7 (by omega) hn hn2).mono ?_
    rintro e w8 ⟨bo, rfl, p8, hp8, hr8, hg8⟩
    have hX8 : OpAtB w8 X o1 := Box.grown hX7 hg8 (by simp; omega)
    have hR8 := Box.grown hR7 hg8 (by simp; omega)
    have hG8 := grown_trans hG7 hg8
    clear hX7 hR7 hG7 hr7 hg8
    cases bo
    · have HF := Lib.hid (FIN.out w8 o1 p8 hR8 trivial hr8 (by omega) hG8)
      obtain ⟨x0, x1, x2, x3, x4⟩ := hX8.cs
      have r0 := Box.cell hR8 (i := 0) rfl
      have r1 := Box.cell hR8 (i := 1) rfl
      have r2 := Box.cell hR8 (i := 2) rfl
      have r3 := Box.cell hR8 (i := 3) rfl
      have r4 := Box.cell hR8 (i := 4) rfl
      have f0 := Box.free hR8 0
      have f1 := Box.free hR8 1
      have f2 := Box.free hR8 2
      have f3 := Box.free hR8 3
      have f4 := Box.free hR8 4
      clear FIN hX8 hR8 hG8 hr8
      go_wp2_with fail
      (try simp only [Exit.inBlock, Exit.then])
      exact bodyPost_ret (results_cell_row rfl _ _ R 27 #[.int .i64 o1.k, .int .i64 o1.a, .int .i64 o1.b, .int .i64 o1.c, .int .i64 o1.d] (0, 0) _ rfl HF.out.1 Tryd.underlying27 rfl (by kernel_rfl)) rfl HF.out.2
    · go_wp2_with fail
      refine (pick_any g p8 _ _ hr8 (by omega) (by omega) (by omega)).mono ?_
      rintro e w9 ⟨k9, rfl, hk9, -, hr9, hg9, -⟩
      have hk9' : (k9 : Int) < 4 := hk9 (by omega)
      have hX9 : OpAtB w9 X o1 := Box.grown hX8 hg9 (by simp; omega)
      have hR9 := Box.grown hR8 hg9 (by simp; omega)
      have hG9 := grown_trans hG8 hg9
      have hz9 := hr9.lt
      have hXz := Box.lt hX9
      have hRz := Box.lt hR9
      clear hX8 hR8 hG8 hr8 hg9 hk9
      have h4 : k9 = 0 ∨ k9 = 1 ∨ k9 = 2 ∨ k9 = 3 := by omega
      rcases h4 with rfl | rfl | rfl | rfl
      · have hXa := Box.alloc hX9 (.cells #[.int .i64 0, .int .i64 9] 3)
        have hRa := Box.alloc hR9 (.cells #[.int .i64 0, .int .i64 9] 3)
        have hGa := grown_trans hG9 (World.grownBy_alloc w9 (.cells #[.int .i64 0, .int .i64 9] 3) (some g))
        have CP := Lib.hid (pick_any g (p8 + 1) 2 _ (hr9.alloc (.cells #[.int .i64 0, .int .i64 9] 3)) (by omega) (by omega) (by omega))
        clear hr9
        go_wp2_with fail
        refine CP.out.mono ?_
        rintro e wb ⟨j, rfl, hj, -, hrb, hgb, -⟩
        have hj2 : (j : Int) < 2 := hj (by omega)
        have hj3 : 0 ≤ (j : Int) ∧ (j : Int) < 2 := by omega
        obtain ⟨z, hz⟩ : ∃ z : Int, wb.cell? ⟨w9.heap.size, j, none⟩ = some (.int .i64 z) := by
          obtain ⟨s, e, _, _, ht⟩ := Slot.stays (tab_new (n := 2) (R := fun _ => True) (t := 3) #[.int .i64 0, .int .i64 9] hz9 (fun j hj => by
            match j, hj with
            | 0, _ => exact ⟨_, rfl, trivial⟩
            | 1, _ => exact ⟨_, rfl, trivial⟩)) hgb
          injection e with e1 _ _
          injection e1 with e1
          injection e1 with e1 _ _
          rw [e1]
          obtain ⟨z, hz, _⟩ := ht j (by omega)
          exact ⟨z, hz⟩
        have hXb : OpAtB wb X o1 := Box.grown hXa hgb (by simp; omega)
        have hRb := Box.grown hRa hgb (by simp; omega)
        have hGb := grown_trans hGa hgb
        have hXc : OpAtB (wb.setCell ⟨X, 0, none⟩ (.int .i64 z)) X ⟨z, o1.a, o1.b, o1.c, o1.d⟩ := Box.set hXb 0 _
        have hRc := Box.set_other (b := X) hRb (by omega) 0 (.int .i64 z)
        have hGc := grown_own hGb (grown_cell wb X 0 (.int .i64 z)) (fun b hb => by injection hb with hb; omega)
        have hrc : Rdr (wb.setCell ⟨X, 0, none⟩ (.int .i64 z)) g (p8 + 1 + 1) := hrb.kept (fun j hj => Below.heap_setCell wb _ _ j (by simp; omega))
        have HF := Lib.hid (FIN.out _ (⟨z, o1.a, o1.b, o1.c, o1.d⟩ : Op) _ hRc trivial hrc (by omega) hGc)
        obtain ⟨x0, x1, x2, x3, x4⟩ := hXb.cs
        have xf := Box.free hXb 0
        have r0 := Box.cell hRb (i := 0) rfl
        have r1 := Box.cell hRb (i := 1) rfl
        have r2 := Box.cell hRb (i := 2) rfl
        have r3 := Box.cell hRb (i := 3) rfl
        have r4 := Box.cell hRb (i := 4) rfl
        have f0 := Box.free hRb 0
        have f1 := Box.free hRb 1
        have f2 := Box.free hRb 2
        have f3 := Box.free hRb 3
        have f4 := Box.free hRb 4
        clear FIN hXa hRa hGa CP hXb hRb hGb hXc hRc hGc hrc hrb hgb hX9 hR9 hG9 hj
        go_wp2_with fail
        (try simp only [Exit.inBlock, Exit.then])
        exact bodyPost_ret (results_cell_row rfl _ _ R 27 #[.int .i64 z, .int .i64 o1.a, .int .i64 o1.b, .int .i64 o1.c, .int .i64 o1.d] (0, 0) _ rfl HF.out.1 Tryd.underlying27 rfl (by kernel_rfl)) rfl HF.out.2
      · have hXa := Box.alloc hX9 (.cells #[.int .i64 (-1), .int .i64 256] 3)
        have hRa := Box.alloc hR9 (.cells #[.int .i64 (-1), .int .i64 256] 3)
        have hGa := grown_trans hG9 (World.grownBy_alloc w9 (.cells #[.int .i64 (-1), .int .i64 256] 3) (some g))
        have CP := Lib.hid (pick_any g (p8 + 1) 2 _ (hr9.alloc (.cells #[.int .i64 (-1), .int .i64 256] 3)) (by omega) (by omega) (by omega))
        clear hr9
        go_wp2_with fail
        refine CP.out.mono ?_
        rintro e wb ⟨j, rfl, hj, -, hrb, hgb, -⟩
        have hj2 : (j : Int) < 2 := hj (by omega)
        have hj3 : 0 ≤ (j : Int) ∧ (j : Int) < 2 := by omega
        obtain ⟨z, hz⟩ : ∃ z : Int, wb.cell? ⟨w9.heap.size, j, none⟩ = some (.int .i64 z) := by
          obtain ⟨s, e, _, _, ht⟩ := Slot.stays (tab_new (n := 2) (R := fun _ => True) (t := 3) #[.int .i64 (-1), .int .i64 256] hz9 (fun j hj => by
            match j, hj with
            | 0, _ => exact ⟨_, rfl, trivial⟩
            | 1, _ => exact ⟨_, rfl, trivial⟩)) hgb
          injection e with e1 _ _
          injection e1 with e1
          injection e1 with e1 _ _
          rw [e1]
          obtain ⟨z, hz, _⟩ := ht j (by omega)
          exact ⟨z, hz⟩
        have hXb : OpAtB wb X o1 := Box.grown hXa hgb (by simp; omega)
        have hRb := Box.grown hRa hgb (by simp; omega)
        have hGb := grown_trans hGa hgb
        have hXc : OpAtB (wb.setCell ⟨X, 1, none⟩ (.int .i64 z)) X ⟨o1.k, z, o1.b, o1.c, o1.d⟩ := Box.set hXb 1 _
        have hRc := Box.set_other (b := X) hRb (by omega) 1 (.int .i64 z)
        have hGc := grown_own hGb (grown_cell wb X 1 (.int .i64 z)) (fun b hb => by injection hb with hb; omega)
        have hrc : Rdr (wb.setCell ⟨X, 1, none⟩ (.int .i64 z)) g (p8 + 1 + 1) := hrb.kept (fun j hj => Below.heap_setCell wb _ _ j (by simp; omega))
        have HF := Lib.hid (FIN.out _ (⟨o1.k, z, o1.b, o1.c, o1.d⟩ : Op) _ hRc trivial hrc (by omega) hGc)
        obtain ⟨x0, x1, x2, x3, x4⟩ := hXb.cs
        have xf := Box.free hXb 1
        have r0 := Box.cell hRb (i := 0) rfl
        have r1 := Box.cell hRb (i := 1) rfl
        have r2 := Box.cell hRb (i := 2) rfl
        have r3 := Box.cell hRb (i := 3) rfl
        have r4 := Box.cell hRb (i := 4) rfl
        have f0 := Box.free hRb 0
        have f1 := Box.free hRb 1
        have f2 := Box.free hRb 2
        have f3 := Box.free hRb 3
        have f4 := Box.free hRb 4
        clear FIN hXa hRa hGa CP hXb hRb hGb hXc hRc hGc hrc hrb hgb hX9 hR9 hG9 hj
        go_wp2_with fail
        (try simp only [Exit.inBlock, Exit.then])
        exact bodyPost_ret (results_cell_row rfl _ _ R 27 #[.int .i64 o1.k, .int .i64 z, .int .i64 o1.b, .int .i64 o1.c, .int .i64 o1.d] (0, 0) _ rfl HF.out.1 Tryd.underlying27 rfl (by kernel_rfl)) rfl HF.out.2
      · have hXa := Box.alloc hX9 (.cells #[.int .i64 (-1), .int .i64 256] 3)
        have hRa := Box.alloc hR9 (.cells #[.int .i64 (-1), .int .i64 256] 3)
        have hGa := grown_trans hG9 (World.grownBy_alloc w9 (.cells #[.int .i64 (-1), .int .i64 256] 3) (some g))
        have CP := Lib.hid (pick_any g (p8 + 1) 2 _ (hr9.alloc (.cells #[.int .i64 (-1), .int .i64 256] 3)) (by omega) (by omega) (by omega))
        clear hr9
        go_wp2_with fail
        refine CP.out.mono ?_
        rintro e wb ⟨j, rfl, hj, -, hrb, hgb, -⟩
        have hj2 : (j : Int) < 2 := hj (by omega)
        have hj3 : 0 ≤ (j : Int) ∧ (j : Int) < 2 := by omega
        obtain ⟨z, hz⟩ : ∃ z : Int, wb.cell? ⟨w9.heap.size, j, none⟩ = some (.int .i64 z) := by
          obtain ⟨s, e, _, _, ht⟩ := Slot.stays (tab_new (n := 2) (R := fun _ => True) (t := 3) #[.int .i64 (-1), .int .i64 256] hz9 (fun j hj => by
            match j, hj with
            | 0, _ => exact ⟨_, rfl, trivial⟩
            | 1, _ => exact ⟨_, rfl, trivial⟩)) hgb
          injection e with e1 _ _
          injection e1 with e1
          injection e1 with e1 _ _
          rw [e1]
          obtain ⟨z, hz, _⟩ := ht j (by omega)
          exact ⟨z, hz⟩
        have hXb : OpAtB wb X o1 := Box.grown hXa hgb (by simp; omega)
        have hRb := Box.grown hRa hgb (by simp; omega)
        have hGb := grown_trans hGa hgb
        have hXc : OpAtB (wb.setCell ⟨X, 3, none⟩ (.int .i64 z)) X ⟨o1.k, o1.a, o1.b, z, o1.d⟩ := Box.set hXb 3 _
        have hRc := Box.set_other (b := X) hRb (by omega) 3 (.int .i64 z)
        have hGc := grown_own hGb (grown_cell wb X 3 (.int .i64 z)) (fun b hb => by injection hb with hb; omega)
        have hrc : Rdr (wb.setCell ⟨X, 3, none⟩ (.int .i64 z)) g (p8 + 1 + 1) := hrb.kept (fun j hj => Below.heap_setCell wb _ _ j (by simp; omega))
        have HF := Lib.hid (FIN.out _ (⟨o1.k, o1.a, o1.b, z, o1.d⟩ : Op) _ hRc trivial hrc (by omega) hGc)
        obtain ⟨x0, x1, x2, x3, x4⟩ := hXb.cs
        have xf := Box.free hXb 3
        have r0 := Box.cell hRb (i := 0) rfl
        have r1 := Box.cell hRb (i := 1) rfl
        have r2 := Box.cell hRb (i := 2) rfl
        have r3 := Box.cell hRb (i := 3) rfl
        have r4 := Box.cell hRb (i := 4) rfl
        have f0 := Box.free hRb 0
        have f1 := Box.free hRb 1
        have f2 := Box.free hRb 2
        have f3 := Box.free hRb 3
        have f4 := Box.free hRb 4
        clear FIN hXa hRa hGa CP hXb hRb hGb hXc hRc hGc hrc hrb hgb hX9 hR9 hG9 hj
        go_wp2_with fail
        (try simp only [Exit.inBlock, Exit.then])
        exact bodyPost_ret (results_cell_row rfl _ _ R 27 #[.int .i64 o1.k, .int .i64 o1.a, .int .i64 o1.b, .int .i64 z, .int .i64 o1.d] (0, 0) _ rfl HF.out.1 Tryd.underlying27 rfl (by kernel_rfl)) rfl HF.out.2
      · have hXa := Box.alloc hX9 (.cells #[.int .i64 1, .int .i64 7] 3)
        have hRa := Box.alloc hR9 (.cells #[.int .i64 1, .int .i64 7] 3)
        have hGa := grown_trans hG9 (World.grownBy_alloc w9 (.cells #[.int .i64 1, .int .i64 7] 3) (some g))
        have CP := Lib.hid (pick_any g (p8 + 1) 2 _ (hr9.alloc (.cells #[.int .i64 1, .int .i64 7] 3)) (by omega) (by omega) (by omega))
        clear hr9
        go_wp2_with fail
        refine CP.out.mono ?_
        rintro e wb ⟨j, rfl, hj, -, hrb, hgb, -⟩
        have hj2 : (j : Int) < 2 := hj (by omega)
        have hj3 : 0 ≤ (j : Int) ∧ (j : Int) < 2 := by omega
        obtain ⟨z, hz⟩ : ∃ z : Int, wb.cell? ⟨w9.heap.size, j, none⟩ = some (.int .i64 z) := by
          obtain ⟨s, e, _, _, ht⟩ := Slot.stays (tab_new (n := 2) (R := fun _ => True) (t := 3) #[.int .i64 1, .int .i64 7] hz9 (fun j hj => by
            match j, hj with
            | 0, _ => exact ⟨_, rfl, trivial⟩
            | 1, _ => exact ⟨_, rfl, trivial⟩)) hgb
          injection e with e1 _ _
          injection e1 with e1
          injection e1 with e1 _ _
          rw [e1]
          obtain ⟨z, hz, _⟩ := ht j (by omega)
          exact ⟨z, hz⟩
        have hXb : OpAtB wb X o1 := Box.grown hXa hgb (by simp; omega)
        have hRb := Box.grown hRa hgb (by simp; omega)
        have hGb := grown_trans hGa hgb
        have hXc : OpAtB (wb.setCell ⟨X, 4, none⟩ (.int .i64 z)) X ⟨o1.k, o1.a, o1.b, o1.c, z⟩ := Box.set hXb 4 _
        have hRc := Box.set_other (b := X) hRb (by omega) 4 (.int .i64 z)
        have hGc := grown_own hGb (grown_cell wb X 4 (.int .i64 z)) (fun b hb => by injection hb with hb; omega)
        have hrc : Rdr (wb.setCell ⟨X, 4, none⟩ (.int .i64 z)) g (p8 + 1 + 1) := hrb.kept (fun j hj => Below.heap_setCell wb _ _ j (by simp; omega))
        have HF := Lib.hid (FIN.out _ (⟨o1.k, o1.a, o1.b, o1.c, z⟩ : Op) _ hRc trivial hrc (by omega) hGc)
        obtain ⟨x0, x1, x2, x3, x4⟩ := hXb.cs
        have xf := Box.free hXb 4
        have r0 := Box.cell hRb (i := 0) rfl
        have r1 := Box.cell hRb (i := 1) rfl
        have r2 := Box.cell hRb (i := 2) rfl
        have r3 := Box.cell hRb (i := 3) rfl
        have r4 := Box.cell hRb (i := 4) rfl
        have f0 := Box.free hRb 0
        have f1 := Box.free hRb 1
        have f2 := Box.free hRb 2
        have f3 := Box.free hRb 3
        have f4 := Box.free hRb 4
        clear FIN hXa hRa hGa CP hXb hRb hGb hXc hRc hGc hrc hrb hgb hX9 hR9 hG9 hj
        go_wp2_with fail
        (try simp only [Exit.inBlock, Exit.then])
        exact bodyPost_ret (results_cell_row rfl _ _ R 27 #[.int .i64 o1.k, .int .i64 o1.a, .int .i64 o1.b, .int .i64 o1.c, .int .i64 z] (0, 0) _ rfl HF.out.1 Tryd.underlying27 rfl (by kernel_rfl)) rfl HF.out.2
  by_cases c7 : k1 = 7
  · subst c7
    clear c0 c6
    have hX2 : Box (w1.alloc (.cells #[.int .i64 8, .int .i64 0, .int .i64 0, .int .i64 0, .int .i64 0] 27)) w1.heap.size #[.int .i64 8, .int .i64 0, .int .i64 0, .int .i64 0, .int .i64 0] 27 := Box.new w1 _ _
    have hR2 := Box.alloc hR1 (.cells #[.int .i64 8, .int .i64 0, .int .i64 0, .int .i64 0, .int .i64 0] 27)
    have hG2 := grown_trans hG1 (World.grownBy_alloc w1 (.cells #[.int .i64 8, .int .i64 0, .int .i64 0, .int .i64 0, .int .i64 0] 27) (some g))
    have hr2 := hr1.alloc (.cells #[.int .i64 8, .int .i64 0, .int .i64 0, .int .i64 0, .int .i64 0] 27)
    obtain ⟨X, hXX, hXR⟩ : ∃ X, w1.heap.size = X ∧ R < X := ⟨_, rfl, hRz1⟩
    rw [hXX] at hX2
    clear hR1 hG1 hr1
    have HX2 := Lib.hid hX2
    have HR2 := Lib.hid hR2
    have HG2 := Lib.hid hG2
    have Hr2 := Lib.hid hr2
    clear hX2 hR2 hG2 hr2
    go_wp2_with fail
    try rw [hXX]
    have hX2 := HX2.out
    have hR2 := HR2.out
    have hG2 := HG2.out
    have hr2 := Hr2.out
    clear HX2 HR2 HG2 Hr2
    generalize w1.alloc (.cells #[.int .i64 8, .int .i64 0, .int .i64 0, .int .i64 0, .int .i64 0] 27) = w2 at *
    refine (pick_any g (p + 1) _ _ hr2 (by omega) (by omega) (by omega)).mono ?_
    rintro e w3 ⟨k3, rfl, hk3, -, hr3, hg3, -⟩
    have hk3' : (k3 : Int) < 256 := hk3 (by omega)
    have hX3 := Box.grown hX2 hg3 (by simp; omega)
    have hR3 := Box.grown hR2 hg3 (by simp; omega)
    have hG3 := grown_trans hG2 hg3
    clear hX2 hR2 hG2 hr2 hg3 hk3
    go_wp2_with fail
    refine (pick_any g (p + 1 + 1) _ _ hr3 (by omega) (by omega) (by omega)).mono ?_
    rintro e w4 ⟨k4, rfl, hk4, -, hr4, hg4, -⟩
    have hk4' : (k4 : Int) < 256 := hk4 (by omega)
    have hX4 := Box.grown hX3 hg4 (by simp; omega)
    have hR4 := Box.grown hR3 hg4 (by simp; omega)
    have hG4 := grown_trans hG3 hg4
    clear hX3 hR3 hG3 hr3 hg4 hk4
    go_wp2_with fail
    refine (pick_any g (p + 1 + 1 + 1) _ _ hr4 (by omega) (by omega) (by omega)).mono ?_
    rintro e w5 ⟨k5, rfl, hk5, -, hr5, hg5, -⟩
    have hk5' : (k5 : Int) < 256 := hk5 (by omega)
    have hX5 := Box.grown hX4 hg5 (by simp; omega)
    have hR5 := Box.grown hR4 hg5 (by simp; omega)
    have hG5 := grown_trans hG4 hg5
    clear hX4 hR4 hG4 hr4 hg5 hk5
    have hX7 : OpAtB (((((w5.setCell ⟨X, 0, none⟩ (.int .i64 8)).setCell ⟨X, 1, none⟩ (.int .i64 (k3 : Int))).setCell ⟨X, 2, none⟩ (.int .i64 (k4 : Int))).setCell ⟨X, 3, none⟩ (.int .i64 (k5 : Int))).setCell ⟨X, 4, none⟩ (.int .i64 0)) X ⟨8, (k3 : Int), (k4 : Int), (k5 : Int), 0⟩ := fin_op hX5 _ _ _ _ _
    have hR7 := Box.set_other (b := X) (Box.set_other (b := X) (Box.set_other (b := X) (Box.set_other (b := X) (Box.set_other (b := X) hR5 (by omega) 0 (.int .i64 8)) (by omega) 1 (.int .i64 (k3 : Int))) (by omega) 2 (.int .i64 (k4 : Int))) (by omega) 3 (.int .i64 (k5 : Int))) (by omega) 4 (.int .i64 0)
    have hG7 := grown_own (grown_own (grown_own (grown_own (grown_own hG5 (grown_cell _ X 0 (.int .i64 8)) (fun b hb => by injection hb with hb; omega)) (grown_cell _ X 1 (.int .i64 (k3 : Int))) (fun b hb => by injection hb with hb; omega)) (grown_cell _ X 2 (.int .i64 (k4 : Int))) (fun b hb => by injection hb with hb; omega)) (grown_cell _ X 3 (.int .i64 (k5 : Int))) (fun b hb => by injection hb with hb; omega)) (grown_cell _ X 4 (.int .i64 0)) (fun b hb => by injection hb with hb; omega)
    have hr7 : Rdr (((((w5.setCell ⟨X, 0, none⟩ (.int .i64 8)).setCell ⟨X, 1, none⟩ (.int .i64 (k3 : Int))).setCell ⟨X, 2, none⟩ (.int .i64 (k4 : Int))).setCell ⟨X, 3, none⟩ (.int .i64 (k5 : Int))).setCell ⟨X, 4, none⟩ (.int .i64 0)) g (p + 1 + 1 + 1 + 1) := hr5.kept (fun j hj => by
      have := hr5.lt
      rw [Below.heap_setCell _ _ _ j (by simp; omega), Below.heap_setCell _ _ _ j (by simp; omega), Below.heap_setCell _ _ _ j (by simp; omega), Below.heap_setCell _ _ _ j (by simp; omega), Below.heap_setCell _ _ _ j (by simp; omega)])
    have HX := Lib.hid hX7
    have HR := Lib.hid hR7
    have HG := Lib.hid hG7
    have Hr := Lib.hid hr7
    have x0 := Box.cell hX5 (i := 0) rfl
    have x1 := Box.cell hX5 (i := 1) rfl
    have x2 := Box.cell hX5 (i := 2) rfl
    have x3 := Box.cell hX5 (i := 3) rfl
    have x4 := Box.cell hX5 (i := 4) rfl
    have f0 := Box.free hX5 0
    have f1 := Box.free hX5 1
    have f2 := Box.free hX5 2
    have f3 := Box.free hX5 3
    have f4 := Box.free hX5 4
    clear hX7 hR7 hG7 hr7 hX5 hR5 hG5 hr5
    go_wp2_with fail
    have hX7 := HX.out
    have hR7 := HR.out
    have hG7 := HG.out
    have hr7 := Hr.out
    clear HX HR HG Hr x0 x1 x2 x3 x4 f0 f1 f2 f3 f4
    generalize (((((w5.setCell ⟨X, 0, none⟩ (.int .i64 8)).setCell ⟨X, 1, none⟩ (.int .i64 (k3 : Int))).setCell ⟨X, 2, none⟩ (.int .i64 (k4 : Int))).setCell ⟨X, 3, none⟩ (.int .i64 (k5 : Int))).setCell ⟨X, 4, none⟩ (.int .i64 0)) = w7 at *
    obtain ⟨o1, ho1⟩ : ∃ o1 : Op, ⟨8, (k3 : Int), (k4 : Int), (k5 : Int), 0⟩ = o1 := ⟨_, rfl⟩
    rw [ho1] at hX7
    obtain ⟨p7, hp7, hp77⟩ : ∃ p7, p + 1 + 1 + 1 + 1 = p7 ∧ p7 ≤ p + 5 := ⟨_, rfl, by omega⟩
    rw [hp7] at hr7
    clear ho1
    refine (odd_any g p7 _ _ hr7 (by omega) hn hn2).mono ?_
    rintro e w8 ⟨bo, rfl, p8, hp8, hr8, hg8⟩
    have hX8 : OpAtB w8 X o1 := Box.grown hX7 hg8 (by simp; omega)
    have hR8 := Box.grown hR7 hg8 (by simp; omega)
    have hG8 := grown_trans hG7 hg8
    clear hX7 hR7 hG7 hr7 hg8
    cases bo
    · have HF := Lib.hid (FIN.out w8 o1 p8 hR8 trivial hr8 (by omega) hG8)
      obtain ⟨x0, x1, x2, x3, x4⟩ := hX8.cs
      have r0 := Box.cell hR8 (i := 0) rfl
      have r1 := Box.cell hR8 (i := 1) rfl
      have r2 := Box.cell hR8 (i := 2) rfl
      have r3 := Box.cell hR8 (i := 3) rfl
      have r4 := Box.cell hR8 (i := 4) rfl
      have f0 := Box.free hR8 0
      have f1 := Box.free hR8 1
      have f2 := Box.free hR8 2
      have f3 := Box.free hR8 3
      have f4 := Box.free hR8 4
      clear FIN hX8 hR8 hG8 hr8
      go_wp2_with fail
      (try simp only [Exit.inBlock, Exit.then])
      exact bodyPost_ret (results_cell_row rfl _ _ R 27 #[.int .i64 o1.k, .int .i64 o1.a, .int .i64 o1.b, .int .i64 o1.c, .int .i64 o1.d] (0, 0) _ rfl HF.out.1 Tryd.underlying27 rfl (by kernel_rfl)) rfl HF.out.2
    · go_wp2_with fail
      refine (pick_any g p8 _ _ hr8 (by omega) (by omega) (by omega)).mono ?_
      rintro e w9 ⟨k9, rfl, hk9, -, hr9, hg9, -⟩
      have hk9' : (k9 : Int) < 4 := hk9 (by omega)
      have hX9 : OpAtB w9 X o1 := Box.grown hX8 hg9 (by simp; omega)
      have hR9 := Box.grown hR8 hg9 (by simp; omega)
      have hG9 := grown_trans hG8 hg9
      have hz9 := hr9.lt
      have hXz := Box.lt hX9
      have hRz := Box.lt hR9
      clear hX8 hR8 hG8 hr8 hg9 hk9
      have h4 : k9 = 0 ∨ k9 = 1 ∨ k9 = 2 ∨ k9 = 3 := by omega
      rcases h4 with rfl | rfl | rfl | rfl
      · have hXa := Box.alloc hX9 (.cells #[.int .i64 0, .int .i64 9] 3)
        have hRa := Box.alloc hR9 (.cells #[.int .i64 0, .int .i64 9] 3)
        have hGa := grown_trans hG9 (World.grownBy_alloc w9 (.cells #[.int .i64 0, .int .i64 9] 3) (some g))
        have CP := Lib.hid (pick_any g (p8 + 1) 2 _ (hr9.alloc (.cells #[.int .i64 0, .int .i64 9] 3)) (by omega) (by omega) (by omega))
        clear hr9
        go_wp2_with fail
        refine CP.out.mono ?_
        rintro e wb ⟨j, rfl, hj, -, hrb, hgb, -⟩
        have hj2 : (j : Int) < 2 := hj (by omega)
        have hj3 : 0 ≤ (j : Int) ∧ (j : Int) < 2 := by omega
        obtain ⟨z, hz⟩ : ∃ z : Int, wb.cell? ⟨w9.heap.size, j, none⟩ = some (.int .i64 z) := by
          obtain ⟨s, e, _, _, ht⟩ := Slot.stays (tab_new (n := 2) (R := fun _ => True) (t := 3) #[.int .i64 0, .int .i64 9] hz9 (fun j hj => by
            match j, hj with
            | 0, _ => exact ⟨_, rfl, trivial⟩
            | 1, _ => exact ⟨_, rfl, trivial⟩)) hgb
          injection e with e1 _ _
          injection e1 with e1
          injection e1 with e1 _ _
          rw [e1]
          obtain ⟨z, hz, _⟩ := ht j (by omega)
          exact ⟨z, hz⟩
        have hXb : OpAtB wb X o1 := Box.grown hXa hgb (by simp; omega)
        have hRb := Box.grown hRa hgb (by simp; omega)
        have hGb := grown_trans hGa hgb
        have hXc : OpAtB (wb.setCell ⟨X, 0, none⟩ (.int .i64 z)) X ⟨z, o1.a, o1.b, o1.c, o1.d⟩ := Box.set hXb 0 _
        have hRc := Box.set_other (b := X) hRb (by omega) 0 (.int .i64 z)
        have hGc := grown_own hGb (grown_cell wb X 0 (.int .i64 z)) (fun b hb => by injection hb with hb; omega)
        have hrc : Rdr (wb.setCell ⟨X, 0, none⟩ (.int .i64 z)) g (p8 + 1 + 1) := hrb.kept (fun j hj => Below.heap_setCell wb _ _ j (by simp; omega))
        have HF := Lib.hid (FIN.out _ (⟨z, o1.a, o1.b, o1.c, o1.d⟩ : Op) _ hRc trivial hrc (by omega) hGc)
        obtain ⟨x0, x1, x2, x3, x4⟩ := hXb.cs
        have xf := Box.free hXb 0
        have r0 := Box.cell hRb (i := 0) rfl
        have r1 := Box.cell hRb (i := 1) rfl
        have r2 := Box.cell hRb (i := 2) rfl
        have r3 := Box.cell hRb (i := 3) rfl
        have r4 := Box.cell hRb (i := 4) rfl
        have f0 := Box.free hRb 0
        have f1 := Box.free hRb 1
        have f2 := Box.free hRb 2
        have f3 := Box.free hRb 3
        have f4 := Box.free hRb 4
        clear FIN hXa hRa hGa CP hXb hRb hGb hXc hRc hGc hrc hrb hgb hX9 hR9 hG9 hj
        go_wp2_with fail
        (try simp only [Exit.inBlock, Exit.then])
        exact bodyPost_ret (results_cell_row rfl _ _ R 27 #[.int .i64 z, .int .i64 o1.a, .int .i64 o1.b, .int .i64 o1.c, .int .i64 o1.d] (0, 0) _ rfl HF.out.1 Tryd.underlying27 rfl (by kernel_rfl)) rfl HF.out.2
      · have hXa := Box.alloc hX9 (.cells #[.int .i64 (-1), .int .i64 256] 3)
        have hRa := Box.alloc hR9 (.cells #[.int .i64 (-1), .int .i64 256] 3)
        have hGa := grown_trans hG9 (World.grownBy_alloc w9 (.cells #[.int .i64 (-1), .int .i64 256] 3) (some g))
        have CP := Lib.hid (pick_any g (p8 + 1) 2 _ (hr9.alloc (.cells #[.int .i64 (-1), .int .i64 256] 3)) (by omega) (by omega) (by omega))
        clear hr9
        go_wp2_with fail
        refine CP.out.mono ?_
        rintro e wb ⟨j, rfl, hj, -, hrb, hgb, -⟩
        have hj2 : (j : Int) < 2 := hj (by omega)
        have hj3 : 0 ≤ (j : Int) ∧ (j : Int) < 2 := by omega
        obtain ⟨z, hz⟩ : ∃ z : Int, wb.cell? ⟨w9.heap.size, j, none⟩ = some (.int .i64 z) := by
          obtain ⟨s, e, _, _, ht⟩ := Slot.stays (tab_new (n := 2) (R := fun _ => True) (t := 3) #[.int .i64 (-1), .int .i64 256] hz9 (fun j hj => by
            match j, hj with
            | 0, _ => exact ⟨_, rfl, trivial⟩
            | 1, _ => exact ⟨_, rfl, trivial⟩)) hgb
          injection e with e1 _ _
          injection e1 with e1
          injection e1 with e1 _ _
          rw [e1]
          obtain ⟨z, hz, _⟩ := ht j (by omega)
          exact ⟨z, hz⟩
        have hXb : OpAtB wb X o1 := Box.grown hXa hgb (by simp; omega)
        have hRb := Box.grown hRa hgb (by simp; omega)
        have hGb := grown_trans hGa hgb
        have hXc : OpAtB (wb.setCell ⟨X, 1, none⟩ (.int .i64 z)) X ⟨o1.k, z, o1.b, o1.c, o1.d⟩ := Box.set hXb 1 _
        have hRc := Box.set_other (b := X) hRb (by omega) 1 (.int .i64 z)
        have hGc := grown_own hGb (grown_cell wb X 1 (.int .i64 z)) (fun b hb => by injection hb with hb; omega)
        have hrc : Rdr (wb.setCell ⟨X, 1, none⟩ (.int .i64 z)) g (p8 + 1 + 1) := hrb.kept (fun j hj => Below.heap_setCell wb _ _ j (by simp; omega))
        have HF := Lib.hid (FIN.out _ (⟨o1.k, z, o1.b, o1.c, o1.d⟩ : Op) _ hRc trivial hrc (by omega) hGc)
        obtain ⟨x0, x1, x2, x3, x4⟩ := hXb.cs
        have xf := Box.free hXb 1
        have r0 := Box.cell hRb (i := 0) rfl
        have r1 := Box.cell hRb (i := 1) rfl
        have r2 := Box.cell hRb (i := 2) rfl
        have r3 := Box.cell hRb (i := 3) rfl
        have r4 := Box.cell hRb (i := 4) rfl
        have f0 := Box.free hRb 0
        have f1 := Box.free hRb 1
        have f2 := Box.free hRb 2
        have f3 := Box.free hRb 3
        have f4 := Box.free hRb 4
        clear FIN hXa hRa hGa CP hXb hRb hGb hXc hRc hGc hrc hrb hgb hX9 hR9 hG9 hj
        go_wp2_with fail
        (try simp only [Exit.inBlock, Exit.then])
        exact bodyPost_ret (results_cell_row rfl _ _ R 27 #[.int .i64 o1.k, .int .i64 z, .int .i64 o1.b, .int .i64 o1.c, .int .i64 o1.d] (0, 0) _ rfl HF.out.1 Tryd.underlying27 rfl (by kernel_rfl)) rfl HF.out.2
      · have hXa := Box.alloc hX9 (.cells #[.int .i64 (-1), .int .i64 256] 3)
        have hRa := Box.alloc hR9 (.cells #[.int .i64 (-1), .int .i64 256] 3)
        have hGa := grown_trans hG9 (World.grownBy_alloc w9 (.cells #[.int .i64 (-1), .int .i64 256] 3) (some g))
        have CP := Lib.hid (pick_any g (p8 + 1) 2 _ (hr9.alloc (.cells #[.int .i64 (-1), .int .i64 256] 3)) (by omega) (by omega) (by omega))
        clear hr9
        go_wp2_with fail
        refine CP.out.mono ?_
        rintro e wb ⟨j, rfl, hj, -, hrb, hgb, -⟩
        have hj2 : (j : Int) < 2 := hj (by omega)
        have hj3 : 0 ≤ (j : Int) ∧ (j : Int) < 2 := by omega
        obtain ⟨z, hz⟩ : ∃ z : Int, wb.cell? ⟨w9.heap.size, j, none⟩ = some (.int .i64 z) := by
          obtain ⟨s, e, _, _, ht⟩ := Slot.stays (tab_new (n := 2) (R := fun _ => True) (t := 3) #[.int .i64 (-1), .int .i64 256] hz9 (fun j hj => by
            match j, hj with
            | 0, _ => exact ⟨_, rfl, trivial⟩
            | 1, _ => exact ⟨_, rfl, trivial⟩)) hgb
          injection e with e1 _ _
          injection e1 with e1
          injection e1 with e1 _ _
          rw [e1]
          obtain ⟨z, hz, _⟩ := ht j (by omega)
          exact ⟨z, hz⟩
        have hXb : OpAtB wb X o1 := Box.grown hXa hgb (by simp; omega)
        have hRb := Box.grown hRa hgb (by simp; omega)
        have hGb := grown_trans hGa hgb
        have hXc : OpAtB (wb.setCell ⟨X, 3, none⟩ (.int .i64 z)) X ⟨o1.k, o1.a, o1.b, z, o1.d⟩ := Box.set hXb 3 _
        have hRc := Box.set_other (b := X) hRb (by omega) 3 (.int .i64 z)
        have hGc := grown_own hGb (grown_cell wb X 3 (.int .i64 z)) (fun b hb => by injection hb with hb; omega)
        have hrc : Rdr (wb.setCell ⟨X, 3, none⟩ (.int .i64 z)) g (p8 + 1 + 1) := hrb.kept (fun j hj => Below.heap_setCell wb _ _ j (by simp; omega))
        have HF := Lib.hid (FIN.out _ (⟨o1.k, o1.a, o1.b, z, o1.d⟩ : Op) _ hRc trivial hrc (by omega) hGc)
        obtain ⟨x0, x1, x2, x3, x4⟩ := hXb.cs
        have xf := Box.free hXb 3
        have r0 := Box.cell hRb (i := 0) rfl
        have r1 := Box.cell hRb (i := 1) rfl
        have r2 := Box.cell hRb (i := 2) rfl
        have r3 := Box.cell hRb (i := 3) rfl
        have r4 := Box.cell hRb (i := 4) rfl
        have f0 := Box.free hRb 0
        have f1 := Box.free hRb 1
        have f2 := Box.free hRb 2
        have f3 := Box.free hRb 3
        have f4 := Box.free hRb 4
        clear FIN hXa hRa hGa CP hXb hRb hGb hXc hRc hGc hrc hrb hgb hX9 hR9 hG9 hj
        go_wp2_with fail
        (try simp only [Exit.inBlock, Exit.then])
        exact bodyPost_ret (results_cell_row rfl _ _ R 27 #[.int .i64 o1.k, .int .i64 o1.a, .int .i64 o1.b, .int .i64 z, .int .i64 o1.d] (0, 0) _ rfl HF.out.1 Tryd.underlying27 rfl (by kernel_rfl)) rfl HF.out.2
      · have hXa := Box.alloc hX9 (.cells #[.int .i64 1, .int .i64 7] 3)
        have hRa := Box.alloc hR9 (.cells #[.int .i64 1, .int .i64 7] 3)
        have hGa := grown_trans hG9 (World.grownBy_alloc w9 (.cells #[.int .i64 1, .int .i64 7] 3) (some g))
        have CP := Lib.hid (pick_any g (p8 + 1) 2 _ (hr9.alloc (.cells #[.int .i64 1, .int .i64 7] 3)) (by omega) (by omega) (by omega))
        clear hr9
        go_wp2_with fail
        refine CP.out.mono ?_
        rintro e wb ⟨j, rfl, hj, -, hrb, hgb, -⟩
        have hj2 : (j : Int) < 2 := hj (by omega)
        have hj3 : 0 ≤ (j : Int) ∧ (j : Int) < 2 := by omega
        obtain ⟨z, hz⟩ : ∃ z : Int, wb.cell? ⟨w9.heap.size, j, none⟩ = some (.int .i64 z) := by
          obtain ⟨s, e, _, _, ht⟩ := Slot.stays (tab_new (n := 2) (R := fun _ => True) (t := 3) #[.int .i64 1, .int .i64 7] hz9 (fun j hj => by
            match j, hj with
            | 0, _ => exact ⟨_, rfl, trivial⟩
            | 1, _ => exact ⟨_, rfl, trivial⟩)) hgb
          injection e with e1 _ _
          injection e1 with e1
          injection e1 with e1 _ _
          rw [e1]
          obtain ⟨z, hz, _⟩ := ht j (by omega)
          exact ⟨z, hz⟩
        have hXb : OpAtB wb X o1 := Box.grown hXa hgb (by simp; omega)
        have hRb := Box.grown hRa hgb (by simp; omega)
        have hGb := grown_trans hGa hgb
        have hXc : OpAtB (wb.setCell ⟨X, 4, none⟩ (.int .i64 z)) X ⟨o1.k, o1.a, o1.b, o1.c, z⟩ := Box.set hXb 4 _
        have hRc := Box.set_other (b := X) hRb (by omega) 4 (.int .i64 z)
        have hGc := grown_own hGb (grown_cell wb X 4 (.int .i64 z)) (fun b hb => by injection hb with hb; omega)
        have hrc : Rdr (wb.setCell ⟨X, 4, none⟩ (.int .i64 z)) g (p8 + 1 + 1) := hrb.kept (fun j hj => Below.heap_setCell wb _ _ j (by simp; omega))
        have HF := Lib.hid (FIN.out _ (⟨o1.k, o1.a, o1.b, o1.c, z⟩ : Op) _ hRc trivial hrc (by omega) hGc)
        obtain ⟨x0, x1, x2, x3, x4⟩ := hXb.cs
        have xf := Box.free hXb 4
        have r0 := Box.cell hRb (i := 0) rfl
        have r1 := Box.cell hRb (i := 1) rfl
        have r2 := Box.cell hRb (i := 2) rfl
        have r3 := Box.cell hRb (i := 3) rfl
        have r4 := Box.cell hRb (i := 4) rfl
        have f0 := Box.free hRb 0
        have f1 := Box.free hRb 1
        have f2 := Box.free hRb 2
        have f3 := Box.free hRb 3
        have f4 := Box.free hRb 4
        clear FIN hXa hRa hGa CP hXb hRb hGb hXc hRc hGc hrc hrb hgb hX9 hR9 hG9 hj
        go_wp2_with fail
        (try simp only [Exit.inBlock, Exit.then])
        exact bodyPost_ret (results_cell_row rfl _ _ R 27 #[.int .i64 o1.k, .int .i64 o1.a, .int .i64 o1.b, .int .i64 o1.c, .int .i64 z] (0, 0) _ rfl HF.out.1 Tryd.underlying27 rfl (by kernel_rfl)) rfl HF.out.2
  have e1 : (1 + (k1 : Int) == 1) = false := beq_eq_false_iff_ne.2 (by omega)
  have e7 : (1 + (k1 : Int) == 7) = false := beq_eq_false_iff_ne.2 (by omega)
  have e8 : (1 + (k1 : Int) == 8) = false := beq_eq_false_iff_ne.2 (by omega)
  have hX2 : Box (w1.alloc (.cells #[.int .i64 (1 + (k1 : Int)), .int .i64 0, .int .i64 0, .int .i64 0, .int .i64 0] 27)) w1.heap.size #[.int .i64 (1 + (k1 : Int)), .int .i64 0, .int .i64 0, .int .i64 0, .int .i64 0] 27 := Box.new w1 _ _
  have hR2 := Box.alloc hR1 (.cells #[.int .i64 (1 + (k1 : Int)), .int .i64 0, .int .i64 0, .int .i64 0, .int .i64 0] 27)
  have hG2 := grown_trans hG1 (World.grownBy_alloc w1 (.cells #[.int .i64 (1 + (k1 : Int)), .int .i64 0, .int .i64 0, .int .i64 0, .int .i64 0] 27) (some g))
  have hr2 := hr1.alloc (.cells #[.int .i64 (1 + (k1 : Int)), .int .i64 0, .int .i64 0, .int .i64 0, .int .i64 0] 27)
  obtain ⟨X, hXX, hXR⟩ : ∃ X, w1.heap.size = X ∧ R < X := ⟨_, rfl, hRz1⟩
  rw [hXX] at hX2
  clear hR1 hG1 hr1
  have HX2 := Lib.hid hX2
  have HR2 := Lib.hid hR2
  have HG2 := Lib.hid hG2
  have Hr2 := Lib.hid hr2
  clear hX2 hR2 hG2 hr2
  go_wp2_with fail
  try rw [hXX]
  have hX2 := HX2.out
  have hR2 := HR2.out
  have hG2 := HG2.out
  have hr2 := Hr2.out
  clear HX2 HR2 HG2 Hr2
  generalize w1.alloc (.cells #[.int .i64 (1 + (k1 : Int)), .int .i64 0, .int .i64 0, .int .i64 0, .int .i64 0] 27) = w2 at *
  obtain ⟨o1, ho1⟩ : ∃ o1 : Op, ⟨(1 + (k1 : Int)), 0, 0, 0, 0⟩ = o1 := ⟨_, rfl⟩
  have hX7 : OpAtB w2 X o1 := by rw [← ho1]; exact hX2
  have hR7 := hR2
  have hG7 := hG2
  obtain ⟨p7, hp7, hp77⟩ : ∃ p7, p + 1 = p7 ∧ p7 ≤ p + 5 := ⟨_, rfl, by omega⟩
  rw [hp7] at hr2
  have hr7 := hr2
  clear ho1 hX2 hR2 hG2 hr2
  refine (odd_any g p7 _ _ hr7 (by omega) hn hn2).mono ?_
  rintro e w8 ⟨bo, rfl, p8, hp8, hr8, hg8⟩
  have hX8 : OpAtB w8 X o1 := Box.grown hX7 hg8 (by simp; omega)
  have hR8 := Box.grown hR7 hg8 (by simp; omega)
  have hG8 := grown_trans hG7 hg8
  clear hX7 hR7 hG7 hr7 hg8
  cases bo
  · have HF := Lib.hid (FIN.out w8 o1 p8 hR8 trivial hr8 (by omega) hG8)
    obtain ⟨x0, x1, x2, x3, x4⟩ := hX8.cs
    have r0 := Box.cell hR8 (i := 0) rfl
    have r1 := Box.cell hR8 (i := 1) rfl
    have r2 := Box.cell hR8 (i := 2) rfl
    have r3 := Box.cell hR8 (i := 3) rfl
    have r4 := Box.cell hR8 (i := 4) rfl
    have f0 := Box.free hR8 0
    have f1 := Box.free hR8 1
    have f2 := Box.free hR8 2
    have f3 := Box.free hR8 3
    have f4 := Box.free hR8 4
    clear FIN hX8 hR8 hG8 hr8
    go_wp2_with fail
    (try simp only [Exit.inBlock, Exit.then])
    exact bodyPost_ret (results_cell_row rfl _ _ R 27 #[.int .i64 o1.k, .int .i64 o1.a, .int .i64 o1.b, .int .i64 o1.c, .int .i64 o1.d] (0, 0) _ rfl HF.out.1 Tryd.underlying27 rfl (by kernel_rfl)) rfl HF.out.2
  · go_wp2_with fail
    refine (pick_any g p8 _ _ hr8 (by omega) (by omega) (by omega)).mono ?_
    rintro e w9 ⟨k9, rfl, hk9, -, hr9, hg9, -⟩
    have hk9' : (k9 : Int) < 4 := hk9 (by omega)
    have hX9 : OpAtB w9 X o1 := Box.grown hX8 hg9 (by simp; omega)
    have hR9 := Box.grown hR8 hg9 (by simp; omega)
    have hG9 := grown_trans hG8 hg9
    have hz9 := hr9.lt
    have hXz := Box.lt hX9
    have hRz := Box.lt hR9
    clear hX8 hR8 hG8 hr8 hg9 hk9
    have h4 : k9 = 0 ∨ k9 = 1 ∨ k9 = 2 ∨ k9 = 3 := by omega
    rcases h4 with rfl | rfl | rfl | rfl
    · have hXa := Box.alloc hX9 (.cells #[.int .i64 0, .int .i64 9] 3)
      have hRa := Box.alloc hR9 (.cells #[.int .i64 0, .int .i64 9] 3)
      have hGa := grown_trans hG9 (World.grownBy_alloc w9 (.cells #[.int .i64 0, .int .i64 9] 3) (some g))
      have CP := Lib.hid (pick_any g (p8 + 1) 2 _ (hr9.alloc (.cells #[.int .i64 0, .int .i64 9] 3)) (by omega) (by omega) (by omega))
      clear hr9
      go_wp2_with fail
      refine CP.out.mono ?_
      rintro e wb ⟨j, rfl, hj, -, hrb, hgb, -⟩
      have hj2 : (j : Int) < 2 := hj (by omega)
      have hj3 : 0 ≤ (j : Int) ∧ (j : Int) < 2 := by omega
      obtain ⟨z, hz⟩ : ∃ z : Int, wb.cell? ⟨w9.heap.size, j, none⟩ = some (.int .i64 z) := by
        obtain ⟨s, e, _, _, ht⟩ := Slot.stays (tab_new (n := 2) (R := fun _ => True) (t := 3) #[.int .i64 0, .int .i64 9] hz9 (fun j hj => by
          match j, hj with
          | 0, _ => exact ⟨_, rfl, trivial⟩
          | 1, _ => exact ⟨_, rfl, trivial⟩)) hgb
        injection e with e1 _ _
        injection e1 with e1
        injection e1 with e1 _ _
        rw [e1]
        obtain ⟨z, hz, _⟩ := ht j (by omega)
        exact ⟨z, hz⟩
      have hXb : OpAtB wb X o1 := Box.grown hXa hgb (by simp; omega)
      have hRb := Box.grown hRa hgb (by simp; omega)
      have hGb := grown_trans hGa hgb
      have hXc : OpAtB (wb.setCell ⟨X, 0, none⟩ (.int .i64 z)) X ⟨z, o1.a, o1.b, o1.c, o1.d⟩ := Box.set hXb 0 _
      have hRc := Box.set_other (b := X) hRb (by omega) 0 (.int .i64 z)
      have hGc := grown_own hGb (grown_cell wb X 0 (.int .i64 z)) (fun b hb => by injection hb with hb; omega)
      have hrc : Rdr (wb.setCell ⟨X, 0, none⟩ (.int .i64 z)) g (p8 + 1 + 1) := hrb.kept (fun j hj => Below.heap_setCell wb _ _ j (by simp; omega))
      have HF := Lib.hid (FIN.out _ (⟨z, o1.a, o1.b, o1.c, o1.d⟩ : Op) _ hRc trivial hrc (by omega) hGc)
      obtain ⟨x0, x1, x2, x3, x4⟩ := hXb.cs
      have xf := Box.free hXb 0
      have r0 := Box.cell hRb (i := 0) rfl
      have r1 := Box.cell hRb (i := 1) rfl
      have r2 := Box.cell hRb (i := 2) rfl
      have r3 := Box.cell hRb (i := 3) rfl
      have r4 := Box.cell hRb (i := 4) rfl
      have f0 := Box.free hRb 0
      have f1 := Box.free hRb 1
      have f2 := Box.free hRb 2
      have f3 := Box.free hRb 3
      have f4 := Box.free hRb 4
      clear FIN hXa hRa hGa CP hXb hRb hGb hXc hRc hGc hrc hrb hgb hX9 hR9 hG9 hj
      go_wp2_with fail
      (try simp only [Exit.inBlock, Exit.then])
      exact bodyPost_ret (results_cell_row rfl _ _ R 27 #[.int .i64 z, .int .i64 o1.a, .int .i64 o1.b, .int .i64 o1.c, .int .i64 o1.d] (0, 0) _ rfl HF.out.1 Tryd.underlying27 rfl (by kernel_rfl)) rfl HF.out.2
    · have hXa := Box.alloc hX9 (.cells #[.int .i64 (-1), .int .i64 256] 3)
      have hRa := Box.alloc hR9 (.cells #[.int .i64 (-1), .int .i64 256] 3)
      have hGa := grown_trans hG9 (World.grownBy_alloc w9 (.cells #[.int .i64 (-1), .int .i64 256] 3) (some g))
      have CP := Lib.hid (pick_any g (p8 + 1) 2 _ (hr9.alloc (.cells #[.int .i64 (-1), .int .i64 256] 3)) (by omega) (by omega) (by omega))
      clear hr9
      go_wp2_with fail
      refine CP.out.mono ?_
      rintro e wb ⟨j, rfl, hj, -, hrb, hgb, -⟩
      have hj2 : (j : Int) < 2 := hj (by omega)
      have hj3 : 0 ≤ (j : Int) ∧ (j : Int) < 2 := by omega
      obtain ⟨z, hz⟩ : ∃ z : Int, wb.cell? ⟨w9.heap.size, j, none⟩ = some (.int .i64 z) := by
        obtain ⟨s, e, _, _, ht⟩ := Slot.stays (tab_new (n := 2) (R := fun _ => True) (t := 3) #[.int .i64 (-1), .int .i64 256] hz9 (fun j hj => by
          match j, hj with
          | 0, _ => exact ⟨_, rfl, trivial⟩
          | 1, _ => exact ⟨_, rfl, trivial⟩)) hgb
        injection e with e1 _ _
        injection e1 with e1
        injection e1 with e1 _ _
        rw [e1]
        obtain ⟨z, hz, _⟩ := ht j (by omega)
        exact ⟨z, hz⟩
      have hXb : OpAtB wb X o1 := Box.grown hXa hgb (by simp; omega)
      have hRb := Box.grown hRa hgb (by simp; omega)
      have hGb := grown_trans hGa hgb
      have hXc : OpAtB (wb.setCell ⟨X, 1, none⟩ (.int .i64 z)) X ⟨o1.k, z, o1.b, o1.c, o1.d⟩ := Box.set hXb 1 _
      have hRc := Box.set_other (b := X) hRb (by omega) 1 (.int .i64 z)
      have hGc := grown_own hGb (grown_cell wb X 1 (.int .i64 z)) (fun b hb => by injection hb with hb; omega)
      have hrc : Rdr (wb.setCell ⟨X, 1, none⟩ (.int .i64 z)) g (p8 + 1 + 1) := hrb.kept (fun j hj => Below.heap_setCell wb _ _ j (by simp; omega))
      have HF := Lib.hid (FIN.out _ (⟨o1.k, z, o1.b, o1.c, o1.d⟩ : Op) _ hRc trivial hrc (by omega) hGc)
      obtain ⟨x0, x1, x2, x3, x4⟩ := hXb.cs
      have xf := Box.free hXb 1
      have r0 := Box.cell hRb (i := 0) rfl
      have r1 := Box.cell hRb (i := 1) rfl
      have r2 := Box.cell hRb (i := 2) rfl
      have r3 := Box.cell hRb (i := 3) rfl
      have r4 := Box.cell hRb (i := 4) rfl
      have f0 := Box.free hRb 0
      have f1 := Box.free hRb 1
      have f2 := Box.free hRb 2
      have f3 := Box.free hRb 3
      have f4 := Box.free hRb 4
      clear FIN hXa hRa hGa CP hXb hRb hGb hXc hRc hGc hrc hrb hgb hX9 hR9 hG9 hj
      go_wp2_with fail
      (try simp only [Exit.inBlock, Exit.then])
      exact bodyPost_ret (results_cell_row rfl _ _ R 27 #[.int .i64 o1.k, .int .i64 z, .int .i64 o1.b, .int .i64 o1.c, .int .i64 o1.d] (0, 0) _ rfl HF.out.1 Tryd.underlying27 rfl (by kernel_rfl)) rfl HF.out.2
    · have hXa := Box.alloc hX9 (.cells #[.int .i64 (-1), .int .i64 256] 3)
      have hRa := Box.alloc hR9 (.cells #[.int .i64 (-1), .int .i64 256] 3)
      have hGa := grown_trans hG9 (World.grownBy_alloc w9 (.cells #[.int .i64 (-1), .int .i64 256] 3) (some g))
      have CP := Lib.hid (pick_any g (p8 + 1) 2 _ (hr9.alloc (.cells #[.int .i64 (-1), .int .i64 256] 3)) (by omega) (by omega) (by omega))
      clear hr9
      go_wp2_with fail
      refine CP.out.mono ?_
      rintro e wb ⟨j, rfl, hj, -, hrb, hgb, -⟩
      have hj2 : (j : Int) < 2 := hj (by omega)
      have hj3 : 0 ≤ (j : Int) ∧ (j : Int) < 2 := by omega
      obtain ⟨z, hz⟩ : ∃ z : Int, wb.cell? ⟨w9.heap.size, j, none⟩ = some (.int .i64 z) := by
        obtain ⟨s, e, _, _, ht⟩ := Slot.stays (tab_new (n := 2) (R := fun _ => True) (t := 3) #[.int .i64 (-1), .int .i64 256] hz9 (fun j hj => by
          match j, hj with
          | 0, _ => exact ⟨_, rfl, trivial⟩
          | 1, _ => exact ⟨_, rfl, trivial⟩)) hgb
        injection e with e1 _ _
        injection e1 with e1
        injection e1 with e1 _ _
        rw [e1]
        obtain ⟨z, hz, _⟩ := ht j (by omega)
        exact ⟨z, hz⟩
      have hXb : OpAtB wb X o1 := Box.grown hXa hgb (by simp; omega)
      have hRb := Box.grown hRa hgb (by simp; omega)
      have hGb := grown_trans hGa hgb
      have hXc : OpAtB (wb.setCell ⟨X, 3, none⟩ (.int .i64 z)) X ⟨o1.k, o1.a, o1.b, z, o1.d⟩ := Box.set hXb 3 _
      have hRc := Box.set_other (b := X) hRb (by omega) 3 (.int .i64 z)
      have hGc := grown_own hGb (grown_cell wb X 3 (.int .i64 z)) (fun b hb => by injection hb with hb; omega)
      have hrc : Rdr (wb.setCell ⟨X, 3, none⟩ (.int .i64 z)) g (p8 + 1 + 1) := hrb.kept (fun j hj => Below.heap_setCell wb _ _ j (by simp; omega))
      have HF := Lib.hid (FIN.out _ (⟨o1.k, o1.a, o1.b, z, o1.d⟩ : Op) _ hRc trivial hrc (by omega) hGc)
      obtain ⟨x0, x1, x2, x3, x4⟩ := hXb.cs
      have xf := Box.free hXb 3
      have r0 := Box.cell hRb (i := 0) rfl
      have r1 := Box.cell hRb (i := 1) rfl
      have r2 := Box.cell hRb (i := 2) rfl
      have r3 := Box.cell hRb (i := 3) rfl
      have r4 := Box.cell hRb (i := 4) rfl
      have f0 := Box.free hRb 0
      have f1 := Box.free hRb 1
      have f2 := Box.free hRb 2
      have f3 := Box.free hRb 3
      have f4 := Box.free hRb 4
      clear FIN hXa hRa hGa CP hXb hRb hGb hXc hRc hGc hrc hrb hgb hX9 hR9 hG9 hj
      go_wp2_with fail
      (try simp only [Exit.inBlock, Exit.then])
      exact bodyPost_ret (results_cell_row rfl _ _ R 27 #[.int .i64 o1.k, .int .i64 o1.a, .int .i64 o1.b, .int .i64 z, .int .i64 o1.d] (0, 0) _ rfl HF.out.1 Tryd.underlying27 rfl (by kernel_rfl)) rfl HF.out.2
    · have hXa := Box.alloc hX9 (.cells #[.int .i64 1, .int .i64 7] 3)
      have hRa := Box.alloc hR9 (.cells #[.int .i64 1, .int .i64 7] 3)
      have hGa := grown_trans hG9 (World.grownBy_alloc w9 (.cells #[.int .i64 1, .int .i64 7] 3) (some g))
      have CP := Lib.hid (pick_any g (p8 + 1) 2 _ (hr9.alloc (.cells #[.int .i64 1, .int .i64 7] 3)) (by omega) (by omega) (by omega))
      clear hr9
      go_wp2_with fail
      refine CP.out.mono ?_
      rintro e wb ⟨j, rfl, hj, -, hrb, hgb, -⟩
      have hj2 : (j : Int) < 2 := hj (by omega)
      have hj3 : 0 ≤ (j : Int) ∧ (j : Int) < 2 := by omega
      obtain ⟨z, hz⟩ : ∃ z : Int, wb.cell? ⟨w9.heap.size, j, none⟩ = some (.int .i64 z) := by
        obtain ⟨s, e, _, _, ht⟩ := Slot.stays (tab_new (n := 2) (R := fun _ => True) (t := 3) #[.int .i64 1, .int .i64 7] hz9 (fun j hj => by
          match j, hj with
          | 0, _ => exact ⟨_, rfl, trivial⟩
          | 1, _ => exact ⟨_, rfl, trivial⟩)) hgb
        injection e with e1 _ _
        injection e1 with e1
        injection e1 with e1 _ _
        rw [e1]
        obtain ⟨z, hz, _⟩ := ht j (by omega)
        exact ⟨z, hz⟩
      have hXb : OpAtB wb X o1 := Box.grown hXa hgb (by simp; omega)
      have hRb := Box.grown hRa hgb (by simp; omega)
      have hGb := grown_trans hGa hgb
      have hXc : OpAtB (wb.setCell ⟨X, 4, none⟩ (.int .i64 z)) X ⟨o1.k, o1.a, o1.b, o1.c, z⟩ := Box.set hXb 4 _
      have hRc := Box.set_other (b := X) hRb (by omega) 4 (.int .i64 z)
      have hGc := grown_own hGb (grown_cell wb X 4 (.int .i64 z)) (fun b hb => by injection hb with hb; omega)
      have hrc : Rdr (wb.setCell ⟨X, 4, none⟩ (.int .i64 z)) g (p8 + 1 + 1) := hrb.kept (fun j hj => Below.heap_setCell wb _ _ j (by simp; omega))
      have HF := Lib.hid (FIN.out _ (⟨o1.k, o1.a, o1.b, o1.c, z⟩ : Op) _ hRc trivial hrc (by omega) hGc)
      obtain ⟨x0, x1, x2, x3, x4⟩ := hXb.cs
      have xf := Box.free hXb 4
      have r0 := Box.cell hRb (i := 0) rfl
      have r1 := Box.cell hRb (i := 1) rfl
      have r2 := Box.cell hRb (i := 2) rfl
      have r3 := Box.cell hRb (i := 3) rfl
      have r4 := Box.cell hRb (i := 4) rfl
      have f0 := Box.free hRb 0
      have f1 := Box.free hRb 1
      have f2 := Box.free hRb 2
      have f3 := Box.free hRb 3
      have f4 := Box.free hRb 4
      clear FIN hXa hRa hGa CP hXb hRb hGb hXc hRc hGc hrc hrb hgb hX9 hR9 hG9 hj
      go_wp2_with fail
      (try simp only [Exit.inBlock, Exit.then])
      exact bodyPost_ret (results_cell_row rfl _ _ R 27 #[.int .i64 o1.k, .int .i64 o1.a, .int .i64 o1.b, .int .i64 o1.c, .int .i64 z] (0, 0) _ rfl HF.out.1 Tryd.underlying27 rfl (by kernel_rfl)) rfl HF.out.2
end Go.Proofs.YtiemlakjallphaaDoor
namespace Go.Proofs.YtiemlakjallphaaDoor
set_option maxRecDepth 4000
open Go.RowKit

theorem results_row_row {P : Program} {fn : Func} {p q : Tmp} {ty uy : TypeId} (h : fn.results = #[.cell p ty, .cell q uy]) (tmps : Array Value) (w : World) (g k : Nat) (t u : TypeId) (cs es : Array Value) (fr hr : Nat × Nat) (d f : TypeDesc)
    (hp : tmps.getD p undef = .pointer (some ⟨g, 0, none⟩)) (hq : tmps.getD q undef = .pointer (some ⟨k, 0, none⟩)) (hg : w.heap[g]? = some (.cells cs t fr)) (hk : w.heap[k]? = some (.cells es u hr))
    (hu : P.underlying ty = some d) (hd : (match d with | .struct _ | .array _ _ => true | _ => false) = true) (hi : (P.info? ty).map (·.size) = some cs.size)
    (hu2 : P.underlying uy = some f) (hd2 : (match f with | .struct _ | .array _ _ => true | _ => false) = true) (hi2 : (P.info? uy).map (·.size) = some es.size) :
    (results fn tmps).run P w = .ok (.tuple #[.agg cs, .agg es]) w := by
  have e : (results fn tmps).run P w = ((asAddr (tmps.getD p undef)).run P w).andThen fun a w1 => ((loadVar ty a).run P w1).andThen fun v w2 => ((asAddr (tmps.getD q undef)).run P w2).andThen fun b w3 => ((loadVar uy b).run P w3).andThen fun x w4 => .ok (.tuple #[v, x]) w4 := by
    simp only [results, h]
    simp [Sem.run_bind, Result.andThen]
  rw [e, hp, hq]
  simp [asAddr, run_loadVar_row w g t ty cs fr d hg hu hd hi, run_loadVar_row w k u uy es hr f hk hu2 hd2 hi2, Result.andThen]
/-- What DrawOpDo answers. -/
def DrewRO (w : World) (e : Ending) (w' : World) : Prop :=
  ∃ W H : Int, ∃ A c, ∃ l : List Px, ∃ o : Op, e = .returned (.tuple #[rasV W H A l.length c, o.v]) ∧ HasP w' w'.heap.size A l ∧ l.length ≤ c ∧ l.length ≤ 36 ∧ Below w.heap.size w w'
set_option maxHeartbeats 1000000 in
theorem drawOpDo_any (A : Option Addr) (c : Nat) (l : List UInt8) (w : World) (hs : l.length ≤ 1073741824) (hc : l.length ≤ c) (h : Has w w.heap.size A l) :
    Calls Tryd.prog 11 #[.slice A l.length c] w (DrewRO w) := by
  have hb0 : Below w.heap.size w ((w.alloc (.cells #[.int .i64 0, .int .i64 0, .slice none 0 0] 25)).alloc (.cells #[.int .i64 0, .int .i64 0, .int .i64 0, .int .i64 0, .int .i64 0] 27)) := ((Below.refl _ w).alloc (Nat.le_refl _) _).alloc (by simp) _
  have hx0 : RasAtB ((w.alloc (.cells #[.int .i64 0, .int .i64 0, .slice none 0 0] 25)).alloc (.cells #[.int .i64 0, .int .i64 0, .int .i64 0, .int .i64 0, .int .i64 0] 27)) w.heap.size 0 0 none 0 0 25 := Box.alloc (Box.new w _ _) _
  have hy0 : Box ((w.alloc (.cells #[.int .i64 0, .int .i64 0, .slice none 0 0] 25)).alloc (.cells #[.int .i64 0, .int .i64 0, .int .i64 0, .int .i64 0, .int .i64 0] 27)) (w.heap.size + 1) #[.int .i64 0, .int .i64 0, .int .i64 0, .int .i64 0, .int .i64 0] 27 := by
    have := Box.new (w.alloc (.cells #[.int .i64 0, .int .i64 0, .slice none 0 0] 25)) #[.int .i64 0, .int .i64 0, .int .i64 0, .int .i64 0, .int .i64 0] 27
    rw [show (w.alloc (.cells #[.int .i64 0, .int .i64 0, .slice none 0 0] 25)).heap.size = w.heap.size + 1 from by simp] at this
    exact this
  have h0 : Has ((w.alloc (.cells #[.int .i64 0, .int .i64 0, .slice none 0 0] 25)).alloc (.cells #[.int .i64 0, .int .i64 0, .int .i64 0, .int .i64 0, .int .i64 0] 27)) ((w.alloc (.cells #[.int .i64 0, .int .i64 0, .slice none 0 0] 25)).alloc (.cells #[.int .i64 0, .int .i64 0, .int .i64 0, .int .i64 0, .int .i64 0] 27)).heap.size A l := (h.below hb0).wider hb0.size
  go_enter Tryd.func11, Tryd.ntmps11
  go_wp2_with fail
  generalize ((w.alloc (.cells #[.int .i64 0, .int .i64 0, .slice none 0 0] 25)).alloc (.cells #[.int .i64 0, .int .i64 0, .int .i64 0, .int .i64 0, .int .i64 0] 27)) = w0 at *
  have hlt := hx0.lt
  have hlt2 := Box.lt hy0
  refine (l20Open_any A c l _ hs hc h0).mono ?_
  rintro e w1 ⟨rfl, hr, b1⟩
  have hx1 := hx0.below b1 hlt
  have hy1 := Box.below hy0 b1 hlt2
  have B1 : Below w.heap.size w w1 := hb0.trans (b1.mono (by omega))
  have hz1 := hr.lt
  clear hb0 b1 hx0 hy0 h0 h hs hc
  go_wp2_with fail
  refine (l20Ras_any _ 0 16 _ hr (by omega) (by omega) (by omega)).mono ?_
  rintro e w2 ⟨W, H, A2, c2, l2, rfl, hh2, hc2, hl2, ⟨p2, hp2, hr2⟩, hg2, hn2⟩
  have hx2 := hx1.grown hg2 (by simp; omega)
  have hy2 := Box.grown hy1 hg2 (by simp; omega)
  have B2 := below_of_grown B1 hg2 (by omega) B1.size
  have hA2 : ∀ b o, A2 = some ⟨b, o, none⟩ → b ≠ w0.heap.size ∧ b ≠ w.heap.size ∧ b ≠ w.heap.size + 1 := fun b o e => by have := hn2 b o e; omega
  have HA2 := Lib.hid hA2
  have hz2 := hr2.lt
  clear hn2 hx1 hy1 B1 hg2 hr hA2
  unfold rasV
  go_wp2_with fail
  refine (l20Op_any _ p2 9 _ hr2 (by omega) (by omega) (by omega)).mono ?_
  rintro e w3 ⟨o, rfl, -, hg3⟩
  have HX3 := Lib.hid (hx2.grown hg3 (by simp; omega))
  have HY3 := Lib.hid (Box.grown hy2 hg3 (by simp; omega))
  have HB3 := Lib.hid (below_of_grown B2 hg3 (by omega) B2.size)
  have HH3 : Hid (HasP w3 w3.heap.size A2 l2) := Lib.hid ((hh2.grown_ne hg3 (fun b o e => (HA2.out b o e).1)).wider hg3.size)
  have x0 := HX3.out.c0
  have x1 := HX3.out.c1
  have x2 := HX3.out.c2
  have e0 := HX3.out.free 0
  have e1 := HX3.out.free 1
  have e2 := HX3.out.free 2
  have r0 := Box.cell HY3.out (i := 0) rfl
  have r1 := Box.cell HY3.out (i := 1) rfl
  have r2 := Box.cell HY3.out (i := 2) rfl
  have r3 := Box.cell HY3.out (i := 3) rfl
  have r4 := Box.cell HY3.out (i := 4) rfl
  have f0 := Box.free HY3.out 0
  have f1 := Box.free HY3.out 1
  have f2 := Box.free HY3.out 2
  have f3 := Box.free HY3.out 3
  have f4 := Box.free HY3.out 4
  clear hx2 hy2 B2 hh2 hg3 hr2
  unfold Op.v
  have HXF := Lib.hid (Box.set_other (b := w.heap.size + 1) (Box.set_other (b := w.heap.size + 1) (Box.set_other (b := w.heap.size + 1) (Box.set_other (b := w.heap.size + 1) (Box.set_other (b := w.heap.size + 1) (fin_ras HX3.out (.int .i64 W) (.int .i64 H) (.slice A2 l2.length c2)) (by omega) 0 (.int .i64 o.k)) (by omega) 1 (.int .i64 o.a)) (by omega) 2 (.int .i64 o.b)) (by omega) 3 (.int .i64 o.c)) (by omega) 4 (.int .i64 o.d))
  have HYF := Lib.hid (fin_op (Box.set_other (b := w.heap.size) (Box.set_other (b := w.heap.size) (Box.set_other (b := w.heap.size) HY3.out (by omega) 0 (.int .i64 W)) (by omega) 1 (.int .i64 H)) (by omega) 2 (.slice A2 l2.length c2)) (.int .i64 o.k) (.int .i64 o.a) (.int .i64 o.b) (.int .i64 o.c) (.int .i64 o.d))
  go_wp2_with fail
  (try simp only [Exit.inBlock, Exit.then])
  refine bodyPost_ret (results_row_row rfl _ _ w.heap.size (w.heap.size + 1) 25 27 #[.int .i64 W, .int .i64 H, .slice A2 l2.length c2] #[.int .i64 o.k, .int .i64 o.a, .int .i64 o.b, .int .i64 o.c, .int .i64 o.d] (0, 0) (0, 0) _ _ rfl rfl HXF.out HYF.out Tryd.underlying25 rfl (by kernel_rfl) Tryd.underlying27 rfl (by kernel_rfl)) rfl ?_
  have hx : ∀ b o, A2 = some ⟨b, o, none⟩ → b ≠ w.heap.size := fun b o e => (HA2.out b o e).2.1
  have hy : ∀ b o, A2 = some ⟨b, o, none⟩ → b ≠ w.heap.size + 1 := fun b o e => (HA2.out b o e).2.2
  refine ⟨W, H, A2, c2, l2, o, rfl, ?_, hc2, hl2, (((((((HB3.out.setCell (by simp) _).setCell (by simp) _).setCell (by simp) _).setCell (by simp) _).setCell (by simp) _).setCell (by simp) _).setCell (by simp) _).setCell (by simp) _⟩
  simpa using (((((((HH3.out.set_ne hx 0 (.int .i64 W)).set_ne hx 1 (.int .i64 H)).set_ne hx 2 (.slice A2 l2.length c2)).set_ne hy 0 (.int .i64 o.k)).set_ne hy 1 (.int .i64 o.a)).set_ne hy 2 (.int .i64 o.b)).set_ne hy 3 (.int .i64 o.c)).set_ne hy 4 (.int .i64 o.d)
end Go.Proofs.YtiemlakjallphaaDoor
