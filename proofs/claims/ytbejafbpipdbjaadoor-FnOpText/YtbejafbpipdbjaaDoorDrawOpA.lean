/-
  l20Op draws some operation. Condition: the reader's position is at most 10^8.
-/
import Derived.Test.YtbejafbpipdbjaaDoorDrawOdz
import Derived.Test.YtbejafbpipdbjaaDoorOrdPick
import Derived.Test.YtbejafbpipdbjaaDoorBitE
import Derived.Test.YtbejafbpipdbjaaDoorOpO
namespace Go.Proofs.YtbejafbpipdbjaaDoor
set_option maxRecDepth 4000
open Go.RowKit

theorem fin_op {W : World} {g : Nat} {a b c d e : Value} {t : TypeId} (h : Box W g #[a, b, c, d, e] t) (x y z u v : Value) : Box (((((W.setCell ⟨g, 0, none⟩ x).setCell ⟨g, 1, none⟩ y).setCell ⟨g, 2, none⟩ z).setCell ⟨g, 3, none⟩ u).setCell ⟨g, 4, none⟩ v) g #[x, y, z, u, v] t := by
  have := ((((h.set 0 x).set 1 y).set 2 z).set 3 u).set 4 v
  simpa using this
/-- What l20Op answers. -/
def DrewQ (w : World) (g p : Nat) (e : Ending) (w' : World) : Prop := ∃ o : Op, e = .returned o.v ∧ (∃ p', p' ≤ p + 10 ∧ Rdr w' g p') ∧ w.grownBy w' (some g)
set_option maxHeartbeats 4000000 in
theorem l20Op_any (g p : Nat) (n : Int) (w : World) (h : Rdr w g p) (hp : p ≤ 100000000) (hn : 0 ≤ n) (hn2 : n ≤ 1000000000) :
    Calls Tryd.prog 63 #[.pointer (some ⟨g, 0, none⟩), .int .i64 n] w (DrewQ w g p) := by
  have hgw := h.lt
  have hR0 : Box (w.alloc (.cells #[.int .i64 0, .int .i64 0, .int .i64 0, .int .i64 0, .int .i64 0] 25)) w.heap.size #[.int .i64 0, .int .i64 0, .int .i64 0, .int .i64 0, .int .i64 0] 25 := Box.new w _ _
  have hG0 : w.grownBy (w.alloc (.cells #[.int .i64 0, .int .i64 0, .int .i64 0, .int .i64 0, .int .i64 0] 25)) (some g) := World.grownBy_alloc w _ _
  have hr0 := h.alloc (.cells #[.int .i64 0, .int .i64 0, .int .i64 0, .int .i64 0, .int .i64 0] 25)
  go_enter Tryd.func63, Tryd.ntmps63
  go_wp2_with fail
  generalize w.alloc (.cells #[.int .i64 0, .int .i64 0, .int .i64 0, .int .i64 0, .int .i64 0] 25) = w0 at *
  obtain ⟨R, hRR, hRg⟩ : ∃ R, w.heap.size = R ∧ g < R := ⟨_, rfl, hgw⟩
  have FIN : Hid (∀ (W1 : World) (o : Op) (p'' : Nat), Box W1 R #[.int .i64 0, .int .i64 0, .int .i64 0, .int .i64 0, .int .i64 0] 25 → True → Rdr W1 g p'' → p'' ≤ p + 10 → w.grownBy W1 (some g) →
      Box (((((W1.setCell ⟨R, 0, none⟩ (.int .i64 o.k)).setCell ⟨R, 1, none⟩ (.int .i64 o.a)).setCell ⟨R, 2, none⟩ (.int .i64 o.b)).setCell ⟨R, 3, none⟩ (.int .i64 o.c)).setCell ⟨R, 4, none⟩ (.int .i64 o.d)) R #[.int .i64 o.k, .int .i64 o.a, .int .i64 o.b, .int .i64 o.c, .int .i64 o.d] 25 ∧ DrewQ w g p (.returned (.agg #[.int .i64 o.k, .int .i64 o.a, .int .i64 o.b, .int .i64 o.c, .int .i64 o.d])) (((((W1.setCell ⟨R, 0, none⟩ (.int .i64 o.k)).setCell ⟨R, 1, none⟩ (.int .i64 o.a)).setCell ⟨R, 2, none⟩ (.int .i64 o.b)).setCell ⟨R, 3, none⟩ (.int .i64 o.c)).setCell ⟨R, 4, none⟩ (.int .i64 o.d))) := Lib.hid fun W1 o p'' h1 _ h3 h4 h5 =>
    ⟨fin_op h1 _ _ _ _ _, o, rfl, ⟨p'', h4, h3.kept (fun j hj => by
      have := h3.lt
      rw [Below.heap_setCell _ _ _ j (by simp; omega), Below.heap_setCell _ _ _ j (by simp; omega), Below.heap_setCell _ _ _ j (by simp; omega), Below.heap_setCell _ _ _ j (by simp; omega), Below.heap_setCell _ _ _ j (by simp; omega)])⟩,
      grown_own (grown_own (grown_own (grown_own (grown_own h5 (grown_cell _ R 0 _) (fun b hb => by injection hb with hb; omega)) (grown_cell _ R 1 _) (fun b hb => by injection hb with hb; omega)) (grown_cell _ R 2 _) (fun b hb => by injection hb with hb; omega)) (grown_cell _ R 3 _) (fun b hb => by injection hb with hb; omega)) (grown_cell _ R 4 _) (fun b hb => by injection hb with hb; omega)⟩
  rw [hRR] at hR0 ⊢
  refine (pick_any g p _ _ hr0 (by omega) (by omega) (by omega)).mono ?_
  rintro e w1 ⟨k1, rfl, hk1, -, hr1, hg1, -⟩
  have hk1' : (k1 : Int) < 8 := hk1 (by omega)
  have hR1 := Box.grown hR0 hg1 (by simp; omega)
  have hG1 := grown_trans hG0 hg1
  have hRz1 := Box.lt hR1
  clear hk1 hr0 hg1 hR0 hG0
  by_cases c0 : k1 = 0
  · subst c0
    have hX2 : Box (w1.alloc (.cells #[.int .i64 1, .int .i64 0, .int .i64 0, .int .i64 0, .int .i64 0] 25)) w1.heap.size #[.int .i64 1, .int .i64 0, .int .i64 0, .int .i64 0, .int .i64 0] 25 := Box.new w1 _ _
    have hR2 := Box.alloc hR1 (.cells #[.int .i64 1, .int .i64 0, .int .i64 0, .int .i64 0, .int .i64 0] 25)
    have hG2 := grown_trans hG1 (World.grownBy_alloc w1 (.cells #[.int .i64 1, .int .i64 0, .int .i64 0, .int .i64 0, .int .i64 0] 25) (some g))
    have hr2 := hr1.alloc (.cells #[.int .i64 1, .int .i64 0, .int .i64 0, .int .i64 0, .int .i64 0] 25)
    obtain ⟨X, hXX, hXR⟩ : ∃ X, w1.heap.size = X ∧ R < X := ⟨_, rfl, hRz1⟩
    rw [hXX] at hX2
    clear hR1 hG1 hr1
    have HX2 := Lib.hid hX2
    have HR2 := Lib.hid hR2
    have HG2 := Lib.hid hG2
    have Hr2 := Lib.hid hr2
    clear hX2 hR2 hG2 hr2
    go_wp2_with fail
    try rw [hXX]
    have hX2 := HX2.out
    have hR2 := HR2.out
    have hG2 := HG2.out
    have hr2 := Hr2.out
    clear HX2 HR2 HG2 Hr2
    generalize w1.alloc (.cells #[.int .i64 1, .int .i64 0, .int .i64 0, .int .i64 0, .int .i64 0] 25) = w2 at *
    refine (pick_any g (p + 1) _ _ hr2 (by omega) (by omega) (by omega)).mono ?_
    rintro e w3 ⟨k3, rfl, hk3, -, hr3, hg3, -⟩
    have hk3' : (k3 : Int) < 3 := hk3 (by omega)
    have hX3 := Box.grown hX2 hg3 (by simp; omega)
    have hR3 := Box.grown hR2 hg3 (by simp; omega)
    have hG3 := grown_trans hG2 hg3
    clear hX2 hR2 hG2 hr2 hg3 hk3
    go_wp2_with fail
    refine (pick_any g (p + 1 + 1) _ _ hr3 (by omega) (by omega) (by omega)).mono ?_
    rintro e w4 ⟨k4, rfl, hk4, -, hr4, hg4, -⟩
    have hk4' : (k4 : Int) < 3 := hk4 (by omega)
    have hX4 := Box.grown hX3 hg4 (by simp; omega)
    have hR4 := Box.grown hR3 hg4 (by simp; omega)
    have hG4 := grown_trans hG3 hg4
    clear hX3 hR3 hG3 hr3 hg4 hk4
    go_wp2_with fail
    refine (pick_any g (p + 1 + 1 + 1) _ _ hr4 (by omega) (by omega) (by omega)).mono ?_
    rintro e w5 ⟨k5, rfl, hk5, -, hr5, hg5, -⟩
    have hk5' : (k5 : Int) < 4 := hk5 (by omega)
    have hX5 := Box.grown hX4 hg5 (by simp; omega)
    have hR5 := Box.grown hR4 hg5 (by simp; omega)
    have hG5 := grown_trans hG4 hg5
    clear hX4 hR4 hG4 hr4 hg5 hk5
    go_wp2_with fail
    refine (pick_any g (p + 1 + 1 + 1 + 1) _ _ hr5 (by omega) (by omega) (by omega)).mono ?_
    rintro e w6 ⟨k6, rfl, hk6, -, hr6, hg6, -⟩
    have hk6' : (k6 : Int) < 4 := hk6 (by omega)
    have hX6 := Box.grown hX5 hg6 (by simp; omega)
    have hR6 := Box.grown hR5 hg6 (by simp; omega)
    have hG6 := grown_trans hG5 hg6
    clear hX5 hR5 hG5 hr5 hg6 hk6
    have hX7 : OpAtB (((((w6.setCell ⟨X, 0, none⟩ (.int .i64 1)).setCell ⟨X, 1, none⟩ (.int .i64 (k3 : Int))).setCell ⟨X, 2, none⟩ (.int .i64 (k4 : Int))).setCell ⟨X, 3, none⟩ (.int .i64 (1 + (k5 : Int)))).setCell ⟨X, 4, none⟩ (.int .i64 (1 + (k6 : Int)))) X ⟨1, (k3 : Int), (k4 : Int), (1 + (k5 : Int)), (1 + (k6 : Int))⟩ := fin_op hX6 _ _ _ _ _
    have hR7 := Box.set_other (b := X) (Box.set_other (b := X) (Box.set_other (b := X) (Box.set_other (b := X) (Box.set_other (b := X) hR6 (by omega) 0 (.int .i64 1)) (by omega) 1 (.int .i64 (k3 : Int))) (by omega) 2 (.int .i64 (k4 : Int))) (by omega) 3 (.int .i64 (1 + (k5 : Int)))) (by omega) 4 (.int .i64 (1 + (k6 : Int)))
    have hG7 := grown_own (grown_own (grown_own (grown_own (grown_own hG6 (grown_cell _ X 0 (.int .i64 1)) (fun b hb => by injection hb with hb; omega)) (grown_cell _ X 1 (.int .i64 (k3 : Int))) (fun b hb => by injection hb with hb; omega)) (grown_cell _ X 2 (.int .i64 (k4 : Int))) (fun b hb => by injection hb with hb; omega)) (grown_cell _ X 3 (.int .i64 (1 + (k5 : Int)))) (fun b hb => by injection hb with hb; omega)) (grown_cell _ X 4 (.int .i64 (1 + (k6 : Int)))) (fun b hb => by injection hb with hb; omega)
    have hr7 : Rdr (((((w6.setCell ⟨X, 0, none⟩ (.int .i64 1)).setCell ⟨X, 1, none⟩ (.int .i64 (k3 : Int))).setCell ⟨X, 2, none⟩ (.int .i64 (k4 : Int))).setCell ⟨X, 3, none⟩ (.int .i64 (1 + (k5 : Int)))).setCell ⟨X, 4, none⟩ (.int .i64 (1 + (k6 : Int)))) g (p + 1 + 1 + 1 + 1 + 1) := hr6.kept (fun j hj => by
      have := hr6.lt
      rw [Below.heap_setCell _ _ _ j (by simp; omega), Below.heap_setCell _ _ _ j (by simp; omega), Below.heap_setCell _ _ _ j (by simp; omega), Below.heap_setCell _ _ _ j (by simp; omega), Below.heap_setCell _ _ _ j (by simp; omega)])
    have HX := Lib.hid hX7
    have HR := Lib.hid hR7
    have HG := Lib.hid hG7
    have Hr := Lib.hid hr7
    have x0 := Box.cell hX6 (i := 0) rfl
    have x1 := Box.cell hX6 (i := 1) rfl
    have x2 := Box.cell hX6 (i := 2) rfl
    have x3 := Box.cell hX6 (i := 3) rfl
    have x4 := Box.cell hX6 (i := 4) rfl
    have f0 := Box.free hX6 0
    have f1 := Box.free hX6 1
    have f2 := Box.free hX6 2
    have f3 := Box.free hX6 3
    have f4 := Box.free hX6 4
    clear hX7 hR7 hG7 hr7 hX6 hR6 hG6 hr6
    go_wp2_with fail
    have hX7 := HX.out
    have hR7 := HR.out
    have hG7 := HG.out
    have hr7 := Hr.out
    clear HX HR HG Hr x0 x1 x2 x3 x4 f0 f1 f2 f3 f4
    generalize (((((w6.setCell ⟨X, 0, none⟩ (.int .i64 1)).setCell ⟨X, 1, none⟩ (.int .i64 (k3 : Int))).setCell ⟨X, 2, none⟩ (.int .i64 (k4 : Int))).setCell ⟨X, 3, none⟩ (.int .i64 (1 + (k5 : Int)))).setCell ⟨X, 4, none⟩ (.int .i64 (1 + (k6 : Int)))) = w7 at *
    obtain ⟨o1, ho1⟩ : ∃ o1 : Op, ⟨1, (k3 : Int), (k4 : Int), (1 + (k5 : Int)), (1 + (k6 : Int))⟩ = o1 := ⟨_, rfl⟩
    rw [ho1] at hX7
    obtain ⟨p7, hp7, hp77⟩ : ∃ p7, p + 1 + 1 + 1 + 1 + 1 = p7 ∧ p7 ≤ p + 5 := ⟨_, rfl, by omega⟩
    rw [hp7] at hr7
    clear ho1
    refine (odd_any g p7 _ _ hr7 (by omega) hn hn2).mono ?_
    rintro e w8 ⟨bo, rfl, p8, hp8, hr8, hg8⟩
    have hX8 : OpAtB w8 X o1 := Box.grown hX7 hg8 (by simp; omega)
    have hR8 := Box.grown hR7 hg8 (by simp; omega)
    have hG8 := grown_trans hG7 hg8
    clear hX7 hR7 hG7 hr7 hg8
    cases bo
    · have HF := Lib.hid (FIN.out w8 o1 p8 hR8 trivial hr8 (by omega) hG8)
      obtain ⟨x0, x1, x2, x3, x4⟩ := hX8.cs
      have r0 := Box.cell hR8 (i := 0) rfl
      have r1 := Box.cell hR8 (i := 1) rfl
      have r2 := Box.cell hR8 (i := 2) rfl
      have r3 := Box.cell hR8 (i := 3) rfl
      have r4 := Box.cell hR8 (i := 4) rfl
      have f0 := Box.free hR8 0
      have f1 := Box.free hR8 1
      have f2 := Box.free hR8 2
      have f3 := Box.free hR8 3
      have f4 := Box.free hR8 4
      clear FIN hX8 hR8 hG8 hr8
      go_wp2_with fail
      (try simp only [Exit.inBlock, Exit.then])
      exact bodyPost_ret (results_cell_row rfl _ _ R 25 #[.int .i64 o1.k, .int .i64 o1.a, .int .i64 o1.b, .int .i64 o1.c, .int .i64 o1.d] (0, 0) _ rfl HF.out.1 Tryd.underlying25 rfl (by kernel_rfl)) rfl HF.out.2
    · go_wp2_with fail
      refine (pick_any g p8 _ _ hr8 (by omega) (by omega) (by omega)).mono ?_
      rintro e w9 ⟨k9, rfl, hk9, -, hr9, hg9, -⟩
      have hk9' : (k9 : Int) < 4 := hk9 (by omega)
      have hX9 : OpAtB w9 X o1 := Box.grown hX8 hg9 (by simp; omega)
      have hR9 := Box.grown hR8 hg9 (by simp; omega)
      have hG9 := grown_trans hG8 hg9
      have hz9 := hr9.lt
      have hXz := Box.lt hX9
      have hRz := Box.lt hR9
      clear hX8 hR8 hG8 hr8 hg9 hk9
      have h4 : k9 = 0 ∨ k9 = 1 ∨ k9 = 2 ∨ k9 = 3 := by omega
      rcases h4 with rfl | rfl | rfl | rfl
      · have hXa := Box.alloc hX9 (.cells #[.int .i64 0, .int .i64 9] 3)
        have hRa := Box.alloc hR9 (.cells #[.int .i64 0, .int .i64 9] 3)
        have hGa := grown_trans hG9 (World.grownBy_alloc w9 (.cells #[.int .i64 0, .int .i64 9] 3) (some g))
        have CP := Lib.hid (pick_any g (p8 + 1) 2 _ (hr9.alloc (.cells #[.int .i64 0, .int .i64 9] 3)) (by omega) (by omega) (by omega))
        clear hr9
        go_wp2_with fail
        refine CP.out.mono ?_
        rintro e wb ⟨j, rfl, hj, -, hrb, hgb, -⟩
        have hj2 : (j : Int) < 2 := hj (by omega)
        have hj3 : 0 ≤ (j : Int) ∧ (j : Int) < 2 := by omega
        obtain ⟨z, hz⟩ : ∃ z : Int, wb.cell? ⟨w9.heap.size, j, none⟩ = some (.int .i64 z) := by
          obtain ⟨s, e, _, _, ht⟩ := Slot.stays (tab_new (n := 2) (R := fun _ => True) (t := 3) #[.int .i64 0, .int .i64 9] hz9 (fun j hj => by
            match j, hj with
            | 0, _ => exact ⟨_, rfl, trivial⟩
            | 1, _ => exact ⟨_, rfl, trivial⟩)) hgb
          injection e with e1 _ _
          injection e1 with e1
          injection e1 with e1 _ _
          rw [e1]
          obtain ⟨z, hz, _⟩ := ht j (by omega)
          exact ⟨z, hz⟩
        have hXb : OpAtB wb X o1 := Box.grown hXa hgb (by simp; omega)
        have hRb := Box.grown hRa hgb (by simp; omega)
        have hGb := grown_trans hGa hgb
        have hXc : OpAtB (wb.setCell ⟨X, 0, none⟩ (.int .i64 z)) X ⟨z, o1.a, o1.b, o1.c, o1.d⟩ := Box.set hXb 0 _
        have hRc := Box.set_other (b := X) hRb (by omega) 0 (.int .i64 z)
        have hGc := grown_own hGb (grown_cell wb X 0 (.int .i64 z)) (fun b hb => by injection hb with hb; omega)
        have hrc : Rdr (wb.setCell ⟨X, 0, none⟩ (.int .i64 z)) g (p8 + 1 + 1) := hrb.kept (fun j hj => Below.heap_setCell wb _ _ j (by simp; omega))
        have HF := Lib.hid (FIN.out _ (⟨z, o1.a, o1.b, o1.c, o1.d⟩ : Op) _ hRc trivial hrc (by omega) hGc)
        obtain ⟨x0, x1, x2, x3, x4⟩ := hXb.cs
        have xf := Box.free hXb 0
        have r0 := Box.cell hRb (i := 0) rfl
        have r1 := Box.cell hRb (i := 1) rfl
        have r2 := Box.cell hRb (i := 2) rfl
        have r3 := Box.cell hRb (i := 3) rfl
        have r4 := Box.cell hRb (i := 4) rfl
        have f0 := Box.free hRb 0
        have f1 := Box.free hRb 1
        have f2 := Box.free hRb 2
        have f3 := Box.free hRb 3
        have f4 := Box.free hRb 4
        clear FIN hXa hRa hGa CP hXb hRb hGb hXc hRc hGc hrc hrb hgb hX9 hR9 hG9 hj
        go_wp2_with fail
        (try simp only [Exit.inBlock, Exit.then])
        exact bodyPost_ret (results_cell_row rfl _ _ R 25 #[.int .i64 z, .int .i64 o1.a, .int .i64 o1.b, .int .i64 o1.c, .int .i64 o1.d] (0, 0) _ rfl HF.out.1 Tryd.underlying25 rfl (by kernel_rfl)) rfl HF.out.2
      · have hXa := Box.alloc hX9 (.cells #[.int .i64 (-1), .int .i64 256] 3)
        have hRa := Box.alloc hR9 (.cells #[.int .i64 (-1), .int .i64 256] 3)
        have hGa := grown_trans hG9 (World.grownBy_alloc w9 (.cells #[.int .i64 (-1), .int .i64 256] 3) (some g))
        have CP := Lib.hid (pick_any g (p8 + 1) 2 _ (hr9.alloc (.cells #[.int .i64 (-1), .int .i64 256] 3)) (by omega) (by omega) (by omega))
        clear hr9
        go_wp2_with fail
        refine CP.out.mono ?_
        rintro e wb ⟨j, rfl, hj, -, hrb, hgb, -⟩
        have hj2 : (j : Int) < 2 := hj (by omega)
        have hj3 : 0 ≤ (j : Int) ∧ (j : Int) < 2 := by omega
        obtain ⟨z, hz⟩ : ∃ z : Int, wb.cell? ⟨w9.heap.size, j, none⟩ = some (.int .i64 z) := by
          obtain ⟨s, e, _, _, ht⟩ := Slot.stays (tab_new (n := 2) (R := fun _ => True) (t := 3) #[.int .i64 (-1), .int .i64 256] hz9 (fun j hj => by
            match j, hj with
            | 0, _ => exact ⟨_, rfl, trivial⟩
            | 1, _ => exact ⟨_, rfl, trivial⟩)) hgb
          injection e with e1 _ _
          injection e1 with e1
          injection e1 with e1 _ _
          rw [e1]
          obtain ⟨z, hz, _⟩ := ht j (by omega)
          exact ⟨z, hz⟩
        have hXb : OpAtB wb X o1 := Box.grown hXa hgb (by simp; omega)
        have hRb := Box.grown hRa hgb (by simp; omega)
        have hGb := grown_trans hGa hgb
        have hXc : OpAtB (wb.setCell ⟨X, 1, none⟩ (.int .i64 z)) X ⟨o1.k, z, o1.b, o1.c, o1.d⟩ := Box.set hXb 1 _
        have hRc := Box.set_other (b := X) hRb (by omega) 1 (.int .i64 z)
        have hGc := grown_own hGb (grown_cell wb X 1 (.int .i64 z)) (fun b hb => by injection hb with hb; omega)
        have hrc : Rdr (wb.setCell ⟨X, 1, none⟩ (.int .i64 z)) g (p8 + 1 + 1) := hrb.kept (fun j hj => Below.heap_setCell wb _ _ j (by simp; omega))
        have HF := Lib.hid (FIN.out _ (⟨o1.k, z, o1.b, o1.c, o1.d⟩ : Op) _ hRc trivial hrc (by omega) hGc)
        obtain ⟨x0, x1, x2, x3, x4⟩ := hXb.cs
        have xf := Box.free hXb 1
        have r0 := Box.cell hRb (i := 0) rfl
        have r1 := Box.cell hRb (i := 1) rfl
        have r2 := Box.cell hRb (i := 2) rfl
        have r3 := Box.cell hRb (i := 3) rfl
        have r4 := Box.cell hRb (i := 4) rfl
        have f0 := Box.free hRb 0
        have f1 := Box.free hRb 1
        have f2 := Box.free hRb 2
        have f3 := Box.free hRb 3
        have f4 := Box.free hRb 4
        clear FIN hXa hRa hGa CP hXb hRb hGb hXc hRc hGc hrc hrb hgb hX9 hR9 hG9 hj
        go_wp2_with fail
        (try simp only [Exit.inBlock, Exit.then])
        exact bodyPost_ret (results_cell_row rfl _ _ R 25 #[.int .i64 o1.k, .int .i64 z, .int .i64 o1.b, .int .i64 o1.c, .int .i64 o1.d] (0, 0) _ rfl HF.out.1 Tryd.underlying25 rfl (by kernel_rfl)) rfl HF.out.2
      · have hXa := Box.alloc hX9 (.cells #[.int .i64 (-1), .int .i64 256] 3)
        have hRa := Box.alloc hR9 (.cells #[.int .i64 (-1), .int .i64 256] 3)
        have hGa := grown_trans hG9 (World.grownBy_alloc w9 (.cells #[.int .i64 (-1), .int .i64 256] 3) (some g))
        have CP := Lib.hid (pick_any g (p8 + 1) 2 _ (hr9.alloc (.cells #[.int .i64 (-1), .int .i64 256] 3)) (by omega) (by omega) (by omega))
        clear hr9
        go_wp2_with fail
        refine CP.out.mono ?_
        rintro e wb ⟨j, rfl, hj, -, hrb, hgb, -⟩
        have hj2 : (j : Int) < 2 := hj (by omega)
        have hj3 : 0 ≤ (j : Int) ∧ (j : Int) < 2 := by omega
        obtain ⟨z, hz⟩ : ∃ z : Int, wb.cell? ⟨w9.heap.size, j, none⟩ = some (.int .i64 z) := by
          obtain ⟨s, e, _, _, ht⟩ := Slot.stays (tab_new (n := 2) (R := fun _ => True) (t := 3) #[.int .i64 (-1), .int .i64 256] hz9 (fun j hj => by
            match j, hj with
            | 0, _ => exact ⟨_, rfl, trivial⟩
            | 1, _ => exact ⟨_, rfl, trivial⟩)) hgb
          injection e with e1 _ _
          injection e1 with e1
          injection e1 with e1 _ _
          rw [e1]
          obtain ⟨z, hz, _⟩ := ht j (by omega)
          exact ⟨z, hz⟩
        have hXb : OpAtB wb X o1 := Box.grown hXa hgb (by simp; omega)
        have hRb := Box.grown hRa hgb (by simp; omega)
        have hGb := grown_trans hGa hgb
        have hXc : OpAtB (wb.setCell ⟨X, 3, none⟩ (.int .i64 z)) X ⟨o1.k, o1.a, o1.b, z, o1.d⟩ := Box.set hXb 3 _
        have hRc := Box.set_other (b := X) hRb (by omega) 3 (.int .i64 z)
        have hGc := grown_own hGb (grown_cell wb X 3 (.int .i64 z)) (fun b hb => by injection hb with hb; omega)
        have hrc : Rdr (wb.setCell ⟨X, 3, none⟩ (.int .i64 z)) g (p8 + 1 + 1) := hrb.kept (fun j hj => Below.heap_setCell wb _ _ j (by simp; omega))
        have HF := Lib.hid (FIN.out _ (⟨o1.k, o1.a, o1.b, z, o1.d⟩ : Op) _ hRc trivial hrc (by omega) hGc)
        obtain ⟨x0, x1, x2, x3, x4⟩ := hXb.cs
        have xf := Box.free hXb 3
        have r0 := Box.cell hRb (i := 0) rfl
        have r1 := Box.cell hRb (i := 1) rfl
        have r2 := Box.cell hRb (i := 2) rfl
        have r3 := Box.cell hRb (i := 3) rfl
        have r4 := Box.cell hRb (i := 4) rfl
        have f0 := Box.free hRb 0
        have f1 := Box.free hRb 1
        have f2 := Box.free hRb 2
        have f3 := Box.free hRb 3
        have f4 := Box.free hRb 4
        clear FIN hXa hRa hGa CP hXb hRb hGb hXc hRc hGc hrc hrb hgb hX9 hR9 hG9 hj
        go_wp2_with fail
        (try simp only [Exit.inBlock, Exit.then])
        exact bodyPost_ret (results_cell_row rfl _ _ R 25 #[.int .i64 o1.k, .int .i64 o1.a, .int .i64 o1.b, .int .i64 z, .int .i64 o1.d] (0, 0) _ rfl HF.out.1 Tryd.underlying25 rfl (by kernel_rfl)) rfl HF.out.2
      · have hXa := Box.alloc hX9 (.cells #[.int .i64 1, .int .i64 7] 3)
        have hRa := Box.alloc hR9 (.cells #[.int .i64 1, .int .i64 7] 3)
        have hGa := grown_trans hG9 (World.grownBy_alloc w9 (.cells #[.int .i64 1, .int .i64 7] 3) (some g))
        have CP := Lib.hid (pick_any g (p8 + 1) 2 _ (hr9.alloc (.cells #[.int .i64 1, .int .i64 7] 3)) (by omega) (by omega) (by omega))
        clear hr9
        go_wp2_with fail
        refine CP.out.mono ?_
        rintro e wb ⟨j, rfl, hj, -, hrb, hgb, -⟩
        have hj2 : (j : Int) < 2 := hj (by omega)
        have hj3 : 0 ≤ (j : Int) ∧ (j : Int) < 2 := by omega
        obtain ⟨z, hz⟩ : ∃ z : Int, wb.cell? ⟨w9.heap.size, j, none⟩ = some (.int .i64 z) := by
          obtain ⟨s, e, _, _, ht⟩ := Slot.stays (tab_new (n := 2) (R := fun _ => True) (t := 3) #[.int .i64 1, .int .i64 7] hz9 (fun j hj => by
            match j, hj with
            | 0, _ => exact ⟨_, rfl, trivial⟩
            | 1, _ => exact ⟨_, rfl, trivial⟩)) hgb
          injection e with e1 _ _
          injection e1 with e1
          injection e1 with e1 _ _
          rw [e1]
          obtain ⟨z, hz, _⟩ := ht j (by omega)
          exact ⟨z, hz⟩
        have hXb : OpAtB wb X o1 := Box.grown hXa hgb (by simp; omega)
        have hRb := Box.grown hRa hgb (by simp; omega)
        have hGb := grown_trans hGa hgb
        have hXc : OpAtB (wb.setCell ⟨X, 4, none⟩ (.int .i64 z)) X ⟨o1.k, o1.a, o1.b, o1.c, z⟩ := Box.set hXb 4 _
        have hRc := Box.set_other (b := X) hRb (by omega) 4 (.int .i64 z)
        have hGc := grown_own hGb (grown_cell wb X 4 (.int .i64 z)) (fun b hb => by injection hb with hb; omega)
        have hrc : Rdr (wb.setCell ⟨X, 4, none⟩ (.int .i64 z)) g (p8 + 1 + 1) := hrb.kept (fun j hj => Below.heap_setCell wb _ _ j (by simp; omega))
        have HF := Lib.hid (FIN.out _ (⟨o1.k, o1.a, o1.b, o1.c, z⟩ : Op) _ hRc trivial hrc (by omega) hGc)
        obtain ⟨x0, x1, x2, x3, x4⟩ := hXb.cs
        have xf := Box.free hXb 4
        have r0 := Box.cell hRb (i := 0) rfl
        have r1 := Box.cell hRb (i := 1) rfl
        have r2 := Box.cell hRb (i := 2) rfl
        have r3 := Box.cell hRb (i := 3) rfl
        have r4 := Box.cell hRb (i := 4) rfl
        have f0 := Box.free hRb 0
        have f1 := Box.free hRb 1
        have f2 := Box.free hRb 2
        have f3 := Box.free hRb 3
        have f4 := Box.free hRb 4
        clear FIN hXa hRa hGa CP hXb hRb hGb hXc hRc hGc hrc hrb hgb hX9 hR9 hG9 hj
        go_wp2_with fail
        (try simp only [Exit.inBlock, Exit.then])
        exact bodyPost_ret (results_cell_row rfl _ _ R 25 #[.int .i64 o1.k, .int .i64 o1.a, .int .i64 o1.b, .int .i64 o1.c, .int .i64 z] (0, 0) _ rfl HF.out.1 Tryd.underlying25 rfl (by kernel_rfl)) rfl HF.out.2
  by_cases c6 : k1 = 6
  · subst c6
    clear c0
    have hX2 : Box (w1.alloc (.cells #[.int .i64 7, .int .i64 0, .int .i64 0, .int .i64 0, .int .i64 0] 25)) w1.heap.size #[.int .i64 7, .int .i64 0, .int .i64 0, .int .i64 0, .int .i64 0] 25 := Box.new w1 _ _
    have hR2 := Box.alloc hR1 (.cells #[.int .i64 7, .int .i64 0, .int .i64 0, .int .i64 0, .int .i64 0] 25)
    have hG2 := grown_trans hG1 (World.grownBy_alloc w1 (.cells #[.int .i64 7, .int .i64 0, .int .i64 0, .int .i64 0, .int .i64 0] 25) (some g))
    have hr2 := hr1.alloc (.cells #[.int .i64 7, .int .i64 0, .int .i64 0, .int .i64 0, .int .i64 0] 25)
    obtain ⟨X, hXX, hXR⟩ : ∃ X, w1.heap.size = X ∧ R < X := ⟨_, rfl, hRz1⟩
    rw [hXX] at hX2
    clear hR1 hG1 hr1
    have HX2 := Lib.hid hX2
    have HR2 := Lib.hid hR2
    have HG2 := Lib.hid hG2
    have Hr2 := Lib.hid hr2
    clear hX2 hR2 hG2 hr2
    go_wp2_with fail
    try rw [hXX]
    have hX2 := HX2.out
    have hR2 := HR2.out
    have hG2 := HG2.out
    have hr2 := Hr2.out
    clear HX2 HR2 HG2 Hr2
    generalize w1.alloc (.cells #[.int .i64 7, .int .i64 0, .int .i64 0, .int .i64 0, .int .i64 0] 25) = w2 at *
    refine (pick_any g (p + 1) _ _ hr2 (by omega) (by omega) (by omega)).mono ?_
    rintro e w3 ⟨k3, rfl, hk3, -, hr3, hg3, -⟩
    have hk3' : (k3 : Int) < 6 := hk3 (by omega)
    have hX3 := Box.grown hX2 hg3 (by simp; omega)
    have hR3 := Box.grown hR2 hg3 (by simp; omega)
    have hG3 := grown_trans hG2 hg3
    clear hX2 hR2 hG2 hr2 hg3 hk3
    go_wp2_with fail
    refine (pick_any g (p + 1 + 1) _ _ hr3 (by omega) (by omega) (by omega)).mono ?_
    rintro e w4 ⟨k4, rfl, hk4, -, hr4, hg4, -⟩
    have hk4' : (k4 : Int) < 6 := hk4 (by omega)
    have hX4 := Box.grown hX3 hg4 (by simp; omega)
    have hR4 := Box.grown hR3 hg4 (by simp; omega)
    have hG4 := grown_trans hG3 hg4
    clear hX3 hR3 hG3 hr3 hg4 hk4
    have hX7 : OpAtB (((((w4.setCell ⟨X, 0, none⟩ (.int .i64 7)).setCell ⟨X, 1, none⟩ (.int .i64 (1 + (k3 : Int)))).setCell ⟨X, 2, none⟩ (.int .i64 (1 + (k4 : Int)))).setCell ⟨X, 3, none⟩ (.int .i64 0)).setCell ⟨X, 4, none⟩ (.int .i64 0)) X ⟨7, (1 + (k3 : Int)), (1 + (k4 : Int)), 0, 0⟩ := fin_op hX4 _ _ _ _ _
    have hR7 := Box.set_other (b := X) (Box.set_other (b := X) (Box.set_other (b := X) (Box.set_other (b := X) (Box.set_other (b := X) hR4 (by omega) 0 (.int .i64 7)) (by omega) 1 (.int .i64 (1 + (k3 : Int)))) (by omega) 2 (.int .i64 (1 + (k4 : Int)))) (by omega) 3 (.int .i64 0)) (by omega) 4 (.int .i64 0)
    have hG7 := grown_own (grown_own (grown_own (grown_own (grown_own hG4 (grown_cell _ X 0 (.int .i64 7)) (fun b hb => by injection hb with hb; omega)) (grown_cell _ X 1 (.int .i64 (1 + (k3 : Int)))) (fun b hb => by injection hb with hb; omega)) (grown_cell _ X 2 (.int .i64 (1 + (k4 : Int)))) (fun b hb => by injection hb with hb; omega)) (grown_cell _ X 3 (.int .i64 0)) (fun b hb => by injection hb with hb; omega)) (grown_cell _ X 4 (.int .i64 0)) (fun b hb => by injection hb with hb; omega)
    have hr7 : Rdr (((((w4.setCell ⟨X, 0, none⟩ (.int .i64 7)).setCell ⟨X, 1, none⟩ (.int .i64 (1 + (k3 : Int)))).setCell ⟨X, 2, none⟩ (.int .i64 (1 + (k4 : Int)))).setCell ⟨X, 3, none⟩ (.int .i64 0)).setCell ⟨X, 4, none⟩ (.int .i64 0)) g (p + 1 + 1 + 1) := hr4.kept (fun j hj => by
      have := hr4.lt
      rw [Below.heap_setCell _ _ _ j (by simp; omega), Below.heap_setCell _ _ _ j (by simp; omega), Below.heap_setCell _ _ _ j (by simp; omega), Below.heap_setCell _ _ _ j (by simp; omega), Below.heap_setCell _ _ _ j (by simp; omega)])
    have HX := Lib.hid hX7
    have HR := Lib.hid hR7
    have HG := Lib.hid hG7
    have Hr := Lib.hid hr7
    have x0 := Box.cell hX4 (i := 0) rfl
    have x1 := Box.cell hX4 (i := 1) rfl
    have x2 := Box.cell hX4 (i := 2) rfl
    have x3 := Box.cell hX4 (i := 3) rfl
    have x4 := Box.cell hX4 (i := 4) rfl
    have f0 := Box.free hX4 0
    have f1 := Box.free hX4 1
    have f2 := Box.free hX4 2
    have f3 := Box.free hX4 3
    have f4 := Box.free hX4 4
    clear hX7 hR7 hG7 hr7 hX4 hR4 hG4 hr4
    go_wp2_with fail
    have hX7 := HX.out
    have hR7 := HR.out
    have hG7 := HG.out
    have hr7 := Hr.out
    clear HX HR HG Hr x0 x1 x2 x3 x4 f0 f1 f2 f3 f4
    generalize (((((w4.setCell ⟨X, 0, none⟩ (.int .i64 7)).setCell ⟨X, 1, none⟩ (.int .i64 (1 + (k3 : Int)))).setCell ⟨X, 2, none⟩ (.int .i64 (1 + (k4 : Int)))).setCell ⟨X, 3, none⟩ (.int .i64 0)).setCell ⟨X, 4, none⟩ (.int .i64 0)) = w7 at *
    obtain ⟨o1, ho1⟩ : ∃ o1 : Op, ⟨7, (1 + (k3 : Int)), (1 + (k4 : Int)), 0, 0⟩ = o1 := ⟨_, rfl⟩
    rw [ho1] at hX7
    obtain ⟨p7, hp7, hp77⟩ : ∃ p7, p + 1 + 1 + 1 = p7 ∧ p7 ≤ p + 5 := ⟨_, rfl, by omega⟩
    rw [hp7] at hr7
    clear ho1
    refine (odd_any g p7 _ _ hr7 (by omega) hn hn2).mono ?_
    rintro e w8 ⟨bo, rfl, p8, hp8, hr8, hg8⟩
    have hX8 : OpAtB w8 X o1 := Box.grown hX7 hg8 (by simp; omega)
    have hR8 := Box.grown hR7 hg8 (by simp; omega)
    have hG8 := grown_trans hG7 hg8
    clear hX7 hR7 hG7 hr7 hg8
    cases bo
    · have HF := Lib.hid (FIN.out w8 o1 p8 hR8 trivial hr8 (by omega) hG8)
      obtain ⟨x0, x1, x2, x3, x4⟩ := hX8.cs
      have r0 := Box.cell hR8 (i := 0) rfl
      have r1 := Box.cell hR8 (i := 1) rfl
      have r2 := Box.cell hR8 (i := 2) rfl
      have r3 := Box.cell hR8 (i := 3) rfl
      have r4 := Box.cell hR8 (i := 4) rfl
      have f0 := Box.free hR8 0
      have f1 := Box.free hR8 1
      have f2 := Box.free hR8 2
      have f3 := Box.free hR8 3
      have f4 := Box.free hR8 4
      clear FIN hX8 hR8 hG8 hr8
      go_wp2_with fail
      (try simp only [Exit.inBlock, Exit.then])
      exact bodyPost_ret (results_cell_row rfl _ _ R 25 #[.int .i64 o1.k, .int .i64 o1.a, .int .i64 o1.b, .int .i64 o1.c, .int .i64 o1.d] (0, 0) _ rfl HF.out.1 Tryd.underlying25 rfl (by kernel_rfl)) rfl HF.out.2
    · go_wp2_with fail
      refine (pick_any g p8 _ _ hr8 (by omega) (by omega) (by omega)).mono ?_
      rintro e w9 ⟨k9, rfl, hk9, -, hr9, hg9, -⟩
      have hk9' : (k9 : Int) < 4 := hk9 (by omega)
      have hX9 : OpAtB w9 X o1 := Box.grown hX8 hg9 (by simp; omega)
      have hR9 := Box.grown hR8 hg9 (by simp; omega)
      have hG9 := grown_trans hG8 hg9
      have hz9 := hr9.lt
      have hXz := Box.lt hX9
      have hRz := Box.lt hR9
      clear hX8 hR8 hG8 hr8 hg9 hk9
      have h4 : k9 = 0 ∨ k9 = 1 ∨ k9 = 2 ∨ k9 = 3 := by omega
      rcases h4 with rfl | rfl | rfl | rfl
      · have hXa := Box.alloc hX9 (.cells #[.int .i64 0, .int .i64 9] 3)
        have hRa := Box.alloc hR9 (.cells #[.int .i64 0, .int .i64 9] 3)
        have hGa := grown_trans hG9 (World.grownBy_alloc w9 (.cells #[.int .i64 0, .int .i64 9] 3) (some g))
        have CP := Lib.hid (pick_any g (p8 + 1) 2 _ (hr9.alloc (.cells #[.int .i64 0, .int .i64 9] 3)) (by omega) (by omega) (by omega))
        clear hr9
        go_wp2_with fail
        refine CP.out.mono ?_
        rintro e wb ⟨j, rfl, hj, -, hrb, hgb, -⟩
        have hj2 : (j : Int) < 2 := hj (by omega)
        have hj3 : 0 ≤ (j : Int) ∧ (j : Int) < 2 := by omega
        obtain ⟨z, hz⟩ : ∃ z : Int, wb.cell? ⟨w9.heap.size, j, none⟩ = some (.int .i64 z) := by
          obtain ⟨s, e, _, _, ht⟩ := Slot.stays (tab_new (n := 2) (R := fun _ => True) (t := 3) #[.int .i64 0, .int .i64 9] hz9 (fun j hj => by
            match j, hj with
            | 0, _ => exact ⟨_, rfl, trivial⟩
            | 1, _ => exact ⟨_, rfl, trivial⟩)) hgb
          injection e with e1 _ _
          injection e1 with e1
          injection e1 with e1 _ _
          rw [e1]
          obtain ⟨z, hz, _⟩ := ht j (by omega)
          exact ⟨z, hz⟩
        have hXb : OpAtB wb X o1 := Box.grown hXa hgb (by simp; omega)
        have hRb := Box.grown hRa hgb (by simp; omega)
        have hGb := grown_trans hGa hgb
        have hXc : OpAtB (wb.setCell ⟨X, 0, none⟩ (.int .i64 z)) X ⟨z, o1.a, o1.b, o1.c, o1.d⟩ := Box.set hXb 0 _
        have hRc := Box.set_other (b := X) hRb (by omega) 0 (.int .i64 z)
        have hGc := grown_own hGb (grown_cell wb X 0 (.int .i64 z)) (fun b hb => by injection hb with hb; omega)
        have hrc : Rdr (wb.setCell ⟨X, 0, none⟩ (.int .i64 z)) g (p8 + 1 + 1) := hrb.kept (fun j hj => Below.heap_setCell wb _ _ j (by simp; omega))
        have HF := Lib.hid (FIN.out _ (⟨z, o1.a, o1.b, o1.c, o1.d⟩ : Op) _ hRc trivial hrc (by omega) hGc)
        obtain ⟨x0, x1, x2, x3, x4⟩ := hXb.cs
        have xf := Box.free hXb 0
        have r0 := Box.cell hRb (i := 0) rfl
        have r1 := Box.cell hRb (i := 1) rfl
        have r2 := Box.cell hRb (i := 2) rfl
        have r3 := Box.cell hRb (i := 3) rfl
        have r4 := Box.cell hRb (i := 4) rfl
        have f0 := Box.free hRb 0
        have f1 := Box.free hRb 1
        have f2 := Box.free hRb 2
        have f3 := Box.free hRb 3
        have f4 := Box.free hRb 4
        clear FIN hXa hRa hGa CP hXb hRb hGb hXc hRc hGc hrc hrb hgb hX9 hR9 hG9 hj
        go_wp2_with fail
        (try simp only [Exit.inBlock, Exit.then])
        exact bodyPost_ret (results_cell_row rfl _ _ R 25 #[.int .i64 z, .int .i64 o1.a, .int .i64 o1.b, .int .i64 o1.c, .int .i64 o1.d] (0, 0) _ rfl HF.out.1 Tryd.underlying25 rfl (by kernel_rfl)) rfl HF.out.2
      · have hXa := Box.alloc hX9 (.cells #[.int .i64 (-1), .int .i64 256] 3)
        have hRa := Box.alloc hR9 (.cells #[.int .i64 (-1), .int .i64 256] 3)
        have hGa := grown_trans hG9 (World.grownBy_alloc w9 (.cells #[.int .i64 (-1), .int .i64 256] 3) (some g))
        have CP := Lib.hid (pick_any g (p8 + 1) 2 _ (hr9.alloc (.cells #[.int .i64 (-1), .int .i64 256] 3)) (by omega) (by omega) (by omega))
        clear hr9
        go_wp2_with fail
        refine CP.out.mono ?_
        rintro e wb ⟨j, rfl, hj, -, hrb, hgb, -⟩
        have hj2 : (j : Int) < 2 := hj (by omega)
        have hj3 : 0 ≤ (j : Int) ∧ (j : Int) < 2 := by omega
        obtain ⟨z, hz⟩ : ∃ z : Int, wb.cell? ⟨w9.heap.size, j, none⟩ = some (.int .i64 z) := by
          obtain ⟨s, e, _, _, ht⟩ := Slot.stays (tab_new (n := 2) (R := fun _ => True) (t := 3) #[.int .i64 (-1), .int .i64 256] hz9 (fun j hj => by
            match j, hj with
            | 0, _ => exact ⟨_, rfl, trivial⟩
            | 1, _ => exact ⟨_, rfl, trivial⟩)) hgb
          injection e with e1 _ _
          injection e1 with e1
          injection e1 with e1 _ _
          rw [e1]
          obtain ⟨z, hz, _⟩ := ht j (by omega)
          exact ⟨z, hz⟩
        have hXb : OpAtB wb X o1 := Box.grown hXa hgb (by simp; omega)
        have hRb := Box.grown hRa hgb (by simp; omega)
        have hGb := grown_trans hGa hgb
        have hXc : OpAtB (wb.setCell ⟨X, 1, none⟩ (.int .i64 z)) X ⟨o1.k, z, o1.b, o1.c, o1.d⟩ := Box.set hXb 1 _
        have hRc := Box.set_other (b := X) hRb (by omega) 1 (.int .i64 z)
        have hGc := grown_own hGb (grown_cell wb X 1 (.int .i64 z)) (fun b hb => by injection hb with hb; omega)
        have hrc : Rdr (wb.setCell ⟨X, 1, none⟩ (.int .i64 z)) g (p8 + 1 + 1) := hrb.kept (fun j hj => Below.heap_setCell wb _ _ j (by simp; omega))
        have HF := Lib.hid (FIN.out _ (⟨o1.k, z, o1.b, o1.c, o1.d⟩ : Op) _ hRc trivial hrc (by omega) hGc)
        obtain ⟨x0, x1, x2, x3, x4⟩ := hXb.cs
        have xf := Box.free hXb 1
        have r0 := Box.cell hRb (i := 0) rfl
        have r1 := Box.cell hRb (i := 1) rfl
        have r2 := Box.cell hRb (i := 2) rfl
        have r3 := Box.cell hRb (i := 3) rfl
        have r4 := Box.cell hRb (i := 4) rfl
        have f0 := Box.free hRb 0
        have f1 := Box.free hRb 1
        have f2 := Box.free hRb 2
        have f3 := Box.free hRb 3
        have f4 := Box.free hRb 4
        clear FIN hXa hRa hGa CP hXb hRb hGb hXc hRc hGc hrc hrb hgb hX9 hR9 hG9 hj
        go_wp2_with fail
        (try simp only [Exit.inBlock, Exit.then])
        exact bodyPost_ret (results_cell_row rfl _ _ R 25 #[.int .i64 o1.k, .int .i64 z, .int .i64 o1.b, .int .i64 o1.c, .int .i64 o1.d] (0, 0) _ rfl HF.out.1 Tryd.underlying25 rfl (by kernel_rfl)) rfl HF.out.2
      · have hXa := Box.alloc hX9 (.cells #[.int .i64 (-1), .int .i64 256] 3)
        have hRa := Box.alloc hR9 (.cells #[.int .i64 (-1), .int .i64 256] 3)
        have hGa := grown_trans hG9 (World.grownBy_alloc w9 (.cells #[.int .i64 (-1), .int .i64 256] 3) (some g))
        have CP := Lib.hid (pick_any g (p8 + 1) 2 _ (hr9.alloc (.cells #[.int .i64 (-1), .int .i64 256] 3)) (by omega) (by omega) (by omega))
        clear hr9
        go_wp2_with fail
        refine CP.out.mono ?_
        rintro e wb ⟨j, rfl, hj, -, hrb, hgb, -⟩
        have hj2 : (j : Int) < 2 := hj (by omega)
        have hj3 : 0 ≤ (j : Int) ∧ (j : Int) < 2 := by omega
        obtain ⟨z, hz⟩ : ∃ z : Int, wb.cell? ⟨w9.heap.size, j, none⟩ = some (.int .i64 z) := by
          obtain ⟨s, e, _, _, ht⟩ := Slot.stays (tab_new (n := 2) (R := fun _ => True) (t := 3) #[.int .i64 (-1), .int .i64 256] hz9 (fun j hj => by
            match j, hj with
            | 0, _ => exact ⟨_, rfl, trivial⟩
            | 1, _ => exact ⟨_, rfl, trivial⟩)) hgb
          injection e with e1 _ _
          injection e1 with e1
          injection e1 with e1 _ _
          rw [e1]
          obtain ⟨z, hz, _⟩ := ht j (by omega)
          exact ⟨z, hz⟩
        have hXb : OpAtB wb X o1 := Box.grown hXa hgb (by simp; omega)
        have hRb := Box.grown hRa hgb (by simp; omega)
        have hGb := grown_trans hGa hgb
        have hXc : OpAtB (wb.setCell ⟨X, 3, none⟩ (.int .i64 z)) X ⟨o1.k, o1.a, o1.b, z, o1.d⟩ := Box.set hXb 3 _
        have hRc := Box.set_other (b := X) hRb (by omega) 3 (.int .i64 z)
        have hGc := grown_own hGb (grown_cell wb X 3 (.int .i64 z)) (fun b hb => by injection hb with hb; omega)
        have hrc : Rdr (wb.setCell ⟨X, 3, none⟩ (.int .i64 z)) g (p8 + 1 + 1) := hrb.kept (fun j hj => Below.heap_setCell wb _ _ j (by simp; omega))
        have HF := Lib.hid (FIN.out _ (⟨o1.k, o1.a, o1.b, z, o1.d⟩ : Op) _ hRc trivial hrc (by omega) hGc)
        obtain ⟨x0, x1, x2, x3, x4⟩ := hXb.cs
        have xf := Box.free hXb 3
        have r0 := Box.cell hRb (i := 0) rfl
        have r1 := Box.cell hRb (i := 1) rfl
        have r2 := Box.cell hRb (i := 2) rfl
        have r3 := Box.cell hRb (i := 3) rfl
        have r4 := Box.cell hRb (i := 4) rfl
        have f0 := Box.free hRb 0
        have f1 := Box.free hRb 1
        have f2 := Box.free hRb 2
        have f3 := Box.free hRb 3
        have f4 := Box.free hRb 4
        clear FIN hXa hRa hGa CP hXb hRb hGb hXc hRc hGc hrc hrb hgb hX9 hR9 hG9 hj
        go_wp2_with fail
        (try simp only [Exit.inBlock, Exit.then])
        exact bodyPost_ret (results_cell_row rfl _ _ R 25 #[.int .i64 o1.k, .int .i64 o1.a, .int .i64 o1.b, .int .i64 z, .int .i64 o1.d] (0, 0) _ rfl HF.out.1 Tryd.underlying25 rfl (by kernel_rfl)) rfl HF.out.2
      · have hXa := Box.alloc hX9 (.cells #[.int .i64 1, .int .i64 7] 3)
        have hRa := Box.alloc hR9 (.cells #[.int .i64 1, .int .i64 7] 3)
        have hGa := grown_trans hG9 (World.grownBy_alloc w9 (.cells #[.int .i64 1, .int .i64 7] 3) (some g))
        have CP := Lib.hid (pick_any g (p8 + 1) 2 _ (hr9.alloc (.cells #[.int .i64 1, .int .i64 7] 3)) (by omega) (by omega) (by omega))
        clear hr9
        go_wp2_with fail
        refine CP.out.mono ?_
        rintro e wb ⟨j, rfl, hj, -, hrb, hgb, -⟩
        have hj2 : (j : Int) < 2 := hj (by omega)
        have hj3 : 0 ≤ (j : Int) ∧ (j : Int) < 2 := by omega
        obtain ⟨z, hz⟩ : ∃ z : Int, wb.cell? ⟨w9.heap.size, j, none⟩ = some (.int .i64 z) := by
          obtain ⟨s, e, _, _, ht⟩ := Slot.stays (tab_new (n := 2) (R := fun _ => True) (t := 3) #[.int .i64 1, .int .i64 7] hz9 (fun j hj => by
            match j, hj with
            | 0, _ => exact ⟨_, rfl, trivial⟩
            | 1, _ => exact ⟨_, rfl, trivial⟩)) hgb
          injection e with e1 _ _
          injection e1 with e1
          injection e1 with e1 _ _
          rw [e1]
          obtain ⟨z, hz, _⟩ := ht j (by omega)
          exact ⟨z, hz⟩
        have hXb : OpAtB wb X o1 := Box.grown hXa hgb (by simp; omega)
        have hRb := Box.grown hRa hgb (by simp; omega)
        have hGb := grown_trans hGa hgb
        have hXc : OpAtB (wb.setCell ⟨X, 4, none⟩ (.int .i64 z)) X ⟨o1.k, o1.a, o1.b, o1.c, z⟩ := Box.set hXb 4 _
        have hRc := Box.set_other (b := X) hRb (by omega) 4 (.int .i64 z)
        have hGc := grown_own hGb (grown_cell wb X 4 (.int .i64 z)) (fun b hb => by injection hb with hb; omega)
        have hrc : Rdr (wb.setCell ⟨X, 4, none⟩ (.int .i64 z)) g (p8 + 1 + 1) := hrb.kept (fun j hj => Below.heap_setCell wb _ _ j (by simp; omega))
        have HF := Lib.hid (FIN.out _ (⟨o1.k, o1.a, o1.b, o1.c, z⟩ : Op) _ hRc trivial hrc (by omega) hGc)
        obtain ⟨x0, x1, x2, x3, x4⟩ := hXb.cs
        have xf := Box.free hXb 4
        have r0 := Box.cell hRb (i := 0) rfl
        have r1 := Box.cell hRb (i := 1) rfl
        have r2 := Box.cell hRb (i := 2) rfl
        have r3 := Box.cell hRb (i := 3) rfl
        have r4 := Box.cell hRb (i := 4) rfl
        have f0 := Box.free hRb 0
        have f1 := Box.free hRb 1
        have f2 := Box.free hRb 2
        have f3 := Box.free hRb 3
        have f4 := Box.free hRb 4
        clear FIN hXa hRa hGa CP hXb hRb hGb hXc hRc hGc hrc hrb hgb hX9 hR9 hG9 hj
        go_wp2_with fail
        (try simp only [Exit.inBlock, Exit.then])
        exact bodyPost_ret (results_cell_row rfl _ _ R 25 #[.int .i64 o1.k, .int .i64 o1.a, .int .i64 o1.b, .int .i64 o1.c, .int .i64 z] (0, 0) _ rfl HF.out.1 Tryd.underlying25 rfl (by kernel_rfl)) rfl HF.out.2
  by_cases c7 : k1 = 7
  · subst c7
    clear c0 c6
    have hX2 : Box (w1.alloc (.cells #[.int .i64 8, .int .i64 0, .int .i64 0, .int .i64 0, .int .i64 0] 25)) w1.heap.size #[.int .i64 8, .int .i64 0, .int .i64 0, .int .i64 0, .int .i64 0] 25 := Box.new w1 _ _
    have hR2 := Box.alloc hR1 (.cells #[.int .i64 8, .int .i64 0, .int .i64 0, .int .i64 0, .int .i64 0] 25)
    have hG2 := grown_trans hG1 (World.grownBy_alloc w1 (.cells #[.int .i64 8, .int .i64 0, .int .i64 0, .int .i64 0, .int .i64 0] 25) (some g))
    have hr2 := hr1.alloc (.cells #[.int .i64 8, .int .i64 0, .int .i64 0, .int .i64 0, .int .i64 0] 25)
    obtain ⟨X, hXX, hXR⟩ : ∃ X, w1.heap.size = X ∧ R < X := ⟨_, rfl, hRz1⟩
    rw [hXX] at hX2
    clear hR1 hG1 hr1
    have HX2 := Lib.hid hX2
    have HR2 := Lib.hid hR2
    have HG2 := Lib.hid hG2
    have Hr2 := Lib.hid hr2
    clear hX2 hR2 hG2 hr2
    go_wp2_with fail
    try rw [hXX]
    have hX2 := HX2.out
    have hR2 := HR2.out
    have hG2 := HG2.out
    have hr2 := Hr2.out
    clear HX2 HR2 HG2 Hr2
    generalize w1.alloc (.cells #[.int .i64 8, .int .i64 0, .int .i64 0, .int .i64 0, .int .i64 0] 25) = w2 at *
    refine (pick_any g (p + 1) _ _ hr2 (by omega) (by omega) (by omega)).mono ?_
    rintro e w3 ⟨k3, rfl, hk3, -, hr3, hg3, -⟩
    have hk3' : (k3 : Int) < 256 := hk3 (by omega)
    have hX3 := Box.grown hX2 hg3 (by simp; omega)
    have hR3 := Box.grown hR2 hg3 (by simp; omega)
    have hG3 := grown_trans hG2 hg3
    clear hX2 hR2 hG2 hr2 hg3 hk3
    go_wp2_with fail
    refine (pick_any g (p + 1 + 1) _ _ hr3 (by omega) (by omega) (by omega)).mono ?_
    rintro e w4 ⟨k4, rfl, hk4, -, hr4, hg4, -⟩
    have hk4' : (k4 : Int) < 256 := hk4 (by omega)
    have hX4 := Box.grown hX3 hg4 (by simp; omega)
    have hR4 := Box.grown hR3 hg4 (by simp; omega)
    have hG4 := grown_trans hG3 hg4
    clear hX3 hR3 hG3 hr3 hg4 hk4
    go_wp2_with fail
    refine (pick_any g (p + 1 + 1 + 1) _ _ hr4 (by omega) (by omega) (by omega)).mono ?_
    rintro e w5 ⟨k5, rfl, hk5, -, hr5, hg5, -⟩
    have hk5' : (k5 : Int) < 256 := hk5 (by omega)
    have hX5 := Box.grown hX4 hg5 (by simp; omega)
    have hR5 := Box.grown hR4 hg5 (by simp; omega)
    have hG5 := grown_trans hG4 hg5
    clear hX4 hR4 hG4 hr4 hg5 hk5
    have hX7 : OpAtB (((((w5.setCell ⟨X, 0, none⟩ (.int .i64 8)).setCell ⟨X, 1, none⟩ (.int .i64 (k3 : Int))).setCell ⟨X, 2, none⟩ (.int .i64 (k4 : Int))).setCell ⟨X, 3, none⟩ (.int .i64 (k5 : Int))).setCell ⟨X, 4, none⟩ (.int .i64 0)) X ⟨8, (k3 : Int), (k4 : Int), (k5 : Int), 0⟩ := fin_op hX5 _ _ _ _ _
    have hR7 := Box.set_other (b := X) (Box.set_other (b := X) (Box.set_other (b := X) (Box.set_other (b := X) (Box.set_other (b := X) hR5 (by omega) 0 (.int .i64 8)) (by omega) 1 (.int .i64 (k3 : Int))) (by omega) 2 (.int .i64 (k4 : Int))) (by omega) 3 (.int .i64 (k5 : Int))) (by omega) 4 (.int .i64 0)
    have hG7 := grown_own (grown_own (grown_own (grown_own (grown_own hG5 (grown_cell _ X 0 (.int .i64 8)) (fun b hb => by injection hb with hb; omega)) (grown_cell _ X 1 (.int .i64 (k3 : Int))) (fun b hb => by injection hb with hb; omega)) (grown_cell _ X 2 (.int .i64 (k4 : Int))) (fun b hb => by injection hb with hb; omega)) (grown_cell _ X 3 (.int .i64 (k5 : Int))) (fun b hb => by injection hb with hb; omega)) (grown_cell _ X 4 (.int .i64 0)) (fun b hb => by injection hb with hb; omega)
    have hr7 : Rdr (((((w5.setCell ⟨X, 0, none⟩ (.int .i64 8)).setCell ⟨X, 1, none⟩ (.int .i64 (k3 : Int))).setCell ⟨X, 2, none⟩ (.int .i64 (k4 : Int))).setCell ⟨X, 3, none⟩ (.int .i64 (k5 : Int))).setCell ⟨X, 4, none⟩ (.int .i64 0)) g (p + 1 + 1 + 1 + 1) := hr5.kept (fun j hj => by
      have := hr5.lt
      rw [Below.heap_setCell _ _ _ j (by simp; omega), Below.heap_setCell _ _ _ j (by simp; omega), Below.heap_setCell _ _ _ j (by simp; omega), Below.heap_setCell _ _ _ j (by simp; omega), Below.heap_setCell _ _ _ j (by simp; omega)])
    have HX := Lib.hid hX7
    have HR := Lib.hid hR7
    have HG := Lib.hid hG7
    have Hr := Lib.hid hr7
    have x0 := Box.cell hX5 (i := 0) rfl
    have x1 := Box.cell hX5 (i := 1) rfl
    have x2 := Box.cell hX5 (i := 2) rfl
    have x3 := Box.cell hX5 (i := 3) rfl
    have x4 := Box.cell hX5 (i := 4) rfl
    have f0 := Box.free hX5 0
    have f1 := Box.free hX5 1
    have f2 := Box.free hX5 2
    have f3 := Box.free hX5 3
    have f4 := Box.free hX5 4
    clear hX7 hR7 hG7 hr7 hX5 hR5 hG5 hr5
    go_wp2_with fail
    have hX7 := HX.out
    have hR7 := HR.out
    have hG7 := HG.out
    have hr7 := Hr.out
    clear HX HR HG Hr x0 x1 x2 x3 x4 f0 f1 f2 f3 f4
    generalize (((((w5.setCell ⟨X, 0, none⟩ (.int .i64 8)).setCell ⟨X, 1, none⟩ (.int .i64 (k3 : Int))).setCell ⟨X, 2, none⟩ (.int .i64 (k4 : Int))).setCell ⟨X, 3, none⟩ (.int .i64 (k5 : Int))).setCell ⟨X, 4, none⟩ (.int .i64 0)) = w7 at *
    obtain ⟨o1, ho1⟩ : ∃ o1 : Op, ⟨8, (k3 : Int), (k4 : Int), (k5 : Int), 0⟩ = o1 := ⟨_, rfl⟩
    rw [ho1] at hX7
    obtain ⟨p7, hp7, hp77⟩ : ∃ p7, p + 1 + 1 + 1 + 1 = p7 ∧ p7 ≤ p + 5 := ⟨_, rfl, by omega⟩
    rw [hp7] at hr7
    clear ho1
    refine (odd_any g p7 _ _ hr7 (by omega) hn hn2).mono ?_
    rintro e w8 ⟨bo, rfl, p8, hp8, hr8, hg8⟩
    have hX8 : OpAtB w8 X o1 := Box.grown hX7 hg8 (by simp; omega)
    have hR8 := Box.grown hR7 hg8 (by simp; omega)
    have hG8 := grown_trans hG7 hg8
    clear hX7 hR7 hG7 hr7 hg8
    cases bo
    · have HF := Lib.hid (FIN.out w8 o1 p8 hR8 trivial hr8 (by omega) hG8)
      obtain ⟨x0, x1, x2, x3, x4⟩ := hX8.cs
      have r0 := Box.cell hR8 (i := 0) rfl
      have r1 := Box.cell hR8 (i := 1) rfl
      have r2 := Box.cell hR8 (i := 2) rfl
      have r3 := Box.cell hR8 (i := 3) rfl
      have r4 := Box.cell hR8 (i := 4) rfl
      have f0 := Box.free hR8 0
      have f1 := Box.free hR8 1
      have f2 := Box.free hR8 2
      have f3 := Box.free hR8 3
      have f4 := Box.free hR8 4
      clear FIN hX8 hR8 hG8 hr8
      go_wp2_with fail
      (try simp only [Exit.inBlock, Exit.then])
      exact bodyPost_ret (results_cell_row rfl _ _ R 25 #[.int .i64 o1.k, .int .i64 o1.a, .int .i64 o1.b, .int .i64 o1.c, .int .i64 o1.d] (0, 0) _ rfl HF.out.1 Tryd.underlying25 rfl (by kernel_rfl)) rfl HF.out.2
    · go_wp2_with fail
      refine (pick_any g p8 _ _ hr8 (by omega) (by omega) (by omega)).mono ?_
      rintro e w9 ⟨k9, rfl, hk9, -, hr9, hg9, -⟩
      have hk9' : (k9 : Int) < 4 := hk9 (by omega)
      have hX9 : OpAtB w9 X o1 := Box.grown hX8 hg9 (by simp; omega)
      have hR9 := Box.grown hR8 hg9 (by simp; omega)
      have hG9 := grown_trans hG8 hg9
      have hz9 := hr9.lt
      have hXz := Box.lt hX9
      have hRz := Box.lt hR9
      clear hX8 hR8 hG8 hr8 hg9 hk9
      have h4 : k9 = 0 ∨ k9 = 1 ∨ k9 = 2 ∨ k9 = 3 := by omega
      rcases h4 with rfl | rfl | rfl | rfl
      · have hXa := Box.alloc hX9 (.cells #[.int .i64 0, .int .i64 9] 3)
        have hRa := Box.alloc hR9 (.cells #[.int .i64 0, .int .i64 9] 3)
        have hGa := grown_trans hG9 (World.grownBy_alloc w9 (.cells #[.int .i64 0, .int .i64 9] 3) (some g))
        have CP := Lib.hid (pick_any g (p8 + 1) 2 _ (hr9.alloc (.cells #[.int .i64 0, .int .i64 9] 3)) (by omega) (by omega) (by omega))
        clear hr9
        go_wp2_with fail
        refine CP.out.mono ?_
        rintro e wb ⟨j, rfl, hj, -, hrb, hgb, -⟩
        have hj2 : (j : Int) < 2 := hj (by omega)
        have hj3 : 0 ≤ (j : Int) ∧ (j : Int) < 2 := by omega
        obtain ⟨z, hz⟩ : ∃ z : Int, wb.cell? ⟨w9.heap.size, j, none⟩ = some (.int .i64 z) := by
          obtain ⟨s, e, _, _, ht⟩ := Slot.stays (tab_new (n := 2) (R := fun _ => True) (t := 3) #[.int .i64 0, .int .i64 9] hz9 (fun j hj => by
            match j, hj with
            | 0, _ => exact ⟨_, rfl, trivial⟩
            | 1, _ => exact ⟨_, rfl, trivial⟩)) hgb
          injection e with e1 _ _
          injection e1 with e1
          injection e1 with e1 _ _
          rw [e1]
          obtain ⟨z, hz, _⟩ := ht j (by omega)
          exact ⟨z, hz⟩
        have hXb : OpAtB wb X o1 := Box.grown hXa hgb (by simp; omega)
        have hRb := Box.grown hRa hgb (by simp; omega)
        have hGb := grown_trans hGa hgb
        have hXc : OpAtB (wb.setCell ⟨X, 0, none⟩ (.int .i64 z)) X ⟨z, o1.a, o1.b, o1.c, o1.d⟩ := Box.set hXb 0 _
        have hRc := Box.set_other (b := X) hRb (by omega) 0 (.int .i64 z)
        have hGc := grown_own hGb (grown_cell wb X 0 (.int .i64 z)) (fun b hb => by injection hb with hb; omega)
        have hrc : Rdr (wb.setCell ⟨X, 0, none⟩ (.int .i64 z)) g (p8 + 1 + 1) := hrb.kept (fun j hj => Below.heap_setCell wb _ _ j (by simp; omega))
        have HF := Lib.hid (FIN.out _ (⟨z, o1.a, o1.b, o1.c, o1.d⟩ : Op) _ hRc trivial hrc (by omega) hGc)
        obtain ⟨x0, x1, x2, x3, x4⟩ := hXb.cs
        have xf := Box.free hXb 0
        have r0 := Box.cell hRb (i := 0) rfl
        have r1 := Box.cell hRb (i := 1) rfl
        have r2 := Box.cell hRb (i := 2) rfl
        have r3 := Box.cell hRb (i := 3) rfl
        have r4 := Box.cell hRb (i := 4) rfl
        have f0 := Box.free hRb 0
        have f1 := Box.free hRb 1
        have f2 := Box.free hRb 2
        have f3 := Box.free hRb 3
        have f4 := Box.free hRb 4
        clear FIN hXa hRa hGa CP hXb hRb hGb hXc hRc hGc hrc hrb hgb hX9 hR9 hG9 hj
        go_wp2_with fail
        (try simp only [Exit.inBlock, Exit.then])
        exact bodyPost_ret (results_cell_row rfl _ _ R 25 #[.int .i64 z, .int .i64 o1.a, .int .i64 o1.b, .int .i64 o1.c, .int .i64 o1.d] (0, 0) _ rfl HF.out.1 Tryd.underlying25 rfl (by kernel_rfl)) rfl HF.out.2
      · have hXa := Box.alloc hX9 (.cells #[.int .i64 (-1), .int .i64 256] 3)
        have hRa := Box.alloc hR9 (.cells #[.int .i64 (-1), .int .i64 256] 3)
        have hGa := grown_trans hG9 (World.grownBy_alloc w9 (.cells #[.int .i64 (-1), .int .i64 256] 3) (some g))
        have CP := Lib.hid (pick_any g (p8 + 1) 2 _ (hr9.alloc (.cells #[.int .i64 (-1), .int .i64 256] 3)) (by omega) (by omega) (by omega))
        clear hr9
        go_wp2_with fail
        refine CP.out.mono ?_
        rintro e wb ⟨j, rfl, hj, -, hrb, hgb, -⟩
        have hj2 : (j : Int) < 2 := hj (by omega)
        have hj3 : 0 ≤ (j : Int) ∧ (j : Int) < 2 := by omega
        obtain ⟨z, hz⟩ : ∃ z : Int, wb.cell? ⟨w9.heap.size, j, none⟩ = some (.int .i64 z) := by
          obtain ⟨s, e, _, _, ht⟩ := Slot.stays (tab_new (n := 2) (R := fun _ => True) (t := 3) #[.int .i64 (-1), .int .i64 256] hz9 (fun j hj => by
            match j, hj with
            | 0, _ => exact ⟨_, rfl, trivial⟩
            | 1, _ => exact ⟨_, rfl, trivial⟩)) hgb
          injection e with e1 _ _
          injection e1 with e1
          injection e1 with e1 _ _
          rw [e1]
          obtain ⟨z, hz, _⟩ := ht j (by omega)
          exact ⟨z, hz⟩
        have hXb : OpAtB wb X o1 := Box.grown hXa hgb (by simp; omega)
        have hRb := Box.grown hRa hgb (by simp; omega)
        have hGb := grown_trans hGa hgb
        have hXc : OpAtB (wb.setCell ⟨X, 1, none⟩ (.int .i64 z)) X ⟨o1.k, z, o1.b, o1.c, o1.d⟩ := Box.set hXb 1 _
        have hRc := Box.set_other (b := X) hRb (by omega) 1 (.int .i64 z)
        have hGc := grown_own hGb (grown_cell wb X 1 (.int .i64 z)) (fun b hb => by injection hb with hb; omega)
        have hrc : Rdr (wb.setCell ⟨X, 1, none⟩ (.int .i64 z)) g (p8 + 1 + 1) := hrb.kept (fun j hj => Below.heap_setCell wb _ _ j (by simp; omega))
        have HF := Lib.hid (FIN.out _ (⟨o1.k, z, o1.b, o1.c, o1.d⟩ : Op) _ hRc trivial hrc (by omega) hGc)
        obtain ⟨x0, x1, x2, x3, x4⟩ := hXb.cs
        have xf := Box.free hXb 1
        have r0 := Box.cell hRb (i := 0) rfl
        have r1 := Box.cell hRb (i := 1) rfl
        have r2 := Box.cell hRb (i := 2) rfl
        have r3 := Box.cell hRb (i := 3) rfl
        have r4 := Box.cell hRb (i := 4) rfl
        have f0 := Box.free hRb 0
        have f1 := Box.free hRb 1
        have f2 := Box.free hRb 2
        have f3 := Box.free hRb 3
        have f4 := Box.free hRb 4
        clear FIN hXa hRa hGa CP hXb hRb hGb hXc hRc hGc hrc hrb hgb hX9 hR9 hG9 hj
        go_wp2_with fail
        (try simp only [Exit.inBlock, Exit.then])
        exact bodyPost_ret (results_cell_row rfl _ _ R 25 #[.int .i64 o1.k, .int .i64 z, .int .i64 o1.b, .int .i64 o1.c, .int .i64 o1.d] (0, 0) _ rfl HF.out.1 Tryd.underlying25 rfl (by kernel_rfl)) rfl HF.out.2
      · have hXa := Box.alloc hX9 (.cells #[.int .i64 (-1), .int .i64 256] 3)
        have hRa := Box.alloc hR9 (.cells #[.int .i64 (-1), .int .i64 256] 3)
        have hGa := grown_trans hG9 (World.grownBy_alloc w9 (.cells #[.int .i64 (-1), .int .i64 256] 3) (some g))
        have CP := Lib.hid (pick_any g (p8 + 1) 2 _ (hr9.alloc (.cells #[.int .i64 (-1), .int .i64 256] 3)) (by omega) (by omega) (by omega))
        clear hr9
        go_wp2_with fail
        refine CP.out.mono ?_
        rintro e wb ⟨j, rfl, hj, -, hrb, hgb, -⟩
        have hj2 : (j : Int) < 2 := hj (by omega)
        have hj3 : 0 ≤ (j : Int) ∧ (j : Int) < 2 := by omega
        obtain ⟨z, hz⟩ : ∃ z : Int, wb.cell? ⟨w9.heap.size, j, none⟩ = some (.int .i64 z) := by
          obtain ⟨s, e, _, _, ht⟩ := Slot.stays (tab_new (n := 2) (R := fun _ => True) (t := 3) #[.int .i64 (-1), .int .i64 256] hz9 (fun j hj => by
            match j, hj with
            | 0, _ => exact ⟨_, rfl, trivial⟩
            | 1, _ => exact ⟨_, rfl, trivial⟩)) hgb
          injection e with e1 _ _
          injection e1 with e1
          injection e1 with e1 _ _
          rw [e1]
          obtain ⟨z, hz, _⟩ := ht j (by omega)
          exact ⟨z, hz⟩
        have hXb : OpAtB wb X o1 := Box.grown hXa hgb (by simp; omega)
        have hRb := Box.grown hRa hgb (by simp; omega)
        have hGb := grown_trans hGa hgb
        have hXc : OpAtB (wb.setCell ⟨X, 3, none⟩ (.int .i64 z)) X ⟨o1.k, o1.a, o1.b, z, o1.d⟩ := Box.set hXb 3 _
        have hRc := Box.set_other (b := X) hRb (by omega) 3 (.int .i64 z)
        have hGc := grown_own hGb (grown_cell wb X 3 (.int .i64 z)) (fun b hb => by injection hb with hb; omega)
        have hrc : Rdr (wb.setCell ⟨X, 3, none⟩ (.int .i64 z)) g (p8 + 1 + 1) := hrb.kept (fun j hj => Below.heap_setCell wb _ _ j (by simp; omega))
        have HF := Lib.hid (FIN.out _ (⟨o1.k, o1.a, o1.b, z, o1.d⟩ : Op) _ hRc trivial hrc (by omega) hGc)
        obtain ⟨x0, x1, x2, x3, x4⟩ := hXb.cs
        have xf := Box.free hXb 3
        have r0 := Box.cell hRb (i := 0) rfl
        have r1 := Box.cell hRb (i := 1) rfl
        have r2 := Box.cell hRb (i := 2) rfl
        have r3 := Box.cell hRb (i := 3) rfl
        have r4 := Box.cell hRb (i := 4) rfl
        have f0 := Box.free hRb 0
        have f1 := Box.free hRb 1
        have f2 := Box.free hRb 2
        have f3 := Box.free hRb 3
        have f4 := Box.free hRb 4
        clear FIN hXa hRa hGa CP hXb hRb hGb hXc hRc hGc hrc hrb hgb hX9 hR9 hG9 hj
        go_wp2_with fail
        (try simp only [Exit.inBlock, Exit.then])
        exact bodyPost_ret (results_cell_row rfl _ _ R 25 #[.int .i64 o1.k, .int .i64 o1.a, .int .i64 o1.b, .int .i64 z, .int .i64 o1.d] (0, 0) _ rfl HF.out.1 Tryd.underlying25 rfl (by kernel_rfl)) rfl HF.out.2
      · have hXa := Box.alloc hX9 (.cells #[.int .i64 1, .int .i64 7] 3)
        have hRa := Box.alloc hR9 (.cells #[.int .i64 1, .int .i64 7] 3)
        have hGa := grown_trans hG9 (World.grownBy_alloc w9 (.cells #[.int .i64 1, .int .i64 7] 3) (some g))
        have CP := Lib.hid (pick_any g (p8 + 1) 2 _ (hr9.alloc (.cells #[.int .i64 1, .int .i64 7] 3)) (by omega) (by omega) (by omega))
        clear hr9
        go_wp2_with fail
        refine CP.out.mono ?_
        rintro e wb ⟨j, rfl, hj, -, hrb, hgb, -⟩
        have hj2 : (j : Int) < 2 := hj (by omega)
        have hj3 : 0 ≤ (j : Int) ∧ (j : Int) < 2 := by omega
        obtain ⟨z, hz⟩ : ∃ z : Int, wb.cell? ⟨w9.heap.size, j, none⟩ = some (.int .i64 z) := by
          obtain ⟨s, e, _, _, ht⟩ := Slot.stays (tab_new (n := 2) (R := fun _ => True) (t := 3) #[.int .i64 1, .int .i64 7] hz9 (fun j hj => by
            match j, hj with
            | 0, _ => exact ⟨_, rfl, trivial⟩
            | 1, _ => exact ⟨_, rfl, trivial⟩)) hgb
          injection e with e1 _ _
          injection e1 with e1
          injection e1 with e1 _ _
          rw [e1]
          obtain ⟨z, hz, _⟩ := ht j (by omega)
          exact ⟨z, hz⟩
        have hXb : OpAtB wb X o1 := Box.grown hXa hgb (by simp; omega)
        have hRb := Box.grown hRa hgb (by simp; omega)
        have hGb := grown_trans hGa hgb
        have hXc : OpAtB (wb.setCell ⟨X, 4, none⟩ (.int .i64 z)) X ⟨o1.k, o1.a, o1.b, o1.c, z⟩ := Box.set hXb 4 _
        have hRc := Box.set_other (b := X) hRb (by omega) 4 (.int .i64 z)
        have hGc := grown_own hGb (grown_cell wb X 4 (.int .i64 z)) (fun b hb => by injection hb with hb; omega)
        have hrc : Rdr (wb.setCell ⟨X, 4, none⟩ (.int .i64 z)) g (p8 + 1 + 1) := hrb.kept (fun j hj => Below.heap_setCell wb _ _ j (by simp; omega))
        have HF := Lib.hid (FIN.out _ (⟨o1.k, o1.a, o1.b, o1.c, z⟩ : Op) _ hRc trivial hrc (by omega) hGc)
        obtain ⟨x0, x1, x2, x3, x4⟩ := hXb.cs
        have xf := Box.free hXb 4
        have r0 := Box.cell hRb (i := 0) rfl
        have r1 := Box.cell hRb (i := 1) rfl
        have r2 := Box.cell hRb (i := 2) rfl
        have r3 := Box.cell hRb (i := 3) rfl
        have r4 := Box.cell hRb (i := 4) rfl
        have f0 := Box.free hRb 0
        have f1 := Box.free hRb 1
        have f2 := Box.free hRb 2
        have f3 := Box.free hRb 3
        have f4 := Box.free hRb 4
        clear FIN hXa hRa hGa CP hXb hRb hGb hXc hRc hGc hrc hrb hgb hX9 hR9 hG9 hj
        go_wp2_with fail
        (try simp only [Exit.inBlock, Exit.then])
        exact bodyPost_ret (results_cell_row rfl _ _ R 25 #[.int .i64 o1.k, .int .i64 o1.a, .int .i64 o1.b, .int .i64 o1.c, .int .i64 z] (0, 0) _ rfl HF.out.1 Tryd.underlying25 rfl (by kernel_rfl)) rfl HF.out.2
  have e1 : (1 + (k1 : Int) == 1) = false := beq_eq_false_iff_ne.2 (by omega)
  have e7 : (1 + (k1 : Int) == 7) = false := beq_eq_false_iff_ne.2 (by omega)
  have e8 : (1 + (k1 : Int) == 8) = false := beq_eq_false_iff_ne.2 (by omega)
  have hX2 : Box (w1.alloc (.cells #[.int .i64 (1 + (k1 : Int)), .int .i64 0, .int .i64 0, .int .i64 0, .int .i64 0] 25)) w1.heap.size #[.int .i64 (1 + (k1 : Int)), .int .i64 0, .int .i64 0, .int .i64 0, .int .i64 0] 25 := Box.new w1 _ _
  have hR2 := Box.alloc hR1 (.cells #[.int .i64 (1 + (k1 : Int)), .int .i64 0, .int .i64 0, .int .i64 0, .int .i64 0] 25)
  have hG2 := grown_trans hG1 (World.grownBy_alloc w1 (.cells #[.int .i64 (1 + (k1 : Int)), .int .i64 0, .int .i64 0, .int .i64 0, .int .i64 0] 25) (some g))
  have hr2 := hr1.alloc (.cells #[.int .i64 (1 + (k1 : Int)), .int .i64 0, .int .i64 0, .int .i64 0, .int .i64 0] 25)
  obtain ⟨X, hXX, hXR⟩ : ∃ X, w1.heap.size = X ∧ R < X := ⟨_, rfl, hRz1⟩
  rw [hXX] at hX2
  clear hR1 hG1 hr1
  have HX2 := Lib.hid hX2
  have HR2 := Lib.hid hR2
  have HG2 := Lib.hid hG2
  have Hr2 := Lib.hid hr2
  clear hX2 hR2 hG2 hr2
  go_wp2_with fail
  try rw [hXX]
  have hX2 := HX2.out
  have hR2 := HR2.out
  have hG2 := HG2.out
  have hr2 := Hr2.out
  clear HX2 HR2 HG2 Hr2
  generalize w1.alloc (.cells #[.int .i64 (1 + (k1 : Int)), .int .i64 0, .int .i64 0, .int .i64 0, .int .i64 0] 25) = w2 at *
  obtain ⟨o1, ho1⟩ : ∃ o1 : Op, ⟨(1 + (k1 : Int)), 0, 0, 0, 0⟩ = o1 := ⟨_, rfl⟩
  have hX7 : OpAtB w2 X o1 := by rw [← ho1]; exact hX2
  have hR7 := hR2
  have hG7 := hG2
  obtain ⟨p7, hp7, hp77⟩ : ∃ p7, p + 1 = p7 ∧ p7 ≤ p + 5 := ⟨_, rfl, by omega⟩
  rw [hp7] at hr2
  have hr7 := hr2
  clear ho1 hX2 hR2 hG2 hr2
  refine (odd_any g p7 _ _ hr7 (by omega) hn hn2).mono ?_
  rintro e w8 ⟨bo, rfl, p8, hp8, hr8, hg8⟩
  have hX8 : OpAtB w8 X o1 := Box.grown hX7 hg8 (by simp; omega)
  have hR8 := Box.grown hR7 hg8 (by simp; omega)
  have hG8 := grown_trans hG7 hg8
  clear hX7 hR7 hG7 hr7 hg8
  cases bo
  · have HF := Lib.hid (FIN.out w8 o1 p8 hR8 trivial hr8 (by omega) hG8)
    obtain ⟨x0, x1, x2, x3, x4⟩ := hX8.cs
    have r0 := Box.cell hR8 (i := 0) rfl
    have r1 := Box.cell hR8 (i := 1) rfl
    have r2 := Box.cell hR8 (i := 2) rfl
    have r3 := Box.cell hR8 (i := 3) rfl
    have r4 := Box.cell hR8 (i := 4) rfl
    have f0 := Box.free hR8 0
    have f1 := Box.free hR8 1
    have f2 := Box.free hR8 2
    have f3 := Box.free hR8 3
    have f4 := Box.free hR8 4
    clear FIN hX8 hR8 hG8 hr8
    go_wp2_with fail
    (try simp only [Exit.inBlock, Exit.then])
    exact bodyPost_ret (results_cell_row rfl _ _ R 25 #[.int .i64 o1.k, .int .i64 o1.a, .int .i64 o1.b, .int .i64 o1.c, .int .i64 o1.d] (0, 0) _ rfl HF.out.1 Tryd.underlying25 rfl (by kernel_rfl)) rfl HF.out.2
  · go_wp2_with fail
    refine (pick_any g p8 _ _ hr8 (by omega) (by omega) (by omega)).mono ?_
    rintro e w9 ⟨k9, rfl, hk9, -, hr9, hg9, -⟩
    have hk9' : (k9 : Int) < 4 := hk9 (by omega)
    have hX9 : OpAtB w9 X o1 := Box.grown hX8 hg9 (by simp; omega)
    have hR9 := Box.grown hR8 hg9 (by simp; omega)
    have hG9 := grown_trans hG8 hg9
    have hz9 := hr9.lt
    have hXz := Box.lt hX9
    have hRz := Box.lt hR9
    clear hX8 hR8 hG8 hr8 hg9 hk9
    have h4 : k9 = 0 ∨ k9 = 1 ∨ k9 = 2 ∨ k9 = 3 := by omega
    rcases h4 with rfl | rfl | rfl | rfl
    · have hXa := Box.alloc hX9 (.cells #[.int .i64 0, .int .i64 9] 3)
      have hRa := Box.alloc hR9 (.cells #[.int .i64 0, .int .i64 9] 3)
      have hGa := grown_trans hG9 (World.grownBy_alloc w9 (.cells #[.int .i64 0, .int .i64 9] 3) (some g))
      have CP := Lib.hid (pick_any g (p8 + 1) 2 _ (hr9.alloc (.cells #[.int .i64 0, .int .i64 9] 3)) (by omega) (by omega) (by omega))
      clear hr9
      go_wp2_with fail
      refine CP.out.mono ?_
      rintro e wb ⟨j, rfl, hj, -, hrb, hgb, -⟩
      have hj2 : (j : Int) < 2 := hj (by omega)
      have hj3 : 0 ≤ (j : Int) ∧ (j : Int) < 2 := by omega
      obtain ⟨z, hz⟩ : ∃ z : Int, wb.cell? ⟨w9.heap.size, j, none⟩ = some (.int .i64 z) := by
        obtain ⟨s, e, _, _, ht⟩ := Slot.stays (tab_new (n := 2) (R := fun _ => True) (t := 3) #[.int .i64 0, .int .i64 9] hz9 (fun j hj => by
          match j, hj with
          | 0, _ => exact ⟨_, rfl, trivial⟩
          | 1, _ => exact ⟨_, rfl, trivial⟩)) hgb
        injection e with e1 _ _
        injection e1 with e1
        injection e1 with e1 _ _
        rw [e1]
        obtain ⟨z, hz, _⟩ := ht j (by omega)
        exact ⟨z, hz⟩
      have hXb : OpAtB wb X o1 := Box.grown hXa hgb (by simp; omega)
      have hRb := Box.grown hRa hgb (by simp; omega)
      have hGb := grown_trans hGa hgb
      have hXc : OpAtB (wb.setCell ⟨X, 0, none⟩ (.int .i64 z)) X ⟨z, o1.a, o1.b, o1.c, o1.d⟩ := Box.set hXb 0 _
      have hRc := Box.set_other (b := X) hRb (by omega) 0 (.int .i64 z)
      have hGc := grown_own hGb (grown_cell wb X 0 (.int .i64 z)) (fun b hb => by injection hb with hb; omega)
      have hrc : Rdr (wb.setCell ⟨X, 0, none⟩ (.int .i64 z)) g (p8 + 1 + 1) := hrb.kept (fun j hj => Below.heap_setCell wb _ _ j (by simp; omega))
      have HF := Lib.hid (FIN.out _ (⟨z, o1.a, o1.b, o1.c, o1.d⟩ : Op) _ hRc trivial hrc (by omega) hGc)
      obtain ⟨x0, x1, x2, x3, x4⟩ := hXb.cs
      have xf := Box.free hXb 0
      have r0 := Box.cell hRb (i := 0) rfl
      have r1 := Box.cell hRb (i := 1) rfl
      have r2 := Box.cell hRb (i := 2) rfl
      have r3 := Box.cell hRb (i := 3) rfl
      have r4 := Box.cell hRb (i := 4) rfl
      have f0 := Box.free hRb 0
      have f1 := Box.free hRb 1
      have f2 := Box.free hRb 2
      have f3 := Box.free hRb 3
      have f4 := Box.free hRb 4
      clear FIN hXa hRa hGa CP hXb hRb hGb hXc hRc hGc hrc hrb hgb hX9 hR9 hG9 hj
      go_wp2_with fail
      (try simp only [Exit.inBlock, Exit.then])
      exact bodyPost_ret (results_cell_row rfl _ _ R 25 #[.int .i64 z, .int .i64 o1.a, .int .i64 o1.b, .int .i64 o1.c, .int .i64 o1.d] (0, 0) _ rfl HF.out.1 Tryd.underlying25 rfl (by kernel_rfl)) rfl HF.out.2
    · have hXa := Box.alloc hX9 (.cells #[.int .i64 (-1), .int .i64 256] 3)
      have hRa := Box.alloc hR9 (.cells #[.int .i64 (-1), .int .i64 256] 3)
      have hGa := grown_trans hG9 (World.grownBy_alloc w9 (.cells #[.int .i64 (-1), .int .i64 256] 3) (some g))
      have CP := Lib.hid (pick_any g (p8 + 1) 2 _ (hr9.alloc (.cells #[.int .i64 (-1), .int .i64 256] 3)) (by omega) (by omega) (by omega))
      clear hr9
      go_wp2_with fail
      refine CP.out.mono ?_
      rintro e wb ⟨j, rfl, hj, -, hrb, hgb, -⟩
      have hj2 : (j : Int) < 2 := hj (by omega)
      have hj3 : 0 ≤ (j : Int) ∧ (j : Int) < 2 := by omega
      obtain ⟨z, hz⟩ : ∃ z : Int, wb.cell? ⟨w9.heap.size, j, none⟩ = some (.int .i64 z) := by
        obtain ⟨s, e, _, _, ht⟩ := Slot.stays (tab_new (n := 2) (R := fun _ => True) (t := 3) #[.int .i64 (-1), .int .i64 256] hz9 (fun j hj => by
          match j, hj with
          | 0, _ => exact ⟨_, rfl, trivial⟩
          | 1, _ => exact ⟨_, rfl, trivial⟩)) hgb
        injection e with e1 _ _
        injection e1 with e1
        injection e1 with e1 _ _
        rw [e1]
        obtain ⟨z, hz, _⟩ := ht j (by omega)
        exact ⟨z, hz⟩
      have hXb : OpAtB wb X o1 := Box.grown hXa hgb (by simp; omega)
      have hRb := Box.grown hRa hgb (by simp; omega)
      have hGb := grown_trans hGa hgb
      have hXc : OpAtB (wb.setCell ⟨X, 1, none⟩ (.int .i64 z)) X ⟨o1.k, z, o1.b, o1.c, o1.d⟩ := Box.set hXb 1 _
      have hRc := Box.set_other (b := X) hRb (by omega) 1 (.int .i64 z)
      have hGc := grown_own hGb (grown_cell wb X 1 (.int .i64 z)) (fun b hb => by injection hb with hb; omega)
      have hrc : Rdr (wb.setCell ⟨X, 1, none⟩ (.int .i64 z)) g (p8 + 1 + 1) := hrb.kept (fun j hj => Below.heap_setCell wb _ _ j (by simp; omega))
      have HF := Lib.hid (FIN.out _ (⟨o1.k, z, o1.b, o1.c, o1.d⟩ : Op) _ hRc trivial hrc (by omega) hGc)
      obtain ⟨x0, x1, x2, x3, x4⟩ := hXb.cs
      have xf := Box.free hXb 1
      have r0 := Box.cell hRb (i := 0) rfl
      have r1 := Box.cell hRb (i := 1) rfl
      have r2 := Box.cell hRb (i := 2) rfl
      have r3 := Box.cell hRb (i := 3) rfl
      have r4 := Box.cell hRb (i := 4) rfl
      have f0 := Box.free hRb 0
      have f1 := Box.free hRb 1
      have f2 := Box.free hRb 2
      have f3 := Box.free hRb 3
      have f4 := Box.free hRb 4
      clear FIN hXa hRa hGa CP hXb hRb hGb hXc hRc hGc hrc hrb hgb hX9 hR9 hG9 hj
      go_wp2_with fail
      (try simp only [Exit.inBlock, Exit.then])
      exact bodyPost_ret (results_cell_row rfl _ _ R 25 #[.int .i64 o1.k, .int .i64 z, .int .i64 o1.b, .int .i64 o1.c, .int .i64 o1.d] (0, 0) _ rfl HF.out.1 Tryd.underlying25 rfl (by kernel_rfl)) rfl HF.out.2
    · have hXa := Box.alloc hX9 (.cells #[.int .i64 (-1), .int .i64 256] 3)
      have hRa := Box.alloc hR9 (.cells #[.int .i64 (-1), .int .i64 256] 3)
      have hGa := grown_trans hG9 (World.grownBy_alloc w9 (.cells #[.int .i64 (-1), .int .i64 256] 3) (some g))
      have CP := Lib.hid (pick_any g (p8 + 1) 2 _ (hr9.alloc (.cells #[.int .i64 (-1), .int .i64 256] 3)) (by omega) (by omega) (by omega))
      clear hr9
      go_wp2_with fail
      refine CP.out.mono ?_
      rintro e wb ⟨j, rfl, hj, -, hrb, hgb, -⟩
      have hj2 : (j : Int) < 2 := hj (by omega)
      have hj3 : 0 ≤ (j : Int) ∧ (j : Int) < 2 := by omega
      obtain ⟨z, hz⟩ : ∃ z : Int, wb.cell? ⟨w9.heap.size, j, none⟩ = some (.int .i64 z) := by
        obtain ⟨s, e, _, _, ht⟩ := Slot.stays (tab_new (n := 2) (R := fun _ => True) (t := 3) #[.int .i64 (-1), .int .i64 256] hz9 (fun j hj => by
          match j, hj with
          | 0, _ => exact ⟨_, rfl, trivial⟩
          | 1, _ => exact ⟨_, rfl, trivial⟩)) hgb
        injection e with e1 _ _
        injection e1 with e1
        injection e1 with e1 _ _
        rw [e1]
        obtain ⟨z, hz, _⟩ := ht j (by omega)
        exact ⟨z, hz⟩
      have hXb : OpAtB wb X o1 := Box.grown hXa hgb (by simp; omega)
      have hRb := Box.grown hRa hgb (by simp; omega)
      have hGb := grown_trans hGa hgb
      have hXc : OpAtB (wb.setCell ⟨X, 3, none⟩ (.int .i64 z)) X ⟨o1.k, o1.a, o1.b, z, o1.d⟩ := Box.set hXb 3 _
      have hRc := Box.set_other (b := X) hRb (by omega) 3 (.int .i64 z)
      have hGc := grown_own hGb (grown_cell wb X 3 (.int .i64 z)) (fun b hb => by injection hb with hb; omega)
      have hrc : Rdr (wb.setCell ⟨X, 3, none⟩ (.int .i64 z)) g (p8 + 1 + 1) := hrb.kept (fun j hj => Below.heap_setCell wb _ _ j (by simp; omega))
      have HF := Lib.hid (FIN.out _ (⟨o1.k, o1.a, o1.b, z, o1.d⟩ : Op) _ hRc trivial hrc (by omega) hGc)
      obtain ⟨x0, x1, x2, x3, x4⟩ := hXb.cs
      have xf := Box.free hXb 3
      have r0 := Box.cell hRb (i := 0) rfl
      have r1 := Box.cell hRb (i := 1) rfl
      have r2 := Box.cell hRb (i := 2) rfl
      have r3 := Box.cell hRb (i := 3) rfl
      have r4 := Box.cell hRb (i := 4) rfl
      have f0 := Box.free hRb 0
      have f1 := Box.free hRb 1
      have f2 := Box.free hRb 2
      have f3 := Box.free hRb 3
      have f4 := Box.free hRb 4
      clear FIN hXa hRa hGa CP hXb hRb hGb hXc hRc hGc hrc hrb hgb hX9 hR9 hG9 hj
      go_wp2_with fail
      (try simp only [Exit.inBlock, Exit.then])
      exact bodyPost_ret (results_cell_row rfl _ _ R 25 #[.int .i64 o1.k, .int .i64 o1.a, .int .i64 o1.b, .int .i64 z, .int .i64 o1.d] (0, 0) _ rfl HF.out.1 Tryd.underlying25 rfl (by kernel_rfl)) rfl HF.out.2
    · have hXa := Box.alloc hX9 (.cells #[.int .i64 1, .int .i64 7] 3)
      have hRa := Box.alloc hR9 (.cells #[.int .i64 1, .int .i64 7] 3)
      have hGa := grown_trans hG9 (World.grownBy_alloc w9 (.cells #[.int .i64 1, .int .i64 7] 3) (some g))
      have CP := Lib.hid (pick_any g (p8 + 1) 2 _ (hr9.alloc (.cells #[.int .i64 1, .int .i64 7] 3)) (by omega) (by omega) (by omega))
      clear hr9
      go_wp2_with fail
      refine CP.out.mono ?_
      rintro e wb ⟨j, rfl, hj, -, hrb, hgb, -⟩
      have hj2 : (j : Int) < 2 := hj (by omega)
      have hj3 : 0 ≤ (j : Int) ∧ (j : Int) < 2 := by omega
      obtain ⟨z, hz⟩ : ∃ z : Int, wb.cell? ⟨w9.heap.size, j, none⟩ = some (.int .i64 z) := by
        obtain ⟨s, e, _, _, ht⟩ := Slot.stays (tab_new (n := 2) (R := fun _ => True) (t := 3) #[.int .i64 1, .int .i64 7] hz9 (fun j hj => by
          match j, hj with
          | 0, _ => exact ⟨_, rfl, trivial⟩
          | 1, _ => exact ⟨_, rfl, trivial⟩)) hgb
        injection e with e1 _ _
        injection e1 with e1
        injection e1 with e1 _ _
        rw [e1]
        obtain ⟨z, hz, _⟩ := ht j (by omega)
        exact ⟨z, hz⟩
      have hXb : OpAtB wb X o1 := Box.grown hXa hgb (by simp; omega)
      have hRb := Box.grown hRa hgb (by simp; omega)
      have hGb := grown_trans hGa hgb
      have hXc : OpAtB (wb.setCell ⟨X, 4, none⟩ (.int .i64 z)) X ⟨o1.k, o1.a, o1.b, o1.c, z⟩ := Box.set hXb 4 _
      have hRc := Box.set_other (b := X) hRb (by omega) 4 (.int .i64 z)
      have hGc := grown_own hGb (grown_cell wb X 4 (.int .i64 z)) (fun b hb => by injection hb with hb; omega)
      have hrc : Rdr (wb.setCell ⟨X, 4, none⟩ (.int .i64 z)) g (p8 + 1 + 1) := hrb.kept (fun j hj => Below.heap_setCell wb _ _ j (by simp; omega))
      have HF := Lib.hid (FIN.out _ (⟨o1.k, o1.a, o1.b, o1.c, z⟩ : Op) _ hRc trivial hrc (by omega) hGc)
      obtain ⟨x0, x1, x2, x3, x4⟩ := hXb.cs
      have xf := Box.free hXb 4
      have r0 := Box.cell hRb (i := 0) rfl
      have r1 := Box.cell hRb (i := 1) rfl
      have r2 := Box.cell hRb (i := 2) rfl
      have r3 := Box.cell hRb (i := 3) rfl
      have r4 := Box.cell hRb (i := 4) rfl
      have f0 := Box.free hRb 0
      have f1 := Box.free hRb 1
      have f2 := Box.free hRb 2
      have f3 := Box.free hRb 3
      have f4 := Box.free hRb 4
      clear FIN hXa hRa hGa CP hXb hRb hGb hXc hRc hGc hrc hrb hgb hX9 hR9 hG9 hj
      go_wp2_with fail
      (try simp only [Exit.inBlock, Exit.then])
      exact bodyPost_ret (results_cell_row rfl _ _ R 25 #[.int .i64 o1.k, .int .i64 o1.a, .int .i64 o1.b, .int .i64 o1.c, .int .i64 z] (0, 0) _ rfl HF.out.1 Tryd.underlying25 rfl (by kernel_rfl)) rfl HF.out.2
end Go.Proofs.YtbejafbpipdbjaaDoor
