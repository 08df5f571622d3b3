/-
  RasAt of the reference is the pixel at a column and a row, or nothing; nothing that was there changes. Condition: the raster's pixels are read from memory that was there.
-/
import Derived.Test.YtdipihdpfkoddabRasS
namespace Go.Proofs.Ytdipihdpfkoddab
open Go.RowKit

/-- A row of four cells, written anew. -/
theorem fin_px {W : World} {R : Nat} {a b c d : Value} {t : TypeId} (h : W.heap[R]? = some (.cells #[a, b, c, d] t (0, 0))) (p : Px) : ((((W.setCell ⟨R, 0, none⟩ (.int .i64 p.r)).setCell ⟨R, 1, none⟩ (.int .i64 p.g)).setCell ⟨R, 2, none⟩ (.int .i64 p.b)).setCell ⟨R, 3, none⟩ (.int .i64 p.a)).heap[R]? = some (.cells #[.int .i64 p.r, .int .i64 p.g, .int .i64 p.b, .int .i64 p.a] t (0, 0)) := by
  have h1 := heap_setCell_same W R 0 _ _ (.int .i64 p.r) h
  have h2 := heap_setCell_same _ R 1 _ _ (.int .i64 p.g) h1
  have h3 := heap_setCell_same _ R 2 _ _ (.int .i64 p.b) h2
  have h4 := heap_setCell_same _ R 3 _ _ (.int .i64 p.a) h3
  simpa using h4
theorem below_px {W0 W : World} {B R : Nat} (h : Below B W0 W) (hR : B ≤ R) (a b c d : Value) : Below B W0 ((((W.setCell ⟨R, 0, none⟩ a).setCell ⟨R, 1, none⟩ b).setCell ⟨R, 2, none⟩ c).setCell ⟨R, 3, none⟩ d) :=
  (((h.setCell hR _).setCell hR _).setCell hR _).setCell hR _
/-- No pixel. -/
def px0 : Px := ⟨0, 0, 0, 0⟩
/-- Whether there is such a place. -/
def atB (W H x y : Int) (l : List Px) : Bool := rasB W H l && decide ((0 ≤ x ∧ x < W) ∧ 0 ≤ y ∧ y < H)
/-- The pixel at a column and a row. -/
def rasAtP (W H x y : Int) (l : List Px) : Px := if atB W H x y l then (l[(y * W + x).toNat]?).getD px0 else px0
theorem rasB_parts {W H : Int} {l : List Px} (h : rasB W H l = true) : (1 ≤ W ∧ W ≤ 6) ∧ (1 ≤ H ∧ H ≤ 6) ∧ (l.length : Int) = W * H ∧ l.all pixB = true := by
  unfold rasB at h
  rw [Bool.and_eq_true, decide_eq_true_eq] at h
  exact ⟨h.1.1, h.1.2.1, h.1.2.2, h.2⟩
theorem place_lt {W H x y : Int} (hW : 1 ≤ W ∧ W ≤ 6) (hx : 0 ≤ x ∧ x < W) (hy : 0 ≤ y ∧ y < H) : 0 ≤ y * W + x ∧ y * W + x < W * H ∧ y * W ≤ 6 * y ∧ 0 ≤ y * W := by
  have e : W = 1 ∨ W = 2 ∨ W = 3 ∨ W = 4 ∨ W = 5 ∨ W = 6 := by omega
  rcases e with rfl | rfl | rfl | rfl | rfl | rfl <;> omega
set_option maxHeartbeats 1000000 in
theorem specRasAt_any (W H x y : Int) (A : Option Addr) (c : Nat) (l : List Px) (w : World) (hs : l.length ≤ 1073741824) (h : HasP w w.heap.size A l) :
    Calls Try.prog 17 #[rasV W H A l.length c, .int .i64 x, .int .i64 y] w fun e w' => e = .returned (rasAtP W H x y l).v ∧ Below w.heap.size w w' := by
  have CR := Lib.hid fun W0 hh => specRasOk_any W H A c l W0 hs hh
  unfold rasV at CR ⊢
  have C := Lib.hid l1In_any
  have hs2 : (l.length : Int) ≤ 1073741824 := by omega
  have HH := Lib.hid h
  clear h hs
  go_enter Try.func17, Try.ntmps17
  go_wp2_with fail
  generalize hW0 : (w.alloc (.cells #[.int .i64 W, .int .i64 H, .slice A l.length c] 25)).alloc (.cells #[.int .i64 0, .int .i64 0, .int .i64 0, .int .i64 0] 28) = w0
  have hb0 : Below w.heap.size w w0 := by rw [← hW0]; exact ((Below.refl _ w).alloc (Nat.le_refl _) _).alloc (by simp) _
  have hx0 : w0.heap[w.heap.size]? = some (.cells #[.int .i64 W, .int .i64 H, .slice A l.length c] 25 (0, 0)) := by rw [← hW0, Below.heap_alloc _ _ _ (by simp)]; exact heap_alloc_new w _
  have hy0 : w0.heap[w.heap.size + 1]? = some (.cells #[.int .i64 0, .int .i64 0, .int .i64 0, .int .i64 0] 28 (0, 0)) := by
    rw [← hW0]
    have := heap_alloc_new (w.alloc (.cells #[.int .i64 W, .int .i64 H, .slice A l.length c] 25)) (.cells #[.int .i64 0, .int .i64 0, .int .i64 0, .int .i64 0] 28)
    simpa using this
  have hl1 : w.heap.size + 1 < w0.heap.size := (Array.getElem?_eq_some_iff.1 hy0).1
  clear hW0
  have hh0 : HasP w0 w0.heap.size A l := (HH.out.below hb0).wider (by omega)
  refine (CR.out w0 hh0).mono ?_
  rintro e w1 ⟨rfl, b1⟩
  have HX := Lib.hid ((b1.block _ (by omega)).trans hx0)
  have HY := Lib.hid ((b1.block _ hl1).trans hy0)
  have HB := Lib.hid (hb0.trans (b1.mono (by omega)))
  have HP := Lib.hid (hh0.carry b1 (Nat.le_refl _) b1.size)
  clear b1 hh0 hx0 hy0 hb0 CR HH
  have r0 : w1.cell? ⟨w.heap.size + 1, 0, none⟩ = some (.int .i64 0) := by rw [cell_of_row w1 _ 0 _ _ _ HY.out]; rfl
  have r1 : w1.cell? ⟨w.heap.size + 1, 1, none⟩ = some (.int .i64 0) := by rw [cell_of_row w1 _ 1 _ _ _ HY.out]; rfl
  have r2 : w1.cell? ⟨w.heap.size + 1, 2, none⟩ = some (.int .i64 0) := by rw [cell_of_row w1 _ 2 _ _ _ HY.out]; rfl
  have r3 : w1.cell? ⟨w.heap.size + 1, 3, none⟩ = some (.int .i64 0) := by rw [cell_of_row w1 _ 3 _ _ _ HY.out]; rfl
  have q0 : w1.frozen? ⟨w.heap.size + 1, 0, none⟩ = false := by simp [World.frozen?, HY.out]
  have q1 : w1.frozen? ⟨w.heap.size + 1, 1, none⟩ = false := by simp [World.frozen?, HY.out]
  have q2 : w1.frozen? ⟨w.heap.size + 1, 2, none⟩ = false := by simp [World.frozen?, HY.out]
  have q3 : w1.frozen? ⟨w.heap.size + 1, 3, none⟩ = false := by simp [World.frozen?, HY.out]
  have p0 : w1.cell? ⟨w.heap.size, 0, none⟩ = some (.int .i64 W) := by rw [cell_of_row w1 _ 0 _ _ _ HX.out]; rfl
  have p1 : w1.cell? ⟨w.heap.size, 1, none⟩ = some (.int .i64 H) := by rw [cell_of_row w1 _ 1 _ _ _ HX.out]; rfl
  have p2 : w1.cell? ⟨w.heap.size, 2, none⟩ = some (.slice A l.length c) := by rw [cell_of_row w1 _ 2 _ _ _ HX.out]; rfl
  have NONE : Hid (∀ hn : atB W H x y l = false, Ending.returned (.agg #[.int .i64 0, .int .i64 0, .int .i64 0, .int .i64 0]) = .returned (rasAtP W H x y l).v) := Lib.hid fun hn => by unfold rasAtP; rw [hn]; rfl
  cases hok : rasB W H l
  · have HN := Lib.hid (NONE.out (by unfold atB; rw [hok]; rfl))
    clear NONE
    go_wp2_with fail
    (try simp only [Exit.inBlock, Exit.then])
    refine bodyPost_ret (results_cell_row rfl _ _ (w.heap.size + 1) 28 #[.int .i64 0, .int .i64 0, .int .i64 0, .int .i64 0] (0, 0) _ rfl (fin_px HY.out px0) Try.underlying28 rfl (by kernel_rfl)) rfl ?_
    exact ⟨HN.out, below_px HB.out (by omega) _ _ _ _⟩
  obtain ⟨hW, hH, hl, -⟩ := rasB_parts hok
  have h36 := mul36 hW hH
  go_wp2_with fail
  refine (C.out x 0 (W - 1) _).mono ?_
  rintro e w' ⟨rfl, rfl⟩
  by_cases hx : ¬ (0 ≤ x ∧ x ≤ W - 1)
  · have hd : decide (0 ≤ x ∧ x ≤ W - 1) = false := decide_eq_false hx
    have HN := Lib.hid (NONE.out (by unfold atB; rw [decide_eq_false (p := (0 ≤ x ∧ x < W) ∧ 0 ≤ y ∧ y < H) (by omega), Bool.and_false]))
    clear NONE hok
    go_wp2_with fail
    (try simp only [Exit.inBlock, Exit.then])
    refine bodyPost_ret (results_cell_row rfl _ _ (w.heap.size + 1) 28 #[.int .i64 0, .int .i64 0, .int .i64 0, .int .i64 0] (0, 0) _ rfl (fin_px HY.out px0) Try.underlying28 rfl (by kernel_rfl)) rfl ?_
    exact ⟨HN.out, below_px HB.out (by omega) _ _ _ _⟩
  have hx := Decidable.not_not.1 hx
  have hdx : decide (0 ≤ x ∧ x ≤ W - 1) = true := decide_eq_true hx
  go_wp2_with fail
  refine (C.out y 0 (H - 1) _).mono ?_
  rintro e w' ⟨rfl, rfl⟩
  by_cases hy : ¬ (0 ≤ y ∧ y ≤ H - 1)
  · have hd : decide (0 ≤ y ∧ y ≤ H - 1) = false := decide_eq_false hy
    have HN := Lib.hid (NONE.out (by unfold atB; rw [decide_eq_false (p := (0 ≤ x ∧ x < W) ∧ 0 ≤ y ∧ y < H) (by omega), Bool.and_false]))
    clear NONE hok
    go_wp2_with fail
    (try simp only [Exit.inBlock, Exit.then])
    refine bodyPost_ret (results_cell_row rfl _ _ (w.heap.size + 1) 28 #[.int .i64 0, .int .i64 0, .int .i64 0, .int .i64 0] (0, 0) _ rfl (fin_px HY.out px0) Try.underlying28 rfl (by kernel_rfl)) rfl ?_
    exact ⟨HN.out, below_px HB.out (by omega) _ _ _ _⟩
  have hy := Decidable.not_not.1 hy
  have hdy : decide (0 ≤ y ∧ y ≤ H - 1) = true := decide_eq_true hy
  obtain ⟨g1, g2, g3, g4⟩ := place_lt (H := H) (x := x) (y := y) hW (by omega) (by omega)
  obtain ⟨i, hi⟩ : ∃ i : Nat, y * W + x = (i : Int) := ⟨(y * W + x).toNat, by omega⟩
  have hil : i < l.length := by omega
  obtain ⟨b, o, p, hA, hbB, hp, d0, d1, d2, d3⟩ := HP.out.spot hil
  subst hA
  have HE : Hid (rasAtP W H x y l = p) := Lib.hid (by
    unfold rasAtP atB
    rw [hok, decide_eq_true (p := (0 ≤ x ∧ x < W) ∧ 0 ≤ y ∧ y < H) (by omega), hi, Int.toNat_natCast, hp]
    rfl)
  have hw1 : wrap64 (y * W) = y * W := by unfold wrap64; omega
  have hw2 : wrap64 (y * W + x) = (i : Int) := by rw [hi]; unfold wrap64; omega
  clear NONE hok hp
  go_wp2_with fail
  (try simp only [Exit.inBlock, Exit.then])
  refine bodyPost_ret (results_cell_row rfl _ _ (w.heap.size + 1) 28 #[.int .i64 p.r, .int .i64 p.g, .int .i64 p.b, .int .i64 p.a] (0, 0) _ rfl (fin_px HY.out p) Try.underlying28 rfl (by kernel_rfl)) rfl ?_
  exact ⟨by rw [HE.out]; rfl, below_px HB.out (by omega) _ _ _ _⟩
end Go.Proofs.Ytdipihdpfkoddab
