/-
  RasAt of the program is the pixel at a column and a row, or nothing; nothing that was there changes. Conditions: the raster's pixels are read from memory that was there, and its slice has room for them.
-/
import Derived.Test.YthdggnfffebnlaaDoorRasI
import Derived.Test.YthdggnfffebnlaaDoorRasBox
import Derived.Test.YthdggnfffebnlaaDoorRasRow
namespace Go.Proofs.YthdggnfffebnlaaDoor
set_option maxRecDepth 4000
open Go.RowKit

set_option maxHeartbeats 1000000 in
theorem implRasAt_any (W H x y : Int) (A : Option Addr) (c : Nat) (l : List Px) (w : World) (hs : l.length ≤ 1073741824) (hc : l.length ≤ c) (h : HasP w w.heap.size A l) :
    Calls Tryd.prog 24 #[rasV W H A l.length c, .int .i64 x, .int .i64 y] w fun e w' => e = .returned (rasAtP W H x y l).v ∧ Below w.heap.size w w' := by
  have CR := Lib.hid fun W0 hh => implRasOk_any W H A c l W0 hs hh
  unfold rasV at CR ⊢
  have hs2 : (l.length : Int) ≤ 1073741824 := by omega
  have HH := Lib.hid h
  clear h hs
  go_enter Tryd.func24, Tryd.ntmps24
  go_wp2_with fail
  generalize hW0 : (w.alloc (.cells #[.int .i64 W, .int .i64 H, .slice A l.length c] 34)).alloc (.cells #[.int .i64 0, .int .i64 0, .int .i64 0, .int .i64 0] 40) = w0
  have hb0 : Below w.heap.size w w0 := by rw [← hW0]; exact ((Below.refl _ w).alloc (Nat.le_refl _) _).alloc (by simp) _
  have hx0 : RasAtB w0 w.heap.size W H A l.length c 34 := by unfold RasAtB; rw [← hW0, Below.heap_alloc _ _ _ (by simp)]; exact heap_alloc_new w _
  have hy0 : w0.heap[w.heap.size + 1]? = some (.cells #[.int .i64 0, .int .i64 0, .int .i64 0, .int .i64 0] 40 (0, 0)) := by
    rw [← hW0]
    have := heap_alloc_new (w.alloc (.cells #[.int .i64 W, .int .i64 H, .slice A l.length c] 34)) (.cells #[.int .i64 0, .int .i64 0, .int .i64 0, .int .i64 0] 40)
    simpa using this
  have hl1 : w.heap.size + 1 < w0.heap.size := (Array.getElem?_eq_some_iff.1 hy0).1
  clear hW0
  have hh0 : HasP w0 w0.heap.size A l := (HH.out.below hb0).wider (by omega)
  refine (CR.out w0 hh0).mono ?_
  rintro e w1 ⟨rfl, b1⟩
  have HX := Lib.hid (hx0.below b1 (by omega))
  have HY := Lib.hid ((b1.block _ hl1).trans hy0)
  have HB := Lib.hid (hb0.trans (b1.mono (by omega)))
  have HP := Lib.hid (hh0.carry b1 (Nat.le_refl _) b1.size)
  clear b1 hh0 hx0 hy0 hb0 CR HH
  have r0 : w1.cell? ⟨w.heap.size + 1, 0, none⟩ = some (.int .i64 0) := by rw [cell_of_row w1 _ 0 _ _ _ HY.out]; rfl
  have r1 : w1.cell? ⟨w.heap.size + 1, 1, none⟩ = some (.int .i64 0) := by rw [cell_of_row w1 _ 1 _ _ _ HY.out]; rfl
  have r2 : w1.cell? ⟨w.heap.size + 1, 2, none⟩ = some (.int .i64 0) := by rw [cell_of_row w1 _ 2 _ _ _ HY.out]; rfl
  have r3 : w1.cell? ⟨w.heap.size + 1, 3, none⟩ = some (.int .i64 0) := by rw [cell_of_row w1 _ 3 _ _ _ HY.out]; rfl
  have q0 : w1.frozen? ⟨w.heap.size + 1, 0, none⟩ = false := by simp [World.frozen?, HY.out]
  have q1 : w1.frozen? ⟨w.heap.size + 1, 1, none⟩ = false := by simp [World.frozen?, HY.out]
  have q2 : w1.frozen? ⟨w.heap.size + 1, 2, none⟩ = false := by simp [World.frozen?, HY.out]
  have q3 : w1.frozen? ⟨w.heap.size + 1, 3, none⟩ = false := by simp [World.frozen?, HY.out]
  have p0 := HX.out.c0
  have p1 := HX.out.c1
  have p2 := HX.out.c2
  have NONE : Hid (∀ hn : atB W H x y l = false, Ending.returned (.agg #[.int .i64 0, .int .i64 0, .int .i64 0, .int .i64 0]) = .returned (rasAtP W H x y l).v) := Lib.hid fun hn => by unfold rasAtP; rw [hn]; rfl
  cases hok : rasB W H l
  · have HN := Lib.hid (NONE.out (by unfold atB; rw [hok]; rfl))
    clear NONE
    go_wp2_with fail
    (try simp only [Exit.inBlock, Exit.then])
    refine bodyPost_ret (results_cell_row rfl _ _ (w.heap.size + 1) 40 #[.int .i64 0, .int .i64 0, .int .i64 0, .int .i64 0] (0, 0) _ rfl (fin_px HY.out px0) Tryd.underlying40 rfl (by kernel_rfl)) rfl ?_
    exact ⟨HN.out, below_px HB.out (by omega) _ _ _ _⟩
  obtain ⟨hW, hH, hl, -⟩ := rasB_parts hok
  have h36 := mul36 hW hH
  by_cases hxy : ¬ ((0 ≤ x ∧ x < W) ∧ 0 ≤ y ∧ y < H)
  · have HN := Lib.hid (NONE.out (by unfold atB; rw [decide_eq_false hxy, Bool.and_false]))
    clear NONE hok
    by_cases a1 : x < 0
    rotate_left
    by_cases a2 : x ≥ W
    rotate_left
    by_cases a3 : y < 0
    rotate_left
    have a4 : y ≥ H := by omega
    all_goals (
      clear hxy
      go_wp2_with fail
      (try simp only [Exit.inBlock, Exit.then])
      refine bodyPost_ret (results_cell_row rfl _ _ (w.heap.size + 1) 40 #[.int .i64 0, .int .i64 0, .int .i64 0, .int .i64 0] (0, 0) _ rfl (fin_px HY.out px0) Tryd.underlying40 rfl (by kernel_rfl)) rfl ?_
      exact ⟨HN.out, below_px HB.out (by omega) _ _ _ _⟩)
  have hxy := Decidable.not_not.1 hxy
  obtain ⟨⟨hx0, hx1⟩, hy0, hy1⟩ := hxy
  obtain ⟨g1, g2, g3, g4⟩ := place_lt (H := H) (x := x) (y := y) hW ⟨hx0, hx1⟩ ⟨hy0, hy1⟩
  obtain ⟨i, hi⟩ : ∃ i : Nat, y * W + x = (i : Int) := ⟨(y * W + x).toNat, by omega⟩
  obtain ⟨s, hsE⟩ : ∃ s : Nat, y * W = (s : Int) := ⟨(y * W).toNat, by omega⟩
  obtain ⟨n, rfl⟩ : ∃ n : Nat, W = (n : Int) := ⟨W.toNat, by omega⟩
  obtain ⟨k, rfl⟩ : ∃ k : Nat, x = (k : Int) := ⟨x.toNat, by omega⟩
  have hil : i < l.length := by omega
  have hrow := (place_lt (H := H) (x := (n : Int) - 1) (y := y) hW (by omega) ⟨hy0, hy1⟩).2.1
  obtain ⟨b, o, p, hA, hbB, hp, d0, d1, d2, d3⟩ := HP.out.spot hil
  subst hA
  have hik : i = s + k := by omega
  rw [show o + i * 4 = o + s * 4 + k * 4 from by omega] at d0 d1 d2 d3
  have HE : Hid (rasAtP n H k y l = p) := Lib.hid (by
    unfold rasAtP atB
    rw [hok, decide_eq_true (p := (0 ≤ (k : Int) ∧ (k : Int) < (n : Int)) ∧ 0 ≤ y ∧ y < H) ⟨⟨hx0, hx1⟩, hy0, hy1⟩, hi, Int.toNat_natCast, hp]
    rfl)
  have CW := Lib.hid fun w => row_any b o c l.length s n y w hsE (by omega) (by omega) (by omega) hc
  clear NONE hok hp hi hsE g1 g2 g3 g4 hrow
  go_wp2_with fail
  refine (CW.out _).mono ?_
  rintro e w2 ⟨rfl, rfl⟩
  go_wp2_with fail
  (try simp only [Exit.inBlock, Exit.then])
  refine bodyPost_ret (results_cell_row rfl _ _ (w.heap.size + 1) 40 #[.int .i64 p.r, .int .i64 p.g, .int .i64 p.b, .int .i64 p.a] (0, 0) _ rfl (fin_px HY.out p) Tryd.underlying40 rfl (by kernel_rfl)) rfl ?_
  exact ⟨by rw [HE.out]; rfl, below_px HB.out (by omega) _ _ _ _⟩
end Go.Proofs.YthdggnfffebnlaaDoor
