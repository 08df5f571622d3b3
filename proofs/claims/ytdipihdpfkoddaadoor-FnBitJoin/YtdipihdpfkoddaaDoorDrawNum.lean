/-
  l20Num draws some bit number, well or not. Conditions: fewer than 10^8 draws before; the odds are from 0 to 1000.
-/
import Derived.Test.YtdipihdpfkoddaaDoorDrawOdd
import Derived.Test.YtdipihdpfkoddaaDoorBitOk
import Derived.Deep.RegionHeld3
namespace Go.Proofs.YtdipihdpfkoddaaDoor
open Go.RowKit

set_option maxHeartbeats 400000 in
theorem odd_none (g : Nat) (w : World) : Calls Tryd.prog 20 #[.pointer (some ⟨g, 0, none⟩), .int .i64 0] w fun e w' => e = .returned (.bool false) ∧ w' = w := by
  go_enter Tryd.func20, Tryd.ntmps20
  go_wp2
  go_ret
  exact ⟨rfl, rfl⟩
theorem odd_all (g p : Nat) (m : Int) (w : World) (h : Rdr w g p) (hp : p ≤ 1000000000) (hm : 0 ≤ m) (hm2 : m ≤ 1000000000) :
    Calls Tryd.prog 20 #[.pointer (some ⟨g, 0, none⟩), .int .i64 m] w fun e w' => ∃ b : Bool, e = .returned (.bool b) ∧ ∃ p', p' ≤ p + 1 ∧ Rdr w' g p' ∧ w.grownBy w' (some g) := by
  by_cases h0 : m = 0
  · subst h0
    refine (odd_none g w).mono ?_
    rintro e w' ⟨rfl, rfl⟩
    exact ⟨false, rfl, p, by omega, h, World.grownBy.refl _ _⟩
  · exact oddAt_any g p m w h hp (by omega) hm2

theorem grown_drew (w : World) (row : Option Nat) : w.grownBy w.drew row := ⟨rfl, rfl, rfl, Nat.le_refl _, fun _ _ _ => rfl⟩
theorem grown_cell' (w : World) (g i : Nat) (v : Value) : w.grownBy (w.setCell ⟨g, i, none⟩ v) (some g) := ⟨rfl, rfl, rfl, by simp, fun k _ hne => Below.heap_setCell w _ _ k (fun e => hne (by rw [e]))⟩
theorem fin_row {W : World} {R : Nat} {a b : Int} (h : W.heap[R]? = some (.cells #[.int .i64 a, .int .i64 b] 29 (0, 0))) (x y : Int) : ((W.setCell ⟨R, 0, none⟩ (.int .i64 x)).setCell ⟨R, 1, none⟩ (.int .i64 y)).heap[R]? = some (.cells #[.int .i64 x, .int .i64 y] 29 (0, 0)) := by
  have h1 := heap_setCell_same W R 0 _ _ (.int .i64 x) h
  have h2 := heap_setCell_same _ R 1 _ _ (.int .i64 y) h1
  simpa using h2
theorem grown_two (W : World) (R : Nat) (x y : Value) : W.grownBy ((W.setCell ⟨R, 0, none⟩ x).setCell ⟨R, 1, none⟩ y) (some R) := grown_trans (grown_cell' W R 0 x) (grown_cell' _ R 1 y)
/-- A reader, and a number in block k. -/
def NumAt (w : World) (g p k : Nat) (x y : Int) : Prop := Rdr w g p ∧ g < k ∧ w.heap[k]? = some (.cells #[.int .i64 x, .int .i64 y] 29 (0, 0))
section
variable {w w' : World} {g p k : Nat} {x y : Int}
theorem NumAt.c0 (h : NumAt w g p k x y) : w.cell? ⟨k, 0, none⟩ = some (.int .i64 x) := by rw [cell_of_row w k 0 _ _ _ h.2.2]; rfl
theorem NumAt.c1 (h : NumAt w g p k x y) : w.cell? ⟨k, 1, none⟩ = some (.int .i64 y) := by rw [cell_of_row w k 1 _ _ _ h.2.2]; rfl
theorem NumAt.free (h : NumAt w g p k x y) (i : Nat) : w.frozen? ⟨k, i, none⟩ = false := by simp [World.frozen?, h.2.2]
theorem NumAt.lt (h : NumAt w g p k x y) : k < w.heap.size := (Array.getElem?_eq_some_iff.1 h.2.2).1
theorem NumAt.step {p' : Nat} (h : NumAt w g p k x y) (hr : Rdr w' g p') (hg : w.grownBy w' (some g)) : NumAt w' g p' k x y :=
  ⟨hr, h.2.1, (hg.block k h.lt (by have := h.2.1; simp; omega)).trans h.2.2⟩
theorem NumAt.set0 (h : NumAt w g p k x y) (z : Int) : NumAt (w.setCell ⟨k, 0, none⟩ (.int .i64 z)) g p k z y := by
  refine ⟨h.1.kept fun j hj => Below.heap_setCell w _ _ j (by have := h.2.1; simp; omega), h.2.1, ?_⟩
  have := heap_setCell_same w k 0 _ _ (.int .i64 z) h.2.2
  simpa using this
theorem NumAt.set1 (h : NumAt w g p k x y) (z : Int) : NumAt (w.setCell ⟨k, 1, none⟩ (.int .i64 z)) g p k x z := by
  refine ⟨h.1.kept fun j hj => Below.heap_setCell w _ _ j (by have := h.2.1; simp; omega), h.2.1, ?_⟩
  have := heap_setCell_same w k 1 _ _ (.int .i64 z) h.2.2
  simpa using this
theorem NumAt.alloc (h : NumAt w g p k x y) (o : Obj) : NumAt (w.alloc o) g p k x y := ⟨h.1.alloc o, h.2.1, (Below.heap_alloc w o k h.lt).trans h.2.2⟩
theorem NumAt.drew (h : NumAt w g p k x y) : NumAt w.drew g p k x y := h
end

theorem num2_at {w w' : World} {g k j : Nat} {a b : Int} (hg : (w.drew.alloc (.cells #[.int .i64 a, .int .i64 b] 3)).grownBy w' (some g)) (hk : g < k) (hz : k < w.heap.size) (hj : j < 2) : ∃ z : Int, w'.cell? ⟨w.heap.size, j, none⟩ = some (.int .i64 z) := by
  have hc : ∀ z, #[Value.int .i64 a, .int .i64 b][j]? = some (.int .i64 z) → w'.cell? ⟨w.heap.size, j, none⟩ = some (.int .i64 z) := fun z hz =>
    hg.cell ((World.cell?_alloc_mark w.drew _ _ _ j).trans hz) (by simp; omega)
  match j, hj with
  | 0, _ => exact ⟨_, hc _ rfl⟩
  | 1, _ => exact ⟨_, hc _ rfl⟩
theorem num2_new {w : World} {j : Nat} {a b : Int} (hj : j < 2) : ∃ z : Int, (w.alloc (.cells #[.int .i64 a, .int .i64 b] 3)).cell? ⟨w.heap.size, j, none⟩ = some (.int .i64 z) := by
  match j, hj with
  | 0, _ => exact ⟨_, World.cell?_alloc_mark w _ _ _ 0⟩
  | 1, _ => exact ⟨_, World.cell?_alloc_mark w _ _ _ 1⟩
set_option maxHeartbeats 2000000 in
theorem l20Num_any (g p : Nat) (m : Int) (w : World) (h : Rdr w g p) (hp : p ≤ 100000000) (hm : 0 ≤ m) (hm2 : m ≤ 1000) :
    Calls Tryd.prog 19 #[.pointer (some ⟨g, 0, none⟩), .int .i64 m] w fun e w' => ∃ n b : Int, e = .returned (.agg #[.int .i64 n, .int .i64 b]) ∧ (∃ p', p' ≤ p + 6 ∧ Rdr w' g p') ∧ w.grownBy w' (some g) := by
  have hgw := h.lt
  go_enter Tryd.func19, Tryd.ntmps19
  go_wp2_with fail
  refine (pick_any g p _ _ (h.alloc _) (by omega) (by omega) (by omega)).mono ?_
  rintro e w1 ⟨k1, rfl, hk1, -, hr1, hg1, -⟩
  have hk1 : k1 < 12 := by have := hk1 (by omega); omega
  obtain ⟨c, hc⟩ : ∃ c, 1 + k1 = c := ⟨_, rfl⟩
  have hc' : 1 + (k1 : Int) = (c : Int) := by omega
  have hc12 : (c : Int) ≤ 12 := by omega
  have hP := pow_bounds c (by omega)
  have hPe : IntKind.i64.wrap (2 ^ c) = (2 : Int) ^ c := IntWalk.i64_in _ (by omega)
  have hn0 : NumAt (w1.alloc (.cells #[.int .i64 0, .int .i64 (c : Int)] 29)) g (p + 1) w1.heap.size 0 c := ⟨hr1.alloc _, hr1.lt, heap_alloc_new w1 _⟩
  have hR : w1.heap[w.heap.size]? = some (.cells #[.int .i64 0, .int .i64 0] 29 (0, 0)) := (hg1.block w.heap.size (by simp) (by simp; omega)).trans (heap_alloc_new w _)
  have HR : Hid (∀ W, w1.grownBy W (some g) → W.heap[w.heap.size]? = some (.cells #[.int .i64 0, .int .i64 0] 29 (0, 0))) := Lib.hid fun W hW => (hW.block _ (Array.getElem?_eq_some_iff.1 hR).1 (by simp; omega)).trans hR
  have HW1 : Hid (w.heap.size < w1.heap.size) := Lib.hid (Array.getElem?_eq_some_iff.1 hR).1
  have HG1 : Hid (w.grownBy w1 (some g)) := Lib.hid (grown_trans (World.grownBy_alloc w _ _) hg1)
  have hgr2 : w1.grownBy (w1.alloc (.cells #[.int .i64 0, .int .i64 (c : Int)] 29)) (some g) := World.grownBy_alloc w1 _ _
  clear hc hr1 hg1 hR h
  obtain ⟨P, hPP⟩ : ∃ P, (2 : Int) ^ c = P := ⟨_, rfl⟩
  rw [hPP] at hP hPe
  have hP0 : ¬ P = 0 := by omega
  go_wp2_with fail
  generalize w1.alloc (.cells #[.int .i64 0, .int .i64 (c : Int)] 29) = w2 at *
  have hnd := hn0.drew
  have d1 := hn0.c1
  have d0 := hn0.c0
  have f0 := hn0.free 0
  go_region_held3 (fun w' => w'.cell? ⟨w1.heap.size, 1, none⟩ = some (.int .i64 (c : Int)))
    (first | exact d1 | exact e3 | exact e4 | exact (hn4.set0 _).c1)
    (first
      | (go_at_call 18; refine (pick_any g (p + 1) _ _ hnd.1 (by omega) (by omega) (by omega)).mono ?_; rintro e w3 ⟨k3, rfl, -, -, hr3, hg3, -⟩; have hn3 := hnd.step hr3 hg3; have e3 := hn3.c1)
      | (go_at_call 18; refine (pick_any g (p + 1 + 1) _ _ hn3.1 (by omega) (by omega) (by omega)).mono ?_; rintro e w4 ⟨k4, rfl, -, -, hr4, hg4, -⟩; have hn4 := hn3.step hr4 hg4; have e4 := hn4.c1; have x4 := hn4.c0; have f4 := hn4.free 0))
  have hn5 := hn4.set0 ((IntKind.i64.wrap (IntKind.i64.wrap ((k3 : Int) * 256) + (k4 : Int))).tmod P)
  have hgr5 : w1.grownBy (w4.setCell ⟨w1.heap.size, 0, none⟩ (.int .i64 ((IntKind.i64.wrap (IntKind.i64.wrap ((k3 : Int) * 256) + (k4 : Int))).tmod P))) (some g) :=
    grown_own (grown_trans (grown_trans (grown_trans hgr2 (grown_drew w2 (some g))) hg3) hg4) (grown_cell' w4 w1.heap.size 0 _) (fun q hq => by injection hq with hq; omega)
  generalize (IntKind.i64.wrap (IntKind.i64.wrap ((k3 : Int) * 256) + (k4 : Int))).tmod P = x at *
  generalize w4.setCell ⟨w1.heap.size, 0, none⟩ (.int .i64 x) = w5 at *
  clear d1 d0 f0 hnd e3 e4 x4 f4 hn0 hn3 hn4 hr3 hr4 hg3 hg4 hgr2
  go_wp2_with fail
  refine (odd_all g (p + 1 + 1 + 1) m _ hn5.1 (by omega) hm (by omega)).mono ?_
  rintro e w6 ⟨bb, rfl, p6, hp6, hr6, hg6⟩
  have hn6 := hn5.step hr6 hg6
  have hgr6 := grown_trans hgr5 hg6
  clear hn5 hgr5 hr6 hg6
  cases bb
  · have HN := Lib.hid hn6
    have HGR := Lib.hid hgr6
    clear hn6 hgr6
    have d0 := HN.out.c0
    have d1 := HN.out.c1
    have hrr := HR.out _ HGR.out
    have r0 : w6.cell? ⟨w.heap.size, 0, none⟩ = some (.int .i64 0) := by rw [cell_of_row w6 _ 0 _ _ _ hrr]; rfl
    have r1 : w6.cell? ⟨w.heap.size, 1, none⟩ = some (.int .i64 0) := by rw [cell_of_row w6 _ 1 _ _ _ hrr]; rfl
    have q0 : w6.frozen? ⟨w.heap.size, 0, none⟩ = false := by simp [World.frozen?, hrr]
    have q1 : w6.frozen? ⟨w.heap.size, 1, none⟩ = false := by simp [World.frozen?, hrr]
    have HRR := Lib.hid hrr
    clear hrr
    go_wp2_with fail
    (try simp only [Exit.inBlock, Exit.then])
    refine bodyPost_ret (results_cell_row rfl _ _ w.heap.size 29 #[.int .i64 x, .int .i64 (c : Int)] (0, 0) _ rfl (fin_row HRR.out _ _) Tryd.underlying29 rfl (by kernel_rfl)) rfl ?_
    refine ⟨x, (c : Int), rfl, ⟨_, (by omega), (HN.out.1.kept fun j hj => ?_)⟩, grown_own (grown_trans HG1.out HGR.out) (grown_two w6 w.heap.size _ _) (fun q hq => by injection hq with hq; omega)⟩
    have hl := HN.out.2.1
    rw [Below.heap_setCell _ _ _ j (by simp; omega), Below.heap_setCell _ _ _ j (by simp; omega)]
  · go_wp2_with fail
    refine (pick_any g p6 _ _ hn6.1 (by omega) (by omega) (by omega)).mono ?_
    rintro e w7 ⟨k7, rfl, -, -, hr7, hg7, -⟩
    have hn7 := hn6.step hr7 hg7
    have hgr7 := grown_trans hgr6 hg7
    clear hn6 hgr6 hr7 hg7
    by_cases hk7 : (k7 : Int) = 0
    · have hk7' : ((k7 : Int) == 0) = true := beq_iff_eq.2 hk7
      have hz7 : w1.heap.size < w7.heap.size := hn7.lt
      have hn8 := hn7.alloc (.cells #[.int .i64 0, .int .i64 (-1), .int .i64 13, .int .i64 9223372036854775807] 3)
      have hgr8 : w1.grownBy (w7.alloc (.cells #[.int .i64 0, .int .i64 (-1), .int .i64 13, .int .i64 9223372036854775807] 3)) (some g) := grown_trans hgr7 (World.grownBy_alloc w7 _ _)
      have C8 := Lib.hid (pick_any g (p6 + 1) 4 _ hn8.1 (by omega) (by omega) (by omega))
      have HN8 := Lib.hid hn8
      have HG8 := Lib.hid hgr8
      clear hn7 hgr7 hn8 hgr8 hk7
      go_wp2_with fail
      refine C8.out.mono ?_
      rintro e w9 ⟨j, rfl, hj, -, hr9, hg9, -⟩
      have hj4 : j < 4 := by have := hj (by omega); omega
      have hn9 := HN8.out.step hr9 hg9
      have hgr9 := grown_trans HG8.out hg9
      obtain ⟨z, hz⟩ : ∃ z : Int, w9.cell? ⟨w7.heap.size, j, none⟩ = some (.int .i64 z) := by
        have hc : ∀ z, #[Value.int .i64 0, .int .i64 (-1), .int .i64 13, .int .i64 9223372036854775807][j]? = some (.int .i64 z) → w9.cell? ⟨w7.heap.size, j, none⟩ = some (.int .i64 z) := fun z hz =>
          hg9.cell ((World.cell?_alloc_mark w7 _ _ _ j).trans hz) (by have := HN8.out.2.1; simp; omega)
        match j, hj4 with
        | 0, _ => exact ⟨_, hc _ rfl⟩
        | 1, _ => exact ⟨_, hc _ rfl⟩
        | 2, _ => exact ⟨_, hc _ rfl⟩
        | 3, _ => exact ⟨_, hc _ rfl⟩
      have y0 := hn9.c0
      have y1 := hn9.c1
      have g0 := hn9.free 0
      have g1 := hn9.free 1
      have hrr := HR.out _ hgr9
      have r0 : w9.cell? ⟨w.heap.size, 0, none⟩ = some (.int .i64 0) := by rw [cell_of_row w9 _ 0 _ _ _ hrr]; rfl
      have r1 : w9.cell? ⟨w.heap.size, 1, none⟩ = some (.int .i64 0) := by rw [cell_of_row w9 _ 1 _ _ _ hrr]; rfl
      have q0 : w9.frozen? ⟨w.heap.size, 0, none⟩ = false := by simp [World.frozen?, hrr]
      have q1 : w9.frozen? ⟨w.heap.size, 1, none⟩ = false := by simp [World.frozen?, hrr]
      have hrne : ¬ w.heap.size = w1.heap.size := by have := HG1.out.size; have := HW1.out; omega
      have HN := Lib.hid (hn9.set1 z)
      have HGR := Lib.hid (grown_own hgr9 (grown_cell' w9 w1.heap.size 1 (.int .i64 z)) (fun q hq => by injection hq with hq; omega))
      clear HN8 HG8 C8 hj hr9 hg9 hn9 hgr9 hrr
      go_wp2_with fail
      (try simp only [Exit.inBlock, Exit.then])
      have hrr2 := HR.out _ HGR.out
      refine bodyPost_ret (results_cell_row rfl _ _ w.heap.size 29 #[.int .i64 x, .int .i64 z] (0, 0) _ rfl (fin_row hrr2 _ _) Tryd.underlying29 rfl (by kernel_rfl)) rfl ?_
      refine ⟨x, z, rfl, ⟨_, (by omega), (HN.out.1.kept fun j hj => ?_)⟩, grown_own (grown_trans HG1.out HGR.out) (grown_two _ w.heap.size _ _) (fun q hq => by injection hq with hq; omega)⟩
      have hl := HN.out.2.1
      rw [Below.heap_setCell _ _ _ j (by simp; omega), Below.heap_setCell _ _ _ j (by simp; omega)]
    · have hk7' : ((k7 : Int) == 0) = false := beq_eq_false_iff_ne.2 hk7
      have hz7 : w1.heap.size < w7.heap.size := hn7.lt
      have hnd := hn7.drew
      have d1 := hnd.c1
      have hn8 := hnd.alloc (.cells #[.int .i64 (-1), .int .i64 P] 3)
      have e8 := hn8.c1
      have hgr8 : w1.grownBy (w7.drew.alloc (.cells #[.int .i64 (-1), .int .i64 P] 3)) (some g) := grown_trans (grown_trans hgr7 (grown_drew w7 _)) (World.grownBy_alloc w7.drew _ _)
      clear hk7
      go_wp2_with fail
      have CA := Lib.hid (pick_any g (p6 + 1) 2 _ hnd.1 (by omega) (by omega) (by omega))
      have CB := Lib.hid (pick_any g (p6 + 1) 2 _ hn8.1 (by omega) (by omega) (by omega))
      go_region_with (first
        | (go_at_call 18; refine CA.out.mono ?_; rintro e w9 ⟨j, rfl, hj, -, hr9, hg9, -⟩; have hj2 : j < 2 := (by have := hj (by omega); omega); have hn9a := hnd.step hr9 hg9; have e9a := hn9a.c1; have x9a := hn9a.c0; have f9a := hn9a.free 0; have l9a := hn9a.lt; have n9a : ¬ w1.heap.size = w9.heap.size := (by omega); have hn9 := hn9a.alloc (.cells #[.int .i64 (-1), .int .i64 P] 3); have e9 := hn9.c1; have x9 := hn9.c0; have f9 := hn9.free 0; obtain ⟨z, hz⟩ : ∃ z : Int, (w9.alloc (.cells #[.int .i64 (-1), .int .i64 P] 3)).cell? ⟨w9.heap.size, j, none⟩ = some (.int .i64 z) := (num2_new hj2))
        | (go_at_call 18; refine CB.out.mono ?_; rintro e w9 ⟨j, rfl, hj, -, hr9, hg9, -⟩; have hj2 : j < 2 := (by have := hj (by omega); omega); have hn9 := hn8.step hr9 hg9; have e9 := hn9.c1; have x9 := hn9.c0; have f9 := hn9.free 0; obtain ⟨z, hz⟩ : ∃ z : Int, w9.cell? ⟨w7.heap.size, j, none⟩ = some (.int .i64 z) := (num2_at hg9 hn8.2.1 hz7 hj2)))
      all_goals
        first
          | (have HN := Lib.hid ((hn9a.set0 z).alloc (.cells #[.int .i64 (-1), .int .i64 P] 3))
             have HGR := Lib.hid (grown_trans (grown_own (grown_trans (grown_trans hgr7 (grown_drew w7 _)) hg9) (grown_cell' w9 w1.heap.size 0 (.int .i64 z)) (fun q hq => by injection hq with hq; omega)) (World.grownBy_alloc _ (.cells #[.int .i64 (-1), .int .i64 P] 3) _))
             clear hn9a e9a x9a f9a l9a n9a hn9 e9 x9 f9 hz hg9 hr9 CA CB hn8 e8 hgr8 hnd d1 hn7 hgr7
             generalize (w9.setCell ⟨w1.heap.size, 0, none⟩ (.int .i64 z)).alloc (.cells #[.int .i64 (-1), .int .i64 P] 3) = wF at *)
          | (have HN := Lib.hid (hn9.set0 z)
             have HGR := Lib.hid (grown_own (grown_trans hgr8 hg9) (grown_cell' w9 w1.heap.size 0 (.int .i64 z)) (fun q hq => by injection hq with hq; omega))
             clear hn9 e9 x9 f9 hz hg9 hr9 CA CB hn8 e8 hgr8 hnd d1 hn7 hgr7
             generalize w9.setCell ⟨w1.heap.size, 0, none⟩ (.int .i64 z) = wF at *)
        have d0 := HN.out.c0
        have d1 := HN.out.c1
        have hrr := HR.out _ HGR.out
        have r0 : wF.cell? ⟨w.heap.size, 0, none⟩ = some (.int .i64 0) := by rw [cell_of_row wF _ 0 _ _ _ hrr]; rfl
        have r1 : wF.cell? ⟨w.heap.size, 1, none⟩ = some (.int .i64 0) := by rw [cell_of_row wF _ 1 _ _ _ hrr]; rfl
        have q0 : wF.frozen? ⟨w.heap.size, 0, none⟩ = false := by simp [World.frozen?, hrr]
        have q1 : wF.frozen? ⟨w.heap.size, 1, none⟩ = false := by simp [World.frozen?, hrr]
        have HRR := Lib.hid hrr
        clear hrr
        go_wp2_with fail
        (try simp only [Exit.inBlock, Exit.then])
        refine bodyPost_ret (results_cell_row rfl _ _ w.heap.size 29 #[.int .i64 z, .int .i64 (c : Int)] (0, 0) _ rfl (fin_row HRR.out _ _) Tryd.underlying29 rfl (by kernel_rfl)) rfl ?_
        refine ⟨z, (c : Int), rfl, ⟨_, (by omega), (HN.out.1.kept fun j hj => ?_)⟩, grown_own (grown_trans HG1.out HGR.out) (grown_two wF w.heap.size _ _) (fun q hq => by injection hq with hq; omega)⟩
        have hl := HN.out.2.1
        rw [Below.heap_setCell _ _ _ j (by simp; omega), Below.heap_setCell _ _ _ j (by simp; omega)]
end Go.Proofs.YtdipihdpfkoddaaDoor
