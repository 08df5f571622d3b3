/-
  What the program's rule for parts puts. Conditions as they stand.
-/
import Derived.Test.YtiemlakjallphabDoorFoldI
namespace Go.Proofs.YtiemlakjallphabDoor
set_option maxRecDepth 4000
open Go.RowKit

theorem gaveM_none {w w' : World} {e : Ending} {A : Option Addr} {n c : Nat} {q : Bool} (he : e = .returned (.tuple #[.slice A n c, .bool q])) (hq : q = false) (hb : Below w.heap.size w w') : GaveM none w e w' := by
  subst hq
  exact ⟨A, n, c, he, (fun s h => by cases h), hb⟩
theorem gaveM_one {w w1 w' : World} {e : Ending} {g : Nat} {q : Bool} (o : Op) (he : e = .returned (.tuple #[.slice (some ⟨g, 0, none⟩) 1 1, .bool q])) (hq : q = true) (hw : w' = (w1.alloc (.cells o.cells.toArray 49)).drew.drew) (hg : g = w1.heap.size) (hb : Below w.heap.size w w') : GaveM (some [o]) w e w' := by
  subst hg hw hq
  refine ⟨_, _, _, he, fun s h => ?_, hb⟩
  injection h with h
  subst h
  exact ⟨rfl, Nat.le_refl _, has_one w1 o⟩
set_option maxHeartbeats 8000000 in
theorem foldParts_any (b o c : Nat) (x y : Op) (w : World) (hx : opB x = true) (hy : opB y = true) (hxk : x.k = 1) (hyk : y.k = 1) (_ : 2 ≤ c) (h : opE.Has w w.heap.size (some ⟨b, o, none⟩) [x, y]) :
    Calls Tryd.prog 110 #[.slice (some ⟨b, o, none⟩) 2 c] w (GaveM (if withinB x y = true then some [bothO x y] else none) w) := by
  obtain ⟨a0, a1, a2, a3, a4⟩ := op_at h (i := 0) (x := x) rfl
  obtain ⟨e0, e1, e2, e3, e4⟩ := op_at h (i := 1) (x := y) rfl
  simp only [Nat.zero_mul, Nat.one_mul, Nat.add_zero] at a0 a1 a2 a3 a4 e0 e1 e2 e3 e4
  obtain ⟨_, _, _, hA, hbB, -⟩ := h.spot (k := 0) (by simp)
  cases hA
  obtain ⟨k, xa, xb, xc, xd⟩ := x
  obtain ⟨k', ya, yb, yc, yd⟩ := y
  obtain rfl : k = 1 := hxk
  obtain rfl : k' = 1 := hyk
  obtain ⟨q1, q2, q3, q4, q5, q6, q7, q8⟩ : 0 ≤ xa ∧ xa ≤ 5 ∧ 0 ≤ xb ∧ xb ≤ 5 ∧ 1 ≤ xc ∧ xc ≤ 6 ∧ 1 ≤ xd ∧ xd ≤ 6 := by have := op_lim hx; omega
  obtain ⟨p1, p2, p3, p4, p5, p6, p7, p8⟩ : 0 ≤ ya ∧ ya ≤ 5 ∧ 0 ≤ yb ∧ yb ≤ 5 ∧ 1 ≤ yc ∧ yc ≤ 6 ∧ 1 ≤ yd ∧ yd ≤ 6 := by have := op_lim hy; omega
  obtain ⟨s1, hs1⟩ : ∃ s, ya + yc = s := ⟨_, rfl⟩
  obtain ⟨s2, hs2⟩ : ∃ s, yb + yd = s := ⟨_, rfl⟩
  obtain ⟨s3, hs3⟩ : ∃ s, xa + ya = s := ⟨_, rfl⟩
  obtain ⟨s4, hs4⟩ : ∃ s, xb + yb = s := ⟨_, rfl⟩
  obtain ⟨r, hr⟩ : ∃ r, (if withinB ⟨1, xa, xb, xc, xd⟩ ⟨1, ya, yb, yc, yd⟩ = true then some [bothO ⟨1, xa, xb, xc, xd⟩ ⟨1, ya, yb, yc, yd⟩] else none) = r := ⟨_, rfl⟩
  have HR : Hid ((if s1 ≤ xc ∧ s2 ≤ xd ∧ s3 < 6 ∧ s4 < 6 then some [(⟨1, s3, s4, yc, yd⟩ : Op)] else none) = r) := Lib.hid (by
    rw [← hr]
    unfold withinB bothO
    simp only [hs1, hs2, hs3, hs4, decide_eq_true_eq])
  rw [hr]
  have u1 : 0 ≤ s1 ∧ s1 ≤ 11 := by omega
  have u2 : 0 ≤ s2 ∧ s2 ≤ 12 := by omega
  have u3 : 0 ≤ s3 ∧ s3 ≤ 11 := by omega
  have u4 : 0 ≤ s4 ∧ s4 ≤ 11 := by omega
  have v1 := IntWalk.i64_in s1 (by omega)
  have v2 := IntWalk.i64_in s2 (by omega)
  have v3 := IntWalk.i64_in s3 (by omega)
  have v4 := IntWalk.i64_in s4 (by omega)
  clear h hr hx hy q1 q2 q3 q4 q5 q6 q7 q8 p1 p2 p3 p4 p5 p6 p7 p8
  by_cases h0 : s1 ≤ xc
  · skip
    by_cases h1 : s2 ≤ xd
    · skip
      by_cases h2 : s3 < 6
      · skip
        by_cases h3 : s4 < 6
        · obtain rfl : r = _ := HR.out.symm.trans (if_pos ⟨h0, h1, h2, h3⟩)
          go_enter Tryd.func110, Tryd.ntmps110
          go_wp2_with fail
          go_region
          all_goals
            go_wp2_with fail
            go_region
            all_goals
              go_wp2_with fail
              go_ret2
              exact gaveM_one ⟨1, s3, s4, yc, yd⟩ rfl (by first | rfl | exact decide_eq_true h3) rfl (by simp) (below_draws (below_draws (((((Below.refl _ _).alloc (Nat.le_refl _) _).alloc (by simp <;> omega) _).alloc (by simp <;> omega) _).alloc (by simp <;> omega) _) 1) 1)
        · obtain rfl : r = _ := HR.out.symm.trans (if_neg (fun h => h3 h.2.2.2))
          have d2 : decide (s4 < 6) = false := decide_eq_false h3
          have HN2 := Lib.hid h3
          clear h3
          go_enter Tryd.func110, Tryd.ntmps110
          go_wp2_with fail
          go_region
          all_goals
            go_wp2_with fail
            go_region
            all_goals
              go_wp2_with fail
              go_ret2
              exact gaveM_none rfl (by first | rfl | exact decide_eq_false (by first | omega | exact HN2.out)) (below_draws (below_draws (((((Below.refl _ _).alloc (Nat.le_refl _) _).alloc (by simp <;> omega) _).alloc (by simp <;> omega) _).alloc (by simp <;> omega) _) 1) 1)
      · obtain rfl : r = _ := HR.out.symm.trans (if_neg (fun h => h2 h.2.2.1))
        have d2 : decide (s3 < 6) = false := decide_eq_false h2
        have HN2 := Lib.hid h2
        clear h2
        go_enter Tryd.func110, Tryd.ntmps110
        go_wp2_with fail
        go_region
        all_goals
          go_wp2_with fail
          go_region
          all_goals
            go_wp2_with fail
            go_ret2
            exact gaveM_none rfl (by first | rfl | exact decide_eq_false (by first | omega | exact HN2.out)) (below_draws (below_draws (((((Below.refl _ _).alloc (Nat.le_refl _) _).alloc (by simp <;> omega) _).alloc (by simp <;> omega) _).alloc (by simp <;> omega) _) 1) 1)
    · obtain rfl : r = _ := HR.out.symm.trans (if_neg (fun h => h1 h.2.1))
      have d2 : decide (s2 ≤ xd) = false := decide_eq_false h1
      have HN2 := Lib.hid h1
      clear h1
      go_enter Tryd.func110, Tryd.ntmps110
      go_wp2_with fail
      go_region
      all_goals
        go_wp2_with fail
        go_region
        all_goals
          go_wp2_with fail
          go_ret2
          exact gaveM_none rfl (by first | rfl | exact decide_eq_false (by first | omega | exact HN2.out)) (below_draws (below_draws (((((Below.refl _ _).alloc (Nat.le_refl _) _).alloc (by simp <;> omega) _).alloc (by simp <;> omega) _).alloc (by simp <;> omega) _) 1) 1)
  · obtain rfl : r = _ := HR.out.symm.trans (if_neg (fun h => h0 h.1))
    have d2 : decide (s1 ≤ xc) = false := decide_eq_false h0
    have HN2 := Lib.hid h0
    clear h0
    go_enter Tryd.func110, Tryd.ntmps110
    go_wp2_with fail
    go_region
    all_goals
      go_wp2_with fail
      go_region
      all_goals
        go_wp2_with fail
        go_ret2
        exact gaveM_none rfl (by first | rfl | exact decide_eq_false (by first | omega | exact HN2.out)) (below_draws (below_draws (((((Below.refl _ _).alloc (Nat.le_refl _) _).alloc (by simp <;> omega) _).alloc (by simp <;> omega) _).alloc (by simp <;> omega) _) 1) 1)
end Go.Proofs.YtiemlakjallphabDoor
