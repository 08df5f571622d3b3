/-
  OpOk of the reference tells whether an operation is one. No condition.
-/
import Derived.Test.YtbejafbpipdbjaaDoorOpO
import Derived.Test.YtbejafbpipdbjaaDoorL1In
namespace Go.Proofs.YtbejafbpipdbjaaDoor
set_option maxRecDepth 4000
open Go.RowKit

set_option maxHeartbeats 1000000 in
theorem specOpOk_any (o : Op) (w : World) : Calls Tryd.prog 35 #[o.v] w fun e w' => e = .returned (.bool (opB o)) ∧ Below w.heap.size w w' := by
  obtain ⟨k, a, b, c, d⟩ := o
  unfold Op.v
  have HB : Hid (Below w.heap.size w (w.alloc (.cells #[.int .i64 k, .int .i64 a, .int .i64 b, .int .i64 c, .int .i64 d] 25))) := Lib.hid ((Below.refl _ w).alloc (Nat.le_refl _) _)
  have C : Hid (∀ x lo hi w, Calls Tryd.prog 50 #[.int .i64 x, .int .i64 lo, .int .i64 hi] w fun e w' => e = .returned (.bool (inR x lo hi)) ∧ w' = w) := Lib.hid l1In_any
  by_cases h1 : k = 1
  · subst h1
    have HE : Hid (opB ⟨1, a, b, c, d⟩ = (inR a 0 5 && (inR b 0 5 && (inR c 1 6 && inR d 1 6)))) := Lib.hid rfl
    go_enter Tryd.func35, Tryd.ntmps35
    go_wp2_with fail
    refine (C.out a 0 5 _).mono ?_
    rintro e w' ⟨rfl, rfl⟩
    cases h1 : inR a 0 5
    · go_wp2_with fail
      go_ret
      exact ⟨by rw [HE.out, h1]; rfl, HB.out⟩
    go_wp2_with fail
    refine (C.out b 0 5 _).mono ?_
    rintro e w' ⟨rfl, rfl⟩
    cases h2 : inR b 0 5
    · go_wp2_with fail
      go_ret
      exact ⟨by rw [HE.out, h1, h2]; rfl, HB.out⟩
    go_wp2_with fail
    refine (C.out c 1 6 _).mono ?_
    rintro e w' ⟨rfl, rfl⟩
    cases h3 : inR c 1 6
    · go_wp2_with fail
      go_ret
      exact ⟨by rw [HE.out, h1, h2, h3]; rfl, HB.out⟩
    go_wp2_with fail
    refine (C.out d 1 6 _).mono ?_
    rintro e w' ⟨rfl, rfl⟩
    cases h4 : inR d 1 6
    all_goals (
      go_wp2_with fail
      go_ret
      exact ⟨by rw [HE.out, h1, h2, h3, h4]; rfl, HB.out⟩)
  by_cases h7 : k = 7
  · subst h7
    clear h1
    have HE : Hid (opB ⟨7, a, b, c, d⟩ = (inR a 1 6 && (inR b 1 6 && ((c == 0) && (d == 0))))) := Lib.hid (by rw [← inR_zero, ← inR_zero]; rfl)
    go_enter Tryd.func35, Tryd.ntmps35
    go_wp2_with fail
    refine (C.out a 1 6 _).mono ?_
    rintro e w' ⟨rfl, rfl⟩
    cases h1 : inR a 1 6
    · go_wp2_with fail
      go_ret
      exact ⟨by rw [HE.out, h1]; rfl, HB.out⟩
    go_wp2_with fail
    refine (C.out b 1 6 _).mono ?_
    rintro e w' ⟨rfl, rfl⟩
    cases h2 : inR b 1 6
    · go_wp2_with fail
      go_ret
      exact ⟨by rw [HE.out, h1, h2]; rfl, HB.out⟩
    cases h3 : c == 0
    · go_wp2_with fail
      go_ret
      exact ⟨by rw [HE.out, h1, h2, h3]; rfl, HB.out⟩
    cases h4 : d == 0
    all_goals (
      go_wp2_with fail
      go_ret
      exact ⟨by rw [HE.out, h1, h2, h3, h4]; rfl, HB.out⟩)
  by_cases h8 : k = 8
  · subst h8
    clear h1 h7
    have HE : Hid (opB ⟨8, a, b, c, d⟩ = (inR a 0 255 && (inR b 0 255 && (inR c 0 255 && (d == 0))))) := Lib.hid (by rw [← inR_zero]; rfl)
    go_enter Tryd.func35, Tryd.ntmps35
    go_wp2_with fail
    refine (C.out a 0 255 _).mono ?_
    rintro e w' ⟨rfl, rfl⟩
    cases h1 : inR a 0 255
    · go_wp2_with fail
      go_ret
      exact ⟨by rw [HE.out, h1]; rfl, HB.out⟩
    go_wp2_with fail
    refine (C.out b 0 255 _).mono ?_
    rintro e w' ⟨rfl, rfl⟩
    cases h2 : inR b 0 255
    · go_wp2_with fail
      go_ret
      exact ⟨by rw [HE.out, h1, h2]; rfl, HB.out⟩
    go_wp2_with fail
    refine (C.out c 0 255 _).mono ?_
    rintro e w' ⟨rfl, rfl⟩
    cases h3 : inR c 0 255
    · go_wp2_with fail
      go_ret
      exact ⟨by rw [HE.out, h1, h2, h3]; rfl, HB.out⟩
    cases h4 : d == 0
    all_goals (
      go_wp2_with fail
      go_ret
      exact ⟨by rw [HE.out, h1, h2, h3, h4]; rfl, HB.out⟩)
  have HE : Hid (opB ⟨k, a, b, c, d⟩ = (inR k 2 6 && ((a == 0) && ((b == 0) && ((c == 0) && (d == 0)))))) := Lib.hid (by rw [← inR_zero, ← inR_zero, ← inR_zero, ← inR_zero, opB_alt]; simp only [h1, h7, h8, if_false])
  go_enter Tryd.func35, Tryd.ntmps35
  go_wp2_with fail
  refine (C.out k 2 6 _).mono ?_
  rintro e w' ⟨rfl, rfl⟩
  cases h0 : inR k 2 6
  · go_wp2_with fail
    go_ret
    exact ⟨by rw [HE.out, h0]; rfl, HB.out⟩
  cases g1 : a == 0
  · go_wp2_with fail
    go_ret
    exact ⟨by rw [HE.out, h0, g1]; rfl, HB.out⟩
  cases g2 : b == 0
  · go_wp2_with fail
    go_ret
    exact ⟨by rw [HE.out, h0, g1, g2]; rfl, HB.out⟩
  cases g3 : c == 0
  · go_wp2_with fail
    go_ret
    exact ⟨by rw [HE.out, h0, g1, g2, g3]; rfl, HB.out⟩
  cases g4 : d == 0
  all_goals (
    go_wp2_with fail
    go_ret
    exact ⟨by rw [HE.out, h0, g1, g2, g3, g4]; rfl, HB.out⟩)
end Go.Proofs.YtbejafbpipdbjaaDoor
