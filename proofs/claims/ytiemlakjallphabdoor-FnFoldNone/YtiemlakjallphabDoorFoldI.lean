/-
  Four of the program's pieces of the fold: what two rules put, and slices.Grow, Clone and Concat of operations. Conditions as they stand.
-/
import Derived.Test.YtiemlakjallphabDoorFoldQ
import Derived.Test.YtiemlakjallphabDoorOpsU
import Derived.Lib.AppendZeros
import Derived.BigQuiet
namespace Go.Proofs.YtiemlakjallphabDoor
set_option maxRecDepth 4000
open Go.RowKit

/-- What stands instead, or nothing: then the list that comes along says nothing. -/
def GaveM (r : Option (List Op)) (w : World) (e : Ending) (w' : World) : Prop :=
  ∃ A n c, e = .returned (.tuple #[.slice A n c, .bool r.isSome]) ∧ (∀ s, r = some s → n = s.length ∧ n ≤ c ∧ opE.Has w' w'.heap.size A s) ∧ Below w.heap.size w w'
theorem toNone_any (A : Option Addr) (n c : Nat) (w : World) : Calls Tryd.prog 107 #[.slice A n c] w (GaveM (some []) w) := by
  go_enter Tryd.func107, Tryd.ntmps107
  go_wp2_with fail
  go_ret2
  exact ⟨none, 0, 0, rfl, fun s h => by injection h with h; subst h; exact ⟨rfl, Nat.le_refl _, El.Has.nil⟩, Below.refl _ _⟩
theorem toFirst_any (b o n c : Nat) (l : List Op) (w : World) (hl : 1 ≤ l.length) (hn : l.length ≤ n) (hc : n ≤ c) (h : opE.Has w w.heap.size (some ⟨b, o, none⟩) l) : Calls Tryd.prog 108 #[.slice (some ⟨b, o, none⟩) n c] w (GaveM (some (l.take 1)) w) := by
  have h1 : (0 : Int) ≤ 1 ∧ (1 : Int) ≤ (c : Int) := by omega
  have HC : Hid (1 ≤ c) := Lib.hid (by omega)
  have HH := Lib.hid h
  have HL := Lib.hid hl
  clear h hl hn hc
  go_enter Tryd.func108, Tryd.ntmps108
  go_wp2_with fail
  go_ret2
  exact ⟨some ⟨b, o, none⟩, 1, c, rfl, fun s h => by
    injection h with h
    subst h
    refine ⟨?_, HC.out, HH.out.takeN 1⟩
    rw [List.length_take]
    have := HL.out
    omega, Below.refl _ _⟩
set_option maxHeartbeats 2000000 in
theorem foldEqual_any (b o c : Nat) (x y : Op) (w : World) (hk : x.k = y.k) (hc3 : x.c = 0 ∧ y.c = 0) (hd3 : x.d = 0 ∧ y.d = 0) (hc : 2 ≤ c) (h : opE.Has w w.heap.size (some ⟨b, o, none⟩) [x, y]) : Calls Tryd.prog 109 #[.slice (some ⟨b, o, none⟩) 2 c] w (GaveM (if x = y then some [x] else none) w) := by
  obtain ⟨a0, a1, a2, a3, a4⟩ := op_at h (i := 0) (x := x) rfl
  obtain ⟨e0, e1, e2, e3, e4⟩ := op_at h (i := 1) (x := y) rfl
  simp only [Nat.zero_mul, Nat.one_mul, Nat.add_zero] at a0 a1 a2 a3 a4 e0 e1 e2 e3 e4
  have h1 : (0 : Int) ≤ 1 ∧ (1 : Int) ≤ (c : Int) := by omega
  have HC : Hid (1 ≤ c) := Lib.hid (by omega)
  have HH := Lib.hid h
  obtain ⟨k, xa, xb, xc, xd⟩ := x
  obtain ⟨k', ya, yb, yc, yd⟩ := y
  obtain ⟨rfl, rfl⟩ := hc3
  obtain ⟨rfl, rfl⟩ := hd3
  obtain rfl : k = k' := hk
  simp only at a0 a1 a2 a3 a4 e0 e1 e2 e3 e4
  clear h hc
  by_cases q1 : xa = ya
  · subst q1
    by_cases q2 : xb = yb
    · subst q2
      rw [if_pos rfl]
      go_enter Tryd.func109, Tryd.ntmps109
      go_wp2_with fail
      go_quiet (fail)
      go_wp2_with fail
      go_ret2
      exact ⟨some ⟨b, o, none⟩, 1, c, rfl, fun s h => by
        injection h with h
        subst h
        exact ⟨rfl, HC.out, (HH.out.takeN 1).below (below_draws (Below.refl _ _) _)⟩, below_draws (Below.refl _ _) _⟩
    · rw [if_neg (fun h => by injection h with _ _ h; exact q2 h)]
      have q3 : (xb == yb) = false := beq_eq_false_iff_ne.2 q2
      go_enter Tryd.func109, Tryd.ntmps109
      go_wp2_with fail
      go_quiet (fail)
      go_wp2_with fail
      go_ret2
      exact ⟨some ⟨b, o, none⟩, 1, c, rfl, (fun s h => by cases h), below_draws (Below.refl _ _) _⟩
  · rw [if_neg (fun h => by injection h with _ h; exact q1 h)]
    have q3 : (xa == ya) = false := beq_eq_false_iff_ne.2 q1
    go_enter Tryd.func109, Tryd.ntmps109
    go_wp2_with fail
    go_quiet (fail)
    go_wp2_with fail
    go_ret2
    exact ⟨some ⟨b, o, none⟩, 1, c, rfl, (fun s h => by cases h), below_draws (Below.refl _ _) _⟩
end Go.Proofs.YtiemlakjallphabDoor
