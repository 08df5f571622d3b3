/-
  eaOps finds two lists of the same operations alike. Condition: at most 2^30 operations.
-/
import Derived.Test.YtiemlakjallphabDoorOpO
import Derived.BigQuiet
namespace Go.Proofs.YtiemlakjallphabDoor
set_option maxRecDepth 4000
open Go.RowKit

set_option maxHeartbeats 2000000 in
theorem eaOps_same (A A' : Option Addr) (c c' : Nat) (l : List Op) (w : World) (hs : l.length ≤ 1073741824) (h : opE.Has w w.heap.size A l) (h' : opE.Has w w.heap.size A' l) :
    Calls Tryd.prog 30 #[.slice A l.length c, .slice A' l.length c'] w fun e w' => e = .returned (.bool true) ∧ Below w.heap.size w w' := by
  obtain ⟨N, hN⟩ : ∃ N, l.length = N := ⟨_, rfl⟩
  have HN := Lib.hid hN
  have HH := Lib.hid fun u (hb : Below w.heap.size w u) => h.below hb
  have HH' := Lib.hid fun u (hb : Below w.heap.size w u) => h'.below hb
  rw [hN] at hs ⊢
  clear h h' hN
  go_enter Tryd.func30, Tryd.ntmps30
  go_wp2_with fail
  go_loopw [5] (fun v wr => ∃ k : Nat, k ≤ N ∧ v = .int .i64 (k : Int) ∧ Below w.heap.size w wr) (fun v _ => N - (intOf v).toNat)
  case atStart => exact ⟨0, Nat.zero_le _, rfl, Below.refl _ _⟩
  case round =>
    obtain ⟨k, hk, rfl, hb⟩ := hrel
    have HB := Lib.hid hb
    clear hb
    by_cases hlt : k < N
    · obtain ⟨b, o, x, rfl, -, hx, -⟩ := (HH.out wr HB.out).spot (k := k) (by rw [HN.out]; exact hlt)
      obtain ⟨b', o', _, rfl, -, -, -⟩ := (HH'.out wr HB.out).spot (k := k) (by rw [HN.out]; exact hlt)
      obtain ⟨c0, c1, c2, c3, c4⟩ := op_at (HH.out wr HB.out) hx
      obtain ⟨d0, d1, d2, d3, d4⟩ := op_at (HH'.out wr HB.out) hx
      have hpI : (0 : Int) ≤ (k : Int) ∧ (k : Int) < (N : Int) := by omega
      clear hx
      go_wp2_with fail
      go_quiet (fail)
      go_wp2_with fail
      go_roundw
      case rel => exact ⟨k + 1, by omega, by go_num, below_draws HB.out _⟩
      case measure => simp [intOf]; omega
    · obtain rfl : k = N := by omega
      go_wp2_with fail
      go_ret
      exact ⟨rfl, HB.out⟩
end Go.Proofs.YtiemlakjallphabDoor
