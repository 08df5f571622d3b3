/-
  heldOpOpS finds in a slice of operations what markOpOpS wrote there. Condition: at most 2^30 operations.
-/
import Derived.Test.YtbejafbpipdbjaaDoorOpQ
namespace Go.Proofs.YtbejafbpipdbjaaDoor
set_option maxRecDepth 4000
open Go.RowKit

set_option maxHeartbeats 2000000 in
theorem heldOpOpS_any (A : Option Addr) (c n B : Nat) (w : World) (hs : n ≤ 1073741824) (h : opE.Has w B A (omarks 1 n)) :
    Calls Tryd.prog 62 #[.slice A n c, .int .i64 1] w fun e w' => e = .returned (.int .i64 (1 + 5 * (n : Int))) ∧ w = w' := by
  go_enter Tryd.func62, Tryd.ntmps62
  go_wp2
  go_loop [1, 5] (fun t i => ∃ k : Nat, k ≤ n ∧ i = .int .i64 k ∧ t = .int .i64 (1 + 5 * (k : Int))) (fun _ i => n - (intOf i).toNat)
  case atStart => exact ⟨0, Nat.zero_le _, rfl, by go_num⟩
  case round =>
    obtain ⟨k, hk, rfl, rfl⟩ := hrel
    by_cases hlt : k < n
    · obtain ⟨b, o, x, rfl, hbB, hx, -⟩ := h.spot (k := k) (by rw [omarks_length]; exact hlt)
      obtain ⟨d0, d1, d2, d3, d4⟩ := op_at h hx
      rw [omarks_at 1 n k hlt] at hx
      injection hx with hx
      subst hx
      obtain ⟨t, ht⟩ : ∃ t : Int, 1 + 5 * (k : Int) = t := ⟨_, rfl⟩
      have e : omark 1 k = ⟨t, t + 1, t + 1 + 1, t + 1 + 1 + 1, t + 1 + 1 + 1 + 1⟩ := by unfold omark; rw [← ht]; rfl
      rw [e] at d0 d1 d2 d3 d4
      simp only at d0 d1 d2 d3 d4
      rw [ht]
      have hb1 : 0 ≤ t ∧ t ≤ 6000000000 := by omega
      have HT := Lib.hid ht
      clear h e ht
      go_wp2
      go_round
      case rel => exact ⟨k + 1, by omega, by go_num, by rw [show (1 + 5 * ((k + 1 : Nat) : Int)) = t + 1 + 1 + 1 + 1 + 1 from by have := HT.out; omega]⟩
      case measure => simp [intOf]; omega
    · obtain rfl : k = n := by omega
      go_wp2
      go_ret
      exact ⟨rfl, rfl⟩
end Go.Proofs.YtbejafbpipdbjaaDoor
