/-
  eaRas tells that two rasters with the same sides and pixels are the same. Condition: at most 2^30 pixels.
-/
import Derived.Test.YtiemlakjallphabDoorRasBox
import Derived.Test.YtiemlakjallphabDoorRasAtM
namespace Go.Proofs.YtiemlakjallphabDoor
set_option maxRecDepth 4000
open Go.RowKit

set_option maxHeartbeats 1000000 in
theorem eaRas_same (W H : Int) (A A' : Option Addr) (c c' : Nat) (l : List Px) (w : World) (hs : l.length ≤ 1073741824) (h : HasP w w.heap.size A l) (h' : HasP w w.heap.size A' l) :
    Calls Tryd.prog 25 #[rasV W H A l.length c, rasV W H A' l.length c'] w fun e w' => e = .returned (.bool true) ∧ Below w.heap.size w w' := by
  unfold rasV
  have hb0 : Below w.heap.size w ((w.alloc (.cells #[.int .i64 W, .int .i64 H, .slice A l.length c] 30)).alloc (.cells #[.int .i64 W, .int .i64 H, .slice A' l.length c'] 30)) := ((Below.refl _ w).alloc (Nat.le_refl _) _).alloc (by simp) _
  have hX : RasAtB ((w.alloc (.cells #[.int .i64 W, .int .i64 H, .slice A l.length c] 30)).alloc (.cells #[.int .i64 W, .int .i64 H, .slice A' l.length c'] 30)) w.heap.size W H A l.length c 30 := (Below.heap_alloc _ _ _ (by simp)).trans (heap_alloc_new w _)
  have hY : RasAtB ((w.alloc (.cells #[.int .i64 W, .int .i64 H, .slice A l.length c] 30)).alloc (.cells #[.int .i64 W, .int .i64 H, .slice A' l.length c'] 30)) (w.heap.size + 1) W H A' l.length c' 30 := by
    have := heap_alloc_new (w.alloc (.cells #[.int .i64 W, .int .i64 H, .slice A l.length c] 30)) (.cells #[.int .i64 W, .int .i64 H, .slice A' l.length c'] 30)
    rw [show (w.alloc (.cells #[.int .i64 W, .int .i64 H, .slice A l.length c] 30)).heap.size = w.heap.size + 1 from by simp] at this
    exact this
  have H1 := Lib.hid (h.below hb0)
  have H2 := Lib.hid (h'.below hb0)
  have HB := Lib.hid hb0
  clear h h' hb0
  go_enter Tryd.func25, Tryd.ntmps25
  go_wp2_with fail
  generalize (w.alloc (.cells #[.int .i64 W, .int .i64 H, .slice A l.length c] 30)).alloc (.cells #[.int .i64 W, .int .i64 H, .slice A' l.length c'] 30) = w0 at *
  have x2 := hX.c2
  have y2 := hY.c2
  clear hX hY
  go_loopw [5] (fun i wr => ∃ k : Nat, k ≤ l.length ∧ i = .int .i64 k ∧ ∃ n, wr = w0.drewN n) (fun i _ => l.length - (intOf i).toNat)
  case atStart => exact ⟨0, Nat.zero_le _, rfl, 0, rfl⟩
  case round =>
    obtain ⟨k, hk, rfl, n, rfl⟩ := hrel
    by_cases hlt : k < l.length
    · obtain ⟨b, o, p, rfl, hbB, hp, d0, d1, d2, d3⟩ := H1.out.spot hlt
      obtain ⟨b', o', p', rfl, hbB', hp', e0, e1, e2, e3⟩ := H2.out.spot hlt
      obtain rfl : p = p' := by rw [hp] at hp'; injection hp'
      clear hp hp'
      go_wp2
      go_quiet (fail)
      go_wp2
      go_roundw
      case rel => exact ⟨k + 1, by omega, by go_num, _, rfl⟩
      case measure => simp [intOf]; omega
    · go_wp2
      go_ret
      exact ⟨rfl, below_draws HB.out n⟩
end Go.Proofs.YtiemlakjallphabDoor
