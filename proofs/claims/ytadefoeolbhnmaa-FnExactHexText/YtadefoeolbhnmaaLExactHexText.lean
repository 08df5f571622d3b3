/-
  The law FnExactHexText returns true for every list of bytes. No condition.
-/
import Derived.Test.YtadefoeolbhnmaaCopy
import Derived.Test.YtadefoeolbhnmaaHexI
namespace Go.Proofs.Ytadefoeolbhnmaa
open Go.RowKit

set_option maxHeartbeats 400000 in
theorem fnExactHexText_walk (A : Option Addr) (c : Nat) (l : List UInt8) (w : World) (h : Has w w.heap.size A l) (_hc : l.length ≤ c) :
    Calls Try.prog 4 #[.slice A l.length c] w fun e w' => e = .returned (.bool true) ∧ Below w.heap.size w w' := by
  by_cases hbig : 1048576 < l.length
  · have hb : (1048576 : Int) < (l.length : Int) := by omega
    go_enter Try.func4, Try.ntmps4
    go_wp2
    go_ret
    exact ⟨rfl, Below.refl _ _⟩
  · have hb : (l.length : Int) ≤ 1048576 := by omega
    go_enter Try.func4, Try.ntmps4
    go_wp2_with fail
    refine (toByteS_any A c l _ (by omega) h).mono ?_
    rintro e w1 ⟨rfl, ho1, hb1⟩
    go_wp2_with fail
    refine (specHexText_any _ _ l _ (by omega) ho1.reads).mono ?_
    rintro e w2 ⟨rfl, n2, rfl⟩
    have hb2 := below_draws hb1 n2
    have h2 : Has (w1.drewN n2) (w1.drewN n2).heap.size A l := h.carry hb2 (Nat.le_refl _) hb2.size
    clear ho1 hb1
    generalize w1.drewN n2 = w2 at *
    go_wp2_with fail
    refine (toByteS_any A c l _ (by omega) h2).mono ?_
    rintro e w3 ⟨rfl, ho3, hb3⟩
    have h3 : Has w3 w3.heap.size A l := h2.carry hb3 (Nat.le_refl _) hb3.size
    have hb3' : Below w.heap.size w w3 := hb2.trans (hb3.mono hb2.size)
    clear hb3 hb2
    go_wp2_with fail
    refine (implHexText_any _ _ l _ (by omega) ho3.reads).mono ?_
    rintro e w4 ⟨rfl, hb4⟩
    have h4 : Has w4 w4.heap.size A l := h3.carry hb4 (Nat.le_refl _) hb4.size
    have ho4 := ho3.below hb4 (Nat.le_refl _)
    have hb4' : Below w.heap.size w w4 := hb3'.trans (hb4.mono hb3'.size)
    clear hb4 hb3' ho3 h3
    go_wp2_with fail
    refine (toByteS_any A c l _ (by omega) h4).mono ?_
    rintro e w5 ⟨rfl, ho5, hb5⟩
    have ho45 := ho4.below hb5 (Nat.le_refl _)
    have hb5' : Below w.heap.size w w5 := hb4'.trans (hb5.mono hb4'.size)
    clear hb5 hb4' ho4 h4
    go_wp2_with fail
    refine (eqByteS_same _ _ _ _ l _ (by omega) ho45.reads ho5.reads).mono ?_
    rintro e w6 ⟨rfl, n6, rfl⟩
    go_wp2_with fail
    go_ret
    exact ⟨rfl, below_draws hb5' n6⟩
end Go.Proofs.Ytadefoeolbhnmaa
