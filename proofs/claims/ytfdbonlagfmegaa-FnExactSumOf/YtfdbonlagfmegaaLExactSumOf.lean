/-
  The law FnExactSumOf returns true for every list of bytes. No condition.
-/
import Derived.Test.YtfdbonlagfmegaaCopy
import Derived.Test.YtfdbonlagfmegaaSum
namespace Go.Proofs.Ytfdbonlagfmegaa
open Go.RowKit

set_option maxHeartbeats 1000000 in
theorem fnExactSumOf_small (A : Option Addr) (c : Nat) (l : List UInt8) (w : World) (h : Has w w.heap.size A l) (hs : l.length ≤ 1048576) :
    Calls Try.prog 5 #[.slice A l.length c] w fun e w' => e = .returned (.bool true) ∧ Below w.heap.size w w' := by
  have hb : (l.length : Int) ≤ 1048576 := by omega
  go_enter Try.func5, Try.ntmps5
  go_wp2_with fail
  refine (toByteS_any A c l _ (by omega) h).mono ?_
  rintro e w1 ⟨rfl, ho1, B1⟩
  have h1 := ho1.reads
  have hA1 := h.carry B1 (Nat.le_refl _) B1.size
  have z1 := B1.size
  clear ho1 h
  go_wp2_with fail
  refine (specSumOf_any _ _ l _ _ (by omega) h1).mono ?_
  rintro e w' ⟨rfl, rfl⟩
  clear h1
  go_wp2_with fail
  refine (toByteS_any A c l _ (by omega) hA1).mono ?_
  rintro e w2 ⟨rfl, ho2, hb2⟩
  have B2 : Below w.heap.size w w2 := B1.trans (hb2.mono z1)
  have h2 := ho2.reads
  have hA2 := hA1.carry hb2 (Nat.le_refl _) hb2.size
  have z2 := B2.size
  clear ho2 hb2 hA1 B1
  go_wp2_with fail
  refine (implSumOf_any _ _ l _ _ (by omega) h2).mono ?_
  rintro e w' ⟨rfl, rfl⟩
  go_wp2_with fail
  refine (toByteS_any A c l _ (by omega) hA2).mono ?_
  rintro e w3 ⟨rfl, ho3, hb3⟩
  have B3 : Below w.heap.size w w3 := B2.trans (hb3.mono z2)
  have h3 := ho3.reads
  have h23 := h2.carry hb3 (Nat.le_refl _) hb3.size
  clear ho3 hb3 hA2 B2
  go_wp2_with fail
  refine (eqByteS_same _ _ _ _ l _ (by omega) h23 h3).mono ?_
  rintro e w4 ⟨rfl, n4, rfl⟩
  go_wp2_with fail
  go_ret
  exact ⟨rfl, below_draws B3 _⟩

theorem fnExactSumOf_walk (A : Option Addr) (c : Nat) (l : List UInt8) (w : World) (h : Has w w.heap.size A l) (_ : l.length ≤ c) :
    Calls Try.prog 5 #[.slice A l.length c] w fun e w' => e = .returned (.bool true) ∧ Below w.heap.size w w' := by
  by_cases hbig : 1048576 < l.length
  · have hb : (1048576 : Int) < (l.length : Int) := by omega
    go_enter Try.func5, Try.ntmps5
    go_wp2
    go_ret
    exact ⟨rfl, Below.refl _ _⟩
  · exact fnExactSumOf_small A c l w h (by omega)
end Go.Proofs.Ytfdbonlagfmegaa
