/-
  The law FnExactBitGet returns true for every list of bytes, place and number of bits. Condition: the three errors are not nil.
-/
import Derived.Test.YtfdbonlagfmegaaDoorCopy
import Derived.Test.YtfdbonlagfmegaaDoorBitGR
namespace Go.Proofs.YtfdbonlagfmegaaDoor
open Go.RowKit

set_option maxHeartbeats 1000000 in
theorem fnExactBitGet_small (A : Option Addr) (c : Nat) (l : List UInt8) (a b : Int) (w : World) (hT : Errs w) (h : Has w w.heap.size A l) (ha : a < 9223372036854775808) (hs : l.length ≤ 1048576) :
    Calls Tryd.prog 4 #[.slice A l.length c, .int .i64 a, .int .i64 b] w fun e w' => e = .returned (.bool true) ∧ Below w.heap.size w w' := by
  have hb : (l.length : Int) ≤ 1048576 := by omega
  have hw4 : 4 ≤ w.heap.size := hT.2.2.lt
  have HT : Hid (∀ W, Below w.heap.size w W → Errs W) := Lib.hid fun W hb => hT.below hb (Nat.le_refl _)
  have CT := Lib.hid fun A c W hh => toByteS_any A c l W (by omega) hh
  have CS := Lib.hid fun A c B W hh => specBitGet_any A c l a b B W (by omega) hh
  have CI := Lib.hid fun A c W hh hE hw => implBitGet_any A c l a b W (by omega) ha hh hE hw
  have CE := Lib.hid fun A A' c c' W hh hh' => eqByteS_same A A' c c' l W (by omega) hh hh'
  clear hT ha
  generalize bitGetN l a b = n at *
  generalize bitGetB l a b = ok at *
  go_enter Tryd.func4, Tryd.ntmps4
  go_wp2_with fail
  refine (CT.out A c _ h).mono ?_
  rintro e w1 ⟨rfl, ho1, B1⟩
  have h1 := ho1.reads
  have hA1 := h.carry B1 (Nat.le_refl _) B1.size
  have z1 := B1.size
  clear ho1 h
  go_wp2_with fail
  refine (CS.out _ _ _ _ h1).mono ?_
  rintro e w' ⟨rfl, rfl⟩
  clear h1
  go_wp2_with fail
  refine (CT.out A c _ hA1).mono ?_
  rintro e w2 ⟨rfl, ho2, hb2⟩
  have B2 : Below w.heap.size w w2 := B1.trans (hb2.mono z1)
  have h2 := ho2.reads
  have hA2 := hA1.carry hb2 (Nat.le_refl _) hb2.size
  have z2 := B2.size
  clear ho2 hb2 hA1 B1
  go_wp2_with fail
  refine (CI.out _ _ _ h2 (HT.out _ B2) (by omega)).mono ?_
  rintro e w3 ⟨rfl, hb3⟩
  have B3 : Below w.heap.size w w3 := B2.trans (hb3.mono z2)
  have h3 := h2.carry hb3 (Nat.le_refl _) hb3.size
  have hA3 := hA2.carry hb3 (Nat.le_refl _) hb3.size
  have z3 := B3.size
  clear hb3 hA2 h2 B2
  have hbb : (ok != ok) = false := by cases ok <;> rfl
  go_wp2_with fail
  refine (CT.out A c _ hA3).mono ?_
  rintro e w4 ⟨rfl, ho4, hb4⟩
  have B4 : Below w.heap.size w w4 := B3.trans (hb4.mono z3)
  have h4 := ho4.reads
  have h34 := h3.carry hb4 (Nat.le_refl _) hb4.size
  clear ho4 hb4 hA3 B3
  go_wp2_with fail
  refine (CE.out _ _ _ _ _ h34 h4).mono ?_
  rintro e w5 ⟨rfl, n5, rfl⟩
  go_wp2_with fail
  go_ret
  exact ⟨rfl, below_draws B4 _⟩

theorem fnExactBitGet_walk (A : Option Addr) (c : Nat) (l : List UInt8) (a b : Int) (w : World) (hT : Errs w) (h : Has w w.heap.size A l) (ha : (Lit.int .i64 a).wf = true) (_ : (Lit.int .i64 b).wf = true) :
    Calls Tryd.prog 4 #[.slice A l.length c, .int .i64 a, .int .i64 b] w fun e w' => e = .returned (.bool true) ∧ Below w.heap.size w w' := by
  by_cases hbig : 1048576 < l.length
  · have hb : (1048576 : Int) < (l.length : Int) := by omega
    go_enter Tryd.func4, Tryd.ntmps4
    go_wp2
    go_ret
    exact ⟨rfl, Below.refl _ _⟩
  · refine fnExactBitGet_small A c l a b w hT h ?_ (by omega)
    simp [Lit.wf] at ha
    have e1 : IntKind.i64.max = 9223372036854775807 := rfl
    omega
end Go.Proofs.YtfdbonlagfmegaaDoor
