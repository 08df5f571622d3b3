/-
  eaBytes tells that two slices with the same bytes are the same. No condition.
-/
import Derived.Test.YtnnpjcbdcjdojaaBase
namespace Go.Proofs.Ytnnpjcbdcjdojaa
set_option maxRecDepth 4000
open Go.RowKit

theorem eaBytes_same (A A' : Option Addr) (c c' B B' : Nat) (l : List UInt8) (w : World) (h : Has w B A l) (h' : Has w B' A' l) :
    Calls Try.prog 14 #[.slice A l.length c, .slice A' l.length c'] w fun e w' => e = .returned (.bool true) ∧ w = w' := by
  have t1 := text_of_has h c
  have t2 := text_of_has h' c'
  clear h h'
  go_enter Try.func14, Try.ntmps14
  go_wp2
  go_ret
  exact ⟨rfl, rfl⟩
theorem eaBytes_diff (A A' : Option Addr) (c c' B B' : Nat) (l m : List UInt8) (w : World) (h : Has w B A l) (h' : Has w B' A' m) (hne : l ≠ m) :
    Calls Try.prog 14 #[.slice A l.length c, .slice A' m.length c'] w fun e w' => e = .returned (.bool false) ∧ w = w' := by
  have t1 := text_of_has h c
  have t2 := text_of_has h' c'
  have hs : (l == m) = false := beq_eq_false_iff_ne.2 hne
  clear h h' hne
  go_enter Try.func14, Try.ntmps14
  go_wp2
  go_ret
  exact ⟨rfl, rfl⟩
end Go.Proofs.Ytnnpjcbdcjdojaa
