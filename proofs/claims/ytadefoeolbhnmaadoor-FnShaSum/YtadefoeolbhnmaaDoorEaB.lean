/-
  eaBytes tells that two slices with the same bytes are the same. No condition.
-/
import Derived.Test.YtadefoeolbhnmaaDoorBase
namespace Go.Proofs.YtadefoeolbhnmaaDoor
open Go.RowKit

theorem eaBytes_same (A A' : Option Addr) (c c' B B' : Nat) (l : List UInt8) (w : World) (h : Has w B A l) (h' : Has w B' A' l) :
    Calls Tryd.prog 10 #[.slice A l.length c, .slice A' l.length c'] w fun e w' => e = .returned (.bool true) ∧ w = w' := by
  have t1 := text_of_has h c
  have t2 := text_of_has h' c'
  clear h h'
  go_enter Tryd.func10, Tryd.ntmps10
  go_wp2
  go_ret
  exact ⟨rfl, rfl⟩
end Go.Proofs.YtadefoeolbhnmaaDoor
