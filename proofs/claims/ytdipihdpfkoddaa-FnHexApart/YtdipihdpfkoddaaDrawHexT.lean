/-
  DrawHexText draws at most 12 bytes. Condition: at most 2^30 bytes to draw from.
-/
import Derived.Test.YtdipihdpfkoddaaDrawB
namespace Go.Proofs.Ytdipihdpfkoddaa
open Go.RowKit

/-- Some bytes, no more than n, in a slice of the call's own. -/
def SomeB (w : World) (n : Nat) (e : Ending) (w' : World) : Prop := ∃ v, ∃ l : List UInt8, e = .returned v ∧ Own w' w.heap.size v l ∧ l.length ≤ n ∧ Below w.heap.size w w'

set_option maxHeartbeats 400000 in
theorem drawHexText_any (A : Option Addr) (c : Nat) (l : List UInt8) (w : World) (hs : l.length ≤ 1073741824) (hc : l.length ≤ c) (h : Has w w.heap.size A l) :
    Calls Try.prog 10 #[.slice A l.length c] w (SomeB w 12) := by
  go_enter Try.func10, Try.ntmps10
  go_wp2_with fail
  refine (l20Open_any A c l _ hs hc h).mono ?_
  rintro e w1 ⟨rfl, hr, hb⟩
  have hz := hr.lt
  go_wp2_with fail
  refine (l20Bytes_any _ 0 12 12 rfl _ hr (by omega) (by omega)).mono ?_
  rintro e w2 ⟨v, r, p', rfl, ho, hl, -, -, hg⟩
  have hb2 := below_of_grown hb hg (Nat.le_refl _) (by omega)
  have ho2 : Own w2 w.heap.size v r := ⟨ho.1, by
    rcases ho.2 with hn | ⟨g, cap, cur, e, hg, rest⟩
    · exact .inl hn
    · exact .inr ⟨g, cap, cur, e, by omega, rest⟩⟩
  clear ho hg hr hb
  go_wp2_with fail
  go_ret
  exact ⟨_, r, rfl, ho2, hl, hb2⟩
end Go.Proofs.Ytdipihdpfkoddaa
