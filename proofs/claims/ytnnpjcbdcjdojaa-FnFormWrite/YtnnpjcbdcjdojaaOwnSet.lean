/-
  Storing one byte into a slice of the call's own; what grows stays below. No condition.
-/
import Derived.Test.YtnnpjcbdcjdojaaPush
namespace Go.Proofs.Ytnnpjcbdcjdojaa
set_option maxRecDepth 4000
open Go.RowKit

theorem Own.set {w : World} {base g cap : Nat} {l : List UInt8} (h : Own w base (.slice (some ⟨g, 0, none⟩) l.length cap) l) (k : Nat) (b : UInt8) :
    Own (w.setCell ⟨g, k, none⟩ (.int .u8 (b.toNat : Int))) base (.slice (some ⟨g, 0, none⟩) l.length cap) (l.set k b) ∧ w.grownBy (w.setCell ⟨g, k, none⟩ (.int .u8 (b.toNat : Int))) (some g) := by
  have h2 := World.ownsRow.stored h k (.int .u8 (b.toNat : Int))
  refine ⟨?_, h2.2⟩
  unfold Own
  rw [List.length_set, List.map_set]
  exact h2.1
theorem Own.nonnil {w : World} {base n c : Nat} {A : Option Addr} {l : List UInt8} (h : Own w base (.slice A n c) l) (hn : 0 < l.length) : ∃ g, A = some ⟨g, 0, none⟩ ∧ base ≤ g ∧ g < w.heap.size := by
  rcases h.2 with ⟨hv, h0⟩ | ⟨g, cap, cur, hv, hb, hg, _⟩
  · omega
  · injection hv with hv _ _
    exact ⟨g, hv, hb, (Array.getElem?_eq_some_iff.1 hg).1⟩
theorem grown_below {B base : Nat} {w w' : World} {v : Value} {l : List UInt8} (hg : w.grownBy w' v.ownBlock) (ho : Own w base v l) (hB : B ≤ base) (hs : B ≤ w.heap.size) : Below B w w' :=
  (Below.refl _ _).grown hg hs (fun k hk => Nat.le_trans hB (World.ownsRow.lt ho k hk).1)
end Go.Proofs.Ytnnpjcbdcjdojaa
