/-
  A raster's box that a region that draws left. Plain lemmas; no condition.
-/
import Derived.Test.YtiemlakjallphabDoorOpsAll
import Derived.Test.YtiemlakjallphabDoorRasBox
import Derived.Test.YtiemlakjallphabDoorPixO
import Derived.Test.YtiemlakjallphabDoorBitE
import Derived.Test.YtiemlakjallphabDoorRegH
namespace Go.Proofs.YtiemlakjallphabDoor
set_option maxRecDepth 4000
open Go.RowKit

/-- A raster's box that a region left: fresh, and its pixels the call's own. -/
def Laid (w : World) (s : Ra) (g : Nat) (A : Option Addr) (c : Nat) (w' : World) : Prop :=
  RasAtB w' g s.w s.h A s.p.length c 30 ∧ s.p.length ≤ c ∧ OwnP w' w.heap.size (.slice A s.p.length c) s.p ∧ (∀ q, (Value.slice A s.p.length c).ownBlock = some q → q ≠ g) ∧ w.heap.size ≤ g ∧ Below w.heap.size w w'
theorem laid_store {w u : World} {s : Ra} {g : Nat} {A : Option Addr} {c : Nat} (hz : RasAtB u g 0 0 none 0 0 30) (hc : s.p.length ≤ c) (ho : OwnP u w.heap.size (.slice A s.p.length c) s.p) (hne : ∀ q, (Value.slice A s.p.length c).ownBlock = some q → q ≠ g) (hg : w.heap.size ≤ g) (hb : Below w.heap.size w u) :
    Laid w s g A c (((u.setCell ⟨g, 0, none⟩ (.int .i64 (s.w : Int))).setCell ⟨g, 1, none⟩ (.int .i64 (s.h : Int))).setCell ⟨g, 2, none⟩ (.slice A s.p.length c)) := by
  refine ⟨fin_ras hz _ _ _, hc, ?_, hne, hg, ((hb.setCell (p := ⟨g, 0, none⟩) hg _).setCell (p := ⟨g, 1, none⟩) hg _).setCell (p := ⟨g, 2, none⟩) hg _⟩
  have hn : (Value.slice A s.p.length c).ownBlock = none ∨ (Value.slice A s.p.length c).ownBlock ≠ some g := .inr fun e => hne g e rfl
  exact World.ownsRow.kept (World.ownsRow.kept (World.ownsRow.kept ho (grown_cell _ g 0 _) hn) (grown_cell _ g 1 _) hn) (grown_cell _ g 2 _) hn
theorem laid_zero (u : World) : RasAtB (u.alloc (.cells #[.int .i64 0, .int .i64 0, .slice none 0 0] 30)) u.heap.size 0 0 none 0 0 30 := heap_alloc_new u _
end Go.Proofs.YtiemlakjallphabDoor
