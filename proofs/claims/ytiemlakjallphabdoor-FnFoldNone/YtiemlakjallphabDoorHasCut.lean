/-
  A slice of pixels that is cut reads as the list that is cut. No condition.
-/
import Derived.Test.YtiemlakjallphabDoorPix
namespace Go.Proofs.YtiemlakjallphabDoor
set_option maxRecDepth 4000
open Go.RowKit

theorem grown_none {w w' : World} (h : w.grownBy w' none) : Below w.heap.size w w' := (Below.refl _ w).grown h (Nat.le_refl _) (fun _ e => by cases e)
theorem HasP.dropAt {w : World} {B b o : Nat} {l : List Px} (h : HasP w B (some ⟨b, o, none⟩) l) (n : Nat) : HasP w B (some ⟨b, o + n * 4, none⟩) (l.drop n) := by
  rcases h with rfl | ⟨b', o', e, hb, hc⟩
  · exact .inl (by simp)
  · injection e with e
    injection e with e1 e2 _
    subst e1 e2
    refine .inr ⟨_, _, rfl, hb, fun i p hp => ?_⟩
    rw [List.getElem?_drop] at hp
    have := hc (n + i) p hp
    rwa [show o + n * 4 + i * 4 = o + (n + i) * 4 from by rw [Nat.add_mul]; omega]
theorem HasP.takeN {w : World} {B : Nat} {A : Option Addr} {l : List Px} (h : HasP w B A l) (n : Nat) : HasP w B A (l.take n) := by
  rcases h with rfl | ⟨b, o, rfl, hb, hc⟩
  · exact .inl (by simp)
  · exact .inr ⟨b, o, rfl, hb, fun i x hx => hc i x (by
      rw [List.getElem?_take] at hx
      split at hx
      · exact hx
      · cases hx)⟩
end Go.Proofs.YtiemlakjallphabDoor
