/-
  What OpDo of the program answers for any raster and operation, good or not (putO). Conditions as they stand.
-/
import Derived.Test.YtiemlakjallphaaDoorOpDoI
import Derived.Test.YtiemlakjallphaaDoorRefO
namespace Go.Proofs.YtiemlakjallphaaDoor
set_option maxRecDepth 4000
open Go.RowKit

/-- A raster as it was drawn, good or not. -/
structure Rw where
  w : Int
  h : Int
  p : List Px
theorem implOpDo_any (W H : Int) (A : Option Addr) (c : Nat) (l : List Px) (o : Op) (w : World) (hR : RangesIn w) (hs : l.length ≤ 1073741824) (hc : l.length ≤ c) (h : HasP w w.heap.size A l) :
    Calls Tryd.prog 12 #[rasV W H A l.length c, o.v] w (Did (putO W H l o) w) := by
  unfold putO
  cases hq : (rasB W H l && opB o)
  · exact opDo_bad W H A c l o w hR hs h hq
  · obtain ⟨h1, h2⟩ := Bool.and_eq_true_iff.1 hq
    have := opDo_good ⟨W.toNat, H.toNat, l⟩ A c o w (ok_of h1) h2 hR hc h
    rw [raV_of h1] at this
    exact this
theorem put_small {W H : Int} {l : List Px} {o : Op} : ((putO W H l o).getD ra0).p.length ≤ 36 := by
  unfold putO
  cases hq : (rasB W H l && opB o)
  · exact Nat.zero_le _
  · obtain ⟨h1, h2⟩ := Bool.and_eq_true_iff.1 hq
    simp only [if_true]
    cases hd : doR ⟨W.toNat, H.toNat, l⟩ o with
    | none => exact Nat.zero_le _
    | some s => exact (ra_len (doR_ok (ok_of h1) h2 hd)).2
end Go.Proofs.YtiemlakjallphaaDoor
