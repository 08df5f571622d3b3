/-
  DrawOpsDo draws some raster and some list of operations. Condition: at most 2^30 bytes to draw from.
-/
import Derived.Test.YtiemlakjallphabDoorDrOps
import Derived.Test.YtiemlakjallphabDoorDrawRasC
import Derived.Test.YtiemlakjallphabDoorRes
namespace Go.Proofs.YtiemlakjallphabDoor
set_option maxRecDepth 4000
open Go.RowKit

/-- What DrawOpsDo answers. -/
def DrewRL (w : World) (e : Ending) (w' : World) : Prop :=
  ∃ W H : Int, ∃ A c, ∃ l : List Px, ∃ q lc : Nat, ∃ ls : List Op, e = .returned (.tuple #[rasV W H A l.length c, .slice (some ⟨q, 0, none⟩) ls.length lc]) ∧ HasP w' w'.heap.size A l ∧ l.length ≤ c ∧ l.length ≤ 36 ∧ opE.Has w' w'.heap.size (some ⟨q, 0, none⟩) ls ∧ ls.length ≤ lc ∧ ls.length ≤ 6 ∧ Below w.heap.size w w'
set_option maxHeartbeats 1000000 in
theorem drawOpsDo_any (A : Option Addr) (c : Nat) (l : List UInt8) (w : World) (hs : l.length ≤ 1073741824) (hc : l.length ≤ c) (h : Has w w.heap.size A l) :
    Calls Tryd.prog 24 #[.slice A l.length c] w (DrewRL w) := by
  have hb0 : Below w.heap.size w (w.alloc (.cells #[.int .i64 0, .int .i64 0, .slice none 0 0] 30)) := (Below.refl _ w).alloc (Nat.le_refl _) _
  have hx0 : RasAtB (w.alloc (.cells #[.int .i64 0, .int .i64 0, .slice none 0 0] 30)) w.heap.size 0 0 none 0 0 30 := Box.new w _ _
  have h0 : Has (w.alloc (.cells #[.int .i64 0, .int .i64 0, .slice none 0 0] 30)) (w.alloc (.cells #[.int .i64 0, .int .i64 0, .slice none 0 0] 30)).heap.size A l := h.carry hb0 (Nat.le_refl _) hb0.size
  go_enter Tryd.func24, Tryd.ntmps24
  go_wp2_with fail
  generalize w.alloc (.cells #[.int .i64 0, .int .i64 0, .slice none 0 0] 30) = w0 at *
  have hlt := hx0.lt
  refine (l20Open_any A c l _ hs hc h0).mono ?_
  rintro e w1 ⟨rfl, hr, b1⟩
  have hx1 := hx0.below b1 hlt
  have B1 : Below w.heap.size w w1 := hb0.trans (b1.mono (by omega))
  have hz1 := hr.lt
  clear hb0 b1 hx0 h0 h hs hc
  go_wp2_with fail
  refine (l20Ras_any _ 0 16 _ hr (by omega) (by omega) (by omega)).mono ?_
  rintro e w2 ⟨W, H, A2, c2, l2, rfl, hh2, hc2, hl2, ⟨p2, hp2, hr2⟩, hg2, hn2⟩
  have hx2 := hx1.grown hg2 (by simp; omega)
  have B2 := below_of_grown B1 hg2 (by omega) B1.size
  have hA2 : ∀ b o, A2 = some ⟨b, o, none⟩ → b ≠ w0.heap.size ∧ b ≠ w.heap.size := fun b o e => by have := hn2 b o e; omega
  have HA2 := Lib.hid hA2
  have hz2 := hr2.lt
  clear hn2 hx1 B1 hg2 hr hA2
  unfold rasV
  go_wp2_with fail
  refine (l20Ops_any _ p2 9 _ hr2 (by omega) (by omega) (by omega)).mono ?_
  rintro e w3 ⟨q3, c3, ls, p3, rfl, hl6, -, ho3, hr3, hg3, -⟩
  have HX3 := Lib.hid (hx2.grown hg3 (by simp; omega))
  have HB3 := Lib.hid (below_of_grown B2 hg3 (by omega) B2.size)
  have HH3 : Hid (HasP w3 w3.heap.size A2 l2) := Lib.hid ((hh2.grown_ne hg3 (fun b o e => (HA2.out b o e).1)).wider hg3.size)
  have HO3 := Lib.hid ho3
  have x0 := HX3.out.c0
  have x1 := HX3.out.c1
  have x2 := HX3.out.c2
  have e0 := HX3.out.free 0
  have e1 := HX3.out.free 1
  have e2 := HX3.out.free 2
  have hw2 : w.heap.size < w2.heap.size := by omega
  clear hx2 B2 hh2 hg3 hr2 hr3 ho3
  have HXF := Lib.hid (fin_ras HX3.out (.int .i64 W) (.int .i64 H) (.slice A2 l2.length c2))
  have HOF := Lib.hid (((HO3.out.set_low hw2 0 (x := .int .i64 W)).set_low hw2 1 (x := .int .i64 H)).set_low hw2 2 (x := .slice A2 l2.length c2))
  go_wp2_with fail
  (try simp only [Exit.inBlock, Exit.then])
  refine bodyPost_ret (results_row_tmp rfl _ _ w.heap.size 30 #[.int .i64 W, .int .i64 H, .slice A2 l2.length c2] (0, 0) _ (.slice (some ⟨q3, 0, none⟩) ls.length c3) rfl rfl HXF.out Tryd.underlying30 rfl (by kernel_rfl)) rfl ?_
  have hx : ∀ b o, A2 = some ⟨b, o, none⟩ → b ≠ w.heap.size := fun b o e => (HA2.out b o e).2
  refine ⟨W, H, A2, c2, l2, q3, c3, ls, rfl, ?_, hc2, hl2, El.Own.reads HOF.out, (El.Own.len HOF.out).2, hl6, ((HB3.out.setCell (by simp) _).setCell (by simp) _).setCell (by simp) _⟩
  simpa using (((HH3.out.set_ne hx 0 (.int .i64 W)).set_ne hx 1 (.int .i64 H)).set_ne hx 2 (.slice A2 l2.length c2))
end Go.Proofs.YtiemlakjallphabDoor
