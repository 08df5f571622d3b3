/-
  The law FnExactRasAt returns true for every raster and every place. No condition.
-/
import Derived.Test.YtdipihdpfkoddacRasAtI
import Derived.Test.YtdipihdpfkoddacPixQ
import Derived.Test.YtdipihdpfkoddacPixIn
import Derived.Test.YtdipihdpfkoddacRasBox
import Derived.Deep.RegionWith
namespace Go.Proofs.Ytdipihdpfkoddac
open Go.RowKit

set_option maxHeartbeats 2000000 in
theorem fnExactRasAt_small (W H : Int) (A : Option Addr) (c : Nat) (l : List Px) (x y : Int) (w : World) (h : HasP w w.heap.size A l) (hs : l.length ≤ 1048576) :
    Calls Try.prog 3 #[rasV W H A l.length c, .int .i64 x, .int .i64 y] w fun e w' => e = .returned (.bool true) ∧ Below w.heap.size w w' := by
  have HA : Hid (∀ W, Below w.heap.size w W → HasP W W.heap.size A l) := Lib.hid fun W hb => h.carry hb (Nat.le_refl _) hb.size
  have CZ := Lib.hid fun w => szRasRaster_small W H A l.length c w hs
  have CT := Lib.hid fun w hh => toRasRaster_any W H A c l w (by omega) hh
  have CS := Lib.hid fun A c w hh => specRasAt_any W H x y A c l w (by omega) hh
  have CI := Lib.hid fun A c w hc hh => implRasAt_any W H x y A c l w (by omega) hc hh
  have CQ := Lib.hid (eqPixPix_same (rasAtP W H x y l))
  have CE := Lib.hid fun A A' c c' w hh hh' => eqRasRaster_same W H A A' c c' l w (by omega) hh hh'
  unfold rasV Px.v at *
  generalize rasAtP W H x y l = q at *
  have hl0 : ¬ ((1048576 : Int) - (l.length : Int) < 0) := by omega
  have hx : RasAtB (w.alloc (.cells #[.int .i64 W, .int .i64 H, .slice A l.length c] 24)) w.heap.size W H A l.length c 24 := heap_alloc_new w _
  have hb : Below w.heap.size w (w.alloc (.cells #[.int .i64 W, .int .i64 H, .slice A l.length c] 24)) := (Below.refl _ w).alloc (Nat.le_refl _) _
  clear h hs
  go_enter Try.func3, Try.ntmps3
  go_wp2_with fail
  generalize w.alloc (.cells #[.int .i64 W, .int .i64 H, .slice A l.length c] 24) = w0 at *
  have hlt := hx.lt
  have x00 := hx.c0
  have x01 := hx.c1
  have x02 := hx.c2
  go_wp2_with fail
  refine (CZ.out _).mono ?_
  rintro e w1 ⟨rfl, b1⟩
  have hx1 := hx.below b1 hlt
  have B1 := hb.trans (b1.mono hb.size)
  have x10 := hx1.c0
  have x11 := hx1.c1
  have x12 := hx1.c2
  have z1 := hx1.lt
  clear b1 hx hb x00 x01 x02
  go_wp2_with fail
  refine (CT.out _ (HA.out _ B1)).mono ?_
  rintro e w2 ⟨g2, rfl, o2, b2⟩
  go_wp2_with fail
  refine (CS.out _ _ _ o2.reads).mono ?_
  rintro e w3 ⟨rfl, b3⟩
  have b13 := b2.trans (b3.mono b2.size)
  have B3 := B1.trans (b13.mono B1.size)
  have hx3 := hx1.below b13 z1
  have z3 := hx3.lt
  have x30 := hx3.c0
  have x31 := hx3.c1
  have x32 := hx3.c2
  clear b2 b3 b13 o2 hx1 B1 x10 x11 x12
  go_wp2_with fail
  clear x30 x31 x32
  have hx4 := hx3.below ((Below.refl w3.heap.size w3).alloc (Nat.le_refl _) (.cells #[.int .i64 q.r, .int .i64 q.g, .int .i64 q.b, .int .i64 q.a] 27)) z3
  have B4 := B3.alloc B3.size (.cells #[.int .i64 q.r, .int .i64 q.g, .int .i64 q.b, .int .i64 q.a] 27)
  have hp4 : (w3.alloc (.cells #[.int .i64 q.r, .int .i64 q.g, .int .i64 q.b, .int .i64 q.a] 27)).heap[w3.heap.size]? = some (.cells #[.int .i64 q.r, .int .i64 q.g, .int .i64 q.b, .int .i64 q.a] 27 (0, 0)) := heap_alloc_new w3 _
  generalize w3.alloc (.cells #[.int .i64 q.r, .int .i64 q.g, .int .i64 q.b, .int .i64 q.a] 27) = w4 at *
  have z4p : w3.heap.size < w4.heap.size := (Array.getElem?_eq_some_iff.1 hp4).1
  have z4 := hx4.lt
  clear B3 hx3
  refine (CT.out _ (HA.out _ B4)).mono ?_
  rintro e w5 ⟨g5, rfl, o5, b5⟩
  have B5 := B4.trans (b5.mono B4.size)
  have hx5 := hx4.below b5 z4
  have hp5 := (b5.block _ z4p).trans hp4
  have z5 := hx5.lt
  have z5p := Nat.lt_of_lt_of_le z4p b5.size
  clear B4 hx4 hp4 b5
  go_wp2_with fail
  have hy6 : RasAtB (w5.alloc (.cells #[.int .i64 W, .int .i64 H, .slice (some ⟨g5, 0, none⟩) l.length l.length] 31)) w5.heap.size W H (some ⟨g5, 0, none⟩) l.length l.length 31 := heap_alloc_new w5 _
  have b6 : Below w5.heap.size w5 (w5.alloc (.cells #[.int .i64 W, .int .i64 H, .slice (some ⟨g5, 0, none⟩) l.length l.length] 31)) := (Below.refl _ w5).alloc (Nat.le_refl _) _
  generalize w5.alloc (.cells #[.int .i64 W, .int .i64 H, .slice (some ⟨g5, 0, none⟩) l.length l.length] 31) = w6 at *
  have hh6 : HasP w6 w6.heap.size (some ⟨g5, 0, none⟩) l := (o5.reads.below b6).wider b6.size
  have B6 := B5.trans (b6.mono B5.size)
  have hx6 := hx5.below b6 z5
  have hp6 := (b6.block _ z5p).trans hp5
  have z6 := hx6.lt
  have z6y := hy6.lt
  have z6p := Nat.lt_of_lt_of_le z5p b6.size
  clear b6 hx5 o5 B5 hp5
  refine (CI.out _ _ _ (Nat.le_refl _) hh6).mono ?_
  rintro e w7 ⟨rfl, b7⟩
  have B7 := B6.trans (b7.mono B6.size)
  have hx7 := hx6.below b7 z6
  have hy7 := hy6.below b7 z6y
  have hp7 := (b7.block _ z6p).trans hp6
  have hh7 := hh6.carry b7 (Nat.le_refl _) b7.size
  have z7 := hx7.lt
  have z7y := hy7.lt
  have z7p := Nat.lt_of_lt_of_le z6p b7.size
  clear b7 hx6 hy6 hp6 hh6 B6
  have q0 : w7.cell? ⟨w3.heap.size, 0, none⟩ = some (.int .i64 q.r) := by rw [cell_of_row w7 _ 0 _ _ _ hp7]; rfl
  have q1 : w7.cell? ⟨w3.heap.size, 1, none⟩ = some (.int .i64 q.g) := by rw [cell_of_row w7 _ 1 _ _ _ hp7]; rfl
  have q2 : w7.cell? ⟨w3.heap.size, 2, none⟩ = some (.int .i64 q.b) := by rw [cell_of_row w7 _ 2 _ _ _ hp7]; rfl
  have q3 : w7.cell? ⟨w3.heap.size, 3, none⟩ = some (.int .i64 q.a) := by rw [cell_of_row w7 _ 3 _ _ _ hp7]; rfl
  have n7 : ¬ w3.heap.size = w7.heap.size := by omega
  have b8 : Below w7.heap.size w7 (w7.alloc (.cells #[.int .i64 q.r, .int .i64 q.g, .int .i64 q.b, .int .i64 q.a] 27)) := (Below.refl _ w7).alloc (Nat.le_refl _) _
  have B8 := B7.trans (b8.mono B7.size)
  have hx8 := hx7.below b8 z7
  have hy8 := hy7.below b8 z7y
  have hh8 := hh7.carry b8 (Nat.le_refl _) b8.size
  have HB8 := Lib.hid B8
  have HX8 := Lib.hid hx8
  have HY8 := Lib.hid hy8
  have HH8 := Lib.hid hh8
  clear b8 B7 hx7 hy7 hh7 hp7 B8 hx8 hy8 hh8
  go_wp2_with fail
  refine (CQ.out _).mono ?_
  rintro e w9 ⟨rfl, b9⟩
  have z8 := HX8.out.lt
  have z8y := HY8.out.lt
  have B9 := HB8.out.trans (b9.mono HB8.out.size)
  have hx9 := (HX8.out.below b9 z8).drew1
  have hy9 := (HY8.out.below b9 z8y).drew1
  have hh9 : HasP w9.drew w9.drew.heap.size (some ⟨g5, 0, none⟩) l := (HH8.out.carry b9 (Nat.le_refl _) b9.size).drewN 1
  have x90 := hx9.c0
  have x91 := hx9.c1
  have x92 := hx9.c2
  have y90 := hy9.c0
  have y91 := hy9.c1
  have y92 := hy9.c2
  have z9 := hy9.lt
  have z9x := hx9.lt
  have HB9 := Lib.hid (below_drew1 B9)
  have CT9 := Lib.hid (CT.out w9.drew (HA.out _ HB9.out))
  have HY9 := Lib.hid hy9
  have HH9 := Lib.hid hh9
  clear B9 b9 hx9 hy9 hh9 CT CI CS CZ CQ HB8 HX8 HY8 HH8 q0 q1 q2 q3
  go_wp2_with fail
  go_region_with (first
    | (go_at_call 8; refine CT9.out.mono ?_; rintro e w10 ⟨g10, rfl, o10, b10⟩; have y100 := (HY9.out.below b10 z9).c0; have y101 := (HY9.out.below b10 z9).c1; have y102 := (HY9.out.below b10 z9).c2; have hh10 := HH9.out.carry b10 (Nat.le_refl _) b10.size; have ho10 := o10.reads; have B10 := HB9.out.trans (b10.mono HB9.out.size); clear b10 o10)
    | (go_at_call 11; refine (CE.out _ _ _ _ _ hh10 ho10).mono ?_; rintro e w11 ⟨rfl, b11⟩; have B11 := B10.trans (b11.mono B10.size); clear b11))
  all_goals (go_wp2_with fail; go_ret; exact ⟨rfl, B11⟩)
theorem fnExactRasAt_walk (W H : Int) (A : Option Addr) (c : Nat) (l : List Px) (x y : Int) (w : World) (h : HasP w w.heap.size A l) (hm : l.length ≤ maxLen) (_ : (Lit.int .i64 x).wf = true) (_ : (Lit.int .i64 y).wf = true) :
    Calls Try.prog 3 #[rasV W H A l.length c, .int .i64 x, .int .i64 y] w fun e w' => e = .returned (.bool true) ∧ Below w.heap.size w w' := by
  by_cases hbig : l.length ≤ 1048576
  · exact fnExactRasAt_small W H A c l x y w h hbig
  · have CZ := Lib.hid fun w => szRasRaster_big W H A l.length c w hbig hm
    have HB : Hid (Below w.heap.size w (w.alloc (.cells #[.int .i64 W, .int .i64 H, .slice A l.length c] 24))) := Lib.hid ((Below.refl _ w).alloc (Nat.le_refl _) _)
    unfold rasV at *
    clear h hm hbig
    go_enter Try.func3, Try.ntmps3
    go_wp2_with fail
    refine (CZ.out _).mono ?_
    rintro e w' ⟨rfl, b⟩
    have HB2 := Lib.hid (HB.out.trans (b.mono HB.out.size))
    clear b
    go_wp2_with fail
    go_ret
    exact ⟨rfl, HB2.out⟩
end Go.Proofs.Ytdipihdpfkoddac
