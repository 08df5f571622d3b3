/-
  The law FnExactRasOk returns true for every raster. No condition.
-/
import Derived.Test.YtdipihdpfkoddabRasI
import Derived.Test.YtdipihdpfkoddabPixQ
import Derived.Test.YtdipihdpfkoddabPixIn
import Derived.Test.YtdipihdpfkoddabRasBox
import Derived.Deep.RegionWith
namespace Go.Proofs.Ytdipihdpfkoddab
open Go.RowKit

set_option maxHeartbeats 2000000 in
theorem fnExactRasOk_small (W H : Int) (A : Option Addr) (c : Nat) (l : List Px) (w : World) (h : HasP w w.heap.size A l) (hs : l.length ≤ 1048576) :
    Calls Try.prog 7 #[rasV W H A l.length c] w fun e w' => e = .returned (.bool true) ∧ Below w.heap.size w w' := by
  have HA : Hid (∀ W, Below w.heap.size w W → HasP W W.heap.size A l) := Lib.hid fun W hb => h.carry hb (Nat.le_refl _) hb.size
  have CZ := Lib.hid fun w => szRasRaster_small W H A l.length c w hs
  have CT := Lib.hid fun w hh => toRasRaster_any W H A c l w (by omega) hh
  have CS := Lib.hid fun A c w hh => specRasOk_any W H A c l w (by omega) hh
  have CI := Lib.hid fun A c w hh => implRasOk_any W H A c l w (by omega) hh
  have CE := Lib.hid fun A A' c c' w hh hh' => eqRasRaster_same W H A A' c c' l w (by omega) hh hh'
  unfold rasV at *
  generalize rasB W H l = q at *
  have hl0 : ¬ ((1048576 : Int) - (l.length : Int) < 0) := by omega
  have hx : RasAtB (w.alloc (.cells #[.int .i64 W, .int .i64 H, .slice A l.length c] 48)) w.heap.size W H A l.length c 48 := heap_alloc_new w _
  have hb : Below w.heap.size w (w.alloc (.cells #[.int .i64 W, .int .i64 H, .slice A l.length c] 48)) := (Below.refl _ w).alloc (Nat.le_refl _) _
  clear h hs
  go_enter Try.func7, Try.ntmps7
  go_wp2_with fail
  generalize w.alloc (.cells #[.int .i64 W, .int .i64 H, .slice A l.length c] 48) = w0 at *
  have hlt := hx.lt
  have x00 := hx.c0
  have x01 := hx.c1
  have x02 := hx.c2
  go_wp2_with fail
  refine (CZ.out _).mono ?_
  rintro e w1 ⟨rfl, b1⟩
  have hx1 := hx.below b1 hlt
  have B1 := hb.trans (b1.mono hb.size)
  have x10 := hx1.c0
  have x11 := hx1.c1
  have x12 := hx1.c2
  have z1 := hx1.lt
  clear b1 hx hb x00 x01 x02
  go_wp2_with fail
  refine (CT.out _ (HA.out _ B1)).mono ?_
  rintro e w2 ⟨g2, rfl, o2, b2⟩
  go_wp2_with fail
  refine (CS.out _ _ _ o2.reads).mono ?_
  rintro e w3 ⟨rfl, b3⟩
  have b13 := b2.trans (b3.mono b2.size)
  have B3 := B1.trans (b13.mono B1.size)
  have hx3 := hx1.below b13 z1
  have x30 := hx3.c0
  have x31 := hx3.c1
  have x32 := hx3.c2
  have z3 := hx3.lt
  clear b2 b3 b13 o2 hx1 B1 x10 x11 x12
  go_wp2_with fail
  refine (CT.out _ (HA.out _ B3)).mono ?_
  rintro e w4 ⟨g4, rfl, o4, b4⟩
  have B4 := B3.trans (b4.mono B3.size)
  have hx4 := hx3.below b4 z3
  have z4 := hx4.lt
  clear B3 hx3 x30 x31 x32 b4
  go_wp2_with fail
  have hy5 : RasAtB (w4.alloc (.cells #[.int .i64 W, .int .i64 H, .slice (some ⟨g4, 0, none⟩) l.length l.length] 25)) w4.heap.size W H (some ⟨g4, 0, none⟩) l.length l.length 25 := heap_alloc_new w4 _
  have b5 : Below w4.heap.size w4 (w4.alloc (.cells #[.int .i64 W, .int .i64 H, .slice (some ⟨g4, 0, none⟩) l.length l.length] 25)) := (Below.refl _ w4).alloc (Nat.le_refl _) _
  generalize w4.alloc (.cells #[.int .i64 W, .int .i64 H, .slice (some ⟨g4, 0, none⟩) l.length l.length] 25) = w5 at *
  have hh5 : HasP w5 w5.heap.size (some ⟨g4, 0, none⟩) l := (o4.reads.below b5).wider b5.size
  have B5 := B4.trans (b5.mono B4.size)
  have hx5 := hx4.below b5 z4
  clear b5 hx4 o4 B4
  refine (CI.out _ _ _ hh5).mono ?_
  rintro e w6 ⟨rfl, b6⟩
  have B6 := B5.trans (b6.mono B5.size)
  have hx6 := (hx5.below b6 hx5.lt).drew1
  have hy6 := (hy5.below b6 hy5.lt).drew1
  have hh6 : HasP w6.drew w6.drew.heap.size (some ⟨g4, 0, none⟩) l := (hh5.carry b6 (Nat.le_refl _) b6.size).drewN 1
  have x60 := hx6.c0
  have x61 := hx6.c1
  have x62 := hx6.c2
  have y60 := hy6.c0
  have y61 := hy6.c1
  have y62 := hy6.c2
  have z6 := hy6.lt
  have z6x := hx6.lt
  have HB6 := Lib.hid (below_drew1 B6)
  have CT6 := Lib.hid (CT.out w6.drew (HA.out _ HB6.out))
  have HY6 := Lib.hid hy6
  have HH6 := Lib.hid hh6
  clear B6 b6 hx5 hy5 hh5 B5 hx6 hy6 hh6 CT CI CS CZ
  cases q <;> (
    go_wp2_with fail
    go_region_with (first
      | (go_at_call 28; refine CT6.out.mono ?_; rintro e w7 ⟨g7, rfl, o7, b7⟩; have y70 := (HY6.out.below b7 z6).c0; have y71 := (HY6.out.below b7 z6).c1; have y72 := (HY6.out.below b7 z6).c2; have hh7 := HH6.out.carry b7 (Nat.le_refl _) b7.size; have ho7 := o7.reads; have B7 := HB6.out.trans (b7.mono HB6.out.size); clear b7 o7)
      | (go_at_call 29; refine (CE.out _ _ _ _ _ hh7 ho7).mono ?_; rintro e w8 ⟨rfl, b8⟩; have B8 := B7.trans (b8.mono B7.size); clear b8))
    all_goals (go_wp2_with fail; go_ret; exact ⟨rfl, B8⟩))
theorem fnExactRasOk_walk (W H : Int) (A : Option Addr) (c : Nat) (l : List Px) (w : World) (h : HasP w w.heap.size A l) (hm : l.length ≤ maxLen) :
    Calls Try.prog 7 #[rasV W H A l.length c] w fun e w' => e = .returned (.bool true) ∧ Below w.heap.size w w' := by
  by_cases hbig : l.length ≤ 1048576
  · exact fnExactRasOk_small W H A c l w h hbig
  · have CZ := Lib.hid fun w => szRasRaster_big W H A l.length c w hbig hm
    have HB : Hid (Below w.heap.size w (w.alloc (.cells #[.int .i64 W, .int .i64 H, .slice A l.length c] 48))) := Lib.hid ((Below.refl _ w).alloc (Nat.le_refl _) _)
    unfold rasV at *
    clear h hm hbig
    go_enter Try.func7, Try.ntmps7
    go_wp2_with fail
    refine (CZ.out _).mono ?_
    rintro e w' ⟨rfl, b⟩
    have HB2 := Lib.hid (HB.out.trans (b.mono HB.out.size))
    clear b
    go_wp2_with fail
    go_ret
    exact ⟨rfl, HB2.out⟩
end Go.Proofs.Ytdipihdpfkoddab
