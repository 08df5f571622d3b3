/-
  The law FnExactFormPut returns true for every raster. No condition.
-/
import Derived.Test.YtnnpjcbdcjdojaaFormI
import Derived.Test.YtnnpjcbdcjdojaaPixM
import Derived.Test.YtnnpjcbdcjdojaaPixIn
import Derived.Test.YtnnpjcbdcjdojaaCopy
import Derived.Test.YtnnpjcbdcjdojaaMark
import Derived.Deep.RegionWith
import Derived.Deep.CutRange
namespace Go.Proofs.Ytnnpjcbdcjdojaa
set_option maxRecDepth 4000
open Go.RowKit

theorem below_gap {B g : Nat} {w w' : World} (hg : w.grownBy w' (some g)) (hB : B ≤ g) (hz : B ≤ w.heap.size) : Below B w w' := (Below.refl _ _).grown hg hz (fun k e => by injection e with e; omega)
theorem ownBlock_ge {w : World} {base g : Nat} {v : Value} {l : List UInt8} (h : Own w base v l) (hg : g < base) : v.ownBlock = none ∨ v.ownBlock ≠ some g := by
  cases hv : v.ownBlock with
  | none => exact .inl rfl
  | some q => exact .inr fun e => by have := (World.ownsRow.lt h q hv).1; injection e with e; omega

set_option maxHeartbeats 4000000 in
theorem fnExactFormPut_small (W H : Int) (A : Option Addr) (c : Nat) (l : List Px) (w : World) (h : HasP w w.heap.size A l) (hs : l.length ≤ 1048576) :
    Calls Try.prog 10 #[rasV W H A l.length c] w fun e w' => e = .returned (.bool true) ∧ Below w.heap.size w w' := by
  have HA : Hid (∀ W, Below w.heap.size w W → HasP W W.heap.size A l) := Lib.hid fun W hb => h.carry hb (Nat.le_refl _) hb.size
  have CZ := Lib.hid fun w => szRasRaster_small W H A l.length c w hs
  have CT := Lib.hid fun w hh => toRasRaster_any W H A c l w (by omega) hh
  have CS := Lib.hid fun A w hh => specFormPut_any W H A l.length l w (by omega) (Nat.le_refl _) hh
  have CI := Lib.hid fun A w hh => implFormPut_any W H A l.length l w (by omega) (Nat.le_refl _) hh
  have CQ := Lib.hid fun A A' c c' w hh hh' => eqRasRaster_same W H A A' c c' l w (by omega) hh hh'
  have CM := Lib.hid fun A c base w hh => markRasRaster_any W H A c l base w (by omega) hh
  have hrl := formB_le 80 [] W H l
  unfold rasV at *
  generalize formB 80 [] W H l = r at *
  have CE := Lib.hid fun A A' c c' W hh hh' => eqByteS_same A A' c c' r W (by omega) hh hh'
  have CK := Lib.hid fun A c base W hh => markByteS_at A c r 1 1 base rfl W (by omega) (by omega) hh
  have CH := Lib.hid fun A c B W hh => heldByteS_at A c r.length 1 1 B rfl W (by omega) (by omega) hh
  have hl0 : ¬ ((1048576 : Int) - (l.length : Int) < 0) := by omega
  have hk1 : ¬ (1 + 4 * (l.length : Int) < 0) := by omega
  have hq1 : ¬ (1 + (r.length : Int) < 0) := by omega
  have hx : RasAtB (w.alloc (.cells #[.int .i64 W, .int .i64 H, .slice A l.length c] 43)) w.heap.size W H A l.length c 43 := heap_alloc_new w _
  have hb : Below w.heap.size w (w.alloc (.cells #[.int .i64 W, .int .i64 H, .slice A l.length c] 43)) := (Below.refl _ w).alloc (Nat.le_refl _) _
  clear h hs hrl
  go_enter Try.func10, Try.ntmps10
  go_wp2_with fail
  generalize w.alloc (.cells #[.int .i64 W, .int .i64 H, .slice A l.length c] 43) = w0 at *
  have hlt := hx.lt
  refine (CZ.out _).mono ?_
  rintro e w1 ⟨rfl, b1⟩
  have hx1 := hx.below b1 hlt
  have B1 := hb.trans (b1.mono hb.size)
  have x10 := hx1.c0
  have x11 := hx1.c1
  have x12 := hx1.c2
  have z1 := hx1.lt
  clear b1 hx hb
  go_wp2_with fail
  refine (CT.out _ (HA.out _ B1)).mono ?_
  rintro e w2 ⟨g2, rfl, o2, b2⟩
  go_wp2_with fail
  refine (CS.out _ _ o2.reads).mono ?_
  rintro e w3 ⟨v0, rfl, ho0, b3⟩
  have b13 := b2.trans (b3.mono b2.size)
  have B3 := B1.trans (b13.mono B1.size)
  have hx3 := hx1.below b13 z1
  obtain ⟨A0, c0, rfl, -, h0⟩ := ho0.has
  have x30 := hx3.c0
  have x31 := hx3.c1
  have x32 := hx3.c2
  have z3 := hx3.lt
  clear b2 b3 b13 o2 hx1 B1 x10 x11 x12 ho0
  go_wp2_with fail
  refine (CT.out _ (HA.out _ B3)).mono ?_
  rintro e w4 ⟨g4, rfl, o4, b4⟩
  have B4 := B3.trans (b4.mono B3.size)
  have hx4 := hx3.below b4 z3
  have h04 := h0.below b4
  have z34 := b4.size
  have z4 := hx4.lt
  obtain ⟨g4', e4, hg4a, hg4b⟩ : ∃ g, g4 = g ∧ w3.heap.size ≤ g ∧ g < w4.heap.size := by
    rcases o4.2 with ⟨e, -⟩ | ⟨g, cap, cur, e, hb, hg, -⟩
    · cases e
    · injection e with e _ _
      injection e with e
      injection e with e _ _
      exact ⟨g, e, hb, (Array.getElem?_eq_some_iff.1 hg).1⟩
  subst e4
  clear B3 hx3 x30 x31 x32 b4 h0
  go_wp2_with fail
  have hy5 : RasAtB (w4.alloc (.cells #[.int .i64 W, .int .i64 H, .slice (some ⟨g4, 0, none⟩) l.length l.length] 25)) w4.heap.size W H (some ⟨g4, 0, none⟩) l.length l.length 25 := heap_alloc_new w4 _
  have b5 : Below w4.heap.size w4 (w4.alloc (.cells #[.int .i64 W, .int .i64 H, .slice (some ⟨g4, 0, none⟩) l.length l.length] 25)) := (Below.refl _ w4).alloc (Nat.le_refl _) _
  generalize w4.alloc (.cells #[.int .i64 W, .int .i64 H, .slice (some ⟨g4, 0, none⟩) l.length l.length] 25) = w5 at *
  have o5 := o4.below b5 (Nat.le_refl _)
  have h05 := h04.below (b5.mono z34)
  have B5 := B4.trans (b5.mono B4.size)
  have hx5 := hx4.below b5 z4
  have z5y := hy5.lt
  have z5 := hx5.lt
  have z35 : w3.heap.size ≤ w5.heap.size := Nat.le_trans z34 b5.size
  have hg5 : g4 < w5.heap.size := Nat.lt_of_lt_of_le hg4b b5.size
  clear b5 hx4 o4 B4 h04 z34
  refine (CI.out _ _ o5.reads).mono ?_
  rintro e w6 ⟨v1, rfl, ho1, b6⟩
  obtain ⟨A1, c1, rfl, -, h1⟩ := ho1.has
  have B6 := B5.trans (b6.mono B5.size)
  have hx6 := hx5.below b6 z5
  have hy6 := hy5.below b6 z5y
  have o6 := o5.below b6 (Nat.le_refl _)
  have h06 := h05.below (b6.mono z35)
  have z6 := b6.size
  clear b6 hx5 hy5 o5 h05 B5
  go_wp2_with fail
  refine (CE.out _ _ _ _ _ h1 (h06.wider (Nat.le_trans z35 z6))).mono ?_
  rintro e w7 ⟨rfl, n7, rfl⟩
  have B7 := below_draws B6 n7
  have hx7 : RasAtB (w6.drewN n7) w.heap.size W H A l.length c 43 := hx6
  have hy7 : RasAtB (w6.drewN n7) w4.heap.size W H (some ⟨g4, 0, none⟩) l.length l.length 25 := hy6
  have o7 := o6.drewN n7
  have h07 := h06.drewN n7
  have ho7 := ho1.drewN n7
  have z7 : w5.heap.size ≤ (w6.drewN n7).heap.size := z6
  clear B6 hx6 hy6 o6 h06 ho1 h1 z6
  generalize w6.drewN n7 = w7 at *
  have zx := hx7.lt
  have zy := hy7.lt
  go_wp2_with fail
  go_cut [31] from 27 to 31 (fun s wx => s = .bool false ∧ Below w7.heap.size w7 wx)
  case first =>
    have hx8 := hx7.drew1
    have hy8 := hy7.drew1
    have hh8 : HasP w7.drew w7.drew.heap.size (some ⟨g4, 0, none⟩) l := o7.reads.drewN 1
    have x80 := hx8.c0
    have x81 := hx8.c1
    have x82 := hx8.c2
    have y80 := hy8.c0
    have y81 := hy8.c1
    have y82 := hy8.c2
    have zy8 := hy8.lt
    have HB8 := Lib.hid (below_drew1 (Below.refl w7.heap.size w7))
    have CT8 := Lib.hid (CT.out w7.drew (HA.out _ (below_drew1 B7)))
    have HY8 := Lib.hid hy8
    have HH8 := Lib.hid hh8
    clear hx8 hy8 hh8 hx7 hy7 o7 h07 ho7 B7
    go_region_with (first
      | (go_at_call 31; refine CT8.out.mono ?_; rintro e w9 ⟨g9, rfl, o9, b9⟩; have y90 := (HY8.out.below b9 zy8).c0; have y91 := (HY8.out.below b9 zy8).c1; have y92 := (HY8.out.below b9 zy8).c2; have hh9 := HH8.out.carry b9 (Nat.le_refl _) b9.size; have ho9 := o9.reads; have B9 := HB8.out.trans (b9.mono HB8.out.size); clear b9 o9)
      | (go_at_call 33; refine (CQ.out _ _ _ _ _ hh9 ho9).mono ?_; rintro e w10 ⟨rfl, b10⟩; have B10 := B9.trans (b10.mono B9.size); clear b10))
    all_goals (go_wp2_with fail; go_meet; exact ⟨rfl, B10⟩)
  case rest =>
    obtain ⟨rfl, b8⟩ := hcut
    have B8 := B7.trans (b8.mono B7.size)
    have hx8 := hx7.below b8 zx
    have hy8 := hy7.below b8 zy
    have o8 := o7.below b8 (Nat.le_refl _)
    have h08 := h07.below (b8.mono (Nat.le_trans z35 z7))
    have ho8 := ho7.below b8 (Nat.le_refl _)
    have z8 := Nat.le_trans z7 b8.size
    have y80 := hy8.c0
    have y81 := hy8.c1
    have y82 := hy8.c2
    clear b8 hx7 hy7 o7 h07 ho7 B7
    go_wp2_with fail
    refine (CM.out _ _ _ _ o8).mono ?_
    rintro e w9 ⟨rfl, -, g9⟩
    have b9 : Below w3.heap.size wc w9 := below_gap g9 hg4a (Nat.le_trans z35 z8)
    have hx9 := hx8.grown g9 (by simp [Value.ownBlock]; omega)
    have B9 : Below w.heap.size w w9 := B8.trans (b9.mono (Nat.le_of_lt z3))
    have h09 := h08.below b9
    have ho9 := ho8.keep g9 (ownBlock_ge ho8 hg5)
    have z9 := Nat.le_trans z8 g9.size
    clear b9 g9 hx8 hy8 o8 h08 ho8 B8 y80 y81 y82
    go_wp2_with fail
    refine (CE.out _ _ _ _ _ ho9.reads (h09.wider (Nat.le_trans z35 z9))).mono ?_
    rintro e w10 ⟨rfl, n10, rfl⟩
    have B10 := below_draws B9 n10
    have hx10 : RasAtB (w9.drewN n10) w.heap.size W H A l.length c 43 := hx9
    have h010 := h09.drewN n10
    have ho10 := ho9.drewN n10
    have z10 : w5.heap.size ≤ (w9.drewN n10).heap.size := z9
    clear B9 hx9 h09 ho9 z9
    generalize w9.drewN n10 = w10 at *
    go_wp2_with fail
    refine (CK.out _ _ _ _ ho10).mono ?_
    rintro e w11 ⟨rfl, ho11, g11⟩
    have b11 : Below w5.heap.size w10 w11 := grown_below g11 ho10 (Nat.le_refl _) z10
    have B11 : Below w.heap.size w w11 := B10.trans (b11.mono (by omega))
    have hx11 := hx10.below b11 (by omega)
    have h011 := h010.below (b11.mono z35)
    have z11 := Nat.le_trans z10 b11.size
    have hm11 := ho11.reads
    have x110 := hx11.c0
    have x111 := hx11.c1
    have x112 := hx11.c2
    clear b11 g11 ho10 ho11 h010 hx10 B10 z10
    go_wp2_with fail
    refine (CH.out _ _ _ _ hm11).mono ?_
    rintro e w' ⟨rfl, rfl⟩
    go_wp2_with fail
    refine (CT.out _ (HA.out _ B11)).mono ?_
    rintro e w12 ⟨g12, rfl, o12, b12⟩
    have B12 := B11.trans (b12.mono B11.size)
    have h012 := h011.below (b12.mono (Nat.le_trans z35 z11))
    have hm12 := hm11.below b12
    have z12 := Nat.le_trans z11 b12.size
    have zz := b12.size
    clear b12 h011 hm11 B11 x110 x111 x112 hx11
    go_wp2_with fail
    refine (CI.out _ _ o12.reads).mono ?_
    rintro e w13 ⟨v2, rfl, ho13, b13⟩
    have B13 := B12.trans (b13.mono B12.size)
    have h013 := h012.below (b13.mono (Nat.le_trans z35 z12))
    have hm13 := hm12.below (b13.mono zz)
    have z13 := Nat.le_trans z12 b13.size
    obtain ⟨A2, c2, rfl, -, h2⟩ := ho13.has
    clear b13 h012 hm12 o12 ho13 B12
    go_wp2_with fail
    refine (CE.out _ _ _ _ _ h2 (h013.wider (Nat.le_trans z35 z13))).mono ?_
    rintro e w14 ⟨rfl, n14, rfl⟩
    have hm14 := hm13.drewN n14
    have B14 := below_draws B13 n14
    clear hm13 B13 h013 h2
    generalize w13.drewN n14 = w14 at *
    go_wp2_with fail
    refine (CH.out _ _ _ _ hm14).mono ?_
    rintro e w' ⟨rfl, rfl⟩
    go_wp2_with fail
    go_ret
    exact ⟨rfl, B14⟩
theorem fnExactFormPut_walk (W H : Int) (A : Option Addr) (c : Nat) (l : List Px) (w : World) (h : HasP w w.heap.size A l) (hm : l.length ≤ maxLen) :
    Calls Try.prog 10 #[rasV W H A l.length c] w fun e w' => e = .returned (.bool true) ∧ Below w.heap.size w w' := by
  by_cases hbig : l.length ≤ 1048576
  · exact fnExactFormPut_small W H A c l w h hbig
  · have CZ := Lib.hid fun w => szRasRaster_big W H A l.length c w hbig hm
    have HB : Hid (Below w.heap.size w (w.alloc (.cells #[.int .i64 W, .int .i64 H, .slice A l.length c] 43))) := Lib.hid ((Below.refl _ w).alloc (Nat.le_refl _) _)
    unfold rasV at *
    clear h hm hbig
    go_enter Try.func10, Try.ntmps10
    go_wp2_with fail
    refine (CZ.out _).mono ?_
    rintro e w' ⟨rfl, b⟩
    have HB2 := Lib.hid (HB.out.trans (b.mono HB.out.size))
    clear b
    go_wp2_with fail
    go_ret
    exact ⟨rfl, HB2.out⟩
end Go.Proofs.Ytnnpjcbdcjdojaa
