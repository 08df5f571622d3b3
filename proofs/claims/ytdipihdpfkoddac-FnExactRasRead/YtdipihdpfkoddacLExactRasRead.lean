/-
  The law FnExactRasRead returns true for every list of bytes. No condition.
-/
import Derived.Test.YtdipihdpfkoddacRasRdS
import Derived.Test.YtdipihdpfkoddacRasRdI
import Derived.Test.YtdipihdpfkoddacPixM
import Derived.Test.YtdipihdpfkoddacCopy
import Derived.Test.YtdipihdpfkoddacMark
namespace Go.Proofs.Ytdipihdpfkoddac
open Go.RowKit

theorem rdP_le (l : List UInt8) : (rdP l).length ≤ 36 := by
  unfold rdP
  cases h : rdB l
  · simp
  · obtain ⟨_, h1, h2, _⟩ := rdB_parts h
    have := mul36 h1 h2
    simp only [if_true, pxs_length]
    omega
theorem ownP_blocks {w : World} {base : Nat} {v : Value} {l : List Px} (h : OwnP w base v l) : ∀ q, v.ownBlock = some q → base ≤ q ∧ q < w.heap.size := fun q hq => World.ownsRow.lt h q hq
set_option maxHeartbeats 4000000 in
theorem fnExactRasRead_small (A : Option Addr) (c : Nat) (l : List UInt8) (w : World) (h : Has w w.heap.size A l) (hs : l.length ≤ 1048576) :
    Calls Try.prog 5 #[.slice A l.length c] w fun e w' => e = .returned (.bool true) ∧ Below w.heap.size w w' := by
  have HA : Hid (∀ W, Below w.heap.size w W → Has W W.heap.size A l) := Lib.hid fun W hb => h.carry hb (Nat.le_refl _) hb.size
  have CT := Lib.hid fun w hh => toByteS_any A c l w (by omega) hh
  have CS := Lib.hid fun A c w hh => specRasRead_any A c l w (by omega) hh
  have CI := Lib.hid fun A c w hc hh => implRasRead_any A c l w (by omega) hc hh
  have CE := Lib.hid fun A A' c c' W hh hh' => eqByteS_same A A' c c' l W (by omega) hh hh'
  have CK := Lib.hid fun A c base W hh => markByteS_at A c l 1 1 base rfl W (by omega) (by omega) hh
  have hrl := rdP_le l
  unfold ReadOut at CS CI
  generalize rdP l = ps at *
  generalize rdW l = X at *
  generalize rdH l = Y at *
  generalize rdB l = q at *
  have CQ := Lib.hid fun A A' c c' w hh hh' => eqRasRaster_same X Y A A' c c' ps w (by omega) hh hh'
  have CM := Lib.hid fun A c base w hh => markRasRaster_any X Y A c ps base w (by omega) hh
  have CH := Lib.hid fun A c w hh => heldRasRaster_any X Y A c ps.length w (by omega) hh
  unfold rasV at *
  have hl0 : ¬ ((1048576 : Int) < (l.length : Int)) := by omega
  have hk1 : ¬ (1 + (l.length : Int) < 0) := by omega
  have hq1 : ¬ (1 + 4 * (ps.length : Int) < 0) := by omega
  clear h hs hrl
  go_enter Try.func5, Try.ntmps5
  go_wp2_with fail
  refine (CT.out _ (HA.out _ (Below.refl _ _))).mono ?_
  rintro e w1 ⟨rfl, ox1, b1⟩
  go_wp2_with fail
  refine (CS.out _ _ _ ox1.reads).mono ?_
  rintro e w2 ⟨A0, c0, rfl, o2, b2⟩
  have B2 : Below w.heap.size w w2 := b1.trans (b2.mono b1.size)
  have h02 := o2.reads
  clear ox1 b1 b2 o2
  go_wp2_with fail
  have hx3 : RasAtB (w2.alloc (.cells #[.int .i64 X, .int .i64 Y, .slice A0 ps.length c0] 31)) w2.heap.size X Y A0 ps.length c0 31 := heap_alloc_new w2 _
  have b3 : Below w2.heap.size w2 (w2.alloc (.cells #[.int .i64 X, .int .i64 Y, .slice A0 ps.length c0] 31)) := (Below.refl _ w2).alloc (Nat.le_refl _) _
  generalize w2.alloc (.cells #[.int .i64 X, .int .i64 Y, .slice A0 ps.length c0] 31) = w3 at *
  have h03 := h02.below b3
  have B3 := B2.trans (b3.mono B2.size)
  have z23 := hx3.lt
  clear h02 b3
  refine (CT.out _ (HA.out _ B3)).mono ?_
  rintro e w4 ⟨rfl, ox4, b4⟩
  have B4 := B3.trans (b4.mono B3.size)
  have hx4 := hx3.below b4 z23
  have h04 := h03.below (b4.mono (Nat.le_of_lt z23))
  have z34 : w3.heap.size < w4.heap.size := by
    rcases ox4.2 with ⟨e, -⟩ | ⟨g, cap, cur, e, _, hg, _⟩
    · cases e
    · injection e with e _ _
      injection e with e
      injection e with e _ _
      subst e
      exact (Array.getElem?_eq_some_iff.1 hg).1
  clear hx3 h03 b4
  go_wp2_with fail
  refine (CI.out _ _ _ (Nat.le_refl _) ox4.reads).mono ?_
  rintro e w5 ⟨A1, c1, rfl, o5, b5⟩
  have B5 := B4.trans (b5.mono B4.size)
  have hx5 := hx4.below b5 (Nat.lt_trans z23 z34)
  have h05 := h04.below (b5.mono (Nat.le_of_lt (Nat.lt_trans z23 z34)))
  have ox5 := ox4.below b5 (Nat.le_refl _)
  have hown := ownP_blocks o5
  have z45 := b5.size
  clear hx4 h04 ox4 b5 B4
  have z5 := hx5.lt
  have x50 := hx5.c0
  have x51 := hx5.c1
  have x52 := hx5.c2
  go_wp2_with fail
  have hy6 : RasAtB (w5.alloc (.cells #[.int .i64 X, .int .i64 Y, .slice A1 ps.length c1] 31)) w5.heap.size X Y A1 ps.length c1 31 := heap_alloc_new w5 _
  have b6 : Below w5.heap.size w5 (w5.alloc (.cells #[.int .i64 X, .int .i64 Y, .slice A1 ps.length c1] 31)) := (Below.refl _ w5).alloc (Nat.le_refl _) _
  generalize w5.alloc (.cells #[.int .i64 X, .int .i64 Y, .slice A1 ps.length c1] 31) = w6 at *
  have B6 := B5.trans (b6.mono B5.size)
  have hx6 := hx5.below b6 z5
  have h06 := h05.below (b6.mono (Nat.le_of_lt z5))
  have ox6 := ox5.below b6 (Nat.le_refl _)
  have o6 := o5.below b6 (Nat.le_refl _)
  have z56 := hy6.lt
  clear b6 hx5 h05 ox5 o5 B5 x50 x51 x52
  have z26 : w2.heap.size ≤ w6.heap.size := Nat.le_of_lt (Nat.lt_trans z5 z56)
  refine (CQ.out _ _ _ _ _ o6.reads (h06.wider z26)).mono ?_
  rintro e w7 ⟨rfl, b7⟩
  have B7 := B6.trans (b7.mono B6.size)
  have hx7 := hx6.below b7 (Nat.lt_trans z5 z56)
  have hy7 := hy6.below b7 z56
  have h07 := h06.below (b7.mono z26)
  have ox7 := ox6.below b7 (Nat.le_refl _)
  have o7 := o6.below b7 (Nat.le_refl _)
  have z67 := b7.size
  clear b7 hx6 hy6 h06 ox6 o6 B6
  go_wp2_with fail
  refine (CT.out _ (HA.out _ B7)).mono ?_
  rintro e w8 ⟨rfl, oy8, b8⟩
  have B8 := B7.trans (b8.mono B7.size)
  have z57 := hy7.lt
  have hx8 := hx7.below b8 (Nat.lt_trans z5 z57)
  have hy8 := hy7.below b8 z57
  have h08 := h07.below (b8.mono (Nat.le_trans z26 z67))
  have ox8 := ox7.below b8 (Nat.le_refl _)
  have o8 := o7.below b8 (Nat.le_refl _)
  clear b8 hx7 hy7 h07 ox7 o7 B7
  go_wp2_with fail
  refine (CE.out _ _ _ _ _ ox8.reads oy8.reads).mono ?_
  rintro e w9 ⟨rfl, n9, rfl⟩
  have B9 := below_draws B8 n9
  have hx9 : RasAtB (w8.drewN n9) w2.heap.size X Y A0 ps.length c0 31 := hx8
  have hy9 : RasAtB (w8.drewN n9) w5.heap.size X Y A1 ps.length c1 31 := hy8
  have h09 := h08.drewN n9
  have ox9 := ox8.drewN n9
  have o9 := o8.drewN n9
  clear B8 hx8 hy8 h08 ox8 o8 oy8
  generalize w8.drewN n9 = w9 at *
  go_wp2_with fail
  refine (CK.out _ _ _ _ ox9).mono ?_
  rintro e w10 ⟨rfl, -, g10⟩
  have g10' : w9.grownBy w10 (some w3.heap.size) := g10
  have z59 := hy9.lt
  have b10 : Below w3.heap.size w9 w10 := (Below.refl _ w9).grown g10' (by omega) (fun k e => by injection e with e; omega)
  have B10 : Below w.heap.size w w10 := B9.trans (b10.mono (Nat.le_trans B2.size (Nat.le_of_lt z23)))
  have hx10 := hx9.below b10 z23
  have hy10 := hy9.grown g10' (by simp; omega)
  have h010 := h09.below (b10.mono (Nat.le_of_lt z23))
  have o10 := o9.keepRd g10' z34
  have x100 := hx10.c0
  have x101 := hx10.c1
  have x102 := hx10.c2
  have y100 := hy10.c0
  have y101 := hy10.c1
  have y102 := hy10.c2
  clear g10 g10' b10 hx9 hy9 h09 ox9 o9 B9
  have z510 := hy10.lt
  have z210 : w2.heap.size ≤ w10.heap.size := by omega
  go_wp2_with fail
  refine (CQ.out _ _ _ _ _ o10.reads (h010.wider z210)).mono ?_
  rintro e w11 ⟨rfl, b11⟩
  have B11 := B10.trans (b11.mono B10.size)
  have hx11 := hx10.below b11 (by omega)
  have hy11 := hy10.below b11 z510
  have h011 := h010.below (b11.mono z210)
  have o11 := o10.below b11 (Nat.le_refl _)
  have y110 := hy11.c0
  have y111 := hy11.c1
  have y112 := hy11.c2
  have z511 := hy11.lt
  clear b11 hx10 hy10 h010 o10 B10 x100 x101 x102 y100 y101 y102
  go_wp2_with fail
  refine (CM.out _ _ _ _ o11).mono ?_
  rintro e w12 ⟨rfl, o12, g12⟩
  have b12 : Below w4.heap.size w11 w12 := (Below.refl _ w11).grown g12 (by omega) (fun k e => (hown k e).1)
  have B12 : Below w.heap.size w w12 := B11.trans (b12.mono (by have := B3.size; omega))
  have hx12 := hx11.below b12 (by omega)
  have hy12 := hy11.grown g12 (fun e => by have := (hown _ e).2; omega)
  have h012 := h011.below (b12.mono (by omega))
  have y120 := hy12.c0
  have y121 := hy12.c1
  have y122 := hy12.c2
  have z512 := hy12.lt
  have hm12 := o12.reads
  clear g12 b12 hx11 hy11 h011 o11 o12 B11 y110 y111 y112
  go_wp2_with fail
  refine (CH.out _ _ _ hm12).mono ?_
  rintro e w13 ⟨rfl, b13⟩
  have B13 := B12.trans (b13.mono B12.size)
  have hx13 := hx12.below b13 (by omega)
  have hy13 := hy12.below b13 z512
  have h013 := h012.below (b13.mono (by omega))
  have hm13 := hm12.carry b13 (Nat.le_refl _) b13.size
  have z513 := hy13.lt
  clear b13 hx12 hy12 h012 hm12 B12 y120 y121 y122
  go_wp2_with fail
  refine (CT.out _ (HA.out _ B13)).mono ?_
  rintro e w14 ⟨rfl, oz14, b14⟩
  have B14 := B13.trans (b14.mono B13.size)
  have hx14 := hx13.below b14 (by omega)
  have hy14 := hy13.below b14 z513
  have h014 := h013.below (b14.mono (by omega))
  have hm14 := hm13.carry b14 (Nat.le_refl _) b14.size
  have z514 := hy14.lt
  clear b14 hx13 hy13 h013 hm13 B13
  go_wp2_with fail
  refine (CI.out _ _ _ (Nat.le_refl _) oz14.reads).mono ?_
  rintro e w15 ⟨A2, c2, rfl, o15, b15⟩
  have B15 := B14.trans (b15.mono B14.size)
  have hx15 := hx14.below b15 (by omega)
  have hy15 := hy14.below b15 z514
  have h015 := h014.below (b15.mono (by omega))
  have hm15 := hm14.carry b15 (Nat.le_refl _) b15.size
  have z515 := hy15.lt
  have x150 := hx15.c0
  have x151 := hx15.c1
  have x152 := hx15.c2
  have hz15 : w2.heap.size < w15.heap.size := by omega
  clear b15 hx14 hy14 h014 hm14 B14 oz14
  go_wp2_with fail
  have b16 : Below w15.heap.size w15 (w15.alloc (.cells #[.int .i64 X, .int .i64 Y, .slice A2 ps.length c2] 31)) := (Below.refl _ w15).alloc (Nat.le_refl _) _
  have B16 := B15.trans (b16.mono B15.size)
  have hy16 := hy15.below b16 z515
  have h016 := h015.below (b16.mono (by omega))
  have hm16 := hm15.carry b16 (Nat.le_refl _) b16.size
  have o16 := o15.below b16 (Nat.le_refl _)
  generalize w15.alloc (.cells #[.int .i64 X, .int .i64 Y, .slice A2 ps.length c2] 31) = w16 at *
  have z516 := hy16.lt
  clear b16 hx15 hy15 h015 hm15 o15 B15 x150 x151 x152
  refine (CQ.out _ _ _ _ _ o16.reads (h016.wider (by omega))).mono ?_
  rintro e w17 ⟨rfl, b17⟩
  have B17 := B16.trans (b17.mono B16.size)
  have hy17 := hy16.below b17 z516
  have hm17 := hm16.carry b17 (Nat.le_refl _) b17.size
  have y170 := hy17.c0
  have y171 := hy17.c1
  have y172 := hy17.c2
  clear b17 hy16 hm16 o16 h016 B16
  go_wp2_with fail
  refine (CH.out _ _ _ hm17).mono ?_
  rintro e w18 ⟨rfl, b18⟩
  have B18 := B17.trans (b18.mono B17.size)
  clear b18 hm17 hy17 B17 y170 y171 y172
  go_wp2_with fail
  go_ret
  exact ⟨rfl, B18⟩
theorem fnExactRasRead_walk (A : Option Addr) (c : Nat) (l : List UInt8) (w : World) (h : Has w w.heap.size A l) (_ : l.length ≤ c) :
    Calls Try.prog 5 #[.slice A l.length c] w fun e w' => e = .returned (.bool true) ∧ Below w.heap.size w w' := by
  by_cases hbig : l.length ≤ 1048576
  · exact fnExactRasRead_small A c l w h hbig
  · have hb : (1048576 : Int) < (l.length : Int) := by omega
    clear h hbig
    go_enter Try.func5, Try.ntmps5
    go_wp2_with fail
    go_ret
    exact ⟨rfl, Below.refl _ _⟩
end Go.Proofs.Ytdipihdpfkoddac
