/-
  The law FnFormLong returns true for every list of bytes to draw from. No condition.
-/
import Derived.Test.YtnnpjcbdcjdojaaFormC
import Derived.Test.YtnnpjcbdcjdojaaDrawFM
import Derived.Test.YtnnpjcbdcjdojaaEaB
import Derived.Test.YtnnpjcbdcjdojaaEaOk
namespace Go.Proofs.Ytnnpjcbdcjdojaa
set_option maxRecDepth 4000
open Go.RowKit

set_option maxHeartbeats 4000000 in
theorem fnFormLong_small (A : Option Addr) (c : Nat) (l : List UInt8) (w : World) (h : Has w w.heap.size A l) (hc : l.length ≤ c) (hs : l.length ≤ 1048576) :
    Calls Try.prog 8 #[.slice A l.length c] w fun e w' => e = .returned (.bool true) ∧ Below w.heap.size w w' := by
  have C1 := Lib.hid (drawFormWrite_any A c l w (by omega) hc h)
  have hl0 : ¬ ((1048576 : Int) < (l.length : Int)) := by omega
  clear h hs hc
  go_enter Try.func8, Try.ntmps8
  go_wp2_with fail
  refine C1.out.mono ?_
  rintro e w1 ⟨kb, An, cn, note, W, H, A1, c1, l1, rfl, hn1, hcn, hnl, hh1, hc1, hl1, B1⟩
  clear C1
  unfold rasV
  have hX2 : RasAtB (w1.alloc (.cells #[.int .i64 W, .int .i64 H, .slice A1 l1.length c1] 25)) w1.heap.size W H A1 l1.length c1 25 := heap_alloc_new w1 _
  have b2 : Below w1.heap.size w1 (w1.alloc (.cells #[.int .i64 W, .int .i64 H, .slice A1 l1.length c1] 25)) := (Below.refl _ w1).alloc (Nat.le_refl _) _
  have CD := Lib.hid fun W0 hh hp => fwI 68 68 rfl An cn note W H A1 c1 l1 W0 (by omega) (by omega) hc1 hh hp
  have CS := Lib.hid fun W0 hh hp => fwS 68 68 rfl An cn note W H A1 c1 l1 W0 (by omega) (by omega) hc1 hh hp
  have CU := Lib.hid fun W0 hh hp => fwI 85 85 rfl An cn note W H A1 c1 l1 W0 (by omega) (by omega) hc1 hh hp
  have CP := Lib.hid fun W0 hh hp => fwI 80 80 rfl An cn note W H A1 c1 l1 W0 (by omega) (by omega) hc1 hh hp
  have CO := Lib.hid fun W0 hp => rokS W H A1 c1 l1 W0 (by omega) hp
  have L68 := Lib.hid (formB_len 68 note W H l1 rfl)
  have L85 := Lib.hid (formB_len 85 note W H l1 rfl)
  have L80 := Lib.hid (formB_len 80 note W H l1 rfl)
  have HGP := Lib.hid fun h => goodB_parts (note := note) (W := W) (H := H) (l := l1) h
  have HBD := Lib.hid fun h => And.intro (body_down (W := W) (H := H) (l := l1) h) (And.intro (body_up (W := W) (H := H) (l := l1) h) (body_pack (W := W) (H := H) (l := l1) h))
  unfold Filed at CD CS CU CP
  have f1l := formB_le 68 note W H l1
  generalize formB 68 note W H l1 = f1 at *
  generalize formB 85 note W H l1 = f2 at *
  generalize formB 80 note W H l1 = f3 at *
  generalize bodyB 68 W H l1 = y1 at *
  generalize bodyB 85 W H l1 = y2 at *
  generalize bodyB 80 W H l1 = y3 at *
  go_wp2_with fail
  generalize w1.alloc (.cells #[.int .i64 W, .int .i64 H, .slice A1 l1.length c1] 25) = w2 at *
  have hn2 := hn1.carry b2 (Nat.le_refl _) b2.size
  have hh2 := hh1.carry b2 (Nat.le_refl _) b2.size
  have B2 := B1.trans (b2.mono B1.size)
  have hz2 := hX2.lt
  have CD2 := Lib.hid (CD.out w2 hn2 hh2)
  clear CD hn1 hh1 b2 B1
  refine CD2.out.mono ?_
  rintro e w3 ⟨A3, c3, rfl, hc3, h3, b3⟩
  have hn3 := hn2.carry b3 (Nat.le_refl _) b3.size
  have hh3 := hh2.carry b3 (Nat.le_refl _) b3.size
  have hX3 := hX2.below b3 hz2
  have B3 := B2.trans (b3.mono B2.size)
  have x0 := hX3.c0
  have x1 := hX3.c1
  have x2 := hX3.c2
  have hz3 := hX3.lt
  have CS3 := Lib.hid (CS.out w3 hn3 hh3)
  clear CD2 CS hn2 hh2 hX2 B2 b3
  go_wp2_with fail
  refine CS3.out.mono ?_
  rintro e w4 ⟨A4, c4, rfl, -, h4, b4⟩
  have hn4 := hn3.carry b4 (Nat.le_refl _) b4.size
  have hh4 := hh3.carry b4 (Nat.le_refl _) b4.size
  have h34 := h3.carry b4 (Nat.le_refl _) b4.size
  have hX4 := hX3.below b4 hz3
  have B4 := B3.trans (b4.mono B3.size)
  have x0 := hX4.c0
  have x1 := hX4.c1
  have x2 := hX4.c2
  have hz4 := hX4.lt
  clear CS3 hn3 hh3 hX3 B3 b4 h3
  go_wp2_with fail
  refine (eaBytes_same _ _ _ _ _ _ f1 _ h34 h4).mono ?_
  rintro e w' ⟨rfl, rfl⟩
  clear h4 h34
  rcases L68.out with ⟨hg, hl68⟩ | ⟨hg, hl68⟩
  · obtain ⟨hn9, hok⟩ := HGP.out hg
    obtain ⟨e1, e2, e3⟩ := HBD.out hok
    have hl85 : f2.length = 6 + note.length + y2.length := by
      rcases L85.out with ⟨_, h⟩ | ⟨h, _⟩
      · exact h
      · rw [hg] at h; cases h
    have hl80 : f3.length = 6 + note.length + y3.length := by
      rcases L80.out with ⟨_, h⟩ | ⟨h, _⟩
      · exact h
      · rw [hg] at h; cases h
    obtain ⟨hW, hH, hl, -⟩ := rasB_parts hok
    have h36 := mul36 hW hH
    have h144 : 4 * W * H = 4 * (W * H) := Int.mul_assoc _ _ _
    have hwr : wrap64 (4 * W * H) = 4 * W * H := by unfold wrap64; omega
    have hne : ((f1.length : Int) == 0) = false := beq_eq_false_iff_ne.2 (by omega)
    have g1 : ((f1.length : Int) == 6 + (note.length : Int) + (2 + 4 * (W * H))) = true := beq_iff_eq.2 (by omega)
    have g2 : ((f2.length : Int) == (f1.length : Int)) = true := beq_iff_eq.2 (by omega)
    have g3 : (f3.length : Int) ≤ 6 + (note.length : Int) + (9 * (2 + 4 * (W * H) + 1) + 7) / 8 := by omega
    have CU4 := Lib.hid (CU.out w4 hn4 hh4)
    have HG := Lib.hid (And.intro g1 (And.intro g2 g3))
    clear hl68 hl85 hl80 e1 e2 e3 L68 L85 L80 HGP HBD hg hok hl CU CO g1 g2 g3
    go_wp2_with fail
    refine CU4.out.mono ?_
    rintro e w5 ⟨A5, c5, rfl, -, -, b5⟩
    have hn5 := hn4.carry b5 (Nat.le_refl _) b5.size
    have hh5 := hh4.carry b5 (Nat.le_refl _) b5.size
    have hX5 := hX4.below b5 hz4
    have B5 := B4.trans (b5.mono B4.size)
    have x0 := hX5.c0
    have x1 := hX5.c1
    have x2 := hX5.c2
    have hz5 := hX5.lt
    have CP5 := Lib.hid (CP.out w5 hn5 hh5)
    clear CU4 hn4 hh4 hX4 B4 b5 CP
    go_wp2_with fail
    refine CP5.out.mono ?_
    rintro e w6 ⟨A6, c6, rfl, -, -, b6⟩
    have hX6 := hX5.below b6 hz5
    have HB6 := Lib.hid (B5.trans (b6.mono B5.size))
    have x0 := hX6.c0
    have x1 := hX6.c1
    clear CP5 hn5 hh5 hX5 B5 b6 hX6
    obtain ⟨g1, g2, g3⟩ := HG.out
    go_wp2_with fail
    go_ret
    exact ⟨rfl, HB6.out⟩
  · have he : ((f1.length : Int) == 0) = true := by rw [hl68]; rfl
    have CO4 := Lib.hid (CO.out w4 hh4)
    have HNG : Hid (rasB W H l1 = true → (9 : Int) < (note.length : Int)) := Lib.hid fun hr => by
      unfold goodB at hg
      rw [hr, Bool.and_true, decide_eq_false_iff_not] at hg
      omega
    clear hl68 L68 L85 L80 HGP HBD hg CU CO CP
    go_wp2_with fail
    refine CO4.out.mono ?_
    rintro e w5 ⟨rfl, b5⟩
    have B5 := B4.trans (b5.mono B4.size)
    clear CO4 hn4 hh4 hX4 B4 b5
    cases hr : rasB W H l1
    · clear hr HNG
      go_wp2_with fail
      refine (eaOk_any _).mono ?_
      rintro e w6 ⟨rfl, b6⟩
      have HB6 := Lib.hid (B5.trans (b6.mono B5.size))
      clear b6 B5
      go_wp2_with fail
      go_ret
      exact ⟨rfl, HB6.out⟩
    · have h9 := HNG.out hr
      clear hr HNG
      go_wp2_with fail
      refine (eaOk_any _).mono ?_
      rintro e w6 ⟨rfl, b6⟩
      have HB6 := Lib.hid (B5.trans (b6.mono B5.size))
      clear b6 B5
      go_wp2_with fail
      go_ret
      exact ⟨rfl, HB6.out⟩
set_option maxHeartbeats 400000 in
theorem fnFormLong_walk (A : Option Addr) (c : Nat) (l : List UInt8) (w : World) (h : Has w w.heap.size A l) (hc : l.length ≤ c) :
    Calls Try.prog 8 #[.slice A l.length c] w fun e w' => e = .returned (.bool true) ∧ Below w.heap.size w w' := by
  by_cases hbig : 1048576 < l.length
  · have hb : (1048576 : Int) < (l.length : Int) := by omega
    clear hbig h
    go_enter Try.func8, Try.ntmps8
    go_wp2
    go_ret
    exact ⟨rfl, Below.refl _ _⟩
  · exact fnFormLong_small A c l w h hc (by omega)
end Go.Proofs.Ytnnpjcbdcjdojaa
