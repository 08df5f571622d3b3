/-
  The law FnOpGroup returns true for every list of bytes to draw from. Condition: the table of ranges reads as the program's text lays it.
-/
import Derived.Test.YthdggnfffebnlaaDoorRanL
import Derived.Test.YthdggnfffebnlaaDoorDrawOpA
import Derived.Test.YthdggnfffebnlaaDoorEaC
import Derived.Test.YthdggnfffebnlaaDoorRegL
import Derived.Test.YthdggnfffebnlaaDoorRasS
namespace Go.Proofs.YthdggnfffebnlaaDoor
set_option maxRecDepth 4000
open Go.RowKit

set_option maxHeartbeats 8000000 in
theorem fnOpGroup_small (A : Option Addr) (c : Nat) (l : List UInt8) (w : World) (hR : RangesIn w) (h : Has w w.heap.size A l) (hc : l.length ≤ c) (hs : l.length ≤ 1048576) :
    Calls Tryd.prog 6 #[.slice A l.length c] w fun e w' => e = .returned (.bool true) ∧ Below w.heap.size w w' := by
  have C1 := Lib.hid (drawOpDo_any A c l w (by omega) hc h)
  have HRW := Lib.hid hR
  have hl0 : ¬ ((1048576 : Int) < (l.length : Int)) := by omega
  clear h hs hc hR
  go_enter Tryd.func6, Tryd.ntmps6
  go_wp2_with fail
  refine C1.out.mono ?_
  rintro e w1 ⟨W, H, A1, c1, l1, q, rfl, hh1, hc1, hl1, B1⟩
  have CSK := Lib.hid fun u hh => specRasOk_any W H A1 c1 l1 u (by omega) hh
  have CIK := Lib.hid fun u hh => implRasOk_any W H A1 c1 l1 u (by omega) hh
  unfold rasV at CSK CIK ⊢
  unfold Op.v
  have b2 : Below w1.heap.size w1 (((((w1.alloc (.cells #[.int .i64 W, .int .i64 H, .slice A1 l1.length c1] 34)).alloc (.cells #[.int .i64 q.k, .int .i64 q.a, .int .i64 q.b, .int .i64 q.c, .int .i64 q.d] 25)).alloc (.cells #[.int .i64 4, .int .i64 0, .int .i64 0, .int .i64 0, .int .i64 0] 25)).alloc (.cells #[.int .i64 2, .int .i64 0, .int .i64 0, .int .i64 0, .int .i64 0] 25)).alloc (.cells #[.int .i64 3, .int .i64 0, .int .i64 0, .int .i64 0, .int .i64 0] 25)) := (((((Below.refl _ w1).alloc (Nat.le_refl _) _).alloc (by simp) _).alloc (by simp; omega) _).alloc (by simp; omega) _).alloc (by simp; omega) _
  have HRb2 : Hid (RasAtB (((((w1.alloc (.cells #[.int .i64 W, .int .i64 H, .slice A1 l1.length c1] 34)).alloc (.cells #[.int .i64 q.k, .int .i64 q.a, .int .i64 q.b, .int .i64 q.c, .int .i64 q.d] 25)).alloc (.cells #[.int .i64 4, .int .i64 0, .int .i64 0, .int .i64 0, .int .i64 0] 25)).alloc (.cells #[.int .i64 2, .int .i64 0, .int .i64 0, .int .i64 0, .int .i64 0] 25)).alloc (.cells #[.int .i64 3, .int .i64 0, .int .i64 0, .int .i64 0, .int .i64 0] 25)) w1.heap.size W H A1 l1.length c1 34) := Lib.hid (Box.alloc (Box.alloc (Box.alloc (Box.alloc (Box.new w1 _ _) _) _) _) _)
  have HOtO2 : Hid (OpAtB (((((w1.alloc (.cells #[.int .i64 W, .int .i64 H, .slice A1 l1.length c1] 34)).alloc (.cells #[.int .i64 q.k, .int .i64 q.a, .int .i64 q.b, .int .i64 q.c, .int .i64 q.d] 25)).alloc (.cells #[.int .i64 4, .int .i64 0, .int .i64 0, .int .i64 0, .int .i64 0] 25)).alloc (.cells #[.int .i64 2, .int .i64 0, .int .i64 0, .int .i64 0, .int .i64 0] 25)).alloc (.cells #[.int .i64 3, .int .i64 0, .int .i64 0, .int .i64 0, .int .i64 0] 25)) (w1.heap.size + 1 + 1) tO) := Lib.hid (Box.alloc (Box.alloc (by
      have := Box.new ((w1.alloc (.cells #[.int .i64 W, .int .i64 H, .slice A1 l1.length c1] 34)).alloc (.cells #[.int .i64 q.k, .int .i64 q.a, .int .i64 q.b, .int .i64 q.c, .int .i64 q.d] 25)) #[.int .i64 4, .int .i64 0, .int .i64 0, .int .i64 0, .int .i64 0] 25
      rw [show ((w1.alloc (.cells #[.int .i64 W, .int .i64 H, .slice A1 l1.length c1] 34)).alloc (.cells #[.int .i64 q.k, .int .i64 q.a, .int .i64 q.b, .int .i64 q.c, .int .i64 q.d] 25)).heap.size = w1.heap.size + 1 + 1 from by simp] at this
      exact this) _) _)
  have HOxO2 : Hid (OpAtB (((((w1.alloc (.cells #[.int .i64 W, .int .i64 H, .slice A1 l1.length c1] 34)).alloc (.cells #[.int .i64 q.k, .int .i64 q.a, .int .i64 q.b, .int .i64 q.c, .int .i64 q.d] 25)).alloc (.cells #[.int .i64 4, .int .i64 0, .int .i64 0, .int .i64 0, .int .i64 0] 25)).alloc (.cells #[.int .i64 2, .int .i64 0, .int .i64 0, .int .i64 0, .int .i64 0] 25)).alloc (.cells #[.int .i64 3, .int .i64 0, .int .i64 0, .int .i64 0, .int .i64 0] 25)) (w1.heap.size + 1 + 1 + 1) xO) := Lib.hid (Box.alloc (by
      have := Box.new (((w1.alloc (.cells #[.int .i64 W, .int .i64 H, .slice A1 l1.length c1] 34)).alloc (.cells #[.int .i64 q.k, .int .i64 q.a, .int .i64 q.b, .int .i64 q.c, .int .i64 q.d] 25)).alloc (.cells #[.int .i64 4, .int .i64 0, .int .i64 0, .int .i64 0, .int .i64 0] 25)) #[.int .i64 2, .int .i64 0, .int .i64 0, .int .i64 0, .int .i64 0] 25
      rw [show (((w1.alloc (.cells #[.int .i64 W, .int .i64 H, .slice A1 l1.length c1] 34)).alloc (.cells #[.int .i64 q.k, .int .i64 q.a, .int .i64 q.b, .int .i64 q.c, .int .i64 q.d] 25)).alloc (.cells #[.int .i64 4, .int .i64 0, .int .i64 0, .int .i64 0, .int .i64 0] 25)).heap.size = w1.heap.size + 1 + 1 + 1 from by simp] at this
      exact this) _)
  have HOyO2 : Hid (OpAtB (((((w1.alloc (.cells #[.int .i64 W, .int .i64 H, .slice A1 l1.length c1] 34)).alloc (.cells #[.int .i64 q.k, .int .i64 q.a, .int .i64 q.b, .int .i64 q.c, .int .i64 q.d] 25)).alloc (.cells #[.int .i64 4, .int .i64 0, .int .i64 0, .int .i64 0, .int .i64 0] 25)).alloc (.cells #[.int .i64 2, .int .i64 0, .int .i64 0, .int .i64 0, .int .i64 0] 25)).alloc (.cells #[.int .i64 3, .int .i64 0, .int .i64 0, .int .i64 0, .int .i64 0] 25)) (w1.heap.size + 1 + 1 + 1 + 1) yO) := Lib.hid (by
      have := Box.new ((((w1.alloc (.cells #[.int .i64 W, .int .i64 H, .slice A1 l1.length c1] 34)).alloc (.cells #[.int .i64 q.k, .int .i64 q.a, .int .i64 q.b, .int .i64 q.c, .int .i64 q.d] 25)).alloc (.cells #[.int .i64 4, .int .i64 0, .int .i64 0, .int .i64 0, .int .i64 0] 25)).alloc (.cells #[.int .i64 2, .int .i64 0, .int .i64 0, .int .i64 0, .int .i64 0] 25)) #[.int .i64 3, .int .i64 0, .int .i64 0, .int .i64 0, .int .i64 0] 25
      rw [show ((((w1.alloc (.cells #[.int .i64 W, .int .i64 H, .slice A1 l1.length c1] 34)).alloc (.cells #[.int .i64 q.k, .int .i64 q.a, .int .i64 q.b, .int .i64 q.c, .int .i64 q.d] 25)).alloc (.cells #[.int .i64 4, .int .i64 0, .int .i64 0, .int .i64 0, .int .i64 0] 25)).alloc (.cells #[.int .i64 2, .int .i64 0, .int .i64 0, .int .i64 0, .int .i64 0] 25)).heap.size = w1.heap.size + 1 + 1 + 1 + 1 from by simp] at this
      exact this)
  have HH2 := Lib.hid (hh1.carry b2 (Nat.le_refl _) b2.size)
  have HB2 := Lib.hid (B1.trans (b2.mono B1.size))
  clear b2 hh1 B1 C1
  go_wp2_with fail
  generalize (((((w1.alloc (.cells #[.int .i64 W, .int .i64 H, .slice A1 l1.length c1] 34)).alloc (.cells #[.int .i64 q.k, .int .i64 q.a, .int .i64 q.b, .int .i64 q.c, .int .i64 q.d] 25)).alloc (.cells #[.int .i64 4, .int .i64 0, .int .i64 0, .int .i64 0, .int .i64 0] 25)).alloc (.cells #[.int .i64 2, .int .i64 0, .int .i64 0, .int .i64 0, .int .i64 0] 25)).alloc (.cells #[.int .i64 3, .int .i64 0, .int .i64 0, .int .i64 0, .int .i64 0] 25)) = w2 at *
  have r0 := HRb2.out.c0
  have r1 := HRb2.out.c1
  have r2 := HRb2.out.c2
  go_wp2_with fail
  refine (CSK.out _ HH2.out).mono ?_
  rintro e w3 ⟨rfl, b3⟩
  have HRb3 := Lib.hid (HRb2.out.below b3 HRb2.out.lt)
  have HOtO3 : Hid (OpAtB w3 (w1.heap.size + 1 + 1) tO) := Lib.hid (Box.below HOtO2.out b3 (Box.lt HOtO2.out))
  have HOxO3 : Hid (OpAtB w3 (w1.heap.size + 1 + 1 + 1) xO) := Lib.hid (Box.below HOxO2.out b3 (Box.lt HOxO2.out))
  have HOyO3 : Hid (OpAtB w3 (w1.heap.size + 1 + 1 + 1 + 1) yO) := Lib.hid (Box.below HOyO2.out b3 (Box.lt HOyO2.out))
  have HH3 := Lib.hid (HH2.out.carry b3 (Nat.le_refl _) b3.size)
  have HB3 := Lib.hid (HB2.out.trans (b3.mono HB2.out.size))
  have HR3 := Lib.hid (HRW.out.below HB3.out HRW.out.1)
  clear b3 r0 r1 r2 HRb2 HOtO2 HOxO2 HOyO2 HH2 HB2 CSK
  cases hok : rasB W H l1
  · have CK := Lib.hid (CIK.out w3 HH3.out)
    rw [hok] at CK
    have r0 := HRb3.out.c0
    have r1 := HRb3.out.c1
    have r2 := HRb3.out.c2
    clear hok
    go_wp2_with fail
    refine CK.out.mono ?_
    rintro e w4 ⟨rfl, b4⟩
    have HB4 := Lib.hid (HB3.out.trans (b4.mono HB3.out.size))
    clear b4
    go_wp2_with fail
    refine (eaOk_any _).mono ?_
    rintro e w5 ⟨rfl, b5⟩
    have HB5 := Lib.hid (HB4.out.trans (b5.mono HB4.out.size))
    clear b5
    go_wp2_with fail
    go_ret
    exact ⟨rfl, HB5.out⟩
  obtain ⟨r, rfl, rfl, rfl⟩ : ∃ r : Ra, W = (r.w : Int) ∧ H = (r.h : Int) ∧ l1 = r.p := by
    obtain ⟨hW, hH, -, -⟩ := rasB_parts hok
    exact ⟨⟨W.toNat, H.toNat, l1⟩, by simp only; omega, by simp only; omega, rfl⟩
  have hr : r.ok := hok
  have HRP := Lib.hid hr.parts
  clear hok CIK hl1
  have hrb : RasAtB w3.drew w1.heap.size r.w r.h A1 r.p.length c1 34 := HRb3.out.drew1
  have hbt : OpAtB w3.drew (w1.heap.size + 1 + 1) tO := Box.drew HOtO3.out
  have hbx : OpAtB w3.drew (w1.heap.size + 1 + 1 + 1) xO := Box.drew HOxO3.out
  have hby : OpAtB w3.drew (w1.heap.size + 1 + 1 + 1 + 1) yO := Box.drew HOyO3.out
  have hhb : HasP w3.drew w3.drew.heap.size A1 r.p := HH3.out.drewN 1
  have hRb : RangesIn w3.drew := HR3.out
  have HBD := Lib.hid (below_draws HB3.out 1)
  have r0 := HRb3.out.c0
  have r1 := HRb3.out.c1
  have r2 := HRb3.out.c2
  have HX := Lib.hid (And.intro hrb (And.intro hbt (And.intro hbx (And.intro hby (And.intro hhb (And.intro hRb hr))))))
  clear hrb hbt hbx hby hhb hRb hr
  go_wp2_with fail
  obtain ⟨hrb, hbt, hbx, hby, hhb, hRb, hr⟩ := HX.out

  refine wp_region_kd 73 [28, 29, 30, 31, 32, 33, 34, 35, 36, 37, 38, 39, 40, 41, 42, 43, 44, 45, 46, 47, 48, 49, 50, 51, 52, 53, 54, 55, 56, 57, 58, 59, 60, 61, 62, 63, 64, 65, 66, 67, 68, 69, 70, 71, 72, 2] [(28, .ras r), (29, .is (xO.v)), (30, .is (tO.v)), (31, .is (xO.v)), (32, .ops [xO, tO, xO]), (33, .ras (eaR r [xO, tO, xO])), (34, .ras r), (35, .is (tO.v)), (36, .is (tO.v)), (37, .is (tO.v)), (38, .ops [tO, tO, tO]), (39, .ras (eaR r [tO, tO, tO])), (40, .is (.bool true)), (41, .is (.bool true)), (42, .ras r), (43, .is (yO.v)), (44, .ops [yO]), (45, .ras (eaR r [yO])), (46, .ras r), (47, .is (xO.v)), (48, .is (tO.v)), (49, .is (tO.v)), (50, .ops [xO, tO, tO]), (51, .ras (eaR r [xO, tO, tO])), (52, .is (.bool true)), (53, .is (.bool true)), (54, .is (.bool true)), (55, .ras r), (56, .is (tO.v)), (57, .is (xO.v)), (58, .is (tO.v)), (59, .is (xO.v)), (60, .ops [tO, xO, tO, xO]), (61, .ras (eaR r [tO, xO, tO, xO])), (62, .ras r), (63, .is (.bool true)), (64, .is (.bool true)), (65, .is (.bool true)), (66, .ras r), (67, .is (xO.v)), (68, .is (tO.v)), (69, .ops [xO, tO]), (70, .ras (eaR r [xO, tO])), (71, .is (.bool true)), (72, .is (.bool true)), (2, .is (.bool true))] (Below w3.drew.heap.size w3.drew) (by kernel_rfl) (by kernel_rfl) rfl rfl (by decide) (by decide) rfl rfl (Below.refl _ _) ?_ ?_
  · intro i o V w ho hS hV hd
    have hi : i < 46 := (Array.getElem?_eq_some_iff.1 ho).1
    have hi2 : i = 0 ∨ i = 1 ∨ i = 2 ∨ i = 3 ∨ i = 4 ∨ i = 5 ∨ i = 6 ∨ i = 7 ∨ i = 8 ∨ i = 9 ∨ i = 10 ∨ i = 11 ∨ i = 12 ∨ i = 13 ∨ i = 14 ∨ i = 15 ∨ i = 16 ∨ i = 17 ∨ i = 18 ∨ i = 19 ∨ i = 20 ∨ i = 21 ∨ i = 22 ∨ i = 23 ∨ i = 24 ∨ i = 25 ∨ i = 26 ∨ i = 27 ∨ i = 28 ∨ i = 29 ∨ i = 30 ∨ i = 31 ∨ i = 32 ∨ i = 33 ∨ i = 34 ∨ i = 35 ∨ i = 36 ∨ i = 37 ∨ i = 38 ∨ i = 39 ∨ i = 40 ∨ i = 41 ∨ i = 42 ∨ i = 43 ∨ i = 44 ∨ i = 45 := by omega
    clear hi
    rcases hi2 with rfl | rfl | rfl | rfl | rfl | rfl | rfl | rfl | rfl | rfl | rfl | rfl | rfl | rfl | rfl | rfl | rfl | rfl | rfl | rfl | rfl | rfl | rfl | rfl | rfl | rfl | rfl | rfl | rfl | rfl | rfl | rfl | rfl | rfl | rfl | rfl | rfl | rfl | rfl | rfl | rfl | rfl | rfl | rfl | rfl | rfl
    · obtain rfl : _ = o := Option.some.inj ((show _ = some _ from rfl).symm.trans ho)
      have x3 : V 3 = .pointer (some ⟨w1.heap.size, 0, none⟩) := (hV 3 (by simp)).trans rfl
      refine ⟨fun _ => ?_, fun hw => absurd (show true = false from hw) (by decide)⟩
      · exact yield_ras rfl ((frame_eval V (by decide)).trans x3) hrb hc1 hhb hS
    · obtain rfl : _ = o := Option.some.inj ((show _ = some _ from rfl).symm.trans ho)
      have x6 : V 6 = .pointer (some ⟨w1.heap.size + 1 + 1 + 1, 0, none⟩) := (hV 6 (by simp)).trans rfl
      refine ⟨fun _ => ?_, fun hw => absurd (show true = false from hw) (by decide)⟩
      · exact yield_op rfl ((frame_eval V (by decide)).trans x6) hbx hS
    · obtain rfl : _ = o := Option.some.inj ((show _ = some _ from rfl).symm.trans ho)
      have x5 : V 5 = .pointer (some ⟨w1.heap.size + 1 + 1, 0, none⟩) := (hV 5 (by simp)).trans rfl
      refine ⟨fun _ => ?_, fun hw => absurd (show true = false from hw) (by decide)⟩
      · exact yield_op rfl ((frame_eval V (by decide)).trans x5) hbt hS
    · obtain rfl : _ = o := Option.some.inj ((show _ = some _ from rfl).symm.trans ho)
      have x6 : V 6 = .pointer (some ⟨w1.heap.size + 1 + 1 + 1, 0, none⟩) := (hV 6 (by simp)).trans rfl
      refine ⟨fun _ => ?_, fun hw => absurd (show true = false from hw) (by decide)⟩
      · exact yield_op rfl ((frame_eval V (by decide)).trans x6) hbx hS
    · obtain rfl : _ = o := Option.some.inj ((show _ = some _ from rfl).symm.trans ho)
      have d1 : V 29 = xO.v := hd ⟨1, .data⟩ (by simp) rfl
      have d2 : V 30 = tO.v := hd ⟨2, .data⟩ (by simp) rfl
      have d3 : V 31 = xO.v := hd ⟨3, .data⟩ (by simp) rfl
      refine ⟨fun _ => ?_, fun hw => absurd (show true = false from hw) (by decide)⟩
      · exact yield_ops3 rfl ((frame_eval V (by decide)).trans d1) ((frame_eval V (by decide)).trans d2) ((frame_eval V (by decide)).trans d3) hS
    · obtain rfl : _ = o := Option.some.inj ((show _ = some _ from rfl).symm.trans ho)
      have d0 : IsRa r w (V 28) := hd ⟨0, .data⟩ (by simp) rfl
      have d4 : IsOps [xO, tO, xO] w (V 32) := hd ⟨4, .data⟩ (by simp) rfl
      refine ⟨fun _ => ?_, fun hw => absurd (show true = false from hw) (by decide)⟩
      · exact yield_eaDo rfl (frame_eval V (by decide)) (frame_eval V (by decide)) d0 d4 hr (can_x (can_t (can_x can_nil))) (by simp) hRb hS
    · obtain rfl : _ = o := Option.some.inj ((show _ = some _ from rfl).symm.trans ho)
      have x3 : V 3 = .pointer (some ⟨w1.heap.size, 0, none⟩) := (hV 3 (by simp)).trans rfl
      refine ⟨fun _ => ?_, fun hw => absurd (show true = false from hw) (by decide)⟩
      · exact yield_ras rfl ((frame_eval V (by decide)).trans x3) hrb hc1 hhb hS
    · obtain rfl : _ = o := Option.some.inj ((show _ = some _ from rfl).symm.trans ho)
      have x5 : V 5 = .pointer (some ⟨w1.heap.size + 1 + 1, 0, none⟩) := (hV 5 (by simp)).trans rfl
      refine ⟨fun _ => ?_, fun hw => absurd (show true = false from hw) (by decide)⟩
      · exact yield_op rfl ((frame_eval V (by decide)).trans x5) hbt hS
    · obtain rfl : _ = o := Option.some.inj ((show _ = some _ from rfl).symm.trans ho)
      have x5 : V 5 = .pointer (some ⟨w1.heap.size + 1 + 1, 0, none⟩) := (hV 5 (by simp)).trans rfl
      refine ⟨fun _ => ?_, fun hw => absurd (show true = false from hw) (by decide)⟩
      · exact yield_op rfl ((frame_eval V (by decide)).trans x5) hbt hS
    · obtain rfl : _ = o := Option.some.inj ((show _ = some _ from rfl).symm.trans ho)
      have x5 : V 5 = .pointer (some ⟨w1.heap.size + 1 + 1, 0, none⟩) := (hV 5 (by simp)).trans rfl
      refine ⟨fun _ => ?_, fun hw => absurd (show true = false from hw) (by decide)⟩
      · exact yield_op rfl ((frame_eval V (by decide)).trans x5) hbt hS
    · obtain rfl : _ = o := Option.some.inj ((show _ = some _ from rfl).symm.trans ho)
      have d7 : V 35 = tO.v := hd ⟨7, .data⟩ (by simp) rfl
      have d8 : V 36 = tO.v := hd ⟨8, .data⟩ (by simp) rfl
      have d9 : V 37 = tO.v := hd ⟨9, .data⟩ (by simp) rfl
      refine ⟨fun _ => ?_, fun hw => absurd (show true = false from hw) (by decide)⟩
      · exact yield_ops3 rfl ((frame_eval V (by decide)).trans d7) ((frame_eval V (by decide)).trans d8) ((frame_eval V (by decide)).trans d9) hS
    · obtain rfl : _ = o := Option.some.inj ((show _ = some _ from rfl).symm.trans ho)
      have d6 : IsRa r w (V 34) := hd ⟨6, .data⟩ (by simp) rfl
      have d10 : IsOps [tO, tO, tO] w (V 38) := hd ⟨10, .data⟩ (by simp) rfl
      refine ⟨fun _ => ?_, fun hw => absurd (show true = false from hw) (by decide)⟩
      · exact yield_eaDo rfl (frame_eval V (by decide)) (frame_eval V (by decide)) d6 d10 hr (can_t (can_t (can_t can_nil))) (by simp) hRb hS
    · obtain rfl : _ = o := Option.some.inj ((show _ = some _ from rfl).symm.trans ho)
      have d5 : IsRa (eaR r [xO, tO, xO]) w (V 33) := hd ⟨5, .data⟩ (by simp) rfl
      have d11 : IsRa (eaR r [tO, tO, tO]) w (V 39) := hd ⟨11, .data⟩ (by simp) rfl
      refine ⟨fun _ => ?_, fun hw => absurd (show true = false from hw) (by decide)⟩
      · exact yield_eaRas rfl (frame_eval V (by decide)) (frame_eval V (by decide)) d5 d11 (ea_ok hr (can_x (can_t (can_x can_nil)))) (eq_group1 hr) hS
    · obtain rfl : _ = o := Option.some.inj ((show _ = some _ from rfl).symm.trans ho)
      have d12 : V 40 = .bool true := hd ⟨12, .data⟩ (by simp) rfl
      refine ⟨fun _ => ?_, fun hw => absurd (show true = false from hw) (by decide)⟩
      · exact yield_copy (.inl rfl) ((frame_eval V (by decide)).trans d12) hS
    · obtain rfl : _ = o := Option.some.inj ((show _ = some _ from rfl).symm.trans ho)
      have x3 : V 3 = .pointer (some ⟨w1.heap.size, 0, none⟩) := (hV 3 (by simp)).trans rfl
      have gd : V 41 = .bool true := hd ⟨13, .guard⟩ (by simp) rfl
      refine ⟨fun _ => ?_, fun hw => absurd ((wanted_of rfl rfl (by decide) gd).symm.trans hw) (by decide)⟩
      · exact yield_ras rfl ((frame_eval V (by decide)).trans x3) hrb hc1 hhb hS
    · obtain rfl : _ = o := Option.some.inj ((show _ = some _ from rfl).symm.trans ho)
      have x7 : V 7 = .pointer (some ⟨w1.heap.size + 1 + 1 + 1 + 1, 0, none⟩) := (hV 7 (by simp)).trans rfl
      have gd : V 41 = .bool true := hd ⟨13, .guard⟩ (by simp) rfl
      refine ⟨fun _ => ?_, fun hw => absurd ((wanted_of rfl rfl (by decide) gd).symm.trans hw) (by decide)⟩
      · exact yield_op rfl ((frame_eval V (by decide)).trans x7) hby hS
    · obtain rfl : _ = o := Option.some.inj ((show _ = some _ from rfl).symm.trans ho)
      have d15 : V 43 = yO.v := hd ⟨15, .data⟩ (by simp) rfl
      have gd : V 41 = .bool true := hd ⟨13, .guard⟩ (by simp) rfl
      refine ⟨fun _ => ?_, fun hw => absurd ((wanted_of rfl rfl (by decide) gd).symm.trans hw) (by decide)⟩
      · exact yield_ops1 rfl ((frame_eval V (by decide)).trans d15) hS
    · obtain rfl : _ = o := Option.some.inj ((show _ = some _ from rfl).symm.trans ho)
      have d14 : IsRa r w (V 42) := hd ⟨14, .data⟩ (by simp) rfl
      have d16 : IsOps [yO] w (V 44) := hd ⟨16, .data⟩ (by simp) rfl
      have gd : V 41 = .bool true := hd ⟨13, .guard⟩ (by simp) rfl
      refine ⟨fun _ => ?_, fun hw => absurd ((wanted_of rfl rfl (by decide) gd).symm.trans hw) (by decide)⟩
      · exact yield_eaDo rfl (frame_eval V (by decide)) (frame_eval V (by decide)) d14 d16 hr (can_y can_nil) (by simp) hRb hS
    · obtain rfl : _ = o := Option.some.inj ((show _ = some _ from rfl).symm.trans ho)
      have x3 : V 3 = .pointer (some ⟨w1.heap.size, 0, none⟩) := (hV 3 (by simp)).trans rfl
      have gd : V 41 = .bool true := hd ⟨13, .guard⟩ (by simp) rfl
      refine ⟨fun _ => ?_, fun hw => absurd ((wanted_of rfl rfl (by decide) gd).symm.trans hw) (by decide)⟩
      · exact yield_ras rfl ((frame_eval V (by decide)).trans x3) hrb hc1 hhb hS
    · obtain rfl : _ = o := Option.some.inj ((show _ = some _ from rfl).symm.trans ho)
      have x6 : V 6 = .pointer (some ⟨w1.heap.size + 1 + 1 + 1, 0, none⟩) := (hV 6 (by simp)).trans rfl
      have gd : V 41 = .bool true := hd ⟨13, .guard⟩ (by simp) rfl
      refine ⟨fun _ => ?_, fun hw => absurd ((wanted_of rfl rfl (by decide) gd).symm.trans hw) (by decide)⟩
      · exact yield_op rfl ((frame_eval V (by decide)).trans x6) hbx hS
    · obtain rfl : _ = o := Option.some.inj ((show _ = some _ from rfl).symm.trans ho)
      have x5 : V 5 = .pointer (some ⟨w1.heap.size + 1 + 1, 0, none⟩) := (hV 5 (by simp)).trans rfl
      have gd : V 41 = .bool true := hd ⟨13, .guard⟩ (by simp) rfl
      refine ⟨fun _ => ?_, fun hw => absurd ((wanted_of rfl rfl (by decide) gd).symm.trans hw) (by decide)⟩
      · exact yield_op rfl ((frame_eval V (by decide)).trans x5) hbt hS
    · obtain rfl : _ = o := Option.some.inj ((show _ = some _ from rfl).symm.trans ho)
      have x5 : V 5 = .pointer (some ⟨w1.heap.size + 1 + 1, 0, none⟩) := (hV 5 (by simp)).trans rfl
      have gd : V 41 = .bool true := hd ⟨13, .guard⟩ (by simp) rfl
      refine ⟨fun _ => ?_, fun hw => absurd ((wanted_of rfl rfl (by decide) gd).symm.trans hw) (by decide)⟩
      · exact yield_op rfl ((frame_eval V (by decide)).trans x5) hbt hS
    · obtain rfl : _ = o := Option.some.inj ((show _ = some _ from rfl).symm.trans ho)
      have d19 : V 47 = xO.v := hd ⟨19, .data⟩ (by simp) rfl
      have d20 : V 48 = tO.v := hd ⟨20, .data⟩ (by simp) rfl
      have d21 : V 49 = tO.v := hd ⟨21, .data⟩ (by simp) rfl
      have gd : V 41 = .bool true := hd ⟨13, .guard⟩ (by simp) rfl
      refine ⟨fun _ => ?_, fun hw => absurd ((wanted_of rfl rfl (by decide) gd).symm.trans hw) (by decide)⟩
      · exact yield_ops3 rfl ((frame_eval V (by decide)).trans d19) ((frame_eval V (by decide)).trans d20) ((frame_eval V (by decide)).trans d21) hS
    · obtain rfl : _ = o := Option.some.inj ((show _ = some _ from rfl).symm.trans ho)
      have d18 : IsRa r w (V 46) := hd ⟨18, .data⟩ (by simp) rfl
      have d22 : IsOps [xO, tO, tO] w (V 50) := hd ⟨22, .data⟩ (by simp) rfl
      have gd : V 41 = .bool true := hd ⟨13, .guard⟩ (by simp) rfl
      refine ⟨fun _ => ?_, fun hw => absurd ((wanted_of rfl rfl (by decide) gd).symm.trans hw) (by decide)⟩
      · exact yield_eaDo rfl (frame_eval V (by decide)) (frame_eval V (by decide)) d18 d22 hr (can_x (can_t (can_t can_nil))) (by simp) hRb hS
    · obtain rfl : _ = o := Option.some.inj ((show _ = some _ from rfl).symm.trans ho)
      have d17 : IsRa (eaR r [yO]) w (V 45) := hd ⟨17, .data⟩ (by simp) rfl
      have d23 : IsRa (eaR r [xO, tO, tO]) w (V 51) := hd ⟨23, .data⟩ (by simp) rfl
      have gd : V 41 = .bool true := hd ⟨13, .guard⟩ (by simp) rfl
      refine ⟨fun _ => ?_, fun hw => absurd ((wanted_of rfl rfl (by decide) gd).symm.trans hw) (by decide)⟩
      · exact yield_eaRas rfl (frame_eval V (by decide)) (frame_eval V (by decide)) d17 d23 (ea_ok hr (can_y can_nil)) (eq_group2 hr) hS
    · obtain rfl : _ = o := Option.some.inj ((show _ = some _ from rfl).symm.trans ho)
      have d13 : V 41 = .bool true := hd ⟨13, .data⟩ (by simp) rfl
      have d24 : V 52 = .bool true := hd ⟨24, .data⟩ (by simp) rfl
      refine ⟨fun _ => ?_, fun hw => absurd (show true = false from hw) (by decide)⟩
      · exact yield_pick rfl ((frame_eval V (by decide)).trans d13) ((frame_eval V (by decide)).trans d24) hS
    · obtain rfl : _ = o := Option.some.inj ((show _ = some _ from rfl).symm.trans ho)
      have d25 : V 53 = .bool true := hd ⟨25, .data⟩ (by simp) rfl
      refine ⟨fun _ => ?_, fun hw => absurd (show true = false from hw) (by decide)⟩
      · exact yield_copy (.inl rfl) ((frame_eval V (by decide)).trans d25) hS
    · obtain rfl : _ = o := Option.some.inj ((show _ = some _ from rfl).symm.trans ho)
      have x3 : V 3 = .pointer (some ⟨w1.heap.size, 0, none⟩) := (hV 3 (by simp)).trans rfl
      have gd : V 54 = .bool true := hd ⟨26, .guard⟩ (by simp) rfl
      refine ⟨fun _ => ?_, fun hw => absurd ((wanted_of rfl rfl (by decide) gd).symm.trans hw) (by decide)⟩
      · exact yield_ras rfl ((frame_eval V (by decide)).trans x3) hrb hc1 hhb hS
    · obtain rfl : _ = o := Option.some.inj ((show _ = some _ from rfl).symm.trans ho)
      have x5 : V 5 = .pointer (some ⟨w1.heap.size + 1 + 1, 0, none⟩) := (hV 5 (by simp)).trans rfl
      have gd : V 54 = .bool true := hd ⟨26, .guard⟩ (by simp) rfl
      refine ⟨fun _ => ?_, fun hw => absurd ((wanted_of rfl rfl (by decide) gd).symm.trans hw) (by decide)⟩
      · exact yield_op rfl ((frame_eval V (by decide)).trans x5) hbt hS
    · obtain rfl : _ = o := Option.some.inj ((show _ = some _ from rfl).symm.trans ho)
      have x6 : V 6 = .pointer (some ⟨w1.heap.size + 1 + 1 + 1, 0, none⟩) := (hV 6 (by simp)).trans rfl
      have gd : V 54 = .bool true := hd ⟨26, .guard⟩ (by simp) rfl
      refine ⟨fun _ => ?_, fun hw => absurd ((wanted_of rfl rfl (by decide) gd).symm.trans hw) (by decide)⟩
      · exact yield_op rfl ((frame_eval V (by decide)).trans x6) hbx hS
    · obtain rfl : _ = o := Option.some.inj ((show _ = some _ from rfl).symm.trans ho)
      have x5 : V 5 = .pointer (some ⟨w1.heap.size + 1 + 1, 0, none⟩) := (hV 5 (by simp)).trans rfl
      have gd : V 54 = .bool true := hd ⟨26, .guard⟩ (by simp) rfl
      refine ⟨fun _ => ?_, fun hw => absurd ((wanted_of rfl rfl (by decide) gd).symm.trans hw) (by decide)⟩
      · exact yield_op rfl ((frame_eval V (by decide)).trans x5) hbt hS
    · obtain rfl : _ = o := Option.some.inj ((show _ = some _ from rfl).symm.trans ho)
      have x6 : V 6 = .pointer (some ⟨w1.heap.size + 1 + 1 + 1, 0, none⟩) := (hV 6 (by simp)).trans rfl
      have gd : V 54 = .bool true := hd ⟨26, .guard⟩ (by simp) rfl
      refine ⟨fun _ => ?_, fun hw => absurd ((wanted_of rfl rfl (by decide) gd).symm.trans hw) (by decide)⟩
      · exact yield_op rfl ((frame_eval V (by decide)).trans x6) hbx hS
    · obtain rfl : _ = o := Option.some.inj ((show _ = some _ from rfl).symm.trans ho)
      have d28 : V 56 = tO.v := hd ⟨28, .data⟩ (by simp) rfl
      have d29 : V 57 = xO.v := hd ⟨29, .data⟩ (by simp) rfl
      have d30 : V 58 = tO.v := hd ⟨30, .data⟩ (by simp) rfl
      have d31 : V 59 = xO.v := hd ⟨31, .data⟩ (by simp) rfl
      have gd : V 54 = .bool true := hd ⟨26, .guard⟩ (by simp) rfl
      refine ⟨fun _ => ?_, fun hw => absurd ((wanted_of rfl rfl (by decide) gd).symm.trans hw) (by decide)⟩
      · exact yield_ops4 rfl ((frame_eval V (by decide)).trans d28) ((frame_eval V (by decide)).trans d29) ((frame_eval V (by decide)).trans d30) ((frame_eval V (by decide)).trans d31) hS
    · obtain rfl : _ = o := Option.some.inj ((show _ = some _ from rfl).symm.trans ho)
      have d27 : IsRa r w (V 55) := hd ⟨27, .data⟩ (by simp) rfl
      have d32 : IsOps [tO, xO, tO, xO] w (V 60) := hd ⟨32, .data⟩ (by simp) rfl
      have gd : V 54 = .bool true := hd ⟨26, .guard⟩ (by simp) rfl
      refine ⟨fun _ => ?_, fun hw => absurd ((wanted_of rfl rfl (by decide) gd).symm.trans hw) (by decide)⟩
      · exact yield_eaDo rfl (frame_eval V (by decide)) (frame_eval V (by decide)) d27 d32 hr (can_t (can_x (can_t (can_x can_nil)))) (by simp) hRb hS
    · obtain rfl : _ = o := Option.some.inj ((show _ = some _ from rfl).symm.trans ho)
      have x3 : V 3 = .pointer (some ⟨w1.heap.size, 0, none⟩) := (hV 3 (by simp)).trans rfl
      have gd : V 54 = .bool true := hd ⟨26, .guard⟩ (by simp) rfl
      refine ⟨fun _ => ?_, fun hw => absurd ((wanted_of rfl rfl (by decide) gd).symm.trans hw) (by decide)⟩
      · exact yield_ras rfl ((frame_eval V (by decide)).trans x3) hrb hc1 hhb hS
    · obtain rfl : _ = o := Option.some.inj ((show _ = some _ from rfl).symm.trans ho)
      have d33 : IsRa (eaR r [tO, xO, tO, xO]) w (V 61) := hd ⟨33, .data⟩ (by simp) rfl
      have d34 : IsRa r w (V 62) := hd ⟨34, .data⟩ (by simp) rfl
      have gd : V 54 = .bool true := hd ⟨26, .guard⟩ (by simp) rfl
      refine ⟨fun _ => ?_, fun hw => absurd ((wanted_of rfl rfl (by decide) gd).symm.trans hw) (by decide)⟩
      · exact yield_eaRas rfl (frame_eval V (by decide)) (frame_eval V (by decide)) d33 d34 (ea_ok hr (can_t (can_x (can_t (can_x can_nil))))) (eq_group3 hr) hS
    · obtain rfl : _ = o := Option.some.inj ((show _ = some _ from rfl).symm.trans ho)
      have d26 : V 54 = .bool true := hd ⟨26, .data⟩ (by simp) rfl
      have d35 : V 63 = .bool true := hd ⟨35, .data⟩ (by simp) rfl
      refine ⟨fun _ => ?_, fun hw => absurd (show true = false from hw) (by decide)⟩
      · exact yield_pick rfl ((frame_eval V (by decide)).trans d26) ((frame_eval V (by decide)).trans d35) hS
    · obtain rfl : _ = o := Option.some.inj ((show _ = some _ from rfl).symm.trans ho)
      have d36 : V 64 = .bool true := hd ⟨36, .data⟩ (by simp) rfl
      refine ⟨fun _ => ?_, fun hw => absurd (show true = false from hw) (by decide)⟩
      · exact yield_copy (.inl rfl) ((frame_eval V (by decide)).trans d36) hS
    · obtain rfl : _ = o := Option.some.inj ((show _ = some _ from rfl).symm.trans ho)
      have x3 : V 3 = .pointer (some ⟨w1.heap.size, 0, none⟩) := (hV 3 (by simp)).trans rfl
      have gd : V 65 = .bool true := hd ⟨37, .guard⟩ (by simp) rfl
      refine ⟨fun _ => ?_, fun hw => absurd ((wanted_of rfl rfl (by decide) gd).symm.trans hw) (by decide)⟩
      · exact yield_ras rfl ((frame_eval V (by decide)).trans x3) hrb hc1 hhb hS
    · obtain rfl : _ = o := Option.some.inj ((show _ = some _ from rfl).symm.trans ho)
      have x6 : V 6 = .pointer (some ⟨w1.heap.size + 1 + 1 + 1, 0, none⟩) := (hV 6 (by simp)).trans rfl
      have gd : V 65 = .bool true := hd ⟨37, .guard⟩ (by simp) rfl
      refine ⟨fun _ => ?_, fun hw => absurd ((wanted_of rfl rfl (by decide) gd).symm.trans hw) (by decide)⟩
      · exact yield_op rfl ((frame_eval V (by decide)).trans x6) hbx hS
    · obtain rfl : _ = o := Option.some.inj ((show _ = some _ from rfl).symm.trans ho)
      have x5 : V 5 = .pointer (some ⟨w1.heap.size + 1 + 1, 0, none⟩) := (hV 5 (by simp)).trans rfl
      have gd : V 65 = .bool true := hd ⟨37, .guard⟩ (by simp) rfl
      refine ⟨fun _ => ?_, fun hw => absurd ((wanted_of rfl rfl (by decide) gd).symm.trans hw) (by decide)⟩
      · exact yield_op rfl ((frame_eval V (by decide)).trans x5) hbt hS
    · obtain rfl : _ = o := Option.some.inj ((show _ = some _ from rfl).symm.trans ho)
      have d39 : V 67 = xO.v := hd ⟨39, .data⟩ (by simp) rfl
      have d40 : V 68 = tO.v := hd ⟨40, .data⟩ (by simp) rfl
      have gd : V 65 = .bool true := hd ⟨37, .guard⟩ (by simp) rfl
      refine ⟨fun _ => ?_, fun hw => absurd ((wanted_of rfl rfl (by decide) gd).symm.trans hw) (by decide)⟩
      · exact yield_ops2 rfl ((frame_eval V (by decide)).trans d39) ((frame_eval V (by decide)).trans d40) hS
    · obtain rfl : _ = o := Option.some.inj ((show _ = some _ from rfl).symm.trans ho)
      have d38 : IsRa r w (V 66) := hd ⟨38, .data⟩ (by simp) rfl
      have d41 : IsOps [xO, tO] w (V 69) := hd ⟨41, .data⟩ (by simp) rfl
      have gd : V 65 = .bool true := hd ⟨37, .guard⟩ (by simp) rfl
      refine ⟨fun _ => ?_, fun hw => absurd ((wanted_of rfl rfl (by decide) gd).symm.trans hw) (by decide)⟩
      · exact yield_eaDo rfl (frame_eval V (by decide)) (frame_eval V (by decide)) d38 d41 hr (can_x (can_t can_nil)) (by simp) hRb hS
    · obtain rfl : _ = o := Option.some.inj ((show _ = some _ from rfl).symm.trans ho)
      have d42 : IsRa (eaR r [xO, tO]) w (V 70) := hd ⟨42, .data⟩ (by simp) rfl
      have gd : V 65 = .bool true := hd ⟨37, .guard⟩ (by simp) rfl
      refine ⟨fun _ => ?_, fun hw => absurd ((wanted_of rfl rfl (by decide) gd).symm.trans hw) (by decide)⟩
      · exact yield_rasOk rfl (frame_eval V (by decide)) d42 (ea_ok hr (can_x (can_t can_nil))) hS
    · obtain rfl : _ = o := Option.some.inj ((show _ = some _ from rfl).symm.trans ho)
      have d37 : V 65 = .bool true := hd ⟨37, .data⟩ (by simp) rfl
      have d43 : V 71 = .bool true := hd ⟨43, .data⟩ (by simp) rfl
      refine ⟨fun _ => ?_, fun hw => absurd (show true = false from hw) (by decide)⟩
      · exact yield_pick rfl ((frame_eval V (by decide)).trans d37) ((frame_eval V (by decide)).trans d43) hS
    · obtain rfl : _ = o := Option.some.inj ((show _ = some _ from rfl).symm.trans ho)
      have d44 : V 72 = .bool true := hd ⟨44, .data⟩ (by simp) rfl
      refine ⟨fun _ => ?_, fun hw => absurd (show true = false from hw) (by decide)⟩
      · exact yield_copy (.inr rfl) ((frame_eval V (by decide)).trans d44) hS
  · intro V wx hS hV hall
    have d45 : V 2 = .bool true := hall 45 (by decide)
    rw [show frame 73 V = { tmps := #[V 0, V 1, V 2, V 3, V 4, V 5, V 6, V 7, V 8, V 9, V 10, V 11, V 12, V 13, V 14, V 15, V 16, V 17, V 18, V 19, V 20, V 21, V 22, V 23, V 24, V 25, V 26, V 27, V 28, V 29, V 30, V 31, V 32, V 33, V 34, V 35, V 36, V 37, V 38, V 39, V 40, V 41, V 42, V 43, V 44, V 45, V 46, V 47, V 48, V 49, V 50, V 51, V 52, V 53, V 54, V 55, V 56, V 57, V 58, V 59, V 60, V 61, V 62, V 63, V 64, V 65, V 66, V 67, V 68, V 69, V 70, V 71, V 72], defers := [] } from rfl, d45]
    have HE := Lib.hid (HBD.out.trans (hS.mono HBD.out.size))
    clear hall hV d45 hS hrb hbt hbx hby hhb hRb hr HX
    go_wp2_with fail
    go_ret
    exact ⟨rfl, HE.out⟩
theorem fnOpGroup_walk (A : Option Addr) (c : Nat) (l : List UInt8) (w : World) (hR : RangesIn w) (h : Has w w.heap.size A l) (hc : l.length ≤ c) :
    Calls Tryd.prog 6 #[.slice A l.length c] w fun e w' => e = .returned (.bool true) ∧ Below w.heap.size w w' := by
  by_cases hbig : l.length ≤ 1048576
  · exact fnOpGroup_small A c l w hR h hc hbig
  · have hl0 : (1048576 : Int) < (l.length : Int) := by omega
    clear h hc hbig
    go_enter Tryd.func6, Tryd.ntmps6
    go_wp2_with fail
    go_ret
    exact ⟨rfl, Below.refl _ _⟩
end Go.Proofs.YthdggnfffebnlaaDoor
