/-
  The law FnOpSizeUp returns true for every list of bytes to draw from. Condition: the table of ranges reads as the program's text lays it.
-/
import Derived.Test.YthdggnfffebnlaaDoorRanL
import Derived.Test.YthdggnfffebnlaaDoorDrawOpA
import Derived.Test.YthdggnfffebnlaaDoorEaC
import Derived.Test.YthdggnfffebnlaaDoorRegL
import Derived.Test.YthdggnfffebnlaaDoorRasS
import Derived.Test.YthdggnfffebnlaaDoorRegM
namespace Go.Proofs.YthdggnfffebnlaaDoor
set_option maxRecDepth 4000
open Go.RowKit

set_option maxHeartbeats 8000000 in
theorem fnOpSizeUp_small (A : Option Addr) (c : Nat) (l : List UInt8) (w : World) (hR : RangesIn w) (h : Has w w.heap.size A l) (hc : l.length ≤ c) (hs : l.length ≤ 1048576) :
    Calls Tryd.prog 8 #[.slice A l.length c] w fun e w' => e = .returned (.bool true) ∧ Below w.heap.size w w' := by
  have C1 := Lib.hid (drawOpDo_any A c l w (by omega) hc h)
  have HRW := Lib.hid hR
  have hl0 : ¬ ((1048576 : Int) < (l.length : Int)) := by omega
  clear h hs hc hR
  go_enter Tryd.func8, Tryd.ntmps8
  go_wp2_with fail
  refine C1.out.mono ?_
  rintro e w1 ⟨W, H, A1, c1, l1, q, rfl, hh1, hc1, hl1, B1⟩
  have CSK := Lib.hid fun u hh => specRasOk_any W H A1 c1 l1 u (by omega) hh
  have CIK := Lib.hid fun u hh => implRasOk_any W H A1 c1 l1 u (by omega) hh
  unfold rasV at CSK CIK ⊢
  unfold Op.v
  have b2 : Below w1.heap.size w1 ((w1.alloc (.cells #[.int .i64 W, .int .i64 H, .slice A1 l1.length c1] 34)).alloc (.cells #[.int .i64 q.k, .int .i64 q.a, .int .i64 q.b, .int .i64 q.c, .int .i64 q.d] 25)) := ((Below.refl _ w1).alloc (Nat.le_refl _) _).alloc (by simp) _
  have HRb2 : Hid (RasAtB ((w1.alloc (.cells #[.int .i64 W, .int .i64 H, .slice A1 l1.length c1] 34)).alloc (.cells #[.int .i64 q.k, .int .i64 q.a, .int .i64 q.b, .int .i64 q.c, .int .i64 q.d] 25)) w1.heap.size W H A1 l1.length c1 34) := Lib.hid (Box.alloc (Box.new w1 _ _) _)
  have HH2 := Lib.hid (hh1.carry b2 (Nat.le_refl _) b2.size)
  have HB2 := Lib.hid (B1.trans (b2.mono B1.size))
  clear b2 hh1 B1 C1
  go_wp2_with fail
  generalize ((w1.alloc (.cells #[.int .i64 W, .int .i64 H, .slice A1 l1.length c1] 34)).alloc (.cells #[.int .i64 q.k, .int .i64 q.a, .int .i64 q.b, .int .i64 q.c, .int .i64 q.d] 25)) = w2 at *
  have r0 := HRb2.out.c0
  have r1 := HRb2.out.c1
  have r2 := HRb2.out.c2
  go_wp2_with fail
  refine (CSK.out _ HH2.out).mono ?_
  rintro e w3 ⟨rfl, b3⟩
  have HRb3 := Lib.hid (HRb2.out.below b3 HRb2.out.lt)
  have HH3 := Lib.hid (HH2.out.carry b3 (Nat.le_refl _) b3.size)
  have HB3 := Lib.hid (HB2.out.trans (b3.mono HB2.out.size))
  have HR3 := Lib.hid (HRW.out.below HB3.out HRW.out.1)
  clear b3 r0 r1 r2 HRb2  HH2 HB2 CSK
  have r0 := HRb3.out.c0
  have r1 := HRb3.out.c1
  have r2 := HRb3.out.c2
  obtain ⟨q0, hq0⟩ : ∃ q0, rasB W H l1 = q0 := ⟨_, rfl⟩
  have HQ0 := Lib.hid hq0
  rw [hq0]
  clear hq0
  cases q0
  · clear CIK
    have hrw : RasAtB w3.drew (w1.heap.size) W H A1 l1.length c1 34 := HRb3.out.drew1
    have hhw : HasP w3.drew w3.drew.heap.size A1 l1 := HH3.out.drewN 1
    have HBD := Lib.hid (below_draws HB3.out 1)
    have HWW := Lib.hid (And.intro hrw hhw)
    clear hrw hhw
    go_wp2_with fail
    clear r0 r1 r2
    obtain ⟨hrw, hhw⟩ := HWW.out
    refine wp_region_kd 83 [30, 31, 32, 33, 34, 35, 36, 37, 2] [(30, .is (rasV W H A1 l1.length c1)), (31, .is (.bool (rasB W H l1))), (32, .is (rasV W H A1 l1.length c1)), (33, .is (.bool (rasB W H l1))), (34, .is (.bool true)), (35, .is (.bool true)), (36, .is (.bool true)), (37, .is (.bool true)), (2, .is (.bool true))] (Below w3.drew.heap.size w3.drew) (by kernel_rfl) (by kernel_rfl) rfl rfl (by decide) (by decide) rfl rfl (Below.refl _ _) ?_ ?_
    · intro i o V w ho hS hV hd
      have hi : i < 9 := (Array.getElem?_eq_some_iff.1 ho).1
      have hi2 : i = 0 ∨ i = 1 ∨ i = 2 ∨ i = 3 ∨ i = 4 ∨ i = 5 ∨ i = 6 ∨ i = 7 ∨ i = 8 := by omega
      clear hi
      rcases hi2 with rfl | rfl | rfl | rfl | rfl | rfl | rfl | rfl | rfl
      · obtain rfl : _ = o := Option.some.inj ((show _ = some _ from rfl).symm.trans ho)
        have x3 : V 3 = .pointer (some ⟨w1.heap.size, 0, none⟩) := (hV 3 (by simp)).trans rfl
        refine ⟨fun _ => ?_, fun hw => absurd (show true = false from hw) (by decide)⟩
        · exact yield_raw rfl ((frame_eval V (by decide)).trans x3) hrw hS
      · obtain rfl : _ = o := Option.some.inj ((show _ = some _ from rfl).symm.trans ho)
        have d0 : V 30 = rasV W H A1 l1.length c1 := hd ⟨0, .data⟩ (by simp) rfl
        refine ⟨fun _ => ?_, fun hw => absurd (show true = false from hw) (by decide)⟩
        · exact yield_okI rfl ((frame_eval V (by decide)).trans d0) (by omega) hhw hS
      · obtain rfl : _ = o := Option.some.inj ((show _ = some _ from rfl).symm.trans ho)
        have x3 : V 3 = .pointer (some ⟨w1.heap.size, 0, none⟩) := (hV 3 (by simp)).trans rfl
        refine ⟨fun _ => ?_, fun hw => absurd (show true = false from hw) (by decide)⟩
        · exact yield_raw rfl ((frame_eval V (by decide)).trans x3) hrw hS
      · obtain rfl : _ = o := Option.some.inj ((show _ = some _ from rfl).symm.trans ho)
        have d2 : V 32 = rasV W H A1 l1.length c1 := hd ⟨2, .data⟩ (by simp) rfl
        refine ⟨fun _ => ?_, fun hw => absurd (show true = false from hw) (by decide)⟩
        · exact yield_okS rfl ((frame_eval V (by decide)).trans d2) (by omega) hhw hS
      · obtain rfl : _ = o := Option.some.inj ((show _ = some _ from rfl).symm.trans ho)
        have d1 : V 31 = .bool (rasB W H l1) := hd ⟨1, .data⟩ (by simp) rfl
        have d3 : V 33 = .bool (rasB W H l1) := hd ⟨3, .data⟩ (by simp) rfl
        refine ⟨fun _ => ?_, fun hw => absurd (show true = false from hw) (by decide)⟩
        · exact yield_eqlB rfl ((frame_eval V (by decide)).trans d1) ((frame_eval V (by decide)).trans d3) hS
      · obtain rfl : _ = o := Option.some.inj ((show _ = some _ from rfl).symm.trans ho)
        have d4 : V 34 = .bool true := hd ⟨4, .data⟩ (by simp) rfl
        refine ⟨fun _ => ?_, fun hw => absurd (show true = false from hw) (by decide)⟩
        · exact yield_copy (.inl rfl) ((frame_eval V (by decide)).trans d4) hS
      · obtain rfl : _ = o := Option.some.inj ((show _ = some _ from rfl).symm.trans ho)
        have gd : V 35 = .bool true := hd ⟨5, .guard⟩ (by simp) rfl
        refine ⟨fun _ => ?_, fun hw => absurd ((wanted_of rfl rfl (by decide) gd).symm.trans hw) (by decide)⟩
        · exact yield_eaOk rfl hS
      · obtain rfl : _ = o := Option.some.inj ((show _ = some _ from rfl).symm.trans ho)
        have d5 : V 35 = .bool true := hd ⟨5, .data⟩ (by simp) rfl
        have d6 : V 36 = .bool true := hd ⟨6, .data⟩ (by simp) rfl
        refine ⟨fun _ => ?_, fun hw => absurd (show true = false from hw) (by decide)⟩
        · exact yield_pick rfl ((frame_eval V (by decide)).trans d5) ((frame_eval V (by decide)).trans d6) hS
      · obtain rfl : _ = o := Option.some.inj ((show _ = some _ from rfl).symm.trans ho)
        have d7 : V 37 = .bool true := hd ⟨7, .data⟩ (by simp) rfl
        refine ⟨fun _ => ?_, fun hw => absurd (show true = false from hw) (by decide)⟩
        · exact yield_copy (.inr rfl) ((frame_eval V (by decide)).trans d7) hS
    · intro V wx hS hV hall
      have dl : V 2 = .bool true := hall 8 (by decide)
      rw [frame_all (n := 83) (D := [30, 31, 32, 33, 34, 35, 36, 37, 2]) rfl rfl (by decide) hV]
      simp only [List.foldl_cons, List.foldl_nil, Act.put, List.setIfInBounds_toArray, List.set_cons_zero, List.set_cons_succ]
      rw [dl]
      have HE := Lib.hid (HBD.out.trans (hS.mono HBD.out.size))
      clear hall hV dl hS hrw hhw 
      go_wp2_with fail
      go_ret
      exact ⟨rfl, HE.out⟩
  obtain ⟨hW, hH, -, -⟩ := rasB_parts HQ0.out
  by_cases h2w : 6 < 2 * W
  · clear CIK
    have hrw : RasAtB w3.drew (w1.heap.size) W H A1 l1.length c1 34 := HRb3.out.drew1
    have hhw : HasP w3.drew w3.drew.heap.size A1 l1 := HH3.out.drewN 1
    have HBD := Lib.hid (below_draws HB3.out 1)
    have HWW := Lib.hid (And.intro hrw hhw)
    clear hrw hhw
    go_wp2_with fail
    clear r0 r1 r2
    obtain ⟨hrw, hhw⟩ := HWW.out
    refine wp_region_kd 83 [30, 31, 32, 33, 34, 35, 36, 37, 2] [(30, .is (rasV W H A1 l1.length c1)), (31, .is (.bool (rasB W H l1))), (32, .is (rasV W H A1 l1.length c1)), (33, .is (.bool (rasB W H l1))), (34, .is (.bool true)), (35, .is (.bool true)), (36, .is (.bool true)), (37, .is (.bool true)), (2, .is (.bool true))] (Below w3.drew.heap.size w3.drew) (by kernel_rfl) (by kernel_rfl) rfl rfl (by decide) (by decide) rfl rfl (Below.refl _ _) ?_ ?_
    · intro i o V w ho hS hV hd
      have hi : i < 9 := (Array.getElem?_eq_some_iff.1 ho).1
      have hi2 : i = 0 ∨ i = 1 ∨ i = 2 ∨ i = 3 ∨ i = 4 ∨ i = 5 ∨ i = 6 ∨ i = 7 ∨ i = 8 := by omega
      clear hi
      rcases hi2 with rfl | rfl | rfl | rfl | rfl | rfl | rfl | rfl | rfl
      · obtain rfl : _ = o := Option.some.inj ((show _ = some _ from rfl).symm.trans ho)
        have x3 : V 3 = .pointer (some ⟨w1.heap.size, 0, none⟩) := (hV 3 (by simp)).trans rfl
        refine ⟨fun _ => ?_, fun hw => absurd (show true = false from hw) (by decide)⟩
        · exact yield_raw rfl ((frame_eval V (by decide)).trans x3) hrw hS
      · obtain rfl : _ = o := Option.some.inj ((show _ = some _ from rfl).symm.trans ho)
        have d0 : V 30 = rasV W H A1 l1.length c1 := hd ⟨0, .data⟩ (by simp) rfl
        refine ⟨fun _ => ?_, fun hw => absurd (show true = false from hw) (by decide)⟩
        · exact yield_okI rfl ((frame_eval V (by decide)).trans d0) (by omega) hhw hS
      · obtain rfl : _ = o := Option.some.inj ((show _ = some _ from rfl).symm.trans ho)
        have x3 : V 3 = .pointer (some ⟨w1.heap.size, 0, none⟩) := (hV 3 (by simp)).trans rfl
        refine ⟨fun _ => ?_, fun hw => absurd (show true = false from hw) (by decide)⟩
        · exact yield_raw rfl ((frame_eval V (by decide)).trans x3) hrw hS
      · obtain rfl : _ = o := Option.some.inj ((show _ = some _ from rfl).symm.trans ho)
        have d2 : V 32 = rasV W H A1 l1.length c1 := hd ⟨2, .data⟩ (by simp) rfl
        refine ⟨fun _ => ?_, fun hw => absurd (show true = false from hw) (by decide)⟩
        · exact yield_okS rfl ((frame_eval V (by decide)).trans d2) (by omega) hhw hS
      · obtain rfl : _ = o := Option.some.inj ((show _ = some _ from rfl).symm.trans ho)
        have d1 : V 31 = .bool (rasB W H l1) := hd ⟨1, .data⟩ (by simp) rfl
        have d3 : V 33 = .bool (rasB W H l1) := hd ⟨3, .data⟩ (by simp) rfl
        refine ⟨fun _ => ?_, fun hw => absurd (show true = false from hw) (by decide)⟩
        · exact yield_eqlB rfl ((frame_eval V (by decide)).trans d1) ((frame_eval V (by decide)).trans d3) hS
      · obtain rfl : _ = o := Option.some.inj ((show _ = some _ from rfl).symm.trans ho)
        have d4 : V 34 = .bool true := hd ⟨4, .data⟩ (by simp) rfl
        refine ⟨fun _ => ?_, fun hw => absurd (show true = false from hw) (by decide)⟩
        · exact yield_copy (.inl rfl) ((frame_eval V (by decide)).trans d4) hS
      · obtain rfl : _ = o := Option.some.inj ((show _ = some _ from rfl).symm.trans ho)
        have gd : V 35 = .bool true := hd ⟨5, .guard⟩ (by simp) rfl
        refine ⟨fun _ => ?_, fun hw => absurd ((wanted_of rfl rfl (by decide) gd).symm.trans hw) (by decide)⟩
        · exact yield_eaOk rfl hS
      · obtain rfl : _ = o := Option.some.inj ((show _ = some _ from rfl).symm.trans ho)
        have d5 : V 35 = .bool true := hd ⟨5, .data⟩ (by simp) rfl
        have d6 : V 36 = .bool true := hd ⟨6, .data⟩ (by simp) rfl
        refine ⟨fun _ => ?_, fun hw => absurd (show true = false from hw) (by decide)⟩
        · exact yield_pick rfl ((frame_eval V (by decide)).trans d5) ((frame_eval V (by decide)).trans d6) hS
      · obtain rfl : _ = o := Option.some.inj ((show _ = some _ from rfl).symm.trans ho)
        have d7 : V 37 = .bool true := hd ⟨7, .data⟩ (by simp) rfl
        refine ⟨fun _ => ?_, fun hw => absurd (show true = false from hw) (by decide)⟩
        · exact yield_copy (.inr rfl) ((frame_eval V (by decide)).trans d7) hS
    · intro V wx hS hV hall
      have dl : V 2 = .bool true := hall 8 (by decide)
      rw [frame_all (n := 83) (D := [30, 31, 32, 33, 34, 35, 36, 37, 2]) rfl rfl (by decide) hV]
      simp only [List.foldl_cons, List.foldl_nil, Act.put, List.setIfInBounds_toArray, List.set_cons_zero, List.set_cons_succ]
      rw [dl]
      have HE := Lib.hid (HBD.out.trans (hS.mono HBD.out.size))
      clear hall hV dl hS hrw hhw 
      go_wp2_with fail
      go_ret
      exact ⟨rfl, HE.out⟩
  by_cases h2h : 6 < 2 * H
  · clear CIK
    have hrw : RasAtB w3.drew (w1.heap.size) W H A1 l1.length c1 34 := HRb3.out.drew1
    have hhw : HasP w3.drew w3.drew.heap.size A1 l1 := HH3.out.drewN 1
    have HBD := Lib.hid (below_draws HB3.out 1)
    have HWW := Lib.hid (And.intro hrw hhw)
    clear hrw hhw
    go_wp2_with fail
    clear r0 r1 r2
    obtain ⟨hrw, hhw⟩ := HWW.out
    refine wp_region_kd 83 [30, 31, 32, 33, 34, 35, 36, 37, 2] [(30, .is (rasV W H A1 l1.length c1)), (31, .is (.bool (rasB W H l1))), (32, .is (rasV W H A1 l1.length c1)), (33, .is (.bool (rasB W H l1))), (34, .is (.bool true)), (35, .is (.bool true)), (36, .is (.bool true)), (37, .is (.bool true)), (2, .is (.bool true))] (Below w3.drew.heap.size w3.drew) (by kernel_rfl) (by kernel_rfl) rfl rfl (by decide) (by decide) rfl rfl (Below.refl _ _) ?_ ?_
    · intro i o V w ho hS hV hd
      have hi : i < 9 := (Array.getElem?_eq_some_iff.1 ho).1
      have hi2 : i = 0 ∨ i = 1 ∨ i = 2 ∨ i = 3 ∨ i = 4 ∨ i = 5 ∨ i = 6 ∨ i = 7 ∨ i = 8 := by omega
      clear hi
      rcases hi2 with rfl | rfl | rfl | rfl | rfl | rfl | rfl | rfl | rfl
      · obtain rfl : _ = o := Option.some.inj ((show _ = some _ from rfl).symm.trans ho)
        have x3 : V 3 = .pointer (some ⟨w1.heap.size, 0, none⟩) := (hV 3 (by simp)).trans rfl
        refine ⟨fun _ => ?_, fun hw => absurd (show true = false from hw) (by decide)⟩
        · exact yield_raw rfl ((frame_eval V (by decide)).trans x3) hrw hS
      · obtain rfl : _ = o := Option.some.inj ((show _ = some _ from rfl).symm.trans ho)
        have d0 : V 30 = rasV W H A1 l1.length c1 := hd ⟨0, .data⟩ (by simp) rfl
        refine ⟨fun _ => ?_, fun hw => absurd (show true = false from hw) (by decide)⟩
        · exact yield_okI rfl ((frame_eval V (by decide)).trans d0) (by omega) hhw hS
      · obtain rfl : _ = o := Option.some.inj ((show _ = some _ from rfl).symm.trans ho)
        have x3 : V 3 = .pointer (some ⟨w1.heap.size, 0, none⟩) := (hV 3 (by simp)).trans rfl
        refine ⟨fun _ => ?_, fun hw => absurd (show true = false from hw) (by decide)⟩
        · exact yield_raw rfl ((frame_eval V (by decide)).trans x3) hrw hS
      · obtain rfl : _ = o := Option.some.inj ((show _ = some _ from rfl).symm.trans ho)
        have d2 : V 32 = rasV W H A1 l1.length c1 := hd ⟨2, .data⟩ (by simp) rfl
        refine ⟨fun _ => ?_, fun hw => absurd (show true = false from hw) (by decide)⟩
        · exact yield_okS rfl ((frame_eval V (by decide)).trans d2) (by omega) hhw hS
      · obtain rfl : _ = o := Option.some.inj ((show _ = some _ from rfl).symm.trans ho)
        have d1 : V 31 = .bool (rasB W H l1) := hd ⟨1, .data⟩ (by simp) rfl
        have d3 : V 33 = .bool (rasB W H l1) := hd ⟨3, .data⟩ (by simp) rfl
        refine ⟨fun _ => ?_, fun hw => absurd (show true = false from hw) (by decide)⟩
        · exact yield_eqlB rfl ((frame_eval V (by decide)).trans d1) ((frame_eval V (by decide)).trans d3) hS
      · obtain rfl : _ = o := Option.some.inj ((show _ = some _ from rfl).symm.trans ho)
        have d4 : V 34 = .bool true := hd ⟨4, .data⟩ (by simp) rfl
        refine ⟨fun _ => ?_, fun hw => absurd (show true = false from hw) (by decide)⟩
        · exact yield_copy (.inl rfl) ((frame_eval V (by decide)).trans d4) hS
      · obtain rfl : _ = o := Option.some.inj ((show _ = some _ from rfl).symm.trans ho)
        have gd : V 35 = .bool true := hd ⟨5, .guard⟩ (by simp) rfl
        refine ⟨fun _ => ?_, fun hw => absurd ((wanted_of rfl rfl (by decide) gd).symm.trans hw) (by decide)⟩
        · exact yield_eaOk rfl hS
      · obtain rfl : _ = o := Option.some.inj ((show _ = some _ from rfl).symm.trans ho)
        have d5 : V 35 = .bool true := hd ⟨5, .data⟩ (by simp) rfl
        have d6 : V 36 = .bool true := hd ⟨6, .data⟩ (by simp) rfl
        refine ⟨fun _ => ?_, fun hw => absurd (show true = false from hw) (by decide)⟩
        · exact yield_pick rfl ((frame_eval V (by decide)).trans d5) ((frame_eval V (by decide)).trans d6) hS
      · obtain rfl : _ = o := Option.some.inj ((show _ = some _ from rfl).symm.trans ho)
        have d7 : V 37 = .bool true := hd ⟨7, .data⟩ (by simp) rfl
        refine ⟨fun _ => ?_, fun hw => absurd (show true = false from hw) (by decide)⟩
        · exact yield_copy (.inr rfl) ((frame_eval V (by decide)).trans d7) hS
    · intro V wx hS hV hall
      have dl : V 2 = .bool true := hall 8 (by decide)
      rw [frame_all (n := 83) (D := [30, 31, 32, 33, 34, 35, 36, 37, 2]) rfl rfl (by decide) hV]
      simp only [List.foldl_cons, List.foldl_nil, Act.put, List.setIfInBounds_toArray, List.set_cons_zero, List.set_cons_succ]
      rw [dl]
      have HE := Lib.hid (HBD.out.trans (hS.mono HBD.out.size))
      clear hall hV dl hS hrw hhw 
      go_wp2_with fail
      go_ret
      exact ⟨rfl, HE.out⟩
  have hok := HQ0.out
  clear HQ0 CIK r0 r1 r2
  obtain ⟨r, rfl, rfl, rfl⟩ : ∃ r : Ra, W = (r.w : Int) ∧ H = (r.h : Int) ∧ l1 = r.p := by
    exact ⟨⟨W.toNat, H.toNat, l1⟩, by simp only; omega, by simp only; omega, rfl⟩
  have hr : r.ok := hok
  obtain ⟨wu, hwu, hwu'⟩ : ∃ wu : Nat, 2 * (r.w : Int) = (wu : Int) ∧ 2 * r.w = wu := ⟨2 * r.w, by omega, rfl⟩
  obtain ⟨hu, hhu, hhu'⟩ : ∃ hu : Nat, 2 * (r.h : Int) = (hu : Int) ∧ 2 * r.h = hu := ⟨2 * r.h, by omega, rfl⟩
  have hwu6 : 1 ≤ wu ∧ wu ≤ 6 := by omega
  have hhu6 : 1 ≤ hu ∧ hu ≤ 6 := by omega
  have n1 : ¬ (6 < (wu : Int)) := by omega
  have n2 : ¬ (6 < (hu : Int)) := by omega
  have HWU := Lib.hid (And.intro hwu' hhu')
  have HWH := Lib.hid (And.intro hW hH)
  clear hok h2w h2h hwu' hhu' hW hH hl1
  have HRr3 := HRb3
  have HHr3 := HH3
  have HRT3 := HR3
  clear HRb3 HH3 HR3
  have rc0 := RasAtB.c0 HRr3.out
  have rc1 := RasAtB.c1 HRr3.out
  have rc2 := RasAtB.c2 HRr3.out
  have CE4 : Hid (Calls Tryd.prog 23 #[.agg #[.int .i64 (r.w : Int), .int .i64 (r.h : Int), .slice A1 r.p.length c1], .slice (some ⟨w3.heap.size, 0, none⟩) 1 1] (w3.alloc (.cells #[.int .i64 7, .int .i64 (wu : Int), .int .i64 (hu : Int), .int .i64 0, .int .i64 0] 25)) (EaDid (sizeR r wu hu) (w3.alloc (.cells #[.int .i64 7, .int .i64 (wu : Int), .int .i64 (hu : Int), .int .i64 0, .int .i64 0] 25)))) := Lib.hid (by
    have bbel : Below w3.heap.size w3 (w3.alloc (.cells #[.int .i64 7, .int .i64 (wu : Int), .int .i64 (hu : Int), .int .i64 0, .int .i64 0] 25)) := ((Below.refl w3.heap.size w3).alloc (Nat.le_refl _) _)
    have hlst : opE.Has (w3.alloc (.cells #[.int .i64 7, .int .i64 (wu : Int), .int .i64 (hu : Int), .int .i64 0, .int .i64 0] 25)) (w3.alloc (.cells #[.int .i64 7, .int .i64 (wu : Int), .int .i64 (hu : Int), .int .i64 0, .int .i64 0] 25)).heap.size (some ⟨w3.heap.size, 0, none⟩) [sO (wu : Int) (hu : Int)] := by
      have := El.Has.laid opE w3 [sO (wu : Int) (hu : Int)] 25
      exact this.wider (by simp)
    have := eaDo_any r A1 c1 (some ⟨w3.heap.size, 0, none⟩) 1 [sO (wu : Int) (hu : Int)] _ hr (can_s hwu6 hhu6 can_nil) (HRT3.out.next bbel) hc1 (HHr3.out.carry bbel (Nat.le_refl _) bbel.size) hlst (by simp)
    rw [ea_s hr _ hwu6 hhu6, eaR_nil] at this
    exact this)
  go_wp2_with fail
  refine CE4.out.mono ?_
  rintro e w4 ⟨v4, rfl, ⟨A4, c4, rfl, hc4, hh4⟩, b4⟩
  clear CE4
  clear rc0 rc1 rc2
  obtain ⟨u, hu⟩ : ∃ s, sizeR r wu hu = s := ⟨_, rfl⟩
  rw [hu] at hc4 hh4 ⊢
  have HEu := Lib.hid hu
  clear hu
  unfold raV rasV
  have bb4 : Below w3.heap.size w3 w4 := (((Below.refl w3.heap.size w3).alloc (Nat.le_refl _) (.cells #[.int .i64 7, .int .i64 (wu : Int), .int .i64 (hu : Int), .int .i64 0, .int .i64 0] 25))).trans (b4.mono (((Below.refl w3.heap.size w3).alloc (Nat.le_refl _) (.cells #[.int .i64 7, .int .i64 (wu : Int), .int .i64 (hu : Int), .int .i64 0, .int .i64 0] 25))).size)
  have bc4 : Below w3.heap.size w3 w4 := ((Below.refl w3.heap.size w3)).trans (bb4.mono ((Below.refl w3.heap.size w3)).size)
  have HRr4 : Hid (RasAtB w4 (w1.heap.size) r.w r.h A1 r.p.length c1 34) := Lib.hid (Box.below HRr3.out bc4 (RasAtB.lt HRr3.out))
  have HHr4 : Hid (HasP w4 w4.heap.size A1 r.p) := Lib.hid (HHr3.out.carry bc4 (Nat.le_refl _) bc4.size)
  have HB4 := Lib.hid (HB3.out.trans (bc4.mono HB3.out.size))
  have HRT4 : Hid (RangesIn w4) := Lib.hid (HRT3.out.next bc4)
  clear HRr3 HHr3 HB3 HRT3
  clear bb4 bc4
  have HHu4 : Hid (HasP w4 w4.heap.size A4 u.p) := Lib.hid hh4
  clear hh4 b4
  have HRu4 : Hid (RasAtB (w4.alloc (.cells #[.int .i64 (u.w : Int), .int .i64 (u.h : Int), .slice A4 u.p.length c4] 34)) (w4.heap.size) u.w u.h A4 u.p.length c4 34) := Lib.hid (Box.new w4 _ _)
  have HBN5 : Hid (Below w4.heap.size w4 (w4.alloc (.cells #[.int .i64 (u.w : Int), .int .i64 (u.h : Int), .slice A4 u.p.length c4] 34))) := Lib.hid ((Below.refl w4.heap.size w4).alloc (Nat.le_refl _) _)
  go_wp2_with fail
  generalize w4.alloc (.cells #[.int .i64 (u.w : Int), .int .i64 (u.h : Int), .slice A4 u.p.length c4] 34) = w5 at *
  have b5 := HBN5.out
  have HRu5 : Hid (RasAtB w5 (w4.heap.size) u.w u.h A4 u.p.length c4 34) := HRu4
  have HHu5 : Hid (HasP w5 w5.heap.size A4 u.p) := Lib.hid (HHu4.out.carry b5 (Nat.le_refl _) b5.size)
  have HRr5 : Hid (RasAtB w5 (w1.heap.size) r.w r.h A1 r.p.length c1 34) := Lib.hid (Box.below HRr4.out b5 (RasAtB.lt HRr4.out))
  have HHr5 : Hid (HasP w5 w5.heap.size A1 r.p) := Lib.hid (HHr4.out.carry b5 (Nat.le_refl _) b5.size)
  have HB5 := Lib.hid (HB4.out.trans (b5.mono HB4.out.size))
  have HRT5 : Hid (RangesIn w5) := Lib.hid (HRT4.out.next b5)
  clear HRr4 HHr4 HRu4 HHu4 HB4 HRT4
  clear b5 HBN5
  have hu0 : u.ok ∧ u.w = wu ∧ u.h = hu := by
    rw [← HEu.out]
    exact ⟨sizeR_ok hr hwu6 hhu6, rfl, rfl⟩
  have hu1 := (ra_len hu0.1).1
  have hu36 := (ra_len hu0.1).2
  have HU := Lib.hid hu0
  have HOK := Lib.hid hr
  clear hu0 hr hwu hhu n1 n2
  obtain ⟨b4, d4, rfl⟩ := HasP.some HHu5.out hu1
  go_loopw [6] (fun v wr => ∃ k : Nat, k ≤ u.p.length ∧ v = .int .i64 (k : Int) ∧ Below w5.heap.size w5 wr) (fun v _ => u.p.length - (intOf v).toNat)
  case atStart => exact ⟨0, Nat.zero_le _, rfl, Below.refl _ _⟩
  case round =>
    obtain ⟨k, hk, rfl, hbq⟩ := hrel
    have hRrq : RasAtB wr (w1.heap.size) r.w r.h A1 r.p.length c1 34 := Box.below HRr5.out hbq (RasAtB.lt HRr5.out)
    have hHrq : HasP wr wr.heap.size A1 r.p := HHr5.out.carry hbq (Nat.le_refl _) hbq.size
    have hRuq : RasAtB wr (w4.heap.size) u.w u.h (some ⟨b4, d4, none⟩) u.p.length c4 34 := Box.below HRu5.out hbq (RasAtB.lt HRu5.out)
    have hHuq : HasP wr wr.heap.size (some ⟨b4, d4, none⟩) u.p := HHu5.out.carry hbq (Nat.le_refl _) hbq.size
    have hRTq : RangesIn wr := HRT5.out.next hbq
    have x2 := RasAtB.c2 hRuq
    have HBQ := Lib.hid hbq
    clear hRrq hHrq hRuq hHuq hRTq
    by_cases hlt : k < u.p.length
    · obtain ⟨p, hp⟩ : ∃ p, u.p[k]? = some p := ⟨_, List.getElem?_eq_getElem hlt⟩
      obtain ⟨m1, hm1⟩ : ∃ m1, k % wu = m1 := ⟨_, rfl⟩
      obtain ⟨m2, hm2⟩ : ∃ m2, k / wu = m2 := ⟨_, rfl⟩
      obtain ⟨m3, hm3⟩ : ∃ m3, m1 / 2 = m3 := ⟨_, rfl⟩
      obtain ⟨m4, hm4⟩ : ∃ m4, m2 / 2 = m4 := ⟨_, rfl⟩
      obtain ⟨hi, hi1, hi2, hat⟩ := ok_get HU.out.1 hp
      rw [HU.out.2.1, hm1, hm2] at hat
      rw [HU.out.2.1, hm1] at hi1
      rw [HU.out.2.1, HU.out.2.2, hm2] at hi2
      have hm3r : m3 < r.w := by have := HWU.out.1; omega
      have hm4r : m4 < r.h := by have := HWU.out.2; omega
      have hpe : p = r.at m3 m4 := by
        rw [← hat, ← HEu.out]
        obtain ⟨e1, e2⟩ := HWU.out
        subst e1 e2
        rw [size_up_at HOK.out hi1 hi2, hm3, hm4]
      have hbd : Below w5.heap.size w5 wr.drew := below_draws hbq 1
      have hRrb : RasAtB wr.drew (w1.heap.size) r.w r.h A1 r.p.length c1 34 := Box.below HRr5.out hbd (RasAtB.lt HRr5.out)
      have hHrb : HasP wr.drew wr.drew.heap.size A1 r.p := HHr5.out.carry hbd (Nat.le_refl _) hbd.size
      have hRub : RasAtB wr.drew (w4.heap.size) u.w u.h (some ⟨b4, d4, none⟩) u.p.length c4 34 := Box.below HRu5.out hbd (RasAtB.lt HRu5.out)
      have hHub : HasP wr.drew wr.drew.heap.size (some ⟨b4, d4, none⟩) u.p := HHu5.out.carry hbd (Nat.le_refl _) hbd.size
      have hRTb : RangesIn wr.drew := HRT5.out.next hbd
      have hpx := HasP.px hHub hp
      have HAL := Lib.hid (And.intro hbd (And.intro hm1 (And.intro hm2 (And.intro hm3 (And.intro hm4 (And.intro hm3r (And.intro hm4r (And.intro hpe hpx))))))))
      clear hbq hbd hm1 hm2 hm3 hm4 hm3r hm4r hpe hpx hi hi1 hi2 hat hp
      have HFS := Lib.hid (And.intro hRrb ( And.intro hHrb ( And.intro hRub ( And.intro hHub (hRTb)))))
      clear hRrb hHrb hRub hHub hRTb
      go_wp2_with fail
      obtain ⟨hRrb, hHrb, hRub, hHub, hRTb⟩ := HFS.out
      clear HFS
      obtain ⟨hbd, hm1, hm2, hm3, hm4, hm3r, hm4r, hpe, hpx⟩ := HAL.out
      clear HAL x2
      have hRu1 : RasAtB wr.drew (w4.heap.size) (wu : Int) (hu : Int) (some ⟨b4, d4, none⟩) u.p.length c4 34 := by
        have := hRub
        rw [HU.out.2.1, HU.out.2.2] at this
        exact this
      have hk36 : k ≤ 36 := by omega
      have hm136 : m1 ≤ 36 := by rw [← hm1]; exact Nat.le_trans (Nat.mod_le _ _) hk36
      have hm236 : m2 ≤ 36 := by rw [← hm2]; exact Nat.le_trans (Nat.div_le_self _ _) hk36
      refine wp_region_kd 83 [55, 56, 57, 58, 59, 60, 61, 62, 63, 64, 65, 66, 67, 68, 69, 70, 71, 72] [(55, .is (.pointer (some ⟨w4.heap.size, 2, none⟩))), (56, .is (.slice (some ⟨b4, d4, none⟩) u.p.length c4)), (57, .is (.int .i64 (k : Int))), (58, .is (.pointer (some ⟨b4, d4 + k * 4, none⟩))), (59, .is (p.v)), (60, .ras r), (61, .is (.int .i64 (k : Int))), (62, .is (.pointer (some ⟨w4.heap.size, 0, none⟩))), (63, .is (.int .i64 (wu : Int))), (64, .is (.int .i64 (m1 : Int))), (65, .is (.int .i64 (m3 : Int))), (66, .is (.int .i64 (k : Int))), (67, .is (.pointer (some ⟨w4.heap.size, 0, none⟩))), (68, .is (.int .i64 (wu : Int))), (69, .is (.int .i64 (m2 : Int))), (70, .is (.int .i64 (m4 : Int))), (71, .is ((r.at m3 m4).v)), (72, .is (.bool false))] (Below wr.drew.heap.size wr.drew) (by kernel_rfl) (by kernel_rfl) rfl rfl (by decide) (by decide) rfl rfl (Below.refl _ _) ?_ ?_
      · intro i o V w ho hS hV hd
        have hi : i < 18 := (Array.getElem?_eq_some_iff.1 ho).1
        have hi2 : i = 0 ∨ i = 1 ∨ i = 2 ∨ i = 3 ∨ i = 4 ∨ i = 5 ∨ i = 6 ∨ i = 7 ∨ i = 8 ∨ i = 9 ∨ i = 10 ∨ i = 11 ∨ i = 12 ∨ i = 13 ∨ i = 14 ∨ i = 15 ∨ i = 16 ∨ i = 17 := by omega
        clear hi
        rcases hi2 with rfl | rfl | rfl | rfl | rfl | rfl | rfl | rfl | rfl | rfl | rfl | rfl | rfl | rfl | rfl | rfl | rfl | rfl
        · obtain rfl : _ = o := Option.some.inj ((show _ = some _ from rfl).symm.trans ho)
          have x5 : V 5 = .pointer (some ⟨w4.heap.size, 0, none⟩) := (hV 5 (by simp)).trans rfl
          refine ⟨fun _ => ?_, fun hw => absurd (show true = false from hw) (by decide)⟩
          · exact yield_fld rfl ((frame_eval V (by decide)).trans x5) (fun w => fld_ras _ 2 (by decide) w) hS
        · obtain rfl : _ = o := Option.some.inj ((show _ = some _ from rfl).symm.trans ho)
          have d0 : V 55 = .pointer (some ⟨w4.heap.size, 2, none⟩) := hd ⟨0, .data⟩ (by simp) rfl
          refine ⟨fun _ => ?_, fun hw => absurd (show true = false from hw) (by decide)⟩
          · exact yield_sl rfl ((frame_eval V (by decide)).trans d0) (RasAtB.c2 hRu1) (RasAtB.lt hRu1) hS
        · obtain rfl : _ = o := Option.some.inj ((show _ = some _ from rfl).symm.trans ho)
          have x6 : V 6 = .int .i64 (k : Int) := (hV 6 (by simp)).trans rfl
          refine ⟨fun _ => ?_, fun hw => absurd (show true = false from hw) (by decide)⟩
          · exact yield_copy (.inl rfl) ((frame_eval V (by decide)).trans x6) hS
        · obtain rfl : _ = o := Option.some.inj ((show _ = some _ from rfl).symm.trans ho)
          have d1 : V 56 = .slice (some ⟨b4, d4, none⟩) u.p.length c4 := hd ⟨1, .data⟩ (by simp) rfl
          have d2 : V 57 = .int .i64 (k : Int) := hd ⟨2, .data⟩ (by simp) rfl
          refine ⟨fun _ => ?_, fun hw => absurd (show true = false from hw) (by decide)⟩
          · exact yield_idx rfl ((frame_eval V (by decide)).trans d1) ((frame_eval V (by decide)).trans d2) hlt hS
        · obtain rfl : _ = o := Option.some.inj ((show _ = some _ from rfl).symm.trans ho)
          have d3 : V 58 = .pointer (some ⟨b4, d4 + k * 4, none⟩) := hd ⟨3, .data⟩ (by simp) rfl
          refine ⟨fun _ => ?_, fun hw => absurd (show true = false from hw) (by decide)⟩
          · exact yield_px rfl ((frame_eval V (by decide)).trans d3) hpx.2 hpx.1 hS
        · obtain rfl : _ = o := Option.some.inj ((show _ = some _ from rfl).symm.trans ho)
          have x3 : V 3 = .pointer (some ⟨w1.heap.size, 0, none⟩) := (hV 3 (by simp)).trans rfl
          refine ⟨fun _ => ?_, fun hw => absurd (show true = false from hw) (by decide)⟩
          · exact yield_ras rfl ((frame_eval V (by decide)).trans x3) hRrb hc1 hHrb hS
        · obtain rfl : _ = o := Option.some.inj ((show _ = some _ from rfl).symm.trans ho)
          have x6 : V 6 = .int .i64 (k : Int) := (hV 6 (by simp)).trans rfl
          refine ⟨fun _ => ?_, fun hw => absurd (show true = false from hw) (by decide)⟩
          · exact yield_copy (.inl rfl) ((frame_eval V (by decide)).trans x6) hS
        · obtain rfl : _ = o := Option.some.inj ((show _ = some _ from rfl).symm.trans ho)
          have x5 : V 5 = .pointer (some ⟨w4.heap.size, 0, none⟩) := (hV 5 (by simp)).trans rfl
          refine ⟨fun _ => ?_, fun hw => absurd (show true = false from hw) (by decide)⟩
          · exact yield_fld rfl ((frame_eval V (by decide)).trans x5) (fun w => fld_ras _ 0 (by decide) w) hS
        · obtain rfl : _ = o := Option.some.inj ((show _ = some _ from rfl).symm.trans ho)
          have d7 : V 62 = .pointer (some ⟨w4.heap.size, 0, none⟩) := hd ⟨7, .data⟩ (by simp) rfl
          refine ⟨fun _ => ?_, fun hw => absurd (show true = false from hw) (by decide)⟩
          · exact yield_cell rfl ((frame_eval V (by decide)).trans d7) (RasAtB.c0 hRu1) (RasAtB.lt hRu1) hS
        · obtain rfl : _ = o := Option.some.inj ((show _ = some _ from rfl).symm.trans ho)
          have d6 : V 61 = .int .i64 (k : Int) := hd ⟨6, .data⟩ (by simp) rfl
          have d8 : V 63 = .int .i64 (wu : Int) := hd ⟨8, .data⟩ (by simp) rfl
          refine ⟨fun _ => ?_, fun hw => absurd (show true = false from hw) (by decide)⟩
          · exact yield_rem rfl ((frame_eval V (by decide)).trans d6) ((frame_eval V (by decide)).trans d8) hm1 (by omega) (by omega) (by omega) hS
        · obtain rfl : _ = o := Option.some.inj ((show _ = some _ from rfl).symm.trans ho)
          have d9 : V 64 = .int .i64 (m1 : Int) := hd ⟨9, .data⟩ (by simp) rfl
          refine ⟨fun _ => ?_, fun hw => absurd (show true = false from hw) (by decide)⟩
          · exact yield_quo (n := 2) rfl ((frame_eval V (by decide)).trans d9) rfl hm3 (by omega) (by omega) (by omega) hS
        · obtain rfl : _ = o := Option.some.inj ((show _ = some _ from rfl).symm.trans ho)
          have x6 : V 6 = .int .i64 (k : Int) := (hV 6 (by simp)).trans rfl
          refine ⟨fun _ => ?_, fun hw => absurd (show true = false from hw) (by decide)⟩
          · exact yield_copy (.inl rfl) ((frame_eval V (by decide)).trans x6) hS
        · obtain rfl : _ = o := Option.some.inj ((show _ = some _ from rfl).symm.trans ho)
          have x5 : V 5 = .pointer (some ⟨w4.heap.size, 0, none⟩) := (hV 5 (by simp)).trans rfl
          refine ⟨fun _ => ?_, fun hw => absurd (show true = false from hw) (by decide)⟩
          · exact yield_fld rfl ((frame_eval V (by decide)).trans x5) (fun w => fld_ras _ 0 (by decide) w) hS
        · obtain rfl : _ = o := Option.some.inj ((show _ = some _ from rfl).symm.trans ho)
          have d12 : V 67 = .pointer (some ⟨w4.heap.size, 0, none⟩) := hd ⟨12, .data⟩ (by simp) rfl
          refine ⟨fun _ => ?_, fun hw => absurd (show true = false from hw) (by decide)⟩
          · exact yield_cell rfl ((frame_eval V (by decide)).trans d12) (RasAtB.c0 hRu1) (RasAtB.lt hRu1) hS
        · obtain rfl : _ = o := Option.some.inj ((show _ = some _ from rfl).symm.trans ho)
          have d11 : V 66 = .int .i64 (k : Int) := hd ⟨11, .data⟩ (by simp) rfl
          have d13 : V 68 = .int .i64 (wu : Int) := hd ⟨13, .data⟩ (by simp) rfl
          refine ⟨fun _ => ?_, fun hw => absurd (show true = false from hw) (by decide)⟩
          · exact yield_quo rfl ((frame_eval V (by decide)).trans d11) ((frame_eval V (by decide)).trans d13) hm2 (by omega) (by omega) (by omega) hS
        · obtain rfl : _ = o := Option.some.inj ((show _ = some _ from rfl).symm.trans ho)
          have d14 : V 69 = .int .i64 (m2 : Int) := hd ⟨14, .data⟩ (by simp) rfl
          refine ⟨fun _ => ?_, fun hw => absurd (show true = false from hw) (by decide)⟩
          · exact yield_quo (n := 2) rfl ((frame_eval V (by decide)).trans d14) rfl hm4 (by omega) (by omega) (by omega) hS
        · obtain rfl : _ = o := Option.some.inj ((show _ = some _ from rfl).symm.trans ho)
          have d5 : IsRa r w (V 60) := hd ⟨5, .data⟩ (by simp) rfl
          have d10 : V 65 = .int .i64 (m3 : Int) := hd ⟨10, .data⟩ (by simp) rfl
          have d15 : V 70 = .int .i64 (m4 : Int) := hd ⟨15, .data⟩ (by simp) rfl
          refine ⟨fun _ => ?_, fun hw => absurd (show true = false from hw) (by decide)⟩
          · exact yield_rasAt rfl (frame_eval V (by decide)) ((frame_eval V (by decide)).trans d10) ((frame_eval V (by decide)).trans d15) d5 HOK.out hm3r hm4r hS
        · obtain rfl : _ = o := Option.some.inj ((show _ = some _ from rfl).symm.trans ho)
          have d4 : V 59 = p.v := hd ⟨4, .data⟩ (by simp) rfl
          have d16 : V 71 = (r.at m3 m4).v := hd ⟨16, .data⟩ (by simp) rfl
          refine ⟨fun _ => ?_, fun hw => absurd (show true = false from hw) (by decide)⟩
          · exact yield_neqPix rfl ((frame_eval V (by decide)).trans d4) ((frame_eval V (by decide)).trans d16) hpe hS
      · intro V wx hS hV hall
        have dl : V 72 = .bool false := hall 17 (by decide)
        rw [frame_all (n := 83) (D := [55, 56, 57, 58, 59, 60, 61, 62, 63, 64, 65, 66, 67, 68, 69, 70, 71, 72]) rfl rfl (by decide) hV]
        simp only [List.foldl_cons, List.foldl_nil, Act.put, List.setIfInBounds_toArray, List.set_cons_zero, List.set_cons_succ]
        rw [dl]
        have HE := Lib.hid (hbd.trans (hS.mono hbd.size))
        clear hall hV dl hS hRrb hHrb hRub hHub hRTb hbd hm1 hm2 hm3 hm4 hm3r hm4r hpe hpx hRu1 hk36 hm136 hm236 HBQ
        go_wp2_with fail
        go_roundw
        case rel => exact ⟨k + 1, by omega, by go_num, HE.out⟩
        case measure => simp [intOf]; omega
    · obtain rfl : k = u.p.length := by omega
      clear hbq
      have hWW := HWH.out
      have hback : canAll u [sO (r.w : Int) (r.h : Int)] ∧ eaR u [sO (r.w : Int) (r.h : Int)] = r := by
        have e1 : 1 ≤ r.w ∧ r.w ≤ 6 := by omega
        have e2 : 1 ≤ r.h ∧ r.h ≤ 6 := by omega
        refine ⟨can_s e1 e2 can_nil, ?_⟩
        rw [ea_s HU.out.1 _ e1 e2, eaR_nil, ← HEu.out]
        obtain ⟨e3, e4⟩ := HWU.out
        subst e3 e4
        exact size_up_down HOK.out hwu6.2 hhu6.2
      have HBK := Lib.hid hback
      clear hback hWW
      have hbd : Below w5.heap.size w5 wr.drew := below_draws (HBQ.out) 1
      have hRrb : RasAtB wr.drew (w1.heap.size) r.w r.h A1 r.p.length c1 34 := Box.below HRr5.out hbd (RasAtB.lt HRr5.out)
      have hHrb : HasP wr.drew wr.drew.heap.size A1 r.p := HHr5.out.carry hbd (Nat.le_refl _) hbd.size
      have hRub : RasAtB wr.drew (w4.heap.size) u.w u.h (some ⟨b4, d4, none⟩) u.p.length c4 34 := Box.below HRu5.out hbd (RasAtB.lt HRu5.out)
      have hHub : HasP wr.drew wr.drew.heap.size (some ⟨b4, d4, none⟩) u.p := HHu5.out.carry hbd (Nat.le_refl _) hbd.size
      have hRTb : RangesIn wr.drew := HRT5.out.next hbd
      have HBD := Lib.hid hbd
      clear hbd
      have HFS := Lib.hid (And.intro hRrb ( And.intro hHrb ( And.intro hRub ( And.intro hHub (hRTb)))))
      clear hRrb hHrb hRub hHub hRTb
      go_wp2_with fail
      obtain ⟨hRrb, hHrb, hRub, hHub, hRTb⟩ := HFS.out
      clear HFS
      refine wp_region_kd 83 [73, 74, 75, 76, 77, 78, 79, 80, 81, 82, 2] [(73, .ras u), (74, .is (.pointer (some ⟨w1.heap.size, 0, none⟩))), (75, .is (.int .i64 (r.w : Int))), (76, .is (.pointer (some ⟨w1.heap.size, 1, none⟩))), (77, .is (.int .i64 (r.h : Int))), (78, .is ((sO (r.w : Int) (r.h : Int)).v)), (79, .ops [(sO (r.w : Int) (r.h : Int))]), (80, .ras (eaR u [(sO (r.w : Int) (r.h : Int))])), (81, .ras r), (82, .is (.bool true)), (2, .is (.bool true))] (Below wr.drew.heap.size wr.drew) (by kernel_rfl) (by kernel_rfl) rfl rfl (by decide) (by decide) rfl rfl (Below.refl _ _) ?_ ?_
      · intro i o V w ho hS hV hd
        have hi : i < 11 := (Array.getElem?_eq_some_iff.1 ho).1
        have hi2 : i = 0 ∨ i = 1 ∨ i = 2 ∨ i = 3 ∨ i = 4 ∨ i = 5 ∨ i = 6 ∨ i = 7 ∨ i = 8 ∨ i = 9 ∨ i = 10 := by omega
        clear hi
        rcases hi2 with rfl | rfl | rfl | rfl | rfl | rfl | rfl | rfl | rfl | rfl | rfl
        · obtain rfl : _ = o := Option.some.inj ((show _ = some _ from rfl).symm.trans ho)
          have x5 : V 5 = .pointer (some ⟨w4.heap.size, 0, none⟩) := (hV 5 (by simp)).trans rfl
          refine ⟨fun _ => ?_, fun hw => absurd (show true = false from hw) (by decide)⟩
          · exact yield_ras rfl ((frame_eval V (by decide)).trans x5) hRub hc4 hHub hS
        · obtain rfl : _ = o := Option.some.inj ((show _ = some _ from rfl).symm.trans ho)
          have x3 : V 3 = .pointer (some ⟨w1.heap.size, 0, none⟩) := (hV 3 (by simp)).trans rfl
          refine ⟨fun _ => ?_, fun hw => absurd (show true = false from hw) (by decide)⟩
          · exact yield_fld rfl ((frame_eval V (by decide)).trans x3) (fun w => fld_ras _ 0 (by decide) w) hS
        · obtain rfl : _ = o := Option.some.inj ((show _ = some _ from rfl).symm.trans ho)
          have d1 : V 74 = .pointer (some ⟨w1.heap.size, 0, none⟩) := hd ⟨1, .data⟩ (by simp) rfl
          refine ⟨fun _ => ?_, fun hw => absurd (show true = false from hw) (by decide)⟩
          · exact yield_cell rfl ((frame_eval V (by decide)).trans d1) (RasAtB.c0 hRrb) (RasAtB.lt hRrb) hS
        · obtain rfl : _ = o := Option.some.inj ((show _ = some _ from rfl).symm.trans ho)
          have x3 : V 3 = .pointer (some ⟨w1.heap.size, 0, none⟩) := (hV 3 (by simp)).trans rfl
          refine ⟨fun _ => ?_, fun hw => absurd (show true = false from hw) (by decide)⟩
          · exact yield_fld rfl ((frame_eval V (by decide)).trans x3) (fun w => fld_ras _ 1 (by decide) w) hS
        · obtain rfl : _ = o := Option.some.inj ((show _ = some _ from rfl).symm.trans ho)
          have d3 : V 76 = .pointer (some ⟨w1.heap.size, 1, none⟩) := hd ⟨3, .data⟩ (by simp) rfl
          refine ⟨fun _ => ?_, fun hw => absurd (show true = false from hw) (by decide)⟩
          · exact yield_cell rfl ((frame_eval V (by decide)).trans d3) (RasAtB.c1 hRrb) (RasAtB.lt hRrb) hS
        · obtain rfl : _ = o := Option.some.inj ((show _ = some _ from rfl).symm.trans ho)
          have d2 : V 75 = .int .i64 (r.w : Int) := hd ⟨2, .data⟩ (by simp) rfl
          have d4 : V 77 = .int .i64 (r.h : Int) := hd ⟨4, .data⟩ (by simp) rfl
          refine ⟨fun _ => ?_, fun hw => absurd (show true = false from hw) (by decide)⟩
          · exact yield_build rfl (by simp [frame_eval V (show 75 < 83 by decide), d2, frame_eval V (show 77 < 83 by decide), d4]; rfl) (fun w => run_build_ab 7 (r.w : Int) (r.h : Int) w) hS
        · obtain rfl : _ = o := Option.some.inj ((show _ = some _ from rfl).symm.trans ho)
          have d5 : V 78 = (sO (r.w : Int) (r.h : Int)).v := hd ⟨5, .data⟩ (by simp) rfl
          refine ⟨fun _ => ?_, fun hw => absurd (show true = false from hw) (by decide)⟩
          · exact yield_ops1 rfl ((frame_eval V (by decide)).trans d5) hS
        · obtain rfl : _ = o := Option.some.inj ((show _ = some _ from rfl).symm.trans ho)
          have d0 : IsRa u w (V 73) := hd ⟨0, .data⟩ (by simp) rfl
          have d6 : IsOps [(sO (r.w : Int) (r.h : Int))] w (V 79) := hd ⟨6, .data⟩ (by simp) rfl
          refine ⟨fun _ => ?_, fun hw => absurd (show true = false from hw) (by decide)⟩
          · exact yield_eaDo rfl (frame_eval V (by decide)) (frame_eval V (by decide)) d0 d6 HU.out.1 HBK.out.1 (by simp) hRTb hS
        · obtain rfl : _ = o := Option.some.inj ((show _ = some _ from rfl).symm.trans ho)
          have x3 : V 3 = .pointer (some ⟨w1.heap.size, 0, none⟩) := (hV 3 (by simp)).trans rfl
          refine ⟨fun _ => ?_, fun hw => absurd (show true = false from hw) (by decide)⟩
          · exact yield_ras rfl ((frame_eval V (by decide)).trans x3) hRrb hc1 hHrb hS
        · obtain rfl : _ = o := Option.some.inj ((show _ = some _ from rfl).symm.trans ho)
          have d7 : IsRa (eaR u [(sO (r.w : Int) (r.h : Int))]) w (V 80) := hd ⟨7, .data⟩ (by simp) rfl
          have d8 : IsRa r w (V 81) := hd ⟨8, .data⟩ (by simp) rfl
          refine ⟨fun _ => ?_, fun hw => absurd (show true = false from hw) (by decide)⟩
          · exact yield_eaRas rfl (frame_eval V (by decide)) (frame_eval V (by decide)) d7 d8 (ea_ok HU.out.1 HBK.out.1) HBK.out.2 hS
        · obtain rfl : _ = o := Option.some.inj ((show _ = some _ from rfl).symm.trans ho)
          have d9 : V 82 = .bool true := hd ⟨9, .data⟩ (by simp) rfl
          refine ⟨fun _ => ?_, fun hw => absurd (show true = false from hw) (by decide)⟩
          · exact yield_copy (.inr rfl) ((frame_eval V (by decide)).trans d9) hS
      · intro V wx hS hV hall
        have dl : V 2 = .bool true := hall 10 (by decide)
        rw [frame_all (n := 83) (D := [73, 74, 75, 76, 77, 78, 79, 80, 81, 82, 2]) rfl rfl (by decide) hV]
        simp only [List.foldl_cons, List.foldl_nil, Act.put, List.setIfInBounds_toArray, List.set_cons_zero, List.set_cons_succ]
        rw [dl]
        have HE := Lib.hid (HB5.out.trans ((HBD.out.trans (hS.mono HBD.out.size)).mono HB5.out.size))
        clear hall hV dl hS hRrb hHrb hRub hHub hRTb HBQ x2
        go_wp2_with fail
        go_ret
        exact ⟨rfl, HE.out⟩
theorem fnOpSizeUp_walk (A : Option Addr) (c : Nat) (l : List UInt8) (w : World) (hR : RangesIn w) (h : Has w w.heap.size A l) (hc : l.length ≤ c) :
    Calls Tryd.prog 8 #[.slice A l.length c] w fun e w' => e = .returned (.bool true) ∧ Below w.heap.size w w' := by
  by_cases hbig : l.length ≤ 1048576
  · exact fnOpSizeUp_small A c l w hR h hc hbig
  · have hl0 : (1048576 : Int) < (l.length : Int) := by omega
    clear h hc hbig
    go_enter Tryd.func8, Tryd.ntmps8
    go_wp2_with fail
    go_ret
    exact ⟨rfl, Below.refl _ _⟩
end Go.Proofs.YthdggnfffebnlaaDoor
