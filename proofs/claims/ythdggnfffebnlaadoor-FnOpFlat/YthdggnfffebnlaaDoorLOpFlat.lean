/-
  The law FnOpFlat returns true for every list of bytes to draw from. Condition: the table of ranges reads as the program's text lays it.
-/
import Derived.Test.YthdggnfffebnlaaDoorRanL
import Derived.Lib.MinMax
import Derived.Test.YthdggnfffebnlaaDoorDrawOpA
import Derived.Test.YthdggnfffebnlaaDoorEaC
import Derived.Test.YthdggnfffebnlaaDoorRegL
import Derived.Test.YthdggnfffebnlaaDoorRasS
import Derived.Test.YthdggnfffebnlaaDoorRegM
import Derived.Test.YthdggnfffebnlaaDoorDrawPixOk
namespace Go.Proofs.YthdggnfffebnlaaDoor
set_option maxRecDepth 4000
open Go.RowKit

set_option maxHeartbeats 8000000 in
theorem fnOpFlat_small (A : Option Addr) (c : Nat) (l : List UInt8) (w : World) (hR : RangesIn w) (h : Has w w.heap.size A l) (hc : l.length ≤ c) (hs : l.length ≤ 1048576) :
    Calls Tryd.prog 13 #[.slice A l.length c] w fun e w' => e = .returned (.bool true) ∧ Below w.heap.size w w' := by
  have C1 := Lib.hid (drawOpDo_any A c l w (by omega) hc h)
  have CP : Hid (∀ u, Below w.heap.size w u → Calls Tryd.prog 26 #[.slice A l.length c] u (DrewX u)) := Lib.hid fun u hb => drawPixOk_any A c l u (by omega) hc (h.carry hb (Nat.le_refl _) hb.size)
  have HRW := Lib.hid hR
  have hl0 : ¬ ((1048576 : Int) < (l.length : Int)) := by omega
  clear h hs hc hR
  go_enter Tryd.func13, Tryd.ntmps13
  go_wp2_with fail
  refine C1.out.mono ?_
  rintro e w1 ⟨W, H, A1, c1, l1, q, rfl, hh1, hc1, hl1, B1⟩
  have CSK := Lib.hid fun u hh => specRasOk_any W H A1 c1 l1 u (by omega) hh
  unfold rasV at CSK ⊢
  unfold Op.v
  have b2 : Below w1.heap.size w1 ((w1.alloc (.cells #[.int .i64 W, .int .i64 H, .slice A1 l1.length c1] 34)).alloc (.cells #[.int .i64 q.k, .int .i64 q.a, .int .i64 q.b, .int .i64 q.c, .int .i64 q.d] 25)) := ((Below.refl _ w1).alloc (Nat.le_refl _) _).alloc (by simp) _
  have HRb2 : Hid (RasAtB ((w1.alloc (.cells #[.int .i64 W, .int .i64 H, .slice A1 l1.length c1] 34)).alloc (.cells #[.int .i64 q.k, .int .i64 q.a, .int .i64 q.b, .int .i64 q.c, .int .i64 q.d] 25)) w1.heap.size W H A1 l1.length c1 34) := Lib.hid (Box.alloc (Box.new w1 _ _) _)
  have HH2 := Lib.hid (hh1.carry b2 (Nat.le_refl _) b2.size)
  have HB2 := Lib.hid (B1.trans (b2.mono B1.size))
  have CP2 := Lib.hid (CP.out _ HB2.out)
  clear b2 hh1 B1 C1 CP
  go_wp2_with fail
  generalize ((w1.alloc (.cells #[.int .i64 W, .int .i64 H, .slice A1 l1.length c1] 34)).alloc (.cells #[.int .i64 q.k, .int .i64 q.a, .int .i64 q.b, .int .i64 q.c, .int .i64 q.d] 25)) = w2 at *
  refine CP2.out.mono ?_
  rintro e w3 ⟨p, rfl, b3⟩
  unfold Px.v
  have HRb3 := Lib.hid (HRb2.out.below b3 HRb2.out.lt)
  have HH3 := Lib.hid (HH2.out.carry b3 (Nat.le_refl _) b3.size)
  have HB3 := Lib.hid (HB2.out.trans (b3.mono HB2.out.size))
  have b4 : Below w3.heap.size w3 (w3.alloc (.cells #[.int .i64 p.r, .int .i64 p.g, .int .i64 p.b, .int .i64 p.a] 40)) := (Below.refl _ w3).alloc (Nat.le_refl _) _
  have HP4 : Hid (Box (w3.alloc (.cells #[.int .i64 p.r, .int .i64 p.g, .int .i64 p.b, .int .i64 p.a] 40)) w3.heap.size #[.int .i64 p.r, .int .i64 p.g, .int .i64 p.b, .int .i64 p.a] 40) := Lib.hid (Box.new w3 _ _)
  have HRb4 := Lib.hid (HRb3.out.below b4 HRb3.out.lt)
  have HH4 := Lib.hid (HH3.out.carry b4 (Nat.le_refl _) b4.size)
  have HB4 := Lib.hid (HB3.out.trans (b4.mono HB3.out.size))
  have r0 := HRb3.out.c0
  have r1 := HRb3.out.c1
  have r2 := HRb3.out.c2
  have rl := HRb3.out.lt
  clear b3 b4 CP2 HRb2 HH2 HB2 HRb3 HH3 HB3
  go_wp2_with fail
  clear r0 r1 r2 rl
  generalize (w3.alloc (.cells #[.int .i64 p.r, .int .i64 p.g, .int .i64 p.b, .int .i64 p.a] 40)) = w4 at *
  refine (CSK.out _ HH4.out).mono ?_
  rintro e w5 ⟨rfl, b5⟩
  have HRb5 := Lib.hid (HRb4.out.below b5 HRb4.out.lt)
  have HP5 := Lib.hid (Box.below HP4.out b5 (Box.lt HP4.out))
  have HH5 := Lib.hid (HH4.out.carry b5 (Nat.le_refl _) b5.size)
  have HB5 := Lib.hid (HB4.out.trans (b5.mono HB4.out.size))
  have HR5 := Lib.hid (HRW.out.below HB5.out HRW.out.1)
  clear b5 HRb4 HP4 HH4 HB4 CSK
  obtain ⟨q0, hq0⟩ : ∃ q0, rasB W H l1 = q0 := ⟨_, rfl⟩
  have HQ0 := Lib.hid hq0
  rw [hq0]
  clear hq0
  cases q0
  · have r0 := HRb5.out.c0
    have r1 := HRb5.out.c1
    have r2 := HRb5.out.c2
    have hrw : RasAtB w5.drew (w1.heap.size) W H A1 l1.length c1 34 := HRb5.out.drew1
    have hhw : HasP w5.drew w5.drew.heap.size A1 l1 := HH5.out.drewN 1
    have HBD := Lib.hid (below_draws HB5.out 1)
    have HWW := Lib.hid (And.intro hrw hhw)
    clear hrw hhw
    go_wp2_with fail
    clear r0 r1 r2
    obtain ⟨hrw, hhw⟩ := HWW.out
    refine wp_region_kd 125 [29, 30, 31, 32, 33, 34, 35, 36, 2] [(29, .is (rasV W H A1 l1.length c1)), (30, .is (.bool (rasB W H l1))), (31, .is (rasV W H A1 l1.length c1)), (32, .is (.bool (rasB W H l1))), (33, .is (.bool true)), (34, .is (.bool true)), (35, .is (.bool true)), (36, .is (.bool true)), (2, .is (.bool true))] (Below w5.drew.heap.size w5.drew) (by kernel_rfl) (by kernel_rfl) rfl rfl (by decide) (by decide) rfl rfl (Below.refl _ _) ?_ ?_
    · intro i o V w ho hS hV hd
      have hi : i < 9 := (Array.getElem?_eq_some_iff.1 ho).1
      have hi2 : i = 0 ∨ i = 1 ∨ i = 2 ∨ i = 3 ∨ i = 4 ∨ i = 5 ∨ i = 6 ∨ i = 7 ∨ i = 8 := by omega
      clear hi
      rcases hi2 with rfl | rfl | rfl | rfl | rfl | rfl | rfl | rfl | rfl
      · obtain rfl : _ = o := Option.some.inj ((show _ = some _ from rfl).symm.trans ho)
        have x3 : V 3 = .pointer (some ⟨w1.heap.size, 0, none⟩) := (hV 3 (by simp)).trans rfl
        refine ⟨fun _ => ?_, fun hw => absurd (show true = false from hw) (by decide)⟩
        · exact yield_raw rfl ((frame_eval V (by decide)).trans x3) hrw hS
      · obtain rfl : _ = o := Option.some.inj ((show _ = some _ from rfl).symm.trans ho)
        have d0 : V 29 = rasV W H A1 l1.length c1 := hd ⟨0, .data⟩ (by simp) rfl
        refine ⟨fun _ => ?_, fun hw => absurd (show true = false from hw) (by decide)⟩
        · exact yield_okI rfl ((frame_eval V (by decide)).trans d0) (by omega) hhw hS
      · obtain rfl : _ = o := Option.some.inj ((show _ = some _ from rfl).symm.trans ho)
        have x3 : V 3 = .pointer (some ⟨w1.heap.size, 0, none⟩) := (hV 3 (by simp)).trans rfl
        refine ⟨fun _ => ?_, fun hw => absurd (show true = false from hw) (by decide)⟩
        · exact yield_raw rfl ((frame_eval V (by decide)).trans x3) hrw hS
      · obtain rfl : _ = o := Option.some.inj ((show _ = some _ from rfl).symm.trans ho)
        have d2 : V 31 = rasV W H A1 l1.length c1 := hd ⟨2, .data⟩ (by simp) rfl
        refine ⟨fun _ => ?_, fun hw => absurd (show true = false from hw) (by decide)⟩
        · exact yield_okS rfl ((frame_eval V (by decide)).trans d2) (by omega) hhw hS
      · obtain rfl : _ = o := Option.some.inj ((show _ = some _ from rfl).symm.trans ho)
        have d1 : V 30 = .bool (rasB W H l1) := hd ⟨1, .data⟩ (by simp) rfl
        have d3 : V 32 = .bool (rasB W H l1) := hd ⟨3, .data⟩ (by simp) rfl
        refine ⟨fun _ => ?_, fun hw => absurd (show true = false from hw) (by decide)⟩
        · exact yield_eqlB rfl ((frame_eval V (by decide)).trans d1) ((frame_eval V (by decide)).trans d3) hS
      · obtain rfl : _ = o := Option.some.inj ((show _ = some _ from rfl).symm.trans ho)
        have d4 : V 33 = .bool true := hd ⟨4, .data⟩ (by simp) rfl
        refine ⟨fun _ => ?_, fun hw => absurd (show true = false from hw) (by decide)⟩
        · exact yield_copy (.inl rfl) ((frame_eval V (by decide)).trans d4) hS
      · obtain rfl : _ = o := Option.some.inj ((show _ = some _ from rfl).symm.trans ho)
        have gd : V 34 = .bool true := hd ⟨5, .guard⟩ (by simp) rfl
        refine ⟨fun _ => ?_, fun hw => absurd ((wanted_of rfl rfl (by decide) gd).symm.trans hw) (by decide)⟩
        · exact yield_eaOk rfl hS
      · obtain rfl : _ = o := Option.some.inj ((show _ = some _ from rfl).symm.trans ho)
        have d5 : V 34 = .bool true := hd ⟨5, .data⟩ (by simp) rfl
        have d6 : V 35 = .bool true := hd ⟨6, .data⟩ (by simp) rfl
        refine ⟨fun _ => ?_, fun hw => absurd (show true = false from hw) (by decide)⟩
        · exact yield_pick rfl ((frame_eval V (by decide)).trans d5) ((frame_eval V (by decide)).trans d6) hS
      · obtain rfl : _ = o := Option.some.inj ((show _ = some _ from rfl).symm.trans ho)
        have d7 : V 36 = .bool true := hd ⟨7, .data⟩ (by simp) rfl
        refine ⟨fun _ => ?_, fun hw => absurd (show true = false from hw) (by decide)⟩
        · exact yield_copy (.inr rfl) ((frame_eval V (by decide)).trans d7) hS
    · intro V wx hS hV hall
      have dl : V 2 = .bool true := hall 8 (by decide)
      rw [frame_all (n := 125) (D := [29, 30, 31, 32, 33, 34, 35, 36, 2]) rfl rfl (by decide) hV]
      simp only [List.foldl_cons, List.foldl_nil, Act.put, List.setIfInBounds_toArray, List.set_cons_zero, List.set_cons_succ]
      rw [dl]
      have HE := Lib.hid (HBD.out.trans (hS.mono HBD.out.size))
      clear hall hV dl hS hrw hhw 
      go_wp2_with fail
      go_ret
      exact ⟨rfl, HE.out⟩
  have CPK := Lib.hid (specPixOk_any p w5)
  unfold Px.v at CPK
  have x0 := Box.cell HP5.out (i := 0) rfl
  have x1 := Box.cell HP5.out (i := 1) rfl
  have x2 := Box.cell HP5.out (i := 2) rfl
  have x3 := Box.cell HP5.out (i := 3) rfl
  go_wp2_with fail
  refine CPK.out.mono ?_
  rintro e w6 ⟨rfl, b6⟩
  have HRb6 := Lib.hid (HRb5.out.below b6 HRb5.out.lt)
  have HP6 := Lib.hid (Box.below HP5.out b6 (Box.lt HP5.out))
  have HH6 := Lib.hid (HH5.out.carry b6 (Nat.le_refl _) b6.size)
  have HB6 := Lib.hid (HB5.out.trans (b6.mono HB5.out.size))
  have HR6 := Lib.hid (HRW.out.below HB6.out HRW.out.1)
  clear b6 x0 x1 x2 x3 HRb5 HP5 HH5 HB5 HR5 CPK
  obtain ⟨q1, hq1⟩ : ∃ q1, pixB p = q1 := ⟨_, rfl⟩
  have HQ1 := Lib.hid hq1
  rw [hq1]
  clear hq1
  cases q1
  · have r0 := HRb6.out.c0
    have r1 := HRb6.out.c1
    have r2 := HRb6.out.c2
    have hrw : RasAtB w6.drew (w1.heap.size) W H A1 l1.length c1 34 := HRb6.out.drew1
    have hhw : HasP w6.drew w6.drew.heap.size A1 l1 := HH6.out.drewN 1
    have HBD := Lib.hid (below_draws HB6.out 1)
    have HWW := Lib.hid (And.intro hrw hhw)
    clear hrw hhw
    go_wp2_with fail
    clear r0 r1 r2
    obtain ⟨hrw, hhw⟩ := HWW.out
    refine wp_region_kd 125 [29, 30, 31, 32, 33, 34, 35, 36, 2] [(29, .is (rasV W H A1 l1.length c1)), (30, .is (.bool (rasB W H l1))), (31, .is (rasV W H A1 l1.length c1)), (32, .is (.bool (rasB W H l1))), (33, .is (.bool true)), (34, .is (.bool true)), (35, .is (.bool true)), (36, .is (.bool true)), (2, .is (.bool true))] (Below w6.drew.heap.size w6.drew) (by kernel_rfl) (by kernel_rfl) rfl rfl (by decide) (by decide) rfl rfl (Below.refl _ _) ?_ ?_
    · intro i o V w ho hS hV hd
      have hi : i < 9 := (Array.getElem?_eq_some_iff.1 ho).1
      have hi2 : i = 0 ∨ i = 1 ∨ i = 2 ∨ i = 3 ∨ i = 4 ∨ i = 5 ∨ i = 6 ∨ i = 7 ∨ i = 8 := by omega
      clear hi
      rcases hi2 with rfl | rfl | rfl | rfl | rfl | rfl | rfl | rfl | rfl
      · obtain rfl : _ = o := Option.some.inj ((show _ = some _ from rfl).symm.trans ho)
        have x3 : V 3 = .pointer (some ⟨w1.heap.size, 0, none⟩) := (hV 3 (by simp)).trans rfl
        refine ⟨fun _ => ?_, fun hw => absurd (show true = false from hw) (by decide)⟩
        · exact yield_raw rfl ((frame_eval V (by decide)).trans x3) hrw hS
      · obtain rfl : _ = o := Option.some.inj ((show _ = some _ from rfl).symm.trans ho)
        have d0 : V 29 = rasV W H A1 l1.length c1 := hd ⟨0, .data⟩ (by simp) rfl
        refine ⟨fun _ => ?_, fun hw => absurd (show true = false from hw) (by decide)⟩
        · exact yield_okI rfl ((frame_eval V (by decide)).trans d0) (by omega) hhw hS
      · obtain rfl : _ = o := Option.some.inj ((show _ = some _ from rfl).symm.trans ho)
        have x3 : V 3 = .pointer (some ⟨w1.heap.size, 0, none⟩) := (hV 3 (by simp)).trans rfl
        refine ⟨fun _ => ?_, fun hw => absurd (show true = false from hw) (by decide)⟩
        · exact yield_raw rfl ((frame_eval V (by decide)).trans x3) hrw hS
      · obtain rfl : _ = o := Option.some.inj ((show _ = some _ from rfl).symm.trans ho)
        have d2 : V 31 = rasV W H A1 l1.length c1 := hd ⟨2, .data⟩ (by simp) rfl
        refine ⟨fun _ => ?_, fun hw => absurd (show true = false from hw) (by decide)⟩
        · exact yield_okS rfl ((frame_eval V (by decide)).trans d2) (by omega) hhw hS
      · obtain rfl : _ = o := Option.some.inj ((show _ = some _ from rfl).symm.trans ho)
        have d1 : V 30 = .bool (rasB W H l1) := hd ⟨1, .data⟩ (by simp) rfl
        have d3 : V 32 = .bool (rasB W H l1) := hd ⟨3, .data⟩ (by simp) rfl
        refine ⟨fun _ => ?_, fun hw => absurd (show true = false from hw) (by decide)⟩
        · exact yield_eqlB rfl ((frame_eval V (by decide)).trans d1) ((frame_eval V (by decide)).trans d3) hS
      · obtain rfl : _ = o := Option.some.inj ((show _ = some _ from rfl).symm.trans ho)
        have d4 : V 33 = .bool true := hd ⟨4, .data⟩ (by simp) rfl
        refine ⟨fun _ => ?_, fun hw => absurd (show true = false from hw) (by decide)⟩
        · exact yield_copy (.inl rfl) ((frame_eval V (by decide)).trans d4) hS
      · obtain rfl : _ = o := Option.some.inj ((show _ = some _ from rfl).symm.trans ho)
        have gd : V 34 = .bool true := hd ⟨5, .guard⟩ (by simp) rfl
        refine ⟨fun _ => ?_, fun hw => absurd ((wanted_of rfl rfl (by decide) gd).symm.trans hw) (by decide)⟩
        · exact yield_eaOk rfl hS
      · obtain rfl : _ = o := Option.some.inj ((show _ = some _ from rfl).symm.trans ho)
        have d5 : V 34 = .bool true := hd ⟨5, .data⟩ (by simp) rfl
        have d6 : V 35 = .bool true := hd ⟨6, .data⟩ (by simp) rfl
        refine ⟨fun _ => ?_, fun hw => absurd (show true = false from hw) (by decide)⟩
        · exact yield_pick rfl ((frame_eval V (by decide)).trans d5) ((frame_eval V (by decide)).trans d6) hS
      · obtain rfl : _ = o := Option.some.inj ((show _ = some _ from rfl).symm.trans ho)
        have d7 : V 36 = .bool true := hd ⟨7, .data⟩ (by simp) rfl
        refine ⟨fun _ => ?_, fun hw => absurd (show true = false from hw) (by decide)⟩
        · exact yield_copy (.inr rfl) ((frame_eval V (by decide)).trans d7) hS
    · intro V wx hS hV hall
      have dl : V 2 = .bool true := hall 8 (by decide)
      rw [frame_all (n := 125) (D := [29, 30, 31, 32, 33, 34, 35, 36, 2]) rfl rfl (by decide) hV]
      simp only [List.foldl_cons, List.foldl_nil, Act.put, List.setIfInBounds_toArray, List.set_cons_zero, List.set_cons_succ]
      rw [dl]
      have HE := Lib.hid (HBD.out.trans (hS.mono HBD.out.size))
      clear hall hV dl hS hrw hhw 
      go_wp2_with fail
      go_ret
      exact ⟨rfl, HE.out⟩
  have hok := HQ0.out
  clear HQ0
  obtain ⟨r, rfl, rfl, rfl⟩ : ∃ r : Ra, W = (r.w : Int) ∧ H = (r.h : Int) ∧ l1 = r.p := by
    obtain ⟨hW, hH, -, -⟩ := rasB_parts hok
    exact ⟨⟨W.toNat, H.toNat, l1⟩, by simp only; omega, by simp only; omega, rfl⟩
  have hr : r.ok := hok
  have HRP := Lib.hid hr.parts
  clear hok hl1
  have HRr6 := HRb6
  have HHr6 := HH6
  have HRT6 := HR6
  clear HRb6 HH6 HR6
  have hpp := HQ1.out
  obtain ⟨hp1, hp2, hp3, hp4⟩ := pixB_parts hpp
  have x0 := Box.cell HP6.out (i := 0) rfl
  have x1 := Box.cell HP6.out (i := 1) rfl
  have x2 := Box.cell HP6.out (i := 2) rfl
  have xl := Box.lt HP6.out
  have HMp6 : Hid (Below w6.heap.size w6 w6) := Lib.hid (Below.refl _ _)
  have HOfl6 : Hid (OpAtB (w6.alloc (.cells #[.int .i64 8, .int .i64 p.r, .int .i64 p.g, .int .i64 p.b, .int .i64 0] 25)) (w6.heap.size) (fO p.r p.g p.b)) := Lib.hid (Box.new w6 _ _)
  have rc0 := RasAtB.c0 HRr6.out
  have rc1 := RasAtB.c1 HRr6.out
  have rc2 := RasAtB.c2 HRr6.out
  have rn0 : w1.heap.size < w6.heap.size := by have := RasAtB.lt HRr6.out; omega
  have CE7 : Hid (Calls Tryd.prog 23 #[.agg #[.int .i64 (r.w : Int), .int .i64 (r.h : Int), .slice A1 r.p.length c1], .slice (some ⟨w6.heap.size + 1, 0, none⟩) 1 1] ((w6.alloc (.cells #[.int .i64 8, .int .i64 p.r, .int .i64 p.g, .int .i64 p.b, .int .i64 0] 25)).alloc (.cells #[.int .i64 8, .int .i64 p.r, .int .i64 p.g, .int .i64 p.b, .int .i64 0] 25)) (EaDid (eachR (flatP1 (fO p.r p.g p.b)) r) ((w6.alloc (.cells #[.int .i64 8, .int .i64 p.r, .int .i64 p.g, .int .i64 p.b, .int .i64 0] 25)).alloc (.cells #[.int .i64 8, .int .i64 p.r, .int .i64 p.g, .int .i64 p.b, .int .i64 0] 25)))) := Lib.hid (by
    have bbel : Below w6.heap.size w6 ((w6.alloc (.cells #[.int .i64 8, .int .i64 p.r, .int .i64 p.g, .int .i64 p.b, .int .i64 0] 25)).alloc (.cells #[.int .i64 8, .int .i64 p.r, .int .i64 p.g, .int .i64 p.b, .int .i64 0] 25)) := (((Below.refl w6.heap.size w6).alloc (Nat.le_refl _) _).alloc (by simp) _)
    have hlst : opE.Has ((w6.alloc (.cells #[.int .i64 8, .int .i64 p.r, .int .i64 p.g, .int .i64 p.b, .int .i64 0] 25)).alloc (.cells #[.int .i64 8, .int .i64 p.r, .int .i64 p.g, .int .i64 p.b, .int .i64 0] 25)) ((w6.alloc (.cells #[.int .i64 8, .int .i64 p.r, .int .i64 p.g, .int .i64 p.b, .int .i64 0] 25)).alloc (.cells #[.int .i64 8, .int .i64 p.r, .int .i64 p.g, .int .i64 p.b, .int .i64 0] 25)).heap.size (some ⟨w6.heap.size + 1, 0, none⟩) [(fO p.r p.g p.b)] := by
      have := El.Has.laid opE (w6.alloc (.cells #[.int .i64 8, .int .i64 p.r, .int .i64 p.g, .int .i64 p.b, .int .i64 0] 25)) [(fO p.r p.g p.b)] 25
      rw [show (w6.alloc (.cells #[.int .i64 8, .int .i64 p.r, .int .i64 p.g, .int .i64 p.b, .int .i64 0] 25)).heap.size = w6.heap.size + 1 from by simp] at this
      exact this.wider (by simp)
    have := eaDo_any r A1 c1 (some ⟨w6.heap.size + 1, 0, none⟩) 1 [(fO p.r p.g p.b)] _ hr (can_f hp1 hp2 hp3 can_nil) (HRT6.out.next bbel) hc1 (HHr6.out.carry bbel (Nat.le_refl _) bbel.size) hlst (by simp)
    rw [ea_f hr _ hp1 hp2 hp3, eaR_nil] at this
    exact this)
  go_wp2_with fail
  refine CE7.out.mono ?_
  rintro e w7 ⟨v7, rfl, ⟨A7, c7, rfl, hc7, hh7⟩, b7⟩
  clear CE7
  clear rc0 rc1 rc2 rn0
  obtain ⟨x, hx⟩ : ∃ s, eachR (flatP1 (fO p.r p.g p.b)) r = s := ⟨_, rfl⟩
  rw [hx] at hc7 hh7 ⊢
  have HEx := Lib.hid hx
  clear hx
  unfold raV rasV
  have bb7 : Below (w6.alloc (.cells #[.int .i64 8, .int .i64 p.r, .int .i64 p.g, .int .i64 p.b, .int .i64 0] 25)).heap.size (w6.alloc (.cells #[.int .i64 8, .int .i64 p.r, .int .i64 p.g, .int .i64 p.b, .int .i64 0] 25)) w7 := (((Below.refl (w6.alloc (.cells #[.int .i64 8, .int .i64 p.r, .int .i64 p.g, .int .i64 p.b, .int .i64 0] 25)).heap.size (w6.alloc (.cells #[.int .i64 8, .int .i64 p.r, .int .i64 p.g, .int .i64 p.b, .int .i64 0] 25))).alloc (Nat.le_refl _) (.cells #[.int .i64 8, .int .i64 p.r, .int .i64 p.g, .int .i64 p.b, .int .i64 0] 25))).trans (b7.mono (((Below.refl (w6.alloc (.cells #[.int .i64 8, .int .i64 p.r, .int .i64 p.g, .int .i64 p.b, .int .i64 0] 25)).heap.size (w6.alloc (.cells #[.int .i64 8, .int .i64 p.r, .int .i64 p.g, .int .i64 p.b, .int .i64 0] 25))).alloc (Nat.le_refl _) (.cells #[.int .i64 8, .int .i64 p.r, .int .i64 p.g, .int .i64 p.b, .int .i64 0] 25))).size)
  have bc7 : Below w6.heap.size w6 w7 := (((Below.refl w6.heap.size w6).alloc (Nat.le_refl _) _)).trans (bb7.mono (((Below.refl w6.heap.size w6).alloc (Nat.le_refl _) _)).size)
  have HOfl7 : Hid (OpAtB w7 (w6.heap.size) (fO p.r p.g p.b)) := Lib.hid (Box.below HOfl6.out bb7 (Box.lt HOfl6.out))
  have HRr7 : Hid (RasAtB w7 (w1.heap.size) r.w r.h A1 r.p.length c1 34) := Lib.hid (Box.below HRr6.out bc7 (RasAtB.lt HRr6.out))
  have HHr7 : Hid (HasP w7 w7.heap.size A1 r.p) := Lib.hid (HHr6.out.carry bc7 (Nat.le_refl _) bc7.size)
  have HB7 := Lib.hid (HB6.out.trans (bc7.mono HB6.out.size))
  have HRT7 : Hid (RangesIn w7) := Lib.hid (HRT6.out.next bc7)
  have HMp7 := Lib.hid (HMp6.out.trans (bc7.mono HMp6.out.size))
  clear HRr6 HHr6 HOfl6 HB6 HRT6 HMp6
  clear bb7 bc7
  have HHx7 : Hid (HasP w7 w7.heap.size A7 x.p) := Lib.hid hh7
  clear hh7 b7
  have HRx7 : Hid (RasAtB (w7.alloc (.cells #[.int .i64 (x.w : Int), .int .i64 (x.h : Int), .slice A7 x.p.length c7] 34)) (w7.heap.size) x.w x.h A7 x.p.length c7 34) := Lib.hid (Box.new w7 _ _)
  clear x0 x1 x2 xl
  have HBN8 : Hid (Below w7.heap.size w7 (w7.alloc (.cells #[.int .i64 (x.w : Int), .int .i64 (x.h : Int), .slice A7 x.p.length c7] 34))) := Lib.hid ((Below.refl w7.heap.size w7).alloc (Nat.le_refl _) _)
  go_wp2_with fail
  generalize w7.alloc (.cells #[.int .i64 (x.w : Int), .int .i64 (x.h : Int), .slice A7 x.p.length c7] 34) = w8 at *
  have b8 := HBN8.out
  have HRx8 : Hid (RasAtB w8 (w7.heap.size) x.w x.h A7 x.p.length c7 34) := HRx7
  have HHx8 : Hid (HasP w8 w8.heap.size A7 x.p) := Lib.hid (HHx7.out.carry b8 (Nat.le_refl _) b8.size)
  have HRr8 : Hid (RasAtB w8 (w1.heap.size) r.w r.h A1 r.p.length c1 34) := Lib.hid (Box.below HRr7.out b8 (RasAtB.lt HRr7.out))
  have HHr8 : Hid (HasP w8 w8.heap.size A1 r.p) := Lib.hid (HHr7.out.carry b8 (Nat.le_refl _) b8.size)
  have HOfl8 : Hid (OpAtB w8 (w6.heap.size) (fO p.r p.g p.b)) := Lib.hid (Box.below HOfl7.out b8 (Box.lt HOfl7.out))
  have HB8 := Lib.hid (HB7.out.trans (b8.mono HB7.out.size))
  have HRT8 : Hid (RangesIn w8) := Lib.hid (HRT7.out.next b8)
  have HMp8 := Lib.hid (HMp7.out.trans (b8.mono HMp7.out.size))
  clear HRr7 HHr7 HRx7 HHx7 HOfl7 HB7 HRT7 HMp7
  clear b8 HBN8
  have hx : x.ok := by
    rw [← HEx.out]
    exact eachR_ok hr fun _ h => flatP1_ok h hp1 hp2 hp3
  have hxx : eaR x [(fO p.r p.g p.b)] = x := by
    rw [ea_f hx _ hp1 hp2 hp3, eaR_nil, ← HEx.out]
    exact each_twice hr (fun _ h => flatP1_ok h hp1 hp2 hp3) (flatP1_twice _)
  have hcx : canAll x [(fO p.r p.g p.b)] := can_f hp1 hp2 hp3 can_nil
  have hlen : r.p.length = x.p.length := by
    rw [hr.parts.2.2.1, hx.parts.2.2.1, ← HEx.out]
    rfl
  have HLEN := Lib.hid hlen
  have HOK := Lib.hid hr
  have HX := Lib.hid hx
  have HXX := Lib.hid hxx
  have HCX := Lib.hid hcx
  have HPP := Lib.hid hpp
  have hr1 := (ra_len hr).1
  have hx36 := (ra_len hx).2
  clear hr hx hxx hcx hlen hpp hp1 hp2 hp3 hp4
  have hbd : Below w8.heap.size w8 w8.drew := below_draws (Below.refl _ _) 1
  have hRrb : RasAtB w8.drew (w1.heap.size) r.w r.h A1 r.p.length c1 34 := Box.below HRr8.out hbd (RasAtB.lt HRr8.out)
  have hHrb : HasP w8.drew w8.drew.heap.size A1 r.p := HHr8.out.carry hbd (Nat.le_refl _) hbd.size
  have hRxb : RasAtB w8.drew (w7.heap.size) x.w x.h A7 x.p.length c7 34 := Box.below HRx8.out hbd (RasAtB.lt HRx8.out)
  have hHxb : HasP w8.drew w8.drew.heap.size A7 x.p := HHx8.out.carry hbd (Nat.le_refl _) hbd.size
  have hOflb : OpAtB w8.drew (w6.heap.size) (fO p.r p.g p.b) := Box.below HOfl8.out hbd (Box.lt HOfl8.out)
  have hRTb : RangesIn w8.drew := HRT8.out.next hbd
  refine wp_region_kd 125 [48, 49, 50, 51, 52, 53, 54, 55, 56, 57, 58, 59] [(48, .ras x), (49, .is (.bool true)), (50, .is (.bool false)), (51, .is (.bool false)), (52, .ras x), (53, .is ((fO p.r p.g p.b).v)), (54, .ops [(fO p.r p.g p.b)]), (55, .ras (eaR x [(fO p.r p.g p.b)])), (56, .ras x), (57, .is (.bool true)), (58, .is (.bool false)), (59, .is (.bool false))] (Below w8.drew.heap.size w8.drew) (by kernel_rfl) (by kernel_rfl) rfl rfl (by decide) (by decide) rfl rfl (Below.refl _ _) ?_ ?_
  · intro i o V w ho hS hV hd
    have hi : i < 12 := (Array.getElem?_eq_some_iff.1 ho).1
    have hi2 : i = 0 ∨ i = 1 ∨ i = 2 ∨ i = 3 ∨ i = 4 ∨ i = 5 ∨ i = 6 ∨ i = 7 ∨ i = 8 ∨ i = 9 ∨ i = 10 ∨ i = 11 := by omega
    clear hi
    rcases hi2 with rfl | rfl | rfl | rfl | rfl | rfl | rfl | rfl | rfl | rfl | rfl | rfl
    · obtain rfl : _ = o := Option.some.inj ((show _ = some _ from rfl).symm.trans ho)
      have x7 : V 7 = .pointer (some ⟨w7.heap.size, 0, none⟩) := (hV 7 (by simp)).trans rfl
      refine ⟨fun _ => ?_, fun hw => absurd (show true = false from hw) (by decide)⟩
      · exact yield_ras rfl ((frame_eval V (by decide)).trans x7) hRxb hc7 hHxb hS
    · obtain rfl : _ = o := Option.some.inj ((show _ = some _ from rfl).symm.trans ho)
      have d0 : IsRa x w (V 48) := hd ⟨0, .data⟩ (by simp) rfl
      refine ⟨fun _ => ?_, fun hw => absurd (show true = false from hw) (by decide)⟩
      · exact yield_rasOk rfl (frame_eval V (by decide)) d0 HX.out hS
    · obtain rfl : _ = o := Option.some.inj ((show _ = some _ from rfl).symm.trans ho)
      have d1 : V 49 = .bool true := hd ⟨1, .data⟩ (by simp) rfl
      refine ⟨fun _ => ?_, fun hw => absurd (show true = false from hw) (by decide)⟩
      · exact yield_not rfl ((frame_eval V (by decide)).trans d1) hS
    · obtain rfl : _ = o := Option.some.inj ((show _ = some _ from rfl).symm.trans ho)
      have d2 : V 50 = .bool false := hd ⟨2, .data⟩ (by simp) rfl
      refine ⟨fun _ => ?_, fun hw => absurd (show true = false from hw) (by decide)⟩
      · exact yield_copy (.inl rfl) ((frame_eval V (by decide)).trans d2) hS
    · obtain rfl : _ = o := Option.some.inj ((show _ = some _ from rfl).symm.trans ho)
      have x7 : V 7 = .pointer (some ⟨w7.heap.size, 0, none⟩) := (hV 7 (by simp)).trans rfl
      have gd : V 51 = .bool false := hd ⟨3, .guard⟩ (by simp) rfl
      refine ⟨fun _ => ?_, fun hw => absurd ((wanted_of rfl rfl (by decide) gd).symm.trans hw) (by decide)⟩
      · exact yield_ras rfl ((frame_eval V (by decide)).trans x7) hRxb hc7 hHxb hS
    · obtain rfl : _ = o := Option.some.inj ((show _ = some _ from rfl).symm.trans ho)
      have x6 : V 6 = .pointer (some ⟨w6.heap.size, 0, none⟩) := (hV 6 (by simp)).trans rfl
      have gd : V 51 = .bool false := hd ⟨3, .guard⟩ (by simp) rfl
      refine ⟨fun _ => ?_, fun hw => absurd ((wanted_of rfl rfl (by decide) gd).symm.trans hw) (by decide)⟩
      · exact yield_op rfl ((frame_eval V (by decide)).trans x6) hOflb hS
    · obtain rfl : _ = o := Option.some.inj ((show _ = some _ from rfl).symm.trans ho)
      have d5 : V 53 = (fO p.r p.g p.b).v := hd ⟨5, .data⟩ (by simp) rfl
      have gd : V 51 = .bool false := hd ⟨3, .guard⟩ (by simp) rfl
      refine ⟨fun _ => ?_, fun hw => absurd ((wanted_of rfl rfl (by decide) gd).symm.trans hw) (by decide)⟩
      · exact yield_ops1 rfl ((frame_eval V (by decide)).trans d5) hS
    · obtain rfl : _ = o := Option.some.inj ((show _ = some _ from rfl).symm.trans ho)
      have d4 : IsRa x w (V 52) := hd ⟨4, .data⟩ (by simp) rfl
      have d6 : IsOps [(fO p.r p.g p.b)] w (V 54) := hd ⟨6, .data⟩ (by simp) rfl
      have gd : V 51 = .bool false := hd ⟨3, .guard⟩ (by simp) rfl
      refine ⟨fun _ => ?_, fun hw => absurd ((wanted_of rfl rfl (by decide) gd).symm.trans hw) (by decide)⟩
      · exact yield_eaDo rfl (frame_eval V (by decide)) (frame_eval V (by decide)) d4 d6 HX.out HCX.out (by simp) hRTb hS
    · obtain rfl : _ = o := Option.some.inj ((show _ = some _ from rfl).symm.trans ho)
      have x7 : V 7 = .pointer (some ⟨w7.heap.size, 0, none⟩) := (hV 7 (by simp)).trans rfl
      have gd : V 51 = .bool false := hd ⟨3, .guard⟩ (by simp) rfl
      refine ⟨fun _ => ?_, fun hw => absurd ((wanted_of rfl rfl (by decide) gd).symm.trans hw) (by decide)⟩
      · exact yield_ras rfl ((frame_eval V (by decide)).trans x7) hRxb hc7 hHxb hS
    · obtain rfl : _ = o := Option.some.inj ((show _ = some _ from rfl).symm.trans ho)
      have d7 : IsRa (eaR x [(fO p.r p.g p.b)]) w (V 55) := hd ⟨7, .data⟩ (by simp) rfl
      have d8 : IsRa x w (V 56) := hd ⟨8, .data⟩ (by simp) rfl
      have gd : V 51 = .bool false := hd ⟨3, .guard⟩ (by simp) rfl
      refine ⟨fun _ => ?_, fun hw => absurd ((wanted_of rfl rfl (by decide) gd).symm.trans hw) (by decide)⟩
      · exact yield_eaRas rfl (frame_eval V (by decide)) (frame_eval V (by decide)) d7 d8 (ea_ok HX.out HCX.out) HXX.out hS
    · obtain rfl : _ = o := Option.some.inj ((show _ = some _ from rfl).symm.trans ho)
      have d9 : V 57 = .bool true := hd ⟨9, .data⟩ (by simp) rfl
      have gd : V 51 = .bool false := hd ⟨3, .guard⟩ (by simp) rfl
      refine ⟨fun _ => ?_, fun hw => absurd ((wanted_of rfl rfl (by decide) gd).symm.trans hw) (by decide)⟩
      · exact yield_not rfl ((frame_eval V (by decide)).trans d9) hS
    · obtain rfl : _ = o := Option.some.inj ((show _ = some _ from rfl).symm.trans ho)
      have d3 : V 51 = .bool false := hd ⟨3, .data⟩ (by simp) rfl
      have d10 : V 58 = .bool false := hd ⟨10, .data⟩ (by simp) rfl
      refine ⟨fun _ => ?_, fun hw => absurd (show true = false from hw) (by decide)⟩
      · exact yield_pickF rfl ((frame_eval V (by decide)).trans d3) ((frame_eval V (by decide)).trans d10) hS
  · intro V wx hS hV hall
    have dl : V 59 = .bool false := hall 11 (by decide)
    rw [frame_all (n := 125) (D := [48, 49, 50, 51, 52, 53, 54, 55, 56, 57, 58, 59]) rfl rfl (by decide) hV]
    simp only [List.foldl_cons, List.foldl_nil, Act.put, List.setIfInBounds_toArray, List.set_cons_zero, List.set_cons_succ]
    rw [dl]
    have hbx : Below w8.heap.size w8 wx := hbd.trans (hS.mono hbd.size)
    clear hall hV dl hS hRrb hHrb hRxb hHxb hOflb hRTb hbd
    go_wp2_with fail
    have HRr9 : Hid (RasAtB wx (w1.heap.size) r.w r.h A1 r.p.length c1 34) := Lib.hid (Box.below HRr8.out hbx (RasAtB.lt HRr8.out))
    have HHr9 : Hid (HasP wx wx.heap.size A1 r.p) := Lib.hid (HHr8.out.carry hbx (Nat.le_refl _) hbx.size)
    have HRx9 : Hid (RasAtB wx (w7.heap.size) x.w x.h A7 x.p.length c7 34) := Lib.hid (Box.below HRx8.out hbx (RasAtB.lt HRx8.out))
    have HHx9 : Hid (HasP wx wx.heap.size A7 x.p) := Lib.hid (HHx8.out.carry hbx (Nat.le_refl _) hbx.size)
    have HOfl9 : Hid (OpAtB wx (w6.heap.size) (fO p.r p.g p.b)) := Lib.hid (Box.below HOfl8.out hbx (Box.lt HOfl8.out))
    have HB9 := Lib.hid (HB8.out.trans (hbx.mono HB8.out.size))
    have HRT9 : Hid (RangesIn wx) := Lib.hid (HRT8.out.next hbx)
    have HMp9 := Lib.hid (HMp8.out.trans (hbx.mono HMp8.out.size))
    clear hbx
    obtain ⟨b1, d1, rfl⟩ := HasP.some HHr9.out hr1
    obtain ⟨b7, d7, rfl⟩ := HasP.some HHx9.out (by rw [← HLEN.out]; exact hr1)
    go_loopw [8] (fun v wr => ∃ k : Nat, k ≤ x.p.length ∧ v = .int .i64 (k : Int) ∧ Below wx.heap.size wx wr) (fun v _ => x.p.length - (intOf v).toNat)
    case atStart => exact ⟨0, Nat.zero_le _, rfl, Below.refl _ _⟩
    case round =>
      obtain ⟨k, hk, rfl, hbq⟩ := hrel
      have hRrq : RasAtB wr (w1.heap.size) r.w r.h (some ⟨b1, d1, none⟩) r.p.length c1 34 := Box.below HRr9.out hbq (RasAtB.lt HRr9.out)
      have hHrq : HasP wr wr.heap.size (some ⟨b1, d1, none⟩) r.p := HHr9.out.carry hbq (Nat.le_refl _) hbq.size
      have hRxq : RasAtB wr (w7.heap.size) x.w x.h (some ⟨b7, d7, none⟩) x.p.length c7 34 := Box.below HRx9.out hbq (RasAtB.lt HRx9.out)
      have hHxq : HasP wr wr.heap.size (some ⟨b7, d7, none⟩) x.p := HHx9.out.carry hbq (Nat.le_refl _) hbq.size
      have hOflq : OpAtB wr (w6.heap.size) (fO p.r p.g p.b) := Box.below HOfl9.out hbq (Box.lt HOfl9.out)
      have hRTq : RangesIn wr := HRT9.out.next hbq
      have x2 := RasAtB.c2 hRxq
      have HBQ := Lib.hid hbq
      by_cases hlt : k < x.p.length
      · obtain ⟨q, hq⟩ : ∃ q, r.p[k]? = some q := ⟨_, List.getElem?_eq_getElem (by rw [HLEN.out]; exact hlt)⟩
        have hp : x.p[k]? = some (flatP1 (fO p.r p.g p.b) q) := by rw [← HEx.out]; exact each_get HOK.out hq
        have hqok := HOK.out.parts.2.2.2 q (List.mem_of_getElem? hq)
        obtain ⟨y, hy⟩ : ∃ y, flatP1 (fO p.r p.g p.b) q = y := ⟨_, rfl⟩
        have hya : y.a = 255 := by rw [← hy]; rfl
        have hyr : min q.r p.r ≤ y.r ∧ y.r ≤ max q.r p.r := by
          rw [← hy]
          exact over_in (pixB_parts hqok).2.2.2
        have hqr := (pixB_parts hqok).1
        have hpr := (pixB_parts HPP.out).1
        have hmin : 0 ≤ min q.r p.r ∧ min q.r p.r ≤ 255 := by omega
        have u1 := IntWalk.i64_in (min q.r p.r - 1) (by omega)
        clear hqr hpr hmin
        have hn1 : ¬ (y.r < min q.r p.r - 1) := by omega
        have hn2 : ¬ (max q.r p.r < y.r) := by omega
        have hyf : q.a = 255 → y = q := fun e => by rw [← hy]; exact flatP1_full _ e
        have hy0 : q.a = 0 → y = ⟨p.r, p.g, p.b, 255⟩ := fun e => by rw [← hy]; exact flatP1_none _ e
        rw [hy] at hp
        obtain ⟨lx, uu0, uu1, uu2, uu3⟩ := HasP.px hHxq hp
        obtain ⟨lr, v0, v1, v2, v3⟩ := HasP.px hHrq hq
        have r2 := RasAtB.c2 hRrq
        have hPq : Box wr w3.heap.size #[.int .i64 p.r, .int .i64 p.g, .int .i64 p.b, .int .i64 p.a] 40 := Box.below HP6.out (HMp9.out.trans (hbq.mono HMp9.out.size)) (Box.lt HP6.out)
        have p0 := Box.cell hPq (i := 0) rfl
        have p1 := Box.cell hPq (i := 1) rfl
        have p2 := Box.cell hPq (i := 2) rfl
        have lp := Box.lt hPq
        have lg := RasAtB.lt hRrq
        have hkI : (0 : Int) ≤ (k : Int) ∧ (k : Int) < (x.p.length : Int) := by omega
        have hkr : (k : Int) < (r.p.length : Int) := by rw [HLEN.out]; omega
        have HBV : Hid (Below wr.heap.size wr ((wr.alloc (.cells #[.int .i64 y.r, .int .i64 y.g, .int .i64 y.b, .int .i64 y.a] 40)).alloc (.cells #[.int .i64 q.r, .int .i64 q.g, .int .i64 q.b, .int .i64 q.a] 40))) := Lib.hid (((Below.refl wr.heap.size wr).alloc (Nat.le_refl _) _).alloc (by simp) _)
        have hp0 : ∀ q', w3.heap.size < wr.heap.size + q' := fun q' => by omega
        have lp1 : w3.heap.size < wr.heap.size + 1 := by omega
        have lg1 : w1.heap.size < wr.heap.size + 1 := by omega
        rw [hya] at uu3 HBV
        clear hRrq hHrq hRxq hHxq hOflq hRTq hbq hp hq hy hPq hqok hp0
        clear hyr
        by_cases h1 : q.a = 255
        · obtain rfl := hyf h1
          rw [h1] at v3 HBV
          clear hyf hy0
          go_wp2_with fail
          have HE2 := Lib.hid (HBQ.out.trans (HBV.out.mono HBQ.out.size))
          go_roundw
          case rel => exact ⟨k + 1, by omega, by go_num, HE2.out⟩
          case measure => simp [intOf]; omega
        · by_cases h0 : q.a = 0
          · obtain rfl := hy0 h0
            rw [h0] at v3 HBV
            clear hyf hy0
            go_wp2_with fail
            have HE2 := Lib.hid (HBQ.out.trans (HBV.out.mono HBQ.out.size))
            go_roundw
            case rel => exact ⟨k + 1, by omega, by go_num, HE2.out⟩
            case measure => simp [intOf]; omega
          · clear hyf hy0
            go_wp2_with fail
            have HE2 := Lib.hid (HBQ.out.trans (HBV.out.mono HBQ.out.size))
            go_roundw
            case rel => exact ⟨k + 1, by omega, by go_num, HE2.out⟩
            case measure => simp [intOf]; omega
      · obtain rfl : k = x.p.length := by omega
        clear hRrq hHrq hRxq hHxq hOflq hRTq hbq
        have HE := Lib.hid (HB9.out.trans (HBQ.out.mono HB9.out.size))
        go_wp2_with fail
        go_ret
        exact ⟨rfl, HE.out⟩
theorem fnOpFlat_walk (A : Option Addr) (c : Nat) (l : List UInt8) (w : World) (hR : RangesIn w) (h : Has w w.heap.size A l) (hc : l.length ≤ c) :
    Calls Tryd.prog 13 #[.slice A l.length c] w fun e w' => e = .returned (.bool true) ∧ Below w.heap.size w w' := by
  by_cases hbig : l.length ≤ 1048576
  · exact fnOpFlat_small A c l w hR h hc hbig
  · have hl0 : (1048576 : Int) < (l.length : Int) := by omega
    clear h hc hbig
    go_enter Tryd.func13, Tryd.ntmps13
    go_wp2_with fail
    go_ret
    exact ⟨rfl, Below.refl _ _⟩
end Go.Proofs.YthdggnfffebnlaaDoor
