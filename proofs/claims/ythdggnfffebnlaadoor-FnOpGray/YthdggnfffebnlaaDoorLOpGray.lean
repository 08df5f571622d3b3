/-
  The law FnOpGray returns true for every list of bytes to draw from. Condition: the table of ranges reads as the program's text lays it.
-/
import Derived.Test.YthdggnfffebnlaaDoorRanL
import Derived.Lib.MinMax
import Derived.Test.YthdggnfffebnlaaDoorDrawOpA
import Derived.Test.YthdggnfffebnlaaDoorEaC
import Derived.Test.YthdggnfffebnlaaDoorRegL
import Derived.Test.YthdggnfffebnlaaDoorRasS
import Derived.Test.YthdggnfffebnlaaDoorRegM
namespace Go.Proofs.YthdggnfffebnlaaDoor
set_option maxRecDepth 4000
open Go.RowKit

set_option maxHeartbeats 8000000 in
theorem fnOpGray_small (A : Option Addr) (c : Nat) (l : List UInt8) (w : World) (hR : RangesIn w) (h : Has w w.heap.size A l) (hc : l.length ≤ c) (hs : l.length ≤ 1048576) :
    Calls Tryd.prog 7 #[.slice A l.length c] w fun e w' => e = .returned (.bool true) ∧ Below w.heap.size w w' := by
  have C1 := Lib.hid (drawOpDo_any A c l w (by omega) hc h)
  have HRW := Lib.hid hR
  have hl0 : ¬ ((1048576 : Int) < (l.length : Int)) := by omega
  clear h hs hc hR
  go_enter Tryd.func7, Tryd.ntmps7
  go_wp2_with fail
  refine C1.out.mono ?_
  rintro e w1 ⟨W, H, A1, c1, l1, q, rfl, hh1, hc1, hl1, B1⟩
  have CSK := Lib.hid fun u hh => specRasOk_any W H A1 c1 l1 u (by omega) hh
  have CIK := Lib.hid fun u hh => implRasOk_any W H A1 c1 l1 u (by omega) hh
  unfold rasV at CSK CIK ⊢
  unfold Op.v
  have b2 : Below w1.heap.size w1 ((((w1.alloc (.cells #[.int .i64 W, .int .i64 H, .slice A1 l1.length c1] 34)).alloc (.cells #[.int .i64 q.k, .int .i64 q.a, .int .i64 q.b, .int .i64 q.c, .int .i64 q.d] 25)).alloc (.cells #[.int .i64 5, .int .i64 0, .int .i64 0, .int .i64 0, .int .i64 0] 25)).alloc (.cells #[.int .i64 4, .int .i64 0, .int .i64 0, .int .i64 0, .int .i64 0] 25)) := ((((Below.refl _ w1).alloc (Nat.le_refl _) _).alloc (by simp) _).alloc (by simp; omega) _).alloc (by simp; omega) _
  have HRb2 : Hid (RasAtB ((((w1.alloc (.cells #[.int .i64 W, .int .i64 H, .slice A1 l1.length c1] 34)).alloc (.cells #[.int .i64 q.k, .int .i64 q.a, .int .i64 q.b, .int .i64 q.c, .int .i64 q.d] 25)).alloc (.cells #[.int .i64 5, .int .i64 0, .int .i64 0, .int .i64 0, .int .i64 0] 25)).alloc (.cells #[.int .i64 4, .int .i64 0, .int .i64 0, .int .i64 0, .int .i64 0] 25)) w1.heap.size W H A1 l1.length c1 34) := Lib.hid (Box.alloc (Box.alloc (Box.alloc (Box.new w1 _ _) _) _) _)
  have HOgO2 : Hid (OpAtB ((((w1.alloc (.cells #[.int .i64 W, .int .i64 H, .slice A1 l1.length c1] 34)).alloc (.cells #[.int .i64 q.k, .int .i64 q.a, .int .i64 q.b, .int .i64 q.c, .int .i64 q.d] 25)).alloc (.cells #[.int .i64 5, .int .i64 0, .int .i64 0, .int .i64 0, .int .i64 0] 25)).alloc (.cells #[.int .i64 4, .int .i64 0, .int .i64 0, .int .i64 0, .int .i64 0] 25)) (w1.heap.size + 1 + 1) gO) := Lib.hid (Box.alloc (by
      have := Box.new ((w1.alloc (.cells #[.int .i64 W, .int .i64 H, .slice A1 l1.length c1] 34)).alloc (.cells #[.int .i64 q.k, .int .i64 q.a, .int .i64 q.b, .int .i64 q.c, .int .i64 q.d] 25)) #[.int .i64 5, .int .i64 0, .int .i64 0, .int .i64 0, .int .i64 0] 25
      rw [show ((w1.alloc (.cells #[.int .i64 W, .int .i64 H, .slice A1 l1.length c1] 34)).alloc (.cells #[.int .i64 q.k, .int .i64 q.a, .int .i64 q.b, .int .i64 q.c, .int .i64 q.d] 25)).heap.size = w1.heap.size + 1 + 1 from by simp] at this
      exact this) _)
  have HOtO2 : Hid (OpAtB ((((w1.alloc (.cells #[.int .i64 W, .int .i64 H, .slice A1 l1.length c1] 34)).alloc (.cells #[.int .i64 q.k, .int .i64 q.a, .int .i64 q.b, .int .i64 q.c, .int .i64 q.d] 25)).alloc (.cells #[.int .i64 5, .int .i64 0, .int .i64 0, .int .i64 0, .int .i64 0] 25)).alloc (.cells #[.int .i64 4, .int .i64 0, .int .i64 0, .int .i64 0, .int .i64 0] 25)) (w1.heap.size + 1 + 1 + 1) tO) := Lib.hid (by
      have := Box.new (((w1.alloc (.cells #[.int .i64 W, .int .i64 H, .slice A1 l1.length c1] 34)).alloc (.cells #[.int .i64 q.k, .int .i64 q.a, .int .i64 q.b, .int .i64 q.c, .int .i64 q.d] 25)).alloc (.cells #[.int .i64 5, .int .i64 0, .int .i64 0, .int .i64 0, .int .i64 0] 25)) #[.int .i64 4, .int .i64 0, .int .i64 0, .int .i64 0, .int .i64 0] 25
      rw [show (((w1.alloc (.cells #[.int .i64 W, .int .i64 H, .slice A1 l1.length c1] 34)).alloc (.cells #[.int .i64 q.k, .int .i64 q.a, .int .i64 q.b, .int .i64 q.c, .int .i64 q.d] 25)).alloc (.cells #[.int .i64 5, .int .i64 0, .int .i64 0, .int .i64 0, .int .i64 0] 25)).heap.size = w1.heap.size + 1 + 1 + 1 from by simp] at this
      exact this)
  have HH2 := Lib.hid (hh1.carry b2 (Nat.le_refl _) b2.size)
  have HB2 := Lib.hid (B1.trans (b2.mono B1.size))
  clear b2 hh1 B1 C1
  go_wp2_with fail
  generalize ((((w1.alloc (.cells #[.int .i64 W, .int .i64 H, .slice A1 l1.length c1] 34)).alloc (.cells #[.int .i64 q.k, .int .i64 q.a, .int .i64 q.b, .int .i64 q.c, .int .i64 q.d] 25)).alloc (.cells #[.int .i64 5, .int .i64 0, .int .i64 0, .int .i64 0, .int .i64 0] 25)).alloc (.cells #[.int .i64 4, .int .i64 0, .int .i64 0, .int .i64 0, .int .i64 0] 25)) = w2 at *
  have r0 := HRb2.out.c0
  have r1 := HRb2.out.c1
  have r2 := HRb2.out.c2
  go_wp2_with fail
  refine (CSK.out _ HH2.out).mono ?_
  rintro e w3 ⟨rfl, b3⟩
  have HRb3 := Lib.hid (HRb2.out.below b3 HRb2.out.lt)
  have HOgO3 : Hid (OpAtB w3 (w1.heap.size + 1 + 1) gO) := Lib.hid (Box.below HOgO2.out b3 (Box.lt HOgO2.out))
  have HOtO3 : Hid (OpAtB w3 (w1.heap.size + 1 + 1 + 1) tO) := Lib.hid (Box.below HOtO2.out b3 (Box.lt HOtO2.out))
  have HH3 := Lib.hid (HH2.out.carry b3 (Nat.le_refl _) b3.size)
  have HB3 := Lib.hid (HB2.out.trans (b3.mono HB2.out.size))
  have HR3 := Lib.hid (HRW.out.below HB3.out HRW.out.1)
  clear b3 r0 r1 r2 HRb2 HOgO2 HOtO2 HH2 HB2 CSK
  cases hok : rasB W H l1
  · have CK := Lib.hid (CIK.out w3 HH3.out)
    rw [hok] at CK
    have r0 := HRb3.out.c0
    have r1 := HRb3.out.c1
    have r2 := HRb3.out.c2
    clear hok
    go_wp2_with fail
    refine CK.out.mono ?_
    rintro e w4 ⟨rfl, b4⟩
    have HB4 := Lib.hid (HB3.out.trans (b4.mono HB3.out.size))
    clear b4
    go_wp2_with fail
    refine (eaOk_any _).mono ?_
    rintro e w5 ⟨rfl, b5⟩
    have HB5 := Lib.hid (HB4.out.trans (b5.mono HB4.out.size))
    clear b5
    go_wp2_with fail
    go_ret
    exact ⟨rfl, HB5.out⟩
  obtain ⟨r, rfl, rfl, rfl⟩ : ∃ r : Ra, W = (r.w : Int) ∧ H = (r.h : Int) ∧ l1 = r.p := by
    obtain ⟨hW, hH, -, -⟩ := rasB_parts hok
    exact ⟨⟨W.toNat, H.toNat, l1⟩, by simp only; omega, by simp only; omega, rfl⟩
  have hr : r.ok := hok
  have HRP := Lib.hid hr.parts
  clear hok CIK hl1
  have HRr3 := HRb3
  have HHr3 := HH3
  have HRT3 := HR3
  clear HRb3 HH3 HR3
  have rc0 := RasAtB.c0 HRr3.out
  have rc1 := RasAtB.c1 HRr3.out
  have rc2 := RasAtB.c2 HRr3.out
  obtain ⟨gOe0, gOe1, gOe2, gOe3, gOe4⟩ := OpAtB.cs HOgO3.out
  have CE4 : Hid (Calls Tryd.prog 23 #[.agg #[.int .i64 (r.w : Int), .int .i64 (r.h : Int), .slice A1 r.p.length c1], .slice (some ⟨w3.heap.size, 0, none⟩) 1 1] (w3.alloc (.cells #[.int .i64 gO.k, .int .i64 gO.a, .int .i64 gO.b, .int .i64 gO.c, .int .i64 gO.d] 25)) (EaDid (eachR grayP r) (w3.alloc (.cells #[.int .i64 gO.k, .int .i64 gO.a, .int .i64 gO.b, .int .i64 gO.c, .int .i64 gO.d] 25)))) := Lib.hid (by
    have bbel : Below w3.heap.size w3 (w3.alloc (.cells #[.int .i64 gO.k, .int .i64 gO.a, .int .i64 gO.b, .int .i64 gO.c, .int .i64 gO.d] 25)) := ((Below.refl w3.heap.size w3).alloc (Nat.le_refl _) _)
    have hlst : opE.Has (w3.alloc (.cells #[.int .i64 gO.k, .int .i64 gO.a, .int .i64 gO.b, .int .i64 gO.c, .int .i64 gO.d] 25)) (w3.alloc (.cells #[.int .i64 gO.k, .int .i64 gO.a, .int .i64 gO.b, .int .i64 gO.c, .int .i64 gO.d] 25)).heap.size (some ⟨w3.heap.size, 0, none⟩) [gO] := by
      have := El.Has.laid opE w3 [gO] 25
      exact this.wider (by simp)
    have := eaDo_any r A1 c1 (some ⟨w3.heap.size, 0, none⟩) 1 [gO] _ hr (can_g can_nil) (HRT3.out.next bbel) hc1 (HHr3.out.carry bbel (Nat.le_refl _) bbel.size) hlst (by simp)
    rw [ea_g hr, eaR_nil] at this
    exact this)
  go_wp2_with fail
  refine CE4.out.mono ?_
  rintro e w4 ⟨v4, rfl, ⟨A4, c4, rfl, hc4, hh4⟩, b4⟩
  clear CE4
  clear rc0 rc1 rc2 gOe0 gOe1 gOe2 gOe3 gOe4
  obtain ⟨x, hx⟩ : ∃ s, eachR grayP r = s := ⟨_, rfl⟩
  rw [hx] at hc4 hh4 ⊢
  have HEx := Lib.hid hx
  clear hx
  unfold raV rasV
  have bb4 : Below w3.heap.size w3 w4 := (((Below.refl w3.heap.size w3).alloc (Nat.le_refl _) (.cells #[.int .i64 gO.k, .int .i64 gO.a, .int .i64 gO.b, .int .i64 gO.c, .int .i64 gO.d] 25))).trans (b4.mono (((Below.refl w3.heap.size w3).alloc (Nat.le_refl _) (.cells #[.int .i64 gO.k, .int .i64 gO.a, .int .i64 gO.b, .int .i64 gO.c, .int .i64 gO.d] 25))).size)
  have bc4 : Below w3.heap.size w3 w4 := ((Below.refl w3.heap.size w3)).trans (bb4.mono ((Below.refl w3.heap.size w3)).size)
  have HRr4 : Hid (RasAtB w4 (w1.heap.size) r.w r.h A1 r.p.length c1 34) := Lib.hid (Box.below HRr3.out bc4 (RasAtB.lt HRr3.out))
  have HHr4 : Hid (HasP w4 w4.heap.size A1 r.p) := Lib.hid (HHr3.out.carry bc4 (Nat.le_refl _) bc4.size)
  have HOgO4 : Hid (OpAtB w4 (w1.heap.size + 1 + 1) gO) := Lib.hid (Box.below HOgO3.out bc4 (Box.lt HOgO3.out))
  have HOtO4 : Hid (OpAtB w4 (w1.heap.size + 1 + 1 + 1) tO) := Lib.hid (Box.below HOtO3.out bc4 (Box.lt HOtO3.out))
  have HB4 := Lib.hid (HB3.out.trans (bc4.mono HB3.out.size))
  have HRT4 : Hid (RangesIn w4) := Lib.hid (HRT3.out.next bc4)
  clear HRr3 HHr3 HOgO3 HOtO3 HB3 HRT3
  clear bb4 bc4
  have HHx4 : Hid (HasP w4 w4.heap.size A4 x.p) := Lib.hid hh4
  clear hh4 b4
  have HRx4 : Hid (RasAtB (w4.alloc (.cells #[.int .i64 (x.w : Int), .int .i64 (x.h : Int), .slice A4 x.p.length c4] 34)) (w4.heap.size) x.w x.h A4 x.p.length c4 34) := Lib.hid (Box.new w4 _ _)
  have hxo : x.ok := by rw [← HEx.out]; exact eachR_ok hr fun _ h => grayP_ok h
  obtain ⟨gOe0, gOe1, gOe2, gOe3, gOe4⟩ := OpAtB.cs HOgO4.out
  have gOn0 : w1.heap.size + 1 + 1 < w4.heap.size := by have := Box.lt HOgO4.out; omega
  have CE5 : Hid (Calls Tryd.prog 23 #[.agg #[.int .i64 (x.w : Int), .int .i64 (x.h : Int), .slice A4 x.p.length c4], .slice (some ⟨w4.heap.size + 1, 0, none⟩) 1 1] ((w4.alloc (.cells #[.int .i64 (x.w : Int), .int .i64 (x.h : Int), .slice A4 x.p.length c4] 34)).alloc (.cells #[.int .i64 gO.k, .int .i64 gO.a, .int .i64 gO.b, .int .i64 gO.c, .int .i64 gO.d] 25)) (EaDid (eachR grayP x) ((w4.alloc (.cells #[.int .i64 (x.w : Int), .int .i64 (x.h : Int), .slice A4 x.p.length c4] 34)).alloc (.cells #[.int .i64 gO.k, .int .i64 gO.a, .int .i64 gO.b, .int .i64 gO.c, .int .i64 gO.d] 25)))) := Lib.hid (by
    have bbel : Below w4.heap.size w4 ((w4.alloc (.cells #[.int .i64 (x.w : Int), .int .i64 (x.h : Int), .slice A4 x.p.length c4] 34)).alloc (.cells #[.int .i64 gO.k, .int .i64 gO.a, .int .i64 gO.b, .int .i64 gO.c, .int .i64 gO.d] 25)) := (((Below.refl w4.heap.size w4).alloc (Nat.le_refl _) _).alloc (by simp) _)
    have hlst : opE.Has ((w4.alloc (.cells #[.int .i64 (x.w : Int), .int .i64 (x.h : Int), .slice A4 x.p.length c4] 34)).alloc (.cells #[.int .i64 gO.k, .int .i64 gO.a, .int .i64 gO.b, .int .i64 gO.c, .int .i64 gO.d] 25)) ((w4.alloc (.cells #[.int .i64 (x.w : Int), .int .i64 (x.h : Int), .slice A4 x.p.length c4] 34)).alloc (.cells #[.int .i64 gO.k, .int .i64 gO.a, .int .i64 gO.b, .int .i64 gO.c, .int .i64 gO.d] 25)).heap.size (some ⟨w4.heap.size + 1, 0, none⟩) [gO] := by
      have := El.Has.laid opE (w4.alloc (.cells #[.int .i64 (x.w : Int), .int .i64 (x.h : Int), .slice A4 x.p.length c4] 34)) [gO] 25
      rw [show (w4.alloc (.cells #[.int .i64 (x.w : Int), .int .i64 (x.h : Int), .slice A4 x.p.length c4] 34)).heap.size = w4.heap.size + 1 from by simp] at this
      exact this.wider (by simp)
    have := eaDo_any x A4 c4 (some ⟨w4.heap.size + 1, 0, none⟩) 1 [gO] _ hxo (can_g can_nil) (HRT4.out.next bbel) hc4 (HHx4.out.carry bbel (Nat.le_refl _) bbel.size) hlst (by simp)
    rw [ea_g hxo, eaR_nil] at this
    exact this)
  go_wp2_with fail
  refine CE5.out.mono ?_
  rintro e w5 ⟨v5, rfl, ⟨A5, c5, rfl, hc5, hh5⟩, b5⟩
  clear CE5
  clear gOe0 gOe1 gOe2 gOe3 gOe4 gOn0
  obtain ⟨y, hy⟩ : ∃ s, eachR grayP x = s := ⟨_, rfl⟩
  rw [hy] at hc5 hh5 ⊢
  have HEy := Lib.hid hy
  clear hy
  unfold raV rasV
  have bb5 : Below (w4.alloc (.cells #[.int .i64 (x.w : Int), .int .i64 (x.h : Int), .slice A4 x.p.length c4] 34)).heap.size (w4.alloc (.cells #[.int .i64 (x.w : Int), .int .i64 (x.h : Int), .slice A4 x.p.length c4] 34)) w5 := (((Below.refl (w4.alloc (.cells #[.int .i64 (x.w : Int), .int .i64 (x.h : Int), .slice A4 x.p.length c4] 34)).heap.size (w4.alloc (.cells #[.int .i64 (x.w : Int), .int .i64 (x.h : Int), .slice A4 x.p.length c4] 34))).alloc (Nat.le_refl _) (.cells #[.int .i64 gO.k, .int .i64 gO.a, .int .i64 gO.b, .int .i64 gO.c, .int .i64 gO.d] 25))).trans (b5.mono (((Below.refl (w4.alloc (.cells #[.int .i64 (x.w : Int), .int .i64 (x.h : Int), .slice A4 x.p.length c4] 34)).heap.size (w4.alloc (.cells #[.int .i64 (x.w : Int), .int .i64 (x.h : Int), .slice A4 x.p.length c4] 34))).alloc (Nat.le_refl _) (.cells #[.int .i64 gO.k, .int .i64 gO.a, .int .i64 gO.b, .int .i64 gO.c, .int .i64 gO.d] 25))).size)
  have bc5 : Below w4.heap.size w4 w5 := (((Below.refl w4.heap.size w4).alloc (Nat.le_refl _) _)).trans (bb5.mono (((Below.refl w4.heap.size w4).alloc (Nat.le_refl _) _)).size)
  have HRx5 : Hid (RasAtB w5 (w4.heap.size) x.w x.h A4 x.p.length c4 34) := Lib.hid (Box.below HRx4.out bb5 (RasAtB.lt HRx4.out))
  have HHx5 : Hid (HasP w5 w5.heap.size A4 x.p) := Lib.hid (HHx4.out.carry bc5 (Nat.le_refl _) bc5.size)
  have HRr5 : Hid (RasAtB w5 (w1.heap.size) r.w r.h A1 r.p.length c1 34) := Lib.hid (Box.below HRr4.out bc5 (RasAtB.lt HRr4.out))
  have HHr5 : Hid (HasP w5 w5.heap.size A1 r.p) := Lib.hid (HHr4.out.carry bc5 (Nat.le_refl _) bc5.size)
  have HOgO5 : Hid (OpAtB w5 (w1.heap.size + 1 + 1) gO) := Lib.hid (Box.below HOgO4.out bc5 (Box.lt HOgO4.out))
  have HOtO5 : Hid (OpAtB w5 (w1.heap.size + 1 + 1 + 1) tO) := Lib.hid (Box.below HOtO4.out bc5 (Box.lt HOtO4.out))
  have HB5 := Lib.hid (HB4.out.trans (bc5.mono HB4.out.size))
  have HRT5 : Hid (RangesIn w5) := Lib.hid (HRT4.out.next bc5)
  clear HRr4 HHr4 HRx4 HHx4 HOgO4 HOtO4 HB4 HRT4
  clear bb5 bc5
  have HHy5 : Hid (HasP w5 w5.heap.size A5 y.p) := Lib.hid hh5
  clear hh5 b5
  have HRy5 : Hid (RasAtB (w5.alloc (.cells #[.int .i64 (y.w : Int), .int .i64 (y.h : Int), .slice A5 y.p.length c5] 34)) (w5.heap.size) y.w y.h A5 y.p.length c5 34) := Lib.hid (Box.new w5 _ _)
  obtain rfl : x = y := by rw [← HEy.out, ← HEx.out]; exact (each_twice hr (fun _ h => grayP_ok h) grayP_twice).symm
  clear HEy
  have hlen : r.p.length = x.p.length := by
    rw [hr.parts.2.2.1, hxo.parts.2.2.1, ← HEx.out]
    rfl
  have hr1 := (ra_len hr).1
  have hx36 := (ra_len hxo).2
  have HLEN := Lib.hid hlen
  have HOK := Lib.hid hr
  have HXO := Lib.hid hxo
  clear hr hxo hlen
  have HBN6 : Hid (Below w5.heap.size w5 (w5.alloc (.cells #[.int .i64 (x.w : Int), .int .i64 (x.h : Int), .slice A5 x.p.length c5] 34))) := Lib.hid ((Below.refl w5.heap.size w5).alloc (Nat.le_refl _) _)
  go_wp2_with fail
  generalize w5.alloc (.cells #[.int .i64 (x.w : Int), .int .i64 (x.h : Int), .slice A5 x.p.length c5] 34) = w6 at *
  have b6 := HBN6.out
  have HRy6 : Hid (RasAtB w6 (w5.heap.size) x.w x.h A5 x.p.length c5 34) := HRy5
  have HHy6 : Hid (HasP w6 w6.heap.size A5 x.p) := Lib.hid (HHy5.out.carry b6 (Nat.le_refl _) b6.size)
  have HRr6 : Hid (RasAtB w6 (w1.heap.size) r.w r.h A1 r.p.length c1 34) := Lib.hid (Box.below HRr5.out b6 (RasAtB.lt HRr5.out))
  have HHr6 : Hid (HasP w6 w6.heap.size A1 r.p) := Lib.hid (HHr5.out.carry b6 (Nat.le_refl _) b6.size)
  have HRx6 : Hid (RasAtB w6 (w4.heap.size) x.w x.h A4 x.p.length c4 34) := Lib.hid (Box.below HRx5.out b6 (RasAtB.lt HRx5.out))
  have HHx6 : Hid (HasP w6 w6.heap.size A4 x.p) := Lib.hid (HHx5.out.carry b6 (Nat.le_refl _) b6.size)
  have HOgO6 : Hid (OpAtB w6 (w1.heap.size + 1 + 1) gO) := Lib.hid (Box.below HOgO5.out b6 (Box.lt HOgO5.out))
  have HOtO6 : Hid (OpAtB w6 (w1.heap.size + 1 + 1 + 1) tO) := Lib.hid (Box.below HOtO5.out b6 (Box.lt HOtO5.out))
  have HB6 := Lib.hid (HB5.out.trans (b6.mono HB5.out.size))
  have HRT6 : Hid (RangesIn w6) := Lib.hid (HRT5.out.next b6)
  clear HRr5 HHr5 HRx5 HHx5 HRy5 HHy5 HOgO5 HOtO5 HB5 HRT5
  clear b6 HBN6
  obtain ⟨b1, d1, rfl⟩ := HasP.some HHr6.out hr1
  obtain ⟨b4, d4, rfl⟩ := HasP.some HHx6.out (by rw [← HLEN.out]; exact hr1)
  obtain ⟨b5, d5, rfl⟩ := HasP.some HHy6.out (by rw [← HLEN.out]; exact hr1)
  go_loopw [9] (fun v wr => ∃ k : Nat, k ≤ x.p.length ∧ v = .int .i64 (k : Int) ∧ Below w6.heap.size w6 wr) (fun v _ => x.p.length - (intOf v).toNat)
  case atStart => exact ⟨0, Nat.zero_le _, rfl, Below.refl _ _⟩
  case round =>
    obtain ⟨k, hk, rfl, hbq⟩ := hrel
    have hRrq : RasAtB wr (w1.heap.size) r.w r.h (some ⟨b1, d1, none⟩) r.p.length c1 34 := Box.below HRr6.out hbq (RasAtB.lt HRr6.out)
    have hHrq : HasP wr wr.heap.size (some ⟨b1, d1, none⟩) r.p := HHr6.out.carry hbq (Nat.le_refl _) hbq.size
    have hRxq : RasAtB wr (w4.heap.size) x.w x.h (some ⟨b4, d4, none⟩) x.p.length c4 34 := Box.below HRx6.out hbq (RasAtB.lt HRx6.out)
    have hHxq : HasP wr wr.heap.size (some ⟨b4, d4, none⟩) x.p := HHx6.out.carry hbq (Nat.le_refl _) hbq.size
    have hRyq : RasAtB wr (w5.heap.size) x.w x.h (some ⟨b5, d5, none⟩) x.p.length c5 34 := Box.below HRy6.out hbq (RasAtB.lt HRy6.out)
    have hHyq : HasP wr wr.heap.size (some ⟨b5, d5, none⟩) x.p := HHy6.out.carry hbq (Nat.le_refl _) hbq.size
    have hOgOq : OpAtB wr (w1.heap.size + 1 + 1) gO := Box.below HOgO6.out hbq (Box.lt HOgO6.out)
    have hOtOq : OpAtB wr (w1.heap.size + 1 + 1 + 1) tO := Box.below HOtO6.out hbq (Box.lt HOtO6.out)
    have hRTq : RangesIn wr := HRT6.out.next hbq
    have x2 := RasAtB.c2 hRxq
    have HBQ := Lib.hid hbq
    by_cases hlt : k < x.p.length
    · obtain ⟨q, hq⟩ : ∃ q, r.p[k]? = some q := ⟨_, List.getElem?_eq_getElem (by rw [HLEN.out]; exact hlt)⟩
      have hp : x.p[k]? = some (grayP q) := by rw [← HEx.out]; exact each_get HOK.out hq
      have hg : ((grayP q).r = (grayP q).g ∧ (grayP q).g = (grayP q).b ∧ (grayP q).a = q.a) ∧ min q.r (min q.g q.b) ≤ (grayP q).r ∧ (grayP q).r ≤ max q.r (max q.g q.b) := ⟨⟨rfl, rfl, rfl⟩, gray_in (HOK.out.parts.2.2.2 q (List.mem_of_getElem? hq))⟩
      obtain ⟨p, hpe⟩ : ∃ p, grayP q = p := ⟨_, rfl⟩
      rw [hpe] at hp hg
      obtain ⟨lx, u0, u1, u2, u3⟩ := HasP.px hHxq hp
      obtain ⟨lr, v0, v1, v2, v3⟩ := HasP.px hHrq hq
      have r2 := RasAtB.c2 hRrq
      have hkI : (0 : Int) ≤ (k : Int) ∧ (k : Int) < (x.p.length : Int) := by omega
      have hkr : (k : Int) < (r.p.length : Int) := by rw [HLEN.out]; omega
      have lg := RasAtB.lt hRrq
      have HBV : Hid (Below wr.heap.size wr ((wr.alloc (.cells #[.int .i64 p.r, .int .i64 p.g, .int .i64 p.b, .int .i64 p.a] 40)).alloc (.cells #[.int .i64 q.r, .int .i64 q.g, .int .i64 q.b, .int .i64 q.a] 40))) := Lib.hid (((Below.refl wr.heap.size wr).alloc (Nat.le_refl _) _).alloc (by simp) _)
      have HP1 : Hid (Box ((wr.alloc (.cells #[.int .i64 p.r, .int .i64 p.g, .int .i64 p.b, .int .i64 p.a] 40)).alloc (.cells #[.int .i64 q.r, .int .i64 q.g, .int .i64 q.b, .int .i64 q.a] 40)) wr.heap.size #[.int .i64 p.r, .int .i64 p.g, .int .i64 p.b, .int .i64 p.a] 40) := Lib.hid (Box.alloc (Box.new wr _ _) _)
      have HP2 : Hid (Box ((wr.alloc (.cells #[.int .i64 p.r, .int .i64 p.g, .int .i64 p.b, .int .i64 p.a] 40)).alloc (.cells #[.int .i64 q.r, .int .i64 q.g, .int .i64 q.b, .int .i64 q.a] 40)) (wr.heap.size + 1) #[.int .i64 q.r, .int .i64 q.g, .int .i64 q.b, .int .i64 q.a] 40) := Lib.hid (by
        have := Box.new (wr.alloc (.cells #[.int .i64 p.r, .int .i64 p.g, .int .i64 p.b, .int .i64 p.a] 40)) #[.int .i64 q.r, .int .i64 q.g, .int .i64 q.b, .int .i64 q.a] 40
        rw [show (wr.alloc (.cells #[.int .i64 p.r, .int .i64 p.g, .int .i64 p.b, .int .i64 p.a] 40)).heap.size = wr.heap.size + 1 from by simp] at this
        exact this)
      have HPQ := Lib.hid (And.intro hp hq)
      have HGG := Lib.hid hg
      clear hRrq hHrq hRxq hHxq hRyq hHyq hOgOq hOtOq hRTq hbq hp hq hpe hg
      go_wp2_with fail
      generalize ((wr.alloc (.cells #[.int .i64 p.r, .int .i64 p.g, .int .i64 p.b, .int .i64 p.a] 40)).alloc (.cells #[.int .i64 q.r, .int .i64 q.g, .int .i64 q.b, .int .i64 q.a] 40)) = wv at *
      clear x2 u0 u1 u2 u3 v0 v1 v2 v3 r2 lx lr lg hkI hkr
      have hbd : Below w6.heap.size w6 wv.drew := below_draws (HBQ.out.trans (HBV.out.mono HBQ.out.size)) 1
      have hRrb : RasAtB wv.drew (w1.heap.size) r.w r.h (some ⟨b1, d1, none⟩) r.p.length c1 34 := Box.below HRr6.out hbd (RasAtB.lt HRr6.out)
      have hHrb : HasP wv.drew wv.drew.heap.size (some ⟨b1, d1, none⟩) r.p := HHr6.out.carry hbd (Nat.le_refl _) hbd.size
      have hRxb : RasAtB wv.drew (w4.heap.size) x.w x.h (some ⟨b4, d4, none⟩) x.p.length c4 34 := Box.below HRx6.out hbd (RasAtB.lt HRx6.out)
      have hHxb : HasP wv.drew wv.drew.heap.size (some ⟨b4, d4, none⟩) x.p := HHx6.out.carry hbd (Nat.le_refl _) hbd.size
      have hRyb : RasAtB wv.drew (w5.heap.size) x.w x.h (some ⟨b5, d5, none⟩) x.p.length c5 34 := Box.below HRy6.out hbd (RasAtB.lt HRy6.out)
      have hHyb : HasP wv.drew wv.drew.heap.size (some ⟨b5, d5, none⟩) x.p := HHy6.out.carry hbd (Nat.le_refl _) hbd.size
      have hOgOb : OpAtB wv.drew (w1.heap.size + 1 + 1) gO := Box.below HOgO6.out hbd (Box.lt HOgO6.out)
      have hOtOb : OpAtB wv.drew (w1.heap.size + 1 + 1 + 1) tO := Box.below HOtO6.out hbd (Box.lt HOtO6.out)
      have hRTb : RangesIn wv.drew := HRT6.out.next hbd
      have hP1 : Box wv.drew wr.heap.size #[.int .i64 p.r, .int .i64 p.g, .int .i64 p.b, .int .i64 p.a] 40 := Box.drew HP1.out
      have hP2 : Box wv.drew (wr.heap.size + 1) #[.int .i64 q.r, .int .i64 q.g, .int .i64 q.b, .int .i64 q.a] 40 := Box.drew HP2.out
      obtain ⟨ly, hpy⟩ := HasP.px hHyb HPQ.out.1
      refine wp_region_kd 128 [74, 75, 76, 77, 78, 79, 80, 81, 82, 83, 84, 85, 86, 87, 88, 89, 90, 91, 92, 93, 94, 95, 96, 97, 98, 99, 100, 101, 102, 103, 104, 105, 106, 107, 108, 109, 110, 111, 112, 113] [(74, .is (.pointer (some ⟨wr.heap.size, 0, none⟩))), (75, .is (.int .i64 p.r)), (76, .is (.pointer (some ⟨wr.heap.size, 1, none⟩))), (77, .is (.int .i64 p.g)), (78, .is (.bool false)), (79, .is (.bool false)), (80, .is (.pointer (some ⟨wr.heap.size, 1, none⟩))), (81, .is (.int .i64 p.g)), (82, .is (.pointer (some ⟨wr.heap.size, 2, none⟩))), (83, .is (.int .i64 p.b)), (84, .is (.bool false)), (85, .is (.bool false)), (86, .is (.bool false)), (87, .is (.pointer (some ⟨wr.heap.size, 3, none⟩))), (88, .is (.int .i64 p.a)), (89, .is (.pointer (some ⟨wr.heap.size + 1, 3, none⟩))), (90, .is (.int .i64 q.a)), (91, .is (.bool false)), (92, .is (.bool false)), (93, .is (.bool false)), (94, .is (.pointer (some ⟨wr.heap.size, 0, none⟩))), (95, .is (.int .i64 p.r)), (96, .is (.int .i64 (min q.r (min q.g q.b)))), (97, .is (.bool false)), (98, .is (.bool false)), (99, .is (.bool false)), (100, .is (.pointer (some ⟨wr.heap.size, 0, none⟩))), (101, .is (.int .i64 p.r)), (102, .is (.int .i64 (max q.r (max q.g q.b)))), (103, .is (.bool false)), (104, .is (.bool false)), (105, .is (.bool false)), (106, .is (.pointer (some ⟨w5.heap.size, 2, none⟩))), (107, .is (.slice (some ⟨b5, d5, none⟩) x.p.length c5)), (108, .is (.int .i64 (k : Int))), (109, .is (.pointer (some ⟨b5, d5 + k * 4, none⟩))), (110, .is (p.v)), (111, .is (p.v)), (112, .is (.bool false)), (113, .is (.bool false))] (Below wv.drew.heap.size wv.drew) (by kernel_rfl) (by kernel_rfl) rfl rfl (by decide) (by decide) rfl rfl (Below.refl _ _) ?_ ?_
      · intro i o V w ho hS hV hd
        have hi : i < 40 := (Array.getElem?_eq_some_iff.1 ho).1
        have hi2 : i = 0 ∨ i = 1 ∨ i = 2 ∨ i = 3 ∨ i = 4 ∨ i = 5 ∨ i = 6 ∨ i = 7 ∨ i = 8 ∨ i = 9 ∨ i = 10 ∨ i = 11 ∨ i = 12 ∨ i = 13 ∨ i = 14 ∨ i = 15 ∨ i = 16 ∨ i = 17 ∨ i = 18 ∨ i = 19 ∨ i = 20 ∨ i = 21 ∨ i = 22 ∨ i = 23 ∨ i = 24 ∨ i = 25 ∨ i = 26 ∨ i = 27 ∨ i = 28 ∨ i = 29 ∨ i = 30 ∨ i = 31 ∨ i = 32 ∨ i = 33 ∨ i = 34 ∨ i = 35 ∨ i = 36 ∨ i = 37 ∨ i = 38 ∨ i = 39 := by omega
        clear hi
        rcases hi2 with rfl | rfl | rfl | rfl | rfl | rfl | rfl | rfl | rfl | rfl | rfl | rfl | rfl | rfl | rfl | rfl | rfl | rfl | rfl | rfl | rfl | rfl | rfl | rfl | rfl | rfl | rfl | rfl | rfl | rfl | rfl | rfl | rfl | rfl | rfl | rfl | rfl | rfl | rfl | rfl
        · obtain rfl : _ = o := Option.some.inj ((show _ = some _ from rfl).symm.trans ho)
          have x10 : V 10 = .pointer (some ⟨wr.heap.size, 0, none⟩) := (hV 10 (by simp)).trans rfl
          refine ⟨fun _ => ?_, fun hw => absurd (show true = false from hw) (by decide)⟩
          · exact yield_fld rfl ((frame_eval V (by decide)).trans x10) (fun w => fld_pix _ 0 (by decide) w) hS
        · obtain rfl : _ = o := Option.some.inj ((show _ = some _ from rfl).symm.trans ho)
          have d0 : V 74 = .pointer (some ⟨wr.heap.size, 0, none⟩) := hd ⟨0, .data⟩ (by simp) rfl
          refine ⟨fun _ => ?_, fun hw => absurd (show true = false from hw) (by decide)⟩
          · exact yield_cell rfl ((frame_eval V (by decide)).trans d0) (Box.cell hP1 (i := 0) rfl) (Box.lt hP1) hS
        · obtain rfl : _ = o := Option.some.inj ((show _ = some _ from rfl).symm.trans ho)
          have x10 : V 10 = .pointer (some ⟨wr.heap.size, 0, none⟩) := (hV 10 (by simp)).trans rfl
          refine ⟨fun _ => ?_, fun hw => absurd (show true = false from hw) (by decide)⟩
          · exact yield_fld rfl ((frame_eval V (by decide)).trans x10) (fun w => fld_pix _ 1 (by decide) w) hS
        · obtain rfl : _ = o := Option.some.inj ((show _ = some _ from rfl).symm.trans ho)
          have d2 : V 76 = .pointer (some ⟨wr.heap.size, 1, none⟩) := hd ⟨2, .data⟩ (by simp) rfl
          refine ⟨fun _ => ?_, fun hw => absurd (show true = false from hw) (by decide)⟩
          · exact yield_cell rfl ((frame_eval V (by decide)).trans d2) (Box.cell hP1 (i := 1) rfl) (Box.lt hP1) hS
        · obtain rfl : _ = o := Option.some.inj ((show _ = some _ from rfl).symm.trans ho)
          have d1 : V 75 = .int .i64 p.r := hd ⟨1, .data⟩ (by simp) rfl
          have d3 : V 77 = .int .i64 p.g := hd ⟨3, .data⟩ (by simp) rfl
          refine ⟨fun _ => ?_, fun hw => absurd (show true = false from hw) (by decide)⟩
          · exact yield_neqI rfl ((frame_eval V (by decide)).trans d1) ((frame_eval V (by decide)).trans d3) HGG.out.1.1 hS
        · obtain rfl : _ = o := Option.some.inj ((show _ = some _ from rfl).symm.trans ho)
          have d4 : V 78 = .bool false := hd ⟨4, .data⟩ (by simp) rfl
          refine ⟨fun _ => ?_, fun hw => absurd (show true = false from hw) (by decide)⟩
          · exact yield_copy (.inl rfl) ((frame_eval V (by decide)).trans d4) hS
        · obtain rfl : _ = o := Option.some.inj ((show _ = some _ from rfl).symm.trans ho)
          have x10 : V 10 = .pointer (some ⟨wr.heap.size, 0, none⟩) := (hV 10 (by simp)).trans rfl
          have gd : V 79 = .bool false := hd ⟨5, .guard⟩ (by simp) rfl
          refine ⟨fun _ => ?_, fun hw => absurd ((wanted_of rfl rfl (by decide) gd).symm.trans hw) (by decide)⟩
          · exact yield_fld rfl ((frame_eval V (by decide)).trans x10) (fun w => fld_pix _ 1 (by decide) w) hS
        · obtain rfl : _ = o := Option.some.inj ((show _ = some _ from rfl).symm.trans ho)
          have d6 : V 80 = .pointer (some ⟨wr.heap.size, 1, none⟩) := hd ⟨6, .data⟩ (by simp) rfl
          have gd : V 79 = .bool false := hd ⟨5, .guard⟩ (by simp) rfl
          refine ⟨fun _ => ?_, fun hw => absurd ((wanted_of rfl rfl (by decide) gd).symm.trans hw) (by decide)⟩
          · exact yield_cell rfl ((frame_eval V (by decide)).trans d6) (Box.cell hP1 (i := 1) rfl) (Box.lt hP1) hS
        · obtain rfl : _ = o := Option.some.inj ((show _ = some _ from rfl).symm.trans ho)
          have x10 : V 10 = .pointer (some ⟨wr.heap.size, 0, none⟩) := (hV 10 (by simp)).trans rfl
          have gd : V 79 = .bool false := hd ⟨5, .guard⟩ (by simp) rfl
          refine ⟨fun _ => ?_, fun hw => absurd ((wanted_of rfl rfl (by decide) gd).symm.trans hw) (by decide)⟩
          · exact yield_fld rfl ((frame_eval V (by decide)).trans x10) (fun w => fld_pix _ 2 (by decide) w) hS
        · obtain rfl : _ = o := Option.some.inj ((show _ = some _ from rfl).symm.trans ho)
          have d8 : V 82 = .pointer (some ⟨wr.heap.size, 2, none⟩) := hd ⟨8, .data⟩ (by simp) rfl
          have gd : V 79 = .bool false := hd ⟨5, .guard⟩ (by simp) rfl
          refine ⟨fun _ => ?_, fun hw => absurd ((wanted_of rfl rfl (by decide) gd).symm.trans hw) (by decide)⟩
          · exact yield_cell rfl ((frame_eval V (by decide)).trans d8) (Box.cell hP1 (i := 2) rfl) (Box.lt hP1) hS
        · obtain rfl : _ = o := Option.some.inj ((show _ = some _ from rfl).symm.trans ho)
          have d7 : V 81 = .int .i64 p.g := hd ⟨7, .data⟩ (by simp) rfl
          have d9 : V 83 = .int .i64 p.b := hd ⟨9, .data⟩ (by simp) rfl
          have gd : V 79 = .bool false := hd ⟨5, .guard⟩ (by simp) rfl
          refine ⟨fun _ => ?_, fun hw => absurd ((wanted_of rfl rfl (by decide) gd).symm.trans hw) (by decide)⟩
          · exact yield_neqI rfl ((frame_eval V (by decide)).trans d7) ((frame_eval V (by decide)).trans d9) HGG.out.1.2.1 hS
        · obtain rfl : _ = o := Option.some.inj ((show _ = some _ from rfl).symm.trans ho)
          have d5 : V 79 = .bool false := hd ⟨5, .data⟩ (by simp) rfl
          have d10 : V 84 = .bool false := hd ⟨10, .data⟩ (by simp) rfl
          refine ⟨fun _ => ?_, fun hw => absurd (show true = false from hw) (by decide)⟩
          · exact yield_pickF rfl ((frame_eval V (by decide)).trans d5) ((frame_eval V (by decide)).trans d10) hS
        · obtain rfl : _ = o := Option.some.inj ((show _ = some _ from rfl).symm.trans ho)
          have d11 : V 85 = .bool false := hd ⟨11, .data⟩ (by simp) rfl
          refine ⟨fun _ => ?_, fun hw => absurd (show true = false from hw) (by decide)⟩
          · exact yield_copy (.inl rfl) ((frame_eval V (by decide)).trans d11) hS
        · obtain rfl : _ = o := Option.some.inj ((show _ = some _ from rfl).symm.trans ho)
          have x10 : V 10 = .pointer (some ⟨wr.heap.size, 0, none⟩) := (hV 10 (by simp)).trans rfl
          have gd : V 86 = .bool false := hd ⟨12, .guard⟩ (by simp) rfl
          refine ⟨fun _ => ?_, fun hw => absurd ((wanted_of rfl rfl (by decide) gd).symm.trans hw) (by decide)⟩
          · exact yield_fld rfl ((frame_eval V (by decide)).trans x10) (fun w => fld_pix _ 3 (by decide) w) hS
        · obtain rfl : _ = o := Option.some.inj ((show _ = some _ from rfl).symm.trans ho)
          have d13 : V 87 = .pointer (some ⟨wr.heap.size, 3, none⟩) := hd ⟨13, .data⟩ (by simp) rfl
          have gd : V 86 = .bool false := hd ⟨12, .guard⟩ (by simp) rfl
          refine ⟨fun _ => ?_, fun hw => absurd ((wanted_of rfl rfl (by decide) gd).symm.trans hw) (by decide)⟩
          · exact yield_cell rfl ((frame_eval V (by decide)).trans d13) (Box.cell hP1 (i := 3) rfl) (Box.lt hP1) hS
        · obtain rfl : _ = o := Option.some.inj ((show _ = some _ from rfl).symm.trans ho)
          have x11 : V 11 = .pointer (some ⟨wr.heap.size + 1, 0, none⟩) := (hV 11 (by simp)).trans rfl
          have gd : V 86 = .bool false := hd ⟨12, .guard⟩ (by simp) rfl
          refine ⟨fun _ => ?_, fun hw => absurd ((wanted_of rfl rfl (by decide) gd).symm.trans hw) (by decide)⟩
          · exact yield_fld rfl ((frame_eval V (by decide)).trans x11) (fun w => fld_pix _ 3 (by decide) w) hS
        · obtain rfl : _ = o := Option.some.inj ((show _ = some _ from rfl).symm.trans ho)
          have d15 : V 89 = .pointer (some ⟨wr.heap.size + 1, 3, none⟩) := hd ⟨15, .data⟩ (by simp) rfl
          have gd : V 86 = .bool false := hd ⟨12, .guard⟩ (by simp) rfl
          refine ⟨fun _ => ?_, fun hw => absurd ((wanted_of rfl rfl (by decide) gd).symm.trans hw) (by decide)⟩
          · exact yield_cell rfl ((frame_eval V (by decide)).trans d15) (Box.cell hP2 (i := 3) rfl) (Box.lt hP2) hS
        · obtain rfl : _ = o := Option.some.inj ((show _ = some _ from rfl).symm.trans ho)
          have d14 : V 88 = .int .i64 p.a := hd ⟨14, .data⟩ (by simp) rfl
          have d16 : V 90 = .int .i64 q.a := hd ⟨16, .data⟩ (by simp) rfl
          have gd : V 86 = .bool false := hd ⟨12, .guard⟩ (by simp) rfl
          refine ⟨fun _ => ?_, fun hw => absurd ((wanted_of rfl rfl (by decide) gd).symm.trans hw) (by decide)⟩
          · exact yield_neqI rfl ((frame_eval V (by decide)).trans d14) ((frame_eval V (by decide)).trans d16) HGG.out.1.2.2 hS
        · obtain rfl : _ = o := Option.some.inj ((show _ = some _ from rfl).symm.trans ho)
          have d12 : V 86 = .bool false := hd ⟨12, .data⟩ (by simp) rfl
          have d17 : V 91 = .bool false := hd ⟨17, .data⟩ (by simp) rfl
          refine ⟨fun _ => ?_, fun hw => absurd (show true = false from hw) (by decide)⟩
          · exact yield_pickF rfl ((frame_eval V (by decide)).trans d12) ((frame_eval V (by decide)).trans d17) hS
        · obtain rfl : _ = o := Option.some.inj ((show _ = some _ from rfl).symm.trans ho)
          have d18 : V 92 = .bool false := hd ⟨18, .data⟩ (by simp) rfl
          refine ⟨fun _ => ?_, fun hw => absurd (show true = false from hw) (by decide)⟩
          · exact yield_copy (.inl rfl) ((frame_eval V (by decide)).trans d18) hS
        · obtain rfl : _ = o := Option.some.inj ((show _ = some _ from rfl).symm.trans ho)
          have x10 : V 10 = .pointer (some ⟨wr.heap.size, 0, none⟩) := (hV 10 (by simp)).trans rfl
          have gd : V 93 = .bool false := hd ⟨19, .guard⟩ (by simp) rfl
          refine ⟨fun _ => ?_, fun hw => absurd ((wanted_of rfl rfl (by decide) gd).symm.trans hw) (by decide)⟩
          · exact yield_fld rfl ((frame_eval V (by decide)).trans x10) (fun w => fld_pix _ 0 (by decide) w) hS
        · obtain rfl : _ = o := Option.some.inj ((show _ = some _ from rfl).symm.trans ho)
          have d20 : V 94 = .pointer (some ⟨wr.heap.size, 0, none⟩) := hd ⟨20, .data⟩ (by simp) rfl
          have gd : V 93 = .bool false := hd ⟨19, .guard⟩ (by simp) rfl
          refine ⟨fun _ => ?_, fun hw => absurd ((wanted_of rfl rfl (by decide) gd).symm.trans hw) (by decide)⟩
          · exact yield_cell rfl ((frame_eval V (by decide)).trans d20) (Box.cell hP1 (i := 0) rfl) (Box.lt hP1) hS
        · obtain rfl : _ = o := Option.some.inj ((show _ = some _ from rfl).symm.trans ho)
          have x12 : V 12 = .int .i64 (min q.r (min q.g q.b)) := (hV 12 (by simp)).trans rfl
          have gd : V 93 = .bool false := hd ⟨19, .guard⟩ (by simp) rfl
          refine ⟨fun _ => ?_, fun hw => absurd ((wanted_of rfl rfl (by decide) gd).symm.trans hw) (by decide)⟩
          · exact yield_copy (.inl rfl) ((frame_eval V (by decide)).trans x12) hS
        · obtain rfl : _ = o := Option.some.inj ((show _ = some _ from rfl).symm.trans ho)
          have d21 : V 95 = .int .i64 p.r := hd ⟨21, .data⟩ (by simp) rfl
          have d22 : V 96 = .int .i64 (min q.r (min q.g q.b)) := hd ⟨22, .data⟩ (by simp) rfl
          have gd : V 93 = .bool false := hd ⟨19, .guard⟩ (by simp) rfl
          refine ⟨fun _ => ?_, fun hw => absurd ((wanted_of rfl rfl (by decide) gd).symm.trans hw) (by decide)⟩
          · exact yield_lssF rfl ((frame_eval V (by decide)).trans d21) ((frame_eval V (by decide)).trans d22) (by have := HGG.out.2.1; omega) hS
        · obtain rfl : _ = o := Option.some.inj ((show _ = some _ from rfl).symm.trans ho)
          have d19 : V 93 = .bool false := hd ⟨19, .data⟩ (by simp) rfl
          have d23 : V 97 = .bool false := hd ⟨23, .data⟩ (by simp) rfl
          refine ⟨fun _ => ?_, fun hw => absurd (show true = false from hw) (by decide)⟩
          · exact yield_pickF rfl ((frame_eval V (by decide)).trans d19) ((frame_eval V (by decide)).trans d23) hS
        · obtain rfl : _ = o := Option.some.inj ((show _ = some _ from rfl).symm.trans ho)
          have d24 : V 98 = .bool false := hd ⟨24, .data⟩ (by simp) rfl
          refine ⟨fun _ => ?_, fun hw => absurd (show true = false from hw) (by decide)⟩
          · exact yield_copy (.inl rfl) ((frame_eval V (by decide)).trans d24) hS
        · obtain rfl : _ = o := Option.some.inj ((show _ = some _ from rfl).symm.trans ho)
          have x10 : V 10 = .pointer (some ⟨wr.heap.size, 0, none⟩) := (hV 10 (by simp)).trans rfl
          have gd : V 99 = .bool false := hd ⟨25, .guard⟩ (by simp) rfl
          refine ⟨fun _ => ?_, fun hw => absurd ((wanted_of rfl rfl (by decide) gd).symm.trans hw) (by decide)⟩
          · exact yield_fld rfl ((frame_eval V (by decide)).trans x10) (fun w => fld_pix _ 0 (by decide) w) hS
        · obtain rfl : _ = o := Option.some.inj ((show _ = some _ from rfl).symm.trans ho)
          have d26 : V 100 = .pointer (some ⟨wr.heap.size, 0, none⟩) := hd ⟨26, .data⟩ (by simp) rfl
          have gd : V 99 = .bool false := hd ⟨25, .guard⟩ (by simp) rfl
          refine ⟨fun _ => ?_, fun hw => absurd ((wanted_of rfl rfl (by decide) gd).symm.trans hw) (by decide)⟩
          · exact yield_cell rfl ((frame_eval V (by decide)).trans d26) (Box.cell hP1 (i := 0) rfl) (Box.lt hP1) hS
        · obtain rfl : _ = o := Option.some.inj ((show _ = some _ from rfl).symm.trans ho)
          have x13 : V 13 = .int .i64 (max q.r (max q.g q.b)) := (hV 13 (by simp)).trans rfl
          have gd : V 99 = .bool false := hd ⟨25, .guard⟩ (by simp) rfl
          refine ⟨fun _ => ?_, fun hw => absurd ((wanted_of rfl rfl (by decide) gd).symm.trans hw) (by decide)⟩
          · exact yield_copy (.inl rfl) ((frame_eval V (by decide)).trans x13) hS
        · obtain rfl : _ = o := Option.some.inj ((show _ = some _ from rfl).symm.trans ho)
          have d27 : V 101 = .int .i64 p.r := hd ⟨27, .data⟩ (by simp) rfl
          have d28 : V 102 = .int .i64 (max q.r (max q.g q.b)) := hd ⟨28, .data⟩ (by simp) rfl
          have gd : V 99 = .bool false := hd ⟨25, .guard⟩ (by simp) rfl
          refine ⟨fun _ => ?_, fun hw => absurd ((wanted_of rfl rfl (by decide) gd).symm.trans hw) (by decide)⟩
          · exact yield_gtrF rfl ((frame_eval V (by decide)).trans d27) ((frame_eval V (by decide)).trans d28) (by have := HGG.out.2.2; omega) hS
        · obtain rfl : _ = o := Option.some.inj ((show _ = some _ from rfl).symm.trans ho)
          have d25 : V 99 = .bool false := hd ⟨25, .data⟩ (by simp) rfl
          have d29 : V 103 = .bool false := hd ⟨29, .data⟩ (by simp) rfl
          refine ⟨fun _ => ?_, fun hw => absurd (show true = false from hw) (by decide)⟩
          · exact yield_pickF rfl ((frame_eval V (by decide)).trans d25) ((frame_eval V (by decide)).trans d29) hS
        · obtain rfl : _ = o := Option.some.inj ((show _ = some _ from rfl).symm.trans ho)
          have d30 : V 104 = .bool false := hd ⟨30, .data⟩ (by simp) rfl
          refine ⟨fun _ => ?_, fun hw => absurd (show true = false from hw) (by decide)⟩
          · exact yield_copy (.inl rfl) ((frame_eval V (by decide)).trans d30) hS
        · obtain rfl : _ = o := Option.some.inj ((show _ = some _ from rfl).symm.trans ho)
          have x8 : V 8 = .pointer (some ⟨w5.heap.size, 0, none⟩) := (hV 8 (by simp)).trans rfl
          have gd : V 105 = .bool false := hd ⟨31, .guard⟩ (by simp) rfl
          refine ⟨fun _ => ?_, fun hw => absurd ((wanted_of rfl rfl (by decide) gd).symm.trans hw) (by decide)⟩
          · exact yield_fld rfl ((frame_eval V (by decide)).trans x8) (fun w => fld_ras _ 2 (by decide) w) hS
        · obtain rfl : _ = o := Option.some.inj ((show _ = some _ from rfl).symm.trans ho)
          have d32 : V 106 = .pointer (some ⟨w5.heap.size, 2, none⟩) := hd ⟨32, .data⟩ (by simp) rfl
          have gd : V 105 = .bool false := hd ⟨31, .guard⟩ (by simp) rfl
          refine ⟨fun _ => ?_, fun hw => absurd ((wanted_of rfl rfl (by decide) gd).symm.trans hw) (by decide)⟩
          · exact yield_sl rfl ((frame_eval V (by decide)).trans d32) (RasAtB.c2 hRyb) (RasAtB.lt hRyb) hS
        · obtain rfl : _ = o := Option.some.inj ((show _ = some _ from rfl).symm.trans ho)
          have x9 : V 9 = .int .i64 (k : Int) := (hV 9 (by simp)).trans rfl
          have gd : V 105 = .bool false := hd ⟨31, .guard⟩ (by simp) rfl
          refine ⟨fun _ => ?_, fun hw => absurd ((wanted_of rfl rfl (by decide) gd).symm.trans hw) (by decide)⟩
          · exact yield_copy (.inl rfl) ((frame_eval V (by decide)).trans x9) hS
        · obtain rfl : _ = o := Option.some.inj ((show _ = some _ from rfl).symm.trans ho)
          have d33 : V 107 = .slice (some ⟨b5, d5, none⟩) x.p.length c5 := hd ⟨33, .data⟩ (by simp) rfl
          have d34 : V 108 = .int .i64 (k : Int) := hd ⟨34, .data⟩ (by simp) rfl
          have gd : V 105 = .bool false := hd ⟨31, .guard⟩ (by simp) rfl
          refine ⟨fun _ => ?_, fun hw => absurd ((wanted_of rfl rfl (by decide) gd).symm.trans hw) (by decide)⟩
          · exact yield_idx rfl ((frame_eval V (by decide)).trans d33) ((frame_eval V (by decide)).trans d34) hlt hS
        · obtain rfl : _ = o := Option.some.inj ((show _ = some _ from rfl).symm.trans ho)
          have d35 : V 109 = .pointer (some ⟨b5, d5 + k * 4, none⟩) := hd ⟨35, .data⟩ (by simp) rfl
          have gd : V 105 = .bool false := hd ⟨31, .guard⟩ (by simp) rfl
          refine ⟨fun _ => ?_, fun hw => absurd ((wanted_of rfl rfl (by decide) gd).symm.trans hw) (by decide)⟩
          · exact yield_px rfl ((frame_eval V (by decide)).trans d35) hpy ly hS
        · obtain rfl : _ = o := Option.some.inj ((show _ = some _ from rfl).symm.trans ho)
          have x10 : V 10 = .pointer (some ⟨wr.heap.size, 0, none⟩) := (hV 10 (by simp)).trans rfl
          have gd : V 105 = .bool false := hd ⟨31, .guard⟩ (by simp) rfl
          refine ⟨fun _ => ?_, fun hw => absurd ((wanted_of rfl rfl (by decide) gd).symm.trans hw) (by decide)⟩
          · exact yield_pixB rfl ((frame_eval V (by decide)).trans x10) hP1 hS
        · obtain rfl : _ = o := Option.some.inj ((show _ = some _ from rfl).symm.trans ho)
          have d36 : V 110 = p.v := hd ⟨36, .data⟩ (by simp) rfl
          have d37 : V 111 = p.v := hd ⟨37, .data⟩ (by simp) rfl
          have gd : V 105 = .bool false := hd ⟨31, .guard⟩ (by simp) rfl
          refine ⟨fun _ => ?_, fun hw => absurd ((wanted_of rfl rfl (by decide) gd).symm.trans hw) (by decide)⟩
          · exact yield_neqPix rfl ((frame_eval V (by decide)).trans d36) ((frame_eval V (by decide)).trans d37) rfl hS
        · obtain rfl : _ = o := Option.some.inj ((show _ = some _ from rfl).symm.trans ho)
          have d31 : V 105 = .bool false := hd ⟨31, .data⟩ (by simp) rfl
          have d38 : V 112 = .bool false := hd ⟨38, .data⟩ (by simp) rfl
          refine ⟨fun _ => ?_, fun hw => absurd (show true = false from hw) (by decide)⟩
          · exact yield_pickF rfl ((frame_eval V (by decide)).trans d31) ((frame_eval V (by decide)).trans d38) hS
      · intro V wx hS hV hall
        have dl : V 113 = .bool false := hall 39 (by decide)
        rw [frame_all (n := 128) (D := [74, 75, 76, 77, 78, 79, 80, 81, 82, 83, 84, 85, 86, 87, 88, 89, 90, 91, 92, 93, 94, 95, 96, 97, 98, 99, 100, 101, 102, 103, 104, 105, 106, 107, 108, 109, 110, 111, 112, 113]) rfl rfl (by decide) hV]
        simp only [List.foldl_cons, List.foldl_nil, Act.put, List.setIfInBounds_toArray, List.set_cons_zero, List.set_cons_succ]
        rw [dl]
        have HE := Lib.hid (hbd.trans (hS.mono hbd.size))
        clear hall hV dl hS hRrb hHrb hRxb hHxb hRyb hHyb hOgOb hOtOb hRTb hbd hP1 hP2 ly hpy
        go_wp2_with fail
        go_roundw
        case rel => exact ⟨k + 1, by omega, by go_num, HE.out⟩
        case measure => simp [intOf]; omega
    · obtain rfl : k = x.p.length := by omega
      clear hRrq hHrq hRxq hHxq hRyq hHyq hOgOq hOtOq hRTq hbq
      have hbd : Below w6.heap.size w6 wr.drew := below_draws (HBQ.out) 1
      have hRrb : RasAtB wr.drew (w1.heap.size) r.w r.h (some ⟨b1, d1, none⟩) r.p.length c1 34 := Box.below HRr6.out hbd (RasAtB.lt HRr6.out)
      have hHrb : HasP wr.drew wr.drew.heap.size (some ⟨b1, d1, none⟩) r.p := HHr6.out.carry hbd (Nat.le_refl _) hbd.size
      have hRxb : RasAtB wr.drew (w4.heap.size) x.w x.h (some ⟨b4, d4, none⟩) x.p.length c4 34 := Box.below HRx6.out hbd (RasAtB.lt HRx6.out)
      have hHxb : HasP wr.drew wr.drew.heap.size (some ⟨b4, d4, none⟩) x.p := HHx6.out.carry hbd (Nat.le_refl _) hbd.size
      have hRyb : RasAtB wr.drew (w5.heap.size) x.w x.h (some ⟨b5, d5, none⟩) x.p.length c5 34 := Box.below HRy6.out hbd (RasAtB.lt HRy6.out)
      have hHyb : HasP wr.drew wr.drew.heap.size (some ⟨b5, d5, none⟩) x.p := HHy6.out.carry hbd (Nat.le_refl _) hbd.size
      have hOgOb : OpAtB wr.drew (w1.heap.size + 1 + 1) gO := Box.below HOgO6.out hbd (Box.lt HOgO6.out)
      have hOtOb : OpAtB wr.drew (w1.heap.size + 1 + 1 + 1) tO := Box.below HOtO6.out hbd (Box.lt HOtO6.out)
      have hRTb : RangesIn wr.drew := HRT6.out.next hbd
      have HBD := Lib.hid hbd
      clear hbd
      have HFS := Lib.hid (And.intro hRrb ( And.intro hHrb ( And.intro hRxb ( And.intro hHxb ( And.intro hRyb ( And.intro hHyb ( And.intro hOgOb ( And.intro hOtOb (hRTb)))))))))
      clear hRrb hHrb hRxb hHxb hRyb hHyb hOgOb hOtOb hRTb
      go_wp2_with fail
      obtain ⟨hRrb, hHrb, hRxb, hHxb, hRyb, hHyb, hOgOb, hOtOb, hRTb⟩ := HFS.out
      clear HFS
      refine wp_region_kd 128 [114, 115, 116, 117, 118, 119, 120, 121, 122, 123, 124, 125, 126, 127, 2] [(114, .ras x), (115, .is (.bool true)), (116, .is (.bool true)), (117, .ras x), (118, .is (tO.v)), (119, .ops [tO]), (120, .ras (eaR x [tO])), (121, .ras r), (122, .is (tO.v)), (123, .is (gO.v)), (124, .ops [tO, gO]), (125, .ras (eaR r [tO, gO])), (126, .is (.bool true)), (127, .is (.bool true)), (2, .is (.bool true))] (Below wr.drew.heap.size wr.drew) (by kernel_rfl) (by kernel_rfl) rfl rfl (by decide) (by decide) rfl rfl (Below.refl _ _) ?_ ?_
      · intro i o V w ho hS hV hd
        have hi : i < 15 := (Array.getElem?_eq_some_iff.1 ho).1
        have hi2 : i = 0 ∨ i = 1 ∨ i = 2 ∨ i = 3 ∨ i = 4 ∨ i = 5 ∨ i = 6 ∨ i = 7 ∨ i = 8 ∨ i = 9 ∨ i = 10 ∨ i = 11 ∨ i = 12 ∨ i = 13 ∨ i = 14 := by omega
        clear hi
        rcases hi2 with rfl | rfl | rfl | rfl | rfl | rfl | rfl | rfl | rfl | rfl | rfl | rfl | rfl | rfl | rfl
        · obtain rfl : _ = o := Option.some.inj ((show _ = some _ from rfl).symm.trans ho)
          have x7 : V 7 = .pointer (some ⟨w4.heap.size, 0, none⟩) := (hV 7 (by simp)).trans rfl
          refine ⟨fun _ => ?_, fun hw => absurd (show true = false from hw) (by decide)⟩
          · exact yield_ras rfl ((frame_eval V (by decide)).trans x7) hRxb hc4 hHxb hS
        · obtain rfl : _ = o := Option.some.inj ((show _ = some _ from rfl).symm.trans ho)
          have d0 : IsRa x w (V 114) := hd ⟨0, .data⟩ (by simp) rfl
          refine ⟨fun _ => ?_, fun hw => absurd (show true = false from hw) (by decide)⟩
          · exact yield_rasOk rfl (frame_eval V (by decide)) d0 HXO.out hS
        · obtain rfl : _ = o := Option.some.inj ((show _ = some _ from rfl).symm.trans ho)
          have d1 : V 115 = .bool true := hd ⟨1, .data⟩ (by simp) rfl
          refine ⟨fun _ => ?_, fun hw => absurd (show true = false from hw) (by decide)⟩
          · exact yield_copy (.inl rfl) ((frame_eval V (by decide)).trans d1) hS
        · obtain rfl : _ = o := Option.some.inj ((show _ = some _ from rfl).symm.trans ho)
          have x7 : V 7 = .pointer (some ⟨w4.heap.size, 0, none⟩) := (hV 7 (by simp)).trans rfl
          have gd : V 116 = .bool true := hd ⟨2, .guard⟩ (by simp) rfl
          refine ⟨fun _ => ?_, fun hw => absurd ((wanted_of rfl rfl (by decide) gd).symm.trans hw) (by decide)⟩
          · exact yield_ras rfl ((frame_eval V (by decide)).trans x7) hRxb hc4 hHxb hS
        · obtain rfl : _ = o := Option.some.inj ((show _ = some _ from rfl).symm.trans ho)
          have x6 : V 6 = .pointer (some ⟨w1.heap.size + 1 + 1 + 1, 0, none⟩) := (hV 6 (by simp)).trans rfl
          have gd : V 116 = .bool true := hd ⟨2, .guard⟩ (by simp) rfl
          refine ⟨fun _ => ?_, fun hw => absurd ((wanted_of rfl rfl (by decide) gd).symm.trans hw) (by decide)⟩
          · exact yield_op rfl ((frame_eval V (by decide)).trans x6) hOtOb hS
        · obtain rfl : _ = o := Option.some.inj ((show _ = some _ from rfl).symm.trans ho)
          have d4 : V 118 = tO.v := hd ⟨4, .data⟩ (by simp) rfl
          have gd : V 116 = .bool true := hd ⟨2, .guard⟩ (by simp) rfl
          refine ⟨fun _ => ?_, fun hw => absurd ((wanted_of rfl rfl (by decide) gd).symm.trans hw) (by decide)⟩
          · exact yield_ops1 rfl ((frame_eval V (by decide)).trans d4) hS
        · obtain rfl : _ = o := Option.some.inj ((show _ = some _ from rfl).symm.trans ho)
          have d3 : IsRa x w (V 117) := hd ⟨3, .data⟩ (by simp) rfl
          have d5 : IsOps [tO] w (V 119) := hd ⟨5, .data⟩ (by simp) rfl
          have gd : V 116 = .bool true := hd ⟨2, .guard⟩ (by simp) rfl
          refine ⟨fun _ => ?_, fun hw => absurd ((wanted_of rfl rfl (by decide) gd).symm.trans hw) (by decide)⟩
          · exact yield_eaDo rfl (frame_eval V (by decide)) (frame_eval V (by decide)) d3 d5 HXO.out (can_t can_nil) (by simp) hRTb hS
        · obtain rfl : _ = o := Option.some.inj ((show _ = some _ from rfl).symm.trans ho)
          have x3 : V 3 = .pointer (some ⟨w1.heap.size, 0, none⟩) := (hV 3 (by simp)).trans rfl
          have gd : V 116 = .bool true := hd ⟨2, .guard⟩ (by simp) rfl
          refine ⟨fun _ => ?_, fun hw => absurd ((wanted_of rfl rfl (by decide) gd).symm.trans hw) (by decide)⟩
          · exact yield_ras rfl ((frame_eval V (by decide)).trans x3) hRrb hc1 hHrb hS
        · obtain rfl : _ = o := Option.some.inj ((show _ = some _ from rfl).symm.trans ho)
          have x6 : V 6 = .pointer (some ⟨w1.heap.size + 1 + 1 + 1, 0, none⟩) := (hV 6 (by simp)).trans rfl
          have gd : V 116 = .bool true := hd ⟨2, .guard⟩ (by simp) rfl
          refine ⟨fun _ => ?_, fun hw => absurd ((wanted_of rfl rfl (by decide) gd).symm.trans hw) (by decide)⟩
          · exact yield_op rfl ((frame_eval V (by decide)).trans x6) hOtOb hS
        · obtain rfl : _ = o := Option.some.inj ((show _ = some _ from rfl).symm.trans ho)
          have x5 : V 5 = .pointer (some ⟨w1.heap.size + 1 + 1, 0, none⟩) := (hV 5 (by simp)).trans rfl
          have gd : V 116 = .bool true := hd ⟨2, .guard⟩ (by simp) rfl
          refine ⟨fun _ => ?_, fun hw => absurd ((wanted_of rfl rfl (by decide) gd).symm.trans hw) (by decide)⟩
          · exact yield_op rfl ((frame_eval V (by decide)).trans x5) hOgOb hS
        · obtain rfl : _ = o := Option.some.inj ((show _ = some _ from rfl).symm.trans ho)
          have d8 : V 122 = tO.v := hd ⟨8, .data⟩ (by simp) rfl
          have d9 : V 123 = gO.v := hd ⟨9, .data⟩ (by simp) rfl
          have gd : V 116 = .bool true := hd ⟨2, .guard⟩ (by simp) rfl
          refine ⟨fun _ => ?_, fun hw => absurd ((wanted_of rfl rfl (by decide) gd).symm.trans hw) (by decide)⟩
          · exact yield_ops2 rfl ((frame_eval V (by decide)).trans d8) ((frame_eval V (by decide)).trans d9) hS
        · obtain rfl : _ = o := Option.some.inj ((show _ = some _ from rfl).symm.trans ho)
          have d7 : IsRa r w (V 121) := hd ⟨7, .data⟩ (by simp) rfl
          have d10 : IsOps [tO, gO] w (V 124) := hd ⟨10, .data⟩ (by simp) rfl
          have gd : V 116 = .bool true := hd ⟨2, .guard⟩ (by simp) rfl
          refine ⟨fun _ => ?_, fun hw => absurd ((wanted_of rfl rfl (by decide) gd).symm.trans hw) (by decide)⟩
          · exact yield_eaDo rfl (frame_eval V (by decide)) (frame_eval V (by decide)) d7 d10 HOK.out (can_t (can_g can_nil)) (by simp) hRTb hS
        · obtain rfl : _ = o := Option.some.inj ((show _ = some _ from rfl).symm.trans ho)
          have d6 : IsRa (eaR x [tO]) w (V 120) := hd ⟨6, .data⟩ (by simp) rfl
          have d11 : IsRa (eaR r [tO, gO]) w (V 125) := hd ⟨11, .data⟩ (by simp) rfl
          have gd : V 116 = .bool true := hd ⟨2, .guard⟩ (by simp) rfl
          refine ⟨fun _ => ?_, fun hw => absurd ((wanted_of rfl rfl (by decide) gd).symm.trans hw) (by decide)⟩
          · exact yield_eaRas rfl (frame_eval V (by decide)) (frame_eval V (by decide)) d6 d11 (ea_ok HXO.out (can_t can_nil)) (by rw [ea_t HXO.out, ea_t HOK.out, ea_g (turnR_ok HOK.out), eaR_nil, eaR_nil, ← HEx.out]; exact (each_turn HOK.out fun _ h => grayP_ok h).symm) hS
        · obtain rfl : _ = o := Option.some.inj ((show _ = some _ from rfl).symm.trans ho)
          have d2 : V 116 = .bool true := hd ⟨2, .data⟩ (by simp) rfl
          have d12 : V 126 = .bool true := hd ⟨12, .data⟩ (by simp) rfl
          refine ⟨fun _ => ?_, fun hw => absurd (show true = false from hw) (by decide)⟩
          · exact yield_pick rfl ((frame_eval V (by decide)).trans d2) ((frame_eval V (by decide)).trans d12) hS
        · obtain rfl : _ = o := Option.some.inj ((show _ = some _ from rfl).symm.trans ho)
          have d13 : V 127 = .bool true := hd ⟨13, .data⟩ (by simp) rfl
          refine ⟨fun _ => ?_, fun hw => absurd (show true = false from hw) (by decide)⟩
          · exact yield_copy (.inr rfl) ((frame_eval V (by decide)).trans d13) hS
      · intro V wx hS hV hall
        have dl : V 2 = .bool true := hall 14 (by decide)
        rw [frame_all (n := 128) (D := [114, 115, 116, 117, 118, 119, 120, 121, 122, 123, 124, 125, 126, 127, 2]) rfl rfl (by decide) hV]
        simp only [List.foldl_cons, List.foldl_nil, Act.put, List.setIfInBounds_toArray, List.set_cons_zero, List.set_cons_succ]
        rw [dl]
        have HE := Lib.hid (HB6.out.trans ((HBD.out.trans (hS.mono HBD.out.size)).mono HB6.out.size))
        clear hall hV dl hS hRrb hHrb hRxb hHxb hRyb hHyb hOgOb hOtOb hRTb HBQ x2
        go_wp2_with fail
        go_ret
        exact ⟨rfl, HE.out⟩
theorem fnOpGray_walk (A : Option Addr) (c : Nat) (l : List UInt8) (w : World) (hR : RangesIn w) (h : Has w w.heap.size A l) (hc : l.length ≤ c) :
    Calls Tryd.prog 7 #[.slice A l.length c] w fun e w' => e = .returned (.bool true) ∧ Below w.heap.size w w' := by
  by_cases hbig : l.length ≤ 1048576
  · exact fnOpGray_small A c l w hR h hc hbig
  · have hl0 : (1048576 : Int) < (l.length : Int) := by omega
    clear h hc hbig
    go_enter Tryd.func7, Tryd.ntmps7
    go_wp2_with fail
    go_ret
    exact ⟨rfl, Below.refl _ _⟩
end Go.Proofs.YthdggnfffebnlaaDoor
