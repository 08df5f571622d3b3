/-
  The law FnOpFlip returns true for every list of bytes to draw from. Condition: the table of ranges reads as the program's text lays it.
-/
import Derived.Test.YthdggnfffebnlaaDoorRanL
import Derived.Test.YthdggnfffebnlaaDoorDrawOpA
import Derived.Test.YthdggnfffebnlaaDoorEaC
import Derived.Test.YthdggnfffebnlaaDoorRegL
import Derived.Test.YthdggnfffebnlaaDoorRasS
import Derived.Test.YthdggnfffebnlaaDoorRegM
namespace Go.Proofs.YthdggnfffebnlaaDoor
set_option maxRecDepth 4000
open Go.RowKit

set_option maxHeartbeats 8000000 in
theorem fnOpFlip_small (A : Option Addr) (c : Nat) (l : List UInt8) (w : World) (hR : RangesIn w) (h : Has w w.heap.size A l) (hc : l.length ≤ c) (hs : l.length ≤ 1048576) :
    Calls Tryd.prog 5 #[.slice A l.length c] w fun e w' => e = .returned (.bool true) ∧ Below w.heap.size w w' := by
  have C1 := Lib.hid (drawOpDo_any A c l w (by omega) hc h)
  have HRW := Lib.hid hR
  have hl0 : ¬ ((1048576 : Int) < (l.length : Int)) := by omega
  clear h hs hc hR
  go_enter Tryd.func5, Tryd.ntmps5
  go_wp2_with fail
  refine C1.out.mono ?_
  rintro e w1 ⟨W, H, A1, c1, l1, q, rfl, hh1, hc1, hl1, B1⟩
  have CSK := Lib.hid fun u hh => specRasOk_any W H A1 c1 l1 u (by omega) hh
  have CIK := Lib.hid fun u hh => implRasOk_any W H A1 c1 l1 u (by omega) hh
  unfold rasV at CSK CIK ⊢
  unfold Op.v
  have b2 : Below w1.heap.size w1 ((((w1.alloc (.cells #[.int .i64 W, .int .i64 H, .slice A1 l1.length c1] 34)).alloc (.cells #[.int .i64 q.k, .int .i64 q.a, .int .i64 q.b, .int .i64 q.c, .int .i64 q.d] 25)).alloc (.cells #[.int .i64 2, .int .i64 0, .int .i64 0, .int .i64 0, .int .i64 0] 25)).alloc (.cells #[.int .i64 3, .int .i64 0, .int .i64 0, .int .i64 0, .int .i64 0] 25)) := ((((Below.refl _ w1).alloc (Nat.le_refl _) _).alloc (by simp) _).alloc (by simp; omega) _).alloc (by simp; omega) _
  have HRb2 : Hid (RasAtB ((((w1.alloc (.cells #[.int .i64 W, .int .i64 H, .slice A1 l1.length c1] 34)).alloc (.cells #[.int .i64 q.k, .int .i64 q.a, .int .i64 q.b, .int .i64 q.c, .int .i64 q.d] 25)).alloc (.cells #[.int .i64 2, .int .i64 0, .int .i64 0, .int .i64 0, .int .i64 0] 25)).alloc (.cells #[.int .i64 3, .int .i64 0, .int .i64 0, .int .i64 0, .int .i64 0] 25)) w1.heap.size W H A1 l1.length c1 34) := Lib.hid (Box.alloc (Box.alloc (Box.alloc (Box.new w1 _ _) _) _) _)
  have HOxO2 : Hid (OpAtB ((((w1.alloc (.cells #[.int .i64 W, .int .i64 H, .slice A1 l1.length c1] 34)).alloc (.cells #[.int .i64 q.k, .int .i64 q.a, .int .i64 q.b, .int .i64 q.c, .int .i64 q.d] 25)).alloc (.cells #[.int .i64 2, .int .i64 0, .int .i64 0, .int .i64 0, .int .i64 0] 25)).alloc (.cells #[.int .i64 3, .int .i64 0, .int .i64 0, .int .i64 0, .int .i64 0] 25)) (w1.heap.size + 1 + 1) xO) := Lib.hid (Box.alloc (by
      have := Box.new ((w1.alloc (.cells #[.int .i64 W, .int .i64 H, .slice A1 l1.length c1] 34)).alloc (.cells #[.int .i64 q.k, .int .i64 q.a, .int .i64 q.b, .int .i64 q.c, .int .i64 q.d] 25)) #[.int .i64 2, .int .i64 0, .int .i64 0, .int .i64 0, .int .i64 0] 25
      rw [show ((w1.alloc (.cells #[.int .i64 W, .int .i64 H, .slice A1 l1.length c1] 34)).alloc (.cells #[.int .i64 q.k, .int .i64 q.a, .int .i64 q.b, .int .i64 q.c, .int .i64 q.d] 25)).heap.size = w1.heap.size + 1 + 1 from by simp] at this
      exact this) _)
  have HOyO2 : Hid (OpAtB ((((w1.alloc (.cells #[.int .i64 W, .int .i64 H, .slice A1 l1.length c1] 34)).alloc (.cells #[.int .i64 q.k, .int .i64 q.a, .int .i64 q.b, .int .i64 q.c, .int .i64 q.d] 25)).alloc (.cells #[.int .i64 2, .int .i64 0, .int .i64 0, .int .i64 0, .int .i64 0] 25)).alloc (.cells #[.int .i64 3, .int .i64 0, .int .i64 0, .int .i64 0, .int .i64 0] 25)) (w1.heap.size + 1 + 1 + 1) yO) := Lib.hid (by
      have := Box.new (((w1.alloc (.cells #[.int .i64 W, .int .i64 H, .slice A1 l1.length c1] 34)).alloc (.cells #[.int .i64 q.k, .int .i64 q.a, .int .i64 q.b, .int .i64 q.c, .int .i64 q.d] 25)).alloc (.cells #[.int .i64 2, .int .i64 0, .int .i64 0, .int .i64 0, .int .i64 0] 25)) #[.int .i64 3, .int .i64 0, .int .i64 0, .int .i64 0, .int .i64 0] 25
      rw [show (((w1.alloc (.cells #[.int .i64 W, .int .i64 H, .slice A1 l1.length c1] 34)).alloc (.cells #[.int .i64 q.k, .int .i64 q.a, .int .i64 q.b, .int .i64 q.c, .int .i64 q.d] 25)).alloc (.cells #[.int .i64 2, .int .i64 0, .int .i64 0, .int .i64 0, .int .i64 0] 25)).heap.size = w1.heap.size + 1 + 1 + 1 from by simp] at this
      exact this)
  have HH2 := Lib.hid (hh1.carry b2 (Nat.le_refl _) b2.size)
  have HB2 := Lib.hid (B1.trans (b2.mono B1.size))
  clear b2 hh1 B1 C1
  go_wp2_with fail
  generalize ((((w1.alloc (.cells #[.int .i64 W, .int .i64 H, .slice A1 l1.length c1] 34)).alloc (.cells #[.int .i64 q.k, .int .i64 q.a, .int .i64 q.b, .int .i64 q.c, .int .i64 q.d] 25)).alloc (.cells #[.int .i64 2, .int .i64 0, .int .i64 0, .int .i64 0, .int .i64 0] 25)).alloc (.cells #[.int .i64 3, .int .i64 0, .int .i64 0, .int .i64 0, .int .i64 0] 25)) = w2 at *
  have r0 := HRb2.out.c0
  have r1 := HRb2.out.c1
  have r2 := HRb2.out.c2
  go_wp2_with fail
  refine (CSK.out _ HH2.out).mono ?_
  rintro e w3 ⟨rfl, b3⟩
  have HRb3 := Lib.hid (HRb2.out.below b3 HRb2.out.lt)
  have HOxO3 : Hid (OpAtB w3 (w1.heap.size + 1 + 1) xO) := Lib.hid (Box.below HOxO2.out b3 (Box.lt HOxO2.out))
  have HOyO3 : Hid (OpAtB w3 (w1.heap.size + 1 + 1 + 1) yO) := Lib.hid (Box.below HOyO2.out b3 (Box.lt HOyO2.out))
  have HH3 := Lib.hid (HH2.out.carry b3 (Nat.le_refl _) b3.size)
  have HB3 := Lib.hid (HB2.out.trans (b3.mono HB2.out.size))
  have HR3 := Lib.hid (HRW.out.below HB3.out HRW.out.1)
  clear b3 r0 r1 r2 HRb2 HOxO2 HOyO2 HH2 HB2 CSK
  cases hok : rasB W H l1
  · have CK := Lib.hid (CIK.out w3 HH3.out)
    rw [hok] at CK
    have r0 := HRb3.out.c0
    have r1 := HRb3.out.c1
    have r2 := HRb3.out.c2
    clear hok
    go_wp2_with fail
    refine CK.out.mono ?_
    rintro e w4 ⟨rfl, b4⟩
    have HB4 := Lib.hid (HB3.out.trans (b4.mono HB3.out.size))
    clear b4
    go_wp2_with fail
    refine (eaOk_any _).mono ?_
    rintro e w5 ⟨rfl, b5⟩
    have HB5 := Lib.hid (HB4.out.trans (b5.mono HB4.out.size))
    clear b5
    go_wp2_with fail
    go_ret
    exact ⟨rfl, HB5.out⟩
  obtain ⟨r, rfl, rfl, rfl⟩ : ∃ r : Ra, W = (r.w : Int) ∧ H = (r.h : Int) ∧ l1 = r.p := by
    obtain ⟨hW, hH, -, -⟩ := rasB_parts hok
    exact ⟨⟨W.toNat, H.toNat, l1⟩, by simp only; omega, by simp only; omega, rfl⟩
  have hr : r.ok := hok
  have HRP := Lib.hid hr.parts
  clear hok CIK hl1
  have HRr3 := HRb3
  have HHr3 := HH3
  have HRT3 := HR3
  clear HRb3 HH3 HR3
  have rc0 := RasAtB.c0 HRr3.out
  have rc1 := RasAtB.c1 HRr3.out
  have rc2 := RasAtB.c2 HRr3.out
  obtain ⟨xOe0, xOe1, xOe2, xOe3, xOe4⟩ := OpAtB.cs HOxO3.out
  have CE4 : Hid (Calls Tryd.prog 23 #[.agg #[.int .i64 (r.w : Int), .int .i64 (r.h : Int), .slice A1 r.p.length c1], .slice (some ⟨w3.heap.size, 0, none⟩) 1 1] (w3.alloc (.cells #[.int .i64 xO.k, .int .i64 xO.a, .int .i64 xO.b, .int .i64 xO.c, .int .i64 xO.d] 25)) (EaDid (flipXR r) (w3.alloc (.cells #[.int .i64 xO.k, .int .i64 xO.a, .int .i64 xO.b, .int .i64 xO.c, .int .i64 xO.d] 25)))) := Lib.hid (by
    have bbel : Below w3.heap.size w3 (w3.alloc (.cells #[.int .i64 xO.k, .int .i64 xO.a, .int .i64 xO.b, .int .i64 xO.c, .int .i64 xO.d] 25)) := ((Below.refl w3.heap.size w3).alloc (Nat.le_refl _) _)
    have hlst : opE.Has (w3.alloc (.cells #[.int .i64 xO.k, .int .i64 xO.a, .int .i64 xO.b, .int .i64 xO.c, .int .i64 xO.d] 25)) (w3.alloc (.cells #[.int .i64 xO.k, .int .i64 xO.a, .int .i64 xO.b, .int .i64 xO.c, .int .i64 xO.d] 25)).heap.size (some ⟨w3.heap.size, 0, none⟩) [xO] := by
      have := El.Has.laid opE w3 [xO] 25
      exact this.wider (by simp)
    have := eaDo_any r A1 c1 (some ⟨w3.heap.size, 0, none⟩) 1 [xO] _ hr (can_x can_nil) (HRT3.out.next bbel) hc1 (HHr3.out.carry bbel (Nat.le_refl _) bbel.size) hlst (by simp)
    rw [ea_x hr, eaR_nil] at this
    exact this)
  go_wp2_with fail
  refine CE4.out.mono ?_
  rintro e w4 ⟨v4, rfl, ⟨A4, c4, rfl, hc4, hh4⟩, b4⟩
  clear CE4
  clear rc0 rc1 rc2 xOe0 xOe1 xOe2 xOe3 xOe4
  obtain ⟨ra, hra⟩ : ∃ s, flipXR r = s := ⟨_, rfl⟩
  rw [hra] at hc4 hh4 ⊢
  have HEra := Lib.hid hra
  clear hra
  unfold raV rasV
  have bb4 : Below w3.heap.size w3 w4 := (((Below.refl w3.heap.size w3).alloc (Nat.le_refl _) (.cells #[.int .i64 xO.k, .int .i64 xO.a, .int .i64 xO.b, .int .i64 xO.c, .int .i64 xO.d] 25))).trans (b4.mono (((Below.refl w3.heap.size w3).alloc (Nat.le_refl _) (.cells #[.int .i64 xO.k, .int .i64 xO.a, .int .i64 xO.b, .int .i64 xO.c, .int .i64 xO.d] 25))).size)
  have bc4 : Below w3.heap.size w3 w4 := ((Below.refl w3.heap.size w3)).trans (bb4.mono ((Below.refl w3.heap.size w3)).size)
  have HRr4 : Hid (RasAtB w4 (w1.heap.size) r.w r.h A1 r.p.length c1 34) := Lib.hid (Box.below HRr3.out bc4 (RasAtB.lt HRr3.out))
  have HHr4 : Hid (HasP w4 w4.heap.size A1 r.p) := Lib.hid (HHr3.out.carry bc4 (Nat.le_refl _) bc4.size)
  have HOxO4 : Hid (OpAtB w4 (w1.heap.size + 1 + 1) xO) := Lib.hid (Box.below HOxO3.out bc4 (Box.lt HOxO3.out))
  have HOyO4 : Hid (OpAtB w4 (w1.heap.size + 1 + 1 + 1) yO) := Lib.hid (Box.below HOyO3.out bc4 (Box.lt HOyO3.out))
  have HB4 := Lib.hid (HB3.out.trans (bc4.mono HB3.out.size))
  have HRT4 : Hid (RangesIn w4) := Lib.hid (HRT3.out.next bc4)
  clear HRr3 HHr3 HOxO3 HOyO3 HB3 HRT3
  clear bb4 bc4
  have HHra4 : Hid (HasP w4 w4.heap.size A4 ra.p) := Lib.hid hh4
  clear hh4 b4
  have HRra4 : Hid (RasAtB (w4.alloc (.cells #[.int .i64 (ra.w : Int), .int .i64 (ra.h : Int), .slice A4 ra.p.length c4] 34)) (w4.heap.size) ra.w ra.h A4 ra.p.length c4 34) := Lib.hid (Box.new w4 _ _)
  have rc0 := RasAtB.c0 HRr4.out
  have rc1 := RasAtB.c1 HRr4.out
  have rc2 := RasAtB.c2 HRr4.out
  obtain ⟨yOe0, yOe1, yOe2, yOe3, yOe4⟩ := OpAtB.cs HOyO4.out
  have rn0 : w1.heap.size < w4.heap.size := by have := RasAtB.lt HRr4.out; omega
  have yOn0 : w1.heap.size + 1 + 1 + 1 < w4.heap.size := by have := Box.lt HOyO4.out; omega
  have CE5 : Hid (Calls Tryd.prog 23 #[.agg #[.int .i64 (r.w : Int), .int .i64 (r.h : Int), .slice A1 r.p.length c1], .slice (some ⟨w4.heap.size + 1, 0, none⟩) 1 1] ((w4.alloc (.cells #[.int .i64 (ra.w : Int), .int .i64 (ra.h : Int), .slice A4 ra.p.length c4] 34)).alloc (.cells #[.int .i64 yO.k, .int .i64 yO.a, .int .i64 yO.b, .int .i64 yO.c, .int .i64 yO.d] 25)) (EaDid (flipYR r) ((w4.alloc (.cells #[.int .i64 (ra.w : Int), .int .i64 (ra.h : Int), .slice A4 ra.p.length c4] 34)).alloc (.cells #[.int .i64 yO.k, .int .i64 yO.a, .int .i64 yO.b, .int .i64 yO.c, .int .i64 yO.d] 25)))) := Lib.hid (by
    have bbel : Below w4.heap.size w4 ((w4.alloc (.cells #[.int .i64 (ra.w : Int), .int .i64 (ra.h : Int), .slice A4 ra.p.length c4] 34)).alloc (.cells #[.int .i64 yO.k, .int .i64 yO.a, .int .i64 yO.b, .int .i64 yO.c, .int .i64 yO.d] 25)) := (((Below.refl w4.heap.size w4).alloc (Nat.le_refl _) _).alloc (by simp) _)
    have hlst : opE.Has ((w4.alloc (.cells #[.int .i64 (ra.w : Int), .int .i64 (ra.h : Int), .slice A4 ra.p.length c4] 34)).alloc (.cells #[.int .i64 yO.k, .int .i64 yO.a, .int .i64 yO.b, .int .i64 yO.c, .int .i64 yO.d] 25)) ((w4.alloc (.cells #[.int .i64 (ra.w : Int), .int .i64 (ra.h : Int), .slice A4 ra.p.length c4] 34)).alloc (.cells #[.int .i64 yO.k, .int .i64 yO.a, .int .i64 yO.b, .int .i64 yO.c, .int .i64 yO.d] 25)).heap.size (some ⟨w4.heap.size + 1, 0, none⟩) [yO] := by
      have := El.Has.laid opE (w4.alloc (.cells #[.int .i64 (ra.w : Int), .int .i64 (ra.h : Int), .slice A4 ra.p.length c4] 34)) [yO] 25
      rw [show (w4.alloc (.cells #[.int .i64 (ra.w : Int), .int .i64 (ra.h : Int), .slice A4 ra.p.length c4] 34)).heap.size = w4.heap.size + 1 from by simp] at this
      exact this.wider (by simp)
    have := eaDo_any r A1 c1 (some ⟨w4.heap.size + 1, 0, none⟩) 1 [yO] _ hr (can_y can_nil) (HRT4.out.next bbel) hc1 (HHr4.out.carry bbel (Nat.le_refl _) bbel.size) hlst (by simp)
    rw [ea_y hr, eaR_nil] at this
    exact this)
  go_wp2_with fail
  refine CE5.out.mono ?_
  rintro e w5 ⟨v5, rfl, ⟨A5, c5, rfl, hc5, hh5⟩, b5⟩
  clear CE5
  clear rc0 rc1 rc2 yOe0 yOe1 yOe2 yOe3 yOe4 rn0 yOn0
  obtain ⟨rb, hrb⟩ : ∃ s, flipYR r = s := ⟨_, rfl⟩
  rw [hrb] at hc5 hh5 ⊢
  have HErb := Lib.hid hrb
  clear hrb
  unfold raV rasV
  have bb5 : Below (w4.alloc (.cells #[.int .i64 (ra.w : Int), .int .i64 (ra.h : Int), .slice A4 ra.p.length c4] 34)).heap.size (w4.alloc (.cells #[.int .i64 (ra.w : Int), .int .i64 (ra.h : Int), .slice A4 ra.p.length c4] 34)) w5 := (((Below.refl (w4.alloc (.cells #[.int .i64 (ra.w : Int), .int .i64 (ra.h : Int), .slice A4 ra.p.length c4] 34)).heap.size (w4.alloc (.cells #[.int .i64 (ra.w : Int), .int .i64 (ra.h : Int), .slice A4 ra.p.length c4] 34))).alloc (Nat.le_refl _) (.cells #[.int .i64 yO.k, .int .i64 yO.a, .int .i64 yO.b, .int .i64 yO.c, .int .i64 yO.d] 25))).trans (b5.mono (((Below.refl (w4.alloc (.cells #[.int .i64 (ra.w : Int), .int .i64 (ra.h : Int), .slice A4 ra.p.length c4] 34)).heap.size (w4.alloc (.cells #[.int .i64 (ra.w : Int), .int .i64 (ra.h : Int), .slice A4 ra.p.length c4] 34))).alloc (Nat.le_refl _) (.cells #[.int .i64 yO.k, .int .i64 yO.a, .int .i64 yO.b, .int .i64 yO.c, .int .i64 yO.d] 25))).size)
  have bc5 : Below w4.heap.size w4 w5 := (((Below.refl w4.heap.size w4).alloc (Nat.le_refl _) _)).trans (bb5.mono (((Below.refl w4.heap.size w4).alloc (Nat.le_refl _) _)).size)
  have HRra5 : Hid (RasAtB w5 (w4.heap.size) ra.w ra.h A4 ra.p.length c4 34) := Lib.hid (Box.below HRra4.out bb5 (RasAtB.lt HRra4.out))
  have HHra5 : Hid (HasP w5 w5.heap.size A4 ra.p) := Lib.hid (HHra4.out.carry bc5 (Nat.le_refl _) bc5.size)
  have HRr5 : Hid (RasAtB w5 (w1.heap.size) r.w r.h A1 r.p.length c1 34) := Lib.hid (Box.below HRr4.out bc5 (RasAtB.lt HRr4.out))
  have HHr5 : Hid (HasP w5 w5.heap.size A1 r.p) := Lib.hid (HHr4.out.carry bc5 (Nat.le_refl _) bc5.size)
  have HOxO5 : Hid (OpAtB w5 (w1.heap.size + 1 + 1) xO) := Lib.hid (Box.below HOxO4.out bc5 (Box.lt HOxO4.out))
  have HOyO5 : Hid (OpAtB w5 (w1.heap.size + 1 + 1 + 1) yO) := Lib.hid (Box.below HOyO4.out bc5 (Box.lt HOyO4.out))
  have HB5 := Lib.hid (HB4.out.trans (bc5.mono HB4.out.size))
  have HRT5 : Hid (RangesIn w5) := Lib.hid (HRT4.out.next bc5)
  clear HRr4 HHr4 HRra4 HHra4 HOxO4 HOyO4 HB4 HRT4
  clear bb5 bc5
  have HHrb5 : Hid (HasP w5 w5.heap.size A5 rb.p) := Lib.hid hh5
  clear hh5 b5
  have HRrb5 : Hid (RasAtB (w5.alloc (.cells #[.int .i64 (rb.w : Int), .int .i64 (rb.h : Int), .slice A5 rb.p.length c5] 34)) (w5.heap.size) rb.w rb.h A5 rb.p.length c5 34) := Lib.hid (Box.new w5 _ _)
  have HBN6 : Hid (Below w5.heap.size w5 (w5.alloc (.cells #[.int .i64 (rb.w : Int), .int .i64 (rb.h : Int), .slice A5 rb.p.length c5] 34))) := Lib.hid ((Below.refl w5.heap.size w5).alloc (Nat.le_refl _) _)
  go_wp2_with fail
  generalize w5.alloc (.cells #[.int .i64 (rb.w : Int), .int .i64 (rb.h : Int), .slice A5 rb.p.length c5] 34) = w6 at *
  have b6 := HBN6.out
  have HRrb6 : Hid (RasAtB w6 (w5.heap.size) rb.w rb.h A5 rb.p.length c5 34) := HRrb5
  have HHrb6 : Hid (HasP w6 w6.heap.size A5 rb.p) := Lib.hid (HHrb5.out.carry b6 (Nat.le_refl _) b6.size)
  have HRr6 : Hid (RasAtB w6 (w1.heap.size) r.w r.h A1 r.p.length c1 34) := Lib.hid (Box.below HRr5.out b6 (RasAtB.lt HRr5.out))
  have HHr6 : Hid (HasP w6 w6.heap.size A1 r.p) := Lib.hid (HHr5.out.carry b6 (Nat.le_refl _) b6.size)
  have HRra6 : Hid (RasAtB w6 (w4.heap.size) ra.w ra.h A4 ra.p.length c4 34) := Lib.hid (Box.below HRra5.out b6 (RasAtB.lt HRra5.out))
  have HHra6 : Hid (HasP w6 w6.heap.size A4 ra.p) := Lib.hid (HHra5.out.carry b6 (Nat.le_refl _) b6.size)
  have HOxO6 : Hid (OpAtB w6 (w1.heap.size + 1 + 1) xO) := Lib.hid (Box.below HOxO5.out b6 (Box.lt HOxO5.out))
  have HOyO6 : Hid (OpAtB w6 (w1.heap.size + 1 + 1 + 1) yO) := Lib.hid (Box.below HOyO5.out b6 (Box.lt HOyO5.out))
  have HB6 := Lib.hid (HB5.out.trans (b6.mono HB5.out.size))
  have HRT6 : Hid (RangesIn w6) := Lib.hid (HRT5.out.next b6)
  clear HRr5 HHr5 HRra5 HHra5 HRrb5 HHrb5 HOxO5 HOyO5 HB5 HRT5
  clear b6 HBN6
  have hraw : ra.w = r.w ∧ ra.h = r.h ∧ ra.ok := by rw [← HEra.out]; exact ⟨rfl, rfl, flipXR_ok hr⟩
  have hrbw : rb.w = r.w ∧ rb.h = r.h ∧ rb.ok := by rw [← HErb.out]; exact ⟨rfl, rfl, flipYR_ok hr⟩
  have HRA := Lib.hid hraw
  have HRB := Lib.hid hrbw
  have HOK := Lib.hid hr
  have hw6 : r.w ≤ 6 := hr.parts.1.2
  have hh6 : r.h ≤ 6 := hr.parts.2.1.2
  clear hraw hrbw hr
  go_loopw [9] (fun v wr => ∃ k : Nat, k ≤ r.h ∧ v = .int .i64 (k : Int) ∧ Below w6.heap.size w6 wr) (fun v _ => r.h - (intOf v).toNat)
  case atStart => exact ⟨0, Nat.zero_le _, rfl, Below.refl _ _⟩
  case round =>
    obtain ⟨k, hk, rfl, hbq⟩ := hrel
    have hRrq : RasAtB wr (w1.heap.size) r.w r.h A1 r.p.length c1 34 := Box.below HRr6.out hbq (RasAtB.lt HRr6.out)
    have hHrq : HasP wr wr.heap.size A1 r.p := HHr6.out.carry hbq (Nat.le_refl _) hbq.size
    have hRraq : RasAtB wr (w4.heap.size) ra.w ra.h A4 ra.p.length c4 34 := Box.below HRra6.out hbq (RasAtB.lt HRra6.out)
    have hHraq : HasP wr wr.heap.size A4 ra.p := HHra6.out.carry hbq (Nat.le_refl _) hbq.size
    have hRrbq : RasAtB wr (w5.heap.size) rb.w rb.h A5 rb.p.length c5 34 := Box.below HRrb6.out hbq (RasAtB.lt HRrb6.out)
    have hHrbq : HasP wr wr.heap.size A5 rb.p := HHrb6.out.carry hbq (Nat.le_refl _) hbq.size
    have hOxOq : OpAtB wr (w1.heap.size + 1 + 1) xO := Box.below HOxO6.out hbq (Box.lt HOxO6.out)
    have hOyOq : OpAtB wr (w1.heap.size + 1 + 1 + 1) yO := Box.below HOyO6.out hbq (Box.lt HOyO6.out)
    have hRTq : RangesIn wr := HRT6.out.next hbq
    have r1 := RasAtB.c1 hRrq
    have HBQ := Lib.hid hbq
    clear hRrq hHrq hRraq hHraq hRrbq hHrbq hOxOq hOyOq hRTq hbq
    by_cases hlt : k < r.h
    · go_wp2_with fail
      clear r1
      go_loopw [10] (fun v wr => ∃ j : Nat, j ≤ r.w ∧ v = .int .i64 (j : Int) ∧ Below w6.heap.size w6 wr) (fun v _ => r.w - (intOf v).toNat)
      case atStart => exact ⟨0, Nat.zero_le _, rfl, HBQ.out⟩
      case round =>
        clear HBQ
        obtain ⟨j, hj, rfl, hbq⟩ := hrel
        have hRrq : RasAtB wr (w1.heap.size) r.w r.h A1 r.p.length c1 34 := Box.below HRr6.out hbq (RasAtB.lt HRr6.out)
        have hHrq : HasP wr wr.heap.size A1 r.p := HHr6.out.carry hbq (Nat.le_refl _) hbq.size
        have hRraq : RasAtB wr (w4.heap.size) ra.w ra.h A4 ra.p.length c4 34 := Box.below HRra6.out hbq (RasAtB.lt HRra6.out)
        have hHraq : HasP wr wr.heap.size A4 ra.p := HHra6.out.carry hbq (Nat.le_refl _) hbq.size
        have hRrbq : RasAtB wr (w5.heap.size) rb.w rb.h A5 rb.p.length c5 34 := Box.below HRrb6.out hbq (RasAtB.lt HRrb6.out)
        have hHrbq : HasP wr wr.heap.size A5 rb.p := HHrb6.out.carry hbq (Nat.le_refl _) hbq.size
        have hOxOq : OpAtB wr (w1.heap.size + 1 + 1) xO := Box.below HOxO6.out hbq (Box.lt HOxO6.out)
        have hOyOq : OpAtB wr (w1.heap.size + 1 + 1 + 1) yO := Box.below HOyO6.out hbq (Box.lt HOyO6.out)
        have hRTq : RangesIn wr := HRT6.out.next hbq
        have r0 := RasAtB.c0 hRrq
        have HBQ := Lib.hid hbq
        clear hRrq hHrq hRraq hHraq hRrbq hHrbq hOxOq hOyOq hRTq
        by_cases hltj : j < r.w
        · have hbd : Below w6.heap.size w6 wr.drew := below_draws hbq 1
          have hRrb : RasAtB wr.drew (w1.heap.size) r.w r.h A1 r.p.length c1 34 := Box.below HRr6.out hbd (RasAtB.lt HRr6.out)
          have hHrb : HasP wr.drew wr.drew.heap.size A1 r.p := HHr6.out.carry hbd (Nat.le_refl _) hbd.size
          have hRrab : RasAtB wr.drew (w4.heap.size) ra.w ra.h A4 ra.p.length c4 34 := Box.below HRra6.out hbd (RasAtB.lt HRra6.out)
          have hHrab : HasP wr.drew wr.drew.heap.size A4 ra.p := HHra6.out.carry hbd (Nat.le_refl _) hbd.size
          have hRrbb : RasAtB wr.drew (w5.heap.size) rb.w rb.h A5 rb.p.length c5 34 := Box.below HRrb6.out hbd (RasAtB.lt HRrb6.out)
          have hHrbb : HasP wr.drew wr.drew.heap.size A5 rb.p := HHrb6.out.carry hbd (Nat.le_refl _) hbd.size
          have hOxOb : OpAtB wr.drew (w1.heap.size + 1 + 1) xO := Box.below HOxO6.out hbd (Box.lt HOxO6.out)
          have hOyOb : OpAtB wr.drew (w1.heap.size + 1 + 1 + 1) yO := Box.below HOyO6.out hbd (Box.lt HOyO6.out)
          have hRTb : RangesIn wr.drew := HRT6.out.next hbd
          obtain ⟨m1, hm1⟩ : ∃ m1 : Nat, (r.w : Int) - 1 = (m1 : Int) := ⟨r.w - 1, by omega⟩
          obtain ⟨m2, hm2⟩ : ∃ m2 : Nat, (m1 : Int) - (j : Int) = (m2 : Int) := ⟨m1 - j, by omega⟩
          obtain ⟨n1, hn1⟩ : ∃ n1 : Nat, (r.h : Int) - 1 = (n1 : Int) := ⟨r.h - 1, by omega⟩
          obtain ⟨n2, hn2⟩ : ∃ n2 : Nat, (n1 : Int) - (k : Int) = (n2 : Int) := ⟨n1 - k, by omega⟩
          have hp1 : ra.at j k = r.at m2 k := by
            rw [← HEra.out, flipXR_at r hltj hlt, show r.w - 1 - j = m2 from by omega]
          have hp2 : rb.at j k = r.at j n2 := by
            rw [← HErb.out, flipYR_at r hltj hlt, show r.h - 1 - k = n2 from by omega]
          have HAL := Lib.hid (And.intro hbq (And.intro hbd (And.intro hm1 (And.intro hm2 (And.intro hn1 (And.intro hn2 (And.intro hp1 hp2)))))))
          clear hbq hbd hm1 hm2 hn1 hn2 hp1 hp2
          have HFS := Lib.hid (And.intro hRrb ( And.intro hHrb ( And.intro hRrab ( And.intro hHrab ( And.intro hRrbb ( And.intro hHrbb ( And.intro hOxOb ( And.intro hOyOb (hRTb)))))))))
          clear hRrb hHrb hRrab hHrab hRrbb hHrbb hOxOb hOyOb hRTb
          go_wp2_with fail
          obtain ⟨hRrb, hHrb, hRrab, hHrab, hRrbb, hHrbb, hOxOb, hOyOb, hRTb⟩ := HFS.out
          obtain ⟨hbq, hbd, hm1, hm2, hn1, hn2, hp1, hp2⟩ := HAL.out
          clear HFS HAL r0
          refine wp_region_kd 103 [50, 51, 52, 53, 54, 55, 56, 57, 58, 59, 60, 61, 62, 63, 64, 65, 66, 67, 68, 69, 70, 71, 72, 73, 74, 75, 76, 77] [(50, .ras ra), (51, .is (.int .i64 (j : Int))), (52, .is (.int .i64 (k : Int))), (53, .is ((ra.at j k).v)), (54, .ras r), (55, .is (.pointer (some ⟨w1.heap.size, 0, none⟩))), (56, .is (.int .i64 (r.w : Int))), (57, .is (.int .i64 (m1 : Int))), (58, .is (.int .i64 (j : Int))), (59, .is (.int .i64 (m2 : Int))), (60, .is (.int .i64 (k : Int))), (61, .is ((r.at m2 k).v)), (62, .is (.bool false)), (63, .is (.bool false)), (64, .ras rb), (65, .is (.int .i64 (j : Int))), (66, .is (.int .i64 (k : Int))), (67, .is ((rb.at j k).v)), (68, .ras r), (69, .is (.int .i64 (j : Int))), (70, .is (.pointer (some ⟨w1.heap.size, 1, none⟩))), (71, .is (.int .i64 (r.h : Int))), (72, .is (.int .i64 (n1 : Int))), (73, .is (.int .i64 (k : Int))), (74, .is (.int .i64 (n2 : Int))), (75, .is ((r.at j n2).v)), (76, .is (.bool false)), (77, .is (.bool false))] (Below wr.drew.heap.size wr.drew) (by kernel_rfl) (by kernel_rfl) rfl rfl (by decide) (by decide) rfl rfl (Below.refl _ _) ?_ ?_
          · intro i o V w ho hS hV hd
            have hi : i < 28 := (Array.getElem?_eq_some_iff.1 ho).1
            have hi2 : i = 0 ∨ i = 1 ∨ i = 2 ∨ i = 3 ∨ i = 4 ∨ i = 5 ∨ i = 6 ∨ i = 7 ∨ i = 8 ∨ i = 9 ∨ i = 10 ∨ i = 11 ∨ i = 12 ∨ i = 13 ∨ i = 14 ∨ i = 15 ∨ i = 16 ∨ i = 17 ∨ i = 18 ∨ i = 19 ∨ i = 20 ∨ i = 21 ∨ i = 22 ∨ i = 23 ∨ i = 24 ∨ i = 25 ∨ i = 26 ∨ i = 27 := by omega
            clear hi
            rcases hi2 with rfl | rfl | rfl | rfl | rfl | rfl | rfl | rfl | rfl | rfl | rfl | rfl | rfl | rfl | rfl | rfl | rfl | rfl | rfl | rfl | rfl | rfl | rfl | rfl | rfl | rfl | rfl | rfl
            · obtain rfl : _ = o := Option.some.inj ((show _ = some _ from rfl).symm.trans ho)
              have x7 : V 7 = .pointer (some ⟨w4.heap.size, 0, none⟩) := (hV 7 (by simp)).trans rfl
              refine ⟨fun _ => ?_, fun hw => absurd (show true = false from hw) (by decide)⟩
              · exact yield_ras rfl ((frame_eval V (by decide)).trans x7) hRrab hc4 hHrab hS
            · obtain rfl : _ = o := Option.some.inj ((show _ = some _ from rfl).symm.trans ho)
              have x10 : V 10 = .int .i64 (j : Int) := (hV 10 (by simp)).trans rfl
              refine ⟨fun _ => ?_, fun hw => absurd (show true = false from hw) (by decide)⟩
              · exact yield_copy (.inl rfl) ((frame_eval V (by decide)).trans x10) hS
            · obtain rfl : _ = o := Option.some.inj ((show _ = some _ from rfl).symm.trans ho)
              have x9 : V 9 = .int .i64 (k : Int) := (hV 9 (by simp)).trans rfl
              refine ⟨fun _ => ?_, fun hw => absurd (show true = false from hw) (by decide)⟩
              · exact yield_copy (.inl rfl) ((frame_eval V (by decide)).trans x9) hS
            · obtain rfl : _ = o := Option.some.inj ((show _ = some _ from rfl).symm.trans ho)
              have d0 : IsRa ra w (V 50) := hd ⟨0, .data⟩ (by simp) rfl
              have d1 : V 51 = .int .i64 (j : Int) := hd ⟨1, .data⟩ (by simp) rfl
              have d2 : V 52 = .int .i64 (k : Int) := hd ⟨2, .data⟩ (by simp) rfl
              refine ⟨fun _ => ?_, fun hw => absurd (show true = false from hw) (by decide)⟩
              · exact yield_rasAt rfl (frame_eval V (by decide)) ((frame_eval V (by decide)).trans d1) ((frame_eval V (by decide)).trans d2) d0 HRA.out.2.2 (by rw [HRA.out.1]; exact hltj) (by rw [HRA.out.2.1]; exact hlt) hS
            · obtain rfl : _ = o := Option.some.inj ((show _ = some _ from rfl).symm.trans ho)
              have x3 : V 3 = .pointer (some ⟨w1.heap.size, 0, none⟩) := (hV 3 (by simp)).trans rfl
              refine ⟨fun _ => ?_, fun hw => absurd (show true = false from hw) (by decide)⟩
              · exact yield_ras rfl ((frame_eval V (by decide)).trans x3) hRrb hc1 hHrb hS
            · obtain rfl : _ = o := Option.some.inj ((show _ = some _ from rfl).symm.trans ho)
              have x3 : V 3 = .pointer (some ⟨w1.heap.size, 0, none⟩) := (hV 3 (by simp)).trans rfl
              refine ⟨fun _ => ?_, fun hw => absurd (show true = false from hw) (by decide)⟩
              · exact yield_fld rfl ((frame_eval V (by decide)).trans x3) (fun w => fld_ras _ 0 (by decide) w) hS
            · obtain rfl : _ = o := Option.some.inj ((show _ = some _ from rfl).symm.trans ho)
              have d5 : V 55 = .pointer (some ⟨w1.heap.size, 0, none⟩) := hd ⟨5, .data⟩ (by simp) rfl
              refine ⟨fun _ => ?_, fun hw => absurd (show true = false from hw) (by decide)⟩
              · exact yield_cell rfl ((frame_eval V (by decide)).trans d5) (RasAtB.c0 hRrb) (RasAtB.lt hRrb) hS
            · obtain rfl : _ = o := Option.some.inj ((show _ = some _ from rfl).symm.trans ho)
              have d6 : V 56 = .int .i64 (r.w : Int) := hd ⟨6, .data⟩ (by simp) rfl
              refine ⟨fun _ => ?_, fun hw => absurd (show true = false from hw) (by decide)⟩
              · exact yield_sub rfl ((frame_eval V (by decide)).trans d6) rfl hm1 (by omega) hS
            · obtain rfl : _ = o := Option.some.inj ((show _ = some _ from rfl).symm.trans ho)
              have x10 : V 10 = .int .i64 (j : Int) := (hV 10 (by simp)).trans rfl
              refine ⟨fun _ => ?_, fun hw => absurd (show true = false from hw) (by decide)⟩
              · exact yield_copy (.inl rfl) ((frame_eval V (by decide)).trans x10) hS
            · obtain rfl : _ = o := Option.some.inj ((show _ = some _ from rfl).symm.trans ho)
              have d7 : V 57 = .int .i64 (m1 : Int) := hd ⟨7, .data⟩ (by simp) rfl
              have d8 : V 58 = .int .i64 (j : Int) := hd ⟨8, .data⟩ (by simp) rfl
              refine ⟨fun _ => ?_, fun hw => absurd (show true = false from hw) (by decide)⟩
              · exact yield_sub rfl ((frame_eval V (by decide)).trans d7) ((frame_eval V (by decide)).trans d8) hm2 (by omega) hS
            · obtain rfl : _ = o := Option.some.inj ((show _ = some _ from rfl).symm.trans ho)
              have x9 : V 9 = .int .i64 (k : Int) := (hV 9 (by simp)).trans rfl
              refine ⟨fun _ => ?_, fun hw => absurd (show true = false from hw) (by decide)⟩
              · exact yield_copy (.inl rfl) ((frame_eval V (by decide)).trans x9) hS
            · obtain rfl : _ = o := Option.some.inj ((show _ = some _ from rfl).symm.trans ho)
              have d4 : IsRa r w (V 54) := hd ⟨4, .data⟩ (by simp) rfl
              have d9 : V 59 = .int .i64 (m2 : Int) := hd ⟨9, .data⟩ (by simp) rfl
              have d10 : V 60 = .int .i64 (k : Int) := hd ⟨10, .data⟩ (by simp) rfl
              refine ⟨fun _ => ?_, fun hw => absurd (show true = false from hw) (by decide)⟩
              · exact yield_rasAt rfl (frame_eval V (by decide)) ((frame_eval V (by decide)).trans d9) ((frame_eval V (by decide)).trans d10) d4 HOK.out (by omega) hlt hS
            · obtain rfl : _ = o := Option.some.inj ((show _ = some _ from rfl).symm.trans ho)
              have d3 : V 53 = (ra.at j k).v := hd ⟨3, .data⟩ (by simp) rfl
              have d11 : V 61 = (r.at m2 k).v := hd ⟨11, .data⟩ (by simp) rfl
              refine ⟨fun _ => ?_, fun hw => absurd (show true = false from hw) (by decide)⟩
              · exact yield_neqPix rfl ((frame_eval V (by decide)).trans d3) ((frame_eval V (by decide)).trans d11) hp1 hS
            · obtain rfl : _ = o := Option.some.inj ((show _ = some _ from rfl).symm.trans ho)
              have d12 : V 62 = .bool false := hd ⟨12, .data⟩ (by simp) rfl
              refine ⟨fun _ => ?_, fun hw => absurd (show true = false from hw) (by decide)⟩
              · exact yield_copy (.inl rfl) ((frame_eval V (by decide)).trans d12) hS
            · obtain rfl : _ = o := Option.some.inj ((show _ = some _ from rfl).symm.trans ho)
              have x8 : V 8 = .pointer (some ⟨w5.heap.size, 0, none⟩) := (hV 8 (by simp)).trans rfl
              have gd : V 63 = .bool false := hd ⟨13, .guard⟩ (by simp) rfl
              refine ⟨fun _ => ?_, fun hw => absurd ((wanted_of rfl rfl (by decide) gd).symm.trans hw) (by decide)⟩
              · exact yield_ras rfl ((frame_eval V (by decide)).trans x8) hRrbb hc5 hHrbb hS
            · obtain rfl : _ = o := Option.some.inj ((show _ = some _ from rfl).symm.trans ho)
              have x10 : V 10 = .int .i64 (j : Int) := (hV 10 (by simp)).trans rfl
              have gd : V 63 = .bool false := hd ⟨13, .guard⟩ (by simp) rfl
              refine ⟨fun _ => ?_, fun hw => absurd ((wanted_of rfl rfl (by decide) gd).symm.trans hw) (by decide)⟩
              · exact yield_copy (.inl rfl) ((frame_eval V (by decide)).trans x10) hS
            · obtain rfl : _ = o := Option.some.inj ((show _ = some _ from rfl).symm.trans ho)
              have x9 : V 9 = .int .i64 (k : Int) := (hV 9 (by simp)).trans rfl
              have gd : V 63 = .bool false := hd ⟨13, .guard⟩ (by simp) rfl
              refine ⟨fun _ => ?_, fun hw => absurd ((wanted_of rfl rfl (by decide) gd).symm.trans hw) (by decide)⟩
              · exact yield_copy (.inl rfl) ((frame_eval V (by decide)).trans x9) hS
            · obtain rfl : _ = o := Option.some.inj ((show _ = some _ from rfl).symm.trans ho)
              have d14 : IsRa rb w (V 64) := hd ⟨14, .data⟩ (by simp) rfl
              have d15 : V 65 = .int .i64 (j : Int) := hd ⟨15, .data⟩ (by simp) rfl
              have d16 : V 66 = .int .i64 (k : Int) := hd ⟨16, .data⟩ (by simp) rfl
              have gd : V 63 = .bool false := hd ⟨13, .guard⟩ (by simp) rfl
              refine ⟨fun _ => ?_, fun hw => absurd ((wanted_of rfl rfl (by decide) gd).symm.trans hw) (by decide)⟩
              · exact yield_rasAt rfl (frame_eval V (by decide)) ((frame_eval V (by decide)).trans d15) ((frame_eval V (by decide)).trans d16) d14 HRB.out.2.2 (by rw [HRB.out.1]; exact hltj) (by rw [HRB.out.2.1]; exact hlt) hS
            · obtain rfl : _ = o := Option.some.inj ((show _ = some _ from rfl).symm.trans ho)
              have x3 : V 3 = .pointer (some ⟨w1.heap.size, 0, none⟩) := (hV 3 (by simp)).trans rfl
              have gd : V 63 = .bool false := hd ⟨13, .guard⟩ (by simp) rfl
              refine ⟨fun _ => ?_, fun hw => absurd ((wanted_of rfl rfl (by decide) gd).symm.trans hw) (by decide)⟩
              · exact yield_ras rfl ((frame_eval V (by decide)).trans x3) hRrb hc1 hHrb hS
            · obtain rfl : _ = o := Option.some.inj ((show _ = some _ from rfl).symm.trans ho)
              have x10 : V 10 = .int .i64 (j : Int) := (hV 10 (by simp)).trans rfl
              have gd : V 63 = .bool false := hd ⟨13, .guard⟩ (by simp) rfl
              refine ⟨fun _ => ?_, fun hw => absurd ((wanted_of rfl rfl (by decide) gd).symm.trans hw) (by decide)⟩
              · exact yield_copy (.inl rfl) ((frame_eval V (by decide)).trans x10) hS
            · obtain rfl : _ = o := Option.some.inj ((show _ = some _ from rfl).symm.trans ho)
              have x3 : V 3 = .pointer (some ⟨w1.heap.size, 0, none⟩) := (hV 3 (by simp)).trans rfl
              have gd : V 63 = .bool false := hd ⟨13, .guard⟩ (by simp) rfl
              refine ⟨fun _ => ?_, fun hw => absurd ((wanted_of rfl rfl (by decide) gd).symm.trans hw) (by decide)⟩
              · exact yield_fld rfl ((frame_eval V (by decide)).trans x3) (fun w => fld_ras _ 1 (by decide) w) hS
            · obtain rfl : _ = o := Option.some.inj ((show _ = some _ from rfl).symm.trans ho)
              have d20 : V 70 = .pointer (some ⟨w1.heap.size, 1, none⟩) := hd ⟨20, .data⟩ (by simp) rfl
              have gd : V 63 = .bool false := hd ⟨13, .guard⟩ (by simp) rfl
              refine ⟨fun _ => ?_, fun hw => absurd ((wanted_of rfl rfl (by decide) gd).symm.trans hw) (by decide)⟩
              · exact yield_cell rfl ((frame_eval V (by decide)).trans d20) (RasAtB.c1 hRrb) (RasAtB.lt hRrb) hS
            · obtain rfl : _ = o := Option.some.inj ((show _ = some _ from rfl).symm.trans ho)
              have d21 : V 71 = .int .i64 (r.h : Int) := hd ⟨21, .data⟩ (by simp) rfl
              have gd : V 63 = .bool false := hd ⟨13, .guard⟩ (by simp) rfl
              refine ⟨fun _ => ?_, fun hw => absurd ((wanted_of rfl rfl (by decide) gd).symm.trans hw) (by decide)⟩
              · exact yield_sub rfl ((frame_eval V (by decide)).trans d21) rfl hn1 (by omega) hS
            · obtain rfl : _ = o := Option.some.inj ((show _ = some _ from rfl).symm.trans ho)
              have x9 : V 9 = .int .i64 (k : Int) := (hV 9 (by simp)).trans rfl
              have gd : V 63 = .bool false := hd ⟨13, .guard⟩ (by simp) rfl
              refine ⟨fun _ => ?_, fun hw => absurd ((wanted_of rfl rfl (by decide) gd).symm.trans hw) (by decide)⟩
              · exact yield_copy (.inl rfl) ((frame_eval V (by decide)).trans x9) hS
            · obtain rfl : _ = o := Option.some.inj ((show _ = some _ from rfl).symm.trans ho)
              have d22 : V 72 = .int .i64 (n1 : Int) := hd ⟨22, .data⟩ (by simp) rfl
              have d23 : V 73 = .int .i64 (k : Int) := hd ⟨23, .data⟩ (by simp) rfl
              have gd : V 63 = .bool false := hd ⟨13, .guard⟩ (by simp) rfl
              refine ⟨fun _ => ?_, fun hw => absurd ((wanted_of rfl rfl (by decide) gd).symm.trans hw) (by decide)⟩
              · exact yield_sub rfl ((frame_eval V (by decide)).trans d22) ((frame_eval V (by decide)).trans d23) hn2 (by omega) hS
            · obtain rfl : _ = o := Option.some.inj ((show _ = some _ from rfl).symm.trans ho)
              have d18 : IsRa r w (V 68) := hd ⟨18, .data⟩ (by simp) rfl
              have d19 : V 69 = .int .i64 (j : Int) := hd ⟨19, .data⟩ (by simp) rfl
              have d24 : V 74 = .int .i64 (n2 : Int) := hd ⟨24, .data⟩ (by simp) rfl
              have gd : V 63 = .bool false := hd ⟨13, .guard⟩ (by simp) rfl
              refine ⟨fun _ => ?_, fun hw => absurd ((wanted_of rfl rfl (by decide) gd).symm.trans hw) (by decide)⟩
              · exact yield_rasAt rfl (frame_eval V (by decide)) ((frame_eval V (by decide)).trans d19) ((frame_eval V (by decide)).trans d24) d18 HOK.out hltj (by omega) hS
            · obtain rfl : _ = o := Option.some.inj ((show _ = some _ from rfl).symm.trans ho)
              have d17 : V 67 = (rb.at j k).v := hd ⟨17, .data⟩ (by simp) rfl
              have d25 : V 75 = (r.at j n2).v := hd ⟨25, .data⟩ (by simp) rfl
              have gd : V 63 = .bool false := hd ⟨13, .guard⟩ (by simp) rfl
              refine ⟨fun _ => ?_, fun hw => absurd ((wanted_of rfl rfl (by decide) gd).symm.trans hw) (by decide)⟩
              · exact yield_neqPix rfl ((frame_eval V (by decide)).trans d17) ((frame_eval V (by decide)).trans d25) hp2 hS
            · obtain rfl : _ = o := Option.some.inj ((show _ = some _ from rfl).symm.trans ho)
              have d13 : V 63 = .bool false := hd ⟨13, .data⟩ (by simp) rfl
              have d26 : V 76 = .bool false := hd ⟨26, .data⟩ (by simp) rfl
              refine ⟨fun _ => ?_, fun hw => absurd (show true = false from hw) (by decide)⟩
              · exact yield_pickF rfl ((frame_eval V (by decide)).trans d13) ((frame_eval V (by decide)).trans d26) hS
          · intro V wx hS hV hall
            have d27 : V 77 = .bool false := hall 27 (by decide)
            rw [frame_all (n := 103) (D := [50, 51, 52, 53, 54, 55, 56, 57, 58, 59, 60, 61, 62, 63, 64, 65, 66, 67, 68, 69, 70, 71, 72, 73, 74, 75, 76, 77]) rfl rfl (by decide) hV]
            simp only [List.foldl_cons, List.foldl_nil, Act.put, List.setIfInBounds_toArray, List.set_cons_zero, List.set_cons_succ]
            rw [d27]
            have HE := Lib.hid (hbd.trans (hS.mono hbd.size))
            clear hall hV d27 hS hRrb hHrb hRrab hHrab hRrbb hHrbb hOxOb hOyOb hRTb hbq hbd hm1 hm2 hn1 hn2 hp1 hp2 HBQ
            go_wp2_with fail
            go_roundw
            case rel => exact ⟨j + 1, by omega, by go_num, HE.out⟩
            case measure => simp [intOf]; omega
        · obtain rfl : j = r.w := by omega
          clear hbq
          go_wp2_with fail
          go_roundw
          case rel => exact ⟨k + 1, by omega, by go_num, HBQ.out⟩
          case measure => simp [intOf]; omega
    · obtain rfl : k = r.h := by omega
      have hbd : Below w6.heap.size w6 wr.drew := below_draws HBQ.out 1
      have hRrb : RasAtB wr.drew (w1.heap.size) r.w r.h A1 r.p.length c1 34 := Box.below HRr6.out hbd (RasAtB.lt HRr6.out)
      have hHrb : HasP wr.drew wr.drew.heap.size A1 r.p := HHr6.out.carry hbd (Nat.le_refl _) hbd.size
      have hRrab : RasAtB wr.drew (w4.heap.size) ra.w ra.h A4 ra.p.length c4 34 := Box.below HRra6.out hbd (RasAtB.lt HRra6.out)
      have hHrab : HasP wr.drew wr.drew.heap.size A4 ra.p := HHra6.out.carry hbd (Nat.le_refl _) hbd.size
      have hRrbb : RasAtB wr.drew (w5.heap.size) rb.w rb.h A5 rb.p.length c5 34 := Box.below HRrb6.out hbd (RasAtB.lt HRrb6.out)
      have hHrbb : HasP wr.drew wr.drew.heap.size A5 rb.p := HHrb6.out.carry hbd (Nat.le_refl _) hbd.size
      have hOxOb : OpAtB wr.drew (w1.heap.size + 1 + 1) xO := Box.below HOxO6.out hbd (Box.lt HOxO6.out)
      have hOyOb : OpAtB wr.drew (w1.heap.size + 1 + 1 + 1) yO := Box.below HOyO6.out hbd (Box.lt HOyO6.out)
      have hRTb : RangesIn wr.drew := HRT6.out.next hbd
      have HFS := Lib.hid (And.intro hRrb ( And.intro hHrb ( And.intro hRrab ( And.intro hHrab ( And.intro hRrbb ( And.intro hHrbb ( And.intro hOxOb ( And.intro hOyOb (hRTb)))))))))
      have HBD := Lib.hid hbd
      clear hRrb hHrb hRrab hHrab hRrbb hHrbb hOxOb hOyOb hRTb hbd
      go_wp2_with fail
      obtain ⟨hRrb, hHrb, hRrab, hHrab, hRrbb, hHrbb, hOxOb, hOyOb, hRTb⟩ := HFS.out
      clear HFS r1
      refine wp_region_kd 103 [78, 79, 80, 81, 82, 83, 84, 85, 86, 87, 88, 89, 90, 91, 92, 93, 94, 95, 96, 97, 98, 99, 100, 101, 102, 2] [(78, .ras ra), (79, .is (xO.v)), (80, .ops [xO]), (81, .ras (eaR ra [xO])), (82, .ras r), (83, .is (.bool true)), (84, .is (.bool true)), (85, .ras rb), (86, .is (yO.v)), (87, .ops [yO]), (88, .ras (eaR rb [yO])), (89, .ras r), (90, .is (.bool true)), (91, .is (.bool true)), (92, .is (.bool true)), (93, .ras ra), (94, .is (yO.v)), (95, .ops [yO]), (96, .ras (eaR ra [yO])), (97, .ras rb), (98, .is (xO.v)), (99, .ops [xO]), (100, .ras (eaR rb [xO])), (101, .is (.bool true)), (102, .is (.bool true)), (2, .is (.bool true))] (Below wr.drew.heap.size wr.drew) (by kernel_rfl) (by kernel_rfl) rfl rfl (by decide) (by decide) rfl rfl (Below.refl _ _) ?_ ?_
      · intro i o V w ho hS hV hd
        have hi : i < 26 := (Array.getElem?_eq_some_iff.1 ho).1
        have hi2 : i = 0 ∨ i = 1 ∨ i = 2 ∨ i = 3 ∨ i = 4 ∨ i = 5 ∨ i = 6 ∨ i = 7 ∨ i = 8 ∨ i = 9 ∨ i = 10 ∨ i = 11 ∨ i = 12 ∨ i = 13 ∨ i = 14 ∨ i = 15 ∨ i = 16 ∨ i = 17 ∨ i = 18 ∨ i = 19 ∨ i = 20 ∨ i = 21 ∨ i = 22 ∨ i = 23 ∨ i = 24 ∨ i = 25 := by omega
        clear hi
        rcases hi2 with rfl | rfl | rfl | rfl | rfl | rfl | rfl | rfl | rfl | rfl | rfl | rfl | rfl | rfl | rfl | rfl | rfl | rfl | rfl | rfl | rfl | rfl | rfl | rfl | rfl | rfl
        · obtain rfl : _ = o := Option.some.inj ((show _ = some _ from rfl).symm.trans ho)
          have x7 : V 7 = .pointer (some ⟨w4.heap.size, 0, none⟩) := (hV 7 (by simp)).trans rfl
          refine ⟨fun _ => ?_, fun hw => absurd (show true = false from hw) (by decide)⟩
          · exact yield_ras rfl ((frame_eval V (by decide)).trans x7) hRrab hc4 hHrab hS
        · obtain rfl : _ = o := Option.some.inj ((show _ = some _ from rfl).symm.trans ho)
          have x5 : V 5 = .pointer (some ⟨w1.heap.size + 1 + 1, 0, none⟩) := (hV 5 (by simp)).trans rfl
          refine ⟨fun _ => ?_, fun hw => absurd (show true = false from hw) (by decide)⟩
          · exact yield_op rfl ((frame_eval V (by decide)).trans x5) hOxOb hS
        · obtain rfl : _ = o := Option.some.inj ((show _ = some _ from rfl).symm.trans ho)
          have d1 : V 79 = xO.v := hd ⟨1, .data⟩ (by simp) rfl
          refine ⟨fun _ => ?_, fun hw => absurd (show true = false from hw) (by decide)⟩
          · exact yield_ops1 rfl ((frame_eval V (by decide)).trans d1) hS
        · obtain rfl : _ = o := Option.some.inj ((show _ = some _ from rfl).symm.trans ho)
          have d0 : IsRa ra w (V 78) := hd ⟨0, .data⟩ (by simp) rfl
          have d2 : IsOps [xO] w (V 80) := hd ⟨2, .data⟩ (by simp) rfl
          refine ⟨fun _ => ?_, fun hw => absurd (show true = false from hw) (by decide)⟩
          · exact yield_eaDo rfl (frame_eval V (by decide)) (frame_eval V (by decide)) d0 d2 HRA.out.2.2 (can_x can_nil) (by simp) hRTb hS
        · obtain rfl : _ = o := Option.some.inj ((show _ = some _ from rfl).symm.trans ho)
          have x3 : V 3 = .pointer (some ⟨w1.heap.size, 0, none⟩) := (hV 3 (by simp)).trans rfl
          refine ⟨fun _ => ?_, fun hw => absurd (show true = false from hw) (by decide)⟩
          · exact yield_ras rfl ((frame_eval V (by decide)).trans x3) hRrb hc1 hHrb hS
        · obtain rfl : _ = o := Option.some.inj ((show _ = some _ from rfl).symm.trans ho)
          have d3 : IsRa (eaR ra [xO]) w (V 81) := hd ⟨3, .data⟩ (by simp) rfl
          have d4 : IsRa r w (V 82) := hd ⟨4, .data⟩ (by simp) rfl
          refine ⟨fun _ => ?_, fun hw => absurd (show true = false from hw) (by decide)⟩
          · exact yield_eaRas rfl (frame_eval V (by decide)) (frame_eval V (by decide)) d3 d4 (ea_ok HRA.out.2.2 (can_x can_nil)) (by rw [ea_x HRA.out.2.2, eaR_nil, ← HEra.out]; exact flipX2 HOK.out) hS
        · obtain rfl : _ = o := Option.some.inj ((show _ = some _ from rfl).symm.trans ho)
          have d5 : V 83 = .bool true := hd ⟨5, .data⟩ (by simp) rfl
          refine ⟨fun _ => ?_, fun hw => absurd (show true = false from hw) (by decide)⟩
          · exact yield_copy (.inl rfl) ((frame_eval V (by decide)).trans d5) hS
        · obtain rfl : _ = o := Option.some.inj ((show _ = some _ from rfl).symm.trans ho)
          have x8 : V 8 = .pointer (some ⟨w5.heap.size, 0, none⟩) := (hV 8 (by simp)).trans rfl
          have gd : V 84 = .bool true := hd ⟨6, .guard⟩ (by simp) rfl
          refine ⟨fun _ => ?_, fun hw => absurd ((wanted_of rfl rfl (by decide) gd).symm.trans hw) (by decide)⟩
          · exact yield_ras rfl ((frame_eval V (by decide)).trans x8) hRrbb hc5 hHrbb hS
        · obtain rfl : _ = o := Option.some.inj ((show _ = some _ from rfl).symm.trans ho)
          have x6 : V 6 = .pointer (some ⟨w1.heap.size + 1 + 1 + 1, 0, none⟩) := (hV 6 (by simp)).trans rfl
          have gd : V 84 = .bool true := hd ⟨6, .guard⟩ (by simp) rfl
          refine ⟨fun _ => ?_, fun hw => absurd ((wanted_of rfl rfl (by decide) gd).symm.trans hw) (by decide)⟩
          · exact yield_op rfl ((frame_eval V (by decide)).trans x6) hOyOb hS
        · obtain rfl : _ = o := Option.some.inj ((show _ = some _ from rfl).symm.trans ho)
          have d8 : V 86 = yO.v := hd ⟨8, .data⟩ (by simp) rfl
          have gd : V 84 = .bool true := hd ⟨6, .guard⟩ (by simp) rfl
          refine ⟨fun _ => ?_, fun hw => absurd ((wanted_of rfl rfl (by decide) gd).symm.trans hw) (by decide)⟩
          · exact yield_ops1 rfl ((frame_eval V (by decide)).trans d8) hS
        · obtain rfl : _ = o := Option.some.inj ((show _ = some _ from rfl).symm.trans ho)
          have d7 : IsRa rb w (V 85) := hd ⟨7, .data⟩ (by simp) rfl
          have d9 : IsOps [yO] w (V 87) := hd ⟨9, .data⟩ (by simp) rfl
          have gd : V 84 = .bool true := hd ⟨6, .guard⟩ (by simp) rfl
          refine ⟨fun _ => ?_, fun hw => absurd ((wanted_of rfl rfl (by decide) gd).symm.trans hw) (by decide)⟩
          · exact yield_eaDo rfl (frame_eval V (by decide)) (frame_eval V (by decide)) d7 d9 HRB.out.2.2 (can_y can_nil) (by simp) hRTb hS
        · obtain rfl : _ = o := Option.some.inj ((show _ = some _ from rfl).symm.trans ho)
          have x3 : V 3 = .pointer (some ⟨w1.heap.size, 0, none⟩) := (hV 3 (by simp)).trans rfl
          have gd : V 84 = .bool true := hd ⟨6, .guard⟩ (by simp) rfl
          refine ⟨fun _ => ?_, fun hw => absurd ((wanted_of rfl rfl (by decide) gd).symm.trans hw) (by decide)⟩
          · exact yield_ras rfl ((frame_eval V (by decide)).trans x3) hRrb hc1 hHrb hS
        · obtain rfl : _ = o := Option.some.inj ((show _ = some _ from rfl).symm.trans ho)
          have d10 : IsRa (eaR rb [yO]) w (V 88) := hd ⟨10, .data⟩ (by simp) rfl
          have d11 : IsRa r w (V 89) := hd ⟨11, .data⟩ (by simp) rfl
          have gd : V 84 = .bool true := hd ⟨6, .guard⟩ (by simp) rfl
          refine ⟨fun _ => ?_, fun hw => absurd ((wanted_of rfl rfl (by decide) gd).symm.trans hw) (by decide)⟩
          · exact yield_eaRas rfl (frame_eval V (by decide)) (frame_eval V (by decide)) d10 d11 (ea_ok HRB.out.2.2 (can_y can_nil)) (by rw [ea_y HRB.out.2.2, eaR_nil, ← HErb.out]; exact flipY2 HOK.out) hS
        · obtain rfl : _ = o := Option.some.inj ((show _ = some _ from rfl).symm.trans ho)
          have d6 : V 84 = .bool true := hd ⟨6, .data⟩ (by simp) rfl
          have d12 : V 90 = .bool true := hd ⟨12, .data⟩ (by simp) rfl
          refine ⟨fun _ => ?_, fun hw => absurd (show true = false from hw) (by decide)⟩
          · exact yield_pick rfl ((frame_eval V (by decide)).trans d6) ((frame_eval V (by decide)).trans d12) hS
        · obtain rfl : _ = o := Option.some.inj ((show _ = some _ from rfl).symm.trans ho)
          have d13 : V 91 = .bool true := hd ⟨13, .data⟩ (by simp) rfl
          refine ⟨fun _ => ?_, fun hw => absurd (show true = false from hw) (by decide)⟩
          · exact yield_copy (.inl rfl) ((frame_eval V (by decide)).trans d13) hS
        · obtain rfl : _ = o := Option.some.inj ((show _ = some _ from rfl).symm.trans ho)
          have x7 : V 7 = .pointer (some ⟨w4.heap.size, 0, none⟩) := (hV 7 (by simp)).trans rfl
          have gd : V 92 = .bool true := hd ⟨14, .guard⟩ (by simp) rfl
          refine ⟨fun _ => ?_, fun hw => absurd ((wanted_of rfl rfl (by decide) gd).symm.trans hw) (by decide)⟩
          · exact yield_ras rfl ((frame_eval V (by decide)).trans x7) hRrab hc4 hHrab hS
        · obtain rfl : _ = o := Option.some.inj ((show _ = some _ from rfl).symm.trans ho)
          have x6 : V 6 = .pointer (some ⟨w1.heap.size + 1 + 1 + 1, 0, none⟩) := (hV 6 (by simp)).trans rfl
          have gd : V 92 = .bool true := hd ⟨14, .guard⟩ (by simp) rfl
          refine ⟨fun _ => ?_, fun hw => absurd ((wanted_of rfl rfl (by decide) gd).symm.trans hw) (by decide)⟩
          · exact yield_op rfl ((frame_eval V (by decide)).trans x6) hOyOb hS
        · obtain rfl : _ = o := Option.some.inj ((show _ = some _ from rfl).symm.trans ho)
          have d16 : V 94 = yO.v := hd ⟨16, .data⟩ (by simp) rfl
          have gd : V 92 = .bool true := hd ⟨14, .guard⟩ (by simp) rfl
          refine ⟨fun _ => ?_, fun hw => absurd ((wanted_of rfl rfl (by decide) gd).symm.trans hw) (by decide)⟩
          · exact yield_ops1 rfl ((frame_eval V (by decide)).trans d16) hS
        · obtain rfl : _ = o := Option.some.inj ((show _ = some _ from rfl).symm.trans ho)
          have d15 : IsRa ra w (V 93) := hd ⟨15, .data⟩ (by simp) rfl
          have d17 : IsOps [yO] w (V 95) := hd ⟨17, .data⟩ (by simp) rfl
          have gd : V 92 = .bool true := hd ⟨14, .guard⟩ (by simp) rfl
          refine ⟨fun _ => ?_, fun hw => absurd ((wanted_of rfl rfl (by decide) gd).symm.trans hw) (by decide)⟩
          · exact yield_eaDo rfl (frame_eval V (by decide)) (frame_eval V (by decide)) d15 d17 HRA.out.2.2 (can_y can_nil) (by simp) hRTb hS
        · obtain rfl : _ = o := Option.some.inj ((show _ = some _ from rfl).symm.trans ho)
          have x8 : V 8 = .pointer (some ⟨w5.heap.size, 0, none⟩) := (hV 8 (by simp)).trans rfl
          have gd : V 92 = .bool true := hd ⟨14, .guard⟩ (by simp) rfl
          refine ⟨fun _ => ?_, fun hw => absurd ((wanted_of rfl rfl (by decide) gd).symm.trans hw) (by decide)⟩
          · exact yield_ras rfl ((frame_eval V (by decide)).trans x8) hRrbb hc5 hHrbb hS
        · obtain rfl : _ = o := Option.some.inj ((show _ = some _ from rfl).symm.trans ho)
          have x5 : V 5 = .pointer (some ⟨w1.heap.size + 1 + 1, 0, none⟩) := (hV 5 (by simp)).trans rfl
          have gd : V 92 = .bool true := hd ⟨14, .guard⟩ (by simp) rfl
          refine ⟨fun _ => ?_, fun hw => absurd ((wanted_of rfl rfl (by decide) gd).symm.trans hw) (by decide)⟩
          · exact yield_op rfl ((frame_eval V (by decide)).trans x5) hOxOb hS
        · obtain rfl : _ = o := Option.some.inj ((show _ = some _ from rfl).symm.trans ho)
          have d20 : V 98 = xO.v := hd ⟨20, .data⟩ (by simp) rfl
          have gd : V 92 = .bool true := hd ⟨14, .guard⟩ (by simp) rfl
          refine ⟨fun _ => ?_, fun hw => absurd ((wanted_of rfl rfl (by decide) gd).symm.trans hw) (by decide)⟩
          · exact yield_ops1 rfl ((frame_eval V (by decide)).trans d20) hS
        · obtain rfl : _ = o := Option.some.inj ((show _ = some _ from rfl).symm.trans ho)
          have d19 : IsRa rb w (V 97) := hd ⟨19, .data⟩ (by simp) rfl
          have d21 : IsOps [xO] w (V 99) := hd ⟨21, .data⟩ (by simp) rfl
          have gd : V 92 = .bool true := hd ⟨14, .guard⟩ (by simp) rfl
          refine ⟨fun _ => ?_, fun hw => absurd ((wanted_of rfl rfl (by decide) gd).symm.trans hw) (by decide)⟩
          · exact yield_eaDo rfl (frame_eval V (by decide)) (frame_eval V (by decide)) d19 d21 HRB.out.2.2 (can_x can_nil) (by simp) hRTb hS
        · obtain rfl : _ = o := Option.some.inj ((show _ = some _ from rfl).symm.trans ho)
          have d18 : IsRa (eaR ra [yO]) w (V 96) := hd ⟨18, .data⟩ (by simp) rfl
          have d22 : IsRa (eaR rb [xO]) w (V 100) := hd ⟨22, .data⟩ (by simp) rfl
          have gd : V 92 = .bool true := hd ⟨14, .guard⟩ (by simp) rfl
          refine ⟨fun _ => ?_, fun hw => absurd ((wanted_of rfl rfl (by decide) gd).symm.trans hw) (by decide)⟩
          · exact yield_eaRas rfl (frame_eval V (by decide)) (frame_eval V (by decide)) d18 d22 (ea_ok HRA.out.2.2 (can_y can_nil)) (by rw [ea_y HRA.out.2.2, ea_x HRB.out.2.2, eaR_nil, eaR_nil, ← HEra.out, ← HErb.out]; exact flipXY HOK.out) hS
        · obtain rfl : _ = o := Option.some.inj ((show _ = some _ from rfl).symm.trans ho)
          have d14 : V 92 = .bool true := hd ⟨14, .data⟩ (by simp) rfl
          have d23 : V 101 = .bool true := hd ⟨23, .data⟩ (by simp) rfl
          refine ⟨fun _ => ?_, fun hw => absurd (show true = false from hw) (by decide)⟩
          · exact yield_pick rfl ((frame_eval V (by decide)).trans d14) ((frame_eval V (by decide)).trans d23) hS
        · obtain rfl : _ = o := Option.some.inj ((show _ = some _ from rfl).symm.trans ho)
          have d24 : V 102 = .bool true := hd ⟨24, .data⟩ (by simp) rfl
          refine ⟨fun _ => ?_, fun hw => absurd (show true = false from hw) (by decide)⟩
          · exact yield_copy (.inr rfl) ((frame_eval V (by decide)).trans d24) hS
      · intro V wx hS hV hall
        have dl : V 2 = .bool true := hall 25 (by decide)
        rw [frame_all (n := 103) (D := [78, 79, 80, 81, 82, 83, 84, 85, 86, 87, 88, 89, 90, 91, 92, 93, 94, 95, 96, 97, 98, 99, 100, 101, 102, 2]) rfl rfl (by decide) hV]
        simp only [List.foldl_cons, List.foldl_nil, Act.put, List.setIfInBounds_toArray, List.set_cons_zero, List.set_cons_succ]
        rw [dl]
        have HE := Lib.hid (HB6.out.trans ((HBD.out.trans (hS.mono HBD.out.size)).mono HB6.out.size))
        clear hall hV dl hS HBQ hRrb hHrb hRrab hHrab hRrbb hHrbb hOxOb hOyOb hRTb
        go_wp2_with fail
        go_ret
        exact ⟨rfl, HE.out⟩
theorem fnOpFlip_walk (A : Option Addr) (c : Nat) (l : List UInt8) (w : World) (hR : RangesIn w) (h : Has w w.heap.size A l) (hc : l.length ≤ c) :
    Calls Tryd.prog 5 #[.slice A l.length c] w fun e w' => e = .returned (.bool true) ∧ Below w.heap.size w w' := by
  by_cases hbig : l.length ≤ 1048576
  · exact fnOpFlip_small A c l w hR h hc hbig
  · have hl0 : (1048576 : Int) < (l.length : Int) := by omega
    clear h hc hbig
    go_enter Tryd.func5, Tryd.ntmps5
    go_wp2_with fail
    go_ret
    exact ⟨rfl, Below.refl _ _⟩
end Go.Proofs.YthdggnfffebnlaaDoor
