/-
  The law FnOpTurn returns true for every list of bytes to draw from. Condition: the table of ranges reads as the program's text lays it.
-/
import Derived.Test.YtjfcgdjieohpiaaDoorRanL
import Derived.Test.YtjfcgdjieohpiaaDoorDrawOpA
import Derived.Test.YtjfcgdjieohpiaaDoorEaC
import Derived.Test.YtjfcgdjieohpiaaDoorRegL
import Derived.Test.YtjfcgdjieohpiaaDoorRasS
import Derived.Test.YtjfcgdjieohpiaaDoorRegM
import Derived.Test.YtjfcgdjieohpiaaDoorRefB
namespace Go.Proofs.YtjfcgdjieohpiaaDoor
set_option maxRecDepth 4000
open Go.RowKit

set_option maxHeartbeats 8000000 in
theorem fnOpTurn_small (A : Option Addr) (c : Nat) (l : List UInt8) (w : World) (hR : RangesIn w) (h : Has w w.heap.size A l) (hc : l.length ≤ c) (hs : l.length ≤ 1048576) :
    Calls Tryd.prog 4 #[.slice A l.length c] w fun e w' => e = .returned (.bool true) ∧ Below w.heap.size w w' := by
  have C1 := Lib.hid (drawOpDo_any A c l w (by omega) hc h)
  have HRW := Lib.hid hR
  have hl0 : ¬ ((1048576 : Int) < (l.length : Int)) := by omega
  clear h hs hc hR
  go_enter Tryd.func4, Tryd.ntmps4
  go_wp2_with fail
  refine C1.out.mono ?_
  rintro e w1 ⟨W, H, A1, c1, l1, q, rfl, hh1, hc1, hl1, B1⟩
  have CSK := Lib.hid fun u hh => specRasOk_any W H A1 c1 l1 u (by omega) hh
  have CIK := Lib.hid fun u hh => implRasOk_any W H A1 c1 l1 u (by omega) hh
  unfold rasV at CSK CIK ⊢
  unfold Op.v
  have b2 : Below w1.heap.size w1 (((((w1.alloc (.cells #[.int .i64 W, .int .i64 H, .slice A1 l1.length c1] 25)).alloc (.cells #[.int .i64 q.k, .int .i64 q.a, .int .i64 q.b, .int .i64 q.c, .int .i64 q.d] 27)).alloc (.cells #[.int .i64 4, .int .i64 0, .int .i64 0, .int .i64 0, .int .i64 0] 27)).alloc (.cells #[.int .i64 2, .int .i64 0, .int .i64 0, .int .i64 0, .int .i64 0] 27)).alloc (.cells #[.int .i64 3, .int .i64 0, .int .i64 0, .int .i64 0, .int .i64 0] 27)) := (((((Below.refl _ w1).alloc (Nat.le_refl _) _).alloc (by simp) _).alloc (by simp; omega) _).alloc (by simp; omega) _).alloc (by simp; omega) _
  have HRb2 : Hid (RasAtB (((((w1.alloc (.cells #[.int .i64 W, .int .i64 H, .slice A1 l1.length c1] 25)).alloc (.cells #[.int .i64 q.k, .int .i64 q.a, .int .i64 q.b, .int .i64 q.c, .int .i64 q.d] 27)).alloc (.cells #[.int .i64 4, .int .i64 0, .int .i64 0, .int .i64 0, .int .i64 0] 27)).alloc (.cells #[.int .i64 2, .int .i64 0, .int .i64 0, .int .i64 0, .int .i64 0] 27)).alloc (.cells #[.int .i64 3, .int .i64 0, .int .i64 0, .int .i64 0, .int .i64 0] 27)) w1.heap.size W H A1 l1.length c1 25) := Lib.hid (Box.alloc (Box.alloc (Box.alloc (Box.alloc (Box.new w1 _ _) _) _) _) _)
  have HOtO2 : Hid (OpAtB (((((w1.alloc (.cells #[.int .i64 W, .int .i64 H, .slice A1 l1.length c1] 25)).alloc (.cells #[.int .i64 q.k, .int .i64 q.a, .int .i64 q.b, .int .i64 q.c, .int .i64 q.d] 27)).alloc (.cells #[.int .i64 4, .int .i64 0, .int .i64 0, .int .i64 0, .int .i64 0] 27)).alloc (.cells #[.int .i64 2, .int .i64 0, .int .i64 0, .int .i64 0, .int .i64 0] 27)).alloc (.cells #[.int .i64 3, .int .i64 0, .int .i64 0, .int .i64 0, .int .i64 0] 27)) (w1.heap.size + 1 + 1) tO) := Lib.hid (Box.alloc (Box.alloc (by
      have := Box.new ((w1.alloc (.cells #[.int .i64 W, .int .i64 H, .slice A1 l1.length c1] 25)).alloc (.cells #[.int .i64 q.k, .int .i64 q.a, .int .i64 q.b, .int .i64 q.c, .int .i64 q.d] 27)) #[.int .i64 4, .int .i64 0, .int .i64 0, .int .i64 0, .int .i64 0] 27
      rw [show ((w1.alloc (.cells #[.int .i64 W, .int .i64 H, .slice A1 l1.length c1] 25)).alloc (.cells #[.int .i64 q.k, .int .i64 q.a, .int .i64 q.b, .int .i64 q.c, .int .i64 q.d] 27)).heap.size = w1.heap.size + 1 + 1 from by simp] at this
      exact this) _) _)
  have HOxO2 : Hid (OpAtB (((((w1.alloc (.cells #[.int .i64 W, .int .i64 H, .slice A1 l1.length c1] 25)).alloc (.cells #[.int .i64 q.k, .int .i64 q.a, .int .i64 q.b, .int .i64 q.c, .int .i64 q.d] 27)).alloc (.cells #[.int .i64 4, .int .i64 0, .int .i64 0, .int .i64 0, .int .i64 0] 27)).alloc (.cells #[.int .i64 2, .int .i64 0, .int .i64 0, .int .i64 0, .int .i64 0] 27)).alloc (.cells #[.int .i64 3, .int .i64 0, .int .i64 0, .int .i64 0, .int .i64 0] 27)) (w1.heap.size + 1 + 1 + 1) xO) := Lib.hid (Box.alloc (by
      have := Box.new (((w1.alloc (.cells #[.int .i64 W, .int .i64 H, .slice A1 l1.length c1] 25)).alloc (.cells #[.int .i64 q.k, .int .i64 q.a, .int .i64 q.b, .int .i64 q.c, .int .i64 q.d] 27)).alloc (.cells #[.int .i64 4, .int .i64 0, .int .i64 0, .int .i64 0, .int .i64 0] 27)) #[.int .i64 2, .int .i64 0, .int .i64 0, .int .i64 0, .int .i64 0] 27
      rw [show (((w1.alloc (.cells #[.int .i64 W, .int .i64 H, .slice A1 l1.length c1] 25)).alloc (.cells #[.int .i64 q.k, .int .i64 q.a, .int .i64 q.b, .int .i64 q.c, .int .i64 q.d] 27)).alloc (.cells #[.int .i64 4, .int .i64 0, .int .i64 0, .int .i64 0, .int .i64 0] 27)).heap.size = w1.heap.size + 1 + 1 + 1 from by simp] at this
      exact this) _)
  have HOyO2 : Hid (OpAtB (((((w1.alloc (.cells #[.int .i64 W, .int .i64 H, .slice A1 l1.length c1] 25)).alloc (.cells #[.int .i64 q.k, .int .i64 q.a, .int .i64 q.b, .int .i64 q.c, .int .i64 q.d] 27)).alloc (.cells #[.int .i64 4, .int .i64 0, .int .i64 0, .int .i64 0, .int .i64 0] 27)).alloc (.cells #[.int .i64 2, .int .i64 0, .int .i64 0, .int .i64 0, .int .i64 0] 27)).alloc (.cells #[.int .i64 3, .int .i64 0, .int .i64 0, .int .i64 0, .int .i64 0] 27)) (w1.heap.size + 1 + 1 + 1 + 1) yO) := Lib.hid (by
      have := Box.new ((((w1.alloc (.cells #[.int .i64 W, .int .i64 H, .slice A1 l1.length c1] 25)).alloc (.cells #[.int .i64 q.k, .int .i64 q.a, .int .i64 q.b, .int .i64 q.c, .int .i64 q.d] 27)).alloc (.cells #[.int .i64 4, .int .i64 0, .int .i64 0, .int .i64 0, .int .i64 0] 27)).alloc (.cells #[.int .i64 2, .int .i64 0, .int .i64 0, .int .i64 0, .int .i64 0] 27)) #[.int .i64 3, .int .i64 0, .int .i64 0, .int .i64 0, .int .i64 0] 27
      rw [show ((((w1.alloc (.cells #[.int .i64 W, .int .i64 H, .slice A1 l1.length c1] 25)).alloc (.cells #[.int .i64 q.k, .int .i64 q.a, .int .i64 q.b, .int .i64 q.c, .int .i64 q.d] 27)).alloc (.cells #[.int .i64 4, .int .i64 0, .int .i64 0, .int .i64 0, .int .i64 0] 27)).alloc (.cells #[.int .i64 2, .int .i64 0, .int .i64 0, .int .i64 0, .int .i64 0] 27)).heap.size = w1.heap.size + 1 + 1 + 1 + 1 from by simp] at this
      exact this)
  have HH2 := Lib.hid (hh1.carry b2 (Nat.le_refl _) b2.size)
  have HB2 := Lib.hid (B1.trans (b2.mono B1.size))
  clear b2 hh1 B1 C1
  go_wp2_with fail
  generalize (((((w1.alloc (.cells #[.int .i64 W, .int .i64 H, .slice A1 l1.length c1] 25)).alloc (.cells #[.int .i64 q.k, .int .i64 q.a, .int .i64 q.b, .int .i64 q.c, .int .i64 q.d] 27)).alloc (.cells #[.int .i64 4, .int .i64 0, .int .i64 0, .int .i64 0, .int .i64 0] 27)).alloc (.cells #[.int .i64 2, .int .i64 0, .int .i64 0, .int .i64 0, .int .i64 0] 27)).alloc (.cells #[.int .i64 3, .int .i64 0, .int .i64 0, .int .i64 0, .int .i64 0] 27)) = w2 at *
  have r0 := HRb2.out.c0
  have r1 := HRb2.out.c1
  have r2 := HRb2.out.c2
  go_wp2_with fail
  refine (CSK.out _ HH2.out).mono ?_
  rintro e w3 ⟨rfl, b3⟩
  have HRb3 := Lib.hid (HRb2.out.below b3 HRb2.out.lt)
  have HOtO3 : Hid (OpAtB w3 (w1.heap.size + 1 + 1) tO) := Lib.hid (Box.below HOtO2.out b3 (Box.lt HOtO2.out))
  have HOxO3 : Hid (OpAtB w3 (w1.heap.size + 1 + 1 + 1) xO) := Lib.hid (Box.below HOxO2.out b3 (Box.lt HOxO2.out))
  have HOyO3 : Hid (OpAtB w3 (w1.heap.size + 1 + 1 + 1 + 1) yO) := Lib.hid (Box.below HOyO2.out b3 (Box.lt HOyO2.out))
  have HH3 := Lib.hid (HH2.out.carry b3 (Nat.le_refl _) b3.size)
  have HB3 := Lib.hid (HB2.out.trans (b3.mono HB2.out.size))
  have HR3 := Lib.hid (HRW.out.below HB3.out HRW.out.1)
  clear b3 r0 r1 r2 HRb2 HOtO2 HOxO2 HOyO2 HH2 HB2 CSK
  cases hok : rasB W H l1
  · have CK := Lib.hid (CIK.out w3 HH3.out)
    rw [hok] at CK
    have r0 := HRb3.out.c0
    have r1 := HRb3.out.c1
    have r2 := HRb3.out.c2
    clear hok
    go_wp2_with fail
    refine CK.out.mono ?_
    rintro e w4 ⟨rfl, b4⟩
    have HB4 := Lib.hid (HB3.out.trans (b4.mono HB3.out.size))
    clear b4
    go_wp2_with fail
    refine (eaOk_any _).mono ?_
    rintro e w5 ⟨rfl, b5⟩
    have HB5 := Lib.hid (HB4.out.trans (b5.mono HB4.out.size))
    clear b5
    go_wp2_with fail
    go_ret
    exact ⟨rfl, HB5.out⟩
  obtain ⟨r, rfl, rfl, rfl⟩ : ∃ r : Ra, W = (r.w : Int) ∧ H = (r.h : Int) ∧ l1 = r.p := by
    obtain ⟨hW, hH, -, -⟩ := rasB_parts hok
    exact ⟨⟨W.toNat, H.toNat, l1⟩, by simp only; omega, by simp only; omega, rfl⟩
  have hr : r.ok := hok
  have HRP := Lib.hid hr.parts
  clear hok CIK hl1
  have HRr3 := HRb3
  have HHr3 := HH3
  have HRT3 := HR3
  clear HRb3 HH3 HR3
  have rc0 := RasAtB.c0 HRr3.out
  have rc1 := RasAtB.c1 HRr3.out
  have rc2 := RasAtB.c2 HRr3.out
  obtain ⟨tOe0, tOe1, tOe2, tOe3, tOe4⟩ := OpAtB.cs HOtO3.out
  have CE4 : Hid (Calls Tryd.prog 20 #[.agg #[.int .i64 (r.w : Int), .int .i64 (r.h : Int), .slice A1 r.p.length c1], .slice (some ⟨w3.heap.size, 0, none⟩) 1 1] (w3.alloc (.cells #[.int .i64 tO.k, .int .i64 tO.a, .int .i64 tO.b, .int .i64 tO.c, .int .i64 tO.d] 27)) (EaDid (turnR r) (w3.alloc (.cells #[.int .i64 tO.k, .int .i64 tO.a, .int .i64 tO.b, .int .i64 tO.c, .int .i64 tO.d] 27)))) := Lib.hid (by
    have bbel : Below w3.heap.size w3 (w3.alloc (.cells #[.int .i64 tO.k, .int .i64 tO.a, .int .i64 tO.b, .int .i64 tO.c, .int .i64 tO.d] 27)) := ((Below.refl w3.heap.size w3).alloc (Nat.le_refl _) _)
    have hlst : opE.Has (w3.alloc (.cells #[.int .i64 tO.k, .int .i64 tO.a, .int .i64 tO.b, .int .i64 tO.c, .int .i64 tO.d] 27)) (w3.alloc (.cells #[.int .i64 tO.k, .int .i64 tO.a, .int .i64 tO.b, .int .i64 tO.c, .int .i64 tO.d] 27)).heap.size (some ⟨w3.heap.size, 0, none⟩) [tO] := by
      have := El.Has.laid opE w3 [tO] 27
      exact this.wider (by simp)
    have := eaDo_any r A1 c1 (some ⟨w3.heap.size, 0, none⟩) 1 [tO] _ hr (can_t can_nil) (HRT3.out.next bbel) hc1 (HHr3.out.carry bbel (Nat.le_refl _) bbel.size) hlst (by simp)
    rw [ea_t hr, eaR_nil] at this
    exact this)
  go_wp2_with fail
  refine CE4.out.mono ?_
  rintro e w4 ⟨v4, rfl, ⟨A4, c4, rfl, hc4, hh4⟩, b4⟩
  clear CE4
  clear rc0 rc1 rc2 tOe0 tOe1 tOe2 tOe3 tOe4
  obtain ⟨one, hone⟩ : ∃ s, turnR r = s := ⟨_, rfl⟩
  rw [hone] at hc4 hh4 ⊢
  have HEone := Lib.hid hone
  clear hone
  unfold raV rasV
  have bb4 : Below w3.heap.size w3 w4 := (((Below.refl w3.heap.size w3).alloc (Nat.le_refl _) (.cells #[.int .i64 tO.k, .int .i64 tO.a, .int .i64 tO.b, .int .i64 tO.c, .int .i64 tO.d] 27))).trans (b4.mono (((Below.refl w3.heap.size w3).alloc (Nat.le_refl _) (.cells #[.int .i64 tO.k, .int .i64 tO.a, .int .i64 tO.b, .int .i64 tO.c, .int .i64 tO.d] 27))).size)
  have bc4 : Below w3.heap.size w3 w4 := ((Below.refl w3.heap.size w3)).trans (bb4.mono ((Below.refl w3.heap.size w3)).size)
  have HRr4 : Hid (RasAtB w4 (w1.heap.size) r.w r.h A1 r.p.length c1 25) := Lib.hid (Box.below HRr3.out bc4 (RasAtB.lt HRr3.out))
  have HHr4 : Hid (HasP w4 w4.heap.size A1 r.p) := Lib.hid (HHr3.out.carry bc4 (Nat.le_refl _) bc4.size)
  have HOtO4 : Hid (OpAtB w4 (w1.heap.size + 1 + 1) tO) := Lib.hid (Box.below HOtO3.out bc4 (Box.lt HOtO3.out))
  have HOxO4 : Hid (OpAtB w4 (w1.heap.size + 1 + 1 + 1) xO) := Lib.hid (Box.below HOxO3.out bc4 (Box.lt HOxO3.out))
  have HOyO4 : Hid (OpAtB w4 (w1.heap.size + 1 + 1 + 1 + 1) yO) := Lib.hid (Box.below HOyO3.out bc4 (Box.lt HOyO3.out))
  have HB4 := Lib.hid (HB3.out.trans (bc4.mono HB3.out.size))
  have HRT4 : Hid (RangesIn w4) := Lib.hid (HRT3.out.next bc4)
  clear HRr3 HHr3 HOtO3 HOxO3 HOyO3 HB3 HRT3
  clear bb4 bc4
  have HHone4 : Hid (HasP w4 w4.heap.size A4 one.p) := Lib.hid hh4
  clear hh4 b4
  have HRone4 : Hid (RasAtB (w4.alloc (.cells #[.int .i64 (one.w : Int), .int .i64 (one.h : Int), .slice A4 one.p.length c4] 25)) (w4.heap.size) one.w one.h A4 one.p.length c4 25) := Lib.hid (Box.new w4 _ _)
  have rc0 := RasAtB.c0 HRr4.out
  have rc1 := RasAtB.c1 HRr4.out
  have rc2 := RasAtB.c2 HRr4.out
  obtain ⟨tOe0, tOe1, tOe2, tOe3, tOe4⟩ := OpAtB.cs HOtO4.out
  have rn0 : w1.heap.size < w4.heap.size := by have := RasAtB.lt HRr4.out; omega
  have tOn0 : w1.heap.size + 1 + 1 < w4.heap.size := by have := Box.lt HOtO4.out; omega
  have CE5 : Hid (Calls Tryd.prog 13 #[.agg #[.int .i64 (r.w : Int), .int .i64 (r.h : Int), .slice A1 r.p.length c1], .agg #[.int .i64 tO.k, .int .i64 tO.a, .int .i64 tO.b, .int .i64 tO.c, .int .i64 tO.d]] (w4.alloc (.cells #[.int .i64 (one.w : Int), .int .i64 (one.h : Int), .slice A4 one.p.length c4] 25)) (Did (some (turnR r)) (w4.alloc (.cells #[.int .i64 (one.w : Int), .int .i64 (one.h : Int), .slice A4 one.p.length c4] 25)))) := Lib.hid (by
    have bbel : Below w4.heap.size w4 (w4.alloc (.cells #[.int .i64 (one.w : Int), .int .i64 (one.h : Int), .slice A4 one.p.length c4] 25)) := ((Below.refl w4.heap.size w4).alloc (Nat.le_refl _) _)
    exact by
      have := specOpDo_good r A1 c1 tO ((w4.alloc (.cells #[.int .i64 (one.w : Int), .int .i64 (one.h : Int), .slice A4 one.p.length c4] 25))) hr rfl hc1 (HHr4.out.carry bbel (Nat.le_refl _) bbel.size)
      rw [doR_4 r rfl] at this
      exact this)
  unfold Did at CE5
  go_wp2_with fail
  refine CE5.out.mono ?_
  rintro e w5 ⟨A5, c5, rfl, hc5, hh5, b5⟩
  clear CE5
  clear rc0 rc1 rc2 tOe0 tOe1 tOe2 tOe3 tOe4 rn0 tOn0
  obtain ⟨wan, hwan⟩ : ∃ s, turnR r = s := ⟨_, rfl⟩
  simp only [Option.getD_some, Option.isSome_some] at hc5 hh5 ⊢
  have hh5 := hh5.reads
  rw [hwan] at hc5 hh5 ⊢
  have HEwan := Lib.hid hwan
  clear hwan
  try unfold raV rasV
  have bc5 : Below w4.heap.size w4 w5 := (((Below.refl w4.heap.size w4).alloc (Nat.le_refl _) _)).trans (b5.mono (((Below.refl w4.heap.size w4).alloc (Nat.le_refl _) _)).size)
  have HRone5 : Hid (RasAtB w5 (w4.heap.size) one.w one.h A4 one.p.length c4 25) := Lib.hid (Box.below HRone4.out b5 (RasAtB.lt HRone4.out))
  have HHone5 : Hid (HasP w5 w5.heap.size A4 one.p) := Lib.hid (HHone4.out.carry bc5 (Nat.le_refl _) bc5.size)
  have HRr5 : Hid (RasAtB w5 (w1.heap.size) r.w r.h A1 r.p.length c1 25) := Lib.hid (Box.below HRr4.out bc5 (RasAtB.lt HRr4.out))
  have HHr5 : Hid (HasP w5 w5.heap.size A1 r.p) := Lib.hid (HHr4.out.carry bc5 (Nat.le_refl _) bc5.size)
  have HOtO5 : Hid (OpAtB w5 (w1.heap.size + 1 + 1) tO) := Lib.hid (Box.below HOtO4.out bc5 (Box.lt HOtO4.out))
  have HOxO5 : Hid (OpAtB w5 (w1.heap.size + 1 + 1 + 1) xO) := Lib.hid (Box.below HOxO4.out bc5 (Box.lt HOxO4.out))
  have HOyO5 : Hid (OpAtB w5 (w1.heap.size + 1 + 1 + 1 + 1) yO) := Lib.hid (Box.below HOyO4.out bc5 (Box.lt HOyO4.out))
  have HB5 := Lib.hid (HB4.out.trans (bc5.mono HB4.out.size))
  have HRT5 : Hid (RangesIn w5) := Lib.hid (HRT4.out.next bc5)
  clear HRr4 HHr4 HRone4 HHone4 HOtO4 HOxO4 HOyO4 HB4 HRT4
  clear bc5
  have HHwan5 : Hid (HasP w5 w5.heap.size A5 wan.p) := Lib.hid hh5
  clear hh5 b5
  have HRwan5 : Hid (RasAtB (w5.alloc (.cells #[.int .i64 (wan.w : Int), .int .i64 (wan.h : Int), .slice A5 wan.p.length c5] 25)) (w5.heap.size) wan.w wan.h A5 wan.p.length c5 25) := Lib.hid (Box.new w5 _ _)
  obtain rfl : one = wan := by rw [← HEone.out]; exact HEwan.out
  clear HEwan
  have HBN6 : Hid (Below w5.heap.size w5 (w5.alloc (.cells #[.int .i64 (one.w : Int), .int .i64 (one.h : Int), .slice A5 one.p.length c5] 25))) := Lib.hid ((Below.refl w5.heap.size w5).alloc (Nat.le_refl _) _)
  go_wp2_with fail
  generalize w5.alloc (.cells #[.int .i64 (one.w : Int), .int .i64 (one.h : Int), .slice A5 one.p.length c5] 25) = w6 at *
  have b6 := HBN6.out
  have HRwan6 : Hid (RasAtB w6 (w5.heap.size) one.w one.h A5 one.p.length c5 25) := HRwan5
  have HHwan6 : Hid (HasP w6 w6.heap.size A5 one.p) := Lib.hid (HHwan5.out.carry b6 (Nat.le_refl _) b6.size)
  have HRr6 : Hid (RasAtB w6 (w1.heap.size) r.w r.h A1 r.p.length c1 25) := Lib.hid (Box.below HRr5.out b6 (RasAtB.lt HRr5.out))
  have HHr6 : Hid (HasP w6 w6.heap.size A1 r.p) := Lib.hid (HHr5.out.carry b6 (Nat.le_refl _) b6.size)
  have HRone6 : Hid (RasAtB w6 (w4.heap.size) one.w one.h A4 one.p.length c4 25) := Lib.hid (Box.below HRone5.out b6 (RasAtB.lt HRone5.out))
  have HHone6 : Hid (HasP w6 w6.heap.size A4 one.p) := Lib.hid (HHone5.out.carry b6 (Nat.le_refl _) b6.size)
  have HOtO6 : Hid (OpAtB w6 (w1.heap.size + 1 + 1) tO) := Lib.hid (Box.below HOtO5.out b6 (Box.lt HOtO5.out))
  have HOxO6 : Hid (OpAtB w6 (w1.heap.size + 1 + 1 + 1) xO) := Lib.hid (Box.below HOxO5.out b6 (Box.lt HOxO5.out))
  have HOyO6 : Hid (OpAtB w6 (w1.heap.size + 1 + 1 + 1 + 1) yO) := Lib.hid (Box.below HOyO5.out b6 (Box.lt HOyO5.out))
  have HB6 := Lib.hid (HB5.out.trans (b6.mono HB5.out.size))
  have HRT6 : Hid (RangesIn w6) := Lib.hid (HRT5.out.next b6)
  clear HRr5 HHr5 HRone5 HHone5 HRwan5 HHwan5 HOtO5 HOxO5 HOyO5 HB5 HRT5
  clear b6 HBN6
  have ho : one.ok := by rw [← HEone.out]; exact turnR_ok hr
  have HOK := Lib.hid hr
  have HO1 := Lib.hid ho
  clear hr ho
  have hbd : Below w6.heap.size w6 w6.drew := below_draws ((Below.refl _ _)) 1
  have hRrb : RasAtB w6.drew (w1.heap.size) r.w r.h A1 r.p.length c1 25 := Box.below HRr6.out hbd (RasAtB.lt HRr6.out)
  have hHrb : HasP w6.drew w6.drew.heap.size A1 r.p := HHr6.out.carry hbd (Nat.le_refl _) hbd.size
  have hRoneb : RasAtB w6.drew (w4.heap.size) one.w one.h A4 one.p.length c4 25 := Box.below HRone6.out hbd (RasAtB.lt HRone6.out)
  have hHoneb : HasP w6.drew w6.drew.heap.size A4 one.p := HHone6.out.carry hbd (Nat.le_refl _) hbd.size
  have hRwanb : RasAtB w6.drew (w5.heap.size) one.w one.h A5 one.p.length c5 25 := Box.below HRwan6.out hbd (RasAtB.lt HRwan6.out)
  have hHwanb : HasP w6.drew w6.drew.heap.size A5 one.p := HHwan6.out.carry hbd (Nat.le_refl _) hbd.size
  have hOtOb : OpAtB w6.drew (w1.heap.size + 1 + 1) tO := Box.below HOtO6.out hbd (Box.lt HOtO6.out)
  have hOxOb : OpAtB w6.drew (w1.heap.size + 1 + 1 + 1) xO := Box.below HOxO6.out hbd (Box.lt HOxO6.out)
  have hOyOb : OpAtB w6.drew (w1.heap.size + 1 + 1 + 1 + 1) yO := Box.below HOyO6.out hbd (Box.lt HOyO6.out)
  have hRTb : RangesIn w6.drew := HRT6.out.next hbd
  have HBD := Lib.hid hbd
  clear hbd
  have HFS := Lib.hid (And.intro hRrb ( And.intro hHrb ( And.intro hRoneb ( And.intro hHoneb ( And.intro hRwanb ( And.intro hHwanb ( And.intro hOtOb ( And.intro hOxOb ( And.intro hOyOb (hRTb))))))))))
  clear hRrb hHrb hRoneb hHoneb hRwanb hHwanb hOtOb hOxOb hOyOb hRTb
  obtain ⟨hRrb, hHrb, hRoneb, hHoneb, hRwanb, hHwanb, hOtOb, hOxOb, hOyOb, hRTb⟩ := HFS.out
  clear HFS
  refine wp_region_kd 80 [41, 42, 43, 44, 45, 46, 47, 48, 49, 50, 51, 52, 53, 54, 55, 56, 57, 58, 59, 60, 61, 62, 63, 64, 65, 66, 67, 68, 69, 70, 71, 72, 73, 74, 75, 76, 77, 78, 79, 2] [(41, .ras one), (42, .ras one), (43, .is (.bool true)), (44, .is (.bool true)), (45, .ras one), (46, .is (tO.v)), (47, .is (tO.v)), (48, .is (tO.v)), (49, .ops [tO, tO, tO]), (50, .ras (eaR one [tO, tO, tO])), (51, .ras r), (52, .is (.bool true)), (53, .is (.bool true)), (54, .is (.bool true)), (55, .ras r), (56, .is (tO.v)), (57, .is (tO.v)), (58, .ops [tO, tO]), (59, .ras (eaR r [tO, tO])), (60, .ras r), (61, .is (xO.v)), (62, .is (yO.v)), (63, .ops [xO, yO]), (64, .ras (eaR r [xO, yO])), (65, .is (.bool true)), (66, .is (.bool true)), (67, .is (.bool true)), (68, .ras r), (69, .is (tO.v)), (70, .is (xO.v)), (71, .ops [tO, xO]), (72, .ras (eaR r [tO, xO])), (73, .ras r), (74, .is (yO.v)), (75, .is (tO.v)), (76, .ops [yO, tO]), (77, .ras (eaR r [yO, tO])), (78, .is (.bool true)), (79, .is (.bool true)), (2, .is (.bool true))] (Below w6.drew.heap.size w6.drew) (by kernel_rfl) (by kernel_rfl) rfl rfl (by decide) (by decide) rfl rfl (Below.refl _ _) ?_ ?_
  · intro i o V w ho hS hV hd
    have hi : i < 40 := (Array.getElem?_eq_some_iff.1 ho).1
    have hi2 : i = 0 ∨ i = 1 ∨ i = 2 ∨ i = 3 ∨ i = 4 ∨ i = 5 ∨ i = 6 ∨ i = 7 ∨ i = 8 ∨ i = 9 ∨ i = 10 ∨ i = 11 ∨ i = 12 ∨ i = 13 ∨ i = 14 ∨ i = 15 ∨ i = 16 ∨ i = 17 ∨ i = 18 ∨ i = 19 ∨ i = 20 ∨ i = 21 ∨ i = 22 ∨ i = 23 ∨ i = 24 ∨ i = 25 ∨ i = 26 ∨ i = 27 ∨ i = 28 ∨ i = 29 ∨ i = 30 ∨ i = 31 ∨ i = 32 ∨ i = 33 ∨ i = 34 ∨ i = 35 ∨ i = 36 ∨ i = 37 ∨ i = 38 ∨ i = 39 := by omega
    clear hi
    rcases hi2 with rfl | rfl | rfl | rfl | rfl | rfl | rfl | rfl | rfl | rfl | rfl | rfl | rfl | rfl | rfl | rfl | rfl | rfl | rfl | rfl | rfl | rfl | rfl | rfl | rfl | rfl | rfl | rfl | rfl | rfl | rfl | rfl | rfl | rfl | rfl | rfl | rfl | rfl | rfl | rfl
    · obtain rfl : _ = o := Option.some.inj ((show _ = some _ from rfl).symm.trans ho)
      have x8 : V 8 = .pointer (some ⟨w4.heap.size, 0, none⟩) := (hV 8 (by simp)).trans rfl
      refine ⟨fun _ => ?_, fun hw => absurd (show true = false from hw) (by decide)⟩
      · exact yield_ras rfl ((frame_eval V (by decide)).trans x8) hRoneb hc4 hHoneb hS
    · obtain rfl : _ = o := Option.some.inj ((show _ = some _ from rfl).symm.trans ho)
      have x9 : V 9 = .pointer (some ⟨w5.heap.size, 0, none⟩) := (hV 9 (by simp)).trans rfl
      refine ⟨fun _ => ?_, fun hw => absurd (show true = false from hw) (by decide)⟩
      · exact yield_ras rfl ((frame_eval V (by decide)).trans x9) hRwanb hc5 hHwanb hS
    · obtain rfl : _ = o := Option.some.inj ((show _ = some _ from rfl).symm.trans ho)
      have d0 : IsRa one w (V 41) := hd ⟨0, .data⟩ (by simp) rfl
      have d1 : IsRa one w (V 42) := hd ⟨1, .data⟩ (by simp) rfl
      refine ⟨fun _ => ?_, fun hw => absurd (show true = false from hw) (by decide)⟩
      · exact yield_eaRas rfl (frame_eval V (by decide)) (frame_eval V (by decide)) d0 d1 HO1.out rfl hS
    · obtain rfl : _ = o := Option.some.inj ((show _ = some _ from rfl).symm.trans ho)
      have d2 : V 43 = .bool true := hd ⟨2, .data⟩ (by simp) rfl
      refine ⟨fun _ => ?_, fun hw => absurd (show true = false from hw) (by decide)⟩
      · exact yield_copy (.inl rfl) ((frame_eval V (by decide)).trans d2) hS
    · obtain rfl : _ = o := Option.some.inj ((show _ = some _ from rfl).symm.trans ho)
      have x8 : V 8 = .pointer (some ⟨w4.heap.size, 0, none⟩) := (hV 8 (by simp)).trans rfl
      have gd : V 44 = .bool true := hd ⟨3, .guard⟩ (by simp) rfl
      refine ⟨fun _ => ?_, fun hw => absurd ((wanted_of rfl rfl (by decide) gd).symm.trans hw) (by decide)⟩
      · exact yield_ras rfl ((frame_eval V (by decide)).trans x8) hRoneb hc4 hHoneb hS
    · obtain rfl : _ = o := Option.some.inj ((show _ = some _ from rfl).symm.trans ho)
      have x5 : V 5 = .pointer (some ⟨w1.heap.size + 1 + 1, 0, none⟩) := (hV 5 (by simp)).trans rfl
      have gd : V 44 = .bool true := hd ⟨3, .guard⟩ (by simp) rfl
      refine ⟨fun _ => ?_, fun hw => absurd ((wanted_of rfl rfl (by decide) gd).symm.trans hw) (by decide)⟩
      · exact yield_op rfl ((frame_eval V (by decide)).trans x5) hOtOb hS
    · obtain rfl : _ = o := Option.some.inj ((show _ = some _ from rfl).symm.trans ho)
      have x5 : V 5 = .pointer (some ⟨w1.heap.size + 1 + 1, 0, none⟩) := (hV 5 (by simp)).trans rfl
      have gd : V 44 = .bool true := hd ⟨3, .guard⟩ (by simp) rfl
      refine ⟨fun _ => ?_, fun hw => absurd ((wanted_of rfl rfl (by decide) gd).symm.trans hw) (by decide)⟩
      · exact yield_op rfl ((frame_eval V (by decide)).trans x5) hOtOb hS
    · obtain rfl : _ = o := Option.some.inj ((show _ = some _ from rfl).symm.trans ho)
      have x5 : V 5 = .pointer (some ⟨w1.heap.size + 1 + 1, 0, none⟩) := (hV 5 (by simp)).trans rfl
      have gd : V 44 = .bool true := hd ⟨3, .guard⟩ (by simp) rfl
      refine ⟨fun _ => ?_, fun hw => absurd ((wanted_of rfl rfl (by decide) gd).symm.trans hw) (by decide)⟩
      · exact yield_op rfl ((frame_eval V (by decide)).trans x5) hOtOb hS
    · obtain rfl : _ = o := Option.some.inj ((show _ = some _ from rfl).symm.trans ho)
      have d5 : V 46 = tO.v := hd ⟨5, .data⟩ (by simp) rfl
      have d6 : V 47 = tO.v := hd ⟨6, .data⟩ (by simp) rfl
      have d7 : V 48 = tO.v := hd ⟨7, .data⟩ (by simp) rfl
      have gd : V 44 = .bool true := hd ⟨3, .guard⟩ (by simp) rfl
      refine ⟨fun _ => ?_, fun hw => absurd ((wanted_of rfl rfl (by decide) gd).symm.trans hw) (by decide)⟩
      · exact yield_ops3 rfl ((frame_eval V (by decide)).trans d5) ((frame_eval V (by decide)).trans d6) ((frame_eval V (by decide)).trans d7) hS
    · obtain rfl : _ = o := Option.some.inj ((show _ = some _ from rfl).symm.trans ho)
      have d4 : IsRa one w (V 45) := hd ⟨4, .data⟩ (by simp) rfl
      have d8 : IsOps [tO, tO, tO] w (V 49) := hd ⟨8, .data⟩ (by simp) rfl
      have gd : V 44 = .bool true := hd ⟨3, .guard⟩ (by simp) rfl
      refine ⟨fun _ => ?_, fun hw => absurd ((wanted_of rfl rfl (by decide) gd).symm.trans hw) (by decide)⟩
      · exact yield_eaDo rfl (frame_eval V (by decide)) (frame_eval V (by decide)) d4 d8 HO1.out (can_t (can_t (can_t can_nil))) (by simp) hRTb hS
    · obtain rfl : _ = o := Option.some.inj ((show _ = some _ from rfl).symm.trans ho)
      have x3 : V 3 = .pointer (some ⟨w1.heap.size, 0, none⟩) := (hV 3 (by simp)).trans rfl
      have gd : V 44 = .bool true := hd ⟨3, .guard⟩ (by simp) rfl
      refine ⟨fun _ => ?_, fun hw => absurd ((wanted_of rfl rfl (by decide) gd).symm.trans hw) (by decide)⟩
      · exact yield_ras rfl ((frame_eval V (by decide)).trans x3) hRrb hc1 hHrb hS
    · obtain rfl : _ = o := Option.some.inj ((show _ = some _ from rfl).symm.trans ho)
      have d9 : IsRa (eaR one [tO, tO, tO]) w (V 50) := hd ⟨9, .data⟩ (by simp) rfl
      have d10 : IsRa r w (V 51) := hd ⟨10, .data⟩ (by simp) rfl
      have gd : V 44 = .bool true := hd ⟨3, .guard⟩ (by simp) rfl
      refine ⟨fun _ => ?_, fun hw => absurd ((wanted_of rfl rfl (by decide) gd).symm.trans hw) (by decide)⟩
      · exact yield_eaRas rfl (frame_eval V (by decide)) (frame_eval V (by decide)) d9 d10 (ea_ok HO1.out (can_t (can_t (can_t can_nil)))) (by rw [← HEone.out, ea_t (turnR_ok HOK.out), ea_t (turnR_ok (turnR_ok HOK.out)), ea_t (turnR_ok (turnR_ok (turnR_ok HOK.out))), eaR_nil]; exact turn4 HOK.out) hS
    · obtain rfl : _ = o := Option.some.inj ((show _ = some _ from rfl).symm.trans ho)
      have d3 : V 44 = .bool true := hd ⟨3, .data⟩ (by simp) rfl
      have d11 : V 52 = .bool true := hd ⟨11, .data⟩ (by simp) rfl
      refine ⟨fun _ => ?_, fun hw => absurd (show true = false from hw) (by decide)⟩
      · exact yield_pick rfl ((frame_eval V (by decide)).trans d3) ((frame_eval V (by decide)).trans d11) hS
    · obtain rfl : _ = o := Option.some.inj ((show _ = some _ from rfl).symm.trans ho)
      have d12 : V 53 = .bool true := hd ⟨12, .data⟩ (by simp) rfl
      refine ⟨fun _ => ?_, fun hw => absurd (show true = false from hw) (by decide)⟩
      · exact yield_copy (.inl rfl) ((frame_eval V (by decide)).trans d12) hS
    · obtain rfl : _ = o := Option.some.inj ((show _ = some _ from rfl).symm.trans ho)
      have x3 : V 3 = .pointer (some ⟨w1.heap.size, 0, none⟩) := (hV 3 (by simp)).trans rfl
      have gd : V 54 = .bool true := hd ⟨13, .guard⟩ (by simp) rfl
      refine ⟨fun _ => ?_, fun hw => absurd ((wanted_of rfl rfl (by decide) gd).symm.trans hw) (by decide)⟩
      · exact yield_ras rfl ((frame_eval V (by decide)).trans x3) hRrb hc1 hHrb hS
    · obtain rfl : _ = o := Option.some.inj ((show _ = some _ from rfl).symm.trans ho)
      have x5 : V 5 = .pointer (some ⟨w1.heap.size + 1 + 1, 0, none⟩) := (hV 5 (by simp)).trans rfl
      have gd : V 54 = .bool true := hd ⟨13, .guard⟩ (by simp) rfl
      refine ⟨fun _ => ?_, fun hw => absurd ((wanted_of rfl rfl (by decide) gd).symm.trans hw) (by decide)⟩
      · exact yield_op rfl ((frame_eval V (by decide)).trans x5) hOtOb hS
    · obtain rfl : _ = o := Option.some.inj ((show _ = some _ from rfl).symm.trans ho)
      have x5 : V 5 = .pointer (some ⟨w1.heap.size + 1 + 1, 0, none⟩) := (hV 5 (by simp)).trans rfl
      have gd : V 54 = .bool true := hd ⟨13, .guard⟩ (by simp) rfl
      refine ⟨fun _ => ?_, fun hw => absurd ((wanted_of rfl rfl (by decide) gd).symm.trans hw) (by decide)⟩
      · exact yield_op rfl ((frame_eval V (by decide)).trans x5) hOtOb hS
    · obtain rfl : _ = o := Option.some.inj ((show _ = some _ from rfl).symm.trans ho)
      have d15 : V 56 = tO.v := hd ⟨15, .data⟩ (by simp) rfl
      have d16 : V 57 = tO.v := hd ⟨16, .data⟩ (by simp) rfl
      have gd : V 54 = .bool true := hd ⟨13, .guard⟩ (by simp) rfl
      refine ⟨fun _ => ?_, fun hw => absurd ((wanted_of rfl rfl (by decide) gd).symm.trans hw) (by decide)⟩
      · exact yield_ops2 rfl ((frame_eval V (by decide)).trans d15) ((frame_eval V (by decide)).trans d16) hS
    · obtain rfl : _ = o := Option.some.inj ((show _ = some _ from rfl).symm.trans ho)
      have d14 : IsRa r w (V 55) := hd ⟨14, .data⟩ (by simp) rfl
      have d17 : IsOps [tO, tO] w (V 58) := hd ⟨17, .data⟩ (by simp) rfl
      have gd : V 54 = .bool true := hd ⟨13, .guard⟩ (by simp) rfl
      refine ⟨fun _ => ?_, fun hw => absurd ((wanted_of rfl rfl (by decide) gd).symm.trans hw) (by decide)⟩
      · exact yield_eaDo rfl (frame_eval V (by decide)) (frame_eval V (by decide)) d14 d17 HOK.out (can_t (can_t can_nil)) (by simp) hRTb hS
    · obtain rfl : _ = o := Option.some.inj ((show _ = some _ from rfl).symm.trans ho)
      have x3 : V 3 = .pointer (some ⟨w1.heap.size, 0, none⟩) := (hV 3 (by simp)).trans rfl
      have gd : V 54 = .bool true := hd ⟨13, .guard⟩ (by simp) rfl
      refine ⟨fun _ => ?_, fun hw => absurd ((wanted_of rfl rfl (by decide) gd).symm.trans hw) (by decide)⟩
      · exact yield_ras rfl ((frame_eval V (by decide)).trans x3) hRrb hc1 hHrb hS
    · obtain rfl : _ = o := Option.some.inj ((show _ = some _ from rfl).symm.trans ho)
      have x6 : V 6 = .pointer (some ⟨w1.heap.size + 1 + 1 + 1, 0, none⟩) := (hV 6 (by simp)).trans rfl
      have gd : V 54 = .bool true := hd ⟨13, .guard⟩ (by simp) rfl
      refine ⟨fun _ => ?_, fun hw => absurd ((wanted_of rfl rfl (by decide) gd).symm.trans hw) (by decide)⟩
      · exact yield_op rfl ((frame_eval V (by decide)).trans x6) hOxOb hS
    · obtain rfl : _ = o := Option.some.inj ((show _ = some _ from rfl).symm.trans ho)
      have x7 : V 7 = .pointer (some ⟨w1.heap.size + 1 + 1 + 1 + 1, 0, none⟩) := (hV 7 (by simp)).trans rfl
      have gd : V 54 = .bool true := hd ⟨13, .guard⟩ (by simp) rfl
      refine ⟨fun _ => ?_, fun hw => absurd ((wanted_of rfl rfl (by decide) gd).symm.trans hw) (by decide)⟩
      · exact yield_op rfl ((frame_eval V (by decide)).trans x7) hOyOb hS
    · obtain rfl : _ = o := Option.some.inj ((show _ = some _ from rfl).symm.trans ho)
      have d20 : V 61 = xO.v := hd ⟨20, .data⟩ (by simp) rfl
      have d21 : V 62 = yO.v := hd ⟨21, .data⟩ (by simp) rfl
      have gd : V 54 = .bool true := hd ⟨13, .guard⟩ (by simp) rfl
      refine ⟨fun _ => ?_, fun hw => absurd ((wanted_of rfl rfl (by decide) gd).symm.trans hw) (by decide)⟩
      · exact yield_ops2 rfl ((frame_eval V (by decide)).trans d20) ((frame_eval V (by decide)).trans d21) hS
    · obtain rfl : _ = o := Option.some.inj ((show _ = some _ from rfl).symm.trans ho)
      have d19 : IsRa r w (V 60) := hd ⟨19, .data⟩ (by simp) rfl
      have d22 : IsOps [xO, yO] w (V 63) := hd ⟨22, .data⟩ (by simp) rfl
      have gd : V 54 = .bool true := hd ⟨13, .guard⟩ (by simp) rfl
      refine ⟨fun _ => ?_, fun hw => absurd ((wanted_of rfl rfl (by decide) gd).symm.trans hw) (by decide)⟩
      · exact yield_eaDo rfl (frame_eval V (by decide)) (frame_eval V (by decide)) d19 d22 HOK.out (can_x (can_y can_nil)) (by simp) hRTb hS
    · obtain rfl : _ = o := Option.some.inj ((show _ = some _ from rfl).symm.trans ho)
      have d18 : IsRa (eaR r [tO, tO]) w (V 59) := hd ⟨18, .data⟩ (by simp) rfl
      have d23 : IsRa (eaR r [xO, yO]) w (V 64) := hd ⟨23, .data⟩ (by simp) rfl
      have gd : V 54 = .bool true := hd ⟨13, .guard⟩ (by simp) rfl
      refine ⟨fun _ => ?_, fun hw => absurd ((wanted_of rfl rfl (by decide) gd).symm.trans hw) (by decide)⟩
      · exact yield_eaRas rfl (frame_eval V (by decide)) (frame_eval V (by decide)) d18 d23 (ea_ok HOK.out (can_t (can_t can_nil))) (by rw [ea_t HOK.out, ea_t (turnR_ok HOK.out), eaR_nil, ea_x HOK.out, ea_y (flipXR_ok HOK.out), eaR_nil]; exact turn2 HOK.out) hS
    · obtain rfl : _ = o := Option.some.inj ((show _ = some _ from rfl).symm.trans ho)
      have d13 : V 54 = .bool true := hd ⟨13, .data⟩ (by simp) rfl
      have d24 : V 65 = .bool true := hd ⟨24, .data⟩ (by simp) rfl
      refine ⟨fun _ => ?_, fun hw => absurd (show true = false from hw) (by decide)⟩
      · exact yield_pick rfl ((frame_eval V (by decide)).trans d13) ((frame_eval V (by decide)).trans d24) hS
    · obtain rfl : _ = o := Option.some.inj ((show _ = some _ from rfl).symm.trans ho)
      have d25 : V 66 = .bool true := hd ⟨25, .data⟩ (by simp) rfl
      refine ⟨fun _ => ?_, fun hw => absurd (show true = false from hw) (by decide)⟩
      · exact yield_copy (.inl rfl) ((frame_eval V (by decide)).trans d25) hS
    · obtain rfl : _ = o := Option.some.inj ((show _ = some _ from rfl).symm.trans ho)
      have x3 : V 3 = .pointer (some ⟨w1.heap.size, 0, none⟩) := (hV 3 (by simp)).trans rfl
      have gd : V 67 = .bool true := hd ⟨26, .guard⟩ (by simp) rfl
      refine ⟨fun _ => ?_, fun hw => absurd ((wanted_of rfl rfl (by decide) gd).symm.trans hw) (by decide)⟩
      · exact yield_ras rfl ((frame_eval V (by decide)).trans x3) hRrb hc1 hHrb hS
    · obtain rfl : _ = o := Option.some.inj ((show _ = some _ from rfl).symm.trans ho)
      have x5 : V 5 = .pointer (some ⟨w1.heap.size + 1 + 1, 0, none⟩) := (hV 5 (by simp)).trans rfl
      have gd : V 67 = .bool true := hd ⟨26, .guard⟩ (by simp) rfl
      refine ⟨fun _ => ?_, fun hw => absurd ((wanted_of rfl rfl (by decide) gd).symm.trans hw) (by decide)⟩
      · exact yield_op rfl ((frame_eval V (by decide)).trans x5) hOtOb hS
    · obtain rfl : _ = o := Option.some.inj ((show _ = some _ from rfl).symm.trans ho)
      have x6 : V 6 = .pointer (some ⟨w1.heap.size + 1 + 1 + 1, 0, none⟩) := (hV 6 (by simp)).trans rfl
      have gd : V 67 = .bool true := hd ⟨26, .guard⟩ (by simp) rfl
      refine ⟨fun _ => ?_, fun hw => absurd ((wanted_of rfl rfl (by decide) gd).symm.trans hw) (by decide)⟩
      · exact yield_op rfl ((frame_eval V (by decide)).trans x6) hOxOb hS
    · obtain rfl : _ = o := Option.some.inj ((show _ = some _ from rfl).symm.trans ho)
      have d28 : V 69 = tO.v := hd ⟨28, .data⟩ (by simp) rfl
      have d29 : V 70 = xO.v := hd ⟨29, .data⟩ (by simp) rfl
      have gd : V 67 = .bool true := hd ⟨26, .guard⟩ (by simp) rfl
      refine ⟨fun _ => ?_, fun hw => absurd ((wanted_of rfl rfl (by decide) gd).symm.trans hw) (by decide)⟩
      · exact yield_ops2 rfl ((frame_eval V (by decide)).trans d28) ((frame_eval V (by decide)).trans d29) hS
    · obtain rfl : _ = o := Option.some.inj ((show _ = some _ from rfl).symm.trans ho)
      have d27 : IsRa r w (V 68) := hd ⟨27, .data⟩ (by simp) rfl
      have d30 : IsOps [tO, xO] w (V 71) := hd ⟨30, .data⟩ (by simp) rfl
      have gd : V 67 = .bool true := hd ⟨26, .guard⟩ (by simp) rfl
      refine ⟨fun _ => ?_, fun hw => absurd ((wanted_of rfl rfl (by decide) gd).symm.trans hw) (by decide)⟩
      · exact yield_eaDo rfl (frame_eval V (by decide)) (frame_eval V (by decide)) d27 d30 HOK.out (can_t (can_x can_nil)) (by simp) hRTb hS
    · obtain rfl : _ = o := Option.some.inj ((show _ = some _ from rfl).symm.trans ho)
      have x3 : V 3 = .pointer (some ⟨w1.heap.size, 0, none⟩) := (hV 3 (by simp)).trans rfl
      have gd : V 67 = .bool true := hd ⟨26, .guard⟩ (by simp) rfl
      refine ⟨fun _ => ?_, fun hw => absurd ((wanted_of rfl rfl (by decide) gd).symm.trans hw) (by decide)⟩
      · exact yield_ras rfl ((frame_eval V (by decide)).trans x3) hRrb hc1 hHrb hS
    · obtain rfl : _ = o := Option.some.inj ((show _ = some _ from rfl).symm.trans ho)
      have x7 : V 7 = .pointer (some ⟨w1.heap.size + 1 + 1 + 1 + 1, 0, none⟩) := (hV 7 (by simp)).trans rfl
      have gd : V 67 = .bool true := hd ⟨26, .guard⟩ (by simp) rfl
      refine ⟨fun _ => ?_, fun hw => absurd ((wanted_of rfl rfl (by decide) gd).symm.trans hw) (by decide)⟩
      · exact yield_op rfl ((frame_eval V (by decide)).trans x7) hOyOb hS
    · obtain rfl : _ = o := Option.some.inj ((show _ = some _ from rfl).symm.trans ho)
      have x5 : V 5 = .pointer (some ⟨w1.heap.size + 1 + 1, 0, none⟩) := (hV 5 (by simp)).trans rfl
      have gd : V 67 = .bool true := hd ⟨26, .guard⟩ (by simp) rfl
      refine ⟨fun _ => ?_, fun hw => absurd ((wanted_of rfl rfl (by decide) gd).symm.trans hw) (by decide)⟩
      · exact yield_op rfl ((frame_eval V (by decide)).trans x5) hOtOb hS
    · obtain rfl : _ = o := Option.some.inj ((show _ = some _ from rfl).symm.trans ho)
      have d33 : V 74 = yO.v := hd ⟨33, .data⟩ (by simp) rfl
      have d34 : V 75 = tO.v := hd ⟨34, .data⟩ (by simp) rfl
      have gd : V 67 = .bool true := hd ⟨26, .guard⟩ (by simp) rfl
      refine ⟨fun _ => ?_, fun hw => absurd ((wanted_of rfl rfl (by decide) gd).symm.trans hw) (by decide)⟩
      · exact yield_ops2 rfl ((frame_eval V (by decide)).trans d33) ((frame_eval V (by decide)).trans d34) hS
    · obtain rfl : _ = o := Option.some.inj ((show _ = some _ from rfl).symm.trans ho)
      have d32 : IsRa r w (V 73) := hd ⟨32, .data⟩ (by simp) rfl
      have d35 : IsOps [yO, tO] w (V 76) := hd ⟨35, .data⟩ (by simp) rfl
      have gd : V 67 = .bool true := hd ⟨26, .guard⟩ (by simp) rfl
      refine ⟨fun _ => ?_, fun hw => absurd ((wanted_of rfl rfl (by decide) gd).symm.trans hw) (by decide)⟩
      · exact yield_eaDo rfl (frame_eval V (by decide)) (frame_eval V (by decide)) d32 d35 HOK.out (can_y (can_t can_nil)) (by simp) hRTb hS
    · obtain rfl : _ = o := Option.some.inj ((show _ = some _ from rfl).symm.trans ho)
      have d31 : IsRa (eaR r [tO, xO]) w (V 72) := hd ⟨31, .data⟩ (by simp) rfl
      have d36 : IsRa (eaR r [yO, tO]) w (V 77) := hd ⟨36, .data⟩ (by simp) rfl
      have gd : V 67 = .bool true := hd ⟨26, .guard⟩ (by simp) rfl
      refine ⟨fun _ => ?_, fun hw => absurd ((wanted_of rfl rfl (by decide) gd).symm.trans hw) (by decide)⟩
      · exact yield_eaRas rfl (frame_eval V (by decide)) (frame_eval V (by decide)) d31 d36 (ea_ok HOK.out (can_t (can_x can_nil))) (by rw [ea_t HOK.out, ea_x (turnR_ok HOK.out), eaR_nil, ea_y HOK.out, ea_t (flipYR_ok HOK.out), eaR_nil]; exact turn_flipX HOK.out) hS
    · obtain rfl : _ = o := Option.some.inj ((show _ = some _ from rfl).symm.trans ho)
      have d26 : V 67 = .bool true := hd ⟨26, .data⟩ (by simp) rfl
      have d37 : V 78 = .bool true := hd ⟨37, .data⟩ (by simp) rfl
      refine ⟨fun _ => ?_, fun hw => absurd (show true = false from hw) (by decide)⟩
      · exact yield_pick rfl ((frame_eval V (by decide)).trans d26) ((frame_eval V (by decide)).trans d37) hS
    · obtain rfl : _ = o := Option.some.inj ((show _ = some _ from rfl).symm.trans ho)
      have d38 : V 79 = .bool true := hd ⟨38, .data⟩ (by simp) rfl
      refine ⟨fun _ => ?_, fun hw => absurd (show true = false from hw) (by decide)⟩
      · exact yield_copy (.inr rfl) ((frame_eval V (by decide)).trans d38) hS
  · intro V wx hS hV hall
    have dl : V 2 = .bool true := hall 39 (by decide)
    rw [frame_all (n := 80) (D := [41, 42, 43, 44, 45, 46, 47, 48, 49, 50, 51, 52, 53, 54, 55, 56, 57, 58, 59, 60, 61, 62, 63, 64, 65, 66, 67, 68, 69, 70, 71, 72, 73, 74, 75, 76, 77, 78, 79, 2]) rfl rfl (by decide) hV]
    simp only [List.foldl_cons, List.foldl_nil, Act.put, List.setIfInBounds_toArray, List.set_cons_zero, List.set_cons_succ]
    rw [dl]
    have HE := Lib.hid (HB6.out.trans ((HBD.out.trans (hS.mono HBD.out.size)).mono HB6.out.size))
    clear hall hV dl hS hRrb hHrb hRoneb hHoneb hRwanb hHwanb hOtOb hOxOb hOyOb hRTb 
    go_wp2_with fail
    go_ret
    exact ⟨rfl, HE.out⟩
theorem fnOpTurn_walk (A : Option Addr) (c : Nat) (l : List UInt8) (w : World) (hR : RangesIn w) (h : Has w w.heap.size A l) (hc : l.length ≤ c) :
    Calls Tryd.prog 4 #[.slice A l.length c] w fun e w' => e = .returned (.bool true) ∧ Below w.heap.size w w' := by
  by_cases hbig : l.length ≤ 1048576
  · exact fnOpTurn_small A c l w hR h hc hbig
  · have hl0 : (1048576 : Int) < (l.length : Int) := by omega
    clear h hc hbig
    go_enter Tryd.func4, Tryd.ntmps4
    go_wp2_with fail
    go_ret
    exact ⟨rfl, Below.refl _ _⟩
end Go.Proofs.YtjfcgdjieohpiaaDoor
