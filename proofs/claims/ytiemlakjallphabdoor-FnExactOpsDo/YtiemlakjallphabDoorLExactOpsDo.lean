/-
  The law FnExactOpsDo returns true for every raster and list of operations. Condition: the table of ranges reads as the program's text lays it.
-/
import Derived.Test.YtiemlakjallphabDoorRanL
import Derived.Test.YtiemlakjallphabDoorPutsO
import Derived.Test.YtiemlakjallphabDoorPixQ
import Derived.Test.YtiemlakjallphabDoorPixIn
import Derived.Test.YtiemlakjallphabDoorPixM
import Derived.Test.YtiemlakjallphabDoorOpQ
import Derived.Test.YtiemlakjallphabDoorOpIn
import Derived.Test.YtiemlakjallphabDoorRegH
namespace Go.Proofs.YtiemlakjallphabDoor
set_option maxRecDepth 4000
open Go.RowKit

set_option maxHeartbeats 8000000 in
theorem fnExactOpsDo_small (r : Rw) (A : Option Addr) (c : Nat) (L : Option Addr) (lc : Nat) (ls : List Op) (w : World) (hR : RangesIn w) (h : HasP w w.heap.size A r.p) (hl : opL.Has w w.heap.size L ls) (hs : r.p.length + ls.length ≤ 1048576) :
    Calls Tryd.prog 3 #[rasV r.w r.h A r.p.length c, .slice L ls.length lc] w fun e w' => e = .returned (.bool true) ∧ Below w.heap.size w w' := by
  have HA : Hid (∀ W, Below w.heap.size w W → HasP W W.heap.size A r.p) := Lib.hid fun W hb => h.carry hb (Nat.le_refl _) hb.size
  have HRW := Lib.hid hR
  have CZ := Lib.hid fun u => szRasRaster_small r.w r.h A r.p.length c u (by omega)
  have CT := Lib.hid fun A c u hh => toRasRaster_any r.w r.h A c r.p u (by omega) hh
  have HLO : Hid (∀ W, Below w.heap.size w W → opL.Has W W.heap.size L ls) := Lib.hid fun W hb => hl.carry hb (Nat.le_refl _) hb.size
  have CO := Lib.hid fun u hh => toOpOpS_any L lc ls u (by omega) hh
  have CP := Lib.hid fun A A' c c' u hh hh' => eqOpOpS_same A A' c c' ls u (by omega) hh hh'
  obtain ⟨N, hN⟩ : ∃ N, ls.length = N := ⟨_, rfl⟩
  have HN := Lib.hid hN
  rw [hN] at hs CO CP ⊢
  have HLN : Hid (r.p.length + N ≤ 1048576) := Lib.hid hs
  have CY := Lib.hid fun u => szOpOpS_any L N lc (1048576 - (r.p.length : Int)) u (by omega) (by unfold maxLen; omega)
  rw [if_pos (by omega)] at CY
  obtain ⟨d, hd⟩ : ∃ d, putsO r.w r.h r.p ls = d := ⟨_, rfl⟩
  obtain ⟨s, hs'⟩ : ∃ s, d.getD ra0 = s := ⟨_, rfl⟩
  obtain ⟨b, hb⟩ : ∃ b, d.isSome = b := ⟨_, rfl⟩
  have hsl : s.p.length ≤ 36 := by rw [← hs', ← hd]; exact puts_small
  have HD := Lib.hid (And.intro hd (And.intro hs' hb))
  have HSL := Lib.hid hsl
  have CQ := Lib.hid fun A A' c c' u hh hh' => eqRasRaster_same s.w s.h A A' c c' s.p u (by omega) hh hh'
  have CX := Lib.hid fun A A' c c' u hh hh' => eqRasRaster_same r.w r.h A A' c c' r.p u (by omega) hh hh'
  have CM := Lib.hid fun A c base u hh => markRasRaster_any s.w s.h A c s.p base u (by omega) hh
  have CN := Lib.hid fun A c base u hh => markRasRaster_any r.w r.h A c r.p base u (by omega) hh
  have CH := Lib.hid fun A c u hh => heldRasRaster_any s.w s.h A c s.p.length u (by omega) hh
  have CMO := Lib.hid fun A c base u hh => markOpOpS_from A c ls base (1 + 4 * r.p.length) u (by omega) (by omega) hh
  rw [hN, show ((1 + 4 * r.p.length : Nat) : Int) = 1 + 4 * (r.p.length : Int) from by omega] at CMO
  have CS : Hid (∀ (A : Option Addr) (c : Nat) (B : Option Addr) (u : World), r.p.length ≤ c → HasP u u.heap.size A r.p → opE.Has u u.heap.size B ls → Calls Tryd.prog 12 #[.agg #[.int .i64 r.w, .int .i64 r.h, .slice A r.p.length c], .slice B N N] u (fun e w' => ∃ A0 c0, e = .returned (.tuple #[.agg #[.int .i64 (s.w : Int), .int .i64 (s.h : Int), .slice A0 s.p.length c0], .bool b]) ∧ s.p.length ≤ c0 ∧ OwnP w' u.heap.size (.slice A0 s.p.length c0) s.p ∧ Below u.heap.size u w')) := Lib.hid fun A c B u hc hh hl => by
    have := specOpsDo_any r.w r.h A c r.p B N ls u (by have := HLN.out; omega) (by rw [HN.out]; have := HLN.out; omega) hc hh hl
    rw [HD.out.1, HN.out] at this
    unfold Did at this
    rw [HD.out.2.1, HD.out.2.2] at this
    exact this
  have CI : Hid (∀ (A : Option Addr) (c : Nat) (B : Option Addr) (u : World), RangesIn u → r.p.length ≤ c → HasP u u.heap.size A r.p → opE.Has u u.heap.size B ls → Calls Tryd.prog 15 #[.agg #[.int .i64 r.w, .int .i64 r.h, .slice A r.p.length c], .slice B N N] u (fun e w' => ∃ A0 c0, e = .returned (.tuple #[.agg #[.int .i64 (s.w : Int), .int .i64 (s.h : Int), .slice A0 s.p.length c0], .bool b]) ∧ s.p.length ≤ c0 ∧ OwnP w' u.heap.size (.slice A0 s.p.length c0) s.p ∧ Below u.heap.size u w')) := Lib.hid fun A c B u hR hc hh hl => by
    have := implOpsDo_any r.w r.h A c r.p B N ls u hR (by have := HLN.out; omega) (by rw [HN.out]; have := HLN.out; omega) hc hh hl
    rw [HD.out.1, HN.out] at this
    unfold Did at this
    rw [HD.out.2.1, HD.out.2.2] at this
    exact this
  have hz : ¬ ((1048576 : Int) - (r.p.length : Int) < 0) := by omega
  have hz2 : ¬ ((1048576 : Int) - (r.p.length : Int) - (N : Int) < 0) := by omega
  have hk1 : ¬ (1 + 4 * (r.p.length : Int) + 5 * (N : Int) < 0) := by omega
  have hq1 : ¬ (1 + 4 * (s.p.length : Int) < 0) := by omega
  have hsn : (b != b) = false := bne_self_eq_false _
  unfold rasV at *
  have b0 : Below w.heap.size w (w.alloc (.cells #[.int .i64 r.w, .int .i64 r.h, .slice A r.p.length c] 24)) := (Below.refl _ w).alloc (Nat.le_refl _) _
  have HRaR0 : Hid (RasAtB (w.alloc (.cells #[.int .i64 r.w, .int .i64 r.h, .slice A r.p.length c] 24)) w.heap.size r.w r.h A r.p.length c 24) := Lib.hid (Box.new w _ _)
  have HHaR0 := Lib.hid (HA.out _ b0)
  have HB0 := Lib.hid b0
  have HRT0 := Lib.hid (HRW.out.next b0)
  clear b0 hd hs' hb hsl h hs hR hl hN
  go_enter Tryd.func3, Tryd.ntmps3
  go_wp2_with fail
  generalize (w.alloc (.cells #[.int .i64 r.w, .int .i64 r.h, .slice A r.p.length c] 24)) = w0 at *
  have aRc0 := RasAtB.c0 HRaR0.out
  have aRc1 := RasAtB.c1 HRaR0.out
  have aRc2 := RasAtB.c2 HRaR0.out
  go_wp2_with fail
  refine (CZ.out _).mono ?_
  rintro e w1 ⟨rfl, b1⟩
  clear aRc0 aRc1 aRc2
  have bb1 : Below w0.heap.size w0 w1 := ((Below.refl w0.heap.size w0)).trans (b1.mono ((Below.refl w0.heap.size w0)).size)
  have bc1 : Below w0.heap.size w0 w1 := ((Below.refl w0.heap.size w0)).trans (bb1.mono ((Below.refl w0.heap.size w0)).size)
  have HRaR1 : Hid (RasAtB w1 (w.heap.size) r.w r.h A r.p.length c 24) := Lib.hid (Box.below HRaR0.out bc1 (RasAtB.lt HRaR0.out))
  have HHaR1 : Hid (HasP w1 w1.heap.size A r.p) := Lib.hid (HHaR0.out.carry bc1 (Nat.le_refl _) bc1.size)
  have HB1 := Lib.hid (HB0.out.trans (bc1.mono HB0.out.size))
  have HRT1 : Hid (RangesIn w1) := Lib.hid (HRT0.out.next bc1)
  clear HRaR0 HHaR0 HB0 HRT0
  clear bb1 bc1
  clear b1 CZ
  go_wp2_with fail
  refine (CY.out _).mono ?_
  rintro e w1' ⟨rfl, he⟩
  obtain rfl : w1 = w1' := he.symm
  clear CY
  have aRc0 := RasAtB.c0 HRaR1.out
  have aRc1 := RasAtB.c1 HRaR1.out
  have aRc2 := RasAtB.c2 HRaR1.out
  go_wp2_with fail
  refine (CT.out _ _ _ HHaR1.out).mono ?_
  rintro e w2 ⟨g2, rfl, o2, b2⟩
  clear aRc0 aRc1 aRc2
  have bb2 : Below w1.heap.size w1 w2 := ((Below.refl w1.heap.size w1)).trans (b2.mono ((Below.refl w1.heap.size w1)).size)
  have bc2 : Below w1.heap.size w1 w2 := ((Below.refl w1.heap.size w1)).trans (bb2.mono ((Below.refl w1.heap.size w1)).size)
  have HRaR2 : Hid (RasAtB w2 (w.heap.size) r.w r.h A r.p.length c 24) := Lib.hid (Box.below HRaR1.out bc2 (RasAtB.lt HRaR1.out))
  have HHaR2 : Hid (HasP w2 w2.heap.size A r.p) := Lib.hid (HHaR1.out.carry bc2 (Nat.le_refl _) bc2.size)
  have HB2 := Lib.hid (HB1.out.trans (bc2.mono HB1.out.size))
  have HRT2 : Hid (RangesIn w2) := Lib.hid (HRT1.out.next bc2)
  clear HRaR1 HHaR1 HB1 HRT1
  clear bb2 bc2
  have HT2 := Lib.hid o2.reads
  clear b2 o2
  go_wp2_with fail
  refine (CO.out _ (HLO.out _ HB2.out)).mono ?_
  rintro e w3 ⟨rfl, o3, b3⟩
  have bb3 : Below w2.heap.size w2 w3 := ((Below.refl w2.heap.size w2)).trans (b3.mono ((Below.refl w2.heap.size w2)).size)
  have bc3 : Below w2.heap.size w2 w3 := ((Below.refl w2.heap.size w2)).trans (bb3.mono ((Below.refl w2.heap.size w2)).size)
  have HRaR3 : Hid (RasAtB w3 (w.heap.size) r.w r.h A r.p.length c 24) := Lib.hid (Box.below HRaR2.out bc3 (RasAtB.lt HRaR2.out))
  have HHaR3 : Hid (HasP w3 w3.heap.size A r.p) := Lib.hid (HHaR2.out.carry bc3 (Nat.le_refl _) bc3.size)
  have HB3 := Lib.hid (HB2.out.trans (bc3.mono HB2.out.size))
  have HRT3 : Hid (RangesIn w3) := Lib.hid (HRT2.out.next bc3)
  clear HRaR2 HHaR2 HB2 HRT2
  clear bb3 bc3
  have HT3 := Lib.hid (HT2.out.carry b3 (Nat.le_refl _) b3.size)
  have HU3 := Lib.hid (El.Own.reads o3)
  clear b3 o3 HT2
  go_wp2_with fail
  refine (CS.out _ _ _ _ (Nat.le_refl _) HT3.out HU3.out).mono ?_
  rintro e w4 ⟨A4, c4, rfl, hc4, o4, b4⟩
  have bb4 : Below w3.heap.size w3 w4 := ((Below.refl w3.heap.size w3)).trans (b4.mono ((Below.refl w3.heap.size w3)).size)
  have bc4 : Below w3.heap.size w3 w4 := ((Below.refl w3.heap.size w3)).trans (bb4.mono ((Below.refl w3.heap.size w3)).size)
  have HRaR4 : Hid (RasAtB w4 (w.heap.size) r.w r.h A r.p.length c 24) := Lib.hid (Box.below HRaR3.out bc4 (RasAtB.lt HRaR3.out))
  have HHaR4 : Hid (HasP w4 w4.heap.size A r.p) := Lib.hid (HHaR3.out.carry bc4 (Nat.le_refl _) bc4.size)
  have HB4 := Lib.hid (HB3.out.trans (bc4.mono HB3.out.size))
  have HRT4 : Hid (RangesIn w4) := Lib.hid (HRT3.out.next bc4)
  clear HRaR3 HHaR3 HB3 HRT3
  clear bb4 bc4
  have HHw04 := Lib.hid o4.reads
  clear b4 o4 HT3 HU3
  have HRw04 : Hid (RasAtB (w4.alloc (.cells #[.int .i64 (s.w : Int), .int .i64 (s.h : Int), .slice A4 s.p.length c4] 30)) (w4.heap.size) s.w s.h A4 s.p.length c4 30) := Lib.hid (Box.new w4 _ _)
  have aRc0 := RasAtB.c0 HRaR4.out
  have aRc1 := RasAtB.c1 HRaR4.out
  have aRc2 := RasAtB.c2 HRaR4.out
  have aRn0 : w.heap.size < w4.heap.size := by have := RasAtB.lt HRaR4.out; omega
  have HBN5 : Hid (Below w4.heap.size w4 (w4.alloc (.cells #[.int .i64 (s.w : Int), .int .i64 (s.h : Int), .slice A4 s.p.length c4] 30))) := Lib.hid ((Below.refl w4.heap.size w4).alloc (Nat.le_refl _) _)
  go_wp2_with fail
  generalize w4.alloc (.cells #[.int .i64 (s.w : Int), .int .i64 (s.h : Int), .slice A4 s.p.length c4] 30) = w5 at *
  have b5 := HBN5.out
  have HRw05 : Hid (RasAtB w5 (w4.heap.size) s.w s.h A4 s.p.length c4 30) := HRw04
  have HHw05 : Hid (HasP w5 w5.heap.size A4 s.p) := Lib.hid (HHw04.out.carry b5 (Nat.le_refl _) b5.size)
  have HRaR5 : Hid (RasAtB w5 (w.heap.size) r.w r.h A r.p.length c 24) := Lib.hid (Box.below HRaR4.out b5 (RasAtB.lt HRaR4.out))
  have HHaR5 : Hid (HasP w5 w5.heap.size A r.p) := Lib.hid (HHaR4.out.carry b5 (Nat.le_refl _) b5.size)
  have HB5 := Lib.hid (HB4.out.trans (b5.mono HB4.out.size))
  have HRT5 : Hid (RangesIn w5) := Lib.hid (HRT4.out.next b5)
  clear HRaR4 HHaR4 HRw04 HHw04 HB4 HRT4
  clear b5 HBN5
  clear aRc0 aRc1 aRc2 aRn0
  have HVw05 : Hid (HasP w5 w5.heap.size A4 s.p) := Lib.hid HHw05.out
  have HMm5 : Hid (Below w5.heap.size w5 w5) := Lib.hid (Below.refl _ _)
  have HL5 := Lib.hid (And.intro (RasAtB.lt HRaR5.out) (RasAtB.lt HRw05.out))
  refine (CT.out _ _ _ HHaR5.out).mono ?_
  rintro e w6 ⟨g6, rfl, o6, b6⟩
  have bb6 : Below w5.heap.size w5 w6 := ((Below.refl w5.heap.size w5)).trans (b6.mono ((Below.refl w5.heap.size w5)).size)
  have bc6 : Below w5.heap.size w5 w6 := ((Below.refl w5.heap.size w5)).trans (bb6.mono ((Below.refl w5.heap.size w5)).size)
  have HRaR6 : Hid (RasAtB w6 (w.heap.size) r.w r.h A r.p.length c 24) := Lib.hid (Box.below HRaR5.out bc6 (RasAtB.lt HRaR5.out))
  have HHaR6 : Hid (HasP w6 w6.heap.size A r.p) := Lib.hid (HHaR5.out.carry bc6 (Nat.le_refl _) bc6.size)
  have HRw06 : Hid (RasAtB w6 (w4.heap.size) s.w s.h A4 s.p.length c4 30) := Lib.hid (Box.below HRw05.out bc6 (RasAtB.lt HRw05.out))
  have HHw06 : Hid (HasP w6 w6.heap.size A4 s.p) := Lib.hid (HHw05.out.carry bc6 (Nat.le_refl _) bc6.size)
  have HB6 := Lib.hid (HB5.out.trans (bc6.mono HB5.out.size))
  have HRT6 : Hid (RangesIn w6) := Lib.hid (HRT5.out.next bc6)
  have HMm6 := Lib.hid (HMm5.out.trans (bc6.mono HMm5.out.size))
  have HVw06 : Hid (HasP w6 w5.heap.size A4 s.p) := Lib.hid (HVw05.out.below (bc6.mono HMm5.out.size))
  clear HRaR5 HHaR5 HRw05 HHw05 HB5 HRT5 HMm5
  clear HVw05
  clear bb6 bc6
  have HWx06 : Hid (OwnP w6 w5.heap.size (.slice (some ⟨g6, 0, none⟩) r.p.length r.p.length) r.p) := Lib.hid o6
  have HHx06 := Lib.hid o6.reads
  have HG6 := Lib.hid (World.ownsRow.lt o6 g6 rfl)
  clear b6 o6
  have HRx06 : Hid (RasAtB (w6.alloc (.cells #[.int .i64 r.w, .int .i64 r.h, .slice (some ⟨g6, 0, none⟩) r.p.length r.p.length] 30)) (w6.heap.size) r.w r.h (some ⟨g6, 0, none⟩) r.p.length r.p.length 30) := Lib.hid (Box.new w6 _ _)
  have HBN7 : Hid (Below w6.heap.size w6 (w6.alloc (.cells #[.int .i64 r.w, .int .i64 r.h, .slice (some ⟨g6, 0, none⟩) r.p.length r.p.length] 30))) := Lib.hid ((Below.refl w6.heap.size w6).alloc (Nat.le_refl _) _)
  go_wp2_with fail
  generalize w6.alloc (.cells #[.int .i64 r.w, .int .i64 r.h, .slice (some ⟨g6, 0, none⟩) r.p.length r.p.length] 30) = w7 at *
  have b7 := HBN7.out
  have HRx07 : Hid (RasAtB w7 (w6.heap.size) r.w r.h (some ⟨g6, 0, none⟩) r.p.length r.p.length 30) := HRx06
  have HHx07 : Hid (HasP w7 w7.heap.size (some ⟨g6, 0, none⟩) r.p) := Lib.hid (HHx06.out.carry b7 (Nat.le_refl _) b7.size)
  have HRaR7 : Hid (RasAtB w7 (w.heap.size) r.w r.h A r.p.length c 24) := Lib.hid (Box.below HRaR6.out b7 (RasAtB.lt HRaR6.out))
  have HHaR7 : Hid (HasP w7 w7.heap.size A r.p) := Lib.hid (HHaR6.out.carry b7 (Nat.le_refl _) b7.size)
  have HRw07 : Hid (RasAtB w7 (w4.heap.size) s.w s.h A4 s.p.length c4 30) := Lib.hid (Box.below HRw06.out b7 (RasAtB.lt HRw06.out))
  have HHw07 : Hid (HasP w7 w7.heap.size A4 s.p) := Lib.hid (HHw06.out.carry b7 (Nat.le_refl _) b7.size)
  have HB7 := Lib.hid (HB6.out.trans (b7.mono HB6.out.size))
  have HRT7 : Hid (RangesIn w7) := Lib.hid (HRT6.out.next b7)
  have HMm7 := Lib.hid (HMm6.out.trans (b7.mono HMm6.out.size))
  have HWx07 : Hid (OwnP w7 w5.heap.size (.slice (some ⟨g6, 0, none⟩) r.p.length r.p.length) r.p) := Lib.hid (HWx06.out.below b7 (Nat.le_refl _))
  have HVw07 : Hid (HasP w7 w5.heap.size A4 s.p) := Lib.hid (HVw06.out.below (b7.mono HMm6.out.size))
  clear HRaR6 HHaR6 HRw06 HHw06 HRx06 HHx06 HB6 HRT6 HMm6
  clear HWx06 HVw06
  clear b7 HBN7
  have HS7 : Hid (w6.heap.size < w7.heap.size) := Lib.hid (RasAtB.lt HRx07.out)
  refine (CO.out _ (HLO.out _ HB7.out)).mono ?_
  rintro e w8 ⟨rfl, o8, b8⟩
  have bb8 : Below w7.heap.size w7 w8 := ((Below.refl w7.heap.size w7)).trans (b8.mono ((Below.refl w7.heap.size w7)).size)
  have bc8 : Below w7.heap.size w7 w8 := ((Below.refl w7.heap.size w7)).trans (bb8.mono ((Below.refl w7.heap.size w7)).size)
  have HRaR8 : Hid (RasAtB w8 (w.heap.size) r.w r.h A r.p.length c 24) := Lib.hid (Box.below HRaR7.out bc8 (RasAtB.lt HRaR7.out))
  have HHaR8 : Hid (HasP w8 w8.heap.size A r.p) := Lib.hid (HHaR7.out.carry bc8 (Nat.le_refl _) bc8.size)
  have HRw08 : Hid (RasAtB w8 (w4.heap.size) s.w s.h A4 s.p.length c4 30) := Lib.hid (Box.below HRw07.out bc8 (RasAtB.lt HRw07.out))
  have HHw08 : Hid (HasP w8 w8.heap.size A4 s.p) := Lib.hid (HHw07.out.carry bc8 (Nat.le_refl _) bc8.size)
  have HRx08 : Hid (RasAtB w8 (w6.heap.size) r.w r.h (some ⟨g6, 0, none⟩) r.p.length r.p.length 30) := Lib.hid (Box.below HRx07.out bc8 (RasAtB.lt HRx07.out))
  have HHx08 : Hid (HasP w8 w8.heap.size (some ⟨g6, 0, none⟩) r.p) := Lib.hid (HHx07.out.carry bc8 (Nat.le_refl _) bc8.size)
  have HB8 := Lib.hid (HB7.out.trans (bc8.mono HB7.out.size))
  have HRT8 : Hid (RangesIn w8) := Lib.hid (HRT7.out.next bc8)
  have HMm8 := Lib.hid (HMm7.out.trans (bc8.mono HMm7.out.size))
  have HWx08 : Hid (OwnP w8 w5.heap.size (.slice (some ⟨g6, 0, none⟩) r.p.length r.p.length) r.p) := Lib.hid (HWx07.out.below bc8 (Nat.le_refl _))
  have HVw08 : Hid (HasP w8 w5.heap.size A4 s.p) := Lib.hid (HVw07.out.below (bc8.mono HMm7.out.size))
  clear HRaR7 HHaR7 HRw07 HHw07 HRx07 HHx07 HB7 HRT7 HMm7
  clear HWx07 HVw07
  clear bb8 bc8
  have HWx18 : Hid (opE.Own w8 w7.heap.size (.slice (some ⟨w7.heap.size, 0, none⟩) N N) ls) := Lib.hid o8
  have HG8 := Lib.hid (World.ownsRow.lt o8 w7.heap.size rfl)
  clear b8 o8
  have x0c0 := RasAtB.c0 HRx08.out
  have x0c1 := RasAtB.c1 HRx08.out
  have x0c2 := RasAtB.c2 HRx08.out
  go_wp2_with fail
  refine (CI.out _ _ _ _ HRT8.out (Nat.le_refl _) HHx08.out (El.Own.reads HWx18.out)).mono ?_
  rintro e w9 ⟨A9, c9, rfl, hc9, o9, b9⟩
  clear x0c0 x0c1 x0c2
  have bb9 : Below w8.heap.size w8 w9 := ((Below.refl w8.heap.size w8)).trans (b9.mono ((Below.refl w8.heap.size w8)).size)
  have bc9 : Below w8.heap.size w8 w9 := ((Below.refl w8.heap.size w8)).trans (bb9.mono ((Below.refl w8.heap.size w8)).size)
  have HRaR9 : Hid (RasAtB w9 (w.heap.size) r.w r.h A r.p.length c 24) := Lib.hid (Box.below HRaR8.out bc9 (RasAtB.lt HRaR8.out))
  have HHaR9 : Hid (HasP w9 w9.heap.size A r.p) := Lib.hid (HHaR8.out.carry bc9 (Nat.le_refl _) bc9.size)
  have HRw09 : Hid (RasAtB w9 (w4.heap.size) s.w s.h A4 s.p.length c4 30) := Lib.hid (Box.below HRw08.out bc9 (RasAtB.lt HRw08.out))
  have HHw09 : Hid (HasP w9 w9.heap.size A4 s.p) := Lib.hid (HHw08.out.carry bc9 (Nat.le_refl _) bc9.size)
  have HRx09 : Hid (RasAtB w9 (w6.heap.size) r.w r.h (some ⟨g6, 0, none⟩) r.p.length r.p.length 30) := Lib.hid (Box.below HRx08.out bc9 (RasAtB.lt HRx08.out))
  have HHx09 : Hid (HasP w9 w9.heap.size (some ⟨g6, 0, none⟩) r.p) := Lib.hid (HHx08.out.carry bc9 (Nat.le_refl _) bc9.size)
  have HB9 := Lib.hid (HB8.out.trans (bc9.mono HB8.out.size))
  have HRT9 : Hid (RangesIn w9) := Lib.hid (HRT8.out.next bc9)
  have HMm9 := Lib.hid (HMm8.out.trans (bc9.mono HMm8.out.size))
  have HWx09 : Hid (OwnP w9 w5.heap.size (.slice (some ⟨g6, 0, none⟩) r.p.length r.p.length) r.p) := Lib.hid (HWx08.out.below bc9 (Nat.le_refl _))
  have HWx19 : Hid (opE.Own w9 w7.heap.size (.slice (some ⟨w7.heap.size, 0, none⟩) N N) ls) := Lib.hid (HWx18.out.below bc9 (Nat.le_refl _))
  have HVw09 : Hid (HasP w9 w5.heap.size A4 s.p) := Lib.hid (HVw08.out.below (bc9.mono HMm8.out.size))
  clear HRaR8 HHaR8 HRw08 HHw08 HRx08 HHx08 HB8 HRT8 HMm8
  clear HWx08 HWx18 HVw08
  clear bb9 bc9
  have HWg09 : Hid (OwnP w9 w8.heap.size (.slice A9 s.p.length c9) s.p) := Lib.hid o9
  have HHg09 := Lib.hid o9.reads
  have HNg0 : Hid (∀ q, (Value.slice A9 s.p.length c9).ownBlock = some q → q < w9.heap.size) := Lib.hid fun q e => (World.ownsRow.lt o9 q e).2
  have HS9 := Lib.hid b9.size
  clear b9 o9
  have HRg09 : Hid (RasAtB (w9.alloc (.cells #[.int .i64 (s.w : Int), .int .i64 (s.h : Int), .slice A9 s.p.length c9] 30)) (w9.heap.size) s.w s.h A9 s.p.length c9 30) := Lib.hid (Box.new w9 _ _)
  have w0c0 := RasAtB.c0 HRw09.out
  have w0c1 := RasAtB.c1 HRw09.out
  have w0c2 := RasAtB.c2 HRw09.out
  have w0n0 : w4.heap.size < w9.heap.size := by have := RasAtB.lt HRw09.out; omega
  have HBN10 : Hid (Below w9.heap.size w9 (w9.alloc (.cells #[.int .i64 (s.w : Int), .int .i64 (s.h : Int), .slice A9 s.p.length c9] 30))) := Lib.hid ((Below.refl w9.heap.size w9).alloc (Nat.le_refl _) _)
  go_wp2_with fail
  generalize w9.alloc (.cells #[.int .i64 (s.w : Int), .int .i64 (s.h : Int), .slice A9 s.p.length c9] 30) = w10 at *
  have b10 := HBN10.out
  have HRg010 : Hid (RasAtB w10 (w9.heap.size) s.w s.h A9 s.p.length c9 30) := HRg09
  have HHg010 : Hid (HasP w10 w10.heap.size A9 s.p) := Lib.hid (HHg09.out.carry b10 (Nat.le_refl _) b10.size)
  have HRaR10 : Hid (RasAtB w10 (w.heap.size) r.w r.h A r.p.length c 24) := Lib.hid (Box.below HRaR9.out b10 (RasAtB.lt HRaR9.out))
  have HHaR10 : Hid (HasP w10 w10.heap.size A r.p) := Lib.hid (HHaR9.out.carry b10 (Nat.le_refl _) b10.size)
  have HRw010 : Hid (RasAtB w10 (w4.heap.size) s.w s.h A4 s.p.length c4 30) := Lib.hid (Box.below HRw09.out b10 (RasAtB.lt HRw09.out))
  have HHw010 : Hid (HasP w10 w10.heap.size A4 s.p) := Lib.hid (HHw09.out.carry b10 (Nat.le_refl _) b10.size)
  have HRx010 : Hid (RasAtB w10 (w6.heap.size) r.w r.h (some ⟨g6, 0, none⟩) r.p.length r.p.length 30) := Lib.hid (Box.below HRx09.out b10 (RasAtB.lt HRx09.out))
  have HHx010 : Hid (HasP w10 w10.heap.size (some ⟨g6, 0, none⟩) r.p) := Lib.hid (HHx09.out.carry b10 (Nat.le_refl _) b10.size)
  have HB10 := Lib.hid (HB9.out.trans (b10.mono HB9.out.size))
  have HRT10 : Hid (RangesIn w10) := Lib.hid (HRT9.out.next b10)
  have HMm10 := Lib.hid (HMm9.out.trans (b10.mono HMm9.out.size))
  have HWx010 : Hid (OwnP w10 w5.heap.size (.slice (some ⟨g6, 0, none⟩) r.p.length r.p.length) r.p) := Lib.hid (HWx09.out.below b10 (Nat.le_refl _))
  have HWx110 : Hid (opE.Own w10 w7.heap.size (.slice (some ⟨w7.heap.size, 0, none⟩) N N) ls) := Lib.hid (HWx19.out.below b10 (Nat.le_refl _))
  have HWg010 : Hid (OwnP w10 w8.heap.size (.slice A9 s.p.length c9) s.p) := Lib.hid (HWg09.out.below b10 (Nat.le_refl _))
  have HVw010 : Hid (HasP w10 w5.heap.size A4 s.p) := Lib.hid (HVw09.out.below (b10.mono HMm9.out.size))
  clear HRaR9 HHaR9 HRw09 HHw09 HRx09 HHx09 HRg09 HHg09 HB9 HRT9 HMm9
  clear HWx09 HWx19 HWg09 HVw09
  clear b10 HBN10
  clear w0c0 w0c1 w0c2 w0n0
  refine (CQ.out _ _ _ _ _ HHg010.out HHw010.out).mono ?_
  rintro e w11 ⟨rfl, b11⟩
  have bb11 : Below w10.heap.size w10 w11 := ((Below.refl w10.heap.size w10)).trans (b11.mono ((Below.refl w10.heap.size w10)).size)
  have bc11 : Below w10.heap.size w10 w11 := ((Below.refl w10.heap.size w10)).trans (bb11.mono ((Below.refl w10.heap.size w10)).size)
  have HRaR11 : Hid (RasAtB w11 (w.heap.size) r.w r.h A r.p.length c 24) := Lib.hid (Box.below HRaR10.out bc11 (RasAtB.lt HRaR10.out))
  have HHaR11 : Hid (HasP w11 w11.heap.size A r.p) := Lib.hid (HHaR10.out.carry bc11 (Nat.le_refl _) bc11.size)
  have HRw011 : Hid (RasAtB w11 (w4.heap.size) s.w s.h A4 s.p.length c4 30) := Lib.hid (Box.below HRw010.out bc11 (RasAtB.lt HRw010.out))
  have HHw011 : Hid (HasP w11 w11.heap.size A4 s.p) := Lib.hid (HHw010.out.carry bc11 (Nat.le_refl _) bc11.size)
  have HRx011 : Hid (RasAtB w11 (w6.heap.size) r.w r.h (some ⟨g6, 0, none⟩) r.p.length r.p.length 30) := Lib.hid (Box.below HRx010.out bc11 (RasAtB.lt HRx010.out))
  have HHx011 : Hid (HasP w11 w11.heap.size (some ⟨g6, 0, none⟩) r.p) := Lib.hid (HHx010.out.carry bc11 (Nat.le_refl _) bc11.size)
  have HRg011 : Hid (RasAtB w11 (w9.heap.size) s.w s.h A9 s.p.length c9 30) := Lib.hid (Box.below HRg010.out bc11 (RasAtB.lt HRg010.out))
  have HHg011 : Hid (HasP w11 w11.heap.size A9 s.p) := Lib.hid (HHg010.out.carry bc11 (Nat.le_refl _) bc11.size)
  have HB11 := Lib.hid (HB10.out.trans (bc11.mono HB10.out.size))
  have HRT11 : Hid (RangesIn w11) := Lib.hid (HRT10.out.next bc11)
  have HMm11 := Lib.hid (HMm10.out.trans (bc11.mono HMm10.out.size))
  have HWx011 : Hid (OwnP w11 w5.heap.size (.slice (some ⟨g6, 0, none⟩) r.p.length r.p.length) r.p) := Lib.hid (HWx010.out.below bc11 (Nat.le_refl _))
  have HWx111 : Hid (opE.Own w11 w7.heap.size (.slice (some ⟨w7.heap.size, 0, none⟩) N N) ls) := Lib.hid (HWx110.out.below bc11 (Nat.le_refl _))
  have HWg011 : Hid (OwnP w11 w8.heap.size (.slice A9 s.p.length c9) s.p) := Lib.hid (HWg010.out.below bc11 (Nat.le_refl _))
  have HVw011 : Hid (HasP w11 w5.heap.size A4 s.p) := Lib.hid (HVw010.out.below (bc11.mono HMm10.out.size))
  clear HRaR10 HHaR10 HRw010 HHw010 HRx010 HHx010 HRg010 HHg010 HB10 HRT10 HMm10
  clear HWx010 HWx110 HWg010 HVw010
  clear bb11 bc11
  clear b11
  go_wp2_with fail
  have HT0 : Hid (Below w11.heap.size w11 w11.drew) := Lib.hid (below_draws (Below.refl _ _) 1)
  refine wp_region_held_drew (S := fun v => Below w11.heap.size w11 v) (by kernel_rfl) (below_draws (Below.refl _ _) 1) fun _ => ?_
  generalize w11.drew = u0 at *
  refine wpAnyH_takeD (i := 0) (d := 54) (v := .agg #[.int .i64 r.w, .int .i64 r.h, .slice (some ⟨g6, 0, none⟩) r.p.length r.p.length]) rfl rfl (by kernel_rfl) (by kernel_rfl) (by kernel_rfl) (fun _ _ _ h => h) HT0.out (Or.inl ⟨by rfl, fun w' hS' => ?_⟩) ?_
  · have t := Box.below HRx011.out hS' (Box.lt HRx011.out)
    have t0 := RasAtB.c0 t
    have t1 := RasAtB.c1 t
    have t2 := RasAtB.c2 t
    go_simp
  simp only [Act.put, List.setIfInBounds_toArray, List.set_cons_zero, List.set_cons_succ]
  refine wpAnyH_takeD (i := 1) (d := 55) (v := .agg #[.int .i64 r.w, .int .i64 r.h, .slice A r.p.length c]) rfl rfl (by kernel_rfl) (by kernel_rfl) (by kernel_rfl) (fun _ _ _ h => h) HT0.out (Or.inl ⟨by rfl, fun w' hS' => ?_⟩) ?_
  · have t := Box.below HRaR11.out hS' (Box.lt HRaR11.out)
    have t0 := RasAtB.c0 t
    have t1 := RasAtB.c1 t
    have t2 := RasAtB.c2 t
    go_simp
  simp only [Act.put, List.setIfInBounds_toArray, List.set_cons_zero, List.set_cons_succ]
  refine wpAnyH_one (i := 2) (by kernel_rfl) rfl (fun K hK => ?_)
  go_simp
  refine (CT.out _ _ _ (HHaR11.out.carry HT0.out (Nat.le_refl _) HT0.out.size)).mono ?_
  rintro e v1 ⟨gv, rfl, ov, bv1⟩
  have HT1 := Lib.hid (HT0.out.trans (bv1.mono HT0.out.size))
  have HOV := Lib.hid ov.reads
  refine hK.out _ _ HT1.out ?_
  clear hK bv1 ov
  try simp only [Act.put, List.setIfInBounds_toArray, List.set_cons_zero, List.set_cons_succ]
  refine wpAnyH_one (i := 3) (by kernel_rfl) rfl (fun K hK => ?_)
  go_simp
  refine (CX.out _ _ _ _ _ (HHx011.out.carry HT1.out (Nat.le_refl _) HT1.out.size) HOV.out).mono ?_
  rintro e w12 ⟨rfl, bv2⟩
  have HT2 := Lib.hid (HT1.out.trans (bv2.mono HT1.out.size))
  refine hK.out _ _ HT2.out ?_
  clear hK bv2
  try simp only [Act.put, List.setIfInBounds_toArray, List.set_cons_zero, List.set_cons_succ]
  refine wpAnyH_one (i := 4) (by kernel_rfl) rfl (fun K hK => ?_)
  go_simp
  refine hK.out _ _ HT2.out ?_
  clear hK
  refine wpAnyH_done (by kernel_rfl) ?_ _
  have b12 := HT2.out
  have bb12 : Below w11.heap.size w11 w12 := ((Below.refl w11.heap.size w11)).trans (b12.mono ((Below.refl w11.heap.size w11)).size)
  have bc12 : Below w11.heap.size w11 w12 := ((Below.refl w11.heap.size w11)).trans (bb12.mono ((Below.refl w11.heap.size w11)).size)
  have HRaR12 : Hid (RasAtB w12 (w.heap.size) r.w r.h A r.p.length c 24) := Lib.hid (Box.below HRaR11.out bc12 (RasAtB.lt HRaR11.out))
  have HHaR12 : Hid (HasP w12 w12.heap.size A r.p) := Lib.hid (HHaR11.out.carry bc12 (Nat.le_refl _) bc12.size)
  have HRw012 : Hid (RasAtB w12 (w4.heap.size) s.w s.h A4 s.p.length c4 30) := Lib.hid (Box.below HRw011.out bc12 (RasAtB.lt HRw011.out))
  have HHw012 : Hid (HasP w12 w12.heap.size A4 s.p) := Lib.hid (HHw011.out.carry bc12 (Nat.le_refl _) bc12.size)
  have HRx012 : Hid (RasAtB w12 (w6.heap.size) r.w r.h (some ⟨g6, 0, none⟩) r.p.length r.p.length 30) := Lib.hid (Box.below HRx011.out bc12 (RasAtB.lt HRx011.out))
  have HHx012 : Hid (HasP w12 w12.heap.size (some ⟨g6, 0, none⟩) r.p) := Lib.hid (HHx011.out.carry bc12 (Nat.le_refl _) bc12.size)
  have HRg012 : Hid (RasAtB w12 (w9.heap.size) s.w s.h A9 s.p.length c9 30) := Lib.hid (Box.below HRg011.out bc12 (RasAtB.lt HRg011.out))
  have HHg012 : Hid (HasP w12 w12.heap.size A9 s.p) := Lib.hid (HHg011.out.carry bc12 (Nat.le_refl _) bc12.size)
  have HB12 := Lib.hid (HB11.out.trans (bc12.mono HB11.out.size))
  have HRT12 : Hid (RangesIn w12) := Lib.hid (HRT11.out.next bc12)
  have HMm12 := Lib.hid (HMm11.out.trans (bc12.mono HMm11.out.size))
  have HWx012 : Hid (OwnP w12 w5.heap.size (.slice (some ⟨g6, 0, none⟩) r.p.length r.p.length) r.p) := Lib.hid (HWx011.out.below bc12 (Nat.le_refl _))
  have HWx112 : Hid (opE.Own w12 w7.heap.size (.slice (some ⟨w7.heap.size, 0, none⟩) N N) ls) := Lib.hid (HWx111.out.below bc12 (Nat.le_refl _))
  have HWg012 : Hid (OwnP w12 w8.heap.size (.slice A9 s.p.length c9) s.p) := Lib.hid (HWg011.out.below bc12 (Nat.le_refl _))
  have HVw012 : Hid (HasP w12 w5.heap.size A4 s.p) := Lib.hid (HVw011.out.below (bc12.mono HMm11.out.size))
  clear HRaR11 HHaR11 HRw011 HHw011 HRx011 HHx011 HRg011 HHg011 HB11 HRT11 HMm11
  clear HWx011 HWx111 HWg011 HVw011
  clear bb12 bc12
  clear b12 HT0 HT1 HT2 HOV
  go_wp2_with fail
  refine (CO.out _ (HLO.out _ HB12.out)).mono ?_
  rintro e w13 ⟨rfl, o13, b13⟩
  have bb13 : Below w12.heap.size w12 w13 := ((Below.refl w12.heap.size w12)).trans (b13.mono ((Below.refl w12.heap.size w12)).size)
  have bc13 : Below w12.heap.size w12 w13 := ((Below.refl w12.heap.size w12)).trans (bb13.mono ((Below.refl w12.heap.size w12)).size)
  have HRaR13 : Hid (RasAtB w13 (w.heap.size) r.w r.h A r.p.length c 24) := Lib.hid (Box.below HRaR12.out bc13 (RasAtB.lt HRaR12.out))
  have HHaR13 : Hid (HasP w13 w13.heap.size A r.p) := Lib.hid (HHaR12.out.carry bc13 (Nat.le_refl _) bc13.size)
  have HRw013 : Hid (RasAtB w13 (w4.heap.size) s.w s.h A4 s.p.length c4 30) := Lib.hid (Box.below HRw012.out bc13 (RasAtB.lt HRw012.out))
  have HHw013 : Hid (HasP w13 w13.heap.size A4 s.p) := Lib.hid (HHw012.out.carry bc13 (Nat.le_refl _) bc13.size)
  have HRx013 : Hid (RasAtB w13 (w6.heap.size) r.w r.h (some ⟨g6, 0, none⟩) r.p.length r.p.length 30) := Lib.hid (Box.below HRx012.out bc13 (RasAtB.lt HRx012.out))
  have HHx013 : Hid (HasP w13 w13.heap.size (some ⟨g6, 0, none⟩) r.p) := Lib.hid (HHx012.out.carry bc13 (Nat.le_refl _) bc13.size)
  have HRg013 : Hid (RasAtB w13 (w9.heap.size) s.w s.h A9 s.p.length c9 30) := Lib.hid (Box.below HRg012.out bc13 (RasAtB.lt HRg012.out))
  have HHg013 : Hid (HasP w13 w13.heap.size A9 s.p) := Lib.hid (HHg012.out.carry bc13 (Nat.le_refl _) bc13.size)
  have HB13 := Lib.hid (HB12.out.trans (bc13.mono HB12.out.size))
  have HRT13 : Hid (RangesIn w13) := Lib.hid (HRT12.out.next bc13)
  have HMm13 := Lib.hid (HMm12.out.trans (bc13.mono HMm12.out.size))
  have HWx013 : Hid (OwnP w13 w5.heap.size (.slice (some ⟨g6, 0, none⟩) r.p.length r.p.length) r.p) := Lib.hid (HWx012.out.below bc13 (Nat.le_refl _))
  have HWx113 : Hid (opE.Own w13 w7.heap.size (.slice (some ⟨w7.heap.size, 0, none⟩) N N) ls) := Lib.hid (HWx112.out.below bc13 (Nat.le_refl _))
  have HWg013 : Hid (OwnP w13 w8.heap.size (.slice A9 s.p.length c9) s.p) := Lib.hid (HWg012.out.below bc13 (Nat.le_refl _))
  have HVw013 : Hid (HasP w13 w5.heap.size A4 s.p) := Lib.hid (HVw012.out.below (bc13.mono HMm12.out.size))
  clear HRaR12 HHaR12 HRw012 HHw012 HRx012 HHx012 HRg012 HHg012 HB12 HRT12 HMm12
  clear HWx012 HWx112 HWg012 HVw012
  clear bb13 bc13
  have HU13 := Lib.hid (El.Own.reads o13)
  clear b13 o13
  go_wp2_with fail
  refine (CP.out _ _ _ _ _ (El.Own.reads HWx113.out) HU13.out).mono ?_
  rintro e w14 ⟨rfl, b14⟩
  have bb14 : Below w13.heap.size w13 w14 := ((Below.refl w13.heap.size w13)).trans (b14.mono ((Below.refl w13.heap.size w13)).size)
  have bc14 : Below w13.heap.size w13 w14 := ((Below.refl w13.heap.size w13)).trans (bb14.mono ((Below.refl w13.heap.size w13)).size)
  have HRaR14 : Hid (RasAtB w14 (w.heap.size) r.w r.h A r.p.length c 24) := Lib.hid (Box.below HRaR13.out bc14 (RasAtB.lt HRaR13.out))
  have HHaR14 : Hid (HasP w14 w14.heap.size A r.p) := Lib.hid (HHaR13.out.carry bc14 (Nat.le_refl _) bc14.size)
  have HRw014 : Hid (RasAtB w14 (w4.heap.size) s.w s.h A4 s.p.length c4 30) := Lib.hid (Box.below HRw013.out bc14 (RasAtB.lt HRw013.out))
  have HHw014 : Hid (HasP w14 w14.heap.size A4 s.p) := Lib.hid (HHw013.out.carry bc14 (Nat.le_refl _) bc14.size)
  have HRx014 : Hid (RasAtB w14 (w6.heap.size) r.w r.h (some ⟨g6, 0, none⟩) r.p.length r.p.length 30) := Lib.hid (Box.below HRx013.out bc14 (RasAtB.lt HRx013.out))
  have HHx014 : Hid (HasP w14 w14.heap.size (some ⟨g6, 0, none⟩) r.p) := Lib.hid (HHx013.out.carry bc14 (Nat.le_refl _) bc14.size)
  have HRg014 : Hid (RasAtB w14 (w9.heap.size) s.w s.h A9 s.p.length c9 30) := Lib.hid (Box.below HRg013.out bc14 (RasAtB.lt HRg013.out))
  have HHg014 : Hid (HasP w14 w14.heap.size A9 s.p) := Lib.hid (HHg013.out.carry bc14 (Nat.le_refl _) bc14.size)
  have HB14 := Lib.hid (HB13.out.trans (bc14.mono HB13.out.size))
  have HRT14 : Hid (RangesIn w14) := Lib.hid (HRT13.out.next bc14)
  have HMm14 := Lib.hid (HMm13.out.trans (bc14.mono HMm13.out.size))
  have HWx014 : Hid (OwnP w14 w5.heap.size (.slice (some ⟨g6, 0, none⟩) r.p.length r.p.length) r.p) := Lib.hid (HWx013.out.below bc14 (Nat.le_refl _))
  have HWx114 : Hid (opE.Own w14 w7.heap.size (.slice (some ⟨w7.heap.size, 0, none⟩) N N) ls) := Lib.hid (HWx113.out.below bc14 (Nat.le_refl _))
  have HWg014 : Hid (OwnP w14 w8.heap.size (.slice A9 s.p.length c9) s.p) := Lib.hid (HWg013.out.below bc14 (Nat.le_refl _))
  have HVw014 : Hid (HasP w14 w5.heap.size A4 s.p) := Lib.hid (HVw013.out.below (bc14.mono HMm13.out.size))
  clear HRaR13 HHaR13 HRw013 HHw013 HRx013 HHx013 HRg013 HHg013 HB13 HRT13 HMm13
  clear HWx013 HWx113 HWg013 HVw013
  clear bb14 bc14
  clear b14 HU13
  have x0c0 := RasAtB.c0 HRx014.out
  have x0c1 := RasAtB.c1 HRx014.out
  have x0c2 := RasAtB.c2 HRx014.out
  go_wp2_with fail
  refine (CN.out _ _ _ _ HWx014.out).mono ?_
  rintro e w15 ⟨rfl, -, g15⟩
  clear x0c0 x0c1 x0c2
  have g15' : w14.grownBy w15 (some g6) := g15
  have hg6 := HG6.out
  have hg8 := HG8.out
  have hs7 := HS7.out
  have hs9 := HS9.out
  have h5 := HL5.out
  have h57 : w5.heap.size ≤ w7.heap.size := by omega
  have b15 : Below w5.heap.size w14 w15 := (Below.refl _ w14).grown g15' HMm14.out.size (fun q e => by injection e with e; omega)
  have B15 : Below w.heap.size w w15 := HB14.out.trans (b15.mono (by omega))
  have HB15 := Lib.hid B15
  have HRT15 := Lib.hid (HRW.out.next B15)
  have HMm15 := Lib.hid (HMm14.out.trans b15)
  have HRaR15 := Lib.hid (Box.below HRaR14.out b15 h5.1)
  have HRw015 := Lib.hid (Box.below HRw014.out b15 h5.2)
  have HVw015 := Lib.hid (HVw014.out.below b15)
  have HHaR15 := Lib.hid (HA.out _ B15)
  have HHw015 := Lib.hid (HVw015.out.wider HMm15.out.size)
  have HRg015 := Lib.hid (RasAtB.grown HRg014.out g15' (by intro e; injection e with e; omega))
  have HWg015 := Lib.hid (HWg014.out.keepRd g15' (by omega))
  have HHg015 := Lib.hid HWg015.out.reads
  have HWx115 := Lib.hid (El.Own.keep HWx114.out g15' (.inr fun e => by have e' : w7.heap.size = g6 := Option.some.inj e; omega))
  clear g15 g15' hg6 hg8 hs7 hs9 h5 h57 b15 B15
  clear HRaR14 HHaR14 HRw014 HHw014 HRx014 HHx014 HRg014 HHg014 HB14 HRT14 HMm14
  clear HWx114 HWg014 HVw014
  clear HWx014
  go_wp2_with fail
  refine (CMO.out _ _ _ _ HWx115.out).mono ?_
  rintro e w16 ⟨rfl, -, g16⟩
  have g16' : w15.grownBy w16 (some w7.heap.size) := g16
  have hg6 := HG6.out
  have hg8 := HG8.out
  have hs7 := HS7.out
  have hs9 := HS9.out
  have h5 := HL5.out
  have h57 : w5.heap.size ≤ w7.heap.size := by omega
  have b16 : Below w5.heap.size w15 w16 := (Below.refl _ w15).grown g16' HMm15.out.size (fun q e => by injection e with e; omega)
  have B16 : Below w.heap.size w w16 := HB15.out.trans (b16.mono (by omega))
  have HB16 := Lib.hid B16
  have HRT16 := Lib.hid (HRW.out.next B16)
  have HMm16 := Lib.hid (HMm15.out.trans b16)
  have HRaR16 := Lib.hid (Box.below HRaR15.out b16 h5.1)
  have HRw016 := Lib.hid (Box.below HRw015.out b16 h5.2)
  have HVw016 := Lib.hid (HVw015.out.below b16)
  have HHaR16 := Lib.hid (HA.out _ B16)
  have HHw016 := Lib.hid (HVw016.out.wider HMm16.out.size)
  have HRg016 := Lib.hid (RasAtB.grown HRg015.out g16' (by intro e; injection e with e; omega))
  have HWg016 := Lib.hid (HWg015.out.keepRd g16' (by omega))
  have HHg016 := Lib.hid HWg016.out.reads
  clear g16 g16' hg6 hg8 hs7 hs9 h5 h57 b16 B16
  clear HRaR15 HHaR15 HRw015 HHw015 HRg015 HHg015 HB15 HRT15 HMm15
  clear HWg015 HVw015
  clear HWx115
  have g0c0 := RasAtB.c0 HRg016.out
  have g0c1 := RasAtB.c1 HRg016.out
  have g0c2 := RasAtB.c2 HRg016.out
  have w0c0 := RasAtB.c0 HRw016.out
  have w0c1 := RasAtB.c1 HRw016.out
  have w0c2 := RasAtB.c2 HRw016.out
  go_wp2_with fail
  refine (CQ.out _ _ _ _ _ HHg016.out HHw016.out).mono ?_
  rintro e w17 ⟨rfl, b17⟩
  clear g0c0 g0c1 g0c2 w0c0 w0c1 w0c2
  have bb17 : Below w16.heap.size w16 w17 := ((Below.refl w16.heap.size w16)).trans (b17.mono ((Below.refl w16.heap.size w16)).size)
  have bc17 : Below w16.heap.size w16 w17 := ((Below.refl w16.heap.size w16)).trans (bb17.mono ((Below.refl w16.heap.size w16)).size)
  have HRaR17 : Hid (RasAtB w17 (w.heap.size) r.w r.h A r.p.length c 24) := Lib.hid (Box.below HRaR16.out bc17 (RasAtB.lt HRaR16.out))
  have HHaR17 : Hid (HasP w17 w17.heap.size A r.p) := Lib.hid (HHaR16.out.carry bc17 (Nat.le_refl _) bc17.size)
  have HRw017 : Hid (RasAtB w17 (w4.heap.size) s.w s.h A4 s.p.length c4 30) := Lib.hid (Box.below HRw016.out bc17 (RasAtB.lt HRw016.out))
  have HHw017 : Hid (HasP w17 w17.heap.size A4 s.p) := Lib.hid (HHw016.out.carry bc17 (Nat.le_refl _) bc17.size)
  have HRg017 : Hid (RasAtB w17 (w9.heap.size) s.w s.h A9 s.p.length c9 30) := Lib.hid (Box.below HRg016.out bc17 (RasAtB.lt HRg016.out))
  have HHg017 : Hid (HasP w17 w17.heap.size A9 s.p) := Lib.hid (HHg016.out.carry bc17 (Nat.le_refl _) bc17.size)
  have HB17 := Lib.hid (HB16.out.trans (bc17.mono HB16.out.size))
  have HRT17 : Hid (RangesIn w17) := Lib.hid (HRT16.out.next bc17)
  have HMm17 := Lib.hid (HMm16.out.trans (bc17.mono HMm16.out.size))
  have HWg017 : Hid (OwnP w17 w8.heap.size (.slice A9 s.p.length c9) s.p) := Lib.hid (HWg016.out.below bc17 (Nat.le_refl _))
  have HVw017 : Hid (HasP w17 w5.heap.size A4 s.p) := Lib.hid (HVw016.out.below (bc17.mono HMm16.out.size))
  clear HRaR16 HHaR16 HRw016 HHw016 HRg016 HHg016 HB16 HRT16 HMm16
  clear HWg016 HVw016
  clear bb17 bc17
  clear b17
  have HS17 : Hid (w8.heap.size ≤ w17.heap.size) := Lib.hid (by have := HS9.out; have := RasAtB.lt HRg017.out; omega)
  have g0c0 := RasAtB.c0 HRg017.out
  have g0c1 := RasAtB.c1 HRg017.out
  have g0c2 := RasAtB.c2 HRg017.out
  go_wp2_with fail
  refine (CM.out _ _ _ _ HWg017.out).mono ?_
  rintro e w18 ⟨rfl, o18, g18⟩
  clear g0c0 g0c1 g0c2
  have h5 := HL5.out
  have h58 : w5.heap.size ≤ w8.heap.size := by have := HG8.out; have := HS7.out; have := HG6.out; omega
  have b18 : Below w8.heap.size w17 w18 := (Below.refl _ w17).grown g18 HS17.out (fun q e => (World.ownsRow.lt HWg017.out q e).1)
  have B18 : Below w.heap.size w w18 := HB17.out.trans (b18.mono (by omega))
  have HB18 := Lib.hid B18
  have HRT18 := Lib.hid (HRW.out.next B18)
  have HMm18 := Lib.hid (HMm17.out.trans (b18.mono h58))
  have HRaR18 := Lib.hid (Box.below HRaR17.out b18 (by omega))
  have HRw018 := Lib.hid (Box.below HRw017.out b18 (by omega))
  have HVw018 := Lib.hid (HVw017.out.below (b18.mono h58))
  have HHaR18 := Lib.hid (HA.out _ B18)
  have HHw018 := Lib.hid (HVw018.out.wider HMm18.out.size)
  have HRg018 := Lib.hid (RasAtB.grown HRg017.out g18 (fun e => by have := HNg0.out _ e; omega))
  have HKg18 := Lib.hid o18.reads
  clear g18 h5 h58 b18 B18 o18
  clear HRaR17 HHaR17 HRw017 HHw017 HRg017 HHg017 HB17 HRT17 HMm17
  clear HVw017
  clear HWg017
  have g0c0 := RasAtB.c0 HRg018.out
  have g0c1 := RasAtB.c1 HRg018.out
  have g0c2 := RasAtB.c2 HRg018.out
  go_wp2_with fail
  refine (CH.out _ _ _ HKg18.out).mono ?_
  rintro e w19 ⟨rfl, b19⟩
  clear g0c0 g0c1 g0c2
  have HRg019 := Lib.hid (Box.below HRg018.out b19 (Box.lt HRg018.out))
  have HKg19 := Lib.hid (HKg18.out.carry b19 (Nat.le_refl _) b19.size)
  clear HRg018 HKg18
  have bb19 : Below w18.heap.size w18 w19 := ((Below.refl w18.heap.size w18)).trans (b19.mono ((Below.refl w18.heap.size w18)).size)
  have bc19 : Below w18.heap.size w18 w19 := ((Below.refl w18.heap.size w18)).trans (bb19.mono ((Below.refl w18.heap.size w18)).size)
  have HRaR19 : Hid (RasAtB w19 (w.heap.size) r.w r.h A r.p.length c 24) := Lib.hid (Box.below HRaR18.out bc19 (RasAtB.lt HRaR18.out))
  have HHaR19 : Hid (HasP w19 w19.heap.size A r.p) := Lib.hid (HHaR18.out.carry bc19 (Nat.le_refl _) bc19.size)
  have HRw019 : Hid (RasAtB w19 (w4.heap.size) s.w s.h A4 s.p.length c4 30) := Lib.hid (Box.below HRw018.out bc19 (RasAtB.lt HRw018.out))
  have HHw019 : Hid (HasP w19 w19.heap.size A4 s.p) := Lib.hid (HHw018.out.carry bc19 (Nat.le_refl _) bc19.size)
  have HB19 := Lib.hid (HB18.out.trans (bc19.mono HB18.out.size))
  have HRT19 : Hid (RangesIn w19) := Lib.hid (HRT18.out.next bc19)
  have HMm19 := Lib.hid (HMm18.out.trans (bc19.mono HMm18.out.size))
  have HVw019 : Hid (HasP w19 w5.heap.size A4 s.p) := Lib.hid (HVw018.out.below (bc19.mono HMm18.out.size))
  clear HRaR18 HHaR18 HRw018 HHw018 HB18 HRT18 HMm18
  clear HVw018
  clear bb19 bc19
  clear b19
  have aRc0 := RasAtB.c0 HRaR19.out
  have aRc1 := RasAtB.c1 HRaR19.out
  have aRc2 := RasAtB.c2 HRaR19.out
  go_wp2_with fail
  refine (CT.out _ _ _ HHaR19.out).mono ?_
  rintro e w20 ⟨g20, rfl, o20, b20⟩
  clear aRc0 aRc1 aRc2
  have HRg020 := Lib.hid (Box.below HRg019.out b20 (Box.lt HRg019.out))
  have HKg20 := Lib.hid (HKg19.out.carry b20 (Nat.le_refl _) b20.size)
  clear HRg019 HKg19
  have bb20 : Below w19.heap.size w19 w20 := ((Below.refl w19.heap.size w19)).trans (b20.mono ((Below.refl w19.heap.size w19)).size)
  have bc20 : Below w19.heap.size w19 w20 := ((Below.refl w19.heap.size w19)).trans (bb20.mono ((Below.refl w19.heap.size w19)).size)
  have HRaR20 : Hid (RasAtB w20 (w.heap.size) r.w r.h A r.p.length c 24) := Lib.hid (Box.below HRaR19.out bc20 (RasAtB.lt HRaR19.out))
  have HHaR20 : Hid (HasP w20 w20.heap.size A r.p) := Lib.hid (HHaR19.out.carry bc20 (Nat.le_refl _) bc20.size)
  have HRw020 : Hid (RasAtB w20 (w4.heap.size) s.w s.h A4 s.p.length c4 30) := Lib.hid (Box.below HRw019.out bc20 (RasAtB.lt HRw019.out))
  have HHw020 : Hid (HasP w20 w20.heap.size A4 s.p) := Lib.hid (HHw019.out.carry bc20 (Nat.le_refl _) bc20.size)
  have HB20 := Lib.hid (HB19.out.trans (bc20.mono HB19.out.size))
  have HRT20 : Hid (RangesIn w20) := Lib.hid (HRT19.out.next bc20)
  have HMm20 := Lib.hid (HMm19.out.trans (bc20.mono HMm19.out.size))
  have HVw020 : Hid (HasP w20 w5.heap.size A4 s.p) := Lib.hid (HVw019.out.below (bc20.mono HMm19.out.size))
  clear HRaR19 HHaR19 HRw019 HHw019 HB19 HRT19 HMm19
  clear HVw019
  clear bb20 bc20
  have HT20 := Lib.hid o20.reads
  clear b20 o20
  go_wp2_with fail
  refine (CO.out _ (HLO.out _ HB20.out)).mono ?_
  rintro e w21 ⟨rfl, o21, b21⟩
  have HRg021 := Lib.hid (Box.below HRg020.out b21 (Box.lt HRg020.out))
  have HKg21 := Lib.hid (HKg20.out.carry b21 (Nat.le_refl _) b21.size)
  clear HRg020 HKg20
  have bb21 : Below w20.heap.size w20 w21 := ((Below.refl w20.heap.size w20)).trans (b21.mono ((Below.refl w20.heap.size w20)).size)
  have bc21 : Below w20.heap.size w20 w21 := ((Below.refl w20.heap.size w20)).trans (bb21.mono ((Below.refl w20.heap.size w20)).size)
  have HRaR21 : Hid (RasAtB w21 (w.heap.size) r.w r.h A r.p.length c 24) := Lib.hid (Box.below HRaR20.out bc21 (RasAtB.lt HRaR20.out))
  have HHaR21 : Hid (HasP w21 w21.heap.size A r.p) := Lib.hid (HHaR20.out.carry bc21 (Nat.le_refl _) bc21.size)
  have HRw021 : Hid (RasAtB w21 (w4.heap.size) s.w s.h A4 s.p.length c4 30) := Lib.hid (Box.below HRw020.out bc21 (RasAtB.lt HRw020.out))
  have HHw021 : Hid (HasP w21 w21.heap.size A4 s.p) := Lib.hid (HHw020.out.carry bc21 (Nat.le_refl _) bc21.size)
  have HB21 := Lib.hid (HB20.out.trans (bc21.mono HB20.out.size))
  have HRT21 : Hid (RangesIn w21) := Lib.hid (HRT20.out.next bc21)
  have HMm21 := Lib.hid (HMm20.out.trans (bc21.mono HMm20.out.size))
  have HVw021 : Hid (HasP w21 w5.heap.size A4 s.p) := Lib.hid (HVw020.out.below (bc21.mono HMm20.out.size))
  clear HRaR20 HHaR20 HRw020 HHw020 HB20 HRT20 HMm20
  clear HVw020
  clear bb21 bc21
  have HT21 := Lib.hid (HT20.out.carry b21 (Nat.le_refl _) b21.size)
  have HU21 := Lib.hid (El.Own.reads o21)
  clear b21 o21 HT20
  go_wp2_with fail
  refine (CI.out _ _ _ _ HRT21.out (Nat.le_refl _) HT21.out HU21.out).mono ?_
  rintro e w22 ⟨A22, c22, rfl, hc22, o22, b22⟩
  have HRg022 := Lib.hid (Box.below HRg021.out b22 (Box.lt HRg021.out))
  have HKg22 := Lib.hid (HKg21.out.carry b22 (Nat.le_refl _) b22.size)
  clear HRg021 HKg21
  have bb22 : Below w21.heap.size w21 w22 := ((Below.refl w21.heap.size w21)).trans (b22.mono ((Below.refl w21.heap.size w21)).size)
  have bc22 : Below w21.heap.size w21 w22 := ((Below.refl w21.heap.size w21)).trans (bb22.mono ((Below.refl w21.heap.size w21)).size)
  have HRaR22 : Hid (RasAtB w22 (w.heap.size) r.w r.h A r.p.length c 24) := Lib.hid (Box.below HRaR21.out bc22 (RasAtB.lt HRaR21.out))
  have HHaR22 : Hid (HasP w22 w22.heap.size A r.p) := Lib.hid (HHaR21.out.carry bc22 (Nat.le_refl _) bc22.size)
  have HRw022 : Hid (RasAtB w22 (w4.heap.size) s.w s.h A4 s.p.length c4 30) := Lib.hid (Box.below HRw021.out bc22 (RasAtB.lt HRw021.out))
  have HHw022 : Hid (HasP w22 w22.heap.size A4 s.p) := Lib.hid (HHw021.out.carry bc22 (Nat.le_refl _) bc22.size)
  have HB22 := Lib.hid (HB21.out.trans (bc22.mono HB21.out.size))
  have HRT22 : Hid (RangesIn w22) := Lib.hid (HRT21.out.next bc22)
  have HMm22 := Lib.hid (HMm21.out.trans (bc22.mono HMm21.out.size))
  have HVw022 : Hid (HasP w22 w5.heap.size A4 s.p) := Lib.hid (HVw021.out.below (bc22.mono HMm21.out.size))
  clear HRaR21 HHaR21 HRw021 HHw021 HB21 HRT21 HMm21
  clear HVw021
  clear bb22 bc22
  have HHh022 := Lib.hid o22.reads
  clear b22 o22 HT21 HU21
  have HRh022 : Hid (RasAtB (w22.alloc (.cells #[.int .i64 (s.w : Int), .int .i64 (s.h : Int), .slice A22 s.p.length c22] 30)) (w22.heap.size) s.w s.h A22 s.p.length c22 30) := Lib.hid (Box.new w22 _ _)
  have bh : Below w22.heap.size w22 (w22.alloc (.cells #[.int .i64 (s.w : Int), .int .i64 (s.h : Int), .slice A22 s.p.length c22] 30)) := ((Below.refl w22.heap.size w22).alloc (Nat.le_refl _) _)
  have HRg0h := Lib.hid (Box.below HRg022.out bh (Box.lt HRg022.out))
  have HKgh := Lib.hid (HKg22.out.carry bh (Nat.le_refl _) bh.size)
  clear bh HRg022 HKg22
  have w0c0 := RasAtB.c0 HRw022.out
  have w0c1 := RasAtB.c1 HRw022.out
  have w0c2 := RasAtB.c2 HRw022.out
  have w0n0 : w4.heap.size < w22.heap.size := by have := RasAtB.lt HRw022.out; omega
  have HBN23 : Hid (Below w22.heap.size w22 (w22.alloc (.cells #[.int .i64 (s.w : Int), .int .i64 (s.h : Int), .slice A22 s.p.length c22] 30))) := Lib.hid ((Below.refl w22.heap.size w22).alloc (Nat.le_refl _) _)
  go_wp2_with fail
  generalize w22.alloc (.cells #[.int .i64 (s.w : Int), .int .i64 (s.h : Int), .slice A22 s.p.length c22] 30) = w23 at *
  have b23 := HBN23.out
  have HRh023 : Hid (RasAtB w23 (w22.heap.size) s.w s.h A22 s.p.length c22 30) := HRh022
  have HHh023 : Hid (HasP w23 w23.heap.size A22 s.p) := Lib.hid (HHh022.out.carry b23 (Nat.le_refl _) b23.size)
  have HRaR23 : Hid (RasAtB w23 (w.heap.size) r.w r.h A r.p.length c 24) := Lib.hid (Box.below HRaR22.out b23 (RasAtB.lt HRaR22.out))
  have HHaR23 : Hid (HasP w23 w23.heap.size A r.p) := Lib.hid (HHaR22.out.carry b23 (Nat.le_refl _) b23.size)
  have HRw023 : Hid (RasAtB w23 (w4.heap.size) s.w s.h A4 s.p.length c4 30) := Lib.hid (Box.below HRw022.out b23 (RasAtB.lt HRw022.out))
  have HHw023 : Hid (HasP w23 w23.heap.size A4 s.p) := Lib.hid (HHw022.out.carry b23 (Nat.le_refl _) b23.size)
  have HB23 := Lib.hid (HB22.out.trans (b23.mono HB22.out.size))
  have HRT23 : Hid (RangesIn w23) := Lib.hid (HRT22.out.next b23)
  have HMm23 := Lib.hid (HMm22.out.trans (b23.mono HMm22.out.size))
  have HVw023 : Hid (HasP w23 w5.heap.size A4 s.p) := Lib.hid (HVw022.out.below (b23.mono HMm22.out.size))
  clear HRaR22 HHaR22 HRw022 HHw022 HRh022 HHh022 HB22 HRT22 HMm22
  clear HVw022
  clear b23 HBN23
  clear w0c0 w0c1 w0c2 w0n0
  have HRg023 := HRg0h
  have HKg23 := HKgh
  clear HRg0h HKgh
  refine (CQ.out _ _ _ _ _ HHh023.out HHw023.out).mono ?_
  rintro e w24 ⟨rfl, b24⟩
  have HRg024 := Lib.hid (Box.below HRg023.out b24 (Box.lt HRg023.out))
  have HKg24 := Lib.hid (HKg23.out.carry b24 (Nat.le_refl _) b24.size)
  clear HRg023 HKg23
  have bb24 : Below w23.heap.size w23 w24 := ((Below.refl w23.heap.size w23)).trans (b24.mono ((Below.refl w23.heap.size w23)).size)
  have bc24 : Below w23.heap.size w23 w24 := ((Below.refl w23.heap.size w23)).trans (bb24.mono ((Below.refl w23.heap.size w23)).size)
  have HRaR24 : Hid (RasAtB w24 (w.heap.size) r.w r.h A r.p.length c 24) := Lib.hid (Box.below HRaR23.out bc24 (RasAtB.lt HRaR23.out))
  have HHaR24 : Hid (HasP w24 w24.heap.size A r.p) := Lib.hid (HHaR23.out.carry bc24 (Nat.le_refl _) bc24.size)
  have HRw024 : Hid (RasAtB w24 (w4.heap.size) s.w s.h A4 s.p.length c4 30) := Lib.hid (Box.below HRw023.out bc24 (RasAtB.lt HRw023.out))
  have HHw024 : Hid (HasP w24 w24.heap.size A4 s.p) := Lib.hid (HHw023.out.carry bc24 (Nat.le_refl _) bc24.size)
  have HRh024 : Hid (RasAtB w24 (w22.heap.size) s.w s.h A22 s.p.length c22 30) := Lib.hid (Box.below HRh023.out bc24 (RasAtB.lt HRh023.out))
  have HHh024 : Hid (HasP w24 w24.heap.size A22 s.p) := Lib.hid (HHh023.out.carry bc24 (Nat.le_refl _) bc24.size)
  have HB24 := Lib.hid (HB23.out.trans (bc24.mono HB23.out.size))
  have HRT24 : Hid (RangesIn w24) := Lib.hid (HRT23.out.next bc24)
  have HMm24 := Lib.hid (HMm23.out.trans (bc24.mono HMm23.out.size))
  have HVw024 : Hid (HasP w24 w5.heap.size A4 s.p) := Lib.hid (HVw023.out.below (bc24.mono HMm23.out.size))
  clear HRaR23 HHaR23 HRw023 HHw023 HRh023 HHh023 HB23 HRT23 HMm23
  clear HVw023
  clear bb24 bc24
  clear b24
  have g0c0 := RasAtB.c0 HRg024.out
  have g0c1 := RasAtB.c1 HRg024.out
  have g0c2 := RasAtB.c2 HRg024.out
  go_wp2_with fail
  refine (CH.out _ _ _ HKg24.out).mono ?_
  rintro e w25 ⟨rfl, b25⟩
  clear g0c0 g0c1 g0c2
  have HRg025 := Lib.hid (Box.below HRg024.out b25 (Box.lt HRg024.out))
  have HKg25 := Lib.hid (HKg24.out.carry b25 (Nat.le_refl _) b25.size)
  clear HRg024 HKg24
  have bb25 : Below w24.heap.size w24 w25 := ((Below.refl w24.heap.size w24)).trans (b25.mono ((Below.refl w24.heap.size w24)).size)
  have bc25 : Below w24.heap.size w24 w25 := ((Below.refl w24.heap.size w24)).trans (bb25.mono ((Below.refl w24.heap.size w24)).size)
  have HRaR25 : Hid (RasAtB w25 (w.heap.size) r.w r.h A r.p.length c 24) := Lib.hid (Box.below HRaR24.out bc25 (RasAtB.lt HRaR24.out))
  have HHaR25 : Hid (HasP w25 w25.heap.size A r.p) := Lib.hid (HHaR24.out.carry bc25 (Nat.le_refl _) bc25.size)
  have HRw025 : Hid (RasAtB w25 (w4.heap.size) s.w s.h A4 s.p.length c4 30) := Lib.hid (Box.below HRw024.out bc25 (RasAtB.lt HRw024.out))
  have HHw025 : Hid (HasP w25 w25.heap.size A4 s.p) := Lib.hid (HHw024.out.carry bc25 (Nat.le_refl _) bc25.size)
  have HRh025 : Hid (RasAtB w25 (w22.heap.size) s.w s.h A22 s.p.length c22 30) := Lib.hid (Box.below HRh024.out bc25 (RasAtB.lt HRh024.out))
  have HHh025 : Hid (HasP w25 w25.heap.size A22 s.p) := Lib.hid (HHh024.out.carry bc25 (Nat.le_refl _) bc25.size)
  have HB25 := Lib.hid (HB24.out.trans (bc25.mono HB24.out.size))
  have HRT25 : Hid (RangesIn w25) := Lib.hid (HRT24.out.next bc25)
  have HMm25 := Lib.hid (HMm24.out.trans (bc25.mono HMm24.out.size))
  have HVw025 : Hid (HasP w25 w5.heap.size A4 s.p) := Lib.hid (HVw024.out.below (bc25.mono HMm24.out.size))
  clear HRaR24 HHaR24 HRw024 HHw024 HRh024 HHh024 HB24 HRT24 HMm24
  clear HVw024
  clear bb25 bc25
  clear b25
  go_wp2_with fail
  go_ret
  exact ⟨rfl, HB25.out⟩
set_option maxHeartbeats 1000000 in
theorem fnExactOpsDo_walk (W H : Int) (A : Option Addr) (c : Nat) (l : List Px) (L : Option Addr) (lc : Nat) (ls : List Op) (w : World) (hR : RangesIn w) (h : HasP w w.heap.size A l) (hm : l.length ≤ maxLen) (hl : opL.Has w w.heap.size L ls) (hlm : ls.length ≤ maxLen) (_ : ls.length ≤ lc) :
    Calls Tryd.prog 3 #[rasV W H A l.length c, .slice L ls.length lc] w fun e w' => e = .returned (.bool true) ∧ Below w.heap.size w w' := by
  by_cases hs : l.length + ls.length ≤ 1048576
  · exact fnExactOpsDo_small ⟨W, H, l⟩ A c L lc ls w hR h hl hs
  have b0 : Below w.heap.size w (w.alloc (.cells #[.int .i64 W, .int .i64 H, .slice A l.length c] 24)) := (Below.refl _ w).alloc (Nat.le_refl _) _
  have HRaR0 : RasAtB (w.alloc (.cells #[.int .i64 W, .int .i64 H, .slice A l.length c] 24)) w.heap.size W H A l.length c 24 := Box.new w _ _
  by_cases hbig : l.length ≤ 1048576
  · have CZ := Lib.hid fun u => szRasRaster_small W H A l.length c u hbig
    have CY := Lib.hid fun u => szOpOpS_any L ls.length lc (1048576 - (l.length : Int)) u (by omega) hlm
    rw [if_neg (by omega)] at CY
    have hz : ¬ ((1048576 : Int) - (l.length : Int) < 0) := by omega
    unfold rasV at *
    clear h hm hl hlm hs hbig hR
    go_enter Tryd.func3, Tryd.ntmps3
    go_wp2_with fail
    generalize w.alloc (.cells #[.int .i64 W, .int .i64 H, .slice A l.length c] 24) = w0 at *
    have x0 := RasAtB.c0 HRaR0
    have x1 := RasAtB.c1 HRaR0
    have x2 := RasAtB.c2 HRaR0
    go_wp2_with fail
    refine (CZ.out _).mono ?_
    rintro e w1 ⟨rfl, b1⟩
    have HB := Lib.hid (b0.trans (b1.mono b0.size))
    clear b0 b1 x0 x1 x2 HRaR0
    go_wp2_with fail
    refine (CY.out _).mono ?_
    rintro e w1' ⟨rfl, rfl⟩
    go_wp2_with fail
    go_ret
    exact ⟨rfl, HB.out⟩
  · have CZ := Lib.hid fun u => szRasRaster_big W H A l.length c u hbig hm
    unfold rasV at *
    clear h hm hl hlm hs hbig hR
    go_enter Tryd.func3, Tryd.ntmps3
    go_wp2_with fail
    generalize w.alloc (.cells #[.int .i64 W, .int .i64 H, .slice A l.length c] 24) = w0 at *
    have x0 := RasAtB.c0 HRaR0
    have x1 := RasAtB.c1 HRaR0
    have x2 := RasAtB.c2 HRaR0
    go_wp2_with fail
    refine (CZ.out _).mono ?_
    rintro e w1 ⟨rfl, b1⟩
    have HB := Lib.hid (b0.trans (b1.mono b0.size))
    clear b0 b1 x0 x1 x2 HRaR0
    go_wp2_with fail
    go_ret
    exact ⟨rfl, HB.out⟩
end Go.Proofs.YtiemlakjallphabDoor
