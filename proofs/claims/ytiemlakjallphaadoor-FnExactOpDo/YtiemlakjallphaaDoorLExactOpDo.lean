/-
  The law FnExactOpDo returns true for every raster and operation. Condition: the table of ranges reads as the program's text lays it.
-/
import Derived.Test.YtiemlakjallphaaDoorRanL
import Derived.Test.YtiemlakjallphaaDoorExOpD
import Derived.Test.YtiemlakjallphaaDoorPixIn
import Derived.Test.YtiemlakjallphaaDoorPixM
import Derived.Test.YtiemlakjallphaaDoorOpVal
namespace Go.Proofs.YtiemlakjallphaaDoor
set_option maxRecDepth 4000
open Go.RowKit

set_option maxHeartbeats 8000000 in
theorem fnExactOpDo_small (r : Rw) (A : Option Addr) (c : Nat) (o : Op) (w : World) (hR : RangesIn w) (h : HasP w w.heap.size A r.p) (hs : r.p.length ≤ 1048576) :
    Calls Tryd.prog 10 #[rasV r.w r.h A r.p.length c, o.v] w fun e w' => e = .returned (.bool true) ∧ Below w.heap.size w w' := by
  have HA : Hid (∀ W, Below w.heap.size w W → HasP W W.heap.size A r.p) := Lib.hid fun W hb => h.carry hb (Nat.le_refl _) hb.size
  have HRW := Lib.hid hR
  have CZ := Lib.hid fun u => szRasRaster_small r.w r.h A r.p.length c u hs
  have CT := Lib.hid fun A c u hh => toRasRaster_any r.w r.h A c r.p u (by omega) hh
  have HLN := Lib.hid hs
  obtain ⟨d, hd⟩ : ∃ d, putO r.w r.h r.p o = d := ⟨_, rfl⟩
  obtain ⟨s, hs'⟩ : ∃ s, d.getD ra0 = s := ⟨_, rfl⟩
  obtain ⟨b, hb⟩ : ∃ b, d.isSome = b := ⟨_, rfl⟩
  have hsl : s.p.length ≤ 36 := by rw [← hs', ← hd]; exact put_small
  have HD := Lib.hid (And.intro hd (And.intro hs' hb))
  have HSL := Lib.hid hsl
  have CQ := Lib.hid fun A A' c c' u hh hh' => eqRasRaster_same s.w s.h A A' c c' s.p u (by omega) hh hh'
  have CX := Lib.hid fun A A' c c' u hh hh' => eqRasRaster_same r.w r.h A A' c c' r.p u (by omega) hh hh'
  have CM := Lib.hid fun A c base u hh => markRasRaster_any s.w s.h A c s.p base u (by omega) hh
  have CN := Lib.hid fun A c base u hh => markRasRaster_any r.w r.h A c r.p base u (by omega) hh
  have CH := Lib.hid fun A c u hh => heldRasRaster_any s.w s.h A c s.p.length u (by omega) hh
  have hz : ¬ ((1048576 : Int) - (r.p.length : Int) < 0) := by omega
  have hk1 : ¬ (1 + 4 * (r.p.length : Int) < 0) := by omega
  have hq1 : ¬ (1 + 4 * (s.p.length : Int) < 0) := by omega
  have hsn : (b != b) = false := bne_self_eq_false _
  unfold rasV at *
  unfold Op.v
  have b0 : Below w.heap.size w ((w.alloc (.cells #[.int .i64 r.w, .int .i64 r.h, .slice A r.p.length c] 45)).alloc (.cells #[.int .i64 o.k, .int .i64 o.a, .int .i64 o.b, .int .i64 o.c, .int .i64 o.d] 46)) := ((Below.refl _ w).alloc (Nat.le_refl _) _).alloc (by simp) _
  have HRaR0 : Hid (RasAtB ((w.alloc (.cells #[.int .i64 r.w, .int .i64 r.h, .slice A r.p.length c] 45)).alloc (.cells #[.int .i64 o.k, .int .i64 o.a, .int .i64 o.b, .int .i64 o.c, .int .i64 o.d] 46)) w.heap.size r.w r.h A r.p.length c 45) := Lib.hid (Box.alloc (Box.new w _ _) _)
  have HXaO0 : Hid (Box ((w.alloc (.cells #[.int .i64 r.w, .int .i64 r.h, .slice A r.p.length c] 45)).alloc (.cells #[.int .i64 o.k, .int .i64 o.a, .int .i64 o.b, .int .i64 o.c, .int .i64 o.d] 46)) (w.heap.size + 1) #[.int .i64 o.k, .int .i64 o.a, .int .i64 o.b, .int .i64 o.c, .int .i64 o.d] 46) := Lib.hid (by
    have := Box.new (w.alloc (.cells #[.int .i64 r.w, .int .i64 r.h, .slice A r.p.length c] 45)) #[.int .i64 o.k, .int .i64 o.a, .int .i64 o.b, .int .i64 o.c, .int .i64 o.d] 46
    rw [show (w.alloc (.cells #[.int .i64 r.w, .int .i64 r.h, .slice A r.p.length c] 45)).heap.size = w.heap.size + 1 from by simp] at this
    exact this)
  have HHaR0 := Lib.hid (HA.out _ b0)
  have HB0 := Lib.hid b0
  have HRT0 := Lib.hid (HRW.out.next b0)
  clear b0 hd hs' hb hsl h hs hR
  go_enter Tryd.func10, Tryd.ntmps10
  go_wp2_with fail
  generalize ((w.alloc (.cells #[.int .i64 r.w, .int .i64 r.h, .slice A r.p.length c] 45)).alloc (.cells #[.int .i64 o.k, .int .i64 o.a, .int .i64 o.b, .int .i64 o.c, .int .i64 o.d] 46)) = w0 at *
  have aRc0 := RasAtB.c0 HRaR0.out
  have aRc1 := RasAtB.c1 HRaR0.out
  have aRc2 := RasAtB.c2 HRaR0.out
  go_wp2_with fail
  refine (CZ.out _).mono ?_
  rintro e w1 ⟨rfl, b1⟩
  clear aRc0 aRc1 aRc2
  have bb1 : Below w0.heap.size w0 w1 := ((Below.refl w0.heap.size w0)).trans (b1.mono ((Below.refl w0.heap.size w0)).size)
  have bc1 : Below w0.heap.size w0 w1 := ((Below.refl w0.heap.size w0)).trans (bb1.mono ((Below.refl w0.heap.size w0)).size)
  have HRaR1 : Hid (RasAtB w1 (w.heap.size) r.w r.h A r.p.length c 45) := Lib.hid (Box.below HRaR0.out bc1 (RasAtB.lt HRaR0.out))
  have HHaR1 : Hid (HasP w1 w1.heap.size A r.p) := Lib.hid (HHaR0.out.carry bc1 (Nat.le_refl _) bc1.size)
  have HB1 := Lib.hid (HB0.out.trans (bc1.mono HB0.out.size))
  have HRT1 : Hid (RangesIn w1) := Lib.hid (HRT0.out.next bc1)
  have HXaO1 : Hid (Box w1 (w.heap.size + 1) #[.int .i64 o.k, .int .i64 o.a, .int .i64 o.b, .int .i64 o.c, .int .i64 o.d] 46) := Lib.hid (Box.below HXaO0.out bc1 (Box.lt HXaO0.out))
  clear HRaR0 HHaR0 HB0 HRT0
  clear HXaO0
  clear bb1 bc1
  clear b1 CZ
  go_wp2_with fail
  refine exOpDo_r5 (w.heap.size) (w.heap.size + 1) r.w r.h A c r.p o d s b HRaR1.out HXaO1.out HHaR1.out HLN.out HRT1.out HD.out.1 HD.out.2.1 HD.out.2.2 (fun _ _ _ _ _ h => h) (Lib.hid ?_)
  intro g2 A2 c2 y0 y1 y2 y3 y4 y5 y6 y7 w2 hL
  obtain ⟨hb2, hc2, ho2, hn2, hg2, b2⟩ := hL
  have bb2 : Below w1.heap.size w1 w2 := ((Below.refl w1.heap.size w1)).trans (b2.mono ((Below.refl w1.heap.size w1)).size)
  have bc2 : Below w1.heap.size w1 w2 := ((Below.refl w1.heap.size w1)).trans (bb2.mono ((Below.refl w1.heap.size w1)).size)
  have HRaR2 : Hid (RasAtB w2 (w.heap.size) r.w r.h A r.p.length c 45) := Lib.hid (Box.below HRaR1.out bc2 (RasAtB.lt HRaR1.out))
  have HHaR2 : Hid (HasP w2 w2.heap.size A r.p) := Lib.hid (HHaR1.out.carry bc2 (Nat.le_refl _) bc2.size)
  have HB2 := Lib.hid (HB1.out.trans (bc2.mono HB1.out.size))
  have HRT2 : Hid (RangesIn w2) := Lib.hid (HRT1.out.next bc2)
  have HXaO2 : Hid (Box w2 (w.heap.size + 1) #[.int .i64 o.k, .int .i64 o.a, .int .i64 o.b, .int .i64 o.c, .int .i64 o.d] 46) := Lib.hid (Box.below HXaO1.out bc2 (Box.lt HXaO1.out))
  clear HRaR1 HHaR1 HB1 HRT1
  clear HXaO1
  clear bb2 bc2
  have HRw02 := Lib.hid hb2
  have HHw02 := Lib.hid ho2.reads
  have HNw0 := Lib.hid hn2
  have HGw0 := Lib.hid hg2
  have HVw02 : Hid (HasP w2 w2.heap.size A2 s.p) := Lib.hid ho2.reads
  have HMm2 : Hid (Below w2.heap.size w2 w2) := Lib.hid (Below.refl _ _)
  have HLL := Lib.hid (And.intro (RasAtB.lt HRaR2.out) (And.intro (Box.lt HXaO2.out) (RasAtB.lt HRw02.out)))
  clear hb2 ho2 hn2 hg2 b2
  have aRc0 := RasAtB.c0 HRaR2.out
  have aRc1 := RasAtB.c1 HRaR2.out
  have aRc2 := RasAtB.c2 HRaR2.out
  go_wp2_with fail
  refine (CT.out _ _ _ HHaR2.out).mono ?_
  rintro e w3 ⟨g3, rfl, o3, b3⟩
  clear aRc0 aRc1 aRc2
  have bb3 : Below w2.heap.size w2 w3 := ((Below.refl w2.heap.size w2)).trans (b3.mono ((Below.refl w2.heap.size w2)).size)
  have bc3 : Below w2.heap.size w2 w3 := ((Below.refl w2.heap.size w2)).trans (bb3.mono ((Below.refl w2.heap.size w2)).size)
  have HRaR3 : Hid (RasAtB w3 (w.heap.size) r.w r.h A r.p.length c 45) := Lib.hid (Box.below HRaR2.out bc3 (RasAtB.lt HRaR2.out))
  have HHaR3 : Hid (HasP w3 w3.heap.size A r.p) := Lib.hid (HHaR2.out.carry bc3 (Nat.le_refl _) bc3.size)
  have HRw03 : Hid (RasAtB w3 (g2) s.w s.h A2 s.p.length c2 25) := Lib.hid (Box.below HRw02.out bc3 (RasAtB.lt HRw02.out))
  have HHw03 : Hid (HasP w3 w3.heap.size A2 s.p) := Lib.hid (HHw02.out.carry bc3 (Nat.le_refl _) bc3.size)
  have HB3 := Lib.hid (HB2.out.trans (bc3.mono HB2.out.size))
  have HRT3 : Hid (RangesIn w3) := Lib.hid (HRT2.out.next bc3)
  have HMm3 := Lib.hid (HMm2.out.trans (bc3.mono HMm2.out.size))
  have HXaO3 : Hid (Box w3 (w.heap.size + 1) #[.int .i64 o.k, .int .i64 o.a, .int .i64 o.b, .int .i64 o.c, .int .i64 o.d] 46) := Lib.hid (Box.below HXaO2.out bc3 (Box.lt HXaO2.out))
  have HVw03 : Hid (HasP w3 w2.heap.size A2 s.p) := Lib.hid (HVw02.out.below (bc3.mono HMm2.out.size))
  clear HRaR2 HHaR2 HRw02 HHw02 HB2 HRT2 HMm2
  clear HXaO2 HVw02
  clear bb3 bc3
  have HWx03 : Hid (OwnP w3 w2.heap.size (.slice (some ⟨g3, 0, none⟩) r.p.length r.p.length) r.p) := Lib.hid o3
  have HHx03 := Lib.hid o3.reads
  have HG3 := Lib.hid (World.ownsRow.lt o3 g3 rfl)
  clear b3 o3
  have HRx03 : Hid (RasAtB (w3.alloc (.cells #[.int .i64 r.w, .int .i64 r.h, .slice (some ⟨g3, 0, none⟩) r.p.length r.p.length] 25)) (w3.heap.size) r.w r.h (some ⟨g3, 0, none⟩) r.p.length r.p.length 25) := Lib.hid (Box.new w3 _ _)
  have HBN4 : Hid (Below w3.heap.size w3 (w3.alloc (.cells #[.int .i64 r.w, .int .i64 r.h, .slice (some ⟨g3, 0, none⟩) r.p.length r.p.length] 25))) := Lib.hid ((Below.refl w3.heap.size w3).alloc (Nat.le_refl _) _)
  go_wp2_with fail
  generalize w3.alloc (.cells #[.int .i64 r.w, .int .i64 r.h, .slice (some ⟨g3, 0, none⟩) r.p.length r.p.length] 25) = w4 at *
  have b4 := HBN4.out
  have HRx04 : Hid (RasAtB w4 (w3.heap.size) r.w r.h (some ⟨g3, 0, none⟩) r.p.length r.p.length 25) := HRx03
  have HHx04 : Hid (HasP w4 w4.heap.size (some ⟨g3, 0, none⟩) r.p) := Lib.hid (HHx03.out.carry b4 (Nat.le_refl _) b4.size)
  have HRaR4 : Hid (RasAtB w4 (w.heap.size) r.w r.h A r.p.length c 45) := Lib.hid (Box.below HRaR3.out b4 (RasAtB.lt HRaR3.out))
  have HHaR4 : Hid (HasP w4 w4.heap.size A r.p) := Lib.hid (HHaR3.out.carry b4 (Nat.le_refl _) b4.size)
  have HRw04 : Hid (RasAtB w4 (g2) s.w s.h A2 s.p.length c2 25) := Lib.hid (Box.below HRw03.out b4 (RasAtB.lt HRw03.out))
  have HHw04 : Hid (HasP w4 w4.heap.size A2 s.p) := Lib.hid (HHw03.out.carry b4 (Nat.le_refl _) b4.size)
  have HB4 := Lib.hid (HB3.out.trans (b4.mono HB3.out.size))
  have HRT4 : Hid (RangesIn w4) := Lib.hid (HRT3.out.next b4)
  have HMm4 := Lib.hid (HMm3.out.trans (b4.mono HMm3.out.size))
  have HXaO4 : Hid (Box w4 (w.heap.size + 1) #[.int .i64 o.k, .int .i64 o.a, .int .i64 o.b, .int .i64 o.c, .int .i64 o.d] 46) := Lib.hid (Box.below HXaO3.out b4 (Box.lt HXaO3.out))
  have HWx04 : Hid (OwnP w4 w2.heap.size (.slice (some ⟨g3, 0, none⟩) r.p.length r.p.length) r.p) := Lib.hid (HWx03.out.below b4 (Nat.le_refl _))
  have HVw04 : Hid (HasP w4 w2.heap.size A2 s.p) := Lib.hid (HVw03.out.below (b4.mono HMm3.out.size))
  clear HRaR3 HHaR3 HRw03 HHw03 HRx03 HHx03 HB3 HRT3 HMm3
  clear HXaO3 HWx03 HVw03
  clear b4 HBN4
  have HS4 : Hid (w3.heap.size < w4.heap.size) := Lib.hid (RasAtB.lt HRx04.out)
  refine exOpDo_r7 (w3.heap.size) (w.heap.size + 1) r.w r.h (some ⟨g3, 0, none⟩) r.p.length r.p o d s b HRx04.out HXaO4.out HHx04.out HLN.out (Nat.le_refl _) HRT4.out HD.out.1 HD.out.2.1 HD.out.2.2 (fun _ _ _ _ _ h => h) (Lib.hid ?_)
  intro g5 A5 c5 y0 y1 y2 y3 y4 y5 y6 w5 hL
  obtain ⟨hb5, hc5, ho5, hn5, hg5, b5⟩ := hL
  have bb5 : Below w4.heap.size w4 w5 := ((Below.refl w4.heap.size w4)).trans (b5.mono ((Below.refl w4.heap.size w4)).size)
  have bc5 : Below w4.heap.size w4 w5 := ((Below.refl w4.heap.size w4)).trans (bb5.mono ((Below.refl w4.heap.size w4)).size)
  have HRaR5 : Hid (RasAtB w5 (w.heap.size) r.w r.h A r.p.length c 45) := Lib.hid (Box.below HRaR4.out bc5 (RasAtB.lt HRaR4.out))
  have HHaR5 : Hid (HasP w5 w5.heap.size A r.p) := Lib.hid (HHaR4.out.carry bc5 (Nat.le_refl _) bc5.size)
  have HRw05 : Hid (RasAtB w5 (g2) s.w s.h A2 s.p.length c2 25) := Lib.hid (Box.below HRw04.out bc5 (RasAtB.lt HRw04.out))
  have HHw05 : Hid (HasP w5 w5.heap.size A2 s.p) := Lib.hid (HHw04.out.carry bc5 (Nat.le_refl _) bc5.size)
  have HRx05 : Hid (RasAtB w5 (w3.heap.size) r.w r.h (some ⟨g3, 0, none⟩) r.p.length r.p.length 25) := Lib.hid (Box.below HRx04.out bc5 (RasAtB.lt HRx04.out))
  have HHx05 : Hid (HasP w5 w5.heap.size (some ⟨g3, 0, none⟩) r.p) := Lib.hid (HHx04.out.carry bc5 (Nat.le_refl _) bc5.size)
  have HB5 := Lib.hid (HB4.out.trans (bc5.mono HB4.out.size))
  have HRT5 : Hid (RangesIn w5) := Lib.hid (HRT4.out.next bc5)
  have HMm5 := Lib.hid (HMm4.out.trans (bc5.mono HMm4.out.size))
  have HXaO5 : Hid (Box w5 (w.heap.size + 1) #[.int .i64 o.k, .int .i64 o.a, .int .i64 o.b, .int .i64 o.c, .int .i64 o.d] 46) := Lib.hid (Box.below HXaO4.out bc5 (Box.lt HXaO4.out))
  have HWx05 : Hid (OwnP w5 w2.heap.size (.slice (some ⟨g3, 0, none⟩) r.p.length r.p.length) r.p) := Lib.hid (HWx04.out.below bc5 (Nat.le_refl _))
  have HVw05 : Hid (HasP w5 w2.heap.size A2 s.p) := Lib.hid (HVw04.out.below (bc5.mono HMm4.out.size))
  clear HRaR4 HHaR4 HRw04 HHw04 HRx04 HHx04 HB4 HRT4 HMm4
  clear HXaO4 HWx04 HVw04
  clear bb5 bc5
  have HRg05 := Lib.hid hb5
  have HHg05 := Lib.hid ho5.reads
  have HNg0 := Lib.hid hn5
  have HGg0 := Lib.hid hg5
  have HWg05 : Hid (OwnP w5 w4.heap.size (.slice A5 s.p.length c5) s.p) := Lib.hid ho5
  clear hb5 ho5 hn5 hg5 b5
  have g0c0 := RasAtB.c0 HRg05.out
  have g0c1 := RasAtB.c1 HRg05.out
  have g0c2 := RasAtB.c2 HRg05.out
  have w0c0 := RasAtB.c0 HRw05.out
  have w0c1 := RasAtB.c1 HRw05.out
  have w0c2 := RasAtB.c2 HRw05.out
  go_wp2_with fail
  refine (CQ.out _ _ _ _ _ HHg05.out HHw05.out).mono ?_
  rintro e w6 ⟨rfl, b6⟩
  clear g0c0 g0c1 g0c2 w0c0 w0c1 w0c2
  have bb6 : Below w5.heap.size w5 w6 := ((Below.refl w5.heap.size w5)).trans (b6.mono ((Below.refl w5.heap.size w5)).size)
  have bc6 : Below w5.heap.size w5 w6 := ((Below.refl w5.heap.size w5)).trans (bb6.mono ((Below.refl w5.heap.size w5)).size)
  have HRaR6 : Hid (RasAtB w6 (w.heap.size) r.w r.h A r.p.length c 45) := Lib.hid (Box.below HRaR5.out bc6 (RasAtB.lt HRaR5.out))
  have HHaR6 : Hid (HasP w6 w6.heap.size A r.p) := Lib.hid (HHaR5.out.carry bc6 (Nat.le_refl _) bc6.size)
  have HRw06 : Hid (RasAtB w6 (g2) s.w s.h A2 s.p.length c2 25) := Lib.hid (Box.below HRw05.out bc6 (RasAtB.lt HRw05.out))
  have HHw06 : Hid (HasP w6 w6.heap.size A2 s.p) := Lib.hid (HHw05.out.carry bc6 (Nat.le_refl _) bc6.size)
  have HRx06 : Hid (RasAtB w6 (w3.heap.size) r.w r.h (some ⟨g3, 0, none⟩) r.p.length r.p.length 25) := Lib.hid (Box.below HRx05.out bc6 (RasAtB.lt HRx05.out))
  have HHx06 : Hid (HasP w6 w6.heap.size (some ⟨g3, 0, none⟩) r.p) := Lib.hid (HHx05.out.carry bc6 (Nat.le_refl _) bc6.size)
  have HRg06 : Hid (RasAtB w6 (g5) s.w s.h A5 s.p.length c5 25) := Lib.hid (Box.below HRg05.out bc6 (RasAtB.lt HRg05.out))
  have HHg06 : Hid (HasP w6 w6.heap.size A5 s.p) := Lib.hid (HHg05.out.carry bc6 (Nat.le_refl _) bc6.size)
  have HB6 := Lib.hid (HB5.out.trans (bc6.mono HB5.out.size))
  have HRT6 : Hid (RangesIn w6) := Lib.hid (HRT5.out.next bc6)
  have HMm6 := Lib.hid (HMm5.out.trans (bc6.mono HMm5.out.size))
  have HXaO6 : Hid (Box w6 (w.heap.size + 1) #[.int .i64 o.k, .int .i64 o.a, .int .i64 o.b, .int .i64 o.c, .int .i64 o.d] 46) := Lib.hid (Box.below HXaO5.out bc6 (Box.lt HXaO5.out))
  have HWx06 : Hid (OwnP w6 w2.heap.size (.slice (some ⟨g3, 0, none⟩) r.p.length r.p.length) r.p) := Lib.hid (HWx05.out.below bc6 (Nat.le_refl _))
  have HWg06 : Hid (OwnP w6 w4.heap.size (.slice A5 s.p.length c5) s.p) := Lib.hid (HWg05.out.below bc6 (Nat.le_refl _))
  have HVw06 : Hid (HasP w6 w2.heap.size A2 s.p) := Lib.hid (HVw05.out.below (bc6.mono HMm5.out.size))
  clear HRaR5 HHaR5 HRw05 HHw05 HRx05 HHx05 HRg05 HHg05 HB5 HRT5 HMm5
  clear HXaO5 HWx05 HWg05 HVw05
  clear bb6 bc6
  clear b6
  go_wp2_with fail
  have HB0r := Lib.hid (below_draws (Below.refl w6.heap.size w6) 1)
  refine wp_region_held_drew (S := fun v => Below w6.heap.size w6 v) (by kernel_rfl) (below_draws (Below.refl _ _) 1) fun _ => ?_
  have HT0 : Hid (Below w6.heap.size w6 w6.drew) := HB0r
  clear HB0r
  generalize w6.drew = u0 at *
  refine wpAnyH_takeD (i := 0) (d := 47) (v := .agg #[.int .i64 r.w, .int .i64 r.h, .slice (some ⟨g3, 0, none⟩) r.p.length r.p.length]) rfl rfl (by kernel_rfl) (by kernel_rfl) (by kernel_rfl) (fun _ _ _ h => h) HT0.out (Or.inl ⟨by rfl, fun w' hS' => ?_⟩) ?_
  · have t := Box.below HRx06.out hS' (Box.lt HRx06.out)
    have t0 := RasAtB.c0 t
    have t1 := RasAtB.c1 t
    have t2 := RasAtB.c2 t
    go_simp
  simp only [Act.put, List.setIfInBounds_toArray, List.set_cons_zero, List.set_cons_succ]
  refine wpAnyH_takeD (i := 1) (d := 48) (v := .agg #[.int .i64 r.w, .int .i64 r.h, .slice A r.p.length c]) rfl rfl (by kernel_rfl) (by kernel_rfl) (by kernel_rfl) (fun _ _ _ h => h) HT0.out (Or.inl ⟨by rfl, fun w' hS' => ?_⟩) ?_
  · have t := Box.below HRaR6.out hS' (Box.lt HRaR6.out)
    have t0 := RasAtB.c0 t
    have t1 := RasAtB.c1 t
    have t2 := RasAtB.c2 t
    go_simp
  simp only [Act.put, List.setIfInBounds_toArray, List.set_cons_zero, List.set_cons_succ]
  refine wpAnyH_one (i := 2) (by kernel_rfl) rfl (fun K hK => ?_)
  go_simp
  refine (CT.out _ _ _ (HHaR6.out.carry HT0.out (Nat.le_refl _) HT0.out.size)).mono ?_
  rintro e w7 ⟨g7, rfl, o7, b7⟩
  have HT1 := Lib.hid (HT0.out.trans (b7.mono HT0.out.size))
  have HO7 := Lib.hid o7.reads
  refine hK.out _ _ HT1.out ?_
  clear hK b7 o7
  try simp only [Act.put, List.setIfInBounds_toArray, List.set_cons_zero, List.set_cons_succ]
  refine wpAnyH_one (i := 3) (by kernel_rfl) rfl (fun K hK => ?_)
  go_simp
  refine (CX.out _ _ _ _ _ (HHx06.out.carry HT1.out (Nat.le_refl _) HT1.out.size) HO7.out).mono ?_
  rintro e w8 ⟨rfl, b8'⟩
  have HT2 := Lib.hid (HT1.out.trans (b8'.mono HT1.out.size))
  refine hK.out _ _ HT2.out ?_
  clear hK b8'
  try simp only [Act.put, List.setIfInBounds_toArray, List.set_cons_zero, List.set_cons_succ]
  refine wpAnyH_one (i := 4) (by kernel_rfl) rfl (fun K hK => ?_)
  go_simp
  refine hK.out _ _ HT2.out ?_
  clear hK
  refine wpAnyH_done (by kernel_rfl) ?_ _
  have b8 := HT2.out
  have bb8 : Below w6.heap.size w6 w8 := ((Below.refl w6.heap.size w6)).trans (b8.mono ((Below.refl w6.heap.size w6)).size)
  have bc8 : Below w6.heap.size w6 w8 := ((Below.refl w6.heap.size w6)).trans (bb8.mono ((Below.refl w6.heap.size w6)).size)
  have HRaR8 : Hid (RasAtB w8 (w.heap.size) r.w r.h A r.p.length c 45) := Lib.hid (Box.below HRaR6.out bc8 (RasAtB.lt HRaR6.out))
  have HHaR8 : Hid (HasP w8 w8.heap.size A r.p) := Lib.hid (HHaR6.out.carry bc8 (Nat.le_refl _) bc8.size)
  have HRw08 : Hid (RasAtB w8 (g2) s.w s.h A2 s.p.length c2 25) := Lib.hid (Box.below HRw06.out bc8 (RasAtB.lt HRw06.out))
  have HHw08 : Hid (HasP w8 w8.heap.size A2 s.p) := Lib.hid (HHw06.out.carry bc8 (Nat.le_refl _) bc8.size)
  have HRx08 : Hid (RasAtB w8 (w3.heap.size) r.w r.h (some ⟨g3, 0, none⟩) r.p.length r.p.length 25) := Lib.hid (Box.below HRx06.out bc8 (RasAtB.lt HRx06.out))
  have HHx08 : Hid (HasP w8 w8.heap.size (some ⟨g3, 0, none⟩) r.p) := Lib.hid (HHx06.out.carry bc8 (Nat.le_refl _) bc8.size)
  have HRg08 : Hid (RasAtB w8 (g5) s.w s.h A5 s.p.length c5 25) := Lib.hid (Box.below HRg06.out bc8 (RasAtB.lt HRg06.out))
  have HHg08 : Hid (HasP w8 w8.heap.size A5 s.p) := Lib.hid (HHg06.out.carry bc8 (Nat.le_refl _) bc8.size)
  have HB8 := Lib.hid (HB6.out.trans (bc8.mono HB6.out.size))
  have HRT8 : Hid (RangesIn w8) := Lib.hid (HRT6.out.next bc8)
  have HMm8 := Lib.hid (HMm6.out.trans (bc8.mono HMm6.out.size))
  have HXaO8 : Hid (Box w8 (w.heap.size + 1) #[.int .i64 o.k, .int .i64 o.a, .int .i64 o.b, .int .i64 o.c, .int .i64 o.d] 46) := Lib.hid (Box.below HXaO6.out bc8 (Box.lt HXaO6.out))
  have HWx08 : Hid (OwnP w8 w2.heap.size (.slice (some ⟨g3, 0, none⟩) r.p.length r.p.length) r.p) := Lib.hid (HWx06.out.below bc8 (Nat.le_refl _))
  have HWg08 : Hid (OwnP w8 w4.heap.size (.slice A5 s.p.length c5) s.p) := Lib.hid (HWg06.out.below bc8 (Nat.le_refl _))
  have HVw08 : Hid (HasP w8 w2.heap.size A2 s.p) := Lib.hid (HVw06.out.below (bc8.mono HMm6.out.size))
  clear HRaR6 HHaR6 HRw06 HHw06 HRx06 HHx06 HRg06 HHg06 HB6 HRT6 HMm6
  clear HXaO6 HWx06 HWg06 HVw06
  clear bb8 bc8
  clear b8 HT0 HT1 HT2 HO7
  have x0c0 := RasAtB.c0 HRx08.out
  have x0c1 := RasAtB.c1 HRx08.out
  have x0c2 := RasAtB.c2 HRx08.out
  go_wp2_with fail
  refine (CN.out _ _ _ _ HWx08.out).mono ?_
  rintro e w9 ⟨rfl, -, g9⟩
  clear x0c0 x0c1 x0c2
  have g9' : w8.grownBy w9 (some g3) := g9
  have hg3 := HG3.out
  have h24 := HLL.out
  have hs4 := HS4.out
  have hg5 := HGg0.out
  have b9 : Below w2.heap.size w8 w9 := (Below.refl _ w8).grown g9' HMm8.out.size (fun q e => by injection e with e; omega)
  have B9 : Below w.heap.size w w9 := HB8.out.trans (b9.mono (by omega))
  have HB9 := Lib.hid B9
  have HRT9 := Lib.hid (HRW.out.next B9)
  have HMm9 := Lib.hid (HMm8.out.trans b9)
  have HRaR9 := Lib.hid (Box.below HRaR8.out b9 h24.1)
  have HXaO9 := Lib.hid (Box.below HXaO8.out b9 h24.2.1)
  have HRw09 := Lib.hid (Box.below HRw08.out b9 h24.2.2)
  have HVw09 := Lib.hid (HVw08.out.below b9)
  have HHaR9 := Lib.hid (HA.out _ B9)
  have HHw09 := Lib.hid (HVw09.out.wider HMm9.out.size)
  have HRg09 := Lib.hid (RasAtB.grown HRg08.out g9' (by intro e; injection e with e; omega))
  have HWg09 := Lib.hid (HWg08.out.keepRd g9' (by omega))
  have HHg09 := Lib.hid HWg09.out.reads
  have H4 : Hid (w2.heap.size ≤ w4.heap.size) := Lib.hid (by omega)
  clear g9 g9' hg3 hs4 hg5 b9 B9
  clear HRaR8 HHaR8 HRw08 HHw08 HRx08 HHx08 HRg08 HHg08 HB8 HRT8 HMm8 h24
  clear HXaO8 HWx08 HWg08 HVw08
  have HM4 : Hid (w4.heap.size ≤ w9.heap.size) := Lib.hid (by have := (World.ownsRow.lt HWg09.out); have := HGg0.out; have := RasAtB.lt HRg09.out; omega)
  have g0c0 := RasAtB.c0 HRg09.out
  have g0c1 := RasAtB.c1 HRg09.out
  have g0c2 := RasAtB.c2 HRg09.out
  have w0c0 := RasAtB.c0 HRw09.out
  have w0c1 := RasAtB.c1 HRw09.out
  have w0c2 := RasAtB.c2 HRw09.out
  go_wp2_with fail
  refine (CQ.out _ _ _ _ _ HHg09.out HHw09.out).mono ?_
  rintro e w10 ⟨rfl, b10⟩
  clear g0c0 g0c1 g0c2 w0c0 w0c1 w0c2
  have bb10 : Below w9.heap.size w9 w10 := ((Below.refl w9.heap.size w9)).trans (b10.mono ((Below.refl w9.heap.size w9)).size)
  have bc10 : Below w9.heap.size w9 w10 := ((Below.refl w9.heap.size w9)).trans (bb10.mono ((Below.refl w9.heap.size w9)).size)
  have HRaR10 : Hid (RasAtB w10 (w.heap.size) r.w r.h A r.p.length c 45) := Lib.hid (Box.below HRaR9.out bc10 (RasAtB.lt HRaR9.out))
  have HHaR10 : Hid (HasP w10 w10.heap.size A r.p) := Lib.hid (HHaR9.out.carry bc10 (Nat.le_refl _) bc10.size)
  have HRw010 : Hid (RasAtB w10 (g2) s.w s.h A2 s.p.length c2 25) := Lib.hid (Box.below HRw09.out bc10 (RasAtB.lt HRw09.out))
  have HHw010 : Hid (HasP w10 w10.heap.size A2 s.p) := Lib.hid (HHw09.out.carry bc10 (Nat.le_refl _) bc10.size)
  have HRg010 : Hid (RasAtB w10 (g5) s.w s.h A5 s.p.length c5 25) := Lib.hid (Box.below HRg09.out bc10 (RasAtB.lt HRg09.out))
  have HHg010 : Hid (HasP w10 w10.heap.size A5 s.p) := Lib.hid (HHg09.out.carry bc10 (Nat.le_refl _) bc10.size)
  have HB10 := Lib.hid (HB9.out.trans (bc10.mono HB9.out.size))
  have HRT10 : Hid (RangesIn w10) := Lib.hid (HRT9.out.next bc10)
  have HMm10 := Lib.hid (HMm9.out.trans (bc10.mono HMm9.out.size))
  have HXaO10 : Hid (Box w10 (w.heap.size + 1) #[.int .i64 o.k, .int .i64 o.a, .int .i64 o.b, .int .i64 o.c, .int .i64 o.d] 46) := Lib.hid (Box.below HXaO9.out bc10 (Box.lt HXaO9.out))
  have HWg010 : Hid (OwnP w10 w4.heap.size (.slice A5 s.p.length c5) s.p) := Lib.hid (HWg09.out.below bc10 (Nat.le_refl _))
  have HVw010 : Hid (HasP w10 w2.heap.size A2 s.p) := Lib.hid (HVw09.out.below (bc10.mono HMm9.out.size))
  clear HRaR9 HHaR9 HRw09 HHw09 HRg09 HHg09 HB9 HRT9 HMm9
  clear HXaO9 HWg09 HVw09
  clear bb10 bc10
  clear b10
  have HS10 : Hid (w4.heap.size ≤ w10.heap.size) := Lib.hid (by have := HGg0.out; have := RasAtB.lt HRg010.out; omega)
  have g0c0 := RasAtB.c0 HRg010.out
  have g0c1 := RasAtB.c1 HRg010.out
  have g0c2 := RasAtB.c2 HRg010.out
  go_wp2_with fail
  refine (CM.out _ _ _ _ HWg010.out).mono ?_
  rintro e w11 ⟨rfl, o11, g11⟩
  clear g0c0 g0c1 g0c2
  have h24 := HLL.out
  have h4 := H4.out
  have b11 : Below w4.heap.size w10 w11 := (Below.refl _ w10).grown g11 HS10.out (fun q e => (World.ownsRow.lt HWg010.out q e).1)
  have B11 : Below w.heap.size w w11 := HB10.out.trans (b11.mono (by omega))
  have HB11 := Lib.hid B11
  have HRT11 := Lib.hid (HRW.out.next B11)
  have HMm11 := Lib.hid (HMm10.out.trans (b11.mono h4))
  have HRaR11 := Lib.hid (Box.below HRaR10.out b11 (by omega))
  have HXaO11 := Lib.hid (Box.below HXaO10.out b11 (by omega))
  have HRw011 := Lib.hid (Box.below HRw010.out b11 (by omega))
  have HVw011 := Lib.hid (HVw010.out.below (b11.mono h4))
  have HHaR11 := Lib.hid (HA.out _ B11)
  have HHw011 := Lib.hid (HVw011.out.wider HMm11.out.size)
  have HRg011 := Lib.hid (RasAtB.grown HRg010.out g11 (fun e => HNg0.out _ e rfl))
  have HKg11 := Lib.hid o11.reads
  clear g11 h24 h4 b11 B11 o11
  clear HRaR10 HHaR10 HRw010 HHw010 HRg010 HHg010 HB10 HRT10 HMm10
  clear HXaO10 HVw010
  clear HWg010
  have g0c0 := RasAtB.c0 HRg011.out
  have g0c1 := RasAtB.c1 HRg011.out
  have g0c2 := RasAtB.c2 HRg011.out
  go_wp2_with fail
  refine (CH.out _ _ _ HKg11.out).mono ?_
  rintro e w12 ⟨rfl, b12⟩
  clear g0c0 g0c1 g0c2
  have HRg012 := Lib.hid (Box.below HRg011.out b12 (Box.lt HRg011.out))
  have HKg12 := Lib.hid (HKg11.out.carry b12 (Nat.le_refl _) b12.size)
  clear HRg011 HKg11
  have bb12 : Below w11.heap.size w11 w12 := ((Below.refl w11.heap.size w11)).trans (b12.mono ((Below.refl w11.heap.size w11)).size)
  have bc12 : Below w11.heap.size w11 w12 := ((Below.refl w11.heap.size w11)).trans (bb12.mono ((Below.refl w11.heap.size w11)).size)
  have HRaR12 : Hid (RasAtB w12 (w.heap.size) r.w r.h A r.p.length c 45) := Lib.hid (Box.below HRaR11.out bc12 (RasAtB.lt HRaR11.out))
  have HHaR12 : Hid (HasP w12 w12.heap.size A r.p) := Lib.hid (HHaR11.out.carry bc12 (Nat.le_refl _) bc12.size)
  have HRw012 : Hid (RasAtB w12 (g2) s.w s.h A2 s.p.length c2 25) := Lib.hid (Box.below HRw011.out bc12 (RasAtB.lt HRw011.out))
  have HHw012 : Hid (HasP w12 w12.heap.size A2 s.p) := Lib.hid (HHw011.out.carry bc12 (Nat.le_refl _) bc12.size)
  have HB12 := Lib.hid (HB11.out.trans (bc12.mono HB11.out.size))
  have HRT12 : Hid (RangesIn w12) := Lib.hid (HRT11.out.next bc12)
  have HMm12 := Lib.hid (HMm11.out.trans (bc12.mono HMm11.out.size))
  have HXaO12 : Hid (Box w12 (w.heap.size + 1) #[.int .i64 o.k, .int .i64 o.a, .int .i64 o.b, .int .i64 o.c, .int .i64 o.d] 46) := Lib.hid (Box.below HXaO11.out bc12 (Box.lt HXaO11.out))
  have HVw012 : Hid (HasP w12 w2.heap.size A2 s.p) := Lib.hid (HVw011.out.below (bc12.mono HMm11.out.size))
  clear HRaR11 HHaR11 HRw011 HHw011 HB11 HRT11 HMm11
  clear HXaO11 HVw011
  clear bb12 bc12
  clear b12
  go_wp2_with fail
  refine exOpDo_r24 (w.heap.size) (w.heap.size + 1) r.w r.h A c r.p o d s b HRaR12.out HXaO12.out HHaR12.out HLN.out HRT12.out HD.out.1 HD.out.2.1 HD.out.2.2 (fun _ _ _ _ _ h => h) (Lib.hid ?_)
  intro g13 A13 c13 y0 y1 y2 y3 y4 y5 y6 y7 w13 hL
  obtain ⟨hb13, hc13, ho13, hn13, hg13, b13⟩ := hL
  have bb13 : Below w12.heap.size w12 w13 := ((Below.refl w12.heap.size w12)).trans (b13.mono ((Below.refl w12.heap.size w12)).size)
  have bc13 : Below w12.heap.size w12 w13 := ((Below.refl w12.heap.size w12)).trans (bb13.mono ((Below.refl w12.heap.size w12)).size)
  have HRaR13 : Hid (RasAtB w13 (w.heap.size) r.w r.h A r.p.length c 45) := Lib.hid (Box.below HRaR12.out bc13 (RasAtB.lt HRaR12.out))
  have HHaR13 : Hid (HasP w13 w13.heap.size A r.p) := Lib.hid (HHaR12.out.carry bc13 (Nat.le_refl _) bc13.size)
  have HRw013 : Hid (RasAtB w13 (g2) s.w s.h A2 s.p.length c2 25) := Lib.hid (Box.below HRw012.out bc13 (RasAtB.lt HRw012.out))
  have HHw013 : Hid (HasP w13 w13.heap.size A2 s.p) := Lib.hid (HHw012.out.carry bc13 (Nat.le_refl _) bc13.size)
  have HB13 := Lib.hid (HB12.out.trans (bc13.mono HB12.out.size))
  have HRT13 : Hid (RangesIn w13) := Lib.hid (HRT12.out.next bc13)
  have HMm13 := Lib.hid (HMm12.out.trans (bc13.mono HMm12.out.size))
  have HXaO13 : Hid (Box w13 (w.heap.size + 1) #[.int .i64 o.k, .int .i64 o.a, .int .i64 o.b, .int .i64 o.c, .int .i64 o.d] 46) := Lib.hid (Box.below HXaO12.out bc13 (Box.lt HXaO12.out))
  have HVw013 : Hid (HasP w13 w2.heap.size A2 s.p) := Lib.hid (HVw012.out.below (bc13.mono HMm12.out.size))
  clear HRaR12 HHaR12 HRw012 HHw012 HB12 HRT12 HMm12
  clear HXaO12 HVw012
  clear bb13 bc13
  have HRh013 := Lib.hid hb13
  have HHh013 := Lib.hid ho13.reads
  have HNh0 := Lib.hid hn13
  have HGh0 := Lib.hid hg13
  have HRg013 := Lib.hid (Box.below HRg012.out b13 (Box.lt HRg012.out))
  have HKg13 := Lib.hid (HKg12.out.carry b13 (Nat.le_refl _) b13.size)
  clear hb13 ho13 hn13 hg13 b13 HRg012 HKg12
  have h0c0 := RasAtB.c0 HRh013.out
  have h0c1 := RasAtB.c1 HRh013.out
  have h0c2 := RasAtB.c2 HRh013.out
  have w0c0 := RasAtB.c0 HRw013.out
  have w0c1 := RasAtB.c1 HRw013.out
  have w0c2 := RasAtB.c2 HRw013.out
  go_wp2_with fail
  refine (CQ.out _ _ _ _ _ HHh013.out HHw013.out).mono ?_
  rintro e w14 ⟨rfl, b14⟩
  clear h0c0 h0c1 h0c2 w0c0 w0c1 w0c2
  have HRg014 := Lib.hid (Box.below HRg013.out b14 (Box.lt HRg013.out))
  have HKg14 := Lib.hid (HKg13.out.carry b14 (Nat.le_refl _) b14.size)
  clear HRg013 HKg13
  have bb14 : Below w13.heap.size w13 w14 := ((Below.refl w13.heap.size w13)).trans (b14.mono ((Below.refl w13.heap.size w13)).size)
  have bc14 : Below w13.heap.size w13 w14 := ((Below.refl w13.heap.size w13)).trans (bb14.mono ((Below.refl w13.heap.size w13)).size)
  have HRaR14 : Hid (RasAtB w14 (w.heap.size) r.w r.h A r.p.length c 45) := Lib.hid (Box.below HRaR13.out bc14 (RasAtB.lt HRaR13.out))
  have HHaR14 : Hid (HasP w14 w14.heap.size A r.p) := Lib.hid (HHaR13.out.carry bc14 (Nat.le_refl _) bc14.size)
  have HRw014 : Hid (RasAtB w14 (g2) s.w s.h A2 s.p.length c2 25) := Lib.hid (Box.below HRw013.out bc14 (RasAtB.lt HRw013.out))
  have HHw014 : Hid (HasP w14 w14.heap.size A2 s.p) := Lib.hid (HHw013.out.carry bc14 (Nat.le_refl _) bc14.size)
  have HRh014 : Hid (RasAtB w14 (g13) s.w s.h A13 s.p.length c13 25) := Lib.hid (Box.below HRh013.out bc14 (RasAtB.lt HRh013.out))
  have HHh014 : Hid (HasP w14 w14.heap.size A13 s.p) := Lib.hid (HHh013.out.carry bc14 (Nat.le_refl _) bc14.size)
  have HB14 := Lib.hid (HB13.out.trans (bc14.mono HB13.out.size))
  have HRT14 : Hid (RangesIn w14) := Lib.hid (HRT13.out.next bc14)
  have HMm14 := Lib.hid (HMm13.out.trans (bc14.mono HMm13.out.size))
  have HXaO14 : Hid (Box w14 (w.heap.size + 1) #[.int .i64 o.k, .int .i64 o.a, .int .i64 o.b, .int .i64 o.c, .int .i64 o.d] 46) := Lib.hid (Box.below HXaO13.out bc14 (Box.lt HXaO13.out))
  have HVw014 : Hid (HasP w14 w2.heap.size A2 s.p) := Lib.hid (HVw013.out.below (bc14.mono HMm13.out.size))
  clear HRaR13 HHaR13 HRw013 HHw013 HRh013 HHh013 HB13 HRT13 HMm13
  clear HXaO13 HVw013
  clear bb14 bc14
  clear b14
  have g0c0 := RasAtB.c0 HRg014.out
  have g0c1 := RasAtB.c1 HRg014.out
  have g0c2 := RasAtB.c2 HRg014.out
  go_wp2_with fail
  refine (CH.out _ _ _ HKg14.out).mono ?_
  rintro e w15 ⟨rfl, b15⟩
  clear g0c0 g0c1 g0c2
  have HRg015 := Lib.hid (Box.below HRg014.out b15 (Box.lt HRg014.out))
  have HKg15 := Lib.hid (HKg14.out.carry b15 (Nat.le_refl _) b15.size)
  clear HRg014 HKg14
  have bb15 : Below w14.heap.size w14 w15 := ((Below.refl w14.heap.size w14)).trans (b15.mono ((Below.refl w14.heap.size w14)).size)
  have bc15 : Below w14.heap.size w14 w15 := ((Below.refl w14.heap.size w14)).trans (bb15.mono ((Below.refl w14.heap.size w14)).size)
  have HRaR15 : Hid (RasAtB w15 (w.heap.size) r.w r.h A r.p.length c 45) := Lib.hid (Box.below HRaR14.out bc15 (RasAtB.lt HRaR14.out))
  have HHaR15 : Hid (HasP w15 w15.heap.size A r.p) := Lib.hid (HHaR14.out.carry bc15 (Nat.le_refl _) bc15.size)
  have HRw015 : Hid (RasAtB w15 (g2) s.w s.h A2 s.p.length c2 25) := Lib.hid (Box.below HRw014.out bc15 (RasAtB.lt HRw014.out))
  have HHw015 : Hid (HasP w15 w15.heap.size A2 s.p) := Lib.hid (HHw014.out.carry bc15 (Nat.le_refl _) bc15.size)
  have HRh015 : Hid (RasAtB w15 (g13) s.w s.h A13 s.p.length c13 25) := Lib.hid (Box.below HRh014.out bc15 (RasAtB.lt HRh014.out))
  have HHh015 : Hid (HasP w15 w15.heap.size A13 s.p) := Lib.hid (HHh014.out.carry bc15 (Nat.le_refl _) bc15.size)
  have HB15 := Lib.hid (HB14.out.trans (bc15.mono HB14.out.size))
  have HRT15 : Hid (RangesIn w15) := Lib.hid (HRT14.out.next bc15)
  have HMm15 := Lib.hid (HMm14.out.trans (bc15.mono HMm14.out.size))
  have HXaO15 : Hid (Box w15 (w.heap.size + 1) #[.int .i64 o.k, .int .i64 o.a, .int .i64 o.b, .int .i64 o.c, .int .i64 o.d] 46) := Lib.hid (Box.below HXaO14.out bc15 (Box.lt HXaO14.out))
  have HVw015 : Hid (HasP w15 w2.heap.size A2 s.p) := Lib.hid (HVw014.out.below (bc15.mono HMm14.out.size))
  clear HRaR14 HHaR14 HRw014 HHw014 HRh014 HHh014 HB14 HRT14 HMm14
  clear HXaO14 HVw014
  clear bb15 bc15
  clear b15
  go_wp2_with fail
  go_ret
  exact ⟨rfl, HB15.out⟩
set_option maxHeartbeats 1000000 in
theorem fnExactOpDo_walk (W H : Int) (A : Option Addr) (c : Nat) (l : List Px) (o : Op) (w : World) (hR : RangesIn w) (h : HasP w w.heap.size A l) (hm : l.length ≤ maxLen) :
    Calls Tryd.prog 10 #[rasV W H A l.length c, o.v] w fun e w' => e = .returned (.bool true) ∧ Below w.heap.size w w' := by
  by_cases hbig : l.length ≤ 1048576
  · exact fnExactOpDo_small ⟨W, H, l⟩ A c o w hR h hbig
  · have CZ := Lib.hid fun u => szRasRaster_big W H A l.length c u hbig hm
    unfold rasV at *
    unfold Op.v
    have b0 : Below w.heap.size w ((w.alloc (.cells #[.int .i64 W, .int .i64 H, .slice A l.length c] 45)).alloc (.cells #[.int .i64 o.k, .int .i64 o.a, .int .i64 o.b, .int .i64 o.c, .int .i64 o.d] 46)) := ((Below.refl _ w).alloc (Nat.le_refl _) _).alloc (by simp) _
    have HRaR0 : RasAtB ((w.alloc (.cells #[.int .i64 W, .int .i64 H, .slice A l.length c] 45)).alloc (.cells #[.int .i64 o.k, .int .i64 o.a, .int .i64 o.b, .int .i64 o.c, .int .i64 o.d] 46)) w.heap.size W H A l.length c 45 := Box.alloc (Box.new w _ _) _
    clear h hm hbig hR
    go_enter Tryd.func10, Tryd.ntmps10
    go_wp2_with fail
    generalize (w.alloc (.cells #[.int .i64 W, .int .i64 H, .slice A l.length c] 45)).alloc (.cells #[.int .i64 o.k, .int .i64 o.a, .int .i64 o.b, .int .i64 o.c, .int .i64 o.d] 46) = w0 at *
    have x0 := RasAtB.c0 HRaR0
    have x1 := RasAtB.c1 HRaR0
    have x2 := RasAtB.c2 HRaR0
    go_wp2_with fail
    refine (CZ.out _).mono ?_
    rintro e w1 ⟨rfl, b1⟩
    have HB := Lib.hid (b0.trans (b1.mono b0.size))
    clear b0 b1
    go_wp2_with fail
    go_ret
    exact ⟨rfl, HB.out⟩
end Go.Proofs.YtiemlakjallphaaDoor
