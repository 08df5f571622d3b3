/-
  The law FnOpBlurIn returns true for every list of bytes to draw from. Condition: the table of ranges reads as the program's text lays it.
-/
import Derived.Test.YthdggnfffebnlaaDoorRanL
import Derived.Lib.MinMax
import Derived.Test.YthdggnfffebnlaaDoorDrawOpA
import Derived.Test.YthdggnfffebnlaaDoorEaC
import Derived.Test.YthdggnfffebnlaaDoorRegL
import Derived.Test.YthdggnfffebnlaaDoorRasS
import Derived.Test.YthdggnfffebnlaaDoorRegM
namespace Go.Proofs.YthdggnfffebnlaaDoor
set_option maxRecDepth 4000
open Go.RowKit

set_option maxHeartbeats 8000000 in
theorem fnOpBlurIn_small (A : Option Addr) (c : Nat) (l : List UInt8) (w : World) (hR : RangesIn w) (h : Has w w.heap.size A l) (hc : l.length ≤ c) (hs : l.length ≤ 1048576) :
    Calls Tryd.prog 14 #[.slice A l.length c] w fun e w' => e = .returned (.bool true) ∧ Below w.heap.size w w' := by
  have C1 := Lib.hid (drawOpDo_any A c l w (by omega) hc h)
  have HRW := Lib.hid hR
  have hl0 : ¬ ((1048576 : Int) < (l.length : Int)) := by omega
  clear h hs hc hR
  go_enter Tryd.func14, Tryd.ntmps14
  go_wp2_with fail
  refine C1.out.mono ?_
  rintro e w1 ⟨W, H, A1, c1, l1, q, rfl, hh1, hc1, hl1, B1⟩
  have CSK := Lib.hid fun u hh => specRasOk_any W H A1 c1 l1 u (by omega) hh
  have CIK := Lib.hid fun u hh => implRasOk_any W H A1 c1 l1 u (by omega) hh
  unfold rasV at CSK CIK ⊢
  unfold Op.v
  have b2 : Below w1.heap.size w1 ((w1.alloc (.cells #[.int .i64 W, .int .i64 H, .slice A1 l1.length c1] 34)).alloc (.cells #[.int .i64 q.k, .int .i64 q.a, .int .i64 q.b, .int .i64 q.c, .int .i64 q.d] 25)) := ((Below.refl _ w1).alloc (Nat.le_refl _) _).alloc (by simp) _
  have HRb2 : Hid (RasAtB ((w1.alloc (.cells #[.int .i64 W, .int .i64 H, .slice A1 l1.length c1] 34)).alloc (.cells #[.int .i64 q.k, .int .i64 q.a, .int .i64 q.b, .int .i64 q.c, .int .i64 q.d] 25)) w1.heap.size W H A1 l1.length c1 34) := Lib.hid (Box.alloc (Box.new w1 _ _) _)
  have HH2 := Lib.hid (hh1.carry b2 (Nat.le_refl _) b2.size)
  have HB2 := Lib.hid (B1.trans (b2.mono B1.size))
  clear b2 hh1 B1 C1
  go_wp2_with fail
  generalize ((w1.alloc (.cells #[.int .i64 W, .int .i64 H, .slice A1 l1.length c1] 34)).alloc (.cells #[.int .i64 q.k, .int .i64 q.a, .int .i64 q.b, .int .i64 q.c, .int .i64 q.d] 25)) = w2 at *
  have r0 := HRb2.out.c0
  have r1 := HRb2.out.c1
  have r2 := HRb2.out.c2
  go_wp2_with fail
  refine (CSK.out _ HH2.out).mono ?_
  rintro e w3 ⟨rfl, b3⟩
  have HRb3 := Lib.hid (HRb2.out.below b3 HRb2.out.lt)
  have HH3 := Lib.hid (HH2.out.carry b3 (Nat.le_refl _) b3.size)
  have HB3 := Lib.hid (HB2.out.trans (b3.mono HB2.out.size))
  have HR3 := Lib.hid (HRW.out.below HB3.out HRW.out.1)
  clear b3 r0 r1 r2 HRb2  HH2 HB2 CSK
  cases hok : rasB W H l1
  · have CK := Lib.hid (CIK.out w3 HH3.out)
    rw [hok] at CK
    have r0 := HRb3.out.c0
    have r1 := HRb3.out.c1
    have r2 := HRb3.out.c2
    clear hok
    go_wp2_with fail
    refine CK.out.mono ?_
    rintro e w4 ⟨rfl, b4⟩
    have HB4 := Lib.hid (HB3.out.trans (b4.mono HB3.out.size))
    clear b4
    go_wp2_with fail
    refine (eaOk_any _).mono ?_
    rintro e w5 ⟨rfl, b5⟩
    have HB5 := Lib.hid (HB4.out.trans (b5.mono HB4.out.size))
    clear b5
    go_wp2_with fail
    go_ret
    exact ⟨rfl, HB5.out⟩
  obtain ⟨r, rfl, rfl, rfl⟩ : ∃ r : Ra, W = (r.w : Int) ∧ H = (r.h : Int) ∧ l1 = r.p := by
    obtain ⟨hW, hH, -, -⟩ := rasB_parts hok
    exact ⟨⟨W.toNat, H.toNat, l1⟩, by simp only; omega, by simp only; omega, rfl⟩
  have hr : r.ok := hok
  have HRP := Lib.hid hr.parts
  clear hok CIK hl1
  have HRr3 := HRb3
  have HHr3 := HH3
  have HRT3 := HR3
  clear HRb3 HH3 HR3
  have HObO3 : Hid (OpAtB (w3.alloc (.cells #[.int .i64 6, .int .i64 0, .int .i64 0, .int .i64 0, .int .i64 0] 25)) (w3.heap.size) bO) := Lib.hid (Box.new w3 _ _)
  have rc0 := RasAtB.c0 HRr3.out
  have rc1 := RasAtB.c1 HRr3.out
  have rc2 := RasAtB.c2 HRr3.out
  have rn0 : w1.heap.size < w3.heap.size := by have := RasAtB.lt HRr3.out; omega
  have CE4 : Hid (Calls Tryd.prog 23 #[.agg #[.int .i64 (r.w : Int), .int .i64 (r.h : Int), .slice A1 r.p.length c1], .slice (some ⟨w3.heap.size + 1, 0, none⟩) 1 1] ((w3.alloc (.cells #[.int .i64 6, .int .i64 0, .int .i64 0, .int .i64 0, .int .i64 0] 25)).alloc (.cells #[.int .i64 6, .int .i64 0, .int .i64 0, .int .i64 0, .int .i64 0] 25)) (EaDid (blurR r) ((w3.alloc (.cells #[.int .i64 6, .int .i64 0, .int .i64 0, .int .i64 0, .int .i64 0] 25)).alloc (.cells #[.int .i64 6, .int .i64 0, .int .i64 0, .int .i64 0, .int .i64 0] 25)))) := Lib.hid (by
    have bbel : Below w3.heap.size w3 ((w3.alloc (.cells #[.int .i64 6, .int .i64 0, .int .i64 0, .int .i64 0, .int .i64 0] 25)).alloc (.cells #[.int .i64 6, .int .i64 0, .int .i64 0, .int .i64 0, .int .i64 0] 25)) := (((Below.refl w3.heap.size w3).alloc (Nat.le_refl _) _).alloc (by simp) _)
    have hlst : opE.Has ((w3.alloc (.cells #[.int .i64 6, .int .i64 0, .int .i64 0, .int .i64 0, .int .i64 0] 25)).alloc (.cells #[.int .i64 6, .int .i64 0, .int .i64 0, .int .i64 0, .int .i64 0] 25)) ((w3.alloc (.cells #[.int .i64 6, .int .i64 0, .int .i64 0, .int .i64 0, .int .i64 0] 25)).alloc (.cells #[.int .i64 6, .int .i64 0, .int .i64 0, .int .i64 0, .int .i64 0] 25)).heap.size (some ⟨w3.heap.size + 1, 0, none⟩) [bO] := by
      have := El.Has.laid opE (w3.alloc (.cells #[.int .i64 6, .int .i64 0, .int .i64 0, .int .i64 0, .int .i64 0] 25)) [bO] 25
      rw [show (w3.alloc (.cells #[.int .i64 6, .int .i64 0, .int .i64 0, .int .i64 0, .int .i64 0] 25)).heap.size = w3.heap.size + 1 from by simp] at this
      exact this.wider (by simp)
    have := eaDo_any r A1 c1 (some ⟨w3.heap.size + 1, 0, none⟩) 1 [bO] _ hr (can_b can_nil) (HRT3.out.next bbel) hc1 (HHr3.out.carry bbel (Nat.le_refl _) bbel.size) hlst (by simp)
    rw [ea_b hr, eaR_nil] at this
    exact this)
  go_wp2_with fail
  refine CE4.out.mono ?_
  rintro e w4 ⟨v4, rfl, ⟨A4, c4, rfl, hc4, hh4⟩, b4⟩
  clear CE4
  clear rc0 rc1 rc2 rn0
  obtain ⟨al, hal⟩ : ∃ s, blurR r = s := ⟨_, rfl⟩
  rw [hal] at hc4 hh4 ⊢
  have HEal := Lib.hid hal
  clear hal
  unfold raV rasV
  have bb4 : Below (w3.alloc (.cells #[.int .i64 6, .int .i64 0, .int .i64 0, .int .i64 0, .int .i64 0] 25)).heap.size (w3.alloc (.cells #[.int .i64 6, .int .i64 0, .int .i64 0, .int .i64 0, .int .i64 0] 25)) w4 := (((Below.refl (w3.alloc (.cells #[.int .i64 6, .int .i64 0, .int .i64 0, .int .i64 0, .int .i64 0] 25)).heap.size (w3.alloc (.cells #[.int .i64 6, .int .i64 0, .int .i64 0, .int .i64 0, .int .i64 0] 25))).alloc (Nat.le_refl _) (.cells #[.int .i64 6, .int .i64 0, .int .i64 0, .int .i64 0, .int .i64 0] 25))).trans (b4.mono (((Below.refl (w3.alloc (.cells #[.int .i64 6, .int .i64 0, .int .i64 0, .int .i64 0, .int .i64 0] 25)).heap.size (w3.alloc (.cells #[.int .i64 6, .int .i64 0, .int .i64 0, .int .i64 0, .int .i64 0] 25))).alloc (Nat.le_refl _) (.cells #[.int .i64 6, .int .i64 0, .int .i64 0, .int .i64 0, .int .i64 0] 25))).size)
  have bc4 : Below w3.heap.size w3 w4 := (((Below.refl w3.heap.size w3).alloc (Nat.le_refl _) _)).trans (bb4.mono (((Below.refl w3.heap.size w3).alloc (Nat.le_refl _) _)).size)
  have HObO4 : Hid (OpAtB w4 (w3.heap.size) bO) := Lib.hid (Box.below HObO3.out bb4 (Box.lt HObO3.out))
  have HRr4 : Hid (RasAtB w4 (w1.heap.size) r.w r.h A1 r.p.length c1 34) := Lib.hid (Box.below HRr3.out bc4 (RasAtB.lt HRr3.out))
  have HHr4 : Hid (HasP w4 w4.heap.size A1 r.p) := Lib.hid (HHr3.out.carry bc4 (Nat.le_refl _) bc4.size)
  have HB4 := Lib.hid (HB3.out.trans (bc4.mono HB3.out.size))
  have HRT4 : Hid (RangesIn w4) := Lib.hid (HRT3.out.next bc4)
  clear HRr3 HHr3 HObO3 HB3 HRT3
  clear bb4 bc4
  have HHal4 : Hid (HasP w4 w4.heap.size A4 al.p) := Lib.hid hh4
  clear hh4 b4
  have HRal4 : Hid (RasAtB (w4.alloc (.cells #[.int .i64 (al.w : Int), .int .i64 (al.h : Int), .slice A4 al.p.length c4] 34)) (w4.heap.size) al.w al.h A4 al.p.length c4 34) := Lib.hid (Box.new w4 _ _)
  have HBN5 : Hid (Below w4.heap.size w4 (w4.alloc (.cells #[.int .i64 (al.w : Int), .int .i64 (al.h : Int), .slice A4 al.p.length c4] 34))) := Lib.hid ((Below.refl w4.heap.size w4).alloc (Nat.le_refl _) _)
  go_wp2_with fail
  generalize w4.alloc (.cells #[.int .i64 (al.w : Int), .int .i64 (al.h : Int), .slice A4 al.p.length c4] 34) = w5 at *
  have b5 := HBN5.out
  have HRal5 : Hid (RasAtB w5 (w4.heap.size) al.w al.h A4 al.p.length c4 34) := HRal4
  have HHal5 : Hid (HasP w5 w5.heap.size A4 al.p) := Lib.hid (HHal4.out.carry b5 (Nat.le_refl _) b5.size)
  have HRr5 : Hid (RasAtB w5 (w1.heap.size) r.w r.h A1 r.p.length c1 34) := Lib.hid (Box.below HRr4.out b5 (RasAtB.lt HRr4.out))
  have HHr5 : Hid (HasP w5 w5.heap.size A1 r.p) := Lib.hid (HHr4.out.carry b5 (Nat.le_refl _) b5.size)
  have HObO5 : Hid (OpAtB w5 (w3.heap.size) bO) := Lib.hid (Box.below HObO4.out b5 (Box.lt HObO4.out))
  have HB5 := Lib.hid (HB4.out.trans (b5.mono HB4.out.size))
  have HRT5 : Hid (RangesIn w5) := Lib.hid (HRT4.out.next b5)
  clear HRr4 HHr4 HRal4 HHal4 HObO4 HB4 HRT4
  clear b5 HBN5
  have hal : al.ok ∧ al.w = r.w ∧ al.h = r.h := by
    rw [← HEal.out]
    exact ⟨blurR_ok hr, rfl, rfl⟩
  have HAL0 := Lib.hid hal
  have HOK := Lib.hid hr
  have hW : 1 ≤ r.w ∧ r.w ≤ 6 := hr.parts.1
  have hH : 1 ≤ r.h ∧ r.h ≤ 6 := hr.parts.2.1
  clear hr hal
  go_loopw [7] (fun v wr => ∃ k : Nat, k ≤ r.h ∧ v = .int .i64 (k : Int) ∧ Below w5.heap.size w5 wr) (fun v _ => r.h - (intOf v).toNat)
  case atStart => exact ⟨0, Nat.zero_le _, rfl, Below.refl _ _⟩
  case round =>
    obtain ⟨k, hk, rfl, hbq⟩ := hrel
    have hRrq : RasAtB wr (w1.heap.size) r.w r.h A1 r.p.length c1 34 := Box.below HRr5.out hbq (RasAtB.lt HRr5.out)
    have hHrq : HasP wr wr.heap.size A1 r.p := HHr5.out.carry hbq (Nat.le_refl _) hbq.size
    have hRalq : RasAtB wr (w4.heap.size) al.w al.h A4 al.p.length c4 34 := Box.below HRal5.out hbq (RasAtB.lt HRal5.out)
    have hHalq : HasP wr wr.heap.size A4 al.p := HHal5.out.carry hbq (Nat.le_refl _) hbq.size
    have hObOq : OpAtB wr (w3.heap.size) bO := Box.below HObO5.out hbq (Box.lt HObO5.out)
    have hRTq : RangesIn wr := HRT5.out.next hbq
    have r1 := RasAtB.c1 hRrq
    have HBQ := Lib.hid hbq
    clear hRrq hHrq hRalq hHalq hObOq hRTq
    by_cases hlt : k < r.h
    · clear hbq
      go_wp2_with fail
      clear r1
      go_loopw [8] (fun v wr => ∃ j : Nat, j ≤ r.w ∧ v = .int .i64 (j : Int) ∧ Below w5.heap.size w5 wr) (fun v _ => r.w - (intOf v).toNat)
      case atStart => exact ⟨0, Nat.zero_le _, rfl, HBQ.out⟩
      case round =>
        clear HBQ
        obtain ⟨j, hj, rfl, hbq⟩ := hrel
        have hRrq : RasAtB wr (w1.heap.size) r.w r.h A1 r.p.length c1 34 := Box.below HRr5.out hbq (RasAtB.lt HRr5.out)
        have hHrq : HasP wr wr.heap.size A1 r.p := HHr5.out.carry hbq (Nat.le_refl _) hbq.size
        have hRalq : RasAtB wr (w4.heap.size) al.w al.h A4 al.p.length c4 34 := Box.below HRal5.out hbq (RasAtB.lt HRal5.out)
        have hHalq : HasP wr wr.heap.size A4 al.p := HHal5.out.carry hbq (Nat.le_refl _) hbq.size
        have hObOq : OpAtB wr (w3.heap.size) bO := Box.below HObO5.out hbq (Box.lt HObO5.out)
        have hRTq : RangesIn wr := HRT5.out.next hbq
        have r0 := RasAtB.c0 hRrq
        have HBQ := Lib.hid hbq
        clear hRrq hHrq hRalq hHalq hObOq hRTq
        by_cases hltj : j < r.w
        · have HJ : Hid ((lo1 j + cnt1 r.w j ≤ r.w ∧ 1 ≤ cnt1 r.w j ∧ lo1 j ≤ j ∧ j < lo1 j + cnt1 r.w j) ∧ (lo1 k + cnt1 r.h k ≤ r.h ∧ 1 ≤ cnt1 r.h k ∧ lo1 k ≤ k ∧ k < lo1 k + cnt1 r.h k)) := Lib.hid ⟨lo_in hltj, lo_in hlt⟩
          have HIN := Lib.hid (blur_in r hltj hlt)
          have d1 : (lo1 j : Int) = max 0 ((j : Int) - 1) ∧ (cnt1 r.w j : Int) = min ((r.w : Int) - 1) ((j : Int) + 1) - max 0 ((j : Int) - 1) + 1 := by unfold cnt1 lo1; omega
          have d2 : (lo1 k : Int) = max 0 ((k : Int) - 1) ∧ (cnt1 r.h k : Int) = min ((r.h : Int) - 1) ((k : Int) + 1) - max 0 ((k : Int) - 1) + 1 := by unfold cnt1 lo1; omega
          obtain ⟨lj, hlj⟩ : ∃ lj, lo1 j = lj := ⟨_, rfl⟩
          obtain ⟨lk, hlk⟩ : ∃ lk, lo1 k = lk := ⟨_, rfl⟩
          obtain ⟨wj, hwj⟩ : ∃ wj, cnt1 r.w j = wj := ⟨_, rfl⟩
          obtain ⟨wk, hwk⟩ : ∃ wk, cnt1 r.h k = wk := ⟨_, rfl⟩
          rw [hlj, hwj, hlk, hwk] at HJ
          rw [hlj, hwj, hlk, hwk] at HIN
          rw [hlj, hwj] at d1
          rw [hlk, hwk] at d2
          clear hlj hlk hwj hwk
          obtain ⟨⟨p1, p2, p3, p4⟩, p5, p6, p7, p8⟩ := HJ.out
          obtain ⟨mj, hmj⟩ : ∃ mj : Nat, min ((r.w : Int) - 1) ((j : Int) + 1) = (mj : Int) := ⟨min (r.w - 1) (j + 1), by omega⟩
          obtain ⟨mk, hmk⟩ : ∃ mk : Nat, min ((r.h : Int) - 1) ((k : Int) + 1) = (mk : Int) := ⟨min (r.h - 1) (k + 1), by omega⟩
          obtain ⟨sj, hsj⟩ : ∃ sj : Nat, (mj : Int) - (lj : Int) = (sj : Int) := ⟨mj - lj, by omega⟩
          obtain ⟨sk, hsk⟩ : ∃ sk : Nat, (mk : Int) - (lk : Int) = (sk : Int) := ⟨mk - lk, by omega⟩
          have htj : (sj : Int) + 1 = (wj : Int) := by omega
          have htk : (sk : Int) + 1 = (wk : Int) := by omega
          have hxj := d1.1.symm
          have hxk := d2.1.symm
          clear d1 d2
          have hpr : 1 ≤ wj ∧ 1 ≤ wk ∧ lj + wj ≤ r.w ∧ lk + wk ≤ r.h := ⟨p2, p6, p1, p5⟩
          have HPR := Lib.hid hpr
          clear p1 p2 p3 p4 p5 p6 p7 p8 hpr
          have HRr6 : Hid (RasAtB wr (w1.heap.size) r.w r.h A1 r.p.length c1 34) := Lib.hid (Box.below HRr5.out hbq (RasAtB.lt HRr5.out))
          have HHr6 : Hid (HasP wr wr.heap.size A1 r.p) := Lib.hid (HHr5.out.carry hbq (Nat.le_refl _) hbq.size)
          have HRal6 : Hid (RasAtB wr (w4.heap.size) al.w al.h A4 al.p.length c4 34) := Lib.hid (Box.below HRal5.out hbq (RasAtB.lt HRal5.out))
          have HHal6 : Hid (HasP wr wr.heap.size A4 al.p) := Lib.hid (HHal5.out.carry hbq (Nat.le_refl _) hbq.size)
          have HObO6 : Hid (OpAtB wr (w3.heap.size) bO) := Lib.hid (Box.below HObO5.out hbq (Box.lt HObO5.out))
          have HB6 := Lib.hid (HB5.out.trans (hbq.mono HB5.out.size))
          have HRT6 : Hid (RangesIn wr) := Lib.hid (HRT5.out.next hbq)
          have HMa6 := Lib.hid hbq
          clear hbq r0
          have rc0 := RasAtB.c0 HRr6.out
          have rc1 := RasAtB.c1 HRr6.out
          have rc2 := RasAtB.c2 HRr6.out
          obtain ⟨bOe0, bOe1, bOe2, bOe3, bOe4⟩ := OpAtB.cs HObO6.out
          have CE7 : Hid (Calls Tryd.prog 23 #[.agg #[.int .i64 (r.w : Int), .int .i64 (r.h : Int), .slice A1 r.p.length c1], .slice (some ⟨wr.heap.size, 0, none⟩) 2 2] (wr.alloc (.cells #[.int .i64 1, .int .i64 (lj : Int), .int .i64 (lk : Int), .int .i64 (wj : Int), .int .i64 (wk : Int), .int .i64 bO.k, .int .i64 bO.a, .int .i64 bO.b, .int .i64 bO.c, .int .i64 bO.d] 25)) (EaDid (blurR (cropR r lj lk wj wk)) (wr.alloc (.cells #[.int .i64 1, .int .i64 (lj : Int), .int .i64 (lk : Int), .int .i64 (wj : Int), .int .i64 (wk : Int), .int .i64 bO.k, .int .i64 bO.a, .int .i64 bO.b, .int .i64 bO.c, .int .i64 bO.d] 25)))) := Lib.hid (by
            have bbel : Below wr.heap.size wr (wr.alloc (.cells #[.int .i64 1, .int .i64 (lj : Int), .int .i64 (lk : Int), .int .i64 (wj : Int), .int .i64 (wk : Int), .int .i64 bO.k, .int .i64 bO.a, .int .i64 bO.b, .int .i64 bO.c, .int .i64 bO.d] 25)) := ((Below.refl wr.heap.size wr).alloc (Nat.le_refl _) _)
            have hlst : opE.Has (wr.alloc (.cells #[.int .i64 1, .int .i64 (lj : Int), .int .i64 (lk : Int), .int .i64 (wj : Int), .int .i64 (wk : Int), .int .i64 bO.k, .int .i64 bO.a, .int .i64 bO.b, .int .i64 bO.c, .int .i64 bO.d] 25)) (wr.alloc (.cells #[.int .i64 1, .int .i64 (lj : Int), .int .i64 (lk : Int), .int .i64 (wj : Int), .int .i64 (wk : Int), .int .i64 bO.k, .int .i64 bO.a, .int .i64 bO.b, .int .i64 bO.c, .int .i64 bO.d] 25)).heap.size (some ⟨wr.heap.size, 0, none⟩) [cO (lj : Int) (lk : Int) (wj : Int) (wk : Int), bO] := by
              have := El.Has.laid opE wr [cO (lj : Int) (lk : Int) (wj : Int) (wk : Int), bO] 25
              exact this.wider (by simp)
            have := eaDo_any r A1 c1 (some ⟨wr.heap.size, 0, none⟩) 2 [cO (lj : Int) (lk : Int) (wj : Int) (wk : Int), bO] _ HOK.out (can_c HOK.out HPR.out.1 HPR.out.2.1 HPR.out.2.2.1 HPR.out.2.2.2 (can_b can_nil)) (HRT6.out.next bbel) hc1 (HHr6.out.carry bbel (Nat.le_refl _) bbel.size) hlst (by simp)
            rw [ea_c HOK.out _ HPR.out.1 HPR.out.2.1 HPR.out.2.2.1 HPR.out.2.2.2, ea_b (cropR_ok HOK.out HPR.out.1 HPR.out.2.1 HPR.out.2.2.1 HPR.out.2.2.2), eaR_nil] at this
            exact this)
          go_wp2_with fail
          refine CE7.out.mono ?_
          rintro e w7 ⟨v7, rfl, ⟨A7, c7, rfl, hc7, hh7⟩, b7⟩
          clear CE7
          clear rc0 rc1 rc2 bOe0 bOe1 bOe2 bOe3 bOe4
          obtain ⟨pt, hpt⟩ : ∃ s, blurR (cropR r lj lk wj wk) = s := ⟨_, rfl⟩
          rw [hpt] at hc7 hh7 ⊢
          have HEpt := Lib.hid hpt
          clear hpt
          unfold raV rasV
          have bb7 : Below wr.heap.size wr w7 := (((Below.refl wr.heap.size wr).alloc (Nat.le_refl _) (.cells #[.int .i64 1, .int .i64 (lj : Int), .int .i64 (lk : Int), .int .i64 (wj : Int), .int .i64 (wk : Int), .int .i64 bO.k, .int .i64 bO.a, .int .i64 bO.b, .int .i64 bO.c, .int .i64 bO.d] 25))).trans (b7.mono (((Below.refl wr.heap.size wr).alloc (Nat.le_refl _) (.cells #[.int .i64 1, .int .i64 (lj : Int), .int .i64 (lk : Int), .int .i64 (wj : Int), .int .i64 (wk : Int), .int .i64 bO.k, .int .i64 bO.a, .int .i64 bO.b, .int .i64 bO.c, .int .i64 bO.d] 25))).size)
          have bc7 : Below wr.heap.size wr w7 := ((Below.refl wr.heap.size wr)).trans (bb7.mono ((Below.refl wr.heap.size wr)).size)
          have HRr7 : Hid (RasAtB w7 (w1.heap.size) r.w r.h A1 r.p.length c1 34) := Lib.hid (Box.below HRr6.out bc7 (RasAtB.lt HRr6.out))
          have HHr7 : Hid (HasP w7 w7.heap.size A1 r.p) := Lib.hid (HHr6.out.carry bc7 (Nat.le_refl _) bc7.size)
          have HRal7 : Hid (RasAtB w7 (w4.heap.size) al.w al.h A4 al.p.length c4 34) := Lib.hid (Box.below HRal6.out bc7 (RasAtB.lt HRal6.out))
          have HHal7 : Hid (HasP w7 w7.heap.size A4 al.p) := Lib.hid (HHal6.out.carry bc7 (Nat.le_refl _) bc7.size)
          have HObO7 : Hid (OpAtB w7 (w3.heap.size) bO) := Lib.hid (Box.below HObO6.out bc7 (Box.lt HObO6.out))
          have HB7 := Lib.hid (HB6.out.trans (bc7.mono HB6.out.size))
          have HRT7 : Hid (RangesIn w7) := Lib.hid (HRT6.out.next bc7)
          have HMa7 := Lib.hid (HMa6.out.trans (bc7.mono HMa6.out.size))
          clear HRr6 HHr6 HRal6 HHal6 HObO6 HB6 HRT6 HMa6
          clear bb7 bc7
          have HHpt7 : Hid (HasP w7 w7.heap.size A7 pt.p) := Lib.hid hh7
          clear hh7 b7
          have HRpt7 : Hid (RasAtB (w7.alloc (.cells #[.int .i64 (pt.w : Int), .int .i64 (pt.h : Int), .slice A7 pt.p.length c7] 34)) (w7.heap.size) pt.w pt.h A7 pt.p.length c7 34) := Lib.hid (Box.new w7 _ _)
          clear hxj hxk hmj hmk hsj hsk htj htk
          obtain ⟨⟨p1, p2, p3, p4⟩, p5, p6, p7, p8⟩ := HJ.out
          obtain ⟨pj, hpj⟩ : ∃ pj : Nat, (j : Int) - (lj : Int) = (pj : Int) := ⟨j - lj, by omega⟩
          obtain ⟨pk, hpk⟩ : ∃ pk : Nat, (k : Int) - (lk : Int) = (pk : Int) := ⟨k - lk, by omega⟩
          have hpt : pt.ok ∧ pt.w = wj ∧ pt.h = wk := by
            rw [← HEpt.out]
            exact ⟨blurR_ok (cropR_ok HOK.out HPR.out.1 HPR.out.2.1 HPR.out.2.2.1 HPR.out.2.2.2), rfl, rfl⟩
          have hpjw : pj < pt.w ∧ pk < pt.h := by rw [hpt.2.1, hpt.2.2]; omega
          have hpe : pt.at pj pk = al.at j k := by
            have := HIN.out
            rw [show j - lj = pj from by omega, show k - lk = pk from by omega, HEpt.out, HEal.out] at this
            exact this
          have HPT := Lib.hid (And.intro hpt (And.intro hpjw (And.intro hpe (And.intro hpj hpk))))
          clear hpt hpjw hpe hpj hpk p1 p2 p3 p4 p5 p6 p7 p8
          have HBN8 : Hid (Below w7.heap.size w7 (w7.alloc (.cells #[.int .i64 (pt.w : Int), .int .i64 (pt.h : Int), .slice A7 pt.p.length c7] 34))) := Lib.hid ((Below.refl w7.heap.size w7).alloc (Nat.le_refl _) _)
          go_wp2_with fail
          generalize w7.alloc (.cells #[.int .i64 (pt.w : Int), .int .i64 (pt.h : Int), .slice A7 pt.p.length c7] 34) = w8 at *
          have b8 := HBN8.out
          have HRpt8 : Hid (RasAtB w8 (w7.heap.size) pt.w pt.h A7 pt.p.length c7 34) := HRpt7
          have HHpt8 : Hid (HasP w8 w8.heap.size A7 pt.p) := Lib.hid (HHpt7.out.carry b8 (Nat.le_refl _) b8.size)
          have HRr8 : Hid (RasAtB w8 (w1.heap.size) r.w r.h A1 r.p.length c1 34) := Lib.hid (Box.below HRr7.out b8 (RasAtB.lt HRr7.out))
          have HHr8 : Hid (HasP w8 w8.heap.size A1 r.p) := Lib.hid (HHr7.out.carry b8 (Nat.le_refl _) b8.size)
          have HRal8 : Hid (RasAtB w8 (w4.heap.size) al.w al.h A4 al.p.length c4 34) := Lib.hid (Box.below HRal7.out b8 (RasAtB.lt HRal7.out))
          have HHal8 : Hid (HasP w8 w8.heap.size A4 al.p) := Lib.hid (HHal7.out.carry b8 (Nat.le_refl _) b8.size)
          have HObO8 : Hid (OpAtB w8 (w3.heap.size) bO) := Lib.hid (Box.below HObO7.out b8 (Box.lt HObO7.out))
          have HB8 := Lib.hid (HB7.out.trans (b8.mono HB7.out.size))
          have HRT8 : Hid (RangesIn w8) := Lib.hid (HRT7.out.next b8)
          have HMa8 := Lib.hid (HMa7.out.trans (b8.mono HMa7.out.size))
          clear HRr7 HHr7 HRal7 HHal7 HRpt7 HHpt7 HObO7 HB7 HRT7 HMa7
          clear b8 HBN8
          have hbd : Below w8.heap.size w8 w8.drew := below_draws (Below.refl _ _) 1
          have hRrb : RasAtB w8.drew (w1.heap.size) r.w r.h A1 r.p.length c1 34 := Box.below HRr8.out hbd (RasAtB.lt HRr8.out)
          have hHrb : HasP w8.drew w8.drew.heap.size A1 r.p := HHr8.out.carry hbd (Nat.le_refl _) hbd.size
          have hRalb : RasAtB w8.drew (w4.heap.size) al.w al.h A4 al.p.length c4 34 := Box.below HRal8.out hbd (RasAtB.lt HRal8.out)
          have hHalb : HasP w8.drew w8.drew.heap.size A4 al.p := HHal8.out.carry hbd (Nat.le_refl _) hbd.size
          have hRptb : RasAtB w8.drew (w7.heap.size) pt.w pt.h A7 pt.p.length c7 34 := Box.below HRpt8.out hbd (RasAtB.lt HRpt8.out)
          have hHptb : HasP w8.drew w8.drew.heap.size A7 pt.p := HHpt8.out.carry hbd (Nat.le_refl _) hbd.size
          have hObOb : OpAtB w8.drew (w3.heap.size) bO := Box.below HObO8.out hbd (Box.lt HObO8.out)
          have hRTb : RangesIn w8.drew := HRT8.out.next hbd
          refine wp_region_kd 96 [81, 82, 83, 84, 85, 86, 87, 88, 89, 90, 91, 92, 93] [(81, .ras pt), (82, .is (.int .i64 (j : Int))), (83, .is (.int .i64 (lj : Int))), (84, .is (.int .i64 (pj : Int))), (85, .is (.int .i64 (k : Int))), (86, .is (.int .i64 (lk : Int))), (87, .is (.int .i64 (pk : Int))), (88, .is ((pt.at pj pk).v)), (89, .ras al), (90, .is (.int .i64 (j : Int))), (91, .is (.int .i64 (k : Int))), (92, .is ((al.at j k).v)), (93, .is (.bool false))] (Below w8.drew.heap.size w8.drew) (by kernel_rfl) (by kernel_rfl) rfl rfl (by decide) (by decide) rfl rfl (Below.refl _ _) ?_ ?_
          · intro i o V w ho hS hV hd
            have hi : i < 13 := (Array.getElem?_eq_some_iff.1 ho).1
            have hi2 : i = 0 ∨ i = 1 ∨ i = 2 ∨ i = 3 ∨ i = 4 ∨ i = 5 ∨ i = 6 ∨ i = 7 ∨ i = 8 ∨ i = 9 ∨ i = 10 ∨ i = 11 ∨ i = 12 := by omega
            clear hi
            rcases hi2 with rfl | rfl | rfl | rfl | rfl | rfl | rfl | rfl | rfl | rfl | rfl | rfl | rfl
            · obtain rfl : _ = o := Option.some.inj ((show _ = some _ from rfl).symm.trans ho)
              have x13 : V 13 = .pointer (some ⟨w7.heap.size, 0, none⟩) := (hV 13 (by simp)).trans rfl
              refine ⟨fun _ => ?_, fun hw => absurd (show true = false from hw) (by decide)⟩
              · exact yield_ras rfl ((frame_eval V (by decide)).trans x13) hRptb hc7 hHptb hS
            · obtain rfl : _ = o := Option.some.inj ((show _ = some _ from rfl).symm.trans ho)
              have x8 : V 8 = .int .i64 (j : Int) := (hV 8 (by simp)).trans rfl
              refine ⟨fun _ => ?_, fun hw => absurd (show true = false from hw) (by decide)⟩
              · exact yield_copy (.inl rfl) ((frame_eval V (by decide)).trans x8) hS
            · obtain rfl : _ = o := Option.some.inj ((show _ = some _ from rfl).symm.trans ho)
              have x9 : V 9 = .int .i64 (lj : Int) := (hV 9 (by simp)).trans rfl
              refine ⟨fun _ => ?_, fun hw => absurd (show true = false from hw) (by decide)⟩
              · exact yield_copy (.inl rfl) ((frame_eval V (by decide)).trans x9) hS
            · obtain rfl : _ = o := Option.some.inj ((show _ = some _ from rfl).symm.trans ho)
              have d1 : V 82 = .int .i64 (j : Int) := hd ⟨1, .data⟩ (by simp) rfl
              have d2 : V 83 = .int .i64 (lj : Int) := hd ⟨2, .data⟩ (by simp) rfl
              refine ⟨fun _ => ?_, fun hw => absurd (show true = false from hw) (by decide)⟩
              · exact yield_sub rfl ((frame_eval V (by decide)).trans d1) ((frame_eval V (by decide)).trans d2) HPT.out.2.2.2.1 (by have := HPT.out.2.2.2.1; omega) hS
            · obtain rfl : _ = o := Option.some.inj ((show _ = some _ from rfl).symm.trans ho)
              have x7 : V 7 = .int .i64 (k : Int) := (hV 7 (by simp)).trans rfl
              refine ⟨fun _ => ?_, fun hw => absurd (show true = false from hw) (by decide)⟩
              · exact yield_copy (.inl rfl) ((frame_eval V (by decide)).trans x7) hS
            · obtain rfl : _ = o := Option.some.inj ((show _ = some _ from rfl).symm.trans ho)
              have x10 : V 10 = .int .i64 (lk : Int) := (hV 10 (by simp)).trans rfl
              refine ⟨fun _ => ?_, fun hw => absurd (show true = false from hw) (by decide)⟩
              · exact yield_copy (.inl rfl) ((frame_eval V (by decide)).trans x10) hS
            · obtain rfl : _ = o := Option.some.inj ((show _ = some _ from rfl).symm.trans ho)
              have d4 : V 85 = .int .i64 (k : Int) := hd ⟨4, .data⟩ (by simp) rfl
              have d5 : V 86 = .int .i64 (lk : Int) := hd ⟨5, .data⟩ (by simp) rfl
              refine ⟨fun _ => ?_, fun hw => absurd (show true = false from hw) (by decide)⟩
              · exact yield_sub rfl ((frame_eval V (by decide)).trans d4) ((frame_eval V (by decide)).trans d5) HPT.out.2.2.2.2 (by have := HPT.out.2.2.2.2; omega) hS
            · obtain rfl : _ = o := Option.some.inj ((show _ = some _ from rfl).symm.trans ho)
              have d0 : IsRa pt w (V 81) := hd ⟨0, .data⟩ (by simp) rfl
              have d3 : V 84 = .int .i64 (pj : Int) := hd ⟨3, .data⟩ (by simp) rfl
              have d6 : V 87 = .int .i64 (pk : Int) := hd ⟨6, .data⟩ (by simp) rfl
              refine ⟨fun _ => ?_, fun hw => absurd (show true = false from hw) (by decide)⟩
              · exact yield_rasAt rfl (frame_eval V (by decide)) ((frame_eval V (by decide)).trans d3) ((frame_eval V (by decide)).trans d6) d0 HPT.out.1.1 HPT.out.2.1.1 HPT.out.2.1.2 hS
            · obtain rfl : _ = o := Option.some.inj ((show _ = some _ from rfl).symm.trans ho)
              have x6 : V 6 = .pointer (some ⟨w4.heap.size, 0, none⟩) := (hV 6 (by simp)).trans rfl
              refine ⟨fun _ => ?_, fun hw => absurd (show true = false from hw) (by decide)⟩
              · exact yield_ras rfl ((frame_eval V (by decide)).trans x6) hRalb hc4 hHalb hS
            · obtain rfl : _ = o := Option.some.inj ((show _ = some _ from rfl).symm.trans ho)
              have x8 : V 8 = .int .i64 (j : Int) := (hV 8 (by simp)).trans rfl
              refine ⟨fun _ => ?_, fun hw => absurd (show true = false from hw) (by decide)⟩
              · exact yield_copy (.inl rfl) ((frame_eval V (by decide)).trans x8) hS
            · obtain rfl : _ = o := Option.some.inj ((show _ = some _ from rfl).symm.trans ho)
              have x7 : V 7 = .int .i64 (k : Int) := (hV 7 (by simp)).trans rfl
              refine ⟨fun _ => ?_, fun hw => absurd (show true = false from hw) (by decide)⟩
              · exact yield_copy (.inl rfl) ((frame_eval V (by decide)).trans x7) hS
            · obtain rfl : _ = o := Option.some.inj ((show _ = some _ from rfl).symm.trans ho)
              have d8 : IsRa al w (V 89) := hd ⟨8, .data⟩ (by simp) rfl
              have d9 : V 90 = .int .i64 (j : Int) := hd ⟨9, .data⟩ (by simp) rfl
              have d10 : V 91 = .int .i64 (k : Int) := hd ⟨10, .data⟩ (by simp) rfl
              refine ⟨fun _ => ?_, fun hw => absurd (show true = false from hw) (by decide)⟩
              · exact yield_rasAt rfl (frame_eval V (by decide)) ((frame_eval V (by decide)).trans d9) ((frame_eval V (by decide)).trans d10) d8 HAL0.out.1 (by rw [HAL0.out.2.1]; exact hltj) (by rw [HAL0.out.2.2]; exact hlt) hS
            · obtain rfl : _ = o := Option.some.inj ((show _ = some _ from rfl).symm.trans ho)
              have d7 : V 88 = (pt.at pj pk).v := hd ⟨7, .data⟩ (by simp) rfl
              have d11 : V 92 = (al.at j k).v := hd ⟨11, .data⟩ (by simp) rfl
              refine ⟨fun _ => ?_, fun hw => absurd (show true = false from hw) (by decide)⟩
              · exact yield_neqPix rfl ((frame_eval V (by decide)).trans d7) ((frame_eval V (by decide)).trans d11) HPT.out.2.2.1 hS
          · intro V wx hS hV hall
            have dl : V 93 = .bool false := hall 12 (by decide)
            rw [frame_all (n := 96) (D := [81, 82, 83, 84, 85, 86, 87, 88, 89, 90, 91, 92, 93]) rfl rfl (by decide) hV]
            simp only [List.foldl_cons, List.foldl_nil, Act.put, List.setIfInBounds_toArray, List.set_cons_zero, List.set_cons_succ]
            rw [dl]
            have HE := Lib.hid (HMa8.out.trans ((hbd.trans (hS.mono hbd.size)).mono HMa8.out.size))
            clear hall hV dl hS hRrb hHrb hRalb hHalb hRptb hHptb hObOb hRTb hbd HBQ
            go_wp2_with fail
            go_roundw
            case rel => exact ⟨j + 1, by omega, by go_num, HE.out⟩
            case measure => simp [intOf]; omega
        · obtain rfl : j = r.w := by omega
          clear hbq
          go_wp2_with fail
          go_roundw
          case rel => exact ⟨k + 1, by omega, by go_num, HBQ.out⟩
          case measure => simp [intOf]; omega
    · obtain rfl : k = r.h := by omega
      have HRr9 : Hid (RasAtB wr (w1.heap.size) r.w r.h A1 r.p.length c1 34) := Lib.hid (Box.below HRr5.out hbq (RasAtB.lt HRr5.out))
      have HHr9 : Hid (HasP wr wr.heap.size A1 r.p) := Lib.hid (HHr5.out.carry hbq (Nat.le_refl _) hbq.size)
      have HRal9 : Hid (RasAtB wr (w4.heap.size) al.w al.h A4 al.p.length c4 34) := Lib.hid (Box.below HRal5.out hbq (RasAtB.lt HRal5.out))
      have HHal9 : Hid (HasP wr wr.heap.size A4 al.p) := Lib.hid (HHal5.out.carry hbq (Nat.le_refl _) hbq.size)
      have HObO9 : Hid (OpAtB wr (w3.heap.size) bO) := Lib.hid (Box.below HObO5.out hbq (Box.lt HObO5.out))
      have HB9 := Lib.hid (HB5.out.trans (hbq.mono HB5.out.size))
      have HRT9 : Hid (RangesIn wr) := Lib.hid (HRT5.out.next hbq)
      clear hbq HBQ
      have alc0 := RasAtB.c0 HRal9.out
      have alc1 := RasAtB.c1 HRal9.out
      have alc2 := RasAtB.c2 HRal9.out
      have CK : Hid (Calls Tryd.prog 22 #[.agg #[.int .i64 (al.w : Int), .int .i64 (al.h : Int), .slice A4 al.p.length c4]] wr (fun e w' => e = .returned (.bool true) ∧ Below wr.heap.size wr w')) := Lib.hid (by
        have := implRasOk_any al.w al.h A4 c4 al.p wr (by have := ra_len HAL0.out.1; omega) HHal9.out
        rw [show rasB al.w al.h al.p = true from HAL0.out.1] at this
        exact this)
      go_wp2_with fail
      refine CK.out.mono ?_
      rintro e w10 ⟨rfl, b10⟩
      have HB10 := Lib.hid (HB9.out.trans (b10.mono HB9.out.size))
      clear CK b10 r1 alc0 alc1 alc2
      go_wp2_with fail
      go_ret
      exact ⟨rfl, HB10.out⟩
theorem fnOpBlurIn_walk (A : Option Addr) (c : Nat) (l : List UInt8) (w : World) (hR : RangesIn w) (h : Has w w.heap.size A l) (hc : l.length ≤ c) :
    Calls Tryd.prog 14 #[.slice A l.length c] w fun e w' => e = .returned (.bool true) ∧ Below w.heap.size w w' := by
  by_cases hbig : l.length ≤ 1048576
  · exact fnOpBlurIn_small A c l w hR h hc hbig
  · have hl0 : (1048576 : Int) < (l.length : Int) := by omega
    clear h hc hbig
    go_enter Tryd.func14, Tryd.ntmps14
    go_wp2_with fail
    go_ret
    exact ⟨rfl, Below.refl _ _⟩
end Go.Proofs.YthdggnfffebnlaaDoor
