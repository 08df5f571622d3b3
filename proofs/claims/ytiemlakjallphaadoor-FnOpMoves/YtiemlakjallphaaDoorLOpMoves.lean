/-
  The law FnOpMoves returns true for every list of bytes to draw from. Condition: the table of ranges reads as the program's text lays it.
-/
import Derived.Test.YtiemlakjallphaaDoorRanL
import Derived.Test.YtiemlakjallphaaDoorDrawOpA
import Derived.Test.YtiemlakjallphaaDoorEaC
import Derived.Test.YtiemlakjallphaaDoorRegK
import Derived.Test.YtiemlakjallphaaDoorRasS
import Derived.Test.YtiemlakjallphaaDoorPutO
namespace Go.Proofs.YtiemlakjallphaaDoor
set_option maxRecDepth 4000
open Go.RowKit

set_option maxHeartbeats 8000000 in
theorem fnOpMoves_small (A : Option Addr) (c : Nat) (l : List UInt8) (w : World) (hR : RangesIn w) (h : Has w w.heap.size A l) (hc : l.length ≤ c) (hs : l.length ≤ 1048576) :
    Calls Tryd.prog 7 #[.slice A l.length c] w fun e w' => e = .returned (.bool true) ∧ Below w.heap.size w w' := by
  have C1 := Lib.hid (drawOpDo_any A c l w (by omega) hc h)
  have HRW := Lib.hid hR
  have hl0 : ¬ ((1048576 : Int) < (l.length : Int)) := by omega
  clear h hs hc hR
  go_enter Tryd.func7, Tryd.ntmps7
  go_wp2_with fail
  refine C1.out.mono ?_
  rintro e w1 ⟨W, H, A1, c1, l1, q, rfl, hh1, hc1, hl1, B1⟩
  obtain ⟨r, rfl, rfl, rfl⟩ : ∃ r : Rw, W = r.w ∧ H = r.h ∧ l1 = r.p := ⟨⟨W, H, l1⟩, rfl, rfl, rfl⟩
  have HD0 : ∃ d, putO r.w r.h r.p q = d := ⟨_, rfl⟩
  obtain ⟨d, hd⟩ := HD0
  have HD := Lib.hid hd
  have HL := Lib.hid hl1
  have HXS : Hid ((d.getD ra0).p.length ≤ 36) := Lib.hid (by rw [← hd]; exact put_small)
  clear hd hl1
  unfold rasV Op.v
  have b2 : Below w1.heap.size w1 ((w1.alloc (.cells #[.int .i64 r.w, .int .i64 r.h, .slice A1 r.p.length c1] 25)).alloc (.cells #[.int .i64 q.k, .int .i64 q.a, .int .i64 q.b, .int .i64 q.c, .int .i64 q.d] 27)) := ((Below.refl _ w1).alloc (Nat.le_refl _) _).alloc (by simp) _
  have HRr2 : Hid (RasAtB ((w1.alloc (.cells #[.int .i64 r.w, .int .i64 r.h, .slice A1 r.p.length c1] 25)).alloc (.cells #[.int .i64 q.k, .int .i64 q.a, .int .i64 q.b, .int .i64 q.c, .int .i64 q.d] 27)) w1.heap.size r.w r.h A1 r.p.length c1 25) := Lib.hid (Box.alloc (Box.new w1 _ _) _)
  have HOq2 : Hid (OpAtB ((w1.alloc (.cells #[.int .i64 r.w, .int .i64 r.h, .slice A1 r.p.length c1] 25)).alloc (.cells #[.int .i64 q.k, .int .i64 q.a, .int .i64 q.b, .int .i64 q.c, .int .i64 q.d] 27)) (w1.heap.size + 1) q) := Lib.hid (by
    have := Box.new (w1.alloc (.cells #[.int .i64 r.w, .int .i64 r.h, .slice A1 r.p.length c1] 25)) #[.int .i64 q.k, .int .i64 q.a, .int .i64 q.b, .int .i64 q.c, .int .i64 q.d] 27
    rw [show (w1.alloc (.cells #[.int .i64 r.w, .int .i64 r.h, .slice A1 r.p.length c1] 25)).heap.size = w1.heap.size + 1 from by simp] at this
    exact this)
  have HHr2 := Lib.hid (hh1.carry b2 (Nat.le_refl _) b2.size)
  have HB2 := Lib.hid (B1.trans (b2.mono B1.size))
  have HRT2 := Lib.hid (HRW.out.below HB2.out HRW.out.1)
  clear b2 hh1 B1 C1
  go_wp2_with fail
  generalize ((w1.alloc (.cells #[.int .i64 r.w, .int .i64 r.h, .slice A1 r.p.length c1] 25)).alloc (.cells #[.int .i64 q.k, .int .i64 q.a, .int .i64 q.b, .int .i64 q.c, .int .i64 q.d] 27)) = w2 at *
  have rc0 := RasAtB.c0 HRr2.out
  have rc1 := RasAtB.c1 HRr2.out
  have rc2 := RasAtB.c2 HRr2.out
  obtain ⟨qe0, qe1, qe2, qe3, qe4⟩ := OpAtB.cs HOq2.out
  have CE3 : Hid (Calls Tryd.prog 12 #[.agg #[.int .i64 r.w, .int .i64 r.h, .slice A1 r.p.length c1], .agg #[.int .i64 q.k, .int .i64 q.a, .int .i64 q.b, .int .i64 q.c, .int .i64 q.d]] w2 (Did d w2)) := Lib.hid (by
    have bbel : Below w2.heap.size w2 w2 := (Below.refl w2.heap.size w2)
    have := implOpDo_any r.w r.h A1 c1 r.p q (w2) (HRT2.out.next bbel) (by have := HL.out; omega) hc1 (HHr2.out.carry bbel (Nat.le_refl _) bbel.size)
    rw [HD.out] at this
    exact this)
  unfold Did at CE3
  go_wp2_with fail
  refine CE3.out.mono ?_
  rintro e w3 ⟨A3, c3, rfl, hc3, hh3, b3⟩
  clear CE3
  clear rc0 rc1 rc2 qe0 qe1 qe2 qe3 qe4
  obtain ⟨x, hx⟩ : ∃ s, d.getD ra0 = s := ⟨_, rfl⟩
  have hh3 := hh3.reads
  rw [hx] at hc3 hh3 ⊢
  have HEx := Lib.hid hx
  clear hx
  have bc3 : Below w2.heap.size w2 w3 := ((Below.refl w2.heap.size w2)).trans (b3.mono ((Below.refl w2.heap.size w2)).size)
  have HRr3 : Hid (RasAtB w3 (w1.heap.size) r.w r.h A1 r.p.length c1 25) := Lib.hid (Box.below HRr2.out bc3 (RasAtB.lt HRr2.out))
  have HHr3 : Hid (HasP w3 w3.heap.size A1 r.p) := Lib.hid (HHr2.out.carry bc3 (Nat.le_refl _) bc3.size)
  have HOq3 : Hid (OpAtB w3 (w1.heap.size + 1) q) := Lib.hid (Box.below HOq2.out bc3 (Box.lt HOq2.out))
  have HB3 := Lib.hid (HB2.out.trans (bc3.mono HB2.out.size))
  have HRT3 : Hid (RangesIn w3) := Lib.hid (HRT2.out.next bc3)
  clear HRr2 HHr2 HOq2 HB2 HRT2
  clear bc3
  have HHx3 : Hid (HasP w3 w3.heap.size A3 x.p) := Lib.hid hh3
  clear hh3 b3
  have HRx3 : Hid (RasAtB (w3.alloc (.cells #[.int .i64 (x.w : Int), .int .i64 (x.h : Int), .slice A3 x.p.length c3] 25)) (w3.heap.size) x.w x.h A3 x.p.length c3 25) := Lib.hid (Box.new w3 _ _)
  have rc0 := RasAtB.c0 HRr3.out
  have rc1 := RasAtB.c1 HRr3.out
  have rc2 := RasAtB.c2 HRr3.out
  obtain ⟨qe0, qe1, qe2, qe3, qe4⟩ := OpAtB.cs HOq3.out
  have rn0 : w1.heap.size < w3.heap.size := by have := RasAtB.lt HRr3.out; omega
  have qn0 : w1.heap.size + 1 < w3.heap.size := by have := Box.lt HOq3.out; omega
  have CE4 : Hid (Calls Tryd.prog 13 #[.agg #[.int .i64 r.w, .int .i64 r.h, .slice A1 r.p.length c1], .agg #[.int .i64 q.k, .int .i64 q.a, .int .i64 q.b, .int .i64 q.c, .int .i64 q.d]] (w3.alloc (.cells #[.int .i64 (x.w : Int), .int .i64 (x.h : Int), .slice A3 x.p.length c3] 25)) (Did d (w3.alloc (.cells #[.int .i64 (x.w : Int), .int .i64 (x.h : Int), .slice A3 x.p.length c3] 25)))) := Lib.hid (by
    have bbel : Below w3.heap.size w3 (w3.alloc (.cells #[.int .i64 (x.w : Int), .int .i64 (x.h : Int), .slice A3 x.p.length c3] 25)) := ((Below.refl w3.heap.size w3).alloc (Nat.le_refl _) _)
    have := specOpDo_any r.w r.h A1 c1 r.p q ((w3.alloc (.cells #[.int .i64 (x.w : Int), .int .i64 (x.h : Int), .slice A3 x.p.length c3] 25))) (by have := HL.out; omega) hc1 (HHr3.out.carry bbel (Nat.le_refl _) bbel.size)
    rw [HD.out] at this
    exact this)
  unfold Did at CE4
  go_wp2_with fail
  refine CE4.out.mono ?_
  rintro e w4 ⟨A4, c4, rfl, hc4, hh4, b4⟩
  clear CE4
  clear rc0 rc1 rc2 qe0 qe1 qe2 qe3 qe4 rn0 qn0
  obtain ⟨wx, hwx⟩ : ∃ s, d.getD ra0 = s := ⟨_, rfl⟩
  have hh4 := hh4.reads
  rw [hwx] at hc4 hh4 ⊢
  have HEwx := Lib.hid hwx
  clear hwx
  have bc4 : Below w3.heap.size w3 w4 := (((Below.refl w3.heap.size w3).alloc (Nat.le_refl _) _)).trans (b4.mono (((Below.refl w3.heap.size w3).alloc (Nat.le_refl _) _)).size)
  have HRx4 : Hid (RasAtB w4 (w3.heap.size) x.w x.h A3 x.p.length c3 25) := Lib.hid (Box.below HRx3.out b4 (RasAtB.lt HRx3.out))
  have HHx4 : Hid (HasP w4 w4.heap.size A3 x.p) := Lib.hid (HHx3.out.carry bc4 (Nat.le_refl _) bc4.size)
  have HRr4 : Hid (RasAtB w4 (w1.heap.size) r.w r.h A1 r.p.length c1 25) := Lib.hid (Box.below HRr3.out bc4 (RasAtB.lt HRr3.out))
  have HHr4 : Hid (HasP w4 w4.heap.size A1 r.p) := Lib.hid (HHr3.out.carry bc4 (Nat.le_refl _) bc4.size)
  have HOq4 : Hid (OpAtB w4 (w1.heap.size + 1) q) := Lib.hid (Box.below HOq3.out bc4 (Box.lt HOq3.out))
  have HB4 := Lib.hid (HB3.out.trans (bc4.mono HB3.out.size))
  have HRT4 : Hid (RangesIn w4) := Lib.hid (HRT3.out.next bc4)
  clear HRr3 HHr3 HRx3 HHx3 HOq3 HB3 HRT3
  clear bc4
  have HHwx4 : Hid (HasP w4 w4.heap.size A4 wx.p) := Lib.hid hh4
  clear hh4 b4
  have HRwx4 : Hid (RasAtB (w4.alloc (.cells #[.int .i64 (wx.w : Int), .int .i64 (wx.h : Int), .slice A4 wx.p.length c4] 25)) (w4.heap.size) wx.w wx.h A4 wx.p.length c4 25) := Lib.hid (Box.new w4 _ _)
  obtain rfl : x = wx := by rw [← HEx.out]; exact HEwx.out
  clear HEwx
  have hsn : (d.isSome != d.isSome) = false := bne_self_eq_false _
  have xc0 := RasAtB.c0 HRx4.out
  have xc1 := RasAtB.c1 HRx4.out
  have xc2 := RasAtB.c2 HRx4.out
  have xn0 : w3.heap.size < w4.heap.size := by have := RasAtB.lt HRx4.out; omega
  have CE5 : Hid (Calls Tryd.prog 14 #[rasV x.w x.h A3 x.p.length c3, rasV x.w x.h A4 x.p.length c4] (w4.alloc (.cells #[.int .i64 (x.w : Int), .int .i64 (x.h : Int), .slice A4 x.p.length c4] 25)) (fun e w' => e = .returned (.bool true) ∧ Below ((w4.alloc (.cells #[.int .i64 (x.w : Int), .int .i64 (x.h : Int), .slice A4 x.p.length c4] 25))).heap.size ((w4.alloc (.cells #[.int .i64 (x.w : Int), .int .i64 (x.h : Int), .slice A4 x.p.length c4] 25))) w')) := Lib.hid (by
    have bbel : Below w4.heap.size w4 (w4.alloc (.cells #[.int .i64 (x.w : Int), .int .i64 (x.h : Int), .slice A4 x.p.length c4] 25)) := ((Below.refl w4.heap.size w4).alloc (Nat.le_refl _) _)
    exact eaRas_same x.w x.h A3 A4 c3 c4 x.p _ (by have := HXS.out; rw [HEx.out] at this; omega) (HHx4.out.carry bbel (Nat.le_refl _) bbel.size) (HHwx4.out.carry bbel (Nat.le_refl _) bbel.size))
  unfold rasV at CE5
  go_wp2_with fail
  refine CE5.out.mono ?_
  rintro e w5 ⟨rfl, b5⟩
  clear CE5
  clear xc0 xc1 xc2 xn0
  have bb5 : Below (w4.alloc (.cells #[.int .i64 (x.w : Int), .int .i64 (x.h : Int), .slice A4 x.p.length c4] 25)).heap.size (w4.alloc (.cells #[.int .i64 (x.w : Int), .int .i64 (x.h : Int), .slice A4 x.p.length c4] 25)) w5 := ((Below.refl (w4.alloc (.cells #[.int .i64 (x.w : Int), .int .i64 (x.h : Int), .slice A4 x.p.length c4] 25)).heap.size (w4.alloc (.cells #[.int .i64 (x.w : Int), .int .i64 (x.h : Int), .slice A4 x.p.length c4] 25)))).trans (b5.mono ((Below.refl (w4.alloc (.cells #[.int .i64 (x.w : Int), .int .i64 (x.h : Int), .slice A4 x.p.length c4] 25)).heap.size (w4.alloc (.cells #[.int .i64 (x.w : Int), .int .i64 (x.h : Int), .slice A4 x.p.length c4] 25)))).size)
  have bc5 : Below w4.heap.size w4 w5 := (((Below.refl w4.heap.size w4).alloc (Nat.le_refl _) _)).trans (bb5.mono (((Below.refl w4.heap.size w4).alloc (Nat.le_refl _) _)).size)
  have HRwx5 : Hid (RasAtB w5 (w4.heap.size) x.w x.h A4 x.p.length c4 25) := Lib.hid (Box.below HRwx4.out bb5 (RasAtB.lt HRwx4.out))
  have HHwx5 : Hid (HasP w5 w5.heap.size A4 x.p) := Lib.hid (HHwx4.out.carry bc5 (Nat.le_refl _) bc5.size)
  have HRr5 : Hid (RasAtB w5 (w1.heap.size) r.w r.h A1 r.p.length c1 25) := Lib.hid (Box.below HRr4.out bc5 (RasAtB.lt HRr4.out))
  have HHr5 : Hid (HasP w5 w5.heap.size A1 r.p) := Lib.hid (HHr4.out.carry bc5 (Nat.le_refl _) bc5.size)
  have HRx5 : Hid (RasAtB w5 (w3.heap.size) x.w x.h A3 x.p.length c3 25) := Lib.hid (Box.below HRx4.out bc5 (RasAtB.lt HRx4.out))
  have HHx5 : Hid (HasP w5 w5.heap.size A3 x.p) := Lib.hid (HHx4.out.carry bc5 (Nat.le_refl _) bc5.size)
  have HOq5 : Hid (OpAtB w5 (w1.heap.size + 1) q) := Lib.hid (Box.below HOq4.out bc5 (Box.lt HOq4.out))
  have HB5 := Lib.hid (HB4.out.trans (bc5.mono HB4.out.size))
  have HRT5 : Hid (RangesIn w5) := Lib.hid (HRT4.out.next bc5)
  clear HRr4 HHr4 HRx4 HHx4 HRwx4 HHwx4 HOq4 HB4 HRT4
  clear bb5 bc5
  clear b5
  cases d with
  | none =>
    clear hsn
    obtain rfl : x = ra0 := by rw [← HEx.out]; rfl
    go_wp2_with fail
    refine (eaOk_any _).mono ?_
    rintro e w6 ⟨rfl, b6⟩
    have HE := Lib.hid (HB5.out.trans (b6.mono HB5.out.size))
    clear b6
    go_wp2_with fail
    go_ret
    exact ⟨rfl, HE.out⟩
  | some s =>
    clear hsn
    obtain rfl : s = x := HEx.out
    obtain ⟨r0, er1, er2, er3, hr0, hq0, hdo, hxo⟩ := put_some HD.out
    clear HEx HXS
    have hlr := (ra_len hr0).1
    have hlr2 := (ra_len hr0).2
    rw [← er3] at hlr hlr2
    have HKQ := Lib.hid fun hk p => move_count hr0 (q := q) (x := s) hk hdo p
    rw [← er3] at HKQ
    clear er1 er2 hr0 hq0 hdo hxo er3 r0
    obtain ⟨qe0, qe1, qe2, qe3, qe4⟩ := OpAtB.cs HOq5.out
    by_cases hk : q.k = 2 ∨ q.k = 3 ∨ q.k = 4
    case neg =>
      have e2 : (q.k != 2) = true := bne_iff_ne.2 fun e => hk (.inl e)
      have e3 : (q.k != 3) = true := bne_iff_ne.2 fun e => hk (.inr (.inl e))
      have e4 : (q.k != 4) = true := bne_iff_ne.2 fun e => hk (.inr (.inr e))
      clear hk hlr hlr2
      go_wp2_with fail
      refine (eaOk_any _).mono ?_
      rintro e w6 ⟨rfl, b6⟩
      have HE := Lib.hid (HB5.out.trans (b6.mono HB5.out.size))
      clear b6
      go_wp2_with fail
      go_ret
      exact ⟨rfl, HE.out⟩
    have HKC := Lib.hid (HKQ.out hk)
    have hlx : s.p.length = r.p.length := (HKC.out px0).2
    have HLX := Lib.hid hlx
    have HLR := Lib.hid (And.intro hlr hlr2)
    clear HKQ hlx hlr hlr2
    have hkk : ((q.k != 2) = false) ∨ ((q.k != 2) = true ∧ (q.k != 3) = false) ∨ ((q.k != 2) = true ∧ (q.k != 3) = true ∧ (q.k != 4) = false) := by
      rcases hk with e | e | e
      · exact .inl (by rw [e]; rfl)
      · exact .inr (.inl ⟨by rw [e]; rfl, by rw [e]; rfl⟩)
      · exact .inr (.inr ⟨by rw [e]; rfl, by rw [e]; rfl, by rw [e]; rfl⟩)
    clear hk
    obtain ⟨b1, d1, rfl⟩ := HasP.some HHr5.out HLR.out.1
    obtain ⟨b3, d3, rfl⟩ := HasP.some HHx5.out (by rw [HLX.out]; exact HLR.out.1)
    rcases hkk with e2 | ⟨e2, e3⟩ | ⟨e2, e3, e4⟩
    all_goals
      clear HHwx5 HRwx5
      go_wp2_with fail
      clear qe0 qe1 qe2 qe3 qe4
      try clear e4
      try clear e3
      clear e2
      go_loopw [9] (fun v wr => ∃ k : Nat, k ≤ r.p.length ∧ v = .int .i64 (k : Int) ∧ Below w5.heap.size w5 wr) (fun v _ => r.p.length - (intOf v).toNat)
      case atStart => exact ⟨0, Nat.zero_le _, rfl, Below.refl _ _⟩
      case round =>
        obtain ⟨k, hk, rfl, hbq⟩ := hrel
        obtain ⟨wo, rfl⟩ : ∃ u, u = wr := ⟨wr, rfl⟩
        have HRr6 : Hid (RasAtB wo (w1.heap.size) r.w r.h (some ⟨b1, d1, none⟩) r.p.length c1 25) := Lib.hid (Box.below HRr5.out hbq (RasAtB.lt HRr5.out))
        have HHr6 : Hid (HasP wo wo.heap.size (some ⟨b1, d1, none⟩) r.p) := Lib.hid (HHr5.out.carry hbq (Nat.le_refl _) hbq.size)
        have HRx6 : Hid (RasAtB wo (w3.heap.size) s.w s.h (some ⟨b3, d3, none⟩) s.p.length c3 25) := Lib.hid (Box.below HRx5.out hbq (RasAtB.lt HRx5.out))
        have HHx6 : Hid (HasP wo wo.heap.size (some ⟨b3, d3, none⟩) s.p) := Lib.hid (HHx5.out.carry hbq (Nat.le_refl _) hbq.size)
        have HOq6 : Hid (OpAtB wo (w1.heap.size + 1) q) := Lib.hid (Box.below HOq5.out hbq (Box.lt HOq5.out))
        have HB6 := Lib.hid (HB5.out.trans (hbq.mono HB5.out.size))
        have HRT6 : Hid (RangesIn wo) := Lib.hid (HRT5.out.next hbq)
        have r2 := RasAtB.c2 HRr6.out
        have HBQ := Lib.hid hbq
        clear hbq
        by_cases hlt : k < r.p.length
        · obtain ⟨p, hp⟩ : ∃ p, r.p[k]? = some p := ⟨_, List.getElem?_eq_getElem hlt⟩
          have HP := Lib.hid hp
          have hk36 : k < 36 := by have := HLR.out.2; omega
          clear hp
          go_wp2_with fail
          clear r2
          go_loopw [10, 11, 12] (fun u v i wr => ∃ j : Nat, j ≤ r.p.length ∧ i = .int .i64 (j : Int) ∧ u = .int .i64 (((r.p.take j).count p : Nat) : Int) ∧ v = .int .i64 (((s.p.take j).count p : Nat) : Int) ∧ Below wo.heap.size wo wr) (fun _ _ i _ => r.p.length - (intOf i).toNat)
          case atStart => exact ⟨0, Nat.zero_le _, rfl, rfl, rfl, Below.refl _ _⟩
          case round =>
            obtain ⟨j, hj, rfl, rfl, rfl, hbj⟩ := hrel
            have HRr7 : Hid (RasAtB wr (w1.heap.size) r.w r.h (some ⟨b1, d1, none⟩) r.p.length c1 25) := Lib.hid (Box.below HRr6.out hbj (RasAtB.lt HRr6.out))
            have HHr7 : Hid (HasP wr wr.heap.size (some ⟨b1, d1, none⟩) r.p) := Lib.hid (HHr6.out.carry hbj (Nat.le_refl _) hbj.size)
            have HRx7 : Hid (RasAtB wr (w3.heap.size) s.w s.h (some ⟨b3, d3, none⟩) s.p.length c3 25) := Lib.hid (Box.below HRx6.out hbj (RasAtB.lt HRx6.out))
            have HHx7 : Hid (HasP wr wr.heap.size (some ⟨b3, d3, none⟩) s.p) := Lib.hid (HHx6.out.carry hbj (Nat.le_refl _) hbj.size)
            have HOq7 : Hid (OpAtB wr (w1.heap.size + 1) q) := Lib.hid (Box.below HOq6.out hbj (Box.lt HOq6.out))
            have HB7 := Lib.hid (HB6.out.trans (hbj.mono HB6.out.size))
            have HRT7 : Hid (RangesIn wr) := Lib.hid (HRT6.out.next hbj)
            have HBJ := Lib.hid hbj
            clear hbj
            have r2 := RasAtB.c2 HRr7.out
            obtain ⟨m, hm⟩ : ∃ m, (r.p.take j).count p = m := ⟨_, rfl⟩
            obtain ⟨n, hn⟩ : ∃ n, (s.p.take j).count p = n := ⟨_, rfl⟩
            have hm36 : m ≤ 36 := by
              rw [← hm]
              have h1 : (r.p.take j).count p ≤ (r.p.take j).length := List.count_le_length
              have h2 := List.length_take_le j r.p
              have := HLR.out.2
              omega
            have hn36 : n ≤ 36 := by
              rw [← hn]
              have h1 : (s.p.take j).count p ≤ (s.p.take j).length := List.count_le_length
              have h2 : (s.p.take j).length ≤ s.p.length := by rw [List.length_take]; omega
              have := HLR.out.2
              rw [HLX.out] at h2
              omega
            rw [hm, hn]
            have HM := Lib.hid (And.intro hm hn)
            clear hm hn
            by_cases hjl : j < r.p.length
            · obtain ⟨x, hx⟩ : ∃ x, r.p[j]? = some x := ⟨_, List.getElem?_eq_getElem hjl⟩
              obtain ⟨y, hy⟩ : ∃ y, s.p[j]? = some y := ⟨_, List.getElem?_eq_getElem (by rw [HLX.out]; exact hjl)⟩
              have HXY := Lib.hid (And.intro hx hy)
              have hj36 : j < 36 := by have := HLR.out.2; omega
              clear hx hy
              go_wp2_with fail
              clear r2
              have hbd : Below wr.heap.size wr wr.drew := below_draws (Below.refl _ _) 1
              have hRrb : RasAtB wr.drew (w1.heap.size) r.w r.h (some ⟨b1, d1, none⟩) r.p.length c1 25 := Box.below HRr7.out hbd (RasAtB.lt HRr7.out)
              have hHrb : HasP wr.drew wr.drew.heap.size (some ⟨b1, d1, none⟩) r.p := HHr7.out.carry hbd (Nat.le_refl _) hbd.size
              have hRxb : RasAtB wr.drew (w3.heap.size) s.w s.h (some ⟨b3, d3, none⟩) s.p.length c3 25 := Box.below HRx7.out hbd (RasAtB.lt HRx7.out)
              have hHxb : HasP wr.drew wr.drew.heap.size (some ⟨b3, d3, none⟩) s.p := HHx7.out.carry hbd (Nat.le_refl _) hbd.size
              have hOqb : OpAtB wr.drew (w1.heap.size + 1) q := Box.below HOq7.out hbd (Box.lt HOq7.out)
              have hRTb : RangesIn wr.drew := HRT7.out.next hbd
              obtain ⟨lpb, hpb⟩ := HasP.px hHrb HP.out
              obtain ⟨lob, hob⟩ := HasP.px hHrb HXY.out.1
              refine wp_region_kd 103 [74, 75, 76, 77, 78, 79, 80, 81, 82, 83, 84] [(74, .is (.pointer (some ⟨w1.heap.size, 2, none⟩))), (75, .is (.slice (some ⟨b1, d1, none⟩) r.p.length c1)), (76, .is (.int .i64 (j : Int))), (77, .is (.pointer (some ⟨b1, d1 + j * 4, none⟩))), (78, .is (x.v)), (79, .is (.pointer (some ⟨w1.heap.size, 2, none⟩))), (80, .is (.slice (some ⟨b1, d1, none⟩) r.p.length c1)), (81, .is (.int .i64 (k : Int))), (82, .is (.pointer (some ⟨b1, d1 + k * 4, none⟩))), (83, .is (p.v)), (84, .is (.bool (decide (x = p))))] (Below wr.drew.heap.size wr.drew) (by kernel_rfl) (by kernel_rfl) rfl rfl (by decide) (by decide) rfl rfl (Below.refl _ _) ?_ ?_
              · intro i o V w ho hS hV hd
                have hi : i < 11 := (Array.getElem?_eq_some_iff.1 ho).1
                have hi2 : i = 0 ∨ i = 1 ∨ i = 2 ∨ i = 3 ∨ i = 4 ∨ i = 5 ∨ i = 6 ∨ i = 7 ∨ i = 8 ∨ i = 9 ∨ i = 10 := by omega
                clear hi
                rcases hi2 with rfl | rfl | rfl | rfl | rfl | rfl | rfl | rfl | rfl | rfl | rfl
                · obtain rfl : _ = o := Option.some.inj ((show _ = some _ from rfl).symm.trans ho)
                  have x3 : V 3 = .pointer (some ⟨w1.heap.size, 0, none⟩) := (hV 3 (by simp)).trans rfl
                  refine ⟨fun _ => ?_, fun hw => absurd (show true = false from hw) (by decide)⟩
                  · exact yield_fld rfl ((frame_eval V (by decide)).trans x3) (fun w => fld_ras _ 2 (by decide) w) hS
                · obtain rfl : _ = o := Option.some.inj ((show _ = some _ from rfl).symm.trans ho)
                  have d0 : V 74 = .pointer (some ⟨w1.heap.size, 2, none⟩) := hd ⟨0, .data⟩ (by simp) rfl
                  refine ⟨fun _ => ?_, fun hw => absurd (show true = false from hw) (by decide)⟩
                  · exact yield_sl rfl ((frame_eval V (by decide)).trans d0) (RasAtB.c2 hRrb) (RasAtB.lt hRrb) hS
                · obtain rfl : _ = o := Option.some.inj ((show _ = some _ from rfl).symm.trans ho)
                  have x12 : V 12 = .int .i64 (j : Int) := (hV 12 (by simp)).trans rfl
                  refine ⟨fun _ => ?_, fun hw => absurd (show true = false from hw) (by decide)⟩
                  · exact yield_copy (.inl rfl) ((frame_eval V (by decide)).trans x12) hS
                · obtain rfl : _ = o := Option.some.inj ((show _ = some _ from rfl).symm.trans ho)
                  have d1 : V 75 = .slice (some ⟨b1, d1, none⟩) r.p.length c1 := hd ⟨1, .data⟩ (by simp) rfl
                  have d2 : V 76 = .int .i64 (j : Int) := hd ⟨2, .data⟩ (by simp) rfl
                  refine ⟨fun _ => ?_, fun hw => absurd (show true = false from hw) (by decide)⟩
                  · exact yield_idx rfl ((frame_eval V (by decide)).trans d1) ((frame_eval V (by decide)).trans d2) hjl hS
                · obtain rfl : _ = o := Option.some.inj ((show _ = some _ from rfl).symm.trans ho)
                  have d3 : V 77 = .pointer (some ⟨b1, d1 + j * 4, none⟩) := hd ⟨3, .data⟩ (by simp) rfl
                  refine ⟨fun _ => ?_, fun hw => absurd (show true = false from hw) (by decide)⟩
                  · exact yield_px rfl ((frame_eval V (by decide)).trans d3) hob lob hS
                · obtain rfl : _ = o := Option.some.inj ((show _ = some _ from rfl).symm.trans ho)
                  have x3 : V 3 = .pointer (some ⟨w1.heap.size, 0, none⟩) := (hV 3 (by simp)).trans rfl
                  refine ⟨fun _ => ?_, fun hw => absurd (show true = false from hw) (by decide)⟩
                  · exact yield_fld rfl ((frame_eval V (by decide)).trans x3) (fun w => fld_ras _ 2 (by decide) w) hS
                · obtain rfl : _ = o := Option.some.inj ((show _ = some _ from rfl).symm.trans ho)
                  have d5 : V 79 = .pointer (some ⟨w1.heap.size, 2, none⟩) := hd ⟨5, .data⟩ (by simp) rfl
                  refine ⟨fun _ => ?_, fun hw => absurd (show true = false from hw) (by decide)⟩
                  · exact yield_sl rfl ((frame_eval V (by decide)).trans d5) (RasAtB.c2 hRrb) (RasAtB.lt hRrb) hS
                · obtain rfl : _ = o := Option.some.inj ((show _ = some _ from rfl).symm.trans ho)
                  have x9 : V 9 = .int .i64 (k : Int) := (hV 9 (by simp)).trans rfl
                  refine ⟨fun _ => ?_, fun hw => absurd (show true = false from hw) (by decide)⟩
                  · exact yield_copy (.inl rfl) ((frame_eval V (by decide)).trans x9) hS
                · obtain rfl : _ = o := Option.some.inj ((show _ = some _ from rfl).symm.trans ho)
                  have d6 : V 80 = .slice (some ⟨b1, d1, none⟩) r.p.length c1 := hd ⟨6, .data⟩ (by simp) rfl
                  have d7 : V 81 = .int .i64 (k : Int) := hd ⟨7, .data⟩ (by simp) rfl
                  refine ⟨fun _ => ?_, fun hw => absurd (show true = false from hw) (by decide)⟩
                  · exact yield_idx rfl ((frame_eval V (by decide)).trans d6) ((frame_eval V (by decide)).trans d7) hlt hS
                · obtain rfl : _ = o := Option.some.inj ((show _ = some _ from rfl).symm.trans ho)
                  have d8 : V 82 = .pointer (some ⟨b1, d1 + k * 4, none⟩) := hd ⟨8, .data⟩ (by simp) rfl
                  refine ⟨fun _ => ?_, fun hw => absurd (show true = false from hw) (by decide)⟩
                  · exact yield_px rfl ((frame_eval V (by decide)).trans d8) hpb lpb hS
                · obtain rfl : _ = o := Option.some.inj ((show _ = some _ from rfl).symm.trans ho)
                  have d4 : V 78 = x.v := hd ⟨4, .data⟩ (by simp) rfl
                  have d9 : V 83 = p.v := hd ⟨9, .data⟩ (by simp) rfl
                  refine ⟨fun _ => ?_, fun hw => absurd (show true = false from hw) (by decide)⟩
                  · exact yield_eqlPixD rfl ((frame_eval V (by decide)).trans d4) ((frame_eval V (by decide)).trans d9) hS
              · intro V wx hS hV hall
                have dl : V 84 = .bool (decide (x = p)) := hall 10 (by decide)
                rw [frame_all (n := 103) (D := [74, 75, 76, 77, 78, 79, 80, 81, 82, 83, 84]) rfl rfl (by decide) hV]
                simp only [List.foldl_cons, List.foldl_nil, Act.put, List.setIfInBounds_toArray, List.set_cons_zero, List.set_cons_succ]
                rw [dl]
                have HBwx := Lib.hid (hbd.trans (hS.mono hbd.size))
                clear hall hV dl hS hRrb hHrb hRxb hHxb hOqb hRTb hbd lpb hpb lob hob
                have hxs : (m + (if x = p then 1 else 0) : Nat) = (r.p.take (j + 1)).count p := by
                  rw [List.take_add_one, HXY.out.1, List.count_append, HM.out.1]
                  by_cases e : x = p <;> simp [e]
                have HXS := Lib.hid hxs
                clear hxs
                obtain ⟨m2, hm2⟩ : ∃ m2, (m + (if x = p then 1 else 0) : Nat) = m2 := ⟨_, rfl⟩
                have HM2 := Lib.hid hm2
                rw [hm2] at HXS
                by_cases hxp : x = p
                all_goals
                  first
                    | (rw [if_pos hxp] at hm2; rw [decide_eq_true hxp])
                    | (rw [if_neg hxp] at hm2; rw [decide_eq_false hxp])
                  subst hm2
                  clear HM2 hxp
                  go_wp2_with fail
                  have HRr8 : Hid (RasAtB wx (w1.heap.size) r.w r.h (some ⟨b1, d1, none⟩) r.p.length c1 25) := Lib.hid (Box.below HRr7.out HBwx.out (RasAtB.lt HRr7.out))
                  have HHr8 : Hid (HasP wx wx.heap.size (some ⟨b1, d1, none⟩) r.p) := Lib.hid (HHr7.out.carry HBwx.out (Nat.le_refl _) HBwx.out.size)
                  have HRx8 : Hid (RasAtB wx (w3.heap.size) s.w s.h (some ⟨b3, d3, none⟩) s.p.length c3 25) := Lib.hid (Box.below HRx7.out HBwx.out (RasAtB.lt HRx7.out))
                  have HHx8 : Hid (HasP wx wx.heap.size (some ⟨b3, d3, none⟩) s.p) := Lib.hid (HHx7.out.carry HBwx.out (Nat.le_refl _) HBwx.out.size)
                  have HOq8 : Hid (OpAtB wx (w1.heap.size + 1) q) := Lib.hid (Box.below HOq7.out HBwx.out (Box.lt HOq7.out))
                  have HB8 := Lib.hid (HB7.out.trans (HBwx.out.mono HB7.out.size))
                  have HRT8 : Hid (RangesIn wx) := Lib.hid (HRT7.out.next HBwx.out)
                  have hbd : Below wx.heap.size wx wx.drew := below_draws (Below.refl _ _) 1
                  have hRrz : RasAtB wx.drew (w1.heap.size) r.w r.h (some ⟨b1, d1, none⟩) r.p.length c1 25 := Box.below HRr8.out hbd (RasAtB.lt HRr8.out)
                  have hHrz : HasP wx.drew wx.drew.heap.size (some ⟨b1, d1, none⟩) r.p := HHr8.out.carry hbd (Nat.le_refl _) hbd.size
                  have hRxz : RasAtB wx.drew (w3.heap.size) s.w s.h (some ⟨b3, d3, none⟩) s.p.length c3 25 := Box.below HRx8.out hbd (RasAtB.lt HRx8.out)
                  have hHxz : HasP wx.drew wx.drew.heap.size (some ⟨b3, d3, none⟩) s.p := HHx8.out.carry hbd (Nat.le_refl _) hbd.size
                  have hOqz : OpAtB wx.drew (w1.heap.size + 1) q := Box.below HOq8.out hbd (Box.lt HOq8.out)
                  have hRTz : RangesIn wx.drew := HRT8.out.next hbd
                  obtain ⟨lpz, hpz⟩ := HasP.px hHrz HP.out
                  obtain ⟨loz, hoz⟩ := HasP.px hHxz HXY.out.2
                  refine wp_region_kd 103 [87, 88, 89, 90, 91, 92, 93, 94, 95, 96, 97] [(87, .is (.pointer (some ⟨w3.heap.size, 2, none⟩))), (88, .is (.slice (some ⟨b3, d3, none⟩) s.p.length c3)), (89, .is (.int .i64 (j : Int))), (90, .is (.pointer (some ⟨b3, d3 + j * 4, none⟩))), (91, .is (y.v)), (92, .is (.pointer (some ⟨w1.heap.size, 2, none⟩))), (93, .is (.slice (some ⟨b1, d1, none⟩) r.p.length c1)), (94, .is (.int .i64 (k : Int))), (95, .is (.pointer (some ⟨b1, d1 + k * 4, none⟩))), (96, .is (p.v)), (97, .is (.bool (decide (y = p))))] (Below wx.drew.heap.size wx.drew) (by kernel_rfl) (by kernel_rfl) rfl rfl (by decide) (by decide) rfl rfl (Below.refl _ _) ?_ ?_
                  · intro i o V w ho hS hV hd
                    have hi : i < 11 := (Array.getElem?_eq_some_iff.1 ho).1
                    have hi2 : i = 0 ∨ i = 1 ∨ i = 2 ∨ i = 3 ∨ i = 4 ∨ i = 5 ∨ i = 6 ∨ i = 7 ∨ i = 8 ∨ i = 9 ∨ i = 10 := by omega
                    clear hi
                    rcases hi2 with rfl | rfl | rfl | rfl | rfl | rfl | rfl | rfl | rfl | rfl | rfl
                    · obtain rfl : _ = o := Option.some.inj ((show _ = some _ from rfl).symm.trans ho)
                      have x5 : V 5 = .pointer (some ⟨w3.heap.size, 0, none⟩) := (hV 5 (by simp)).trans rfl
                      refine ⟨fun _ => ?_, fun hw => absurd (show true = false from hw) (by decide)⟩
                      · exact yield_fld rfl ((frame_eval V (by decide)).trans x5) (fun w => fld_ras _ 2 (by decide) w) hS
                    · obtain rfl : _ = o := Option.some.inj ((show _ = some _ from rfl).symm.trans ho)
                      have d0 : V 87 = .pointer (some ⟨w3.heap.size, 2, none⟩) := hd ⟨0, .data⟩ (by simp) rfl
                      refine ⟨fun _ => ?_, fun hw => absurd (show true = false from hw) (by decide)⟩
                      · exact yield_sl rfl ((frame_eval V (by decide)).trans d0) (RasAtB.c2 hRxz) (RasAtB.lt hRxz) hS
                    · obtain rfl : _ = o := Option.some.inj ((show _ = some _ from rfl).symm.trans ho)
                      have x12 : V 12 = .int .i64 (j : Int) := (hV 12 (by simp)).trans rfl
                      refine ⟨fun _ => ?_, fun hw => absurd (show true = false from hw) (by decide)⟩
                      · exact yield_copy (.inl rfl) ((frame_eval V (by decide)).trans x12) hS
                    · obtain rfl : _ = o := Option.some.inj ((show _ = some _ from rfl).symm.trans ho)
                      have d1 : V 88 = .slice (some ⟨b3, d3, none⟩) s.p.length c3 := hd ⟨1, .data⟩ (by simp) rfl
                      have d2 : V 89 = .int .i64 (j : Int) := hd ⟨2, .data⟩ (by simp) rfl
                      refine ⟨fun _ => ?_, fun hw => absurd (show true = false from hw) (by decide)⟩
                      · exact yield_idx rfl ((frame_eval V (by decide)).trans d1) ((frame_eval V (by decide)).trans d2) (by rw [HLX.out]; exact hjl) hS
                    · obtain rfl : _ = o := Option.some.inj ((show _ = some _ from rfl).symm.trans ho)
                      have d3 : V 90 = .pointer (some ⟨b3, d3 + j * 4, none⟩) := hd ⟨3, .data⟩ (by simp) rfl
                      refine ⟨fun _ => ?_, fun hw => absurd (show true = false from hw) (by decide)⟩
                      · exact yield_px rfl ((frame_eval V (by decide)).trans d3) hoz loz hS
                    · obtain rfl : _ = o := Option.some.inj ((show _ = some _ from rfl).symm.trans ho)
                      have x3 : V 3 = .pointer (some ⟨w1.heap.size, 0, none⟩) := (hV 3 (by simp)).trans rfl
                      refine ⟨fun _ => ?_, fun hw => absurd (show true = false from hw) (by decide)⟩
                      · exact yield_fld rfl ((frame_eval V (by decide)).trans x3) (fun w => fld_ras _ 2 (by decide) w) hS
                    · obtain rfl : _ = o := Option.some.inj ((show _ = some _ from rfl).symm.trans ho)
                      have d5 : V 92 = .pointer (some ⟨w1.heap.size, 2, none⟩) := hd ⟨5, .data⟩ (by simp) rfl
                      refine ⟨fun _ => ?_, fun hw => absurd (show true = false from hw) (by decide)⟩
                      · exact yield_sl rfl ((frame_eval V (by decide)).trans d5) (RasAtB.c2 hRrz) (RasAtB.lt hRrz) hS
                    · obtain rfl : _ = o := Option.some.inj ((show _ = some _ from rfl).symm.trans ho)
                      have x9 : V 9 = .int .i64 (k : Int) := (hV 9 (by simp)).trans rfl
                      refine ⟨fun _ => ?_, fun hw => absurd (show true = false from hw) (by decide)⟩
                      · exact yield_copy (.inl rfl) ((frame_eval V (by decide)).trans x9) hS
                    · obtain rfl : _ = o := Option.some.inj ((show _ = some _ from rfl).symm.trans ho)
                      have d6 : V 93 = .slice (some ⟨b1, d1, none⟩) r.p.length c1 := hd ⟨6, .data⟩ (by simp) rfl
                      have d7 : V 94 = .int .i64 (k : Int) := hd ⟨7, .data⟩ (by simp) rfl
                      refine ⟨fun _ => ?_, fun hw => absurd (show true = false from hw) (by decide)⟩
                      · exact yield_idx rfl ((frame_eval V (by decide)).trans d6) ((frame_eval V (by decide)).trans d7) hlt hS
                    · obtain rfl : _ = o := Option.some.inj ((show _ = some _ from rfl).symm.trans ho)
                      have d8 : V 95 = .pointer (some ⟨b1, d1 + k * 4, none⟩) := hd ⟨8, .data⟩ (by simp) rfl
                      refine ⟨fun _ => ?_, fun hw => absurd (show true = false from hw) (by decide)⟩
                      · exact yield_px rfl ((frame_eval V (by decide)).trans d8) hpz lpz hS
                    · obtain rfl : _ = o := Option.some.inj ((show _ = some _ from rfl).symm.trans ho)
                      have d4 : V 91 = y.v := hd ⟨4, .data⟩ (by simp) rfl
                      have d9 : V 96 = p.v := hd ⟨9, .data⟩ (by simp) rfl
                      refine ⟨fun _ => ?_, fun hw => absurd (show true = false from hw) (by decide)⟩
                      · exact yield_eqlPixD rfl ((frame_eval V (by decide)).trans d4) ((frame_eval V (by decide)).trans d9) hS
                  · intro V wy hS hV hall
                    have dl : V 97 = .bool (decide (y = p)) := hall 10 (by decide)
                    rw [frame_all (n := 103) (D := [87, 88, 89, 90, 91, 92, 93, 94, 95, 96, 97]) rfl rfl (by decide) hV]
                    simp only [List.foldl_cons, List.foldl_nil, Act.put, List.setIfInBounds_toArray, List.set_cons_zero, List.set_cons_succ]
                    rw [dl]
                    have HBwy := Lib.hid (hbd.trans (hS.mono hbd.size))
                    clear hall hV dl hS hRrz hHrz hRxz hHxz hOqz hRTz hbd lpz hpz loz hoz
                    have hys : (n + (if y = p then 1 else 0) : Nat) = (s.p.take (j + 1)).count p := by
                      rw [List.take_add_one, HXY.out.2, List.count_append, HM.out.2]
                      by_cases e : y = p <;> simp [e]
                    have HE := Lib.hid (HBJ.out.trans ((HBwx.out.trans (HBwy.out.mono HBwx.out.size)).mono HBJ.out.size))
                    by_cases hyp : y = p
                    · rw [if_pos hyp] at hys
                      rw [decide_eq_true hyp]
                      have HYS := Lib.hid hys
                      clear hys hyp
                      go_wp2_with fail
                      go_roundw
                      case rel => exact ⟨j + 1, by omega, by go_num, by rw [← HXS.out]; go_num, by rw [← HYS.out]; go_num, HE.out⟩
                      case measure => simp [intOf]; omega
                    · rw [if_neg hyp] at hys
                      rw [decide_eq_false hyp]
                      have HYS := Lib.hid hys
                      clear hys hyp
                      go_wp2_with fail
                      go_roundw
                      case rel => exact ⟨j + 1, by omega, by go_num, by rw [← HXS.out]; go_num, by rw [← HYS.out]; go_num, HE.out⟩
                      case measure => simp [intOf]; omega
            · obtain rfl : j = r.p.length := by omega
              have hmn : m = n := by
                have h1 := HM.out.1
                have h2 := HM.out.2
                rw [List.take_length] at h1
                rw [← HLX.out, List.take_length] at h2
                rw [← h1, ← h2]
                exact (HKC.out p).1.symm
              subst hmn
              have HE := Lib.hid (HBQ.out.trans (HBJ.out.mono HBQ.out.size))
              go_wp2_with fail
              go_roundw
              case rel => exact ⟨k + 1, by omega, by go_num, HE.out⟩
              case measure => simp [intOf]; omega
        · obtain rfl : k = r.p.length := by omega
          have HE := Lib.hid (HB5.out.trans (HBQ.out.mono HB5.out.size))
          go_wp2_with fail
          go_ret
          exact ⟨rfl, HE.out⟩
theorem fnOpMoves_walk (A : Option Addr) (c : Nat) (l : List UInt8) (w : World) (hR : RangesIn w) (h : Has w w.heap.size A l) (hc : l.length ≤ c) :
    Calls Tryd.prog 7 #[.slice A l.length c] w fun e w' => e = .returned (.bool true) ∧ Below w.heap.size w w' := by
  by_cases hbig : l.length ≤ 1048576
  · exact fnOpMoves_small A c l w hR h hc hbig
  · have hl0 : (1048576 : Int) < (l.length : Int) := by omega
    clear h hc hbig
    go_enter Tryd.func7, Tryd.ntmps7
    go_wp2_with fail
    go_ret
    exact ⟨rfl, Below.refl _ _⟩
end Go.Proofs.YtiemlakjallphaaDoor
