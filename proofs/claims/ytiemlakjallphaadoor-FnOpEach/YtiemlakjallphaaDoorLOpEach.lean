/-
  The law FnOpEach returns true for every lists of bytes to draw from. Condition: the table of ranges reads as the program's text lays it.
-/
import Derived.Test.YtiemlakjallphaaDoorRanL
import Derived.Test.YtiemlakjallphaaDoorDrawOpA
import Derived.Test.YtiemlakjallphaaDoorEaC
import Derived.Test.YtiemlakjallphaaDoorRegK
import Derived.Test.YtiemlakjallphaaDoorRasS
import Derived.Test.YtiemlakjallphaaDoorPutO
import Derived.Test.YtiemlakjallphaaDoorDrawPixOk
namespace Go.Proofs.YtiemlakjallphaaDoor
set_option maxRecDepth 4000
open Go.RowKit

set_option maxHeartbeats 8000000 in
theorem fnOpEach_small (A : Option Addr) (c : Nat) (l : List UInt8) (A2 : Option Addr) (c2 : Nat) (l2 : List UInt8) (w : World) (hR : RangesIn w) (h : Has w w.heap.size A l) (hc : l.length ≤ c) (h2 : Has w w.heap.size A2 l2) (hc2 : l2.length ≤ c2) (hs : l.length ≤ 1048576) (hs2 : l2.length ≤ 1048576) :
    Calls Tryd.prog 8 #[.slice A l.length c, .slice A2 l2.length c2] w fun e w' => e = .returned (.bool true) ∧ Below w.heap.size w w' := by
  have C1 := Lib.hid (drawOpDo_any A c l w (by omega) hc h)
  have HRW := Lib.hid hR
  have hl0 : ¬ ((1048576 : Int) < (l.length : Int)) := by omega
  have CP := Lib.hid fun u (hb : Below w.heap.size w u) => drawPixOk_any A2 c2 l2 u (by omega) hc2 (h2.carry hb (Nat.le_refl _) hb.size)
  have hl2 : ¬ ((1048576 : Int) < (l2.length : Int)) := by omega
  clear h hs hc hR h2 hs2 hc2
  go_enter Tryd.func8, Tryd.ntmps8
  go_wp2_with fail
  refine C1.out.mono ?_
  rintro e w1 ⟨W, H, A1, c1, l1, q, rfl, hh1, hc1, hl1, B1⟩
  obtain ⟨r, rfl, rfl, rfl⟩ : ∃ r : Rw, W = r.w ∧ H = r.h ∧ l1 = r.p := ⟨⟨W, H, l1⟩, rfl, rfl, rfl⟩
  have HD0 : ∃ d, putO r.w r.h r.p q = d := ⟨_, rfl⟩
  obtain ⟨d, hd⟩ := HD0
  have HD := Lib.hid hd
  have HL := Lib.hid hl1
  have HXS : Hid ((d.getD ra0).p.length ≤ 36) := Lib.hid (by rw [← hd]; exact put_small)
  clear hd hl1
  unfold rasV Op.v
  have b2 : Below w1.heap.size w1 ((w1.alloc (.cells #[.int .i64 r.w, .int .i64 r.h, .slice A1 r.p.length c1] 25)).alloc (.cells #[.int .i64 q.k, .int .i64 q.a, .int .i64 q.b, .int .i64 q.c, .int .i64 q.d] 27)) := ((Below.refl _ w1).alloc (Nat.le_refl _) _).alloc (by simp) _
  have HRr2 : Hid (RasAtB ((w1.alloc (.cells #[.int .i64 r.w, .int .i64 r.h, .slice A1 r.p.length c1] 25)).alloc (.cells #[.int .i64 q.k, .int .i64 q.a, .int .i64 q.b, .int .i64 q.c, .int .i64 q.d] 27)) w1.heap.size r.w r.h A1 r.p.length c1 25) := Lib.hid (Box.alloc (Box.new w1 _ _) _)
  have HOq2 : Hid (OpAtB ((w1.alloc (.cells #[.int .i64 r.w, .int .i64 r.h, .slice A1 r.p.length c1] 25)).alloc (.cells #[.int .i64 q.k, .int .i64 q.a, .int .i64 q.b, .int .i64 q.c, .int .i64 q.d] 27)) (w1.heap.size + 1) q) := Lib.hid (by
    have := Box.new (w1.alloc (.cells #[.int .i64 r.w, .int .i64 r.h, .slice A1 r.p.length c1] 25)) #[.int .i64 q.k, .int .i64 q.a, .int .i64 q.b, .int .i64 q.c, .int .i64 q.d] 27
    rw [show (w1.alloc (.cells #[.int .i64 r.w, .int .i64 r.h, .slice A1 r.p.length c1] 25)).heap.size = w1.heap.size + 1 from by simp] at this
    exact this)
  have HHr2 := Lib.hid (hh1.carry b2 (Nat.le_refl _) b2.size)
  have HB2 := Lib.hid (B1.trans (b2.mono B1.size))
  have HRT2 := Lib.hid (HRW.out.below HB2.out HRW.out.1)
  have CP2 := Lib.hid (CP.out _ HB2.out)
  clear b2 hh1 B1 C1 CP
  go_wp2_with fail
  generalize ((w1.alloc (.cells #[.int .i64 r.w, .int .i64 r.h, .slice A1 r.p.length c1] 25)).alloc (.cells #[.int .i64 q.k, .int .i64 q.a, .int .i64 q.b, .int .i64 q.c, .int .i64 q.d] 27)) = w2 at *
  refine CP2.out.mono ?_
  rintro e w3 ⟨p, rfl, b3⟩
  unfold Px.v
  clear CP2
  have bb3 : Below w2.heap.size w2 w3 := ((Below.refl w2.heap.size w2)).trans (b3.mono ((Below.refl w2.heap.size w2)).size)
  have bc3 : Below w2.heap.size w2 w3 := ((Below.refl w2.heap.size w2)).trans (bb3.mono ((Below.refl w2.heap.size w2)).size)
  have HRr3 : Hid (RasAtB w3 (w1.heap.size) r.w r.h A1 r.p.length c1 25) := Lib.hid (Box.below HRr2.out bc3 (RasAtB.lt HRr2.out))
  have HHr3 : Hid (HasP w3 w3.heap.size A1 r.p) := Lib.hid (HHr2.out.carry bc3 (Nat.le_refl _) bc3.size)
  have HOq3 : Hid (OpAtB w3 (w1.heap.size + 1) q) := Lib.hid (Box.below HOq2.out bc3 (Box.lt HOq2.out))
  have HB3 := Lib.hid (HB2.out.trans (bc3.mono HB2.out.size))
  have HRT3 : Hid (RangesIn w3) := Lib.hid (HRT2.out.next bc3)
  clear HRr2 HHr2 HOq2 HB2 HRT2
  clear bb3 bc3
  clear b3
  have rc0 := RasAtB.c0 HRr3.out
  have rc1 := RasAtB.c1 HRr3.out
  have rc2 := RasAtB.c2 HRr3.out
  obtain ⟨qe0, qe1, qe2, qe3, qe4⟩ := OpAtB.cs HOq3.out
  have rn0 : w1.heap.size < w3.heap.size := by have := RasAtB.lt HRr3.out; omega
  have qn0 : w1.heap.size + 1 < w3.heap.size := by have := Box.lt HOq3.out; omega
  have CE4 : Hid (Calls Tryd.prog 12 #[.agg #[.int .i64 r.w, .int .i64 r.h, .slice A1 r.p.length c1], .agg #[.int .i64 q.k, .int .i64 q.a, .int .i64 q.b, .int .i64 q.c, .int .i64 q.d]] (w3.alloc (.cells #[.int .i64 p.r, .int .i64 p.g, .int .i64 p.b, .int .i64 p.a] 39)) (Did d (w3.alloc (.cells #[.int .i64 p.r, .int .i64 p.g, .int .i64 p.b, .int .i64 p.a] 39)))) := Lib.hid (by
    have bbel : Below w3.heap.size w3 (w3.alloc (.cells #[.int .i64 p.r, .int .i64 p.g, .int .i64 p.b, .int .i64 p.a] 39)) := ((Below.refl w3.heap.size w3).alloc (Nat.le_refl _) _)
    have := implOpDo_any r.w r.h A1 c1 r.p q ((w3.alloc (.cells #[.int .i64 p.r, .int .i64 p.g, .int .i64 p.b, .int .i64 p.a] 39))) (HRT3.out.next bbel) (by have := HL.out; omega) hc1 (HHr3.out.carry bbel (Nat.le_refl _) bbel.size)
    rw [HD.out] at this
    exact this)
  unfold Did at CE4
  go_wp2_with fail
  refine CE4.out.mono ?_
  rintro e w4 ⟨A4, c4, rfl, hc4, hh4, b4⟩
  clear CE4
  clear rc0 rc1 rc2 qe0 qe1 qe2 qe3 qe4 rn0 qn0
  obtain ⟨x, hx⟩ : ∃ s, d.getD ra0 = s := ⟨_, rfl⟩
  have hh4 := hh4.reads
  rw [hx] at hc4 hh4 ⊢
  have HEx := Lib.hid hx
  clear hx
  have HP4 : Hid (Box w4 w3.heap.size #[.int .i64 p.r, .int .i64 p.g, .int .i64 p.b, .int .i64 p.a] 39) := Lib.hid (Box.below (Box.new w3 _ _) b4 (by simp))
  have bc4 : Below w3.heap.size w3 w4 := (((Below.refl w3.heap.size w3).alloc (Nat.le_refl _) _)).trans (b4.mono (((Below.refl w3.heap.size w3).alloc (Nat.le_refl _) _)).size)
  have HRr4 : Hid (RasAtB w4 (w1.heap.size) r.w r.h A1 r.p.length c1 25) := Lib.hid (Box.below HRr3.out bc4 (RasAtB.lt HRr3.out))
  have HHr4 : Hid (HasP w4 w4.heap.size A1 r.p) := Lib.hid (HHr3.out.carry bc4 (Nat.le_refl _) bc4.size)
  have HOq4 : Hid (OpAtB w4 (w1.heap.size + 1) q) := Lib.hid (Box.below HOq3.out bc4 (Box.lt HOq3.out))
  have HB4 := Lib.hid (HB3.out.trans (bc4.mono HB3.out.size))
  have HRT4 : Hid (RangesIn w4) := Lib.hid (HRT3.out.next bc4)
  clear HRr3 HHr3 HOq3 HB3 HRT3
  clear bc4
  have HHx4 : Hid (HasP w4 w4.heap.size A4 x.p) := Lib.hid hh4
  clear hh4 b4
  have HRx4 : Hid (RasAtB (w4.alloc (.cells #[.int .i64 (x.w : Int), .int .i64 (x.h : Int), .slice A4 x.p.length c4] 25)) (w4.heap.size) x.w x.h A4 x.p.length c4 25) := Lib.hid (Box.new w4 _ _)
  have HMp4 : Hid (Below w4.heap.size w4 w4) := Lib.hid (Below.refl _ _)
  have rc0 := RasAtB.c0 HRr4.out
  have rc1 := RasAtB.c1 HRr4.out
  have rc2 := RasAtB.c2 HRr4.out
  obtain ⟨qe0, qe1, qe2, qe3, qe4⟩ := OpAtB.cs HOq4.out
  have rn0 : w1.heap.size < w4.heap.size := by have := RasAtB.lt HRr4.out; omega
  have qn0 : w1.heap.size + 1 < w4.heap.size := by have := Box.lt HOq4.out; omega
  have CE5 : Hid (Calls Tryd.prog 13 #[.agg #[.int .i64 r.w, .int .i64 r.h, .slice A1 r.p.length c1], .agg #[.int .i64 q.k, .int .i64 q.a, .int .i64 q.b, .int .i64 q.c, .int .i64 q.d]] (w4.alloc (.cells #[.int .i64 (x.w : Int), .int .i64 (x.h : Int), .slice A4 x.p.length c4] 25)) (Did d (w4.alloc (.cells #[.int .i64 (x.w : Int), .int .i64 (x.h : Int), .slice A4 x.p.length c4] 25)))) := Lib.hid (by
    have bbel : Below w4.heap.size w4 (w4.alloc (.cells #[.int .i64 (x.w : Int), .int .i64 (x.h : Int), .slice A4 x.p.length c4] 25)) := ((Below.refl w4.heap.size w4).alloc (Nat.le_refl _) _)
    have := specOpDo_any r.w r.h A1 c1 r.p q ((w4.alloc (.cells #[.int .i64 (x.w : Int), .int .i64 (x.h : Int), .slice A4 x.p.length c4] 25))) (by have := HL.out; omega) hc1 (HHr4.out.carry bbel (Nat.le_refl _) bbel.size)
    rw [HD.out] at this
    exact this)
  unfold Did at CE5
  go_wp2_with fail
  refine CE5.out.mono ?_
  rintro e w5 ⟨A5, c5, rfl, hc5, hh5, b5⟩
  clear CE5
  clear rc0 rc1 rc2 qe0 qe1 qe2 qe3 qe4 rn0 qn0
  obtain ⟨wx, hwx⟩ : ∃ s, d.getD ra0 = s := ⟨_, rfl⟩
  have hh5 := hh5.reads
  rw [hwx] at hc5 hh5 ⊢
  have HEwx := Lib.hid hwx
  clear hwx
  have bc5 : Below w4.heap.size w4 w5 := (((Below.refl w4.heap.size w4).alloc (Nat.le_refl _) _)).trans (b5.mono (((Below.refl w4.heap.size w4).alloc (Nat.le_refl _) _)).size)
  have HRx5 : Hid (RasAtB w5 (w4.heap.size) x.w x.h A4 x.p.length c4 25) := Lib.hid (Box.below HRx4.out b5 (RasAtB.lt HRx4.out))
  have HHx5 : Hid (HasP w5 w5.heap.size A4 x.p) := Lib.hid (HHx4.out.carry bc5 (Nat.le_refl _) bc5.size)
  have HRr5 : Hid (RasAtB w5 (w1.heap.size) r.w r.h A1 r.p.length c1 25) := Lib.hid (Box.below HRr4.out bc5 (RasAtB.lt HRr4.out))
  have HHr5 : Hid (HasP w5 w5.heap.size A1 r.p) := Lib.hid (HHr4.out.carry bc5 (Nat.le_refl _) bc5.size)
  have HOq5 : Hid (OpAtB w5 (w1.heap.size + 1) q) := Lib.hid (Box.below HOq4.out bc5 (Box.lt HOq4.out))
  have HB5 := Lib.hid (HB4.out.trans (bc5.mono HB4.out.size))
  have HRT5 : Hid (RangesIn w5) := Lib.hid (HRT4.out.next bc5)
  have HMp5 := Lib.hid (HMp4.out.trans (bc5.mono HMp4.out.size))
  clear HRr4 HHr4 HRx4 HHx4 HOq4 HB4 HRT4 HMp4
  clear bc5
  have HHwx5 : Hid (HasP w5 w5.heap.size A5 wx.p) := Lib.hid hh5
  clear hh5 b5
  have HRwx5 : Hid (RasAtB (w5.alloc (.cells #[.int .i64 (wx.w : Int), .int .i64 (wx.h : Int), .slice A5 wx.p.length c5] 25)) (w5.heap.size) wx.w wx.h A5 wx.p.length c5 25) := Lib.hid (Box.new w5 _ _)
  obtain rfl : x = wx := by rw [← HEx.out]; exact HEwx.out
  clear HEwx
  have hsn : (d.isSome != d.isSome) = false := bne_self_eq_false _
  have xc0 := RasAtB.c0 HRx5.out
  have xc1 := RasAtB.c1 HRx5.out
  have xc2 := RasAtB.c2 HRx5.out
  have xn0 : w4.heap.size < w5.heap.size := by have := RasAtB.lt HRx5.out; omega
  have CE6 : Hid (Calls Tryd.prog 14 #[rasV x.w x.h A4 x.p.length c4, rasV x.w x.h A5 x.p.length c5] (w5.alloc (.cells #[.int .i64 (x.w : Int), .int .i64 (x.h : Int), .slice A5 x.p.length c5] 25)) (fun e w' => e = .returned (.bool true) ∧ Below ((w5.alloc (.cells #[.int .i64 (x.w : Int), .int .i64 (x.h : Int), .slice A5 x.p.length c5] 25))).heap.size ((w5.alloc (.cells #[.int .i64 (x.w : Int), .int .i64 (x.h : Int), .slice A5 x.p.length c5] 25))) w')) := Lib.hid (by
    have bbel : Below w5.heap.size w5 (w5.alloc (.cells #[.int .i64 (x.w : Int), .int .i64 (x.h : Int), .slice A5 x.p.length c5] 25)) := ((Below.refl w5.heap.size w5).alloc (Nat.le_refl _) _)
    exact eaRas_same x.w x.h A4 A5 c4 c5 x.p _ (by have := HXS.out; rw [HEx.out] at this; omega) (HHx5.out.carry bbel (Nat.le_refl _) bbel.size) (HHwx5.out.carry bbel (Nat.le_refl _) bbel.size))
  unfold rasV at CE6
  go_wp2_with fail
  refine CE6.out.mono ?_
  rintro e w6 ⟨rfl, b6⟩
  clear CE6
  clear xc0 xc1 xc2 xn0
  have bb6 : Below (w5.alloc (.cells #[.int .i64 (x.w : Int), .int .i64 (x.h : Int), .slice A5 x.p.length c5] 25)).heap.size (w5.alloc (.cells #[.int .i64 (x.w : Int), .int .i64 (x.h : Int), .slice A5 x.p.length c5] 25)) w6 := ((Below.refl (w5.alloc (.cells #[.int .i64 (x.w : Int), .int .i64 (x.h : Int), .slice A5 x.p.length c5] 25)).heap.size (w5.alloc (.cells #[.int .i64 (x.w : Int), .int .i64 (x.h : Int), .slice A5 x.p.length c5] 25)))).trans (b6.mono ((Below.refl (w5.alloc (.cells #[.int .i64 (x.w : Int), .int .i64 (x.h : Int), .slice A5 x.p.length c5] 25)).heap.size (w5.alloc (.cells #[.int .i64 (x.w : Int), .int .i64 (x.h : Int), .slice A5 x.p.length c5] 25)))).size)
  have bc6 : Below w5.heap.size w5 w6 := (((Below.refl w5.heap.size w5).alloc (Nat.le_refl _) _)).trans (bb6.mono (((Below.refl w5.heap.size w5).alloc (Nat.le_refl _) _)).size)
  have HRwx6 : Hid (RasAtB w6 (w5.heap.size) x.w x.h A5 x.p.length c5 25) := Lib.hid (Box.below HRwx5.out bb6 (RasAtB.lt HRwx5.out))
  have HHwx6 : Hid (HasP w6 w6.heap.size A5 x.p) := Lib.hid (HHwx5.out.carry bc6 (Nat.le_refl _) bc6.size)
  have HRr6 : Hid (RasAtB w6 (w1.heap.size) r.w r.h A1 r.p.length c1 25) := Lib.hid (Box.below HRr5.out bc6 (RasAtB.lt HRr5.out))
  have HHr6 : Hid (HasP w6 w6.heap.size A1 r.p) := Lib.hid (HHr5.out.carry bc6 (Nat.le_refl _) bc6.size)
  have HRx6 : Hid (RasAtB w6 (w4.heap.size) x.w x.h A4 x.p.length c4 25) := Lib.hid (Box.below HRx5.out bc6 (RasAtB.lt HRx5.out))
  have HHx6 : Hid (HasP w6 w6.heap.size A4 x.p) := Lib.hid (HHx5.out.carry bc6 (Nat.le_refl _) bc6.size)
  have HOq6 : Hid (OpAtB w6 (w1.heap.size + 1) q) := Lib.hid (Box.below HOq5.out bc6 (Box.lt HOq5.out))
  have HB6 := Lib.hid (HB5.out.trans (bc6.mono HB5.out.size))
  have HRT6 : Hid (RangesIn w6) := Lib.hid (HRT5.out.next bc6)
  have HMp6 := Lib.hid (HMp5.out.trans (bc6.mono HMp5.out.size))
  clear HRr5 HHr5 HRx5 HHx5 HRwx5 HHwx5 HOq5 HB5 HRT5 HMp5
  clear bb6 bc6
  clear b6
  cases d with
  | none =>
    clear hsn
    obtain rfl : x = ra0 := by rw [← HEx.out]; rfl
    go_wp2_with fail
    refine (eaOk_any _).mono ?_
    rintro e w7 ⟨rfl, b7⟩
    have HE := Lib.hid (HB6.out.trans (b7.mono HB6.out.size))
    clear b7
    go_wp2_with fail
    go_ret
    exact ⟨rfl, HE.out⟩
  | some s =>
    clear hsn
    obtain rfl : s = x := HEx.out
    obtain ⟨r0, er1, er2, er3, hr0, hq0, hdo, hxo⟩ := put_some HD.out
    clear HEx HXS HRwx6 HHwx6
    have HRr6' := HRr6
    have HHr6' := HHr6
    rw [er1, er2, er3] at HRr6'
    rw [er3] at HHr6' hc1
    clear HRr6 HHr6 er1 er2 er3 HD HL
    have HRr6 := HRr6'
    have HHr6 := HHr6'
    clear HRr6' HHr6'
    have HOK := Lib.hid hr0
    have HQ := Lib.hid hq0
    have HDO := Lib.hid hdo
    have HXO := Lib.hid hxo
    have hP6 := Box.below HP4.out HMp6.out (Box.lt HP4.out)
    have x0 := Box.cell hP6 (i := 0) rfl
    have x1 := Box.cell hP6 (i := 1) rfl
    have x2 := Box.cell hP6 (i := 2) rfl
    have x3 := Box.cell hP6 (i := 3) rfl
    clear hr0 hq0 hdo hxo hP6
    have CPK := Lib.hid (specPixOk_any p w6)
    unfold Px.v at CPK
    go_wp2_with fail
    refine CPK.out.mono ?_
    rintro e w7 ⟨rfl, b7⟩
    clear CPK x0 x1 x2 x3
    have bb7 : Below w6.heap.size w6 w7 := ((Below.refl w6.heap.size w6)).trans (b7.mono ((Below.refl w6.heap.size w6)).size)
    have bc7 : Below w6.heap.size w6 w7 := ((Below.refl w6.heap.size w6)).trans (bb7.mono ((Below.refl w6.heap.size w6)).size)
    have HRr7 : Hid (RasAtB w7 (w1.heap.size) r0.w r0.h A1 r0.p.length c1 25) := Lib.hid (Box.below HRr6.out bc7 (RasAtB.lt HRr6.out))
    have HHr7 : Hid (HasP w7 w7.heap.size A1 r0.p) := Lib.hid (HHr6.out.carry bc7 (Nat.le_refl _) bc7.size)
    have HRx7 : Hid (RasAtB w7 (w4.heap.size) s.w s.h A4 s.p.length c4 25) := Lib.hid (Box.below HRx6.out bc7 (RasAtB.lt HRx6.out))
    have HHx7 : Hid (HasP w7 w7.heap.size A4 s.p) := Lib.hid (HHx6.out.carry bc7 (Nat.le_refl _) bc7.size)
    have HOq7 : Hid (OpAtB w7 (w1.heap.size + 1) q) := Lib.hid (Box.below HOq6.out bc7 (Box.lt HOq6.out))
    have HB7 := Lib.hid (HB6.out.trans (bc7.mono HB6.out.size))
    have HRT7 : Hid (RangesIn w7) := Lib.hid (HRT6.out.next bc7)
    have HMp7 := Lib.hid (HMp6.out.trans (bc7.mono HMp6.out.size))
    clear HRr6 HHr6 HRx6 HHx6 HOq6 HB6 HRT6 HMp6
    clear bb7 bc7
    clear b7
    obtain ⟨q1, hq1⟩ : ∃ q1, pixB p = q1 := ⟨_, rfl⟩
    have HQ1 := Lib.hid hq1
    rw [hq1]
    clear hq1
    cases q1
    case false =>
      go_wp2_with fail
      refine (eaOk_any _).mono ?_
      rintro e w8 ⟨rfl, b8⟩
      have HE := Lib.hid (HB7.out.trans (b8.mono HB7.out.size))
      clear b8
      go_wp2_with fail
      go_ret
      exact ⟨rfl, HE.out⟩
    obtain ⟨qe0, qe1, qe2, qe3, qe4⟩ := OpAtB.cs HOq7.out
    by_cases hk : q.k = 5 ∨ q.k = 6 ∨ q.k = 8
    · have hkk : ((q.k == 5) = true) ∨ ((q.k == 5) = false ∧ (q.k == 6) = true) ∨ ((q.k == 5) = false ∧ (q.k == 6) = false ∧ (q.k == 8) = true) := by
        rcases hk with e | e | e
        · exact .inl (by rw [e]; rfl)
        · exact .inr (.inl ⟨by rw [e]; rfl, by rw [e]; rfl⟩)
        · exact .inr (.inr ⟨by rw [e]; rfl, by rw [e]; rfl, by rw [e]; rfl⟩)
      clear hk
      rcases hkk with e5 | ⟨e5, e6⟩ | ⟨e5, e6, e8⟩
      all_goals
        go_wp2_with fail
        refine (eaOk_any _).mono ?_
        rintro e w8 ⟨rfl, b8⟩
        have HE := Lib.hid (HB7.out.trans (b8.mono HB7.out.size))
        clear b8
        go_wp2_with fail
        go_ret
        exact ⟨rfl, HE.out⟩
    have e5 : (q.k == 5) = false := by simpa using fun e => hk (.inl e)
    have e6 : (q.k == 6) = false := by simpa using fun e => hk (.inr (.inl e))
    have e8 : (q.k == 8) = false := by simpa using fun e => hk (.inr (.inr e))
    have HK := Lib.hid hk
    have hP7 := Box.below HP4.out HMp7.out (Box.lt HP4.out)
    have x0 := Box.cell hP7 (i := 0) rfl
    have x1 := Box.cell hP7 (i := 1) rfl
    have x2 := Box.cell hP7 (i := 2) rfl
    have xl := Box.lt hP7
    clear hk hP7
    have HOgO7 : Hid (OpAtB (w7.alloc (.cells #[.int .i64 5, .int .i64 0, .int .i64 0, .int .i64 0, .int .i64 0] 27)) (w7.heap.size) gO) := Lib.hid (Box.new w7 _ _)
    have HOgO7 : Hid (OpAtB ((w7.alloc (.cells #[.int .i64 5, .int .i64 0, .int .i64 0, .int .i64 0, .int .i64 0] 27)).alloc (.cells #[.int .i64 8, .int .i64 p.r, .int .i64 p.g, .int .i64 p.b, .int .i64 0] 27)) (w7.heap.size) gO) := Lib.hid (Box.alloc HOgO7.out _)
    have HOfl7 : Hid (OpAtB ((w7.alloc (.cells #[.int .i64 5, .int .i64 0, .int .i64 0, .int .i64 0, .int .i64 0] 27)).alloc (.cells #[.int .i64 8, .int .i64 p.r, .int .i64 p.g, .int .i64 p.b, .int .i64 0] 27)) (w7.heap.size + 1) (fO p.r p.g p.b)) := Lib.hid ((by
        have := Box.new (w7.alloc (.cells #[.int .i64 5, .int .i64 0, .int .i64 0, .int .i64 0, .int .i64 0] 27)) #[.int .i64 8, .int .i64 p.r, .int .i64 p.g, .int .i64 p.b, .int .i64 0] 27
        rw [show (w7.alloc (.cells #[.int .i64 5, .int .i64 0, .int .i64 0, .int .i64 0, .int .i64 0] 27)).heap.size = w7.heap.size + 1 from by simp] at this
        exact this))
    have HBN8 : Hid (Below w7.heap.size w7 ((w7.alloc (.cells #[.int .i64 5, .int .i64 0, .int .i64 0, .int .i64 0, .int .i64 0] 27)).alloc (.cells #[.int .i64 8, .int .i64 p.r, .int .i64 p.g, .int .i64 p.b, .int .i64 0] 27))) := Lib.hid (((Below.refl w7.heap.size w7).alloc (Nat.le_refl _) _).alloc (by simp) _)
    go_wp2_with fail
    generalize (w7.alloc (.cells #[.int .i64 5, .int .i64 0, .int .i64 0, .int .i64 0, .int .i64 0] 27)).alloc (.cells #[.int .i64 8, .int .i64 p.r, .int .i64 p.g, .int .i64 p.b, .int .i64 0] 27) = w8 at *
    have b8 := HBN8.out
    have HOgO8 : Hid (OpAtB w8 (w7.heap.size) gO) := HOgO7
    have HOfl8 : Hid (OpAtB w8 (w7.heap.size + 1) (fO p.r p.g p.b)) := HOfl7
    have HRr8 : Hid (RasAtB w8 (w1.heap.size) r0.w r0.h A1 r0.p.length c1 25) := Lib.hid (Box.below HRr7.out b8 (RasAtB.lt HRr7.out))
    have HHr8 : Hid (HasP w8 w8.heap.size A1 r0.p) := Lib.hid (HHr7.out.carry b8 (Nat.le_refl _) b8.size)
    have HRx8 : Hid (RasAtB w8 (w4.heap.size) s.w s.h A4 s.p.length c4 25) := Lib.hid (Box.below HRx7.out b8 (RasAtB.lt HRx7.out))
    have HHx8 : Hid (HasP w8 w8.heap.size A4 s.p) := Lib.hid (HHx7.out.carry b8 (Nat.le_refl _) b8.size)
    have HOq8 : Hid (OpAtB w8 (w1.heap.size + 1) q) := Lib.hid (Box.below HOq7.out b8 (Box.lt HOq7.out))
    have HB8 := Lib.hid (HB7.out.trans (b8.mono HB7.out.size))
    have HRT8 : Hid (RangesIn w8) := Lib.hid (HRT7.out.next b8)
    have HMp8 := Lib.hid (HMp7.out.trans (b8.mono HMp7.out.size))
    clear HRr7 HHr7 HRx7 HHx7 HOq7 HOgO7 HOfl7 HB7 HRT7 HMp7
    clear b8 HBN8
    clear x0 x1 x2 xl qe0 qe1 qe2 qe3 qe4 e5 e6 e8
    obtain ⟨hp1, hp2, hp3, hp4⟩ := pixB_parts HQ1.out
    have HG := Lib.hid (each_do (fun _ h => grayP_ok h) HOK.out HQ.out (fun e => HK.out (.inl e)) (fun e => HK.out (.inr (.inl e))) (fun e => HK.out (.inr (.inr e))) HDO.out)
    have HF := Lib.hid (each_do (fun _ h => flatP1_ok (o := (fO p.r p.g p.b)) h hp1 hp2 hp3) HOK.out HQ.out (fun e => HK.out (.inl e)) (fun e => HK.out (.inr (.inl e))) (fun e => HK.out (.inr (.inr e))) HDO.out)
    have HP3 := Lib.hid (And.intro hp1 (And.intro hp2 hp3))
    clear hp1 hp2 hp3 hp4
    have hbd : Below w8.heap.size w8 w8.drew := below_draws ((Below.refl _ _)) 1
    have hRrb : RasAtB w8.drew (w1.heap.size) r0.w r0.h A1 r0.p.length c1 25 := Box.below HRr8.out hbd (RasAtB.lt HRr8.out)
    have hHrb : HasP w8.drew w8.drew.heap.size A1 r0.p := HHr8.out.carry hbd (Nat.le_refl _) hbd.size
    have hRxb : RasAtB w8.drew (w4.heap.size) s.w s.h A4 s.p.length c4 25 := Box.below HRx8.out hbd (RasAtB.lt HRx8.out)
    have hHxb : HasP w8.drew w8.drew.heap.size A4 s.p := HHx8.out.carry hbd (Nat.le_refl _) hbd.size
    have hOqb : OpAtB w8.drew (w1.heap.size + 1) q := Box.below HOq8.out hbd (Box.lt HOq8.out)
    have hOgOb : OpAtB w8.drew (w7.heap.size) gO := Box.below HOgO8.out hbd (Box.lt HOgO8.out)
    have hOflb : OpAtB w8.drew (w7.heap.size + 1) (fO p.r p.g p.b) := Box.below HOfl8.out hbd (Box.lt HOfl8.out)
    have hRTb : RangesIn w8.drew := HRT8.out.next hbd
    have HBD := Lib.hid hbd
    clear hbd
    have HFS := Lib.hid (And.intro hRrb ( And.intro hHrb ( And.intro hRxb ( And.intro hHxb ( And.intro hOqb ( And.intro hOgOb ( And.intro hOflb (hRTb))))))))
    clear hRrb hHrb hRxb hHxb hOqb hOgOb hOflb hRTb
    obtain ⟨hRrb, hHrb, hRxb, hHxb, hOqb, hOgOb, hOflb, hRTb⟩ := HFS.out
    clear HFS
    refine wp_region_kd 103 [81, 82, 83, 84, 85, 86, 87, 88, 89, 90, 91, 92, 93, 94, 95, 96, 97, 98, 99, 100, 101, 102, 4] [(81, .ras s), (82, .is (gO.v)), (83, .ops [gO]), (84, .ras (eaR s [gO])), (85, .ras r0), (86, .is (gO.v)), (87, .is (q.v)), (88, .ops [gO, q]), (89, .ras (eaR r0 [gO, q])), (90, .is (.bool true)), (91, .is (.bool true)), (92, .ras s), (93, .is ((fO p.r p.g p.b).v)), (94, .ops [(fO p.r p.g p.b)]), (95, .ras (eaR s [(fO p.r p.g p.b)])), (96, .ras r0), (97, .is ((fO p.r p.g p.b).v)), (98, .is (q.v)), (99, .ops [(fO p.r p.g p.b), q]), (100, .ras (eaR r0 [(fO p.r p.g p.b), q])), (101, .is (.bool true)), (102, .is (.bool true)), (4, .is (.bool true))] (Below w8.drew.heap.size w8.drew) (by kernel_rfl) (by kernel_rfl) rfl rfl (by decide) (by decide) rfl rfl (Below.refl _ _) ?_ ?_
    · intro i o V w ho hS hV hd
      have hi : i < 23 := (Array.getElem?_eq_some_iff.1 ho).1
      have hi2 : i = 0 ∨ i = 1 ∨ i = 2 ∨ i = 3 ∨ i = 4 ∨ i = 5 ∨ i = 6 ∨ i = 7 ∨ i = 8 ∨ i = 9 ∨ i = 10 ∨ i = 11 ∨ i = 12 ∨ i = 13 ∨ i = 14 ∨ i = 15 ∨ i = 16 ∨ i = 17 ∨ i = 18 ∨ i = 19 ∨ i = 20 ∨ i = 21 ∨ i = 22 := by omega
      clear hi
      rcases hi2 with rfl | rfl | rfl | rfl | rfl | rfl | rfl | rfl | rfl | rfl | rfl | rfl | rfl | rfl | rfl | rfl | rfl | rfl | rfl | rfl | rfl | rfl | rfl
      · obtain rfl : _ = o := Option.some.inj ((show _ = some _ from rfl).symm.trans ho)
        have x8 : V 8 = .pointer (some ⟨w4.heap.size, 0, none⟩) := (hV 8 (by simp)).trans rfl
        refine ⟨fun _ => ?_, fun hw => absurd (show true = false from hw) (by decide)⟩
        · exact yield_ras rfl ((frame_eval V (by decide)).trans x8) hRxb hc4 hHxb hS
      · obtain rfl : _ = o := Option.some.inj ((show _ = some _ from rfl).symm.trans ho)
        have x12 : V 12 = .pointer (some ⟨w7.heap.size, 0, none⟩) := (hV 12 (by simp)).trans rfl
        refine ⟨fun _ => ?_, fun hw => absurd (show true = false from hw) (by decide)⟩
        · exact yield_op rfl ((frame_eval V (by decide)).trans x12) hOgOb hS
      · obtain rfl : _ = o := Option.some.inj ((show _ = some _ from rfl).symm.trans ho)
        have d1 : V 82 = gO.v := hd ⟨1, .data⟩ (by simp) rfl
        refine ⟨fun _ => ?_, fun hw => absurd (show true = false from hw) (by decide)⟩
        · exact yield_ops1 rfl ((frame_eval V (by decide)).trans d1) hS
      · obtain rfl : _ = o := Option.some.inj ((show _ = some _ from rfl).symm.trans ho)
        have d0 : IsRa s w (V 81) := hd ⟨0, .data⟩ (by simp) rfl
        have d2 : IsOps [gO] w (V 83) := hd ⟨2, .data⟩ (by simp) rfl
        refine ⟨fun _ => ?_, fun hw => absurd (show true = false from hw) (by decide)⟩
        · exact yield_eaDo rfl (frame_eval V (by decide)) (frame_eval V (by decide)) d0 d2 HXO.out (can_g can_nil) (by simp) hRTb hS
      · obtain rfl : _ = o := Option.some.inj ((show _ = some _ from rfl).symm.trans ho)
        have x5 : V 5 = .pointer (some ⟨w1.heap.size, 0, none⟩) := (hV 5 (by simp)).trans rfl
        refine ⟨fun _ => ?_, fun hw => absurd (show true = false from hw) (by decide)⟩
        · exact yield_ras rfl ((frame_eval V (by decide)).trans x5) hRrb hc1 hHrb hS
      · obtain rfl : _ = o := Option.some.inj ((show _ = some _ from rfl).symm.trans ho)
        have x12 : V 12 = .pointer (some ⟨w7.heap.size, 0, none⟩) := (hV 12 (by simp)).trans rfl
        refine ⟨fun _ => ?_, fun hw => absurd (show true = false from hw) (by decide)⟩
        · exact yield_op rfl ((frame_eval V (by decide)).trans x12) hOgOb hS
      · obtain rfl : _ = o := Option.some.inj ((show _ = some _ from rfl).symm.trans ho)
        have x6 : V 6 = .pointer (some ⟨w1.heap.size + 1, 0, none⟩) := (hV 6 (by simp)).trans rfl
        refine ⟨fun _ => ?_, fun hw => absurd (show true = false from hw) (by decide)⟩
        · exact yield_op rfl ((frame_eval V (by decide)).trans x6) hOqb hS
      · obtain rfl : _ = o := Option.some.inj ((show _ = some _ from rfl).symm.trans ho)
        have d5 : V 86 = gO.v := hd ⟨5, .data⟩ (by simp) rfl
        have d6 : V 87 = q.v := hd ⟨6, .data⟩ (by simp) rfl
        refine ⟨fun _ => ?_, fun hw => absurd (show true = false from hw) (by decide)⟩
        · exact yield_ops2 rfl ((frame_eval V (by decide)).trans d5) ((frame_eval V (by decide)).trans d6) hS
      · obtain rfl : _ = o := Option.some.inj ((show _ = some _ from rfl).symm.trans ho)
        have d4 : IsRa r0 w (V 85) := hd ⟨4, .data⟩ (by simp) rfl
        have d7 : IsOps [gO, q] w (V 88) := hd ⟨7, .data⟩ (by simp) rfl
        refine ⟨fun _ => ?_, fun hw => absurd (show true = false from hw) (by decide)⟩
        · exact yield_eaDo rfl (frame_eval V (by decide)) (frame_eval V (by decide)) d4 d7 HOK.out (can_g (can_one HQ.out HG.out can_nil)) (by simp) hRTb hS
      · obtain rfl : _ = o := Option.some.inj ((show _ = some _ from rfl).symm.trans ho)
        have d3 : IsRa (eaR s [gO]) w (V 84) := hd ⟨3, .data⟩ (by simp) rfl
        have d8 : IsRa (eaR r0 [gO, q]) w (V 89) := hd ⟨8, .data⟩ (by simp) rfl
        refine ⟨fun _ => ?_, fun hw => absurd (show true = false from hw) (by decide)⟩
        · exact yield_eaRas rfl (frame_eval V (by decide)) (frame_eval V (by decide)) d3 d8 (ea_ok HXO.out (can_g can_nil)) (by rw [ea_g HXO.out, ea_g HOK.out, ea_one (eachR_ok HOK.out fun _ h => grayP_ok h) HQ.out HG.out, eaR_nil]) hS
      · obtain rfl : _ = o := Option.some.inj ((show _ = some _ from rfl).symm.trans ho)
        have d9 : V 90 = .bool true := hd ⟨9, .data⟩ (by simp) rfl
        refine ⟨fun _ => ?_, fun hw => absurd (show true = false from hw) (by decide)⟩
        · exact yield_copy (.inl rfl) ((frame_eval V (by decide)).trans d9) hS
      · obtain rfl : _ = o := Option.some.inj ((show _ = some _ from rfl).symm.trans ho)
        have x8 : V 8 = .pointer (some ⟨w4.heap.size, 0, none⟩) := (hV 8 (by simp)).trans rfl
        have gd : V 91 = .bool true := hd ⟨10, .guard⟩ (by simp) rfl
        refine ⟨fun _ => ?_, fun hw => absurd ((wanted_of rfl rfl (by decide) gd).symm.trans hw) (by decide)⟩
        · exact yield_ras rfl ((frame_eval V (by decide)).trans x8) hRxb hc4 hHxb hS
      · obtain rfl : _ = o := Option.some.inj ((show _ = some _ from rfl).symm.trans ho)
        have x13 : V 13 = .pointer (some ⟨w7.heap.size + 1, 0, none⟩) := (hV 13 (by simp)).trans rfl
        have gd : V 91 = .bool true := hd ⟨10, .guard⟩ (by simp) rfl
        refine ⟨fun _ => ?_, fun hw => absurd ((wanted_of rfl rfl (by decide) gd).symm.trans hw) (by decide)⟩
        · exact yield_op rfl ((frame_eval V (by decide)).trans x13) hOflb hS
      · obtain rfl : _ = o := Option.some.inj ((show _ = some _ from rfl).symm.trans ho)
        have d12 : V 93 = (fO p.r p.g p.b).v := hd ⟨12, .data⟩ (by simp) rfl
        have gd : V 91 = .bool true := hd ⟨10, .guard⟩ (by simp) rfl
        refine ⟨fun _ => ?_, fun hw => absurd ((wanted_of rfl rfl (by decide) gd).symm.trans hw) (by decide)⟩
        · exact yield_ops1 rfl ((frame_eval V (by decide)).trans d12) hS
      · obtain rfl : _ = o := Option.some.inj ((show _ = some _ from rfl).symm.trans ho)
        have d11 : IsRa s w (V 92) := hd ⟨11, .data⟩ (by simp) rfl
        have d13 : IsOps [(fO p.r p.g p.b)] w (V 94) := hd ⟨13, .data⟩ (by simp) rfl
        have gd : V 91 = .bool true := hd ⟨10, .guard⟩ (by simp) rfl
        refine ⟨fun _ => ?_, fun hw => absurd ((wanted_of rfl rfl (by decide) gd).symm.trans hw) (by decide)⟩
        · exact yield_eaDo rfl (frame_eval V (by decide)) (frame_eval V (by decide)) d11 d13 HXO.out (can_f HP3.out.1 HP3.out.2.1 HP3.out.2.2 can_nil) (by simp) hRTb hS
      · obtain rfl : _ = o := Option.some.inj ((show _ = some _ from rfl).symm.trans ho)
        have x5 : V 5 = .pointer (some ⟨w1.heap.size, 0, none⟩) := (hV 5 (by simp)).trans rfl
        have gd : V 91 = .bool true := hd ⟨10, .guard⟩ (by simp) rfl
        refine ⟨fun _ => ?_, fun hw => absurd ((wanted_of rfl rfl (by decide) gd).symm.trans hw) (by decide)⟩
        · exact yield_ras rfl ((frame_eval V (by decide)).trans x5) hRrb hc1 hHrb hS
      · obtain rfl : _ = o := Option.some.inj ((show _ = some _ from rfl).symm.trans ho)
        have x13 : V 13 = .pointer (some ⟨w7.heap.size + 1, 0, none⟩) := (hV 13 (by simp)).trans rfl
        have gd : V 91 = .bool true := hd ⟨10, .guard⟩ (by simp) rfl
        refine ⟨fun _ => ?_, fun hw => absurd ((wanted_of rfl rfl (by decide) gd).symm.trans hw) (by decide)⟩
        · exact yield_op rfl ((frame_eval V (by decide)).trans x13) hOflb hS
      · obtain rfl : _ = o := Option.some.inj ((show _ = some _ from rfl).symm.trans ho)
        have x6 : V 6 = .pointer (some ⟨w1.heap.size + 1, 0, none⟩) := (hV 6 (by simp)).trans rfl
        have gd : V 91 = .bool true := hd ⟨10, .guard⟩ (by simp) rfl
        refine ⟨fun _ => ?_, fun hw => absurd ((wanted_of rfl rfl (by decide) gd).symm.trans hw) (by decide)⟩
        · exact yield_op rfl ((frame_eval V (by decide)).trans x6) hOqb hS
      · obtain rfl : _ = o := Option.some.inj ((show _ = some _ from rfl).symm.trans ho)
        have d16 : V 97 = (fO p.r p.g p.b).v := hd ⟨16, .data⟩ (by simp) rfl
        have d17 : V 98 = q.v := hd ⟨17, .data⟩ (by simp) rfl
        have gd : V 91 = .bool true := hd ⟨10, .guard⟩ (by simp) rfl
        refine ⟨fun _ => ?_, fun hw => absurd ((wanted_of rfl rfl (by decide) gd).symm.trans hw) (by decide)⟩
        · exact yield_ops2 rfl ((frame_eval V (by decide)).trans d16) ((frame_eval V (by decide)).trans d17) hS
      · obtain rfl : _ = o := Option.some.inj ((show _ = some _ from rfl).symm.trans ho)
        have d15 : IsRa r0 w (V 96) := hd ⟨15, .data⟩ (by simp) rfl
        have d18 : IsOps [(fO p.r p.g p.b), q] w (V 99) := hd ⟨18, .data⟩ (by simp) rfl
        have gd : V 91 = .bool true := hd ⟨10, .guard⟩ (by simp) rfl
        refine ⟨fun _ => ?_, fun hw => absurd ((wanted_of rfl rfl (by decide) gd).symm.trans hw) (by decide)⟩
        · exact yield_eaDo rfl (frame_eval V (by decide)) (frame_eval V (by decide)) d15 d18 HOK.out (can_f HP3.out.1 HP3.out.2.1 HP3.out.2.2 (can_one HQ.out HF.out can_nil)) (by simp) hRTb hS
      · obtain rfl : _ = o := Option.some.inj ((show _ = some _ from rfl).symm.trans ho)
        have d14 : IsRa (eaR s [(fO p.r p.g p.b)]) w (V 95) := hd ⟨14, .data⟩ (by simp) rfl
        have d19 : IsRa (eaR r0 [(fO p.r p.g p.b), q]) w (V 100) := hd ⟨19, .data⟩ (by simp) rfl
        have gd : V 91 = .bool true := hd ⟨10, .guard⟩ (by simp) rfl
        refine ⟨fun _ => ?_, fun hw => absurd ((wanted_of rfl rfl (by decide) gd).symm.trans hw) (by decide)⟩
        · exact yield_eaRas rfl (frame_eval V (by decide)) (frame_eval V (by decide)) d14 d19 (ea_ok HXO.out (can_f HP3.out.1 HP3.out.2.1 HP3.out.2.2 can_nil)) (by rw [ea_f HXO.out _ HP3.out.1 HP3.out.2.1 HP3.out.2.2, ea_f HOK.out _ HP3.out.1 HP3.out.2.1 HP3.out.2.2, ea_one (eachR_ok HOK.out fun _ h => flatP1_ok h HP3.out.1 HP3.out.2.1 HP3.out.2.2) HQ.out HF.out, eaR_nil]) hS
      · obtain rfl : _ = o := Option.some.inj ((show _ = some _ from rfl).symm.trans ho)
        have d10 : V 91 = .bool true := hd ⟨10, .data⟩ (by simp) rfl
        have d20 : V 101 = .bool true := hd ⟨20, .data⟩ (by simp) rfl
        refine ⟨fun _ => ?_, fun hw => absurd (show true = false from hw) (by decide)⟩
        · exact yield_pick rfl ((frame_eval V (by decide)).trans d10) ((frame_eval V (by decide)).trans d20) hS
      · obtain rfl : _ = o := Option.some.inj ((show _ = some _ from rfl).symm.trans ho)
        have d21 : V 102 = .bool true := hd ⟨21, .data⟩ (by simp) rfl
        refine ⟨fun _ => ?_, fun hw => absurd (show true = false from hw) (by decide)⟩
        · exact yield_copy (.inr rfl) ((frame_eval V (by decide)).trans d21) hS
    · intro V wx hS hV hall
      have dl : V 4 = .bool true := hall 22 (by decide)
      rw [frame_all (n := 103) (D := [81, 82, 83, 84, 85, 86, 87, 88, 89, 90, 91, 92, 93, 94, 95, 96, 97, 98, 99, 100, 101, 102, 4]) rfl rfl (by decide) hV]
      simp only [List.foldl_cons, List.foldl_nil, Act.put, List.setIfInBounds_toArray, List.set_cons_zero, List.set_cons_succ]
      rw [dl]
      have HE := Lib.hid (HB8.out.trans ((HBD.out.trans (hS.mono HBD.out.size)).mono HB8.out.size))
      clear hall hV dl hS hRrb hHrb hRxb hHxb hOqb hOgOb hOflb hRTb 
      go_wp2_with fail
      go_ret
      exact ⟨rfl, HE.out⟩
theorem fnOpEach_walk (A : Option Addr) (c : Nat) (l : List UInt8) (A2 : Option Addr) (c2 : Nat) (l2 : List UInt8) (w : World) (hR : RangesIn w) (h : Has w w.heap.size A l) (hc : l.length ≤ c) (h2 : Has w w.heap.size A2 l2) (hc2 : l2.length ≤ c2) :
    Calls Tryd.prog 8 #[.slice A l.length c, .slice A2 l2.length c2] w fun e w' => e = .returned (.bool true) ∧ Below w.heap.size w w' := by
  by_cases hbig : l.length ≤ 1048576
  · by_cases hbig2 : l2.length ≤ 1048576
    · exact fnOpEach_small A c l A2 c2 l2 w hR h hc h2 hc2 hbig hbig2
    · have hl0 : ¬ ((1048576 : Int) < (l.length : Int)) := by omega
      have hl2 : (1048576 : Int) < (l2.length : Int) := by omega
      clear h hc hbig hbig2 h2 hc2
      go_enter Tryd.func8, Tryd.ntmps8
      go_wp2_with fail
      go_ret
      exact ⟨rfl, Below.refl _ _⟩
  · have hl0 : (1048576 : Int) < (l.length : Int) := by omega
    clear h hc hbig h2 hc2
    go_enter Tryd.func8, Tryd.ntmps8
    go_wp2_with fail
    go_ret
    exact ⟨rfl, Below.refl _ _⟩
end Go.Proofs.YtiemlakjallphaaDoor
