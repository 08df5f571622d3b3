/-
  The law FnOpCover returns true for every list of bytes to draw from. Condition: the table of ranges reads as the program's text lays it.
-/
import Derived.Test.YtiemlakjallphaaDoorRanL
import Derived.Test.YtiemlakjallphaaDoorDrawOpA
import Derived.Test.YtiemlakjallphaaDoorEaC
import Derived.Test.YtiemlakjallphaaDoorRegK
import Derived.Test.YtiemlakjallphaaDoorRasS
import Derived.Test.YtiemlakjallphaaDoorPutO
namespace Go.Proofs.YtiemlakjallphaaDoor
set_option maxRecDepth 4000
open Go.RowKit

/-- A pixel that covers nothing. -/
def clrP (p : Px) : Px := ⟨p.r, p.g, p.b, 0⟩
theorem clrP_ok {p : Px} (h : pixB p = true) : pixB (clrP p) = true := by
  obtain ⟨h1, h2, h3, -⟩ := pixB_parts h
  exact pixB_of ⟨h1, h2, h3, by unfold clrP; simp only; omega⟩
theorem clr_covers (r : Ra) : (eachR clrP r).covers 0 := fun i j hi hj => by
  rw [eachR_w] at hi
  rw [eachR_h] at hj
  rw [eachR_at _ r hi hj]
  rfl
theorem map_snoc {l : List Px} {k : Nat} {x : Px} (hx : l[k]? = some x) : (l.take k).map clrP ++ [clrP x] = (l.take (k + 1)).map clrP := by
  rw [List.take_add_one, hx]
  simp
set_option maxHeartbeats 8000000 in
theorem fnOpCover_small (A : Option Addr) (c : Nat) (l : List UInt8) (w : World) (hR : RangesIn w) (h : Has w w.heap.size A l) (hc : l.length ≤ c) (hs : l.length ≤ 1048576) :
    Calls Tryd.prog 9 #[.slice A l.length c] w fun e w' => e = .returned (.bool true) ∧ Below w.heap.size w w' := by
  have C1 := Lib.hid (drawOpDo_any A c l w (by omega) hc h)
  have HRW := Lib.hid hR
  have hl0 : ¬ ((1048576 : Int) < (l.length : Int)) := by omega
  clear h hs hc hR
  go_enter Tryd.func9, Tryd.ntmps9
  go_wp2_with fail
  refine C1.out.mono ?_
  rintro e w1 ⟨W, H, A1, c1, l1, q, rfl, hh1, hc1, hl1, B1⟩
  obtain ⟨r, rfl, rfl, rfl⟩ : ∃ r : Rw, W = r.w ∧ H = r.h ∧ l1 = r.p := ⟨⟨W, H, l1⟩, rfl, rfl, rfl⟩
  have HD0 : ∃ d, putO r.w r.h r.p q = d := ⟨_, rfl⟩
  obtain ⟨d, hd⟩ := HD0
  have HD := Lib.hid hd
  have HL := Lib.hid hl1
  have HXS : Hid ((d.getD ra0).p.length ≤ 36) := Lib.hid (by rw [← hd]; exact put_small)
  clear hd hl1
  unfold rasV Op.v
  have b2 : Below w1.heap.size w1 ((w1.alloc (.cells #[.int .i64 r.w, .int .i64 r.h, .slice A1 r.p.length c1] 25)).alloc (.cells #[.int .i64 q.k, .int .i64 q.a, .int .i64 q.b, .int .i64 q.c, .int .i64 q.d] 27)) := ((Below.refl _ w1).alloc (Nat.le_refl _) _).alloc (by simp) _
  have HRr2 : Hid (RasAtB ((w1.alloc (.cells #[.int .i64 r.w, .int .i64 r.h, .slice A1 r.p.length c1] 25)).alloc (.cells #[.int .i64 q.k, .int .i64 q.a, .int .i64 q.b, .int .i64 q.c, .int .i64 q.d] 27)) w1.heap.size r.w r.h A1 r.p.length c1 25) := Lib.hid (Box.alloc (Box.new w1 _ _) _)
  have HOq2 : Hid (OpAtB ((w1.alloc (.cells #[.int .i64 r.w, .int .i64 r.h, .slice A1 r.p.length c1] 25)).alloc (.cells #[.int .i64 q.k, .int .i64 q.a, .int .i64 q.b, .int .i64 q.c, .int .i64 q.d] 27)) (w1.heap.size + 1) q) := Lib.hid (by
    have := Box.new (w1.alloc (.cells #[.int .i64 r.w, .int .i64 r.h, .slice A1 r.p.length c1] 25)) #[.int .i64 q.k, .int .i64 q.a, .int .i64 q.b, .int .i64 q.c, .int .i64 q.d] 27
    rw [show (w1.alloc (.cells #[.int .i64 r.w, .int .i64 r.h, .slice A1 r.p.length c1] 25)).heap.size = w1.heap.size + 1 from by simp] at this
    exact this)
  have HHr2 := Lib.hid (hh1.carry b2 (Nat.le_refl _) b2.size)
  have HB2 := Lib.hid (B1.trans (b2.mono B1.size))
  have HRT2 := Lib.hid (HRW.out.below HB2.out HRW.out.1)
  clear b2 hh1 B1 C1
  go_wp2_with fail
  generalize ((w1.alloc (.cells #[.int .i64 r.w, .int .i64 r.h, .slice A1 r.p.length c1] 25)).alloc (.cells #[.int .i64 q.k, .int .i64 q.a, .int .i64 q.b, .int .i64 q.c, .int .i64 q.d] 27)) = w2 at *
  have rc0 := RasAtB.c0 HRr2.out
  have rc1 := RasAtB.c1 HRr2.out
  have rc2 := RasAtB.c2 HRr2.out
  obtain ⟨qe0, qe1, qe2, qe3, qe4⟩ := OpAtB.cs HOq2.out
  have CE3 : Hid (Calls Tryd.prog 12 #[.agg #[.int .i64 r.w, .int .i64 r.h, .slice A1 r.p.length c1], .agg #[.int .i64 q.k, .int .i64 q.a, .int .i64 q.b, .int .i64 q.c, .int .i64 q.d]] w2 (Did d w2)) := Lib.hid (by
    have bbel : Below w2.heap.size w2 w2 := (Below.refl w2.heap.size w2)
    have := implOpDo_any r.w r.h A1 c1 r.p q (w2) (HRT2.out.next bbel) (by have := HL.out; omega) hc1 (HHr2.out.carry bbel (Nat.le_refl _) bbel.size)
    rw [HD.out] at this
    exact this)
  unfold Did at CE3
  go_wp2_with fail
  refine CE3.out.mono ?_
  rintro e w3 ⟨A3, c3, rfl, hc3, hh3, b3⟩
  clear CE3
  clear rc0 rc1 rc2 qe0 qe1 qe2 qe3 qe4
  obtain ⟨x, hx⟩ : ∃ s, d.getD ra0 = s := ⟨_, rfl⟩
  have hh3 := hh3.reads
  rw [hx] at hc3 hh3 ⊢
  have HEx := Lib.hid hx
  clear hx
  have bc3 : Below w2.heap.size w2 w3 := ((Below.refl w2.heap.size w2)).trans (b3.mono ((Below.refl w2.heap.size w2)).size)
  have HRr3 : Hid (RasAtB w3 (w1.heap.size) r.w r.h A1 r.p.length c1 25) := Lib.hid (Box.below HRr2.out bc3 (RasAtB.lt HRr2.out))
  have HHr3 : Hid (HasP w3 w3.heap.size A1 r.p) := Lib.hid (HHr2.out.carry bc3 (Nat.le_refl _) bc3.size)
  have HOq3 : Hid (OpAtB w3 (w1.heap.size + 1) q) := Lib.hid (Box.below HOq2.out bc3 (Box.lt HOq2.out))
  have HB3 := Lib.hid (HB2.out.trans (bc3.mono HB2.out.size))
  have HRT3 : Hid (RangesIn w3) := Lib.hid (HRT2.out.next bc3)
  clear HRr2 HHr2 HOq2 HB2 HRT2
  clear bc3
  have HHx3 : Hid (HasP w3 w3.heap.size A3 x.p) := Lib.hid hh3
  clear hh3 b3
  have HRx3 : Hid (RasAtB (w3.alloc (.cells #[.int .i64 (x.w : Int), .int .i64 (x.h : Int), .slice A3 x.p.length c3] 25)) (w3.heap.size) x.w x.h A3 x.p.length c3 25) := Lib.hid (Box.new w3 _ _)
  have rc0 := RasAtB.c0 HRr3.out
  have rc1 := RasAtB.c1 HRr3.out
  have rc2 := RasAtB.c2 HRr3.out
  obtain ⟨qe0, qe1, qe2, qe3, qe4⟩ := OpAtB.cs HOq3.out
  have rn0 : w1.heap.size < w3.heap.size := by have := RasAtB.lt HRr3.out; omega
  have qn0 : w1.heap.size + 1 < w3.heap.size := by have := Box.lt HOq3.out; omega
  have CE4 : Hid (Calls Tryd.prog 13 #[.agg #[.int .i64 r.w, .int .i64 r.h, .slice A1 r.p.length c1], .agg #[.int .i64 q.k, .int .i64 q.a, .int .i64 q.b, .int .i64 q.c, .int .i64 q.d]] (w3.alloc (.cells #[.int .i64 (x.w : Int), .int .i64 (x.h : Int), .slice A3 x.p.length c3] 25)) (Did d (w3.alloc (.cells #[.int .i64 (x.w : Int), .int .i64 (x.h : Int), .slice A3 x.p.length c3] 25)))) := Lib.hid (by
    have bbel : Below w3.heap.size w3 (w3.alloc (.cells #[.int .i64 (x.w : Int), .int .i64 (x.h : Int), .slice A3 x.p.length c3] 25)) := ((Below.refl w3.heap.size w3).alloc (Nat.le_refl _) _)
    have := specOpDo_any r.w r.h A1 c1 r.p q ((w3.alloc (.cells #[.int .i64 (x.w : Int), .int .i64 (x.h : Int), .slice A3 x.p.length c3] 25))) (by have := HL.out; omega) hc1 (HHr3.out.carry bbel (Nat.le_refl _) bbel.size)
    rw [HD.out] at this
    exact this)
  unfold Did at CE4
  go_wp2_with fail
  refine CE4.out.mono ?_
  rintro e w4 ⟨A4, c4, rfl, hc4, hh4, b4⟩
  clear CE4
  clear rc0 rc1 rc2 qe0 qe1 qe2 qe3 qe4 rn0 qn0
  obtain ⟨wx, hwx⟩ : ∃ s, d.getD ra0 = s := ⟨_, rfl⟩
  have hh4 := hh4.reads
  rw [hwx] at hc4 hh4 ⊢
  have HEwx := Lib.hid hwx
  clear hwx
  have bc4 : Below w3.heap.size w3 w4 := (((Below.refl w3.heap.size w3).alloc (Nat.le_refl _) _)).trans (b4.mono (((Below.refl w3.heap.size w3).alloc (Nat.le_refl _) _)).size)
  have HRx4 : Hid (RasAtB w4 (w3.heap.size) x.w x.h A3 x.p.length c3 25) := Lib.hid (Box.below HRx3.out b4 (RasAtB.lt HRx3.out))
  have HHx4 : Hid (HasP w4 w4.heap.size A3 x.p) := Lib.hid (HHx3.out.carry bc4 (Nat.le_refl _) bc4.size)
  have HRr4 : Hid (RasAtB w4 (w1.heap.size) r.w r.h A1 r.p.length c1 25) := Lib.hid (Box.below HRr3.out bc4 (RasAtB.lt HRr3.out))
  have HHr4 : Hid (HasP w4 w4.heap.size A1 r.p) := Lib.hid (HHr3.out.carry bc4 (Nat.le_refl _) bc4.size)
  have HOq4 : Hid (OpAtB w4 (w1.heap.size + 1) q) := Lib.hid (Box.below HOq3.out bc4 (Box.lt HOq3.out))
  have HB4 := Lib.hid (HB3.out.trans (bc4.mono HB3.out.size))
  have HRT4 : Hid (RangesIn w4) := Lib.hid (HRT3.out.next bc4)
  clear HRr3 HHr3 HRx3 HHx3 HOq3 HB3 HRT3
  clear bc4
  have HHwx4 : Hid (HasP w4 w4.heap.size A4 wx.p) := Lib.hid hh4
  clear hh4 b4
  have HRwx4 : Hid (RasAtB (w4.alloc (.cells #[.int .i64 (wx.w : Int), .int .i64 (wx.h : Int), .slice A4 wx.p.length c4] 25)) (w4.heap.size) wx.w wx.h A4 wx.p.length c4 25) := Lib.hid (Box.new w4 _ _)
  obtain rfl : x = wx := by rw [← HEx.out]; exact HEwx.out
  clear HEwx
  have hsn : (d.isSome != d.isSome) = false := bne_self_eq_false _
  have xc0 := RasAtB.c0 HRx4.out
  have xc1 := RasAtB.c1 HRx4.out
  have xc2 := RasAtB.c2 HRx4.out
  have xn0 : w3.heap.size < w4.heap.size := by have := RasAtB.lt HRx4.out; omega
  have CE5 : Hid (Calls Tryd.prog 14 #[rasV x.w x.h A3 x.p.length c3, rasV x.w x.h A4 x.p.length c4] (w4.alloc (.cells #[.int .i64 (x.w : Int), .int .i64 (x.h : Int), .slice A4 x.p.length c4] 25)) (fun e w' => e = .returned (.bool true) ∧ Below ((w4.alloc (.cells #[.int .i64 (x.w : Int), .int .i64 (x.h : Int), .slice A4 x.p.length c4] 25))).heap.size ((w4.alloc (.cells #[.int .i64 (x.w : Int), .int .i64 (x.h : Int), .slice A4 x.p.length c4] 25))) w')) := Lib.hid (by
    have bbel : Below w4.heap.size w4 (w4.alloc (.cells #[.int .i64 (x.w : Int), .int .i64 (x.h : Int), .slice A4 x.p.length c4] 25)) := ((Below.refl w4.heap.size w4).alloc (Nat.le_refl _) _)
    exact eaRas_same x.w x.h A3 A4 c3 c4 x.p _ (by have := HXS.out; rw [HEx.out] at this; omega) (HHx4.out.carry bbel (Nat.le_refl _) bbel.size) (HHwx4.out.carry bbel (Nat.le_refl _) bbel.size))
  unfold rasV at CE5
  go_wp2_with fail
  refine CE5.out.mono ?_
  rintro e w5 ⟨rfl, b5⟩
  clear CE5
  clear xc0 xc1 xc2 xn0
  have bb5 : Below (w4.alloc (.cells #[.int .i64 (x.w : Int), .int .i64 (x.h : Int), .slice A4 x.p.length c4] 25)).heap.size (w4.alloc (.cells #[.int .i64 (x.w : Int), .int .i64 (x.h : Int), .slice A4 x.p.length c4] 25)) w5 := ((Below.refl (w4.alloc (.cells #[.int .i64 (x.w : Int), .int .i64 (x.h : Int), .slice A4 x.p.length c4] 25)).heap.size (w4.alloc (.cells #[.int .i64 (x.w : Int), .int .i64 (x.h : Int), .slice A4 x.p.length c4] 25)))).trans (b5.mono ((Below.refl (w4.alloc (.cells #[.int .i64 (x.w : Int), .int .i64 (x.h : Int), .slice A4 x.p.length c4] 25)).heap.size (w4.alloc (.cells #[.int .i64 (x.w : Int), .int .i64 (x.h : Int), .slice A4 x.p.length c4] 25)))).size)
  have bc5 : Below w4.heap.size w4 w5 := (((Below.refl w4.heap.size w4).alloc (Nat.le_refl _) _)).trans (bb5.mono (((Below.refl w4.heap.size w4).alloc (Nat.le_refl _) _)).size)
  have HRwx5 : Hid (RasAtB w5 (w4.heap.size) x.w x.h A4 x.p.length c4 25) := Lib.hid (Box.below HRwx4.out bb5 (RasAtB.lt HRwx4.out))
  have HHwx5 : Hid (HasP w5 w5.heap.size A4 x.p) := Lib.hid (HHwx4.out.carry bc5 (Nat.le_refl _) bc5.size)
  have HRr5 : Hid (RasAtB w5 (w1.heap.size) r.w r.h A1 r.p.length c1 25) := Lib.hid (Box.below HRr4.out bc5 (RasAtB.lt HRr4.out))
  have HHr5 : Hid (HasP w5 w5.heap.size A1 r.p) := Lib.hid (HHr4.out.carry bc5 (Nat.le_refl _) bc5.size)
  have HRx5 : Hid (RasAtB w5 (w3.heap.size) x.w x.h A3 x.p.length c3 25) := Lib.hid (Box.below HRx4.out bc5 (RasAtB.lt HRx4.out))
  have HHx5 : Hid (HasP w5 w5.heap.size A3 x.p) := Lib.hid (HHx4.out.carry bc5 (Nat.le_refl _) bc5.size)
  have HOq5 : Hid (OpAtB w5 (w1.heap.size + 1) q) := Lib.hid (Box.below HOq4.out bc5 (Box.lt HOq4.out))
  have HB5 := Lib.hid (HB4.out.trans (bc5.mono HB4.out.size))
  have HRT5 : Hid (RangesIn w5) := Lib.hid (HRT4.out.next bc5)
  clear HRr4 HHr4 HRx4 HHx4 HRwx4 HHwx4 HOq4 HB4 HRT4
  clear bb5 bc5
  clear b5
  cases d with
  | none =>
    clear hsn
    obtain rfl : x = ra0 := by rw [← HEx.out]; rfl
    go_wp2_with fail
    refine (eaOk_any _).mono ?_
    rintro e w6 ⟨rfl, b6⟩
    have HE := Lib.hid (HB5.out.trans (b6.mono HB5.out.size))
    clear b6
    go_wp2_with fail
    go_ret
    exact ⟨rfl, HE.out⟩
  | some s =>
    clear hsn
    obtain rfl : s = x := HEx.out
    obtain ⟨r0, er1, er2, er3, hr0, hq0, hdo, hxo⟩ := put_some HD.out
    clear HEx HXS HRwx5 HHwx5
    have HRr5' := HRr5
    have HHr5' := HHr5
    rw [er1, er2, er3] at HRr5'
    rw [er3] at HHr5' hc1
    clear HRr5 HHr5 er1 er2 er3 HD HL
    have HRr5 := HRr5'
    have HHr5 := HHr5'
    clear HRr5' HHr5'
    obtain ⟨y0, hy0, hyw, hyh⟩ := do_size (r := r0) (r' := eachR (flatP1 (fO 0 0 0)) r0) (eachR_w _ _) (eachR_h _ _) hdo
    obtain ⟨z0, hz0, hzw, hzh⟩ := do_size (r := r0) (r' := eachR clrP r0) (eachR_w _ _) (eachR_h _ _) hdo
    have hz : (0 : Int) ≤ 0 ∧ (0 : Int) ≤ 255 := by omega
    have hfo : (eachR (flatP1 (fO 0 0 0)) r0).ok := eachR_ok hr0 fun _ h => flatP1_ok h hz hz hz
    have hco : (eachR clrP r0).ok := eachR_ok hr0 fun _ h => clrP_ok h
    have hyo : y0.ok := doR_ok hfo hq0 hy0
    have hzo : z0.ok := doR_ok hco hq0 hz0
    have HYC := Lib.hid (do_covered hfo hq0 hy0 (flat_covers _ _))
    have HZC := Lib.hid fun e8 : q.k ≠ 8 => do_covers hco hq0 hz0 e8 (clr_covers _)
    have hyz : z0.p.length = y0.p.length := by rw [hyo.parts.2.2.1, hzo.parts.2.2.1, hyw, hyh, hzw, hzh]
    have HLEN := Lib.hid (And.intro (ra_len hr0) (And.intro (ra_len hyo) hyz))
    have HCP := Lib.hid (each_p (g := clrP) hr0)
    clear hyz hyw hyh hzw hzh hxo hdo
    have rc0 := RasAtB.c0 HRr5.out
    have rc1 := RasAtB.c1 HRr5.out
    have rc2 := RasAtB.c2 HRr5.out
    obtain ⟨qe0, qe1, qe2, qe3, qe4⟩ := OpAtB.cs HOq5.out
    have CE6 : Hid (Calls Tryd.prog 20 #[.agg #[.int .i64 (r0.w : Int), .int .i64 (r0.h : Int), .slice A1 r0.p.length c1], .slice (some ⟨w5.heap.size, 0, none⟩) 2 2] (w5.alloc (.cells #[.int .i64 8, .int .i64 0, .int .i64 0, .int .i64 0, .int .i64 0, .int .i64 q.k, .int .i64 q.a, .int .i64 q.b, .int .i64 q.c, .int .i64 q.d] 27)) (EaDid (y0) (w5.alloc (.cells #[.int .i64 8, .int .i64 0, .int .i64 0, .int .i64 0, .int .i64 0, .int .i64 q.k, .int .i64 q.a, .int .i64 q.b, .int .i64 q.c, .int .i64 q.d] 27)))) := Lib.hid (by
      have bbel : Below w5.heap.size w5 (w5.alloc (.cells #[.int .i64 8, .int .i64 0, .int .i64 0, .int .i64 0, .int .i64 0, .int .i64 q.k, .int .i64 q.a, .int .i64 q.b, .int .i64 q.c, .int .i64 q.d] 27)) := ((Below.refl w5.heap.size w5).alloc (Nat.le_refl _) _)
      have hlst : opE.Has (w5.alloc (.cells #[.int .i64 8, .int .i64 0, .int .i64 0, .int .i64 0, .int .i64 0, .int .i64 q.k, .int .i64 q.a, .int .i64 q.b, .int .i64 q.c, .int .i64 q.d] 27)) (w5.alloc (.cells #[.int .i64 8, .int .i64 0, .int .i64 0, .int .i64 0, .int .i64 0, .int .i64 q.k, .int .i64 q.a, .int .i64 q.b, .int .i64 q.c, .int .i64 q.d] 27)).heap.size (some ⟨w5.heap.size, 0, none⟩) [(fO 0 0 0), q] := by
        have := El.Has.laid opE w5 [(fO 0 0 0), q] 27
        exact this.wider (by simp)
      have := eaDo_any r0 A1 c1 (some ⟨w5.heap.size, 0, none⟩) 2 [(fO 0 0 0), q] _ hr0 (can_f hz hz hz (can_one hq0 hy0 can_nil)) (HRT5.out.next bbel) hc1 (HHr5.out.carry bbel (Nat.le_refl _) bbel.size) hlst (by simp)
      rw [ea_f hr0 _ hz hz hz, ea_one hfo hq0 hy0, eaR_nil] at this
      exact this)
    go_wp2_with fail
    refine CE6.out.mono ?_
    rintro e w6 ⟨v6, rfl, ⟨A6, c6, rfl, hc6, hh6⟩, b6⟩
    clear CE6
    clear rc0 rc1 rc2 qe0 qe1 qe2 qe3 qe4
    obtain ⟨y, hy⟩ : ∃ s, y0 = s := ⟨_, rfl⟩
    rw [hy] at hc6 hh6 ⊢
    have HEy := Lib.hid hy
    clear hy
    unfold raV rasV
    have bb6 : Below w5.heap.size w5 w6 := (((Below.refl w5.heap.size w5).alloc (Nat.le_refl _) (.cells #[.int .i64 8, .int .i64 0, .int .i64 0, .int .i64 0, .int .i64 0, .int .i64 q.k, .int .i64 q.a, .int .i64 q.b, .int .i64 q.c, .int .i64 q.d] 27))).trans (b6.mono (((Below.refl w5.heap.size w5).alloc (Nat.le_refl _) (.cells #[.int .i64 8, .int .i64 0, .int .i64 0, .int .i64 0, .int .i64 0, .int .i64 q.k, .int .i64 q.a, .int .i64 q.b, .int .i64 q.c, .int .i64 q.d] 27))).size)
    have bc6 : Below w5.heap.size w5 w6 := ((Below.refl w5.heap.size w5)).trans (bb6.mono ((Below.refl w5.heap.size w5)).size)
    have HRr6 : Hid (RasAtB w6 (w1.heap.size) r0.w r0.h A1 r0.p.length c1 25) := Lib.hid (Box.below HRr5.out bc6 (RasAtB.lt HRr5.out))
    have HHr6 : Hid (HasP w6 w6.heap.size A1 r0.p) := Lib.hid (HHr5.out.carry bc6 (Nat.le_refl _) bc6.size)
    have HRx6 : Hid (RasAtB w6 (w3.heap.size) s.w s.h A3 s.p.length c3 25) := Lib.hid (Box.below HRx5.out bc6 (RasAtB.lt HRx5.out))
    have HHx6 : Hid (HasP w6 w6.heap.size A3 s.p) := Lib.hid (HHx5.out.carry bc6 (Nat.le_refl _) bc6.size)
    have HOq6 : Hid (OpAtB w6 (w1.heap.size + 1) q) := Lib.hid (Box.below HOq5.out bc6 (Box.lt HOq5.out))
    have HB6 := Lib.hid (HB5.out.trans (bc6.mono HB5.out.size))
    have HRT6 : Hid (RangesIn w6) := Lib.hid (HRT5.out.next bc6)
    clear HRr5 HHr5 HRx5 HHx5 HOq5 HB5 HRT5
    clear bb6 bc6
    have HHy6 : Hid (HasP w6 w6.heap.size A6 y.p) := Lib.hid hh6
    clear hh6 b6
    have HRy6 : Hid (RasAtB (w6.alloc (.cells #[.int .i64 (y.w : Int), .int .i64 (y.h : Int), .slice A6 y.p.length c6] 25)) (w6.heap.size) y.w y.h A6 y.p.length c6 25) := Lib.hid (Box.new w6 _ _)
    have HYE := HEy
    have HOO := Lib.hid (And.intro hr0 (And.intro hq0 (And.intro hco (And.intro hz0 (And.intro hyo hzo)))))
    clear HEy hr0 hq0 hco hz0 hyo hzo hy0 hfo hz
    obtain rfl : y0 = y := HYE.out
    clear HYE
    have HBN7 : Hid (Below w6.heap.size w6 (w6.alloc (.cells #[.int .i64 (y0.w : Int), .int .i64 (y0.h : Int), .slice A6 y0.p.length c6] 25))) := Lib.hid ((Below.refl w6.heap.size w6).alloc (Nat.le_refl _) _)
    go_wp2_with fail
    generalize w6.alloc (.cells #[.int .i64 (y0.w : Int), .int .i64 (y0.h : Int), .slice A6 y0.p.length c6] 25) = w7 at *
    have b7 := HBN7.out
    have HRy7 : Hid (RasAtB w7 (w6.heap.size) y0.w y0.h A6 y0.p.length c6 25) := HRy6
    have HHy7 : Hid (HasP w7 w7.heap.size A6 y0.p) := Lib.hid (HHy6.out.carry b7 (Nat.le_refl _) b7.size)
    have HRr7 : Hid (RasAtB w7 (w1.heap.size) r0.w r0.h A1 r0.p.length c1 25) := Lib.hid (Box.below HRr6.out b7 (RasAtB.lt HRr6.out))
    have HHr7 : Hid (HasP w7 w7.heap.size A1 r0.p) := Lib.hid (HHr6.out.carry b7 (Nat.le_refl _) b7.size)
    have HRx7 : Hid (RasAtB w7 (w3.heap.size) s.w s.h A3 s.p.length c3 25) := Lib.hid (Box.below HRx6.out b7 (RasAtB.lt HRx6.out))
    have HHx7 : Hid (HasP w7 w7.heap.size A3 s.p) := Lib.hid (HHx6.out.carry b7 (Nat.le_refl _) b7.size)
    have HOq7 : Hid (OpAtB w7 (w1.heap.size + 1) q) := Lib.hid (Box.below HOq6.out b7 (Box.lt HOq6.out))
    have HB7 := Lib.hid (HB6.out.trans (b7.mono HB6.out.size))
    have HRT7 : Hid (RangesIn w7) := Lib.hid (HRT6.out.next b7)
    clear HRr6 HHr6 HRx6 HHx6 HRy6 HHy6 HOq6 HB6 HRT6
    clear b7 HBN7
    obtain ⟨b6, d6, rfl⟩ := HasP.some HHy7.out HLEN.out.2.1.1
    obtain ⟨b1, d1, rfl⟩ := HasP.some HHr7.out HLEN.out.1.1
    go_loopw [10] (fun v wr => ∃ k : Nat, k ≤ y0.p.length ∧ v = .int .i64 (k : Int) ∧ Below w7.heap.size w7 wr) (fun v _ => y0.p.length - (intOf v).toNat)
    case atStart => exact ⟨0, Nat.zero_le _, rfl, Below.refl _ _⟩
    case round =>
      obtain ⟨k, hk, rfl, hbq⟩ := hrel
      obtain ⟨wo, rfl⟩ : ∃ u, u = wr := ⟨wr, rfl⟩
      have HRr8 : Hid (RasAtB wo (w1.heap.size) r0.w r0.h (some ⟨b1, d1, none⟩) r0.p.length c1 25) := Lib.hid (Box.below HRr7.out hbq (RasAtB.lt HRr7.out))
      have HHr8 : Hid (HasP wo wo.heap.size (some ⟨b1, d1, none⟩) r0.p) := Lib.hid (HHr7.out.carry hbq (Nat.le_refl _) hbq.size)
      have HRx8 : Hid (RasAtB wo (w3.heap.size) s.w s.h A3 s.p.length c3 25) := Lib.hid (Box.below HRx7.out hbq (RasAtB.lt HRx7.out))
      have HHx8 : Hid (HasP wo wo.heap.size A3 s.p) := Lib.hid (HHx7.out.carry hbq (Nat.le_refl _) hbq.size)
      have HRy8 : Hid (RasAtB wo (w6.heap.size) y0.w y0.h (some ⟨b6, d6, none⟩) y0.p.length c6 25) := Lib.hid (Box.below HRy7.out hbq (RasAtB.lt HRy7.out))
      have HHy8 : Hid (HasP wo wo.heap.size (some ⟨b6, d6, none⟩) y0.p) := Lib.hid (HHy7.out.carry hbq (Nat.le_refl _) hbq.size)
      have HOq8 : Hid (OpAtB wo (w1.heap.size + 1) q) := Lib.hid (Box.below HOq7.out hbq (Box.lt HOq7.out))
      have HB8 := Lib.hid (HB7.out.trans (hbq.mono HB7.out.size))
      have HRT8 : Hid (RangesIn wo) := Lib.hid (HRT7.out.next hbq)
      have HBQ := Lib.hid hbq
      clear hbq
      have hyl := HLEN.out.2.1.2
      have y2 := RasAtB.c2 HRy8.out
      by_cases hlt : k < y0.p.length
      · obtain ⟨u, hu⟩ : ∃ u, y0.p[k]? = some u := ⟨_, List.getElem?_eq_getElem hlt⟩
        have hua : u.a = 255 := covers_get HOO.out.2.2.2.2.1 HYC.out hu
        obtain ⟨lx, u0, u1, u2, u3⟩ := HasP.px HHy8.out hu
        rw [hua] at u3
        clear hu hua
        go_wp2_with fail
        go_roundw
        case rel => exact ⟨k + 1, by omega, by go_num, HBQ.out⟩
        case measure => simp [intOf]; omega
      obtain rfl : k = y0.p.length := by omega
      clear hk hlt
      have rc0 := RasAtB.c0 HRr8.out
      have rc1 := RasAtB.c1 HRr8.out
      have rc2 := RasAtB.c2 HRr8.out
      have HC9 : Hid (RasAtB (wo.alloc (.cells #[.int .i64 (r0.w : Int), .int .i64 (r0.h : Int), .slice none 0 0] 25)) wo.heap.size r0.w r0.h none 0 0 25) := Lib.hid (Box.new wo _ _)
      have HBN9 : Hid (Below wo.heap.size wo (wo.alloc (.cells #[.int .i64 (r0.w : Int), .int .i64 (r0.h : Int), .slice none 0 0] 25))) := Lib.hid ((Below.refl _ wo).alloc (Nat.le_refl _) _)
      have HSZ9 : Hid ((wo.alloc (.cells #[.int .i64 (r0.w : Int), .int .i64 (r0.h : Int), .slice none 0 0] 25)).heap.size = wo.heap.size + 1) := Lib.hid (by simp)
      go_wp2_with fail
      generalize (wo.alloc (.cells #[.int .i64 (r0.w : Int), .int .i64 (r0.h : Int), .slice none 0 0] 25)) = w9 at *
      clear rc0 rc1 rc2 y2
      go_loopw [12] (fun v wr => ∃ (k : Nat) (A : Option Addr) (cc : Nat), k ≤ r0.p.length ∧ v = .int .i64 (k : Int) ∧ RasAtB wr wo.heap.size r0.w r0.h A k cc 25 ∧ OwnP wr w9.heap.size (.slice A k cc) ((r0.p.take k).map clrP) ∧ Below wo.heap.size wo wr ∧ w9.heap.size ≤ wr.heap.size) (fun v _ => r0.p.length - (intOf v).toNat)
      case atStart => exact ⟨0, none, 0, Nat.zero_le _, rfl, HC9.out, ownP_nil _ _, HBN9.out, Nat.le_refl _⟩
      case round =>
        obtain ⟨k, A9, c9, hk, rfl, hC, hO, hbq, hsz⟩ := hrel
        obtain ⟨wp, rfl⟩ : ∃ u, u = wr := ⟨wr, rfl⟩
        have HRr9 : Hid (RasAtB wp (w1.heap.size) r0.w r0.h (some ⟨b1, d1, none⟩) r0.p.length c1 25) := Lib.hid (Box.below HRr8.out hbq (RasAtB.lt HRr8.out))
        have HHr9 : Hid (HasP wp wp.heap.size (some ⟨b1, d1, none⟩) r0.p) := Lib.hid (HHr8.out.carry hbq (Nat.le_refl _) hbq.size)
        have HRx9 : Hid (RasAtB wp (w3.heap.size) s.w s.h A3 s.p.length c3 25) := Lib.hid (Box.below HRx8.out hbq (RasAtB.lt HRx8.out))
        have HHx9 : Hid (HasP wp wp.heap.size A3 s.p) := Lib.hid (HHx8.out.carry hbq (Nat.le_refl _) hbq.size)
        have HRy9 : Hid (RasAtB wp (w6.heap.size) y0.w y0.h (some ⟨b6, d6, none⟩) y0.p.length c6 25) := Lib.hid (Box.below HRy8.out hbq (RasAtB.lt HRy8.out))
        have HHy9 : Hid (HasP wp wp.heap.size (some ⟨b6, d6, none⟩) y0.p) := Lib.hid (HHy8.out.carry hbq (Nat.le_refl _) hbq.size)
        have HOq9 : Hid (OpAtB wp (w1.heap.size + 1) q) := Lib.hid (Box.below HOq8.out hbq (Box.lt HOq8.out))
        have HB9 := Lib.hid (HB8.out.trans (hbq.mono HB8.out.size))
        have HRT9 : Hid (RangesIn wp) := Lib.hid (HRT8.out.next hbq)
        have HBP := Lib.hid hbq
        clear hbq
        have hs9 := HSZ9.out
        by_cases hlt : k < r0.p.length
        · obtain ⟨x, hx⟩ : ∃ x, r0.p[k]? = some x := ⟨_, List.getElem?_eq_getElem hlt⟩
          obtain ⟨lx, u0, u1, u2, u3⟩ := HasP.px HHr9.out hx
          have r2 := RasAtB.c2 HRr9.out
          have lr := RasAtB.lt HRr9.out
          have hkc := ((El.Own.len (E := pxE) (own_px.2 hO)).2)
          have hml : ((r0.p.take k).map clrP).length = k := by rw [List.length_map, List.length_take]; omega
          have hms := map_snoc hx
          obtain ⟨m, hm⟩ : ∃ m, (r0.p.take k).map clrP = m := ⟨_, rfl⟩
          rw [hm] at hml hms hO
          have HS := Lib.hid hms
          clear hms hm
          have hk36 : k < 36 := by have := HLEN.out.1.2; omega
          obtain ⟨G, hG⟩ : ∃ G, wp.heap.size = G := ⟨_, rfl⟩
          obtain ⟨w10, hw10⟩ : ∃ u, (wp.alloc (.cells #[.int .i64 x.r, .int .i64 x.g, .int .i64 x.b, .int .i64 x.a] 39)).setCell ⟨wp.heap.size, 3, none⟩ (.int .i64 0) = u := ⟨_, rfl⟩
          have hB0 : Box (wp.alloc (.cells #[.int .i64 x.r, .int .i64 x.g, .int .i64 x.b, .int .i64 x.a] 39)) wp.heap.size #[.int .i64 x.r, .int .i64 x.g, .int .i64 x.b, .int .i64 x.a] 39 := Box.new _ _ _
          have g0 := hB0.free 3
          have g3 := Box.cell hB0 (i := 3) rfl
          have hB1 : Box w10 wp.heap.size #[.int .i64 x.r, .int .i64 x.g, .int .i64 x.b, .int .i64 0] 39 := by rw [← hw10]; exact hB0.set 3 _
          have hgr : wp.grownBy w10 (some wp.heap.size) := by rw [← hw10]; exact grown_trans (World.grownBy_alloc wp _ _) (grown_cell _ _ _ _)
          have hq9 : wo.heap.size < wp.heap.size := by omega
          have hC10 : RasAtB w10 wo.heap.size r0.w r0.h A9 k c9 25 := hC.grown hgr (fun e => by injection e with e; omega)
          have hO10 : OwnP w10 w9.heap.size (.slice A9 k c9) m := World.ownsRow.kept hO hgr (.inr fun e => by have := (World.ownsRow.lt hO _ e).2; omega)
          have hb10 : Below wo.heap.size wo w10 := HBP.out.grown hgr (Nat.le_of_lt hq9) (fun q e => by injection e with e; omega)
          have hs10 : w9.heap.size ≤ w10.heap.size := Nat.le_trans hsz hgr.size
          have cl2 := hC10.c2
          have HB1 := Lib.hid hB1
          have HC10 := Lib.hid hC10
          have HO10 := Lib.hid hO10
          have HB10 := Lib.hid hb10
          have HS10 := Lib.hid hs10
          have hll : m.length + 1 ≤ 1073741824 := by rw [hml]; omega
          have p0 := Box.cell hB1 (i := 0) rfl
          have p1 := Box.cell hB1 (i := 1) rfl
          have p2 := Box.cell hB1 (i := 2) rfl
          have p3 := Box.cell hB1 (i := 3) rfl
          have lb1 := Box.lt hB1
          have HLL := Lib.hid hll
          have HG := Lib.hid (And.intro hsz hq9)
          clear hx hB0 hB1 hgr hC10 hO10 hb10 hs10 hC hO hG G hll
          go_wp2_with (at_builtin; refine wpList_pushP rfl (.tmp 86) (.tmp 88) rfl w9.heap.size (.slice A9 k c9) m rfl HO10.out (clrP x) w10.heap.size rfl rfl HLL.out HS10.out ?_; intro g6 c6' w11 ho6 hg6 h6; have hXg := Lib.hid ((HC10.out.grown (World.grownBy_alloc w10 (.cells #[.int .i64 x.r, .int .i64 x.g, .int .i64 x.b, .int .i64 0] 39) none) (by simp)).grown hg6 (fun e => by have := (World.ownsRow.lt HO10.out _ e).1; have := HSZ9.out; omega)); have x62 := hXg.out.c2; have x6f := hXg.out.free 2)
          have hb11 : Below wo.heap.size wo w11 := (HB10.out.trans ((Below.refl wo.heap.size w10).alloc (HB10.out.size) _)).grown hg6 (Nat.le_trans HB10.out.size (by simp)) (fun q e => by have := (World.ownsRow.lt HO10.out q e).1; have := HSZ9.out; omega)
          have hb12 : Below wo.heap.size wo (w11.setCell ⟨wo.heap.size, 2, none⟩ (.slice (some ⟨g6, 0, none⟩) (k + 1) c6')) := hb11.setCell (by simp) _
          have hs11 : w9.heap.size ≤ w11.heap.size := Nat.le_trans HS10.out (Nat.le_trans (by simp) hg6.size)
          have HB12 := Lib.hid hb12
          rw [hml] at ho6
          rw [HS.out] at ho6
          have HO12 := Lib.hid (OwnP.set_low (b := wo.heap.size) ho6 (by have := HSZ9.out; omega) 2 (.slice (some ⟨g6, 0, none⟩) (k + 1) c6'))
          have HC12 := Lib.hid (hXg.out.set2 (some ⟨g6, 0, none⟩) (k + 1) c6')
          have HS12 := Lib.hid hs11
          clear ho6 hg6 h6 hb11 hb12 hs11
          go_roundw
          case rel => exact ⟨k + 1, _, _, by omega, by go_num, HC12.out, HO12.out, HB12.out, by simpa using HS12.out⟩
          case measure => simp [intOf]; omega
        obtain rfl : k = r0.p.length := by omega
        clear hk hlt
        rw [List.take_length, ← HCP.out] at hO
        have hcl9 := (El.Own.len (E := pxE) (own_px.2 hO)).2
        have hcl8 : (eachR clrP r0).p.length = r0.p.length := by rw [HCP.out, List.length_map]
        rw [← hcl8] at hC hO
        obtain ⟨hr0, hq0, hco, hz0, hyo, hzo⟩ := HOO.out
        have hcw : (eachR clrP r0).w = r0.w := eachR_w _ _
        have hch : (eachR clrP r0).h = r0.h := eachR_h _ _
        rw [← hcw, ← hch] at hC
        clear hcw hch hcl8 HCP HC9 HBN9
        obtain ⟨cl, hcl⟩ : ∃ cl, eachR clrP r0 = cl := ⟨_, rfl⟩
        rw [hcl] at hC hO hcl9 hco hz0
        have HRcl9 := Lib.hid hC
        have HHcl9 := Lib.hid hO.reads
        have r2 := RasAtB.c2 HRr9.out
        clear hC hO hcl hsz hs9
        have clc0 := RasAtB.c0 HRcl9.out
        have clc1 := RasAtB.c1 HRcl9.out
        have clc2 := RasAtB.c2 HRcl9.out
        obtain ⟨qe0, qe1, qe2, qe3, qe4⟩ := OpAtB.cs HOq9.out
        have CE20 : Hid (Calls Tryd.prog 20 #[.agg #[.int .i64 (cl.w : Int), .int .i64 (cl.h : Int), .slice A9 cl.p.length c9], .slice (some ⟨wp.heap.size, 0, none⟩) 1 1] (wp.alloc (.cells #[.int .i64 q.k, .int .i64 q.a, .int .i64 q.b, .int .i64 q.c, .int .i64 q.d] 27)) (EaDid (z0) (wp.alloc (.cells #[.int .i64 q.k, .int .i64 q.a, .int .i64 q.b, .int .i64 q.c, .int .i64 q.d] 27)))) := Lib.hid (by
          have bbel : Below wp.heap.size wp (wp.alloc (.cells #[.int .i64 q.k, .int .i64 q.a, .int .i64 q.b, .int .i64 q.c, .int .i64 q.d] 27)) := ((Below.refl wp.heap.size wp).alloc (Nat.le_refl _) _)
          have hlst : opE.Has (wp.alloc (.cells #[.int .i64 q.k, .int .i64 q.a, .int .i64 q.b, .int .i64 q.c, .int .i64 q.d] 27)) (wp.alloc (.cells #[.int .i64 q.k, .int .i64 q.a, .int .i64 q.b, .int .i64 q.c, .int .i64 q.d] 27)).heap.size (some ⟨wp.heap.size, 0, none⟩) [q] := by
            have := El.Has.laid opE wp [q] 27
            exact this.wider (by simp)
          have := eaDo_any cl A9 c9 (some ⟨wp.heap.size, 0, none⟩) 1 [q] _ hco (can_one hq0 hz0 can_nil) (HRT9.out.next bbel) hcl9 (HHcl9.out.carry bbel (Nat.le_refl _) bbel.size) hlst (by simp)
          rw [ea_one hco hq0 hz0, eaR_nil] at this
          exact this)
        go_wp2_with fail
        refine CE20.out.mono ?_
        rintro e w20 ⟨v20, rfl, ⟨A20, c20, rfl, hc20, hh20⟩, b20⟩
        clear CE20
        clear clc0 clc1 clc2 qe0 qe1 qe2 qe3 qe4
        obtain ⟨z, hz⟩ : ∃ s, z0 = s := ⟨_, rfl⟩
        rw [hz] at hc20 hh20 ⊢
        have HEz := Lib.hid hz
        clear hz
        unfold raV rasV
        have bb20 : Below wp.heap.size wp w20 := (((Below.refl wp.heap.size wp).alloc (Nat.le_refl _) (.cells #[.int .i64 q.k, .int .i64 q.a, .int .i64 q.b, .int .i64 q.c, .int .i64 q.d] 27))).trans (b20.mono (((Below.refl wp.heap.size wp).alloc (Nat.le_refl _) (.cells #[.int .i64 q.k, .int .i64 q.a, .int .i64 q.b, .int .i64 q.c, .int .i64 q.d] 27))).size)
        have bc20 : Below wp.heap.size wp w20 := ((Below.refl wp.heap.size wp)).trans (bb20.mono ((Below.refl wp.heap.size wp)).size)
        have HRr20 : Hid (RasAtB w20 (w1.heap.size) r0.w r0.h (some ⟨b1, d1, none⟩) r0.p.length c1 25) := Lib.hid (Box.below HRr9.out bc20 (RasAtB.lt HRr9.out))
        have HHr20 : Hid (HasP w20 w20.heap.size (some ⟨b1, d1, none⟩) r0.p) := Lib.hid (HHr9.out.carry bc20 (Nat.le_refl _) bc20.size)
        have HRx20 : Hid (RasAtB w20 (w3.heap.size) s.w s.h A3 s.p.length c3 25) := Lib.hid (Box.below HRx9.out bc20 (RasAtB.lt HRx9.out))
        have HHx20 : Hid (HasP w20 w20.heap.size A3 s.p) := Lib.hid (HHx9.out.carry bc20 (Nat.le_refl _) bc20.size)
        have HRy20 : Hid (RasAtB w20 (w6.heap.size) y0.w y0.h (some ⟨b6, d6, none⟩) y0.p.length c6 25) := Lib.hid (Box.below HRy9.out bc20 (RasAtB.lt HRy9.out))
        have HHy20 : Hid (HasP w20 w20.heap.size (some ⟨b6, d6, none⟩) y0.p) := Lib.hid (HHy9.out.carry bc20 (Nat.le_refl _) bc20.size)
        have HRcl20 : Hid (RasAtB w20 (wo.heap.size) cl.w cl.h A9 cl.p.length c9 25) := Lib.hid (Box.below HRcl9.out bc20 (RasAtB.lt HRcl9.out))
        have HHcl20 : Hid (HasP w20 w20.heap.size A9 cl.p) := Lib.hid (HHcl9.out.carry bc20 (Nat.le_refl _) bc20.size)
        have HOq20 : Hid (OpAtB w20 (w1.heap.size + 1) q) := Lib.hid (Box.below HOq9.out bc20 (Box.lt HOq9.out))
        have HB20 := Lib.hid (HB9.out.trans (bc20.mono HB9.out.size))
        have HRT20 : Hid (RangesIn w20) := Lib.hid (HRT9.out.next bc20)
        clear HRr9 HHr9 HRx9 HHx9 HRy9 HHy9 HRcl9 HHcl9 HOq9 HB9 HRT9
        clear bb20 bc20
        have HHz20 : Hid (HasP w20 w20.heap.size A20 z.p) := Lib.hid hh20
        clear hh20 b20
        have HRz20 : Hid (RasAtB (w20.alloc (.cells #[.int .i64 (z.w : Int), .int .i64 (z.h : Int), .slice A20 z.p.length c20] 25)) (w20.heap.size) z.w z.h A20 z.p.length c20 25) := Lib.hid (Box.new w20 _ _)
        have HZE := HEz
        clear HEz hr0 hq0 hco hz0 hyo hzo
        obtain rfl : z0 = z := HZE.out
        clear HZE
        have HBN21 : Hid (Below w20.heap.size w20 (w20.alloc (.cells #[.int .i64 (z0.w : Int), .int .i64 (z0.h : Int), .slice A20 z0.p.length c20] 25))) := Lib.hid ((Below.refl w20.heap.size w20).alloc (Nat.le_refl _) _)
        go_wp2_with fail
        generalize w20.alloc (.cells #[.int .i64 (z0.w : Int), .int .i64 (z0.h : Int), .slice A20 z0.p.length c20] 25) = w21 at *
        have b21 := HBN21.out
        have HRz21 : Hid (RasAtB w21 (w20.heap.size) z0.w z0.h A20 z0.p.length c20 25) := HRz20
        have HHz21 : Hid (HasP w21 w21.heap.size A20 z0.p) := Lib.hid (HHz20.out.carry b21 (Nat.le_refl _) b21.size)
        have HRr21 : Hid (RasAtB w21 (w1.heap.size) r0.w r0.h (some ⟨b1, d1, none⟩) r0.p.length c1 25) := Lib.hid (Box.below HRr20.out b21 (RasAtB.lt HRr20.out))
        have HHr21 : Hid (HasP w21 w21.heap.size (some ⟨b1, d1, none⟩) r0.p) := Lib.hid (HHr20.out.carry b21 (Nat.le_refl _) b21.size)
        have HRx21 : Hid (RasAtB w21 (w3.heap.size) s.w s.h A3 s.p.length c3 25) := Lib.hid (Box.below HRx20.out b21 (RasAtB.lt HRx20.out))
        have HHx21 : Hid (HasP w21 w21.heap.size A3 s.p) := Lib.hid (HHx20.out.carry b21 (Nat.le_refl _) b21.size)
        have HRy21 : Hid (RasAtB w21 (w6.heap.size) y0.w y0.h (some ⟨b6, d6, none⟩) y0.p.length c6 25) := Lib.hid (Box.below HRy20.out b21 (RasAtB.lt HRy20.out))
        have HHy21 : Hid (HasP w21 w21.heap.size (some ⟨b6, d6, none⟩) y0.p) := Lib.hid (HHy20.out.carry b21 (Nat.le_refl _) b21.size)
        have HRcl21 : Hid (RasAtB w21 (wo.heap.size) cl.w cl.h A9 cl.p.length c9 25) := Lib.hid (Box.below HRcl20.out b21 (RasAtB.lt HRcl20.out))
        have HHcl21 : Hid (HasP w21 w21.heap.size A9 cl.p) := Lib.hid (HHcl20.out.carry b21 (Nat.le_refl _) b21.size)
        have HOq21 : Hid (OpAtB w21 (w1.heap.size + 1) q) := Lib.hid (Box.below HOq20.out b21 (Box.lt HOq20.out))
        have HB21 := Lib.hid (HB20.out.trans (b21.mono HB20.out.size))
        have HRT21 : Hid (RangesIn w21) := Lib.hid (HRT20.out.next b21)
        clear HRr20 HHr20 HRx20 HHx20 HRy20 HHy20 HRcl20 HHcl20 HRz20 HHz20 HOq20 HB20 HRT20
        clear b21 HBN21
        have hzl : z0.p.length ≤ 36 := by rw [HLEN.out.2.2]; exact HLEN.out.2.1.2
        obtain ⟨b20, d20, rfl⟩ := HasP.some HHz21.out (by rw [HLEN.out.2.2]; exact HLEN.out.2.1.1)
        go_loopw [15] (fun v wr => ∃ k : Nat, k ≤ z0.p.length ∧ v = .int .i64 (k : Int) ∧ Below w21.heap.size w21 wr) (fun v _ => z0.p.length - (intOf v).toNat)
        case atStart => exact ⟨0, Nat.zero_le _, rfl, Below.refl _ _⟩
        case round =>
          obtain ⟨k, hk, rfl, hbq⟩ := hrel
          have HRr22 : Hid (RasAtB wr (w1.heap.size) r0.w r0.h (some ⟨b1, d1, none⟩) r0.p.length c1 25) := Lib.hid (Box.below HRr21.out hbq (RasAtB.lt HRr21.out))
          have HHr22 : Hid (HasP wr wr.heap.size (some ⟨b1, d1, none⟩) r0.p) := Lib.hid (HHr21.out.carry hbq (Nat.le_refl _) hbq.size)
          have HRx22 : Hid (RasAtB wr (w3.heap.size) s.w s.h A3 s.p.length c3 25) := Lib.hid (Box.below HRx21.out hbq (RasAtB.lt HRx21.out))
          have HHx22 : Hid (HasP wr wr.heap.size A3 s.p) := Lib.hid (HHx21.out.carry hbq (Nat.le_refl _) hbq.size)
          have HRy22 : Hid (RasAtB wr (w6.heap.size) y0.w y0.h (some ⟨b6, d6, none⟩) y0.p.length c6 25) := Lib.hid (Box.below HRy21.out hbq (RasAtB.lt HRy21.out))
          have HHy22 : Hid (HasP wr wr.heap.size (some ⟨b6, d6, none⟩) y0.p) := Lib.hid (HHy21.out.carry hbq (Nat.le_refl _) hbq.size)
          have HRcl22 : Hid (RasAtB wr (wo.heap.size) cl.w cl.h A9 cl.p.length c9 25) := Lib.hid (Box.below HRcl21.out hbq (RasAtB.lt HRcl21.out))
          have HHcl22 : Hid (HasP wr wr.heap.size A9 cl.p) := Lib.hid (HHcl21.out.carry hbq (Nat.le_refl _) hbq.size)
          have HRz22 : Hid (RasAtB wr (w20.heap.size) z0.w z0.h (some ⟨b20, d20, none⟩) z0.p.length c20 25) := Lib.hid (Box.below HRz21.out hbq (RasAtB.lt HRz21.out))
          have HHz22 : Hid (HasP wr wr.heap.size (some ⟨b20, d20, none⟩) z0.p) := Lib.hid (HHz21.out.carry hbq (Nat.le_refl _) hbq.size)
          have HOq22 : Hid (OpAtB wr (w1.heap.size + 1) q) := Lib.hid (Box.below HOq21.out hbq (Box.lt HOq21.out))
          have HB22 := Lib.hid (HB21.out.trans (hbq.mono HB21.out.size))
          have HRT22 : Hid (RangesIn wr) := Lib.hid (HRT21.out.next hbq)
          have HBR := Lib.hid hbq
          clear hbq
          have z2 := RasAtB.c2 HRz22.out
          by_cases hlt : k < z0.p.length
          · obtain ⟨u, hu⟩ : ∃ u, z0.p[k]? = some u := ⟨_, List.getElem?_eq_getElem hlt⟩
            have hua : q.k ≠ 8 → u.a = 0 := fun e8 => covers_get HOO.out.2.2.2.2.2 (HZC.out e8) hu
            obtain ⟨lx, u0, u1, u2, u3⟩ := HasP.px HHz22.out hu
            obtain ⟨qe0, qe1, qe2, qe3, qe4⟩ := OpAtB.cs HOq22.out
            clear hu qe1 qe2 qe3 qe4
            by_cases e8 : q.k = 8
            · have e : (q.k != 8) = false := by rw [e8]; rfl
              clear hua e8
              go_wp2_with fail
              go_roundw
              case rel => exact ⟨k + 1, by omega, by go_num, HBR.out⟩
              case measure => simp [intOf]; omega
            · have e : (q.k != 8) = true := bne_iff_ne.2 e8
              rw [hua e8] at u3
              clear hua e8
              go_wp2_with fail
              go_roundw
              case rel => exact ⟨k + 1, by omega, by go_num, HBR.out⟩
              case measure => simp [intOf]; omega
          obtain rfl : k = z0.p.length := by omega
          have HE := Lib.hid (HB21.out.trans (HBR.out.mono HB21.out.size))
          have y2 := RasAtB.c2 HRy22.out
          have hee : ((y0.p.length : Int) == (z0.p.length : Int)) = true := by rw [HLEN.out.2.2]; exact beq_self_eq_true _
          clear hk hlt
          go_wp2_with fail
          go_ret
          exact ⟨rfl, HE.out⟩
theorem fnOpCover_walk (A : Option Addr) (c : Nat) (l : List UInt8) (w : World) (hR : RangesIn w) (h : Has w w.heap.size A l) (hc : l.length ≤ c) :
    Calls Tryd.prog 9 #[.slice A l.length c] w fun e w' => e = .returned (.bool true) ∧ Below w.heap.size w w' := by
  by_cases hbig : l.length ≤ 1048576
  · exact fnOpCover_small A c l w hR h hc hbig
  · have hl0 : (1048576 : Int) < (l.length : Int) := by omega
    clear h hc hbig
    go_enter Tryd.func9, Tryd.ntmps9
    go_wp2_with fail
    go_ret
    exact ⟨rfl, Below.refl _ _⟩
end Go.Proofs.YtiemlakjallphaaDoor
