/-
  OpDo of the reference answers what the plain model says, for any raster and operation. Conditions as they stand.
-/
import Derived.Test.YtiemlakjallphaaDoorRefB
namespace Go.Proofs.YtiemlakjallphaaDoor
set_option maxRecDepth 4000
open Go.RowKit

set_option maxHeartbeats 2000000 in
theorem specOpDo_bad (W H : Int) (A : Option Addr) (c : Nat) (l : List Px) (o : Op) (w : World) (hs : l.length ≤ 1073741824) (h : HasP w w.heap.size A l) (hbad : (rasB W H l && opB o) = false) :
    Calls Tryd.prog 13 #[rasV W H A l.length c, o.v] w (Did none w) := by
  have hb0 : Below w.heap.size w (((w.alloc (.cells #[.int .i64 W, .int .i64 H, .slice A l.length c] 25)).alloc (.cells #[.int .i64 o.k, .int .i64 o.a, .int .i64 o.b, .int .i64 o.c, .int .i64 o.d] 27)).alloc (.cells #[.int .i64 0, .int .i64 0, .slice none 0 0] 25)) := (((Below.refl _ w).alloc (Nat.le_refl _) _).alloc (by simp) _).alloc (by simp; omega) _
  have hX0 : RasAtB (((w.alloc (.cells #[.int .i64 W, .int .i64 H, .slice A l.length c] 25)).alloc (.cells #[.int .i64 o.k, .int .i64 o.a, .int .i64 o.b, .int .i64 o.c, .int .i64 o.d] 27)).alloc (.cells #[.int .i64 0, .int .i64 0, .slice none 0 0] 25)) (w.heap.size + 1 + 1) 0 0 none 0 0 25 := by
    have := Box.new ((w.alloc (.cells #[.int .i64 W, .int .i64 H, .slice A l.length c] 25)).alloc (.cells #[.int .i64 o.k, .int .i64 o.a, .int .i64 o.b, .int .i64 o.c, .int .i64 o.d] 27)) #[.int .i64 0, .int .i64 0, .slice none 0 0] 25
    rw [show ((w.alloc (.cells #[.int .i64 W, .int .i64 H, .slice A l.length c] 25)).alloc (.cells #[.int .i64 o.k, .int .i64 o.a, .int .i64 o.b, .int .i64 o.c, .int .i64 o.d] 27)).heap.size = w.heap.size + 1 + 1 from by simp] at this
    exact this
  have hO0 : OpAtB (((w.alloc (.cells #[.int .i64 W, .int .i64 H, .slice A l.length c] 25)).alloc (.cells #[.int .i64 o.k, .int .i64 o.a, .int .i64 o.b, .int .i64 o.c, .int .i64 o.d] 27)).alloc (.cells #[.int .i64 0, .int .i64 0, .slice none 0 0] 25)) (w.heap.size + 1) o := by
    refine Box.alloc ?_ _
    have := Box.new (w.alloc (.cells #[.int .i64 W, .int .i64 H, .slice A l.length c] 25)) #[.int .i64 o.k, .int .i64 o.a, .int .i64 o.b, .int .i64 o.c, .int .i64 o.d] 27
    rw [show (w.alloc (.cells #[.int .i64 W, .int .i64 H, .slice A l.length c] 25)).heap.size = w.heap.size + 1 from by simp] at this
    exact this
  have h0 := h.carry hb0 (Nat.le_refl _) hb0.size
  have CR := Lib.hid (specRasOk_any W H A c l _ hs h0)
  have CO : Hid (∀ u, Calls Tryd.prog 16 #[o.v] u fun e w' => e = .returned (.bool (opB o)) ∧ Below u.heap.size u w') := Lib.hid fun u => specOpOk_any o u
  have HG : Hid (∀ w', Below w.heap.size w w' → Did none w (.returned (.tuple #[.agg #[.int .i64 0, .int .i64 0, .slice none 0 0], .bool false])) w') := Lib.hid fun w' hb => did_none w none hb rfl
  generalize Did none w = D at *
  unfold rasV at CR ⊢
  unfold Op.v at CO ⊢
  generalize rasB W H l = q1 at *
  generalize opB o = q2 at *
  have HB0 := Lib.hid hb0
  have HX0 := Lib.hid hX0
  have HO0 := Lib.hid hO0
  clear hb0 hX0 hO0 h h0 hs
  go_enter Tryd.func13, Tryd.ntmps13
  go_wp2_with fail
  generalize (((w.alloc (.cells #[.int .i64 W, .int .i64 H, .slice A l.length c] 25)).alloc (.cells #[.int .i64 o.k, .int .i64 o.a, .int .i64 o.b, .int .i64 o.c, .int .i64 o.d] 27)).alloc (.cells #[.int .i64 0, .int .i64 0, .slice none 0 0] 25)) = w0 at *
  refine CR.out.mono ?_
  rintro e w1 ⟨rfl, b1⟩
  have HB1 := Lib.hid (HB0.out.trans (b1.mono HB0.out.size))
  have HX1 := Lib.hid (HX0.out.below b1 HX0.out.lt)
  have hO1 : OpAtB w1 (w.heap.size + 1) o := Box.next HO0.out b1
  obtain ⟨c0, c1, c2, c3, c4⟩ := hO1.cs
  clear b1 hO1
  cases q1
  · clear hbad
    have r0 := HX1.out.c0
    have r1 := HX1.out.c1
    have r2 := HX1.out.c2
    have f0 := HX1.out.free 0
    have f1 := HX1.out.free 1
    have f2 := HX1.out.free 2
    go_wp2_with fail
    (try simp only [Exit.inBlock, Exit.then])
    refine bodyPost_ret (results_row_tmp rfl _ _ (w.heap.size + 1 + 1) 25 #[.int .i64 0, .int .i64 0, .slice none 0 0] (0, 0) _ (.bool false) rfl rfl (fin_ras HX1.out _ _ _) Tryd.underlying25 rfl (by kernel_rfl)) rfl ?_
    exact HG.out _ (((HB1.out.setCell (by simp; omega) _).setCell (by simp; omega) _).setCell (by simp; omega) _)
  · obtain rfl : q2 = false := by simpa using hbad
    go_wp2_with fail
    refine (CO.out _).mono ?_
    rintro e w2 ⟨rfl, b2⟩
    have HB2 := Lib.hid (HB1.out.trans (b2.mono HB1.out.size))
    have HX2 := Lib.hid (HX1.out.below b2 HX1.out.lt)
    clear b2 c0 c1 c2 c3 c4
    have r0 := HX2.out.c0
    have r1 := HX2.out.c1
    have r2 := HX2.out.c2
    have f0 := HX2.out.free 0
    have f1 := HX2.out.free 1
    have f2 := HX2.out.free 2
    go_wp2_with fail
    (try simp only [Exit.inBlock, Exit.then])
    refine bodyPost_ret (results_row_tmp rfl _ _ (w.heap.size + 1 + 1) 25 #[.int .i64 0, .int .i64 0, .slice none 0 0] (0, 0) _ (.bool false) rfl rfl (fin_ras HX2.out _ _ _) Tryd.underlying25 rfl (by kernel_rfl)) rfl ?_
    exact HG.out _ (((HB2.out.setCell (by simp; omega) _).setCell (by simp; omega) _).setCell (by simp; omega) _)
set_option maxHeartbeats 4000000 in
theorem specOpDo_good (r : Ra) (A : Option Addr) (c : Nat) (o : Op) (w : World) (hr : r.ok) (ho : opB o = true) (hc : r.p.length ≤ c) (h : HasP w w.heap.size A r.p) :
    Calls Tryd.prog 13 #[raV r A c, o.v] w (Did (doR r o) w) := by
  have hlen := ra_len hr
  have CR0 := specRasOk_any r.w r.h A c r.p
  have CD := Lib.hid fun u hh => l6Do_any r A c o u hr ho hc hh
  unfold Did at CD
  have HG : Hid (∀ A' c' w', ((doR r o).getD ra0).p.length ≤ c' → OwnP w' w.heap.size (.slice A' ((doR r o).getD ra0).p.length c') ((doR r o).getD ra0).p → Below w.heap.size w w' → Did (doR r o) w (.returned (.tuple #[.agg #[.int .i64 (((doR r o).getD ra0).w : Int), .int .i64 (((doR r o).getD ra0).h : Int), .slice A' ((doR r o).getD ra0).p.length c'], .bool (doR r o).isSome])) w') := Lib.hid fun A' c' w' k1 k2 k3 => ⟨A', c', rfl, k1, k2, k3⟩
  generalize hD : Did (doR r o) w = D at *
  generalize doR r o = d at *
  clear hD
  obtain ⟨n, hn⟩ : ∃ n, r.p.length = n := ⟨_, rfl⟩
  rw [hn] at hlen
  unfold raV rasV
  rw [hn]
  have hb0 : Below w.heap.size w (((w.alloc (.cells #[.int .i64 (r.w : Int), .int .i64 (r.h : Int), .slice A n c] 25)).alloc (.cells #[.int .i64 o.k, .int .i64 o.a, .int .i64 o.b, .int .i64 o.c, .int .i64 o.d] 27)).alloc (.cells #[.int .i64 0, .int .i64 0, .slice none 0 0] 25)) := (((Below.refl _ w).alloc (Nat.le_refl _) _).alloc (by simp) _).alloc (by simp; omega) _
  have hX0 : RasAtB (((w.alloc (.cells #[.int .i64 (r.w : Int), .int .i64 (r.h : Int), .slice A n c] 25)).alloc (.cells #[.int .i64 o.k, .int .i64 o.a, .int .i64 o.b, .int .i64 o.c, .int .i64 o.d] 27)).alloc (.cells #[.int .i64 0, .int .i64 0, .slice none 0 0] 25)) (w.heap.size + 1 + 1) 0 0 none 0 0 25 := by
    have := Box.new ((w.alloc (.cells #[.int .i64 (r.w : Int), .int .i64 (r.h : Int), .slice A n c] 25)).alloc (.cells #[.int .i64 o.k, .int .i64 o.a, .int .i64 o.b, .int .i64 o.c, .int .i64 o.d] 27)) #[.int .i64 0, .int .i64 0, .slice none 0 0] 25
    rw [show ((w.alloc (.cells #[.int .i64 (r.w : Int), .int .i64 (r.h : Int), .slice A n c] 25)).alloc (.cells #[.int .i64 o.k, .int .i64 o.a, .int .i64 o.b, .int .i64 o.c, .int .i64 o.d] 27)).heap.size = w.heap.size + 1 + 1 from by simp] at this
    exact this
  have hO0 : OpAtB (((w.alloc (.cells #[.int .i64 (r.w : Int), .int .i64 (r.h : Int), .slice A n c] 25)).alloc (.cells #[.int .i64 o.k, .int .i64 o.a, .int .i64 o.b, .int .i64 o.c, .int .i64 o.d] 27)).alloc (.cells #[.int .i64 0, .int .i64 0, .slice none 0 0] 25)) (w.heap.size + 1) o := by
    refine Box.alloc ?_ _
    have := Box.new (w.alloc (.cells #[.int .i64 (r.w : Int), .int .i64 (r.h : Int), .slice A n c] 25)) #[.int .i64 o.k, .int .i64 o.a, .int .i64 o.b, .int .i64 o.c, .int .i64 o.d] 27
    rw [show (w.alloc (.cells #[.int .i64 (r.w : Int), .int .i64 (r.h : Int), .slice A n c] 25)).heap.size = w.heap.size + 1 from by simp] at this
    exact this
  have hr0 : RasAtB (((w.alloc (.cells #[.int .i64 (r.w : Int), .int .i64 (r.h : Int), .slice A n c] 25)).alloc (.cells #[.int .i64 o.k, .int .i64 o.a, .int .i64 o.b, .int .i64 o.c, .int .i64 o.d] 27)).alloc (.cells #[.int .i64 0, .int .i64 0, .slice none 0 0] 25)) w.heap.size (r.w : Int) (r.h : Int) A n c 25 := Box.alloc (Box.alloc (Box.new w _ _) _) _
  have h0 := h.carry hb0 (Nat.le_refl _) hb0.size
  have CR := Lib.hid (CR0 _ (by omega) h0)
  rw [show rasB r.w r.h r.p = true from hr] at CR
  have CK := Lib.hid fun u => specOpOk_any o u
  rw [ho] at CK
  unfold rasV at CR
  unfold raV rasV at CD
  rw [hn] at CR CD
  unfold Op.v at CK CD ⊢
  have HB0 := Lib.hid hb0
  have HX0 := Lib.hid hX0
  have HO0 := Lib.hid hO0
  have Hr0 := Lib.hid hr0
  have HH0 := Lib.hid h0
  clear hb0 hX0 hO0 hr0 h h0 hn CR0 ho hr hc hlen
  go_enter Tryd.func13, Tryd.ntmps13
  go_wp2_with fail
  generalize (((w.alloc (.cells #[.int .i64 (r.w : Int), .int .i64 (r.h : Int), .slice A n c] 25)).alloc (.cells #[.int .i64 o.k, .int .i64 o.a, .int .i64 o.b, .int .i64 o.c, .int .i64 o.d] 27)).alloc (.cells #[.int .i64 0, .int .i64 0, .slice none 0 0] 25)) = w0 at *
  refine CR.out.mono ?_
  rintro e w1 ⟨rfl, b1⟩
  have hO1 : OpAtB w1 (w.heap.size + 1) o := Box.next HO0.out b1
  obtain ⟨c0, c1, c2, c3, c4⟩ := hO1.cs
  have HB1 := Lib.hid (HB0.out.trans (b1.mono HB0.out.size))
  have HX1 := Lib.hid (HX0.out.below b1 HX0.out.lt)
  have Hr1 := Lib.hid (Hr0.out.below b1 Hr0.out.lt)
  have HH1 := Lib.hid (HH0.out.carry b1 (Nat.le_refl _) b1.size)
  have HO1 := Lib.hid hO1
  clear b1 HB0 HX0 Hr0 HH0 HO0 hO1
  go_wp2_with fail
  refine (CK.out _).mono ?_
  rintro e w2 ⟨rfl, b2⟩
  have hO2 : OpAtB w2 (w.heap.size + 1) o := Box.next HO1.out b2
  have HB2 := Lib.hid (HB1.out.trans (b2.mono HB1.out.size))
  have HX2 := Lib.hid (HX1.out.below b2 HX1.out.lt)
  have Hr2 := Lib.hid (Hr1.out.below b2 Hr1.out.lt)
  have HH2 := Lib.hid (HH1.out.carry b2 (Nat.le_refl _) b2.size)
  clear b2 c0 c1 c2 c3 c4 HB1 HX1 Hr1 HH1 HO1
  obtain ⟨c0, c1, c2, c3, c4⟩ := hO2.cs
  have x0 := Hr2.out.c0
  have x1 := Hr2.out.c1
  have x2 := Hr2.out.c2
  clear hO2
  go_wp2_with fail
  refine (CD.out _ HH2.out).mono ?_
  rintro e w3 ⟨A2, d2, rfl, hc2, ho2, b3⟩
  have HXn := Lib.hid (HX2.out.below b3 HX2.out.lt)
  have HBn := Lib.hid (HB2.out.trans (b3.mono HB2.out.size))
  have hzlt : w.heap.size + 1 + 1 < w2.heap.size := HX2.out.lt
  have HOn := Lib.hid (((ho2.set_low (b := w.heap.size + 1 + 1) hzlt 0 (.int .i64 ((d.getD ra0).w : Int))).set_low (b := w.heap.size + 1 + 1) hzlt 1 (.int .i64 ((d.getD ra0).h : Int))).set_low (b := w.heap.size + 1 + 1) hzlt 2 (.slice A2 (d.getD ra0).p.length d2))
  have hz : w.heap.size ≤ w2.heap.size := HB2.out.size
  clear b3 ho2 x0 x1 x2 c0 c1 c2 c3 c4
  have q0 := HXn.out.c0
  have q1 := HXn.out.c1
  have q2 := HXn.out.c2
  have f0 := HXn.out.free 0
  have f1 := HXn.out.free 1
  have f2 := HXn.out.free 2
  try unfold raV rasV
  go_wp2_with fail
  (try simp only [Exit.inBlock, Exit.then])
  refine bodyPost_ret (results_row_tmp rfl _ _ (w.heap.size + 1 + 1) 25 #[.int .i64 ((d.getD ra0).w : Int), .int .i64 ((d.getD ra0).h : Int), .slice A2 (d.getD ra0).p.length d2] (0, 0) _ (.bool d.isSome) rfl rfl (fin_ras HXn.out _ _ _) Tryd.underlying25 rfl (by kernel_rfl)) rfl ?_
  exact HG.out _ _ _ hc2 (HOn.out.lower hz) (((HBn.out.setCell (by simp; omega) _).setCell (by simp; omega) _).setCell (by simp; omega) _)
/-- OpDo of the reference and of the program put the same. -/
def putO (W H : Int) (l : List Px) (o : Op) : Option Ra := if rasB W H l && opB o then doR ⟨W.toNat, H.toNat, l⟩ o else none
theorem raV_of {W H : Int} {l : List Px} (h : rasB W H l = true) (A : Option Addr) (c : Nat) : raV ⟨W.toNat, H.toNat, l⟩ A c = rasV W H A l.length c := by
  obtain ⟨h1, h2, -, -⟩ := rasB_parts h
  unfold raV
  simp only [Int.toNat_of_nonneg (show 0 ≤ W by omega), Int.toNat_of_nonneg (show 0 ≤ H by omega)]
theorem ok_of {W H : Int} {l : List Px} (h : rasB W H l = true) : Ra.ok ⟨W.toNat, H.toNat, l⟩ := by
  obtain ⟨h1, h2, -, -⟩ := rasB_parts h
  unfold Ra.ok
  simp only [Int.toNat_of_nonneg (show 0 ≤ W by omega), Int.toNat_of_nonneg (show 0 ≤ H by omega)]
  exact h
theorem specOpDo_any (W H : Int) (A : Option Addr) (c : Nat) (l : List Px) (o : Op) (w : World) (hs : l.length ≤ 1073741824) (hc : l.length ≤ c) (h : HasP w w.heap.size A l) :
    Calls Tryd.prog 13 #[rasV W H A l.length c, o.v] w (Did (putO W H l o) w) := by
  unfold putO
  cases hq : (rasB W H l && opB o)
  · exact specOpDo_bad W H A c l o w hs h hq
  · obtain ⟨h1, h2⟩ := Bool.and_eq_true_iff.1 hq
    have := specOpDo_good ⟨W.toNat, H.toNat, l⟩ A c o w (ok_of h1) h2 hc h
    rw [raV_of h1] at this
    exact this
end Go.Proofs.YtiemlakjallphaaDoor
