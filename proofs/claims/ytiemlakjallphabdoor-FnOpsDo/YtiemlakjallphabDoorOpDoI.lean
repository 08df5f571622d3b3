/-
  OpDo of the program: the raster after an operation, or nothing. Conditions: the raster's pixels are read from memory that was there, its slice has room for them; the table of ranges reads as the program's text lays it.
-/
import Derived.Test.YtiemlakjallphabDoorStepW
import Derived.Test.YtiemlakjallphabDoorRanI
import Derived.Test.YtiemlakjallphabDoorRasI
namespace Go.Proofs.YtiemlakjallphabDoor
set_option maxRecDepth 4000
open Go.RowKit

set_option maxHeartbeats 2000000 in
theorem opDo_bad (W H : Int) (A : Option Addr) (c : Nat) (l : List Px) (o : Op) (w : World) (hR : RangesIn w) (hs : l.length ≤ 1073741824) (h : HasP w w.heap.size A l) (hbad : (rasB W H l && opB o) = false) :
    Calls Tryd.prog 27 #[rasV W H A l.length c, o.v] w (Did none w) := by
  have hb0 : Below w.heap.size w (((w.alloc (.cells #[.int .i64 W, .int .i64 H, .slice A l.length c] 30)).alloc (.cells #[.int .i64 o.k, .int .i64 o.a, .int .i64 o.b, .int .i64 o.c, .int .i64 o.d] 49)).alloc (.cells #[.int .i64 0, .int .i64 0, .slice none 0 0] 30)) := (((Below.refl _ w).alloc (Nat.le_refl _) _).alloc (by simp) _).alloc (by simp; omega) _
  have hX0 : RasAtB (((w.alloc (.cells #[.int .i64 W, .int .i64 H, .slice A l.length c] 30)).alloc (.cells #[.int .i64 o.k, .int .i64 o.a, .int .i64 o.b, .int .i64 o.c, .int .i64 o.d] 49)).alloc (.cells #[.int .i64 0, .int .i64 0, .slice none 0 0] 30)) (w.heap.size + 1 + 1) 0 0 none 0 0 30 := by
    have := Box.new ((w.alloc (.cells #[.int .i64 W, .int .i64 H, .slice A l.length c] 30)).alloc (.cells #[.int .i64 o.k, .int .i64 o.a, .int .i64 o.b, .int .i64 o.c, .int .i64 o.d] 49)) #[.int .i64 0, .int .i64 0, .slice none 0 0] 30
    rw [show ((w.alloc (.cells #[.int .i64 W, .int .i64 H, .slice A l.length c] 30)).alloc (.cells #[.int .i64 o.k, .int .i64 o.a, .int .i64 o.b, .int .i64 o.c, .int .i64 o.d] 49)).heap.size = w.heap.size + 1 + 1 from by simp] at this
    exact this
  have hO0 : OpAtB (((w.alloc (.cells #[.int .i64 W, .int .i64 H, .slice A l.length c] 30)).alloc (.cells #[.int .i64 o.k, .int .i64 o.a, .int .i64 o.b, .int .i64 o.c, .int .i64 o.d] 49)).alloc (.cells #[.int .i64 0, .int .i64 0, .slice none 0 0] 30)) (w.heap.size + 1) o := by
    refine Box.alloc ?_ _
    have := Box.new (w.alloc (.cells #[.int .i64 W, .int .i64 H, .slice A l.length c] 30)) #[.int .i64 o.k, .int .i64 o.a, .int .i64 o.b, .int .i64 o.c, .int .i64 o.d] 49
    rw [show (w.alloc (.cells #[.int .i64 W, .int .i64 H, .slice A l.length c] 30)).heap.size = w.heap.size + 1 from by simp] at this
    exact this
  have h0 := h.carry hb0 (Nat.le_refl _) hb0.size
  have CR := Lib.hid (implRasOk_any W H A c l _ hs h0)
  have hR0 := hR.below hb0 hR.1
  have CO : Hid (∀ u, RangesIn u → Calls Tryd.prog 32 #[o.v] u fun e w' => e = .returned (.bool (opB o)) ∧ Below u.heap.size u w') := Lib.hid fun u hu => implOpOk_any o u hu
  have HG : Hid (∀ w', Below w.heap.size w w' → Did none w (.returned (.tuple #[.agg #[.int .i64 0, .int .i64 0, .slice none 0 0], .bool false])) w') := Lib.hid fun w' hb => did_none w none hb rfl
  generalize Did none w = D at *
  unfold rasV at CR ⊢
  unfold Op.v at CO ⊢
  generalize rasB W H l = q1 at *
  generalize opB o = q2 at *
  have HB0 := Lib.hid hb0
  have HX0 := Lib.hid hX0
  have HO0 := Lib.hid hO0
  have HR0 := Lib.hid hR0
  clear hb0 hX0 hO0 hR0 hR h h0 hs
  go_enter Tryd.func27, Tryd.ntmps27
  go_wp2_with fail
  generalize (((w.alloc (.cells #[.int .i64 W, .int .i64 H, .slice A l.length c] 30)).alloc (.cells #[.int .i64 o.k, .int .i64 o.a, .int .i64 o.b, .int .i64 o.c, .int .i64 o.d] 49)).alloc (.cells #[.int .i64 0, .int .i64 0, .slice none 0 0] 30)) = w0 at *
  refine CR.out.mono ?_
  rintro e w1 ⟨rfl, b1⟩
  have HB1 := Lib.hid (HB0.out.trans (b1.mono HB0.out.size))
  have HX1 := Lib.hid (HX0.out.below b1 HX0.out.lt)
  have hO1 : OpAtB w1 (w.heap.size + 1) o := Box.next HO0.out b1
  have HR1 := Lib.hid (HR0.out.next b1)
  obtain ⟨c0, c1, c2, c3, c4⟩ := hO1.cs
  have r0 := HX1.out.c0
  have r1 := HX1.out.c1
  have r2 := HX1.out.c2
  have f0 := HX1.out.free 0
  have f1 := HX1.out.free 1
  have f2 := HX1.out.free 2
  clear b1 hO1
  cases q1
  · go_wp2_with fail
    (try simp only [Exit.inBlock, Exit.then])
    refine bodyPost_ret (results_row_tmp rfl _ _ (w.heap.size + 1 + 1) 30 #[.int .i64 0, .int .i64 0, .slice none 0 0] (0, 0) _ (.bool false) rfl rfl (fin_ras HX1.out _ _ _) Tryd.underlying30 rfl (by kernel_rfl)) rfl ?_
    exact HG.out _ (((HB1.out.setCell (by simp; omega) _).setCell (by simp; omega) _).setCell (by simp; omega) _)
  · obtain rfl : q2 = false := by simpa using hbad
    go_wp2_with fail
    refine (CO.out _ HR1.out).mono ?_
    rintro e w2 ⟨rfl, b2⟩
    have HB2 := Lib.hid (HB1.out.trans (b2.mono HB1.out.size))
    have HX2 := Lib.hid (HX1.out.below b2 HX1.out.lt)
    clear b2 c0 c1 c2 c3 c4 r0 r1 r2 f0 f1 f2
    have r0 := HX2.out.c0
    have r1 := HX2.out.c1
    have r2 := HX2.out.c2
    have f0 := HX2.out.free 0
    have f1 := HX2.out.free 1
    have f2 := HX2.out.free 2
    go_wp2_with fail
    (try simp only [Exit.inBlock, Exit.then])
    refine bodyPost_ret (results_row_tmp rfl _ _ (w.heap.size + 1 + 1) 30 #[.int .i64 0, .int .i64 0, .slice none 0 0] (0, 0) _ (.bool false) rfl rfl (fin_ras HX2.out _ _ _) Tryd.underlying30 rfl (by kernel_rfl)) rfl ?_
    exact HG.out _ (((HB2.out.setCell (by simp; omega) _).setCell (by simp; omega) _).setCell (by simp; omega) _)
set_option maxHeartbeats 4000000 in
theorem opDo_good (r : Ra) (A : Option Addr) (c : Nat) (o : Op) (w : World) (hr : r.ok) (ho : opB o = true) (hR : RangesIn w) (hc : r.p.length ≤ c) (h : HasP w w.heap.size A r.p) :
    Calls Tryd.prog 27 #[raV r A c, o.v] w (Did (doR r o) w) := by
  have hlen := ra_len hr
  have CR0 := implRasOk_any r.w r.h A c r.p
  have CS := Lib.hid fun v u hh hv => step_calls r A c o v u hr hc hh ho hv
  have CO := Lib.hid fun u => opStepOf_any o u ho
  unfold Did at CS
  have HG : Hid (∀ w0 A' c' w', Below w.heap.size w w0 → ((doR r o).getD ra0).p.length ≤ c' → OwnP w' w.heap.size (.slice A' ((doR r o).getD ra0).p.length c') ((doR r o).getD ra0).p → Below w.heap.size w w' → Did (doR r o) w (.returned (.tuple #[.agg #[.int .i64 (((doR r o).getD ra0).w : Int), .int .i64 (((doR r o).getD ra0).h : Int), .slice A' ((doR r o).getD ra0).p.length c'], .bool (doR r o).isSome])) w') := Lib.hid fun _ A' c' w' _ k1 k2 k3 => ⟨A', c', rfl, k1, k2, k3⟩
  generalize hD : Did (doR r o) w = D at *
  generalize doR r o = d at *
  clear hD
  obtain ⟨n, hn⟩ : ∃ n, r.p.length = n := ⟨_, rfl⟩
  have HN := Lib.hid hn
  rw [hn] at hc hlen
  unfold raV rasV
  rw [hn]
  have hb0 : Below w.heap.size w (((w.alloc (.cells #[.int .i64 (r.w : Int), .int .i64 (r.h : Int), .slice A n c] 30)).alloc (.cells #[.int .i64 o.k, .int .i64 o.a, .int .i64 o.b, .int .i64 o.c, .int .i64 o.d] 49)).alloc (.cells #[.int .i64 0, .int .i64 0, .slice none 0 0] 30)) := (((Below.refl _ w).alloc (Nat.le_refl _) _).alloc (by simp) _).alloc (by simp; omega) _
  have hX0 : RasAtB (((w.alloc (.cells #[.int .i64 (r.w : Int), .int .i64 (r.h : Int), .slice A n c] 30)).alloc (.cells #[.int .i64 o.k, .int .i64 o.a, .int .i64 o.b, .int .i64 o.c, .int .i64 o.d] 49)).alloc (.cells #[.int .i64 0, .int .i64 0, .slice none 0 0] 30)) (w.heap.size + 1 + 1) 0 0 none 0 0 30 := by
    have := Box.new ((w.alloc (.cells #[.int .i64 (r.w : Int), .int .i64 (r.h : Int), .slice A n c] 30)).alloc (.cells #[.int .i64 o.k, .int .i64 o.a, .int .i64 o.b, .int .i64 o.c, .int .i64 o.d] 49)) #[.int .i64 0, .int .i64 0, .slice none 0 0] 30
    rw [show ((w.alloc (.cells #[.int .i64 (r.w : Int), .int .i64 (r.h : Int), .slice A n c] 30)).alloc (.cells #[.int .i64 o.k, .int .i64 o.a, .int .i64 o.b, .int .i64 o.c, .int .i64 o.d] 49)).heap.size = w.heap.size + 1 + 1 from by simp] at this
    exact this
  have hO0 : OpAtB (((w.alloc (.cells #[.int .i64 (r.w : Int), .int .i64 (r.h : Int), .slice A n c] 30)).alloc (.cells #[.int .i64 o.k, .int .i64 o.a, .int .i64 o.b, .int .i64 o.c, .int .i64 o.d] 49)).alloc (.cells #[.int .i64 0, .int .i64 0, .slice none 0 0] 30)) (w.heap.size + 1) o := by
    refine Box.alloc ?_ _
    have := Box.new (w.alloc (.cells #[.int .i64 (r.w : Int), .int .i64 (r.h : Int), .slice A n c] 30)) #[.int .i64 o.k, .int .i64 o.a, .int .i64 o.b, .int .i64 o.c, .int .i64 o.d] 49
    rw [show (w.alloc (.cells #[.int .i64 (r.w : Int), .int .i64 (r.h : Int), .slice A n c] 30)).heap.size = w.heap.size + 1 from by simp] at this
    exact this
  have hr0 : RasAtB (((w.alloc (.cells #[.int .i64 (r.w : Int), .int .i64 (r.h : Int), .slice A n c] 30)).alloc (.cells #[.int .i64 o.k, .int .i64 o.a, .int .i64 o.b, .int .i64 o.c, .int .i64 o.d] 49)).alloc (.cells #[.int .i64 0, .int .i64 0, .slice none 0 0] 30)) w.heap.size (r.w : Int) (r.h : Int) A n c 30 := Box.alloc (Box.alloc (Box.new w _ _) _) _
  have h0 := h.carry hb0 (Nat.le_refl _) hb0.size
  have CR := Lib.hid (CR0 _ (by omega) h0)
  rw [show rasB r.w r.h r.p = true from hr] at CR
  have CK := Lib.hid fun u hu => implOpOk_any o u hu
  rw [ho] at CK
  unfold rasV at CR
  rw [hn] at CR
  unfold Stepped at CO
  unfold Op.v at CK CO ⊢
  have HB0 := Lib.hid hb0
  have HX0 := Lib.hid hX0
  have HO0 := Lib.hid hO0
  have Hr0 := Lib.hid hr0
  have HH0 := Lib.hid h0
  have HR0 := Lib.hid (hR.below hb0 hR.1)
  clear hb0 hX0 hO0 hr0 hR h h0 hn CR0 ho hr
  go_enter Tryd.func27, Tryd.ntmps27
  go_wp2_with fail
  generalize (((w.alloc (.cells #[.int .i64 (r.w : Int), .int .i64 (r.h : Int), .slice A n c] 30)).alloc (.cells #[.int .i64 o.k, .int .i64 o.a, .int .i64 o.b, .int .i64 o.c, .int .i64 o.d] 49)).alloc (.cells #[.int .i64 0, .int .i64 0, .slice none 0 0] 30)) = w0 at *
  refine CR.out.mono ?_
  rintro e w1 ⟨rfl, b1⟩
  have hO1 : OpAtB w1 (w.heap.size + 1) o := Box.next HO0.out b1
  obtain ⟨c0, c1, c2, c3, c4⟩ := hO1.cs
  have HB1 := Lib.hid (HB0.out.trans (b1.mono HB0.out.size))
  have HX1 := Lib.hid (HX0.out.below b1 HX0.out.lt)
  have HR1 := Lib.hid (HR0.out.next b1)
  have Hr1 := Lib.hid (Hr0.out.below b1 Hr0.out.lt)
  have HH1 := Lib.hid (HH0.out.carry b1 (Nat.le_refl _) b1.size)
  have HO1 := Lib.hid hO1
  clear b1 HB0 HX0 HR0 Hr0 HH0 HO0 hO1
  go_wp2_with fail
  refine (CK.out _ HR1.out).mono ?_
  rintro e w3 ⟨rfl, b3⟩
  have HB3 := Lib.hid (below_draws (HB1.out.trans (b3.mono HB1.out.size)) 1)
  have HX3 := Lib.hid (HX1.out.below b3 HX1.out.lt)
  have hr3 := (Hr1.out.below b3 Hr1.out.lt).drew1
  have hO3 : OpAtB w3.drew (w.heap.size + 1) o := Box.drew (Box.next HO1.out b3)
  have HH3 : Hid (HasP w3.drew w3.drew.heap.size A r.p) := Lib.hid ((HH1.out.carry b3 (Nat.le_refl _) b3.size).drewN 1)
  have HSb : Hid (∀ w', Below w3.drew.heap.size w3.drew w' → (w'.cell? ⟨w.heap.size, 0, none⟩ = some (.int .i64 (r.w : Int)) ∧ w'.cell? ⟨w.heap.size, 1, none⟩ = some (.int .i64 (r.h : Int)) ∧ w'.cell? ⟨w.heap.size, 2, none⟩ = some (.slice A n c)) ∧ OpAtB w' (w.heap.size + 1) o) := Lib.hid fun w' hb =>
    have k1 := Box.below hr3 hb hr3.lt
    ⟨⟨k1.cell rfl, k1.cell rfl, k1.cell rfl⟩, Box.next hO3 hb⟩
  have HSc : Hid (∀ w' x y z, Below w3.drew.heap.size w3.drew w' → ((((w'.setCell ⟨w.heap.size + 1 + 1, 0, none⟩ x).setCell ⟨w.heap.size + 1 + 1, 1, none⟩ y).setCell ⟨w.heap.size + 1 + 1, 2, none⟩ z).cell? ⟨w.heap.size, 0, none⟩ = some (.int .i64 (r.w : Int)) ∧ (((w'.setCell ⟨w.heap.size + 1 + 1, 0, none⟩ x).setCell ⟨w.heap.size + 1 + 1, 1, none⟩ y).setCell ⟨w.heap.size + 1 + 1, 2, none⟩ z).cell? ⟨w.heap.size, 1, none⟩ = some (.int .i64 (r.h : Int)) ∧ (((w'.setCell ⟨w.heap.size + 1 + 1, 0, none⟩ x).setCell ⟨w.heap.size + 1 + 1, 1, none⟩ y).setCell ⟨w.heap.size + 1 + 1, 2, none⟩ z).cell? ⟨w.heap.size, 2, none⟩ = some (.slice A n c)) ∧ OpAtB (((w'.setCell ⟨w.heap.size + 1 + 1, 0, none⟩ x).setCell ⟨w.heap.size + 1 + 1, 1, none⟩ y).setCell ⟨w.heap.size + 1 + 1, 2, none⟩ z) (w.heap.size + 1) o) := Lib.hid fun w' x y z hb =>
    have k1 := Box.set_other (b := w.heap.size + 1 + 1) (Box.set_other (b := w.heap.size + 1 + 1) (Box.set_other (b := w.heap.size + 1 + 1) (Box.below hr3 hb hr3.lt) (by omega) 0 x) (by omega) 1 y) (by omega) 2 z
    ⟨⟨k1.cell rfl, k1.cell rfl, k1.cell rfl⟩, Box.set_other (b := w.heap.size + 1 + 1) (Box.set_other (b := w.heap.size + 1 + 1) (Box.set_other (b := w.heap.size + 1 + 1) (Box.next hO3 hb) (by omega) 0 x) (by omega) 1 y) (by omega) 2 z⟩
  have HS0 := Lib.hid (HSb.out _ (Below.refl _ _))
  clear b3 HX1 HR1 Hr1 HH1 HO1 hr3 hO3 c0 c1 c2 c3 c4 HB1
  go_wp2_with fail
  refine wp_region_T (fun w' => (w'.cell? ⟨w.heap.size, 0, none⟩ = some (.int .i64 (r.w : Int)) ∧ w'.cell? ⟨w.heap.size, 1, none⟩ = some (.int .i64 (r.h : Int)) ∧ w'.cell? ⟨w.heap.size, 2, none⟩ = some (.slice A n c)) ∧ OpAtB w' (w.heap.size + 1) o) 7 (by kernel_rfl) ?_
  refine wpAnyT_take (i := 0) (d := 15) (v := .agg #[.int .i64 o.k, .int .i64 o.a, .int .i64 o.b, .int .i64 o.c, .int .i64 o.d]) rfl rfl (by kernel_rfl) (by kernel_rfl) (by kernel_rfl) (by kernel_rfl) (by kernel_rfl) (fun _ _ _ h => h) HS0.out (Or.inl ⟨by rfl, fun w' hS' => ?_⟩) ?_
  · obtain ⟨⟨s0, s1, s2⟩, s3⟩ := hS'
    obtain ⟨t0, t1, t2, t3, t4⟩ := s3.cs
    go_simp
  simp only [Act.put, List.setIfInBounds_toArray, List.set_cons_zero, List.set_cons_succ]
  refine wpAnyT_take (i := 2) (d := 17) (v := .agg #[.int .i64 (r.w : Int), .int .i64 (r.h : Int), .slice A n c]) rfl rfl (by kernel_rfl) (by kernel_rfl) (by kernel_rfl) (by kernel_rfl) (by kernel_rfl) (fun _ _ _ h => h) HS0.out (Or.inl ⟨by rfl, fun w' hS' => ?_⟩) ?_
  · obtain ⟨⟨s0, s1, s2⟩, s3⟩ := hS'
    obtain ⟨t0, t1, t2, t3, t4⟩ := s3.cs
    go_simp
  simp only [Act.put, List.setIfInBounds_toArray, List.set_cons_zero, List.set_cons_succ]
  refine wpAnyT_one (i := 1) (by kernel_rfl) rfl (fun K hK => ?_)
  go_simp
  refine (CO.out _).mono ?_
  rintro e w4 ⟨v, rfl, hv, b4⟩
  have hh4 := HH3.out.carry b4 (Nat.le_refl _) b4.size
  obtain ⟨F, caps, rfl, hF, hC⟩ := CS.out v w4 hh4 hv
  refine hK.out _ _ (fun _ => HSb.out _ b4) ?_
  clear hK
  try simp only [Act.put, List.setIfInBounds_toArray, List.set_cons_zero, List.set_cons_succ]
  refine wpAnyT_one (i := 3) (by kernel_rfl) rfl (fun K hK => ?_)
  go_simp
  unfold raV rasV at hC
  rw [HN.out] at hC
  refine hC.mono ?_
  rintro e w5 ⟨A5, c5, rfl, hc5, ho5, b5⟩
  have B45 := b4.trans (b5.mono b4.size)
  refine hK.out _ _ (fun _ => HSb.out _ B45) ?_
  clear hK
  try simp only [Act.put, List.setIfInBounds_toArray, List.set_cons_zero, List.set_cons_succ]
  refine wpAnyT_take (i := 4) (d := 19) (v := .agg #[.int .i64 ((d.getD ra0).w : Int), .int .i64 ((d.getD ra0).h : Int), .slice A5 (d.getD ra0).p.length c5]) rfl rfl (by kernel_rfl) (by kernel_rfl) (by kernel_rfl) (by kernel_rfl) (by kernel_rfl) (fun _ _ _ h => h) (HSb.out _ B45) (Or.inl ⟨by rfl, fun w' hS' => ?_⟩) ?_
  · obtain ⟨⟨s0, s1, s2⟩, s3⟩ := hS'
    obtain ⟨t0, t1, t2, t3, t4⟩ := s3.cs
    go_simp
  simp only [Act.put, List.setIfInBounds_toArray, List.set_cons_zero, List.set_cons_succ]
  refine wpAnyT_take (i := 5) (d := 20) (v := .bool d.isSome) rfl rfl (by kernel_rfl) (by kernel_rfl) (by kernel_rfl) (by kernel_rfl) (by kernel_rfl) (fun _ _ _ h => h) (HSb.out _ B45) (Or.inl ⟨by rfl, fun w' hS' => ?_⟩) ?_
  · obtain ⟨⟨s0, s1, s2⟩, s3⟩ := hS'
    obtain ⟨t0, t1, t2, t3, t4⟩ := s3.cs
    go_simp
  simp only [Act.put, List.setIfInBounds_toArray, List.set_cons_zero, List.set_cons_succ]
  refine wpAnyT_one (i := 6) (by kernel_rfl) rfl (fun K hK => ?_)
  have HXn : Hid (RasAtB w5 (w.heap.size + 1 + 1) 0 0 none 0 0 30) := Lib.hid (Box.below HX3.out.drew1 B45 HX3.out.drew1.lt)
  have q0 := HXn.out.c0
  have q1 := HXn.out.c1
  have q2 := HXn.out.c2
  have f0 := HXn.out.free 0
  have f1 := HXn.out.free 1
  have f2 := HXn.out.free 2
  go_simp
  refine hK.out _ _ (fun _ => HSc.out _ _ _ _ B45) ?_
  clear hK
  try simp only [Act.put, List.setIfInBounds_toArray, List.set_cons_zero, List.set_cons_succ]
  refine wpAnyT_one (i := 7) (by kernel_rfl) rfl (fun K hK => ?_)
  go_simp
  refine hK.out _ _ last_out ?_
  clear hK
  refine wpAnyT_done (by kernel_rfl) ?_ _
  have HF := Lib.hid (fin_ras HXn.out (.int .i64 ((d.getD ra0).w : Int)) (.int .i64 ((d.getD ra0).h : Int)) (.slice A5 (d.getD ra0).p.length c5))
  have hz : w.heap.size + 1 + 1 < w3.drew.heap.size := HX3.out.drew1.lt
  have ho6 := ((ho5.set_low (b := w.heap.size + 1 + 1) (by have := b4.size; omega) 0 (.int .i64 ((d.getD ra0).w : Int))).set_low (b := w.heap.size + 1 + 1) (by have := b4.size; omega) 1 (.int .i64 ((d.getD ra0).h : Int))).set_low (b := w.heap.size + 1 + 1) (by have := b4.size; omega) 2 (.slice A5 (d.getD ra0).p.length c5)
  have hb6 := (((HB3.out.trans (B45.mono HB3.out.size)).setCell (p := ⟨w.heap.size + 1 + 1, 0, none⟩) (by simp; omega) (.int .i64 ((d.getD ra0).w : Int))).setCell (p := ⟨w.heap.size + 1 + 1, 1, none⟩) (by simp; omega) (.int .i64 ((d.getD ra0).h : Int))).setCell (p := ⟨w.heap.size + 1 + 1, 2, none⟩) (by simp; omega) (.slice A5 (d.getD ra0).p.length c5)
  have HE := Lib.hid (HG.out w A5 c5 _ (Below.refl _ _) hc5 (ho6.lower (by have := HB3.out.size; have := b4.size; omega)) hb6)
  clear HG ho5 b4 b5 B45 hv hc5 ho6 hb6 q0 q1 q2 f0 f1 f2
  go_wp2_with fail
  (try simp only [Exit.inBlock, Exit.then])
  refine bodyPost_ret (results_row_tmp rfl _ _ (w.heap.size + 1 + 1) 30 #[.int .i64 ((d.getD ra0).w : Int), .int .i64 ((d.getD ra0).h : Int), .slice A5 (d.getD ra0).p.length c5] (0, 0) _ (.bool d.isSome) rfl rfl HF.out Tryd.underlying30 rfl (by kernel_rfl)) rfl ?_
  exact HE.out
end Go.Proofs.YtiemlakjallphabDoor
