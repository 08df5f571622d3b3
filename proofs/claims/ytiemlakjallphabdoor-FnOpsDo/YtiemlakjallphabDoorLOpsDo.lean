/-
  The law FnOpsDo returns true for every list of bytes to draw from. Condition: the table of ranges reads as the program's text lays it.
-/
import Derived.Test.YtiemlakjallphabDoorRanL
import Derived.Test.YtiemlakjallphabDoorLOpsDoP
import Derived.Test.YtiemlakjallphabDoorDrOpsD
import Derived.Test.YtiemlakjallphabDoorEaRas
import Derived.Test.YtiemlakjallphabDoorEaOk
namespace Go.Proofs.YtiemlakjallphabDoor
set_option maxRecDepth 4000
open Go.RowKit

/-- A raster as it was drawn, good or not. -/
structure Rw where
  w : Int
  h : Int
  p : List Px
theorem puts_small {W H : Int} {l : List Px} {ls : List Op} : ((putsO W H l ls).getD ra0).p.length ≤ 36 := by
  unfold putsO
  cases hq : (rasB W H l && opsB ls)
  · exact Nat.zero_le _
  · obtain ⟨h1, h2⟩ := Bool.and_eq_true_iff.1 hq
    obtain ⟨g1, g2, -, -⟩ := rasB_parts h1
    obtain ⟨r, e1, e2, e3⟩ : ∃ r : Ra, W = (r.w : Int) ∧ H = (r.h : Int) ∧ l = r.p := ⟨⟨W.toNat, H.toNat, l⟩, by simp only; omega, by simp only; omega, rfl⟩
    subst e1 e2 e3
    have hok : r.ok := h1
    rw [if_pos rfl]
    show ((opsR r ls).getD ra0).p.length ≤ 36
    cases hd : opsR r ls with
    | none => exact Nat.zero_le _
    | some s =>
      unfold opsB at h2
      exact (ra_len (opsR_ok hok (Bool.and_eq_true_iff.1 h2).1 hd)).2
theorem puts_some {W H : Int} {l : List Px} {ls : List Op} {s : Ra} (h : putsO W H l ls = some s) : ∃ r : Ra, W = (r.w : Int) ∧ H = (r.h : Int) ∧ l = r.p ∧ r.ok ∧ opsB ls = true ∧ opsR r ls = some s ∧ s.ok := by
  unfold putsO at h
  cases hq : (rasB W H l && opsB ls)
  · rw [hq] at h
    cases h
  · rw [hq, if_pos rfl] at h
    obtain ⟨h1, h2⟩ := Bool.and_eq_true_iff.1 hq
    obtain ⟨g1, g2, -, -⟩ := rasB_parts h1
    obtain ⟨r, e1, e2, e3⟩ : ∃ r : Ra, W = (r.w : Int) ∧ H = (r.h : Int) ∧ l = r.p := ⟨⟨W.toNat, H.toNat, l⟩, by simp only; omega, by simp only; omega, rfl⟩
    subst e1 e2 e3
    have hok : r.ok := h1
    have h2' := h2
    unfold opsB at h2'
    exact ⟨r, rfl, rfl, rfl, hok, h2, h, opsR_ok hok (Bool.and_eq_true_iff.1 h2').1 h⟩
theorem opsR_must {r rk s : Ra} {ls : List Op} {k : Nat} {x : Op} (hx : ls[k]? = some x) (hk : opsR r (ls.take k) = some rk) (h : opsR r ls = some s) : ∃ t, doR rk x = some t := by
  cases hd : doR rk x with
  | some t => exact ⟨t, rfl⟩
  | none => rw [opsR_none hx hk hd] at h; cases h
theorem opsR_halves {r s : Ra} {ls : List Op} (m : Nat) (h : opsR r ls = some s) : ∃ a, opsR r (ls.take m) = some a ∧ opsR a (ls.drop m) = some s := by
  rw [← List.take_append_drop m ls, opsR_append] at h
  exact Option.bind_eq_some_iff.1 h
theorem opsB_part {ls lt : List Op} (h : opsB ls = true) (hl : lt.length ≤ ls.length) (hm : ∀ x, x ∈ lt → x ∈ ls) : opsB lt = true := by
  unfold opsB at h ⊢
  obtain ⟨h1, h2⟩ := Bool.and_eq_true_iff.1 h
  have h2 := of_decide_eq_true h2
  rw [List.all_eq_true] at h1
  rw [Bool.and_eq_true, List.all_eq_true]
  exact ⟨fun x hx => h1 x (hm x hx), decide_eq_true (by omega)⟩
theorem own_ne {w : World} {base g : Nat} {A : Option Addr} {n c : Nat} {l : List Px} (h : OwnP w base (.slice A n c) l) (hg : g < base) : ∀ b o, A = some ⟨b, o, none⟩ → b ≠ g := fun b o e => by
  subst e
  rcases h.2 with ⟨e, -⟩ | ⟨g', cap, cur, e, hb, -⟩
  · cases e
  · injection e with e _ _
    injection e with e
    injection e with e1 _ _
    omega
set_option maxHeartbeats 8000000 in
theorem fnOpsDo_small (A : Option Addr) (c : Nat) (l : List UInt8) (w : World) (hR : RangesIn w) (h : Has w w.heap.size A l) (hc : l.length ≤ c) (hs : l.length ≤ 1048576) :
    Calls Tryd.prog 5 #[.slice A l.length c] w fun e w' => e = .returned (.bool true) ∧ Below w.heap.size w w' := by
  have C1 := Lib.hid (drawOpsDo_any A c l w (by omega) hc h)
  have HRW := Lib.hid hR
  have hl0 : ¬ ((1048576 : Int) < (l.length : Int)) := by omega
  clear h hs hc hR
  go_enter Tryd.func5, Tryd.ntmps5
  go_wp2_with fail
  refine C1.out.mono ?_
  rintro e w1 ⟨W, H, A1, c1, l1, ql, lc, ls, rfl, hh1, hc1, hl1, hL1, hlc, hl6, B1⟩
  obtain ⟨r, rfl, rfl, rfl⟩ : ∃ r : Rw, W = r.w ∧ H = r.h ∧ l1 = r.p := ⟨⟨W, H, l1⟩, rfl, rfl, rfl⟩
  obtain ⟨d, hd⟩ : ∃ d, putsO r.w r.h r.p ls = d := ⟨_, rfl⟩
  have HD := Lib.hid hd
  have HL := Lib.hid hl1
  have HXS : Hid ((d.getD ra0).p.length ≤ 36) := Lib.hid (by rw [← hd]; exact puts_small)
  have HLS := Lib.hid fun u hb => hL1.carry (w' := u) hb (Nat.le_refl _) hb.size
  obtain ⟨N, hN⟩ : ∃ N, ls.length = N := ⟨_, rfl⟩
  have HN := Lib.hid hN
  rw [hN] at hlc hl6 ⊢
  unfold rasV
  have b2 : Below w1.heap.size w1 (w1.alloc (.cells #[.int .i64 r.w, .int .i64 r.h, .slice A1 r.p.length c1] 30)) := (Below.refl _ w1).alloc (Nat.le_refl _) _
  have HRr2 : Hid (RasAtB (w1.alloc (.cells #[.int .i64 r.w, .int .i64 r.h, .slice A1 r.p.length c1] 30)) w1.heap.size r.w r.h A1 r.p.length c1 30) := Lib.hid (Box.new w1 _ _)
  have HHr2 := Lib.hid (hh1.carry b2 (Nat.le_refl _) b2.size)
  have HB2 := Lib.hid (B1.trans (b2.mono B1.size))
  have HRT2 := Lib.hid (HRW.out.below HB2.out HRW.out.1)
  have HMl2 := Lib.hid b2
  have HLC := Lib.hid (And.intro hlc hl6)
  have hsn : (d.isSome != d.isSome) = false := bne_self_eq_false _
  clear b2 hh1 B1 C1 hd hl1 hL1 hN hlc hl6
  go_wp2_with fail
  generalize (w1.alloc (.cells #[.int .i64 r.w, .int .i64 r.h, .slice A1 r.p.length c1] 30)) = w2 at *
  have rc0 := RasAtB.c0 HRr2.out
  have rc1 := RasAtB.c1 HRr2.out
  have rc2 := RasAtB.c2 HRr2.out
  have CE3 : Hid (Calls Tryd.prog 15 #[.agg #[.int .i64 r.w, .int .i64 r.h, .slice A1 r.p.length c1], .slice (some ⟨ql, 0, none⟩) N lc] w2 (Did d w2)) := Lib.hid (by
    have bbel : Below w2.heap.size w2 w2 := (Below.refl w2.heap.size w2)
    have bl1 : Below w1.heap.size w1 w2 := HMl2.out.trans (bbel.mono HMl2.out.size)
    have := implOpsDo_any r.w r.h A1 c1 r.p (some ⟨ql, 0, none⟩) lc ls (w2) (HRT2.out.next bbel) (by have := HL.out; omega) (by rw [HN.out]; have := HLC.out; omega) hc1 (HHr2.out.carry bbel (Nat.le_refl _) bbel.size) (HLS.out _ bl1)
    rw [HD.out, HN.out] at this
    exact this)
  unfold Did at CE3
  go_wp2_with fail
  refine CE3.out.mono ?_
  rintro e w3 ⟨A3, c3, rfl, hc3, hh3, b3⟩
  clear CE3
  clear rc0 rc1 rc2
  obtain ⟨x, hx⟩ : ∃ s, d.getD ra0 = s := ⟨_, rfl⟩
  have hh3 := hh3.reads
  rw [hx] at hc3 hh3 ⊢
  have HEx := Lib.hid hx
  clear hx
  have bc3 : Below w2.heap.size w2 w3 := ((Below.refl w2.heap.size w2)).trans (b3.mono ((Below.refl w2.heap.size w2)).size)
  have HRr3 : Hid (RasAtB w3 (w1.heap.size) r.w r.h A1 r.p.length c1 30) := Lib.hid (Box.below HRr2.out bc3 (RasAtB.lt HRr2.out))
  have HHr3 : Hid (HasP w3 w3.heap.size A1 r.p) := Lib.hid (HHr2.out.carry bc3 (Nat.le_refl _) bc3.size)
  have HB3 := Lib.hid (HB2.out.trans (bc3.mono HB2.out.size))
  have HRT3 : Hid (RangesIn w3) := Lib.hid (HRT2.out.next bc3)
  have HMl3 := Lib.hid (HMl2.out.trans (bc3.mono HMl2.out.size))
  clear HRr2 HHr2 HB2 HRT2 HMl2
  clear bc3
  have HHx3 : Hid (HasP w3 w3.heap.size A3 x.p) := Lib.hid hh3
  clear hh3 b3
  have HRx3 : Hid (RasAtB (w3.alloc (.cells #[.int .i64 (x.w : Int), .int .i64 (x.h : Int), .slice A3 x.p.length c3] 30)) (w3.heap.size) x.w x.h A3 x.p.length c3 30) := Lib.hid (Box.new w3 _ _)
  have rc0 := RasAtB.c0 HRr3.out
  have rc1 := RasAtB.c1 HRr3.out
  have rc2 := RasAtB.c2 HRr3.out
  have rn0 : w1.heap.size < w3.heap.size := by have := RasAtB.lt HRr3.out; omega
  have CE4 : Hid (Calls Tryd.prog 12 #[.agg #[.int .i64 r.w, .int .i64 r.h, .slice A1 r.p.length c1], .slice (some ⟨ql, 0, none⟩) N lc] (w3.alloc (.cells #[.int .i64 (x.w : Int), .int .i64 (x.h : Int), .slice A3 x.p.length c3] 30)) (Did d (w3.alloc (.cells #[.int .i64 (x.w : Int), .int .i64 (x.h : Int), .slice A3 x.p.length c3] 30)))) := Lib.hid (by
    have bbel : Below w3.heap.size w3 (w3.alloc (.cells #[.int .i64 (x.w : Int), .int .i64 (x.h : Int), .slice A3 x.p.length c3] 30)) := ((Below.refl w3.heap.size w3).alloc (Nat.le_refl _) _)
    have bl1 : Below w1.heap.size w1 (w3.alloc (.cells #[.int .i64 (x.w : Int), .int .i64 (x.h : Int), .slice A3 x.p.length c3] 30)) := HMl3.out.trans (bbel.mono HMl3.out.size)
    have := specOpsDo_any r.w r.h A1 c1 r.p (some ⟨ql, 0, none⟩) lc ls ((w3.alloc (.cells #[.int .i64 (x.w : Int), .int .i64 (x.h : Int), .slice A3 x.p.length c3] 30))) (by have := HL.out; omega) (by rw [HN.out]; have := HLC.out; omega) hc1 (HHr3.out.carry bbel (Nat.le_refl _) bbel.size) (HLS.out _ bl1)
    rw [HD.out, HN.out] at this
    exact this)
  unfold Did at CE4
  go_wp2_with fail
  refine CE4.out.mono ?_
  rintro e w4 ⟨A4, c4, rfl, hc4, hh4, b4⟩
  clear CE4
  clear rc0 rc1 rc2 rn0
  obtain ⟨wx, hwx⟩ : ∃ s, d.getD ra0 = s := ⟨_, rfl⟩
  have hh4 := hh4.reads
  rw [hwx] at hc4 hh4 ⊢
  have HEwx := Lib.hid hwx
  clear hwx
  have bc4 : Below w3.heap.size w3 w4 := (((Below.refl w3.heap.size w3).alloc (Nat.le_refl _) _)).trans (b4.mono (((Below.refl w3.heap.size w3).alloc (Nat.le_refl _) _)).size)
  have HRx4 : Hid (RasAtB w4 (w3.heap.size) x.w x.h A3 x.p.length c3 30) := Lib.hid (Box.below HRx3.out b4 (RasAtB.lt HRx3.out))
  have HHx4 : Hid (HasP w4 w4.heap.size A3 x.p) := Lib.hid (HHx3.out.carry bc4 (Nat.le_refl _) bc4.size)
  have HRr4 : Hid (RasAtB w4 (w1.heap.size) r.w r.h A1 r.p.length c1 30) := Lib.hid (Box.below HRr3.out bc4 (RasAtB.lt HRr3.out))
  have HHr4 : Hid (HasP w4 w4.heap.size A1 r.p) := Lib.hid (HHr3.out.carry bc4 (Nat.le_refl _) bc4.size)
  have HB4 := Lib.hid (HB3.out.trans (bc4.mono HB3.out.size))
  have HRT4 : Hid (RangesIn w4) := Lib.hid (HRT3.out.next bc4)
  have HMl4 := Lib.hid (HMl3.out.trans (bc4.mono HMl3.out.size))
  clear HRr3 HHr3 HRx3 HHx3 HB3 HRT3 HMl3
  clear bc4
  have HHwx4 : Hid (HasP w4 w4.heap.size A4 wx.p) := Lib.hid hh4
  clear hh4 b4
  have HRwx4 : Hid (RasAtB (w4.alloc (.cells #[.int .i64 (wx.w : Int), .int .i64 (wx.h : Int), .slice A4 wx.p.length c4] 30)) (w4.heap.size) wx.w wx.h A4 wx.p.length c4 30) := Lib.hid (Box.new w4 _ _)
  obtain rfl : x = wx := by rw [← HEx.out]; exact HEwx.out
  clear HEwx
  have xc0 := RasAtB.c0 HRx4.out
  have xc1 := RasAtB.c1 HRx4.out
  have xc2 := RasAtB.c2 HRx4.out
  have xn0 : w3.heap.size < w4.heap.size := by have := RasAtB.lt HRx4.out; omega
  have CE5 : Hid (Calls Tryd.prog 25 #[rasV x.w x.h A3 x.p.length c3, rasV x.w x.h A4 x.p.length c4] (w4.alloc (.cells #[.int .i64 (x.w : Int), .int .i64 (x.h : Int), .slice A4 x.p.length c4] 30)) (fun e w' => e = .returned (.bool true) ∧ Below ((w4.alloc (.cells #[.int .i64 (x.w : Int), .int .i64 (x.h : Int), .slice A4 x.p.length c4] 30))).heap.size ((w4.alloc (.cells #[.int .i64 (x.w : Int), .int .i64 (x.h : Int), .slice A4 x.p.length c4] 30))) w')) := Lib.hid (by
    have bbel : Below w4.heap.size w4 (w4.alloc (.cells #[.int .i64 (x.w : Int), .int .i64 (x.h : Int), .slice A4 x.p.length c4] 30)) := ((Below.refl w4.heap.size w4).alloc (Nat.le_refl _) _)
    exact eaRas_same x.w x.h A3 A4 c3 c4 x.p _ (by have := HXS.out; rw [HEx.out] at this; omega) (HHx4.out.carry bbel (Nat.le_refl _) bbel.size) (HHwx4.out.carry bbel (Nat.le_refl _) bbel.size))
  unfold rasV at CE5
  go_wp2_with fail
  refine CE5.out.mono ?_
  rintro e w5 ⟨rfl, b5⟩
  clear CE5
  clear xc0 xc1 xc2 xn0
  have bb5 : Below (w4.alloc (.cells #[.int .i64 (x.w : Int), .int .i64 (x.h : Int), .slice A4 x.p.length c4] 30)).heap.size (w4.alloc (.cells #[.int .i64 (x.w : Int), .int .i64 (x.h : Int), .slice A4 x.p.length c4] 30)) w5 := ((Below.refl (w4.alloc (.cells #[.int .i64 (x.w : Int), .int .i64 (x.h : Int), .slice A4 x.p.length c4] 30)).heap.size (w4.alloc (.cells #[.int .i64 (x.w : Int), .int .i64 (x.h : Int), .slice A4 x.p.length c4] 30)))).trans (b5.mono ((Below.refl (w4.alloc (.cells #[.int .i64 (x.w : Int), .int .i64 (x.h : Int), .slice A4 x.p.length c4] 30)).heap.size (w4.alloc (.cells #[.int .i64 (x.w : Int), .int .i64 (x.h : Int), .slice A4 x.p.length c4] 30)))).size)
  have bc5 : Below w4.heap.size w4 w5 := (((Below.refl w4.heap.size w4).alloc (Nat.le_refl _) _)).trans (bb5.mono (((Below.refl w4.heap.size w4).alloc (Nat.le_refl _) _)).size)
  have HRwx5 : Hid (RasAtB w5 (w4.heap.size) x.w x.h A4 x.p.length c4 30) := Lib.hid (Box.below HRwx4.out bb5 (RasAtB.lt HRwx4.out))
  have HHwx5 : Hid (HasP w5 w5.heap.size A4 x.p) := Lib.hid (HHwx4.out.carry bc5 (Nat.le_refl _) bc5.size)
  have HRr5 : Hid (RasAtB w5 (w1.heap.size) r.w r.h A1 r.p.length c1 30) := Lib.hid (Box.below HRr4.out bc5 (RasAtB.lt HRr4.out))
  have HHr5 : Hid (HasP w5 w5.heap.size A1 r.p) := Lib.hid (HHr4.out.carry bc5 (Nat.le_refl _) bc5.size)
  have HRx5 : Hid (RasAtB w5 (w3.heap.size) x.w x.h A3 x.p.length c3 30) := Lib.hid (Box.below HRx4.out bc5 (RasAtB.lt HRx4.out))
  have HHx5 : Hid (HasP w5 w5.heap.size A3 x.p) := Lib.hid (HHx4.out.carry bc5 (Nat.le_refl _) bc5.size)
  have HB5 := Lib.hid (HB4.out.trans (bc5.mono HB4.out.size))
  have HRT5 : Hid (RangesIn w5) := Lib.hid (HRT4.out.next bc5)
  have HMl5 := Lib.hid (HMl4.out.trans (bc5.mono HMl4.out.size))
  clear HRr4 HHr4 HRx4 HHx4 HRwx4 HHwx4 HB4 HRT4 HMl4
  clear bb5 bc5
  clear b5
  clear HRwx5 HHwx5
  cases d with
  | none =>
    clear hsn
    obtain rfl : x = ra0 := by rw [← HEx.out]; rfl
    have z2 := RasAtB.c2 HRx5.out
    rw [show ra0.p.length = 0 from rfl] at z2
    go_wp2_with fail
    refine (eaOk_any _).mono ?_
    rintro e w6 ⟨rfl, b6⟩
    have HE := Lib.hid (HB5.out.trans (b6.mono HB5.out.size))
    clear b6 z2
    go_wp2_with fail
    go_ret
    exact ⟨rfl, HE.out⟩
  | some s =>
    clear hsn
    obtain rfl : s = x := HEx.out
    obtain ⟨r0, er1, er2, er3, hr0, hB, hop, hso⟩ := puts_some HD.out
    clear HEx
    have HRr5' := HRr5
    have HHr5' := HHr5
    rw [er1, er2, er3] at HRr5'
    rw [er3] at HHr5' hc1
    clear HRr5 HHr5 er1 er2 er3 HD HL HXS
    have HRr5 := HRr5'
    have HHr5 := HHr5'
    clear HRr5' HHr5'
    have HOK := Lib.hid (And.intro hr0 (And.intro hB (And.intro hop hso)))
    have HALL : Hid (∀ y, y ∈ ls → opB y = true) := Lib.hid (by
      unfold opsB at hB
      exact List.all_eq_true.1 (Bool.and_eq_true_iff.1 hB).1)
    clear hr0 hB hop hso
    have rc0 := RasAtB.c0 HRr5.out
    have rc1 := RasAtB.c1 HRr5.out
    have rc2 := RasAtB.c2 HRr5.out
    have HY6 : Hid (RasAtB (w5.alloc (.cells #[.int .i64 (r0.w : Int), .int .i64 (r0.h : Int), .slice A1 r0.p.length c1] 30)) w5.heap.size r0.w r0.h A1 r0.p.length c1 30) := Lib.hid (Box.new w5 _ _)
    have b6 : Below w5.heap.size w5 (w5.alloc (.cells #[.int .i64 (r0.w : Int), .int .i64 (r0.h : Int), .slice A1 r0.p.length c1] 30)) := (Below.refl _ w5).alloc (Nat.le_refl _) _
    have HB6 := Lib.hid b6
    have HH6 := Lib.hid (HHr5.out.carry b6 (Nat.le_refl _) b6.size)
    have HNA : Hid (∀ b o, A1 = some ⟨b, o, none⟩ → b ≠ w5.heap.size) := Lib.hid fun b o e => by
      subst e
      obtain ⟨b', o', _, e', hlt, _⟩ := HHr5.out.spot (k := 0) (ra_len HOK.out.1).1
      injection e' with e'
      injection e' with e1 _ _
      omega
    clear b6
    go_wp2_with fail
    generalize (w5.alloc (.cells #[.int .i64 (r0.w : Int), .int .i64 (r0.h : Int), .slice A1 r0.p.length c1] 30)) = w6 at *
    clear rc0 rc1 rc2
    go_loopw [10] (fun v wr => ∃ (k : Nat) (rk : Ra) (A : Option Addr) (cc : Nat), k ≤ N ∧ v = .int .i64 (k : Int) ∧ opsR r0 (ls.take k) = some rk ∧ RasAtB wr w5.heap.size rk.w rk.h A rk.p.length cc 30 ∧ rk.p.length ≤ cc ∧ HasP wr wr.heap.size A rk.p ∧ (∀ b o, A = some ⟨b, o, none⟩ → b ≠ w5.heap.size) ∧ Below w5.heap.size w5 wr) (fun v _ => N - (intOf v).toNat)
    case atStart => exact ⟨0, r0, A1, c1, Nat.zero_le _, rfl, rfl, HY6.out, hc1, HH6.out, HNA.out, HB6.out⟩
    case round =>
      clear HY6 HH6 HNA HB6
      obtain ⟨k, rk, A9, c9, hk, rfl, hop, hbx, hcc, hhk, hne, hbq⟩ := hrel
      have hrk : rk.ok := opsR_ok HOK.out.1 (by
        rw [List.all_eq_true]
        intro y hy
        exact HALL.out y (List.mem_of_mem_take hy)) hop
      have HOP := Lib.hid (And.intro hop hrk)
      clear hop hrk hne
      have HRr7 : Hid (RasAtB wr (w1.heap.size) r0.w r0.h A1 r0.p.length c1 30) := Lib.hid (Box.below HRr5.out hbq (RasAtB.lt HRr5.out))
      have HHr7 : Hid (HasP wr wr.heap.size A1 r0.p) := Lib.hid (HHr5.out.carry hbq (Nat.le_refl _) hbq.size)
      have HRx7 : Hid (RasAtB wr (w3.heap.size) s.w s.h A3 s.p.length c3 30) := Lib.hid (Box.below HRx5.out hbq (RasAtB.lt HRx5.out))
      have HHx7 : Hid (HasP wr wr.heap.size A3 s.p) := Lib.hid (HHx5.out.carry hbq (Nat.le_refl _) hbq.size)
      have HB7 := Lib.hid (HB5.out.trans (hbq.mono HB5.out.size))
      have HRT7 : Hid (RangesIn wr) := Lib.hid (HRT5.out.next hbq)
      have HMl7 := Lib.hid (HMl5.out.trans (hbq.mono HMl5.out.size))
      have HRy7 := Lib.hid hbx
      have HHy7 := Lib.hid hhk
      have HBQ := Lib.hid hbq
      clear hbx hhk hbq
      by_cases hlt : k < N
      · obtain ⟨x, hx⟩ : ∃ x, ls[k]? = some x := ⟨_, List.getElem?_eq_getElem (by rw [HN.out]; exact hlt)⟩
        have hox := HALL.out x (List.mem_of_getElem? hx)
        obtain ⟨t, ht⟩ := opsR_must hx HOP.out.1 HOK.out.2.2.1
        have HNX := Lib.hid ((opsR_next hx HOP.out.1).trans ht)
        obtain ⟨bl, dl, x', el, hbl, hx', hcs⟩ := (HLS.out wr HMl7.out).spot (k := k) (by rw [HN.out]; exact hlt)
        obtain rfl : x = x' := Option.some.inj (hx.symm.trans hx')
        injection el with el
        injection el with el1 el2 _
        subst el1 el2
        have q0 := hcs 0 _ rfl
        have q1 := hcs 1 _ rfl
        have q2 := hcs 2 _ rfl
        have q3 := hcs 3 _ rfl
        have q4 := hcs 4 _ rfl
        simp only [show opE.n = 5 from rfl, Nat.add_zero] at q0 q1 q2 q3 q4
        have hk6 : k < 6 := by have := HLC.out; omega
        have HCC := Lib.hid hcc
        have HTX := Lib.hid (And.intro ht (And.intro hox hbl))
        have HQ5 := Lib.hid (And.intro q0 (And.intro q1 (And.intro q2 (And.intro q3 q4))))
        clear hcs hx' hx hox ht hbl hcc q0 q1 q2 q3 q4
        go_wp2_with fail
        refine opsDoL_r14 w5.heap.size ql 0 N lc k rk A9 c9 HRy7.out HHy7.out HCC.out HOP.out.2 HRT7.out x (some t) t true rfl rfl HTX.out.2.1 HTX.out.2.2 HQ5.out hlt HTX.out.1 (fun _ _ _ _ _ h => h) (Lib.hid ?_)
        intro g11 A11 c11 y0 y1 y2 y3 y4 y5 y6 y7 y8 w8 hLd
        obtain ⟨hb8, hc8, ho8, hn8, hg8, b8⟩ := hLd
        have HY8 := Lib.hid (Box.below HRy7.out b8 (Box.lt HRy7.out))
        have hgy : w5.heap.size < wr.heap.size := Box.lt HRy7.out
        have v0 := RasAtB.c0 hb8
        have v1 := RasAtB.c1 hb8
        have v2 := RasAtB.c2 hb8
        have z0 := RasAtB.c0 HY8.out
        have z1 := RasAtB.c1 HY8.out
        have z2 := RasAtB.c2 HY8.out
        have f0 := RasAtB.free HY8.out 0
        have f1 := RasAtB.free HY8.out 1
        have f2 := RasAtB.free HY8.out 2
        have hgn : ¬ g11 = w5.heap.size := by omega
        have HS1 := Lib.hid (fin_ras HY8.out (.int .i64 (t.w : Int)) (.int .i64 (t.h : Int)) (.slice A11 t.p.length c11))
        have HNE := Lib.hid (own_ne ho8 hgy)
        have hs2 : HasP (((w8.setCell ⟨w5.heap.size, 0, none⟩ (.int .i64 (t.w : Int))).setCell ⟨w5.heap.size, 1, none⟩ (.int .i64 (t.h : Int))).setCell ⟨w5.heap.size, 2, none⟩ (.slice A11 t.p.length c11)) w8.heap.size A11 t.p := ((ho8.reads.set_ne HNE.out 0 (.int .i64 (t.w : Int))).set_ne HNE.out 1 (.int .i64 (t.h : Int))).set_ne HNE.out 2 (.slice A11 t.p.length c11)
        have HS2 := Lib.hid hs2
        have bq : Below w5.heap.size w5 w8 := HBQ.out.trans (b8.mono HBQ.out.size)
        have HS3 := Lib.hid (((bq.setCell (p := ⟨w5.heap.size, 0, none⟩) (Nat.le_refl _) (.int .i64 (t.w : Int))).setCell (p := ⟨w5.heap.size, 1, none⟩) (Nat.le_refl _) (.int .i64 (t.h : Int))).setCell (p := ⟨w5.heap.size, 2, none⟩) (Nat.le_refl _) (.slice A11 t.p.length c11))
        have HC8 := Lib.hid hc8
        clear hb8 hc8 ho8 hn8 hg8 b8 hgy hs2 bq
        go_wp2_with fail
        go_roundw
        case rel => exact ⟨k + 1, t, A11, c11, by omega, by go_num, HNX.out, HS1.out, HC8.out, by simpa using HS2.out, HNE.out, HS3.out⟩
        case measure => simp [intOf]; omega
      obtain rfl : k = N := by omega
      obtain rfl : s = rk := by
        have h := HOP.out.1
        rw [← HN.out, List.take_length, HOK.out.2.2.1] at h
        exact Option.some.inj h
      obtain ⟨m, hm⟩ : ∃ m : Nat, (k : Int) / 2 = (m : Int) ∧ m = k / 2 := ⟨k / 2, by omega, rfl⟩
      obtain ⟨hm1, hm2⟩ := hm
      have hmk : m ≤ k := by omega
      obtain ⟨ra, ha1, ha2⟩ := opsR_halves m HOK.out.2.2.1
      have hao : ra.ok := opsR_ok HOK.out.1 (by
        rw [List.all_eq_true]
        intro y hy
        exact HALL.out y (List.mem_of_mem_take hy)) ha1
      have htl : (ls.take m).length = m := by rw [List.length_take, HN.out]; omega
      have hdl : (ls.drop m).length = k - m := by rw [List.length_drop, HN.out]
      have hB1 : opsB (ls.take m) = true := opsB_part HOK.out.2.1 (by rw [htl, HN.out]; exact hmk) fun _ h => List.mem_of_mem_take h
      have hB2 : opsB (ls.drop m) = true := opsB_part HOK.out.2.1 (by rw [hdl, HN.out]; omega) fun _ h => List.mem_of_mem_drop h
      have HAA := Lib.hid (And.intro ha1 (And.intro ha2 (And.intro hao (And.intro htl (And.intro hdl (And.intro hB1 hB2))))))
      have HMK := Lib.hid (And.intro hmk hm2)
      have um := IntWalk.i64_in (m : Int) (by have := HLC.out; omega)
      clear ha1 ha2 hao htl hdl hB1 hB2 hk hlt hmk hm2 HOP
      go_wp2_with fail
      clear um
      refine opsDoL_r19 w1.heap.size ql 0 k lc m r0 A1 c1 HRr7.out HHr7.out hc1 HOK.out.1 HRT7.out (ls.take m) (some ra) ra true rfl rfl HAA.out.2.2.2.2.2.1 ((HLS.out wr HMl7.out).takeN m) HAA.out.2.2.2.1 HAA.out.1 HMK.out.1 HLC.out.1 (fun _ _ _ _ _ h => h) (Lib.hid ?_)
      intro g14 A14 c14 y0 y1 y2 y3 y4 y5 y6 y7 w9 hLd
      obtain ⟨hb9, hc9', ho9, -, -, b9⟩ := hLd
      have bb9 : Below wr.heap.size wr w9 := ((Below.refl wr.heap.size wr)).trans (b9.mono ((Below.refl wr.heap.size wr)).size)
      have bc9 : Below wr.heap.size wr w9 := ((Below.refl wr.heap.size wr)).trans (bb9.mono ((Below.refl wr.heap.size wr)).size)
      have HRr9 : Hid (RasAtB w9 (w1.heap.size) r0.w r0.h A1 r0.p.length c1 30) := Lib.hid (Box.below HRr7.out bc9 (RasAtB.lt HRr7.out))
      have HHr9 : Hid (HasP w9 w9.heap.size A1 r0.p) := Lib.hid (HHr7.out.carry bc9 (Nat.le_refl _) bc9.size)
      have HRx9 : Hid (RasAtB w9 (w3.heap.size) s.w s.h A3 s.p.length c3 30) := Lib.hid (Box.below HRx7.out bc9 (RasAtB.lt HRx7.out))
      have HHx9 : Hid (HasP w9 w9.heap.size A3 s.p) := Lib.hid (HHx7.out.carry bc9 (Nat.le_refl _) bc9.size)
      have HRy9 : Hid (RasAtB w9 (w5.heap.size) s.w s.h A9 s.p.length c9 30) := Lib.hid (Box.below HRy7.out bc9 (RasAtB.lt HRy7.out))
      have HHy9 : Hid (HasP w9 w9.heap.size A9 s.p) := Lib.hid (HHy7.out.carry bc9 (Nat.le_refl _) bc9.size)
      have HB9 := Lib.hid (HB7.out.trans (bc9.mono HB7.out.size))
      have HRT9 : Hid (RangesIn w9) := Lib.hid (HRT7.out.next bc9)
      have HMl9 := Lib.hid (HMl7.out.trans (bc9.mono HMl7.out.size))
      clear HRr7 HHr7 HRx7 HHx7 HRy7 HHy7 HB7 HRT7 HMl7
      clear bb9 bc9
      have HRa9 := Lib.hid hb9
      have HHa9 := Lib.hid ho9.reads
      clear hb9 ho9 b9
      by_cases hlm : lc = m
      · have hk0 : k = 0 := by have := HLC.out; have := HMK.out; omega
        have hm0 : m = 0 := by have := HMK.out; omega
        subst hk0 hm0
        subst hlm
        go_wp2_with fail
        refine opsDoL_r20z g14 ql 0 ra A14 c14 HRa9.out HHa9.out hc9' HAA.out.2.2.1 HRT9.out (ls.drop 0) (some s) s true rfl rfl HAA.out.2.2.2.2.2.2 (by have h0 : ls.drop 0 = [] := List.eq_nil_of_length_eq_zero (by rw [HAA.out.2.2.2.2.1]); rw [h0]; exact El.Has.nil) (by rw [HAA.out.2.2.2.2.1]) HAA.out.2.1 (fun _ _ _ _ _ h => h) (Lib.hid ?_)
        intro g16 A16 c16 y0 y1 y2 y3 y4 y5 y6 y7 w10 hLd
        obtain ⟨hb10, hc10, ho10, -, -, b10⟩ := hLd
        have bb10 : Below w9.heap.size w9 w10 := ((Below.refl w9.heap.size w9)).trans (b10.mono ((Below.refl w9.heap.size w9)).size)
        have bc10 : Below w9.heap.size w9 w10 := ((Below.refl w9.heap.size w9)).trans (bb10.mono ((Below.refl w9.heap.size w9)).size)
        have HRr10 : Hid (RasAtB w10 (w1.heap.size) r0.w r0.h A1 r0.p.length c1 30) := Lib.hid (Box.below HRr9.out bc10 (RasAtB.lt HRr9.out))
        have HHr10 : Hid (HasP w10 w10.heap.size A1 r0.p) := Lib.hid (HHr9.out.carry bc10 (Nat.le_refl _) bc10.size)
        have HRx10 : Hid (RasAtB w10 (w3.heap.size) s.w s.h A3 s.p.length c3 30) := Lib.hid (Box.below HRx9.out bc10 (RasAtB.lt HRx9.out))
        have HHx10 : Hid (HasP w10 w10.heap.size A3 s.p) := Lib.hid (HHx9.out.carry bc10 (Nat.le_refl _) bc10.size)
        have HRy10 : Hid (RasAtB w10 (w5.heap.size) s.w s.h A9 s.p.length c9 30) := Lib.hid (Box.below HRy9.out bc10 (RasAtB.lt HRy9.out))
        have HHy10 : Hid (HasP w10 w10.heap.size A9 s.p) := Lib.hid (HHy9.out.carry bc10 (Nat.le_refl _) bc10.size)
        have HRa10 : Hid (RasAtB w10 (g14) ra.w ra.h A14 ra.p.length c14 30) := Lib.hid (Box.below HRa9.out bc10 (RasAtB.lt HRa9.out))
        have HHa10 : Hid (HasP w10 w10.heap.size A14 ra.p) := Lib.hid (HHa9.out.carry bc10 (Nat.le_refl _) bc10.size)
        have HB10 := Lib.hid (HB9.out.trans (bc10.mono HB9.out.size))
        have HRT10 : Hid (RangesIn w10) := Lib.hid (HRT9.out.next bc10)
        have HMl10 := Lib.hid (HMl9.out.trans (bc10.mono HMl9.out.size))
        clear HRr9 HHr9 HRx9 HHx9 HRy9 HHy9 HRa9 HHa9 HB9 HRT9 HMl9
        clear bb10 bc10
        have HRb10 := Lib.hid hb10
        have HHb10 := Lib.hid ho10.reads
        clear hb10 ho10 b10
        have rc0 := RasAtB.c0 HRr10.out
        have rc1 := RasAtB.c1 HRr10.out
        have rc2 := RasAtB.c2 HRr10.out
        have b0 : Below w10.heap.size w10 (w10.alloc (.cells #[] 49)) := (Below.refl _ _).alloc (Nat.le_refl _) _
        have CE11 : Hid (Calls Tryd.prog 15 #[.agg #[.int .i64 (r0.w : Int), .int .i64 (r0.h : Int), .slice A1 r0.p.length c1], .slice (some ⟨w10.heap.size, 0, none⟩) 0 0] (w10.alloc (.cells #[] 49)) (Did (some r0) (w10.alloc (.cells #[] 49)))) := Lib.hid (by
          have := implOpsDo_any r0.w r0.h A1 c1 r0.p (some ⟨w10.heap.size, 0, none⟩) 0 [] (w10.alloc (.cells #[] 49)) (HRT10.out.next b0) (by have := ra_len HOK.out.1; omega) (by simp) hc1 (HHr10.out.carry b0 (Nat.le_refl _) b0.size) El.Has.nil
          rw [puts_ok HOK.out.1 (show opsB [] = true from rfl)] at this
          exact this)
        unfold Did at CE11
        simp only [Option.getD_some, Option.isSome_some] at CE11
        have HB0 := Lib.hid b0
        clear b0
        go_wp2_with fail
        refine CE11.out.mono ?_
        rintro e w11 ⟨A11, c11, rfl, hc11, hh11, b11'⟩
        have b11 : Below w10.heap.size w10 w11 := HB0.out.trans (b11'.mono HB0.out.size)
        clear CE11 HB0 b11'
        clear rc0 rc1 rc2
        have bb11 : Below w10.heap.size w10 w11 := ((Below.refl w10.heap.size w10)).trans (b11.mono ((Below.refl w10.heap.size w10)).size)
        have bc11 : Below w10.heap.size w10 w11 := ((Below.refl w10.heap.size w10)).trans (bb11.mono ((Below.refl w10.heap.size w10)).size)
        have HRr11 : Hid (RasAtB w11 (w1.heap.size) r0.w r0.h A1 r0.p.length c1 30) := Lib.hid (Box.below HRr10.out bc11 (RasAtB.lt HRr10.out))
        have HHr11 : Hid (HasP w11 w11.heap.size A1 r0.p) := Lib.hid (HHr10.out.carry bc11 (Nat.le_refl _) bc11.size)
        have HRx11 : Hid (RasAtB w11 (w3.heap.size) s.w s.h A3 s.p.length c3 30) := Lib.hid (Box.below HRx10.out bc11 (RasAtB.lt HRx10.out))
        have HHx11 : Hid (HasP w11 w11.heap.size A3 s.p) := Lib.hid (HHx10.out.carry bc11 (Nat.le_refl _) bc11.size)
        have HRy11 : Hid (RasAtB w11 (w5.heap.size) s.w s.h A9 s.p.length c9 30) := Lib.hid (Box.below HRy10.out bc11 (RasAtB.lt HRy10.out))
        have HHy11 : Hid (HasP w11 w11.heap.size A9 s.p) := Lib.hid (HHy10.out.carry bc11 (Nat.le_refl _) bc11.size)
        have HRa11 : Hid (RasAtB w11 (g14) ra.w ra.h A14 ra.p.length c14 30) := Lib.hid (Box.below HRa10.out bc11 (RasAtB.lt HRa10.out))
        have HHa11 : Hid (HasP w11 w11.heap.size A14 ra.p) := Lib.hid (HHa10.out.carry bc11 (Nat.le_refl _) bc11.size)
        have HRb11 : Hid (RasAtB w11 (g16) s.w s.h A16 s.p.length c16 30) := Lib.hid (Box.below HRb10.out bc11 (RasAtB.lt HRb10.out))
        have HHb11 : Hid (HasP w11 w11.heap.size A16 s.p) := Lib.hid (HHb10.out.carry bc11 (Nat.le_refl _) bc11.size)
        have HB11 := Lib.hid (HB10.out.trans (bc11.mono HB10.out.size))
        have HRT11 : Hid (RangesIn w11) := Lib.hid (HRT10.out.next bc11)
        have HMl11 := Lib.hid (HMl10.out.trans (bc11.mono HMl10.out.size))
        clear HRr10 HHr10 HRx10 HHx10 HRy10 HHy10 HRa10 HHa10 HRb10 HHb10 HB10 HRT10 HMl10
        clear bb11 bc11
        have HHn11 : Hid (HasP w11 w11.heap.size A11 r0.p) := Lib.hid hh11.reads
        clear hh11 b11
        have HRn11 : Hid (RasAtB (w11.alloc (.cells #[.int .i64 (r0.w : Int), .int .i64 (r0.h : Int), .slice A11 r0.p.length c11] 30)) (w11.heap.size) r0.w r0.h A11 r0.p.length c11 30) := Lib.hid (Box.new w11 _ _)
        have yc0 := RasAtB.c0 HRy11.out
        have yc1 := RasAtB.c1 HRy11.out
        have yc2 := RasAtB.c2 HRy11.out
        have xc0 := RasAtB.c0 HRx11.out
        have xc1 := RasAtB.c1 HRx11.out
        have xc2 := RasAtB.c2 HRx11.out
        have yn0 : w5.heap.size < w11.heap.size := by have := RasAtB.lt HRy11.out; omega
        have xn0 : w3.heap.size < w11.heap.size := by have := RasAtB.lt HRx11.out; omega
        have CE12 : Hid (Calls Tryd.prog 25 #[rasV s.w s.h A9 s.p.length c9, rasV s.w s.h A3 s.p.length c3] (w11.alloc (.cells #[.int .i64 (r0.w : Int), .int .i64 (r0.h : Int), .slice A11 r0.p.length c11] 30)) (fun e w' => e = .returned (.bool true) ∧ Below ((w11.alloc (.cells #[.int .i64 (r0.w : Int), .int .i64 (r0.h : Int), .slice A11 r0.p.length c11] 30))).heap.size ((w11.alloc (.cells #[.int .i64 (r0.w : Int), .int .i64 (r0.h : Int), .slice A11 r0.p.length c11] 30))) w')) := Lib.hid (by
          have bbel : Below w11.heap.size w11 (w11.alloc (.cells #[.int .i64 (r0.w : Int), .int .i64 (r0.h : Int), .slice A11 r0.p.length c11] 30)) := ((Below.refl w11.heap.size w11).alloc (Nat.le_refl _) _)
          exact eaRas_same s.w s.h A9 A3 c9 c3 s.p _ (by have := ra_len HOK.out.2.2.2; omega) (HHy11.out.carry bbel (Nat.le_refl _) bbel.size) (HHx11.out.carry bbel (Nat.le_refl _) bbel.size))
        unfold rasV at CE12
        go_wp2_with fail
        refine CE12.out.mono ?_
        rintro e w12 ⟨rfl, b12⟩
        clear CE12
        clear yc0 yc1 yc2 xc0 xc1 xc2 yn0 xn0
        have bb12 : Below (w11.alloc (.cells #[.int .i64 (r0.w : Int), .int .i64 (r0.h : Int), .slice A11 r0.p.length c11] 30)).heap.size (w11.alloc (.cells #[.int .i64 (r0.w : Int), .int .i64 (r0.h : Int), .slice A11 r0.p.length c11] 30)) w12 := ((Below.refl (w11.alloc (.cells #[.int .i64 (r0.w : Int), .int .i64 (r0.h : Int), .slice A11 r0.p.length c11] 30)).heap.size (w11.alloc (.cells #[.int .i64 (r0.w : Int), .int .i64 (r0.h : Int), .slice A11 r0.p.length c11] 30)))).trans (b12.mono ((Below.refl (w11.alloc (.cells #[.int .i64 (r0.w : Int), .int .i64 (r0.h : Int), .slice A11 r0.p.length c11] 30)).heap.size (w11.alloc (.cells #[.int .i64 (r0.w : Int), .int .i64 (r0.h : Int), .slice A11 r0.p.length c11] 30)))).size)
        have bc12 : Below w11.heap.size w11 w12 := (((Below.refl w11.heap.size w11).alloc (Nat.le_refl _) _)).trans (bb12.mono (((Below.refl w11.heap.size w11).alloc (Nat.le_refl _) _)).size)
        have HRn12 : Hid (RasAtB w12 (w11.heap.size) r0.w r0.h A11 r0.p.length c11 30) := Lib.hid (Box.below HRn11.out bb12 (RasAtB.lt HRn11.out))
        have HHn12 : Hid (HasP w12 w12.heap.size A11 r0.p) := Lib.hid (HHn11.out.carry bc12 (Nat.le_refl _) bc12.size)
        have HRr12 : Hid (RasAtB w12 (w1.heap.size) r0.w r0.h A1 r0.p.length c1 30) := Lib.hid (Box.below HRr11.out bc12 (RasAtB.lt HRr11.out))
        have HHr12 : Hid (HasP w12 w12.heap.size A1 r0.p) := Lib.hid (HHr11.out.carry bc12 (Nat.le_refl _) bc12.size)
        have HRx12 : Hid (RasAtB w12 (w3.heap.size) s.w s.h A3 s.p.length c3 30) := Lib.hid (Box.below HRx11.out bc12 (RasAtB.lt HRx11.out))
        have HHx12 : Hid (HasP w12 w12.heap.size A3 s.p) := Lib.hid (HHx11.out.carry bc12 (Nat.le_refl _) bc12.size)
        have HRy12 : Hid (RasAtB w12 (w5.heap.size) s.w s.h A9 s.p.length c9 30) := Lib.hid (Box.below HRy11.out bc12 (RasAtB.lt HRy11.out))
        have HHy12 : Hid (HasP w12 w12.heap.size A9 s.p) := Lib.hid (HHy11.out.carry bc12 (Nat.le_refl _) bc12.size)
        have HRa12 : Hid (RasAtB w12 (g14) ra.w ra.h A14 ra.p.length c14 30) := Lib.hid (Box.below HRa11.out bc12 (RasAtB.lt HRa11.out))
        have HHa12 : Hid (HasP w12 w12.heap.size A14 ra.p) := Lib.hid (HHa11.out.carry bc12 (Nat.le_refl _) bc12.size)
        have HRb12 : Hid (RasAtB w12 (g16) s.w s.h A16 s.p.length c16 30) := Lib.hid (Box.below HRb11.out bc12 (RasAtB.lt HRb11.out))
        have HHb12 : Hid (HasP w12 w12.heap.size A16 s.p) := Lib.hid (HHb11.out.carry bc12 (Nat.le_refl _) bc12.size)
        have HB12 := Lib.hid (HB11.out.trans (bc12.mono HB11.out.size))
        have HRT12 : Hid (RangesIn w12) := Lib.hid (HRT11.out.next bc12)
        have HMl12 := Lib.hid (HMl11.out.trans (bc12.mono HMl11.out.size))
        clear HRr11 HHr11 HRx11 HHx11 HRy11 HHy11 HRa11 HHa11 HRb11 HHb11 HRn11 HHn11 HB11 HRT11 HMl11
        clear bb12 bc12
        clear b12
        have bc0 := RasAtB.c0 HRb12.out
        have bc1 := RasAtB.c1 HRb12.out
        have bc2 := RasAtB.c2 HRb12.out
        have xc0 := RasAtB.c0 HRx12.out
        have xc1 := RasAtB.c1 HRx12.out
        have xc2 := RasAtB.c2 HRx12.out
        have CE13 : Hid (Calls Tryd.prog 25 #[rasV s.w s.h A16 s.p.length c16, rasV s.w s.h A3 s.p.length c3] w12 (fun e w' => e = .returned (.bool true) ∧ Below (w12).heap.size (w12) w')) := Lib.hid (by
          have bbel : Below w12.heap.size w12 w12 := (Below.refl w12.heap.size w12)
          exact eaRas_same s.w s.h A16 A3 c16 c3 s.p _ (by have := ra_len HOK.out.2.2.2; omega) (HHb12.out.carry bbel (Nat.le_refl _) bbel.size) (HHx12.out.carry bbel (Nat.le_refl _) bbel.size))
        unfold rasV at CE13
        go_wp2_with fail
        refine CE13.out.mono ?_
        rintro e w13 ⟨rfl, b13⟩
        clear CE13
        clear bc0 bc1 bc2 xc0 xc1 xc2
        have bb13 : Below w12.heap.size w12 w13 := ((Below.refl w12.heap.size w12)).trans (b13.mono ((Below.refl w12.heap.size w12)).size)
        have bc13 : Below w12.heap.size w12 w13 := ((Below.refl w12.heap.size w12)).trans (bb13.mono ((Below.refl w12.heap.size w12)).size)
        have HRr13 : Hid (RasAtB w13 (w1.heap.size) r0.w r0.h A1 r0.p.length c1 30) := Lib.hid (Box.below HRr12.out bc13 (RasAtB.lt HRr12.out))
        have HHr13 : Hid (HasP w13 w13.heap.size A1 r0.p) := Lib.hid (HHr12.out.carry bc13 (Nat.le_refl _) bc13.size)
        have HRx13 : Hid (RasAtB w13 (w3.heap.size) s.w s.h A3 s.p.length c3 30) := Lib.hid (Box.below HRx12.out bc13 (RasAtB.lt HRx12.out))
        have HHx13 : Hid (HasP w13 w13.heap.size A3 s.p) := Lib.hid (HHx12.out.carry bc13 (Nat.le_refl _) bc13.size)
        have HRy13 : Hid (RasAtB w13 (w5.heap.size) s.w s.h A9 s.p.length c9 30) := Lib.hid (Box.below HRy12.out bc13 (RasAtB.lt HRy12.out))
        have HHy13 : Hid (HasP w13 w13.heap.size A9 s.p) := Lib.hid (HHy12.out.carry bc13 (Nat.le_refl _) bc13.size)
        have HRa13 : Hid (RasAtB w13 (g14) ra.w ra.h A14 ra.p.length c14 30) := Lib.hid (Box.below HRa12.out bc13 (RasAtB.lt HRa12.out))
        have HHa13 : Hid (HasP w13 w13.heap.size A14 ra.p) := Lib.hid (HHa12.out.carry bc13 (Nat.le_refl _) bc13.size)
        have HRb13 : Hid (RasAtB w13 (g16) s.w s.h A16 s.p.length c16 30) := Lib.hid (Box.below HRb12.out bc13 (RasAtB.lt HRb12.out))
        have HHb13 : Hid (HasP w13 w13.heap.size A16 s.p) := Lib.hid (HHb12.out.carry bc13 (Nat.le_refl _) bc13.size)
        have HRn13 : Hid (RasAtB w13 (w11.heap.size) r0.w r0.h A11 r0.p.length c11 30) := Lib.hid (Box.below HRn12.out bc13 (RasAtB.lt HRn12.out))
        have HHn13 : Hid (HasP w13 w13.heap.size A11 r0.p) := Lib.hid (HHn12.out.carry bc13 (Nat.le_refl _) bc13.size)
        have HB13 := Lib.hid (HB12.out.trans (bc13.mono HB12.out.size))
        have HRT13 : Hid (RangesIn w13) := Lib.hid (HRT12.out.next bc13)
        have HMl13 := Lib.hid (HMl12.out.trans (bc13.mono HMl12.out.size))
        clear HRr12 HHr12 HRx12 HHx12 HRy12 HHy12 HRa12 HHa12 HRb12 HHb12 HRn12 HHn12 HB12 HRT12 HMl12
        clear bb13 bc13
        clear b13
        have nc0 := RasAtB.c0 HRn13.out
        have nc1 := RasAtB.c1 HRn13.out
        have nc2 := RasAtB.c2 HRn13.out
        have rc0 := RasAtB.c0 HRr13.out
        have rc1 := RasAtB.c1 HRr13.out
        have rc2 := RasAtB.c2 HRr13.out
        have CE14 : Hid (Calls Tryd.prog 25 #[rasV r0.w r0.h A11 r0.p.length c11, rasV r0.w r0.h A1 r0.p.length c1] w13 (fun e w' => e = .returned (.bool true) ∧ Below (w13).heap.size (w13) w')) := Lib.hid (by
          have bbel : Below w13.heap.size w13 w13 := (Below.refl w13.heap.size w13)
          exact eaRas_same r0.w r0.h A11 A1 c11 c1 r0.p _ (by have := ra_len HOK.out.1; omega) (HHn13.out.carry bbel (Nat.le_refl _) bbel.size) (HHr13.out.carry bbel (Nat.le_refl _) bbel.size))
        unfold rasV at CE14
        go_wp2_with fail
        refine CE14.out.mono ?_
        rintro e w14 ⟨rfl, b14⟩
        clear CE14
        clear nc0 nc1 nc2 rc0 rc1 rc2
        have bb14 : Below w13.heap.size w13 w14 := ((Below.refl w13.heap.size w13)).trans (b14.mono ((Below.refl w13.heap.size w13)).size)
        have bc14 : Below w13.heap.size w13 w14 := ((Below.refl w13.heap.size w13)).trans (bb14.mono ((Below.refl w13.heap.size w13)).size)
        have HRr14 : Hid (RasAtB w14 (w1.heap.size) r0.w r0.h A1 r0.p.length c1 30) := Lib.hid (Box.below HRr13.out bc14 (RasAtB.lt HRr13.out))
        have HHr14 : Hid (HasP w14 w14.heap.size A1 r0.p) := Lib.hid (HHr13.out.carry bc14 (Nat.le_refl _) bc14.size)
        have HRx14 : Hid (RasAtB w14 (w3.heap.size) s.w s.h A3 s.p.length c3 30) := Lib.hid (Box.below HRx13.out bc14 (RasAtB.lt HRx13.out))
        have HHx14 : Hid (HasP w14 w14.heap.size A3 s.p) := Lib.hid (HHx13.out.carry bc14 (Nat.le_refl _) bc14.size)
        have HRy14 : Hid (RasAtB w14 (w5.heap.size) s.w s.h A9 s.p.length c9 30) := Lib.hid (Box.below HRy13.out bc14 (RasAtB.lt HRy13.out))
        have HHy14 : Hid (HasP w14 w14.heap.size A9 s.p) := Lib.hid (HHy13.out.carry bc14 (Nat.le_refl _) bc14.size)
        have HRa14 : Hid (RasAtB w14 (g14) ra.w ra.h A14 ra.p.length c14 30) := Lib.hid (Box.below HRa13.out bc14 (RasAtB.lt HRa13.out))
        have HHa14 : Hid (HasP w14 w14.heap.size A14 ra.p) := Lib.hid (HHa13.out.carry bc14 (Nat.le_refl _) bc14.size)
        have HRb14 : Hid (RasAtB w14 (g16) s.w s.h A16 s.p.length c16 30) := Lib.hid (Box.below HRb13.out bc14 (RasAtB.lt HRb13.out))
        have HHb14 : Hid (HasP w14 w14.heap.size A16 s.p) := Lib.hid (HHb13.out.carry bc14 (Nat.le_refl _) bc14.size)
        have HRn14 : Hid (RasAtB w14 (w11.heap.size) r0.w r0.h A11 r0.p.length c11 30) := Lib.hid (Box.below HRn13.out bc14 (RasAtB.lt HRn13.out))
        have HHn14 : Hid (HasP w14 w14.heap.size A11 r0.p) := Lib.hid (HHn13.out.carry bc14 (Nat.le_refl _) bc14.size)
        have HB14 := Lib.hid (HB13.out.trans (bc14.mono HB13.out.size))
        have HRT14 : Hid (RangesIn w14) := Lib.hid (HRT13.out.next bc14)
        have HMl14 := Lib.hid (HMl13.out.trans (bc14.mono HMl13.out.size))
        clear HRr13 HHr13 HRx13 HHx13 HRy13 HHy13 HRa13 HHa13 HRb13 HHb13 HRn13 HHn13 HB13 HRT13 HMl13
        clear bb14 bc14
        clear b14
        have xc0 := RasAtB.c0 HRx14.out
        have xc1 := RasAtB.c1 HRx14.out
        have xc2 := RasAtB.c2 HRx14.out
        have CK := Lib.hid (implRasOk_any s.w s.h A3 c3 s.p w14 (by have := ra_len HOK.out.2.2.2; omega) HHx14.out)
        rw [show rasB s.w s.h s.p = true from HOK.out.2.2.2] at CK
        unfold rasV at CK
        go_wp2_with fail
        refine CK.out.mono ?_
        rintro e w15 ⟨rfl, b15⟩
        have HE := Lib.hid (HB14.out.trans (b15.mono HB14.out.size))
        clear CK b15
        go_wp2_with fail
        go_ret
        exact ⟨rfl, HE.out⟩
      · go_wp2_with fail
        refine opsDoL_r20 g14 ql 0 k lc m ra A14 c14 HRa9.out HHa9.out hc9' HAA.out.2.2.1 HRT9.out (ls.drop m) (some s) s true rfl rfl HAA.out.2.2.2.2.2.2 ((HLS.out w9 HMl9.out).dropAt m) HAA.out.2.2.2.2.1 HAA.out.2.1 HMK.out.1 HLC.out.1 hlm (fun _ _ _ _ _ h => h) (Lib.hid ?_)
        intro g16 A16 c16 y0 y1 y2 y3 y4 y5 y6 y7 w10 hLd
        obtain ⟨hb10, hc10, ho10, -, -, b10⟩ := hLd
        have bb10 : Below w9.heap.size w9 w10 := ((Below.refl w9.heap.size w9)).trans (b10.mono ((Below.refl w9.heap.size w9)).size)
        have bc10 : Below w9.heap.size w9 w10 := ((Below.refl w9.heap.size w9)).trans (bb10.mono ((Below.refl w9.heap.size w9)).size)
        have HRr10 : Hid (RasAtB w10 (w1.heap.size) r0.w r0.h A1 r0.p.length c1 30) := Lib.hid (Box.below HRr9.out bc10 (RasAtB.lt HRr9.out))
        have HHr10 : Hid (HasP w10 w10.heap.size A1 r0.p) := Lib.hid (HHr9.out.carry bc10 (Nat.le_refl _) bc10.size)
        have HRx10 : Hid (RasAtB w10 (w3.heap.size) s.w s.h A3 s.p.length c3 30) := Lib.hid (Box.below HRx9.out bc10 (RasAtB.lt HRx9.out))
        have HHx10 : Hid (HasP w10 w10.heap.size A3 s.p) := Lib.hid (HHx9.out.carry bc10 (Nat.le_refl _) bc10.size)
        have HRy10 : Hid (RasAtB w10 (w5.heap.size) s.w s.h A9 s.p.length c9 30) := Lib.hid (Box.below HRy9.out bc10 (RasAtB.lt HRy9.out))
        have HHy10 : Hid (HasP w10 w10.heap.size A9 s.p) := Lib.hid (HHy9.out.carry bc10 (Nat.le_refl _) bc10.size)
        have HRa10 : Hid (RasAtB w10 (g14) ra.w ra.h A14 ra.p.length c14 30) := Lib.hid (Box.below HRa9.out bc10 (RasAtB.lt HRa9.out))
        have HHa10 : Hid (HasP w10 w10.heap.size A14 ra.p) := Lib.hid (HHa9.out.carry bc10 (Nat.le_refl _) bc10.size)
        have HB10 := Lib.hid (HB9.out.trans (bc10.mono HB9.out.size))
        have HRT10 : Hid (RangesIn w10) := Lib.hid (HRT9.out.next bc10)
        have HMl10 := Lib.hid (HMl9.out.trans (bc10.mono HMl9.out.size))
        clear HRr9 HHr9 HRx9 HHx9 HRy9 HHy9 HRa9 HHa9 HB9 HRT9 HMl9
        clear bb10 bc10
        have HRb10 := Lib.hid hb10
        have HHb10 := Lib.hid ho10.reads
        clear hb10 ho10 b10
        have rc0 := RasAtB.c0 HRr10.out
        have rc1 := RasAtB.c1 HRr10.out
        have rc2 := RasAtB.c2 HRr10.out
        have b0 : Below w10.heap.size w10 (w10.alloc (.cells #[] 49)) := (Below.refl _ _).alloc (Nat.le_refl _) _
        have CE11 : Hid (Calls Tryd.prog 15 #[.agg #[.int .i64 (r0.w : Int), .int .i64 (r0.h : Int), .slice A1 r0.p.length c1], .slice (some ⟨w10.heap.size, 0, none⟩) 0 0] (w10.alloc (.cells #[] 49)) (Did (some r0) (w10.alloc (.cells #[] 49)))) := Lib.hid (by
          have := implOpsDo_any r0.w r0.h A1 c1 r0.p (some ⟨w10.heap.size, 0, none⟩) 0 [] (w10.alloc (.cells #[] 49)) (HRT10.out.next b0) (by have := ra_len HOK.out.1; omega) (by simp) hc1 (HHr10.out.carry b0 (Nat.le_refl _) b0.size) El.Has.nil
          rw [puts_ok HOK.out.1 (show opsB [] = true from rfl)] at this
          exact this)
        unfold Did at CE11
        simp only [Option.getD_some, Option.isSome_some] at CE11
        have HB0 := Lib.hid b0
        clear b0
        go_wp2_with fail
        refine CE11.out.mono ?_
        rintro e w11 ⟨A11, c11, rfl, hc11, hh11, b11'⟩
        have b11 : Below w10.heap.size w10 w11 := HB0.out.trans (b11'.mono HB0.out.size)
        clear CE11 HB0 b11'
        clear rc0 rc1 rc2
        have bb11 : Below w10.heap.size w10 w11 := ((Below.refl w10.heap.size w10)).trans (b11.mono ((Below.refl w10.heap.size w10)).size)
        have bc11 : Below w10.heap.size w10 w11 := ((Below.refl w10.heap.size w10)).trans (bb11.mono ((Below.refl w10.heap.size w10)).size)
        have HRr11 : Hid (RasAtB w11 (w1.heap.size) r0.w r0.h A1 r0.p.length c1 30) := Lib.hid (Box.below HRr10.out bc11 (RasAtB.lt HRr10.out))
        have HHr11 : Hid (HasP w11 w11.heap.size A1 r0.p) := Lib.hid (HHr10.out.carry bc11 (Nat.le_refl _) bc11.size)
        have HRx11 : Hid (RasAtB w11 (w3.heap.size) s.w s.h A3 s.p.length c3 30) := Lib.hid (Box.below HRx10.out bc11 (RasAtB.lt HRx10.out))
        have HHx11 : Hid (HasP w11 w11.heap.size A3 s.p) := Lib.hid (HHx10.out.carry bc11 (Nat.le_refl _) bc11.size)
        have HRy11 : Hid (RasAtB w11 (w5.heap.size) s.w s.h A9 s.p.length c9 30) := Lib.hid (Box.below HRy10.out bc11 (RasAtB.lt HRy10.out))
        have HHy11 : Hid (HasP w11 w11.heap.size A9 s.p) := Lib.hid (HHy10.out.carry bc11 (Nat.le_refl _) bc11.size)
        have HRa11 : Hid (RasAtB w11 (g14) ra.w ra.h A14 ra.p.length c14 30) := Lib.hid (Box.below HRa10.out bc11 (RasAtB.lt HRa10.out))
        have HHa11 : Hid (HasP w11 w11.heap.size A14 ra.p) := Lib.hid (HHa10.out.carry bc11 (Nat.le_refl _) bc11.size)
        have HRb11 : Hid (RasAtB w11 (g16) s.w s.h A16 s.p.length c16 30) := Lib.hid (Box.below HRb10.out bc11 (RasAtB.lt HRb10.out))
        have HHb11 : Hid (HasP w11 w11.heap.size A16 s.p) := Lib.hid (HHb10.out.carry bc11 (Nat.le_refl _) bc11.size)
        have HB11 := Lib.hid (HB10.out.trans (bc11.mono HB10.out.size))
        have HRT11 : Hid (RangesIn w11) := Lib.hid (HRT10.out.next bc11)
        have HMl11 := Lib.hid (HMl10.out.trans (bc11.mono HMl10.out.size))
        clear HRr10 HHr10 HRx10 HHx10 HRy10 HHy10 HRa10 HHa10 HRb10 HHb10 HB10 HRT10 HMl10
        clear bb11 bc11
        have HHn11 : Hid (HasP w11 w11.heap.size A11 r0.p) := Lib.hid hh11.reads
        clear hh11 b11
        have HRn11 : Hid (RasAtB (w11.alloc (.cells #[.int .i64 (r0.w : Int), .int .i64 (r0.h : Int), .slice A11 r0.p.length c11] 30)) (w11.heap.size) r0.w r0.h A11 r0.p.length c11 30) := Lib.hid (Box.new w11 _ _)
        have yc0 := RasAtB.c0 HRy11.out
        have yc1 := RasAtB.c1 HRy11.out
        have yc2 := RasAtB.c2 HRy11.out
        have xc0 := RasAtB.c0 HRx11.out
        have xc1 := RasAtB.c1 HRx11.out
        have xc2 := RasAtB.c2 HRx11.out
        have yn0 : w5.heap.size < w11.heap.size := by have := RasAtB.lt HRy11.out; omega
        have xn0 : w3.heap.size < w11.heap.size := by have := RasAtB.lt HRx11.out; omega
        have CE12 : Hid (Calls Tryd.prog 25 #[rasV s.w s.h A9 s.p.length c9, rasV s.w s.h A3 s.p.length c3] (w11.alloc (.cells #[.int .i64 (r0.w : Int), .int .i64 (r0.h : Int), .slice A11 r0.p.length c11] 30)) (fun e w' => e = .returned (.bool true) ∧ Below ((w11.alloc (.cells #[.int .i64 (r0.w : Int), .int .i64 (r0.h : Int), .slice A11 r0.p.length c11] 30))).heap.size ((w11.alloc (.cells #[.int .i64 (r0.w : Int), .int .i64 (r0.h : Int), .slice A11 r0.p.length c11] 30))) w')) := Lib.hid (by
          have bbel : Below w11.heap.size w11 (w11.alloc (.cells #[.int .i64 (r0.w : Int), .int .i64 (r0.h : Int), .slice A11 r0.p.length c11] 30)) := ((Below.refl w11.heap.size w11).alloc (Nat.le_refl _) _)
          exact eaRas_same s.w s.h A9 A3 c9 c3 s.p _ (by have := ra_len HOK.out.2.2.2; omega) (HHy11.out.carry bbel (Nat.le_refl _) bbel.size) (HHx11.out.carry bbel (Nat.le_refl _) bbel.size))
        unfold rasV at CE12
        go_wp2_with fail
        refine CE12.out.mono ?_
        rintro e w12 ⟨rfl, b12⟩
        clear CE12
        clear yc0 yc1 yc2 xc0 xc1 xc2 yn0 xn0
        have bb12 : Below (w11.alloc (.cells #[.int .i64 (r0.w : Int), .int .i64 (r0.h : Int), .slice A11 r0.p.length c11] 30)).heap.size (w11.alloc (.cells #[.int .i64 (r0.w : Int), .int .i64 (r0.h : Int), .slice A11 r0.p.length c11] 30)) w12 := ((Below.refl (w11.alloc (.cells #[.int .i64 (r0.w : Int), .int .i64 (r0.h : Int), .slice A11 r0.p.length c11] 30)).heap.size (w11.alloc (.cells #[.int .i64 (r0.w : Int), .int .i64 (r0.h : Int), .slice A11 r0.p.length c11] 30)))).trans (b12.mono ((Below.refl (w11.alloc (.cells #[.int .i64 (r0.w : Int), .int .i64 (r0.h : Int), .slice A11 r0.p.length c11] 30)).heap.size (w11.alloc (.cells #[.int .i64 (r0.w : Int), .int .i64 (r0.h : Int), .slice A11 r0.p.length c11] 30)))).size)
        have bc12 : Below w11.heap.size w11 w12 := (((Below.refl w11.heap.size w11).alloc (Nat.le_refl _) _)).trans (bb12.mono (((Below.refl w11.heap.size w11).alloc (Nat.le_refl _) _)).size)
        have HRn12 : Hid (RasAtB w12 (w11.heap.size) r0.w r0.h A11 r0.p.length c11 30) := Lib.hid (Box.below HRn11.out bb12 (RasAtB.lt HRn11.out))
        have HHn12 : Hid (HasP w12 w12.heap.size A11 r0.p) := Lib.hid (HHn11.out.carry bc12 (Nat.le_refl _) bc12.size)
        have HRr12 : Hid (RasAtB w12 (w1.heap.size) r0.w r0.h A1 r0.p.length c1 30) := Lib.hid (Box.below HRr11.out bc12 (RasAtB.lt HRr11.out))
        have HHr12 : Hid (HasP w12 w12.heap.size A1 r0.p) := Lib.hid (HHr11.out.carry bc12 (Nat.le_refl _) bc12.size)
        have HRx12 : Hid (RasAtB w12 (w3.heap.size) s.w s.h A3 s.p.length c3 30) := Lib.hid (Box.below HRx11.out bc12 (RasAtB.lt HRx11.out))
        have HHx12 : Hid (HasP w12 w12.heap.size A3 s.p) := Lib.hid (HHx11.out.carry bc12 (Nat.le_refl _) bc12.size)
        have HRy12 : Hid (RasAtB w12 (w5.heap.size) s.w s.h A9 s.p.length c9 30) := Lib.hid (Box.below HRy11.out bc12 (RasAtB.lt HRy11.out))
        have HHy12 : Hid (HasP w12 w12.heap.size A9 s.p) := Lib.hid (HHy11.out.carry bc12 (Nat.le_refl _) bc12.size)
        have HRa12 : Hid (RasAtB w12 (g14) ra.w ra.h A14 ra.p.length c14 30) := Lib.hid (Box.below HRa11.out bc12 (RasAtB.lt HRa11.out))
        have HHa12 : Hid (HasP w12 w12.heap.size A14 ra.p) := Lib.hid (HHa11.out.carry bc12 (Nat.le_refl _) bc12.size)
        have HRb12 : Hid (RasAtB w12 (g16) s.w s.h A16 s.p.length c16 30) := Lib.hid (Box.below HRb11.out bc12 (RasAtB.lt HRb11.out))
        have HHb12 : Hid (HasP w12 w12.heap.size A16 s.p) := Lib.hid (HHb11.out.carry bc12 (Nat.le_refl _) bc12.size)
        have HB12 := Lib.hid (HB11.out.trans (bc12.mono HB11.out.size))
        have HRT12 : Hid (RangesIn w12) := Lib.hid (HRT11.out.next bc12)
        have HMl12 := Lib.hid (HMl11.out.trans (bc12.mono HMl11.out.size))
        clear HRr11 HHr11 HRx11 HHx11 HRy11 HHy11 HRa11 HHa11 HRb11 HHb11 HRn11 HHn11 HB11 HRT11 HMl11
        clear bb12 bc12
        clear b12
        have bc0 := RasAtB.c0 HRb12.out
        have bc1 := RasAtB.c1 HRb12.out
        have bc2 := RasAtB.c2 HRb12.out
        have xc0 := RasAtB.c0 HRx12.out
        have xc1 := RasAtB.c1 HRx12.out
        have xc2 := RasAtB.c2 HRx12.out
        have CE13 : Hid (Calls Tryd.prog 25 #[rasV s.w s.h A16 s.p.length c16, rasV s.w s.h A3 s.p.length c3] w12 (fun e w' => e = .returned (.bool true) ∧ Below (w12).heap.size (w12) w')) := Lib.hid (by
          have bbel : Below w12.heap.size w12 w12 := (Below.refl w12.heap.size w12)
          exact eaRas_same s.w s.h A16 A3 c16 c3 s.p _ (by have := ra_len HOK.out.2.2.2; omega) (HHb12.out.carry bbel (Nat.le_refl _) bbel.size) (HHx12.out.carry bbel (Nat.le_refl _) bbel.size))
        unfold rasV at CE13
        go_wp2_with fail
        refine CE13.out.mono ?_
        rintro e w13 ⟨rfl, b13⟩
        clear CE13
        clear bc0 bc1 bc2 xc0 xc1 xc2
        have bb13 : Below w12.heap.size w12 w13 := ((Below.refl w12.heap.size w12)).trans (b13.mono ((Below.refl w12.heap.size w12)).size)
        have bc13 : Below w12.heap.size w12 w13 := ((Below.refl w12.heap.size w12)).trans (bb13.mono ((Below.refl w12.heap.size w12)).size)
        have HRr13 : Hid (RasAtB w13 (w1.heap.size) r0.w r0.h A1 r0.p.length c1 30) := Lib.hid (Box.below HRr12.out bc13 (RasAtB.lt HRr12.out))
        have HHr13 : Hid (HasP w13 w13.heap.size A1 r0.p) := Lib.hid (HHr12.out.carry bc13 (Nat.le_refl _) bc13.size)
        have HRx13 : Hid (RasAtB w13 (w3.heap.size) s.w s.h A3 s.p.length c3 30) := Lib.hid (Box.below HRx12.out bc13 (RasAtB.lt HRx12.out))
        have HHx13 : Hid (HasP w13 w13.heap.size A3 s.p) := Lib.hid (HHx12.out.carry bc13 (Nat.le_refl _) bc13.size)
        have HRy13 : Hid (RasAtB w13 (w5.heap.size) s.w s.h A9 s.p.length c9 30) := Lib.hid (Box.below HRy12.out bc13 (RasAtB.lt HRy12.out))
        have HHy13 : Hid (HasP w13 w13.heap.size A9 s.p) := Lib.hid (HHy12.out.carry bc13 (Nat.le_refl _) bc13.size)
        have HRa13 : Hid (RasAtB w13 (g14) ra.w ra.h A14 ra.p.length c14 30) := Lib.hid (Box.below HRa12.out bc13 (RasAtB.lt HRa12.out))
        have HHa13 : Hid (HasP w13 w13.heap.size A14 ra.p) := Lib.hid (HHa12.out.carry bc13 (Nat.le_refl _) bc13.size)
        have HRb13 : Hid (RasAtB w13 (g16) s.w s.h A16 s.p.length c16 30) := Lib.hid (Box.below HRb12.out bc13 (RasAtB.lt HRb12.out))
        have HHb13 : Hid (HasP w13 w13.heap.size A16 s.p) := Lib.hid (HHb12.out.carry bc13 (Nat.le_refl _) bc13.size)
        have HRn13 : Hid (RasAtB w13 (w11.heap.size) r0.w r0.h A11 r0.p.length c11 30) := Lib.hid (Box.below HRn12.out bc13 (RasAtB.lt HRn12.out))
        have HHn13 : Hid (HasP w13 w13.heap.size A11 r0.p) := Lib.hid (HHn12.out.carry bc13 (Nat.le_refl _) bc13.size)
        have HB13 := Lib.hid (HB12.out.trans (bc13.mono HB12.out.size))
        have HRT13 : Hid (RangesIn w13) := Lib.hid (HRT12.out.next bc13)
        have HMl13 := Lib.hid (HMl12.out.trans (bc13.mono HMl12.out.size))
        clear HRr12 HHr12 HRx12 HHx12 HRy12 HHy12 HRa12 HHa12 HRb12 HHb12 HRn12 HHn12 HB12 HRT12 HMl12
        clear bb13 bc13
        clear b13
        have nc0 := RasAtB.c0 HRn13.out
        have nc1 := RasAtB.c1 HRn13.out
        have nc2 := RasAtB.c2 HRn13.out
        have rc0 := RasAtB.c0 HRr13.out
        have rc1 := RasAtB.c1 HRr13.out
        have rc2 := RasAtB.c2 HRr13.out
        have CE14 : Hid (Calls Tryd.prog 25 #[rasV r0.w r0.h A11 r0.p.length c11, rasV r0.w r0.h A1 r0.p.length c1] w13 (fun e w' => e = .returned (.bool true) ∧ Below (w13).heap.size (w13) w')) := Lib.hid (by
          have bbel : Below w13.heap.size w13 w13 := (Below.refl w13.heap.size w13)
          exact eaRas_same r0.w r0.h A11 A1 c11 c1 r0.p _ (by have := ra_len HOK.out.1; omega) (HHn13.out.carry bbel (Nat.le_refl _) bbel.size) (HHr13.out.carry bbel (Nat.le_refl _) bbel.size))
        unfold rasV at CE14
        go_wp2_with fail
        refine CE14.out.mono ?_
        rintro e w14 ⟨rfl, b14⟩
        clear CE14
        clear nc0 nc1 nc2 rc0 rc1 rc2
        have bb14 : Below w13.heap.size w13 w14 := ((Below.refl w13.heap.size w13)).trans (b14.mono ((Below.refl w13.heap.size w13)).size)
        have bc14 : Below w13.heap.size w13 w14 := ((Below.refl w13.heap.size w13)).trans (bb14.mono ((Below.refl w13.heap.size w13)).size)
        have HRr14 : Hid (RasAtB w14 (w1.heap.size) r0.w r0.h A1 r0.p.length c1 30) := Lib.hid (Box.below HRr13.out bc14 (RasAtB.lt HRr13.out))
        have HHr14 : Hid (HasP w14 w14.heap.size A1 r0.p) := Lib.hid (HHr13.out.carry bc14 (Nat.le_refl _) bc14.size)
        have HRx14 : Hid (RasAtB w14 (w3.heap.size) s.w s.h A3 s.p.length c3 30) := Lib.hid (Box.below HRx13.out bc14 (RasAtB.lt HRx13.out))
        have HHx14 : Hid (HasP w14 w14.heap.size A3 s.p) := Lib.hid (HHx13.out.carry bc14 (Nat.le_refl _) bc14.size)
        have HRy14 : Hid (RasAtB w14 (w5.heap.size) s.w s.h A9 s.p.length c9 30) := Lib.hid (Box.below HRy13.out bc14 (RasAtB.lt HRy13.out))
        have HHy14 : Hid (HasP w14 w14.heap.size A9 s.p) := Lib.hid (HHy13.out.carry bc14 (Nat.le_refl _) bc14.size)
        have HRa14 : Hid (RasAtB w14 (g14) ra.w ra.h A14 ra.p.length c14 30) := Lib.hid (Box.below HRa13.out bc14 (RasAtB.lt HRa13.out))
        have HHa14 : Hid (HasP w14 w14.heap.size A14 ra.p) := Lib.hid (HHa13.out.carry bc14 (Nat.le_refl _) bc14.size)
        have HRb14 : Hid (RasAtB w14 (g16) s.w s.h A16 s.p.length c16 30) := Lib.hid (Box.below HRb13.out bc14 (RasAtB.lt HRb13.out))
        have HHb14 : Hid (HasP w14 w14.heap.size A16 s.p) := Lib.hid (HHb13.out.carry bc14 (Nat.le_refl _) bc14.size)
        have HRn14 : Hid (RasAtB w14 (w11.heap.size) r0.w r0.h A11 r0.p.length c11 30) := Lib.hid (Box.below HRn13.out bc14 (RasAtB.lt HRn13.out))
        have HHn14 : Hid (HasP w14 w14.heap.size A11 r0.p) := Lib.hid (HHn13.out.carry bc14 (Nat.le_refl _) bc14.size)
        have HB14 := Lib.hid (HB13.out.trans (bc14.mono HB13.out.size))
        have HRT14 : Hid (RangesIn w14) := Lib.hid (HRT13.out.next bc14)
        have HMl14 := Lib.hid (HMl13.out.trans (bc14.mono HMl13.out.size))
        clear HRr13 HHr13 HRx13 HHx13 HRy13 HHy13 HRa13 HHa13 HRb13 HHb13 HRn13 HHn13 HB13 HRT13 HMl13
        clear bb14 bc14
        clear b14
        have xc0 := RasAtB.c0 HRx14.out
        have xc1 := RasAtB.c1 HRx14.out
        have xc2 := RasAtB.c2 HRx14.out
        have CK := Lib.hid (implRasOk_any s.w s.h A3 c3 s.p w14 (by have := ra_len HOK.out.2.2.2; omega) HHx14.out)
        rw [show rasB s.w s.h s.p = true from HOK.out.2.2.2] at CK
        unfold rasV at CK
        go_wp2_with fail
        refine CK.out.mono ?_
        rintro e w15 ⟨rfl, b15⟩
        have HE := Lib.hid (HB14.out.trans (b15.mono HB14.out.size))
        clear CK b15
        go_wp2_with fail
        go_ret
        exact ⟨rfl, HE.out⟩
theorem fnOpsDo_walk (A : Option Addr) (c : Nat) (l : List UInt8) (w : World) (hR : RangesIn w) (h : Has w w.heap.size A l) (hc : l.length ≤ c) :
    Calls Tryd.prog 5 #[.slice A l.length c] w fun e w' => e = .returned (.bool true) ∧ Below w.heap.size w w' := by
  by_cases hbig : l.length ≤ 1048576
  · exact fnOpsDo_small A c l w hR h hc hbig
  · have hl0 : (1048576 : Int) < (l.length : Int) := by omega
    clear h hc hbig
    go_enter Tryd.func5, Tryd.ntmps5
    go_wp2_with fail
    go_ret
    exact ⟨rfl, Below.refl _ _⟩
end Go.Proofs.YtiemlakjallphabDoor
