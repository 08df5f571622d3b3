/-
  OpsDo of both answers what the plain model says. Conditions as they stand.
-/
import Derived.Test.YtiemlakjallphabDoorOpsDoP
import Derived.Test.YtiemlakjallphabDoorOpsI
import Derived.Test.YtiemlakjallphabDoorRasS
import Derived.Test.YtiemlakjallphabDoorRasI
import Derived.Test.YtiemlakjallphabDoorRes
namespace Go.Proofs.YtiemlakjallphabDoor
set_option maxRecDepth 4000
open Go.RowKit

/-- What OpsDo answers, for any raster and list. -/
def putsO (W H : Int) (l : List Px) (ls : List Op) : Option Ra := if rasB W H l && opsB ls then opsR ⟨W.toNat, H.toNat, l⟩ ls else none
theorem opsR_next {r rk : Ra} {ls : List Op} {k : Nat} {x : Op} (hx : ls[k]? = some x) (h : opsR r (ls.take k) = some rk) : opsR r (ls.take (k + 1)) = doR rk x := by
  rw [List.take_add_one, hx, opsR_append, h]
  show (doR rk x).bind (fun s => opsR s []) = doR rk x
  cases doR rk x <;> rfl
theorem opsR_none {r rk : Ra} {ls : List Op} {k : Nat} {x : Op} (hx : ls[k]? = some x) (h : opsR r (ls.take k) = some rk) (hd : doR rk x = none) : opsR r ls = none := by
  have h2 := opsR_next hx h
  rw [hd] at h2
  have e : ls = ls.take (k + 1) ++ ls.drop (k + 1) := (List.take_append_drop _ _).symm
  rw [e, opsR_append, h2]
  rfl
set_option maxHeartbeats 2000000 in
theorem implOpsDo_bad (W H : Int) (A : Option Addr) (c : Nat) (l : List Px) (L : Option Addr) (lc : Nat) (ls : List Op) (w : World) (hR : RangesIn w) (hs : l.length ≤ 1073741824) (hls : ls.length ≤ 1073741824) (h : HasP w w.heap.size A l) (hL : opE.Has w w.heap.size L ls) (hbad : (rasB W H l && opsB ls) = false) :
    Calls Tryd.prog 15 #[rasV W H A l.length c, .slice L ls.length lc] w (Did none w) := by
  have hb0 : Below w.heap.size w ((w.alloc (.cells #[.int .i64 W, .int .i64 H, .slice A l.length c] 30)).alloc (.cells #[.int .i64 0, .int .i64 0, .slice none 0 0] 30)) := ((Below.refl _ w).alloc (Nat.le_refl _) _).alloc (by simp) _
  have hr0 : RasAtB ((w.alloc (.cells #[.int .i64 W, .int .i64 H, .slice A l.length c] 30)).alloc (.cells #[.int .i64 0, .int .i64 0, .slice none 0 0] 30)) w.heap.size W H A l.length c 30 := Box.alloc (Box.new w _ _) _
  have hz0 : RasAtB ((w.alloc (.cells #[.int .i64 W, .int .i64 H, .slice A l.length c] 30)).alloc (.cells #[.int .i64 0, .int .i64 0, .slice none 0 0] 30)) (w.heap.size + 1) 0 0 none 0 0 30 := by
    have := Box.new (w.alloc (.cells #[.int .i64 W, .int .i64 H, .slice A l.length c] 30)) #[.int .i64 0, .int .i64 0, .slice none 0 0] 30
    rw [show (w.alloc (.cells #[.int .i64 W, .int .i64 H, .slice A l.length c] 30)).heap.size = w.heap.size + 1 from by simp] at this
    exact this
  have CR := Lib.hid fun u hh => implRasOk_any W H A c l u hs hh
  have CO := Lib.hid fun u hu hh => implOpsOk_any L lc ls u hls hu hh
  have HB0 := Lib.hid hb0
  have HR0 := Lib.hid hr0
  have HZ0 := Lib.hid hz0
  have HH := Lib.hid h
  have HL := Lib.hid hL
  have HRT := Lib.hid hR
  obtain ⟨p, hp⟩ : ∃ p, rasB W H l = p := ⟨_, rfl⟩
  obtain ⟨q, hq⟩ : ∃ q, opsB ls = q := ⟨_, rfl⟩
  rw [hp, hq] at hbad
  rw [hp] at CR
  rw [hq] at CO
  have HBAD := Lib.hid hbad
  unfold rasV at *
  unfold Did
  clear hb0 hr0 hz0 h hL hs hls hp hq hbad hR
  go_enter Tryd.func15, Tryd.ntmps15
  go_wp2_with fail
  generalize ((w.alloc (.cells #[.int .i64 W, .int .i64 H, .slice A l.length c] 30)).alloc (.cells #[.int .i64 0, .int .i64 0, .slice none 0 0] 30)) = w0 at *
  have r0 := RasAtB.c0 HR0.out
  have r1 := RasAtB.c1 HR0.out
  have r2 := RasAtB.c2 HR0.out
  go_wp2_with fail
  refine (CR.out _ (HH.out.carry HB0.out (Nat.le_refl _) HB0.out.size)).mono ?_
  rintro e w1 ⟨rfl, b1⟩
  have HB1 := Lib.hid (HB0.out.trans (b1.mono HB0.out.size))
  have HZ1 := Lib.hid (Box.below HZ0.out b1 (Box.lt HZ0.out))
  clear b1 r0 r1 r2
  cases p
  case' false => skip
  case' true =>
    go_wp2_with fail
    refine (CO.out _ (HRT.out.next HB1.out) (HL.out.carry HB1.out (Nat.le_refl _) HB1.out.size)).mono ?_
    rintro e w2 ⟨rfl, b2⟩
    have HB2 := Lib.hid (HB1.out.trans (b2.mono HB1.out.size))
    have HZ2 := Lib.hid (Box.below HZ1.out b2 (Box.lt HZ1.out))
    clear b2 HB1 HZ1
    obtain rfl : q = false := HBAD.out
    have HB1 := HB2
    have HZ1 := HZ2
    clear HB2 HZ2
  all_goals
    have z0 := RasAtB.c0 HZ1.out
    have z1 := RasAtB.c1 HZ1.out
    have z2 := RasAtB.c2 HZ1.out
    have f0 := RasAtB.free HZ1.out 0
    have f1 := RasAtB.free HZ1.out 1
    have f2 := RasAtB.free HZ1.out 2
    go_wp2_with fail
    (try simp only [Exit.inBlock, Exit.then])
    refine bodyPost_ret (results_row_tmp rfl _ _ (w.heap.size + 1) 30 #[.int .i64 0, .int .i64 0, .slice none 0 0] (0, 0) _ (.bool false) rfl rfl (fin_ras HZ1.out _ _ _) Tryd.underlying30 rfl (by kernel_rfl)) rfl ?_
    exact ⟨none, 0, rfl, Nat.le_refl _, ownP_nil _ _, ((HB1.out.setCell (by simp) _).setCell (by simp) _).setCell (by simp) _⟩
set_option maxHeartbeats 8000000 in
theorem implOpsDo_good (r : Ra) (b1 d1 c : Nat) (L : Option Addr) (lc : Nat) (ls : List Op) (w : World) (hR : RangesIn w) (hr : r.ok) (hB : opsB ls = true) (hc : r.p.length ≤ c) (h : HasP w w.heap.size (some ⟨b1, d1, none⟩) r.p) (hL : opE.Has w w.heap.size L ls) :
    Calls Tryd.prog 15 #[raV r (some ⟨b1, d1, none⟩) c, .slice L ls.length lc] w (Did (opsR r ls) w) := by
  have h36 := ra_len hr
  have hl5 : ls.length ≤ 5 := by
    unfold opsB at hB
    exact of_decide_eq_true (Bool.and_eq_true_iff.1 hB).2
  have hall : ls.all opB = true := by
    unfold opsB at hB
    exact (Bool.and_eq_true_iff.1 hB).1
  have hb0 : Below w.heap.size w ((w.alloc (.cells #[.int .i64 (r.w : Int), .int .i64 (r.h : Int), .slice (some ⟨b1, d1, none⟩) r.p.length c] 30)).alloc (.cells #[.int .i64 0, .int .i64 0, .slice none 0 0] 30)) := ((Below.refl _ w).alloc (Nat.le_refl _) _).alloc (by simp) _
  have hr0 : RasAtB ((w.alloc (.cells #[.int .i64 (r.w : Int), .int .i64 (r.h : Int), .slice (some ⟨b1, d1, none⟩) r.p.length c] 30)).alloc (.cells #[.int .i64 0, .int .i64 0, .slice none 0 0] 30)) w.heap.size r.w r.h (some ⟨b1, d1, none⟩) r.p.length c 30 := Box.alloc (Box.new w _ _) _
  have hz0 : RasAtB ((w.alloc (.cells #[.int .i64 (r.w : Int), .int .i64 (r.h : Int), .slice (some ⟨b1, d1, none⟩) r.p.length c] 30)).alloc (.cells #[.int .i64 0, .int .i64 0, .slice none 0 0] 30)) (w.heap.size + 1) 0 0 none 0 0 30 := by
    have := Box.new (w.alloc (.cells #[.int .i64 (r.w : Int), .int .i64 (r.h : Int), .slice (some ⟨b1, d1, none⟩) r.p.length c] 30)) #[.int .i64 0, .int .i64 0, .slice none 0 0] 30
    rw [show (w.alloc (.cells #[.int .i64 (r.w : Int), .int .i64 (r.h : Int), .slice (some ⟨b1, d1, none⟩) r.p.length c] 30)).heap.size = w.heap.size + 1 from by simp] at this
    exact this
  have CR := Lib.hid fun u hh => implRasOk_any r.w r.h (some ⟨b1, d1, none⟩) c r.p u (by omega) hh
  rw [show rasB r.w r.h r.p = true from hr] at CR
  have CO := Lib.hid fun u hu hh => implOpsOk_any L lc ls u (by omega) hu hh
  rw [hB] at CO
  have HB0 := Lib.hid hb0
  have HR0 := Lib.hid hr0
  have HZ0 := Lib.hid hz0
  have HH := Lib.hid h
  have HLS := Lib.hid fun u hb => hL.carry (w' := u) hb (Nat.le_refl _) hb.size
  have HRT := Lib.hid hR
  have HOK := Lib.hid (And.intro hr (And.intro hall (And.intro h36 hc)))
  obtain ⟨N, hN⟩ : ∃ N, ls.length = N := ⟨_, rfl⟩
  have HN := Lib.hid hN
  rw [hN] at hl5 CO ⊢
  unfold raV rasV at *
  clear hb0 hr0 hz0 h hL hr hB hall h36 hc hN hR
  go_enter Tryd.func15, Tryd.ntmps15
  go_wp2_with fail
  generalize ((w.alloc (.cells #[.int .i64 (r.w : Int), .int .i64 (r.h : Int), .slice (some ⟨b1, d1, none⟩) r.p.length c] 30)).alloc (.cells #[.int .i64 0, .int .i64 0, .slice none 0 0] 30)) = w0 at *
  have r0 := RasAtB.c0 HR0.out
  have r1 := RasAtB.c1 HR0.out
  have r2 := RasAtB.c2 HR0.out
  go_wp2_with fail
  refine (CR.out _ (HH.out.carry HB0.out (Nat.le_refl _) HB0.out.size)).mono ?_
  rintro e w1 ⟨rfl, c1⟩
  have HB1 := Lib.hid (HB0.out.trans (c1.mono HB0.out.size))
  have HZ1 := Lib.hid (Box.below HZ0.out c1 (Box.lt HZ0.out))
  have HR1 := Lib.hid (Box.below HR0.out c1 (Box.lt HR0.out))
  clear c1 r0 r1 r2 HB0 HZ0 HR0 CR
  go_wp2_with fail
  refine (CO.out _ (HRT.out.next HB1.out) (HLS.out _ HB1.out)).mono ?_
  rintro e w2 ⟨rfl, c2⟩
  have HB2 := Lib.hid (HB1.out.trans (c2.mono HB1.out.size))
  have HZ2 := Lib.hid (Box.below HZ1.out c2 (Box.lt HZ1.out))
  have HR2 := Lib.hid (Box.below HR1.out c2 (Box.lt HR1.out))
  clear c2 HB1 HZ1 HR1 CO
  go_wp2_with fail
  refine opsDoI_r3 w.heap.size r b1 d1 c HR2.out (HH.out.carry HB2.out (Nat.le_refl _) HB2.out.size) HOK.out.2.2.1.2 (fun _ _ _ _ _ h => h) (Lib.hid ?_)
  intro g A3 c3 y0 y1 y2 y3 y4 y5 y6 y7 w3 hLd
  obtain ⟨hb3, hc3, ho3, hn3, hg3, c3b⟩ := hLd
  have HB3 := Lib.hid (HB2.out.trans (c3b.mono HB2.out.size))
  have HZ3 := Lib.hid (Box.below HZ2.out c3b (Box.lt HZ2.out))
  have hz2 := Box.lt HZ2.out
  clear c3b HB2 HZ2 HR2 HH
  go_wp2_with fail
  have HG := Lib.hid (And.intro hg3 hz2)
  clear hg3 hz2
  go_loopw [30] (fun v wr => ∃ (k : Nat) (rk : Ra) (A : Option Addr) (cc : Nat), k ≤ N ∧ v = .int .i64 (k : Int) ∧ opsR r (ls.take k) = some rk ∧ RasAtB wr g rk.w rk.h A rk.p.length cc 30 ∧ rk.p.length ≤ cc ∧ OwnP wr w2.heap.size (.slice A rk.p.length cc) rk.p ∧ (∀ q, (Value.slice A rk.p.length cc).ownBlock = some q → q ≠ g) ∧ RasAtB wr (w.heap.size + 1) 0 0 none 0 0 30 ∧ Below w.heap.size w wr ∧ w2.heap.size ≤ wr.heap.size) (fun v _ => N - (intOf v).toNat)
  case atStart => exact ⟨0, r, A3, c3, Nat.zero_le _, rfl, rfl, hb3, hc3, ho3, hn3, HZ3.out, HB3.out, by have := Box.lt hb3; have := HG.out.1; omega⟩
  case round =>
    clear hb3 hc3 ho3 hn3 HZ3 HB3
    obtain ⟨k, rk, A, cc, hk, rfl, hop, hbx, hcc, hown, hne, hzz, hbel, hsz⟩ := hrel
    have hrk : rk.ok := opsR_ok HOK.out.1 (by
      rw [List.all_eq_true]
      intro y hy
      exact List.all_eq_true.1 HOK.out.2.1 y (List.mem_of_mem_take hy)) hop
    have HOP := Lib.hid hop
    have HBX := Lib.hid hbx
    have HCC := Lib.hid hcc
    have HOW := Lib.hid hown
    have HNE := Lib.hid hne
    have HZZ := Lib.hid hzz
    have HBE := Lib.hid hbel
    have HSZ := Lib.hid hsz
    have HRK := Lib.hid hrk
    clear hop hbx hcc hown hne hzz hbel hsz hrk
    by_cases hlt : k < N
    · obtain ⟨x, hx⟩ : ∃ x, ls[k]? = some x := ⟨_, List.getElem?_eq_getElem (by rw [HN.out]; exact hlt)⟩
      have HX := Lib.hid hx
      have hox : opB x = true := List.all_eq_true.1 HOK.out.2.1 x (List.mem_of_getElem? hx)
      have HOX := Lib.hid hox
      have hkI : (0 : Int) ≤ (k : Int) ∧ (k : Int) < (N : Int) := by omega
      obtain ⟨bl, dl, x', rfl, hbl, hx', hcs⟩ := (HLS.out wr HBE.out).spot (k := k) (by rw [HN.out]; exact hlt)
      obtain rfl : x = x' := Option.some.inj (hx.symm.trans hx')
      have q0 := hcs 0 _ rfl
      have q1 := hcs 1 _ rfl
      have q2 := hcs 2 _ rfl
      have q3 := hcs 3 _ rfl
      have q4 := hcs 4 _ rfl
      simp only [show opE.n = 5 from rfl, Nat.add_zero] at q0 q1 q2 q3 q4
      clear hcs hx'
      obtain ⟨d, hd⟩ : ∃ d, doR rk x = d := ⟨_, rfl⟩
      obtain ⟨s, hs⟩ : ∃ s, d.getD ra0 = s := ⟨_, rfl⟩
      obtain ⟨b, hb⟩ : ∃ b, d.isSome = b := ⟨_, rfl⟩
      have HD := Lib.hid (And.intro hd (And.intro hs hb))
      clear hx hox hd hs hb
      obtain ⟨gO, hgO⟩ : ∃ z, wr.heap.size = z := ⟨_, rfl⟩
      have HO5 : Hid (OpAtB (wr.alloc (.cells #[.int .i64 x.k, .int .i64 x.a, .int .i64 x.b, .int .i64 x.c, .int .i64 x.d] 49)) gO x) := Lib.hid (by rw [← hgO]; exact Box.new wr _ _)
      have ba : Below wr.heap.size wr (wr.alloc (.cells #[.int .i64 x.k, .int .i64 x.a, .int .i64 x.b, .int .i64 x.c, .int .i64 x.d] 49)) := (Below.refl _ wr).alloc (Nat.le_refl _) _
      have HBX5 := Lib.hid (Box.below HBX.out ba (Box.lt HBX.out))
      have HZZ5 := Lib.hid (Box.below HZZ.out ba (Box.lt HZZ.out))
      have HH5 := Lib.hid (HOW.out.reads.carry ba (Nat.le_refl _) ba.size)
      have HBE5 := Lib.hid (HBE.out.trans (ba.mono HBE.out.size))
      have HSZ5 : Hid (w2.heap.size ≤ (wr.alloc (.cells #[.int .i64 x.k, .int .i64 x.a, .int .i64 x.b, .int .i64 x.c, .int .i64 x.d] 49)).heap.size) := Lib.hid (Nat.le_trans HSZ.out ba.size)
      clear ba HBX HZZ HOW HBE HSZ HNE hbl
      go_wp2_with fail
      generalize wr.alloc (.cells #[.int .i64 x.k, .int .i64 x.a, .int .i64 x.b, .int .i64 x.c, .int .i64 x.d] 49) = w5 at *
      refine opsDoI_r7 g gO rk A cc x d s b HBX5.out HO5.out HH5.out HCC.out HRK.out HOX.out HD.out.1 HD.out.2.1 HD.out.2.2 (fun _ _ _ _ _ h => h) (Lib.hid ?_)
      intro g9 A6 c6 y0 y1 y2 y3 y4 y5 y6 w6 hLd
      obtain ⟨hb6, hc6, ho6, hn6, hg6, c6b⟩ := hLd
      have HBX6 := Lib.hid (Box.below HBX5.out c6b (Box.lt HBX5.out))
      have HZZ6 := Lib.hid (Box.below HZZ5.out c6b (Box.lt HZZ5.out))
      have HBE6 := Lib.hid (HBE5.out.trans (c6b.mono HBE5.out.size))
      have HSZ6 : Hid (w2.heap.size ≤ w6.heap.size) := Lib.hid (Nat.le_trans HSZ5.out c6b.size)
      have hgl : g < w5.heap.size := Box.lt HBX5.out
      have HGL := Lib.hid (And.intro hgl hg6)
      have HB6 := Lib.hid hb6
      have HO6 := Lib.hid ho6
      have HC6 := Lib.hid hc6
      clear hb6 hc6 ho6 hn6 hg6 c6b hgl HBX5 HZZ5 HBE5 HH5
      obtain ⟨hd, hs, hb⟩ := HD.out
      cases d with
      | none =>
        obtain rfl : b = false := hb.symm
        have HNO := Lib.hid (opsR_none HX.out HOP.out hd)
        have z0 := RasAtB.c0 HZZ6.out
        have z1 := RasAtB.c1 HZZ6.out
        have z2 := RasAtB.c2 HZZ6.out
        have f0 := RasAtB.free HZZ6.out 0
        have f1 := RasAtB.free HZZ6.out 1
        have f2 := RasAtB.free HZZ6.out 2
        clear hd hs hb
        go_wp2_with fail
        (try simp only [Exit.inBlock, Exit.then])
        refine bodyPost_ret (results_row_tmp rfl _ _ (w.heap.size + 1) 30 #[.int .i64 0, .int .i64 0, .slice none 0 0] (0, 0) _ (.bool false) rfl rfl (fin_ras HZZ6.out _ _ _) Tryd.underlying30 rfl (by kernel_rfl)) rfl ?_
        rw [HNO.out]
        exact ⟨none, 0, rfl, Nat.le_refl _, ownP_nil _ _, ((HBE6.out.setCell (by simp) _).setCell (by simp) _).setCell (by simp) _⟩
      | some s' =>
        obtain rfl : b = true := hb.symm
        obtain rfl : s' = s := hs
        have HNX : Hid (opsR r (ls.take (k + 1)) = some s') := Lib.hid ((opsR_next HX.out HOP.out).trans hd)
        have v0 := RasAtB.c0 HB6.out
        have v1 := RasAtB.c1 HB6.out
        have v2 := RasAtB.c2 HB6.out
        have z0 := RasAtB.c0 HBX6.out
        have z1 := RasAtB.c1 HBX6.out
        have z2 := RasAtB.c2 HBX6.out
        have f0 := RasAtB.free HBX6.out 0
        have f1 := RasAtB.free HBX6.out 1
        have f2 := RasAtB.free HBX6.out 2
        have hg9 : ¬ g9 = g := by have := HGL.out; omega
        have HS1 := Lib.hid (fin_ras HBX6.out (.int .i64 (s'.w : Int)) (.int .i64 (s'.h : Int)) (.slice A6 s'.p.length c6))
        have hzg : g ≠ w.heap.size + 1 := by have := HG.out; omega
        have HS2 := Lib.hid (Box.set_other (b := g) (Box.set_other (b := g) (Box.set_other (b := g) HZZ6.out hzg 0 (.int .i64 (s'.w : Int))) hzg 1 (.int .i64 (s'.h : Int))) hzg 2 (.slice A6 s'.p.length c6))
        have HS3 := Lib.hid (((OwnP.set_low (b := g) (OwnP.set_low (b := g) (OwnP.set_low (b := g) HO6.out HGL.out.1 0 (.int .i64 (s'.w : Int))) HGL.out.1 1 (.int .i64 (s'.h : Int))) HGL.out.1 2 (.slice A6 s'.p.length c6))).lower HSZ5.out)
        have HS4 : Hid (∀ q, (Value.slice A6 s'.p.length c6).ownBlock = some q → q ≠ g) := Lib.hid fun q e => by have := (World.ownsRow.lt HO6.out q e).1; have := HGL.out.1; omega
        have hgw : w.heap.size ≤ g := by have := HG.out; omega
        have HS5 := Lib.hid (((HBE6.out.setCell (p := ⟨g, 0, none⟩) hgw (.int .i64 (s'.w : Int))).setCell (p := ⟨g, 1, none⟩) hgw (.int .i64 (s'.h : Int))).setCell (p := ⟨g, 2, none⟩) hgw (.slice A6 s'.p.length c6))
        clear hd hb hzg hgw
        go_wp2_with fail
        go_roundw
        case rel => exact ⟨k + 1, s', A6, c6, by omega, by go_num, HNX.out, HS1.out, HC6.out, HS3.out, HS4.out, HS2.out, HS5.out, by simpa using HSZ6.out⟩
        case measure => simp [intOf]; omega
    · obtain rfl : k = N := by omega
      have hop := HOP.out
      rw [← HN.out, List.take_length] at hop
      have HOP2 := Lib.hid hop
      have v0 := RasAtB.c0 HBX.out
      have v1 := RasAtB.c1 HBX.out
      have v2 := RasAtB.c2 HBX.out
      have z0 := RasAtB.c0 HZZ.out
      have z1 := RasAtB.c1 HZZ.out
      have z2 := RasAtB.c2 HZZ.out
      have f0 := RasAtB.free HZZ.out 0
      have f1 := RasAtB.free HZZ.out 1
      have f2 := RasAtB.free HZZ.out 2
      have hg9 : ¬ g = w.heap.size + 1 := by have := HG.out; omega
      clear hop hk hlt
      go_wp2_with fail
      (try simp only [Exit.inBlock, Exit.then])
      refine bodyPost_ret (results_row_tmp rfl _ _ (w.heap.size + 1) 30 #[.int .i64 (rk.w : Int), .int .i64 (rk.h : Int), .slice A rk.p.length cc] (0, 0) _ (.bool true) rfl rfl (fin_ras HZZ.out _ _ _) Tryd.underlying30 rfl (by kernel_rfl)) rfl ?_
      rw [HOP2.out]
      have hw1 : w.heap.size + 1 < w2.heap.size := HG.out.2
      exact ⟨A, cc, rfl, HCC.out, (OwnP.set_low (b := w.heap.size + 1) (OwnP.set_low (b := w.heap.size + 1) (OwnP.set_low (b := w.heap.size + 1) HOW.out hw1 0 _) hw1 1 _) hw1 2 _).lower (by omega), ((HBE.out.setCell (by simp) _).setCell (by simp) _).setCell (by simp) _⟩
set_option maxHeartbeats 2000000 in
theorem l3Copy_any (r : Ra) (b1 d1 c : Nat) (w : World) (hl : r.p.length ≤ 36) (h : HasP w w.heap.size (some ⟨b1, d1, none⟩) r.p) :
    Calls Tryd.prog 36 #[.agg #[.int .i64 (r.w : Int), .int .i64 (r.h : Int), .slice (some ⟨b1, d1, none⟩) r.p.length c]] w fun e w' => ∃ A0 c0, e = .returned (.agg #[.int .i64 (r.w : Int), .int .i64 (r.h : Int), .slice A0 r.p.length c0]) ∧ r.p.length ≤ c0 ∧ OwnP w' w.heap.size (.slice A0 r.p.length c0) r.p ∧ Below w.heap.size w w' := by
  have hb0 : Below w.heap.size w ((w.alloc (.cells #[.int .i64 (r.w : Int), .int .i64 (r.h : Int), .slice (some ⟨b1, d1, none⟩) r.p.length c] 30)).alloc (.cells #[.int .i64 0, .int .i64 0, .slice none 0 0] 30)) := ((Below.refl _ w).alloc (Nat.le_refl _) _).alloc (by simp) _
  have hr0 : RasAtB ((w.alloc (.cells #[.int .i64 (r.w : Int), .int .i64 (r.h : Int), .slice (some ⟨b1, d1, none⟩) r.p.length c] 30)).alloc (.cells #[.int .i64 0, .int .i64 0, .slice none 0 0] 30)) w.heap.size r.w r.h (some ⟨b1, d1, none⟩) r.p.length c 30 := Box.alloc (Box.new w _ _) _
  have hz0 : RasAtB ((w.alloc (.cells #[.int .i64 (r.w : Int), .int .i64 (r.h : Int), .slice (some ⟨b1, d1, none⟩) r.p.length c] 30)).alloc (.cells #[.int .i64 0, .int .i64 0, .slice none 0 0] 30)) (w.heap.size + 1) 0 0 none 0 0 30 := by
    have := Box.new (w.alloc (.cells #[.int .i64 (r.w : Int), .int .i64 (r.h : Int), .slice (some ⟨b1, d1, none⟩) r.p.length c] 30)) #[.int .i64 0, .int .i64 0, .slice none 0 0] 30
    rw [show (w.alloc (.cells #[.int .i64 (r.w : Int), .int .i64 (r.h : Int), .slice (some ⟨b1, d1, none⟩) r.p.length c] 30)).heap.size = w.heap.size + 1 from by simp] at this
    exact this
  have HB0 := Lib.hid hb0
  have HR0 := Lib.hid hr0
  have HZ0 := Lib.hid hz0
  have HH := Lib.hid (h.below hb0)
  have HL := Lib.hid hl
  clear hb0 hr0 hz0 h hl
  go_enter Tryd.func36, Tryd.ntmps36
  go_wp2_with fail
  generalize ((w.alloc (.cells #[.int .i64 (r.w : Int), .int .i64 (r.h : Int), .slice (some ⟨b1, d1, none⟩) r.p.length c] 30)).alloc (.cells #[.int .i64 0, .int .i64 0, .slice none 0 0] 30)) = w0 at *
  refine wp_region_held_drew (S := fun v => RasAtB v w.heap.size r.w r.h (some ⟨b1, d1, none⟩) r.p.length c 30) (by kernel_rfl) HR0.out.drew1 fun _ => ?_
  have HQ0 : Hid (RasAtB w0.drew w.heap.size r.w r.h (some ⟨b1, d1, none⟩) r.p.length c 30) := Lib.hid HR0.out.drew1
  have HT0 : Hid (Below w0.heap.size w0 w0.drew) := Lib.hid (below_draws (Below.refl _ _) 1)
  generalize w0.drew = u0 at *
  refine wpAnyH_takeD (i := 0) (d := 3) (v := .pointer (some ⟨w.heap.size, 0, none⟩)) rfl rfl (by kernel_rfl) (by kernel_rfl) (by kernel_rfl) (fun _ _ _ h => h) HQ0.out (Or.inl ⟨by rfl, fun w' hS' => ?_⟩) ?_
  · go_simp
  simp only [Act.put, List.setIfInBounds_toArray, List.set_cons_zero, List.set_cons_succ]
  refine wpAnyH_takeD (i := 1) (d := 4) (v := .int .i64 (r.w : Int)) rfl rfl (by kernel_rfl) (by kernel_rfl) (by kernel_rfl) (fun _ _ _ h => h) HQ0.out (Or.inl ⟨by rfl, fun w' hS' => ?_⟩) ?_
  · have t0 := RasAtB.c0 hS'
    have t1 := RasAtB.c1 hS'
    have t2 := RasAtB.c2 hS'
    go_simp
  simp only [Act.put, List.setIfInBounds_toArray, List.set_cons_zero, List.set_cons_succ]
  refine wpAnyH_takeD (i := 2) (d := 5) (v := .pointer (some ⟨w.heap.size, 1, none⟩)) rfl rfl (by kernel_rfl) (by kernel_rfl) (by kernel_rfl) (fun _ _ _ h => h) HQ0.out (Or.inl ⟨by rfl, fun w' hS' => ?_⟩) ?_
  · go_simp
  simp only [Act.put, List.setIfInBounds_toArray, List.set_cons_zero, List.set_cons_succ]
  refine wpAnyH_takeD (i := 3) (d := 6) (v := .int .i64 (r.h : Int)) rfl rfl (by kernel_rfl) (by kernel_rfl) (by kernel_rfl) (fun _ _ _ h => h) HQ0.out (Or.inl ⟨by rfl, fun w' hS' => ?_⟩) ?_
  · have t0 := RasAtB.c0 hS'
    have t1 := RasAtB.c1 hS'
    have t2 := RasAtB.c2 hS'
    go_simp
  simp only [Act.put, List.setIfInBounds_toArray, List.set_cons_zero, List.set_cons_succ]
  refine wpAnyH_takeD (i := 5) (d := 8) (v := .pointer (some ⟨w.heap.size, 2, none⟩)) rfl rfl (by kernel_rfl) (by kernel_rfl) (by kernel_rfl) (fun _ _ _ h => h) HQ0.out (Or.inl ⟨by rfl, fun w' hS' => ?_⟩) ?_
  · go_simp
  simp only [Act.put, List.setIfInBounds_toArray, List.set_cons_zero, List.set_cons_succ]
  refine wpAnyH_takeD (i := 6) (d := 9) (v := .slice (some ⟨b1, d1, none⟩) r.p.length c) rfl rfl (by kernel_rfl) (by kernel_rfl) (by kernel_rfl) (fun _ _ _ h => h) HQ0.out (Or.inl ⟨by rfl, fun w' hS' => ?_⟩) ?_
  · have t0 := RasAtB.c0 hS'
    have t1 := RasAtB.c1 hS'
    have t2 := RasAtB.c2 hS'
    go_simp
  simp only [Act.put, List.setIfInBounds_toArray, List.set_cons_zero, List.set_cons_succ]
  refine wpAnyH_one (i := 4) (by kernel_rfl) rfl (fun K hK => ?_)
  go_simp
  have HO1 : Hid (OwnP (u0.alloc (.cells #[] 62)) u0.heap.size (.slice (some ⟨u0.heap.size, 0, none⟩) 0 0) []) := Lib.hid (ownP_empty (Nat.le_refl _))
  have HT1 : Hid (Below w0.heap.size w0 (u0.alloc (.cells #[] 62))) := Lib.hid (HT0.out.alloc HT0.out.size _)
  have HS1 : Hid (u0.heap.size ≤ (u0.alloc (.cells #[] 62)).heap.size) := Lib.hid (by simp)
  have HQ1 := Lib.hid (Box.below HR0.out HT1.out (Box.lt HR0.out))
  refine hK.out _ _ HQ1.out ?_
  clear hK
  try simp only [Act.put, List.setIfInBounds_toArray, List.set_cons_zero, List.set_cons_succ]
  generalize u0.alloc (.cells #[] 62) = u1 at *
  refine wpAnyH_one (i := 7) (by kernel_rfl) rfl (fun K hK => ?_)
  refine step_pushAllP rfl (.tmp 7) (.tmp 9) rfl u0.heap.size (.slice (some ⟨u0.heap.size, 0, none⟩) 0 0) [] rfl HO1.out w.heap.size ⟨b1, d1, none⟩ c r.p.length r.p rfl rfl (HH.out.below (HT1.out.mono HB0.out.size)) (by have := HL.out; simp; omega) HS1.out ?_
  intro v2 u2 hown hgr
  obtain ⟨A0, c0, e0, hc0, -⟩ := hown.has
  rw [List.nil_append] at e0 hc0 hown
  subst e0
  have b2 : Below w0.heap.size w0 u2 := HT1.out.grown hgr HT1.out.size (fun q e => Nat.le_trans HT0.out.size (World.ownsRow.lt HO1.out q e).1)
  have HT2 := Lib.hid b2
  have HO2 := Lib.hid hown
  have HC := Lib.hid hc0
  have HQ2 := Lib.hid (Box.below HR0.out HT2.out (Box.lt HR0.out))
  refine hK.out _ _ HQ2.out ?_
  clear hK hown hgr hc0 b2
  try simp only [Act.put, List.setIfInBounds_toArray]
  refine wpAnyH_takeD (i := 8) (d := 11) (v := .agg #[.int .i64 (r.w : Int), .int .i64 (r.h : Int), .slice A0 r.p.length c0]) rfl rfl (by kernel_rfl) (by kernel_rfl) (by kernel_rfl) (fun _ _ _ h => h) HQ2.out (Or.inl ⟨by rfl, fun w' hS' => ?_⟩) ?_
  · go_simp
  simp only [Act.put]
  have HZ2 := Lib.hid (Box.below HZ0.out HT2.out (Box.lt HZ0.out))
  have z0 := RasAtB.c0 HZ2.out
  have z1 := RasAtB.c1 HZ2.out
  have z2 := RasAtB.c2 HZ2.out
  have f0 := RasAtB.free HZ2.out 0
  have f1 := RasAtB.free HZ2.out 1
  have f2 := RasAtB.free HZ2.out 2
  have hlt := Box.lt HZ0.out
  have hu := HT0.out.size
  have hlo : w.heap.size + 1 < u0.heap.size := by omega
  have hn : w.heap.size + 1 ≠ w.heap.size := by omega
  have HQ3 := Lib.hid (Box.set_other (b := w.heap.size + 1) (Box.set_other (b := w.heap.size + 1) (Box.set_other (b := w.heap.size + 1) HQ2.out hn 0 (.int .i64 (r.w : Int))) hn 1 (.int .i64 (r.h : Int))) hn 2 (.slice A0 r.p.length c0))
  have HF := Lib.hid (fin_ras HZ2.out (.int .i64 (r.w : Int)) (.int .i64 (r.h : Int)) (.slice A0 r.p.length c0))
  have HO3 := Lib.hid ((OwnP.set_low (b := w.heap.size + 1) (OwnP.set_low (b := w.heap.size + 1) (OwnP.set_low (b := w.heap.size + 1) HO2.out hlo 0 (.int .i64 (r.w : Int))) hlo 1 (.int .i64 (r.h : Int))) hlo 2 (.slice A0 r.p.length c0)).lower (by omega : w.heap.size ≤ u0.heap.size))
  have HB3 := Lib.hid ((((HB0.out.trans (HT2.out.mono HB0.out.size)).setCell (p := ⟨w.heap.size + 1, 0, none⟩) (by simp) (.int .i64 (r.w : Int))).setCell (p := ⟨w.heap.size + 1, 1, none⟩) (by simp) (.int .i64 (r.h : Int))).setCell (p := ⟨w.heap.size + 1, 2, none⟩) (by simp) (.slice A0 r.p.length c0))
  clear hlt hu hlo hn
  refine wpAnyH_one (i := 9) (by kernel_rfl) rfl (fun K hK => ?_)
  go_simp
  refine hK.out _ _ HQ3.out ?_
  clear hK z0 z1 z2 f0 f1 f2
  refine wpAnyH_done (by kernel_rfl) ?_ _
  go_wp2_with fail
  (try simp only [Exit.inBlock, Exit.then])
  refine bodyPost_ret (results_cell_row rfl _ _ (w.heap.size + 1) 30 #[.int .i64 (r.w : Int), .int .i64 (r.h : Int), .slice A0 r.p.length c0] (0, 0) _ rfl HF.out Tryd.underlying30 rfl (by kernel_rfl)) rfl ?_
  exact ⟨A0, c0, rfl, HC.out, HO3.out, HB3.out⟩
set_option maxHeartbeats 2000000 in
theorem specOpsDo_bad (W H : Int) (A : Option Addr) (c : Nat) (l : List Px) (L : Option Addr) (lc : Nat) (ls : List Op) (w : World) (hs : l.length ≤ 1073741824) (hls : ls.length ≤ 1073741824) (h : HasP w w.heap.size A l) (hL : opE.Has w w.heap.size L ls) (hbad : (rasB W H l && opsB ls) = false) :
    Calls Tryd.prog 12 #[rasV W H A l.length c, .slice L ls.length lc] w (Did none w) := by
  have hb0 : Below w.heap.size w ((w.alloc (.cells #[.int .i64 W, .int .i64 H, .slice A l.length c] 30)).alloc (.cells #[.int .i64 0, .int .i64 0, .slice none 0 0] 30)) := ((Below.refl _ w).alloc (Nat.le_refl _) _).alloc (by simp) _
  have hr0 : RasAtB ((w.alloc (.cells #[.int .i64 W, .int .i64 H, .slice A l.length c] 30)).alloc (.cells #[.int .i64 0, .int .i64 0, .slice none 0 0] 30)) w.heap.size W H A l.length c 30 := Box.alloc (Box.new w _ _) _
  have hz0 : RasAtB ((w.alloc (.cells #[.int .i64 W, .int .i64 H, .slice A l.length c] 30)).alloc (.cells #[.int .i64 0, .int .i64 0, .slice none 0 0] 30)) (w.heap.size + 1) 0 0 none 0 0 30 := by
    have := Box.new (w.alloc (.cells #[.int .i64 W, .int .i64 H, .slice A l.length c] 30)) #[.int .i64 0, .int .i64 0, .slice none 0 0] 30
    rw [show (w.alloc (.cells #[.int .i64 W, .int .i64 H, .slice A l.length c] 30)).heap.size = w.heap.size + 1 from by simp] at this
    exact this
  have CR := Lib.hid fun u hh => specRasOk_any W H A c l u hs hh
  have CO := Lib.hid fun u hh => specL6All_any L lc ls u hls hh
  have HB0 := Lib.hid hb0
  have HR0 := Lib.hid hr0
  have HZ0 := Lib.hid hz0
  have HH := Lib.hid h
  have HL := Lib.hid hL
  obtain ⟨p, hp⟩ : ∃ p, rasB W H l = p := ⟨_, rfl⟩
  obtain ⟨q, hq⟩ : ∃ q, opsB ls = q := ⟨_, rfl⟩
  rw [hp, hq] at hbad
  rw [hp] at CR
  rw [hq] at CO
  have HBAD := Lib.hid hbad
  unfold rasV at *
  unfold Did
  clear hb0 hr0 hz0 h hL hs hls hp hq hbad
  go_enter Tryd.func12, Tryd.ntmps12
  go_wp2_with fail
  generalize ((w.alloc (.cells #[.int .i64 W, .int .i64 H, .slice A l.length c] 30)).alloc (.cells #[.int .i64 0, .int .i64 0, .slice none 0 0] 30)) = w0 at *
  have r0 := RasAtB.c0 HR0.out
  have r1 := RasAtB.c1 HR0.out
  have r2 := RasAtB.c2 HR0.out
  go_wp2_with fail
  refine (CR.out _ (HH.out.carry HB0.out (Nat.le_refl _) HB0.out.size)).mono ?_
  rintro e w1 ⟨rfl, b1⟩
  have HB1 := Lib.hid (HB0.out.trans (b1.mono HB0.out.size))
  have HZ1 := Lib.hid (Box.below HZ0.out b1 (Box.lt HZ0.out))
  clear b1 r0 r1 r2
  cases p
  case' false => skip
  case' true =>
    go_wp2_with fail
    refine (CO.out _ (HL.out.carry HB1.out (Nat.le_refl _) HB1.out.size)).mono ?_
    rintro e w2 ⟨rfl, b2⟩
    have HB2 := Lib.hid (HB1.out.trans (b2.mono HB1.out.size))
    have HZ2 := Lib.hid (Box.below HZ1.out b2 (Box.lt HZ1.out))
    clear b2 HB1 HZ1
    obtain rfl : q = false := HBAD.out
    have HB1 := HB2
    have HZ1 := HZ2
    clear HB2 HZ2
  all_goals
    have z0 := RasAtB.c0 HZ1.out
    have z1 := RasAtB.c1 HZ1.out
    have z2 := RasAtB.c2 HZ1.out
    have f0 := RasAtB.free HZ1.out 0
    have f1 := RasAtB.free HZ1.out 1
    have f2 := RasAtB.free HZ1.out 2
    go_wp2_with fail
    (try simp only [Exit.inBlock, Exit.then])
    refine bodyPost_ret (results_row_tmp rfl _ _ (w.heap.size + 1) 30 #[.int .i64 0, .int .i64 0, .slice none 0 0] (0, 0) _ (.bool false) rfl rfl (fin_ras HZ1.out _ _ _) Tryd.underlying30 rfl (by kernel_rfl)) rfl ?_
    exact ⟨none, 0, rfl, Nat.le_refl _, ownP_nil _ _, ((HB1.out.setCell (by simp) _).setCell (by simp) _).setCell (by simp) _⟩
set_option maxHeartbeats 8000000 in
theorem specOpsDo_good (r : Ra) (b1 d1 c : Nat) (L : Option Addr) (lc : Nat) (ls : List Op) (w : World) (hr : r.ok) (hB : opsB ls = true) (hc : r.p.length ≤ c) (h : HasP w w.heap.size (some ⟨b1, d1, none⟩) r.p) (hL : opE.Has w w.heap.size L ls) :
    Calls Tryd.prog 12 #[raV r (some ⟨b1, d1, none⟩) c, .slice L ls.length lc] w (Did (opsR r ls) w) := by
  have h36 := ra_len hr
  have hl5 : ls.length ≤ 5 := by
    unfold opsB at hB
    exact of_decide_eq_true (Bool.and_eq_true_iff.1 hB).2
  have hall : ls.all opB = true := by
    unfold opsB at hB
    exact (Bool.and_eq_true_iff.1 hB).1
  have hb0 : Below w.heap.size w ((w.alloc (.cells #[.int .i64 (r.w : Int), .int .i64 (r.h : Int), .slice (some ⟨b1, d1, none⟩) r.p.length c] 30)).alloc (.cells #[.int .i64 0, .int .i64 0, .slice none 0 0] 30)) := ((Below.refl _ w).alloc (Nat.le_refl _) _).alloc (by simp) _
  have hr0 : RasAtB ((w.alloc (.cells #[.int .i64 (r.w : Int), .int .i64 (r.h : Int), .slice (some ⟨b1, d1, none⟩) r.p.length c] 30)).alloc (.cells #[.int .i64 0, .int .i64 0, .slice none 0 0] 30)) w.heap.size r.w r.h (some ⟨b1, d1, none⟩) r.p.length c 30 := Box.alloc (Box.new w _ _) _
  have hz0 : RasAtB ((w.alloc (.cells #[.int .i64 (r.w : Int), .int .i64 (r.h : Int), .slice (some ⟨b1, d1, none⟩) r.p.length c] 30)).alloc (.cells #[.int .i64 0, .int .i64 0, .slice none 0 0] 30)) (w.heap.size + 1) 0 0 none 0 0 30 := by
    have := Box.new (w.alloc (.cells #[.int .i64 (r.w : Int), .int .i64 (r.h : Int), .slice (some ⟨b1, d1, none⟩) r.p.length c] 30)) #[.int .i64 0, .int .i64 0, .slice none 0 0] 30
    rw [show (w.alloc (.cells #[.int .i64 (r.w : Int), .int .i64 (r.h : Int), .slice (some ⟨b1, d1, none⟩) r.p.length c] 30)).heap.size = w.heap.size + 1 from by simp] at this
    exact this
  have CR := Lib.hid fun u hh => specRasOk_any r.w r.h (some ⟨b1, d1, none⟩) c r.p u (by omega) hh
  rw [show rasB r.w r.h r.p = true from hr] at CR
  have CO := Lib.hid fun u hh => specL6All_any L lc ls u (by omega) hh
  rw [hB] at CO
  have HB0 := Lib.hid hb0
  have HR0 := Lib.hid hr0
  have HZ0 := Lib.hid hz0
  have HH := Lib.hid h
  have HLS := Lib.hid fun u hb => hL.carry (w' := u) hb (Nat.le_refl _) hb.size
  have HOK := Lib.hid (And.intro hr (And.intro hall (And.intro h36 hc)))
  obtain ⟨N, hN⟩ : ∃ N, ls.length = N := ⟨_, rfl⟩
  have HN := Lib.hid hN
  rw [hN] at hl5 CO ⊢
  unfold raV rasV at *
  clear hb0 hr0 hz0 h hL hr hB hall h36 hc hN
  go_enter Tryd.func12, Tryd.ntmps12
  go_wp2_with fail
  generalize ((w.alloc (.cells #[.int .i64 (r.w : Int), .int .i64 (r.h : Int), .slice (some ⟨b1, d1, none⟩) r.p.length c] 30)).alloc (.cells #[.int .i64 0, .int .i64 0, .slice none 0 0] 30)) = w0 at *
  have r0 := RasAtB.c0 HR0.out
  have r1 := RasAtB.c1 HR0.out
  have r2 := RasAtB.c2 HR0.out
  go_wp2_with fail
  refine (CR.out _ (HH.out.carry HB0.out (Nat.le_refl _) HB0.out.size)).mono ?_
  rintro e w1 ⟨rfl, c1⟩
  have HB1 := Lib.hid (HB0.out.trans (c1.mono HB0.out.size))
  have HZ1 := Lib.hid (Box.below HZ0.out c1 (Box.lt HZ0.out))
  have HR1 := Lib.hid (Box.below HR0.out c1 (Box.lt HR0.out))
  clear c1 r0 r1 r2 HB0 HZ0 HR0 CR
  go_wp2_with fail
  refine (CO.out _ (HLS.out _ HB1.out)).mono ?_
  rintro e w2 ⟨rfl, c2⟩
  have HB2 := Lib.hid (HB1.out.trans (c2.mono HB1.out.size))
  have HZ2 := Lib.hid (Box.below HZ1.out c2 (Box.lt HZ1.out))
  have HR2 := Lib.hid (Box.below HR1.out c2 (Box.lt HR1.out))
  clear c2 HB1 HZ1 HR1 CO
  have r0 := RasAtB.c0 HR2.out
  have r1 := RasAtB.c1 HR2.out
  have r2 := RasAtB.c2 HR2.out
  go_wp2_with fail
  refine (l3Copy_any r b1 d1 c w2 HOK.out.2.2.1.2 (HH.out.carry HB2.out (Nat.le_refl _) HB2.out.size)).mono ?_
  rintro e w2' ⟨A3, c3, rfl, hc3, ho3', c3a⟩
  clear r0 r1 r2
  have HG3 : Hid (w2'.heap.size = w2'.heap.size) := Lib.hid rfl
  obtain ⟨g, hg⟩ : ∃ g, w2'.heap.size = g := ⟨_, rfl⟩
  have hb3 : RasAtB (w2'.alloc (.cells #[.int .i64 (r.w : Int), .int .i64 (r.h : Int), .slice A3 r.p.length c3] 30)) g r.w r.h A3 r.p.length c3 30 := by rw [← hg]; exact Box.new w2' _ _
  have hn3 : ∀ q, (Value.slice A3 r.p.length c3).ownBlock = some q → q ≠ g := fun q e => by have := (World.ownsRow.lt ho3' q e).2; omega
  have ho3 : OwnP (w2'.alloc (.cells #[.int .i64 (r.w : Int), .int .i64 (r.h : Int), .slice A3 r.p.length c3] 30)) w2.heap.size (.slice A3 r.p.length c3) r.p := ho3'.alloc _
  have hg3 : w2.heap.size ≤ g := by rw [← hg]; exact c3a.size
  have c3b : Below w2.heap.size w2 (w2'.alloc (.cells #[.int .i64 (r.w : Int), .int .i64 (r.h : Int), .slice A3 r.p.length c3] 30)) := c3a.alloc c3a.size _
  have HB3 := Lib.hid (HB2.out.trans (c3b.mono HB2.out.size))
  have HZ3 := Lib.hid (Box.below HZ2.out c3b (Box.lt HZ2.out))
  have hz2 := Box.lt HZ2.out
  have H3 := Lib.hid (And.intro hb3 (And.intro ho3 (And.intro hn3 hg3)))
  clear c3b c3a HB2 HZ2 HR2 HH HG3 ho3' hb3 ho3 hn3 hg3
  go_wp2_with fail
  generalize w2'.alloc (.cells #[.int .i64 (r.w : Int), .int .i64 (r.h : Int), .slice A3 r.p.length c3] 30) = w3 at *
  obtain ⟨hb3, ho3, hn3, hg3⟩ := H3.out
  clear H3 hg
  have HG := Lib.hid (And.intro hg3 hz2)
  clear hg3 hz2
  go_loopw [7] (fun v wr => ∃ (k : Nat) (rk : Ra) (A : Option Addr) (cc : Nat), k ≤ N ∧ v = .int .i64 (k : Int) ∧ opsR r (ls.take k) = some rk ∧ RasAtB wr g rk.w rk.h A rk.p.length cc 30 ∧ rk.p.length ≤ cc ∧ OwnP wr w2.heap.size (.slice A rk.p.length cc) rk.p ∧ (∀ q, (Value.slice A rk.p.length cc).ownBlock = some q → q ≠ g) ∧ RasAtB wr (w.heap.size + 1) 0 0 none 0 0 30 ∧ Below w.heap.size w wr ∧ w2.heap.size ≤ wr.heap.size) (fun v _ => N - (intOf v).toNat)
  case atStart => exact ⟨0, r, A3, c3, Nat.zero_le _, rfl, rfl, hb3, hc3, ho3, hn3, HZ3.out, HB3.out, by have := Box.lt hb3; have := HG.out.1; omega⟩
  case round =>
    clear hb3 hc3 ho3 hn3 HZ3 HB3
    obtain ⟨k, rk, A, cc, hk, rfl, hop, hbx, hcc, hown, hne, hzz, hbel, hsz⟩ := hrel
    have hrk : rk.ok := opsR_ok HOK.out.1 (by
      rw [List.all_eq_true]
      intro y hy
      exact List.all_eq_true.1 HOK.out.2.1 y (List.mem_of_mem_take hy)) hop
    have HOP := Lib.hid hop
    have HBX := Lib.hid hbx
    have HCC := Lib.hid hcc
    have HOW := Lib.hid hown
    have HNE := Lib.hid hne
    have HZZ := Lib.hid hzz
    have HBE := Lib.hid hbel
    have HSZ := Lib.hid hsz
    have HRK := Lib.hid hrk
    clear hop hbx hcc hown hne hzz hbel hsz hrk
    by_cases hlt : k < N
    · obtain ⟨x, hx⟩ : ∃ x, ls[k]? = some x := ⟨_, List.getElem?_eq_getElem (by rw [HN.out]; exact hlt)⟩
      have HX := Lib.hid hx
      have hox : opB x = true := List.all_eq_true.1 HOK.out.2.1 x (List.mem_of_getElem? hx)
      have HOX := Lib.hid hox
      have hkI : (0 : Int) ≤ (k : Int) ∧ (k : Int) < (N : Int) := by omega
      obtain ⟨bl, dl, x', rfl, hbl, hx', hcs⟩ := (HLS.out wr HBE.out).spot (k := k) (by rw [HN.out]; exact hlt)
      obtain rfl : x = x' := Option.some.inj (hx.symm.trans hx')
      have q0 := hcs 0 _ rfl
      have q1 := hcs 1 _ rfl
      have q2 := hcs 2 _ rfl
      have q3 := hcs 3 _ rfl
      have q4 := hcs 4 _ rfl
      simp only [show opE.n = 5 from rfl, Nat.add_zero] at q0 q1 q2 q3 q4
      clear hcs hx'
      obtain ⟨d, hd⟩ : ∃ d, doR rk x = d := ⟨_, rfl⟩
      obtain ⟨s, hs⟩ : ∃ s, d.getD ra0 = s := ⟨_, rfl⟩
      obtain ⟨b, hb⟩ : ∃ b, d.isSome = b := ⟨_, rfl⟩
      have HD := Lib.hid (And.intro hd (And.intro hs hb))
      clear hx hox hd hs hb
      have HBX5 := Lib.hid HBX.out
      have HZZ5 := HZZ
      have HH5 := Lib.hid HOW.out.reads
      have HBE5 := HBE
      have HSZ5 := HSZ
      have HBL := Lib.hid hbl
      have HLL := Lib.hid (And.intro q0 (And.intro q1 (And.intro q2 (And.intro q3 q4))))
      clear HBX HZZ HOW HBE HSZ HNE q0 q1 q2 q3 q4 hbl
      go_wp2_with fail
      refine opsDoS_r7 g bl dl N lc k rk A cc x d s b HBX5.out HH5.out HCC.out HRK.out HOX.out HBL.out HLL.out hlt HD.out.1 HD.out.2.1 HD.out.2.2 (fun _ _ _ _ _ h => h) (Lib.hid ?_)
      intro g9 A6 c6 y0 y1 y2 y3 y4 y5 y6 y7 y8 w6 hLd
      obtain ⟨hb6, hc6, ho6, hn6, hg6, c6b⟩ := hLd
      have HBX6 := Lib.hid (Box.below HBX5.out c6b (Box.lt HBX5.out))
      have HZZ6 := Lib.hid (Box.below HZZ5.out c6b (Box.lt HZZ5.out))
      have HBE6 := Lib.hid (HBE5.out.trans (c6b.mono HBE5.out.size))
      have HSZ6 : Hid (w2.heap.size ≤ w6.heap.size) := Lib.hid (Nat.le_trans HSZ5.out c6b.size)
      have hgl : g < wr.heap.size := Box.lt HBX5.out
      have HGL := Lib.hid (And.intro hgl hg6)
      have HB6 := Lib.hid hb6
      have HO6 := Lib.hid ho6
      have HC6 := Lib.hid hc6
      clear hb6 hc6 ho6 hn6 hg6 c6b hgl HBX5 HZZ5 HBE5 HH5
      obtain ⟨hd, hs, hb⟩ := HD.out
      cases d with
      | none =>
        obtain rfl : b = false := hb.symm
        have HNO := Lib.hid (opsR_none HX.out HOP.out hd)
        have z0 := RasAtB.c0 HZZ6.out
        have z1 := RasAtB.c1 HZZ6.out
        have z2 := RasAtB.c2 HZZ6.out
        have f0 := RasAtB.free HZZ6.out 0
        have f1 := RasAtB.free HZZ6.out 1
        have f2 := RasAtB.free HZZ6.out 2
        clear hd hs hb
        go_wp2_with fail
        (try simp only [Exit.inBlock, Exit.then])
        refine bodyPost_ret (results_row_tmp rfl _ _ (w.heap.size + 1) 30 #[.int .i64 0, .int .i64 0, .slice none 0 0] (0, 0) _ (.bool false) rfl rfl (fin_ras HZZ6.out _ _ _) Tryd.underlying30 rfl (by kernel_rfl)) rfl ?_
        rw [HNO.out]
        exact ⟨none, 0, rfl, Nat.le_refl _, ownP_nil _ _, ((HBE6.out.setCell (by simp) _).setCell (by simp) _).setCell (by simp) _⟩
      | some s' =>
        obtain rfl : b = true := hb.symm
        obtain rfl : s' = s := hs
        have HNX : Hid (opsR r (ls.take (k + 1)) = some s') := Lib.hid ((opsR_next HX.out HOP.out).trans hd)
        have v0 := RasAtB.c0 HB6.out
        have v1 := RasAtB.c1 HB6.out
        have v2 := RasAtB.c2 HB6.out
        have z0 := RasAtB.c0 HBX6.out
        have z1 := RasAtB.c1 HBX6.out
        have z2 := RasAtB.c2 HBX6.out
        have f0 := RasAtB.free HBX6.out 0
        have f1 := RasAtB.free HBX6.out 1
        have f2 := RasAtB.free HBX6.out 2
        have hg9 : ¬ g9 = g := by have := HGL.out; omega
        have HS1 := Lib.hid (fin_ras HBX6.out (.int .i64 (s'.w : Int)) (.int .i64 (s'.h : Int)) (.slice A6 s'.p.length c6))
        have hzg : g ≠ w.heap.size + 1 := by have := HG.out; omega
        have HS2 := Lib.hid (Box.set_other (b := g) (Box.set_other (b := g) (Box.set_other (b := g) HZZ6.out hzg 0 (.int .i64 (s'.w : Int))) hzg 1 (.int .i64 (s'.h : Int))) hzg 2 (.slice A6 s'.p.length c6))
        have HS3 := Lib.hid (((OwnP.set_low (b := g) (OwnP.set_low (b := g) (OwnP.set_low (b := g) HO6.out HGL.out.1 0 (.int .i64 (s'.w : Int))) HGL.out.1 1 (.int .i64 (s'.h : Int))) HGL.out.1 2 (.slice A6 s'.p.length c6))).lower HSZ5.out)
        have HS4 : Hid (∀ q, (Value.slice A6 s'.p.length c6).ownBlock = some q → q ≠ g) := Lib.hid fun q e => by have := (World.ownsRow.lt HO6.out q e).1; have := HGL.out.1; omega
        have hgw : w.heap.size ≤ g := by have := HG.out; omega
        have HS5 := Lib.hid (((HBE6.out.setCell (p := ⟨g, 0, none⟩) hgw (.int .i64 (s'.w : Int))).setCell (p := ⟨g, 1, none⟩) hgw (.int .i64 (s'.h : Int))).setCell (p := ⟨g, 2, none⟩) hgw (.slice A6 s'.p.length c6))
        clear hd hb hzg hgw
        go_wp2_with fail
        go_roundw
        case rel => exact ⟨k + 1, s', A6, c6, by omega, by go_num, HNX.out, HS1.out, HC6.out, HS3.out, HS4.out, HS2.out, HS5.out, by simpa using HSZ6.out⟩
        case measure => simp [intOf]; omega
    · obtain rfl : k = N := by omega
      have hop := HOP.out
      rw [← HN.out, List.take_length] at hop
      have HOP2 := Lib.hid hop
      have v0 := RasAtB.c0 HBX.out
      have v1 := RasAtB.c1 HBX.out
      have v2 := RasAtB.c2 HBX.out
      have z0 := RasAtB.c0 HZZ.out
      have z1 := RasAtB.c1 HZZ.out
      have z2 := RasAtB.c2 HZZ.out
      have f0 := RasAtB.free HZZ.out 0
      have f1 := RasAtB.free HZZ.out 1
      have f2 := RasAtB.free HZZ.out 2
      have hg9 : ¬ g = w.heap.size + 1 := by have := HG.out; omega
      clear hop hk hlt
      go_wp2_with fail
      (try simp only [Exit.inBlock, Exit.then])
      refine bodyPost_ret (results_row_tmp rfl _ _ (w.heap.size + 1) 30 #[.int .i64 (rk.w : Int), .int .i64 (rk.h : Int), .slice A rk.p.length cc] (0, 0) _ (.bool true) rfl rfl (fin_ras HZZ.out _ _ _) Tryd.underlying30 rfl (by kernel_rfl)) rfl ?_
      rw [HOP2.out]
      have hw1 : w.heap.size + 1 < w2.heap.size := HG.out.2
      exact ⟨A, cc, rfl, HCC.out, (OwnP.set_low (b := w.heap.size + 1) (OwnP.set_low (b := w.heap.size + 1) (OwnP.set_low (b := w.heap.size + 1) HOW.out hw1 0 _) hw1 1 _) hw1 2 _).lower (by omega), ((HBE.out.setCell (by simp) _).setCell (by simp) _).setCell (by simp) _⟩
theorem implOpsDo_any (W H : Int) (A : Option Addr) (c : Nat) (l : List Px) (L : Option Addr) (lc : Nat) (ls : List Op) (w : World) (hR : RangesIn w) (hs : l.length ≤ 1073741824) (hls : ls.length ≤ 1073741824) (hc : l.length ≤ c) (h : HasP w w.heap.size A l) (hL : opE.Has w w.heap.size L ls) :
    Calls Tryd.prog 15 #[rasV W H A l.length c, .slice L ls.length lc] w (Did (putsO W H l ls) w) := by
  unfold putsO
  cases hq : (rasB W H l && opsB ls)
  · exact implOpsDo_bad W H A c l L lc ls w hR hs hls h hL hq
  · obtain ⟨h1, h2⟩ := Bool.and_eq_true_iff.1 hq
    obtain ⟨g1, g2, -, -⟩ := rasB_parts h1
    obtain ⟨r, e1, e2, e3⟩ : ∃ r : Ra, W = (r.w : Int) ∧ H = (r.h : Int) ∧ l = r.p := ⟨⟨W.toNat, H.toNat, l⟩, by simp only; omega, by simp only; omega, rfl⟩
    subst e1 e2 e3
    have hok : r.ok := h1
    obtain ⟨b1, d1, rfl⟩ : ∃ b d, A = some ⟨b, d, none⟩ := by
      obtain ⟨b, d, _, e, _⟩ := h.spot (k := 0) (by have := ra_len hok; omega)
      exact ⟨b, d, e⟩
    rw [if_pos rfl]
    exact implOpsDo_good r b1 d1 c L lc ls w hR hok h2 hc h hL
theorem specOpsDo_any (W H : Int) (A : Option Addr) (c : Nat) (l : List Px) (L : Option Addr) (lc : Nat) (ls : List Op) (w : World) (hs : l.length ≤ 1073741824) (hls : ls.length ≤ 1073741824) (hc : l.length ≤ c) (h : HasP w w.heap.size A l) (hL : opE.Has w w.heap.size L ls) :
    Calls Tryd.prog 12 #[rasV W H A l.length c, .slice L ls.length lc] w (Did (putsO W H l ls) w) := by
  unfold putsO
  cases hq : (rasB W H l && opsB ls)
  · exact specOpsDo_bad W H A c l L lc ls w hs hls h hL hq
  · obtain ⟨h1, h2⟩ := Bool.and_eq_true_iff.1 hq
    obtain ⟨g1, g2, -, -⟩ := rasB_parts h1
    obtain ⟨r, e1, e2, e3⟩ : ∃ r : Ra, W = (r.w : Int) ∧ H = (r.h : Int) ∧ l = r.p := ⟨⟨W.toNat, H.toNat, l⟩, by simp only; omega, by simp only; omega, rfl⟩
    subst e1 e2 e3
    have hok : r.ok := h1
    obtain ⟨b1, d1, rfl⟩ : ∃ b d, A = some ⟨b, d, none⟩ := by
      obtain ⟨b, d, _, e, _⟩ := h.spot (k := 0) (by have := ra_len hok; omega)
      exact ⟨b, d, e⟩
    rw [if_pos rfl]
    exact specOpsDo_good r b1 d1 c L lc ls w hok h2 hc h hL
end Go.Proofs.YtiemlakjallphabDoor
