/-
  The law FnOpSizeBoth returns true for every lists of bytes to draw from. Condition: the table of ranges reads as the program's text lays it.
-/
import Derived.Test.YthdggnfffebnlaaDoorRanL
import Derived.Test.YthdggnfffebnlaaDoorDrawOpA
import Derived.Test.YthdggnfffebnlaaDoorEaC
import Derived.Test.YthdggnfffebnlaaDoorRegL
import Derived.Test.YthdggnfffebnlaaDoorRasS
import Derived.Test.YthdggnfffebnlaaDoorRegM
namespace Go.Proofs.YthdggnfffebnlaaDoor
set_option maxRecDepth 4000
open Go.RowKit

set_option maxHeartbeats 8000000 in
theorem fnOpSizeBoth_small (A : Option Addr) (c : Nat) (l : List UInt8) (A2 : Option Addr) (c2 : Nat) (l2 : List UInt8) (w : World) (hR : RangesIn w) (h : Has w w.heap.size A l) (hc : l.length ≤ c) (hs : l.length ≤ 1048576) (hs2 : l2.length ≤ 1048576) :
    Calls Tryd.prog 10 #[.slice A l.length c, .slice A2 l2.length c2] w fun e w' => e = .returned (.bool true) ∧ Below w.heap.size w w' := by
  have C1 := Lib.hid (drawOpDo_any A c l w (by omega) hc h)
  have HRW := Lib.hid hR
  have hl0 : ¬ ((1048576 : Int) < (l.length : Int)) := by omega
  have hl2 : ¬ ((1048576 : Int) < (l2.length : Int)) := by omega
  clear h hs hc hR hs2
  go_enter Tryd.func10, Tryd.ntmps10
  go_wp2_with fail
  refine C1.out.mono ?_
  rintro e w1 ⟨W, H, A1, c1, l1, q, rfl, hh1, hc1, hl1, B1⟩
  have CSK := Lib.hid fun u hh => specRasOk_any W H A1 c1 l1 u (by omega) hh
  have CIK := Lib.hid fun u hh => implRasOk_any W H A1 c1 l1 u (by omega) hh
  unfold rasV at CSK CIK ⊢
  unfold Op.v
  have b2 : Below w1.heap.size w1 ((w1.alloc (.cells #[.int .i64 W, .int .i64 H, .slice A1 l1.length c1] 34)).alloc (.cells #[.int .i64 q.k, .int .i64 q.a, .int .i64 q.b, .int .i64 q.c, .int .i64 q.d] 25)) := ((Below.refl _ w1).alloc (Nat.le_refl _) _).alloc (by simp) _
  have HRb2 : Hid (RasAtB ((w1.alloc (.cells #[.int .i64 W, .int .i64 H, .slice A1 l1.length c1] 34)).alloc (.cells #[.int .i64 q.k, .int .i64 q.a, .int .i64 q.b, .int .i64 q.c, .int .i64 q.d] 25)) w1.heap.size W H A1 l1.length c1 34) := Lib.hid (Box.alloc (Box.new w1 _ _) _)
  have HH2 := Lib.hid (hh1.carry b2 (Nat.le_refl _) b2.size)
  have HB2 := Lib.hid (B1.trans (b2.mono B1.size))
  clear b2 hh1 B1 C1
  go_wp2_with fail
  generalize ((w1.alloc (.cells #[.int .i64 W, .int .i64 H, .slice A1 l1.length c1] 34)).alloc (.cells #[.int .i64 q.k, .int .i64 q.a, .int .i64 q.b, .int .i64 q.c, .int .i64 q.d] 25)) = w2 at *
  have r0 := HRb2.out.c0
  have r1 := HRb2.out.c1
  have r2 := HRb2.out.c2
  go_wp2_with fail
  refine (CSK.out _ HH2.out).mono ?_
  rintro e w3 ⟨rfl, b3⟩
  have HRb3 := Lib.hid (HRb2.out.below b3 HRb2.out.lt)
  have HH3 := Lib.hid (HH2.out.carry b3 (Nat.le_refl _) b3.size)
  have HB3 := Lib.hid (HB2.out.trans (b3.mono HB2.out.size))
  have HR3 := Lib.hid (HRW.out.below HB3.out HRW.out.1)
  clear b3 r0 r1 r2 HRb2  HH2 HB2 CSK
  cases hok : rasB W H l1
  · have CK := Lib.hid (CIK.out w3 HH3.out)
    rw [hok] at CK
    have r0 := HRb3.out.c0
    have r1 := HRb3.out.c1
    have r2 := HRb3.out.c2
    clear hok
    go_wp2_with fail
    refine CK.out.mono ?_
    rintro e w4 ⟨rfl, b4⟩
    have HB4 := Lib.hid (HB3.out.trans (b4.mono HB3.out.size))
    clear b4
    go_wp2_with fail
    refine (eaOk_any _).mono ?_
    rintro e w5 ⟨rfl, b5⟩
    have HB5 := Lib.hid (HB4.out.trans (b5.mono HB4.out.size))
    clear b5
    go_wp2_with fail
    go_ret
    exact ⟨rfl, HB5.out⟩
  obtain ⟨r, rfl, rfl, rfl⟩ : ∃ r : Ra, W = (r.w : Int) ∧ H = (r.h : Int) ∧ l1 = r.p := by
    obtain ⟨hW, hH, -, -⟩ := rasB_parts hok
    exact ⟨⟨W.toNat, H.toNat, l1⟩, by simp only; omega, by simp only; omega, rfl⟩
  have hr : r.ok := hok
  have HRP := Lib.hid hr.parts
  obtain ⟨a, ha, hab⟩ : ∃ a : Nat, 1 + (l2.length : Int) % 6 = (a : Int) ∧ 1 ≤ a ∧ a ≤ 6 := ⟨1 + l2.length % 6, by omega, by omega, by omega⟩
  obtain ⟨b, hb, hbb⟩ : ∃ b : Nat, 1 + (l2.length : Int) / 7 % 6 = (b : Int) ∧ 1 ≤ b ∧ b ≤ 6 := ⟨1 + l2.length / 7 % 6, by omega, by omega, by omega⟩
  clear hok CIK hl1
  have HRr3 := HRb3
  have HHr3 := HH3
  have HRT3 := HR3
  clear HRb3 HH3 HR3
  have hW : 1 ≤ r.w ∧ r.w ≤ 6 := hr.parts.1
  have hH : 1 ≤ r.h ∧ r.h ≤ 6 := hr.parts.2.1
  have rc0 := RasAtB.c0 HRr3.out
  have rc1 := RasAtB.c1 HRr3.out
  have rc2 := RasAtB.c2 HRr3.out
  have CE4 : Hid (Calls Tryd.prog 23 #[.agg #[.int .i64 (r.w : Int), .int .i64 (r.h : Int), .slice A1 r.p.length c1], .slice (some ⟨w3.heap.size, 0, none⟩) 1 1] (w3.alloc (.cells #[.int .i64 7, .int .i64 (a : Int), .int .i64 (b : Int), .int .i64 0, .int .i64 0] 25)) (EaDid (sizeR r a b) (w3.alloc (.cells #[.int .i64 7, .int .i64 (a : Int), .int .i64 (b : Int), .int .i64 0, .int .i64 0] 25)))) := Lib.hid (by
    have bbel : Below w3.heap.size w3 (w3.alloc (.cells #[.int .i64 7, .int .i64 (a : Int), .int .i64 (b : Int), .int .i64 0, .int .i64 0] 25)) := ((Below.refl w3.heap.size w3).alloc (Nat.le_refl _) _)
    have hlst : opE.Has (w3.alloc (.cells #[.int .i64 7, .int .i64 (a : Int), .int .i64 (b : Int), .int .i64 0, .int .i64 0] 25)) (w3.alloc (.cells #[.int .i64 7, .int .i64 (a : Int), .int .i64 (b : Int), .int .i64 0, .int .i64 0] 25)).heap.size (some ⟨w3.heap.size, 0, none⟩) [sO (a : Int) (b : Int)] := by
      have := El.Has.laid opE w3 [sO (a : Int) (b : Int)] 25
      exact this.wider (by simp)
    have := eaDo_any r A1 c1 (some ⟨w3.heap.size, 0, none⟩) 1 [sO (a : Int) (b : Int)] _ hr (can_s hab hbb can_nil) (HRT3.out.next bbel) hc1 (HHr3.out.carry bbel (Nat.le_refl _) bbel.size) hlst (by simp)
    rw [ea_s hr _ hab hbb, eaR_nil] at this
    exact this)
  go_wp2_with fail
  refine CE4.out.mono ?_
  rintro e w4 ⟨v4, rfl, ⟨A4, c4, rfl, hc4, hh4⟩, b4⟩
  clear CE4
  clear rc0 rc1 rc2
  obtain ⟨x, hx⟩ : ∃ s, sizeR r a b = s := ⟨_, rfl⟩
  rw [hx] at hc4 hh4 ⊢
  have HEx := Lib.hid hx
  clear hx
  unfold raV rasV
  have bb4 : Below w3.heap.size w3 w4 := (((Below.refl w3.heap.size w3).alloc (Nat.le_refl _) (.cells #[.int .i64 7, .int .i64 (a : Int), .int .i64 (b : Int), .int .i64 0, .int .i64 0] 25))).trans (b4.mono (((Below.refl w3.heap.size w3).alloc (Nat.le_refl _) (.cells #[.int .i64 7, .int .i64 (a : Int), .int .i64 (b : Int), .int .i64 0, .int .i64 0] 25))).size)
  have bc4 : Below w3.heap.size w3 w4 := ((Below.refl w3.heap.size w3)).trans (bb4.mono ((Below.refl w3.heap.size w3)).size)
  have HRr4 : Hid (RasAtB w4 (w1.heap.size) r.w r.h A1 r.p.length c1 34) := Lib.hid (Box.below HRr3.out bc4 (RasAtB.lt HRr3.out))
  have HHr4 : Hid (HasP w4 w4.heap.size A1 r.p) := Lib.hid (HHr3.out.carry bc4 (Nat.le_refl _) bc4.size)
  have HB4 := Lib.hid (HB3.out.trans (bc4.mono HB3.out.size))
  have HRT4 : Hid (RangesIn w4) := Lib.hid (HRT3.out.next bc4)
  clear HRr3 HHr3 HB3 HRT3
  clear bb4 bc4
  have HHx4 : Hid (HasP w4 w4.heap.size A4 x.p) := Lib.hid hh4
  clear hh4 b4
  have HRx4 : Hid (RasAtB (w4.alloc (.cells #[.int .i64 (x.w : Int), .int .i64 (x.h : Int), .slice A4 x.p.length c4] 34)) (w4.heap.size) x.w x.h A4 x.p.length c4 34) := Lib.hid (Box.new w4 _ _)
  clear ha hb
  have rc0 := RasAtB.c0 HRr4.out
  have rc1 := RasAtB.c1 HRr4.out
  have rc2 := RasAtB.c2 HRr4.out
  have rn0 : w1.heap.size < w4.heap.size := by have := RasAtB.lt HRr4.out; omega
  have CE5 : Hid (Calls Tryd.prog 23 #[.agg #[.int .i64 (r.w : Int), .int .i64 (r.h : Int), .slice A1 r.p.length c1], .slice (some ⟨w4.heap.size + 1, 0, none⟩) 2 2] ((w4.alloc (.cells #[.int .i64 (x.w : Int), .int .i64 (x.h : Int), .slice A4 x.p.length c4] 34)).alloc (.cells #[.int .i64 7, .int .i64 (a : Int), .int .i64 (r.h : Int), .int .i64 0, .int .i64 0, .int .i64 7, .int .i64 (a : Int), .int .i64 (b : Int), .int .i64 0, .int .i64 0] 25)) (EaDid (sizeR r a b) ((w4.alloc (.cells #[.int .i64 (x.w : Int), .int .i64 (x.h : Int), .slice A4 x.p.length c4] 34)).alloc (.cells #[.int .i64 7, .int .i64 (a : Int), .int .i64 (r.h : Int), .int .i64 0, .int .i64 0, .int .i64 7, .int .i64 (a : Int), .int .i64 (b : Int), .int .i64 0, .int .i64 0] 25)))) := Lib.hid (by
    have bbel : Below w4.heap.size w4 ((w4.alloc (.cells #[.int .i64 (x.w : Int), .int .i64 (x.h : Int), .slice A4 x.p.length c4] 34)).alloc (.cells #[.int .i64 7, .int .i64 (a : Int), .int .i64 (r.h : Int), .int .i64 0, .int .i64 0, .int .i64 7, .int .i64 (a : Int), .int .i64 (b : Int), .int .i64 0, .int .i64 0] 25)) := (((Below.refl w4.heap.size w4).alloc (Nat.le_refl _) _).alloc (by simp) _)
    have hlst : opE.Has ((w4.alloc (.cells #[.int .i64 (x.w : Int), .int .i64 (x.h : Int), .slice A4 x.p.length c4] 34)).alloc (.cells #[.int .i64 7, .int .i64 (a : Int), .int .i64 (r.h : Int), .int .i64 0, .int .i64 0, .int .i64 7, .int .i64 (a : Int), .int .i64 (b : Int), .int .i64 0, .int .i64 0] 25)) ((w4.alloc (.cells #[.int .i64 (x.w : Int), .int .i64 (x.h : Int), .slice A4 x.p.length c4] 34)).alloc (.cells #[.int .i64 7, .int .i64 (a : Int), .int .i64 (r.h : Int), .int .i64 0, .int .i64 0, .int .i64 7, .int .i64 (a : Int), .int .i64 (b : Int), .int .i64 0, .int .i64 0] 25)).heap.size (some ⟨w4.heap.size + 1, 0, none⟩) [sO (a : Int) (r.h : Int), sO (a : Int) (b : Int)] := by
      have := El.Has.laid opE (w4.alloc (.cells #[.int .i64 (x.w : Int), .int .i64 (x.h : Int), .slice A4 x.p.length c4] 34)) [sO (a : Int) (r.h : Int), sO (a : Int) (b : Int)] 25
      rw [show (w4.alloc (.cells #[.int .i64 (x.w : Int), .int .i64 (x.h : Int), .slice A4 x.p.length c4] 34)).heap.size = w4.heap.size + 1 from by simp] at this
      exact this.wider (by simp)
    have := eaDo_any r A1 c1 (some ⟨w4.heap.size + 1, 0, none⟩) 2 [sO (a : Int) (r.h : Int), sO (a : Int) (b : Int)] _ hr (can_s hab hH (can_s hab hbb can_nil)) (HRT4.out.next bbel) hc1 (HHr4.out.carry bbel (Nat.le_refl _) bbel.size) hlst (by simp)
    rw [ea_s hr _ hab hH, ea_s (sizeR_ok hr hab hH) _ hab hbb, eaR_nil, size_first hr hab hbb] at this
    exact this)
  go_wp2_with fail
  refine CE5.out.mono ?_
  rintro e w5 ⟨v5, rfl, ⟨A5, c5, rfl, hc5, hh5⟩, b5⟩
  clear CE5
  clear rc0 rc1 rc2 rn0
  obtain ⟨y, hy⟩ : ∃ s, sizeR r a b = s := ⟨_, rfl⟩
  rw [hy] at hc5 hh5 ⊢
  have HEy := Lib.hid hy
  clear hy
  unfold raV rasV
  have bb5 : Below (w4.alloc (.cells #[.int .i64 (x.w : Int), .int .i64 (x.h : Int), .slice A4 x.p.length c4] 34)).heap.size (w4.alloc (.cells #[.int .i64 (x.w : Int), .int .i64 (x.h : Int), .slice A4 x.p.length c4] 34)) w5 := (((Below.refl (w4.alloc (.cells #[.int .i64 (x.w : Int), .int .i64 (x.h : Int), .slice A4 x.p.length c4] 34)).heap.size (w4.alloc (.cells #[.int .i64 (x.w : Int), .int .i64 (x.h : Int), .slice A4 x.p.length c4] 34))).alloc (Nat.le_refl _) (.cells #[.int .i64 7, .int .i64 (a : Int), .int .i64 (r.h : Int), .int .i64 0, .int .i64 0, .int .i64 7, .int .i64 (a : Int), .int .i64 (b : Int), .int .i64 0, .int .i64 0] 25))).trans (b5.mono (((Below.refl (w4.alloc (.cells #[.int .i64 (x.w : Int), .int .i64 (x.h : Int), .slice A4 x.p.length c4] 34)).heap.size (w4.alloc (.cells #[.int .i64 (x.w : Int), .int .i64 (x.h : Int), .slice A4 x.p.length c4] 34))).alloc (Nat.le_refl _) (.cells #[.int .i64 7, .int .i64 (a : Int), .int .i64 (r.h : Int), .int .i64 0, .int .i64 0, .int .i64 7, .int .i64 (a : Int), .int .i64 (b : Int), .int .i64 0, .int .i64 0] 25))).size)
  have bc5 : Below w4.heap.size w4 w5 := (((Below.refl w4.heap.size w4).alloc (Nat.le_refl _) _)).trans (bb5.mono (((Below.refl w4.heap.size w4).alloc (Nat.le_refl _) _)).size)
  have HRx5 : Hid (RasAtB w5 (w4.heap.size) x.w x.h A4 x.p.length c4 34) := Lib.hid (Box.below HRx4.out bb5 (RasAtB.lt HRx4.out))
  have HHx5 : Hid (HasP w5 w5.heap.size A4 x.p) := Lib.hid (HHx4.out.carry bc5 (Nat.le_refl _) bc5.size)
  have HRr5 : Hid (RasAtB w5 (w1.heap.size) r.w r.h A1 r.p.length c1 34) := Lib.hid (Box.below HRr4.out bc5 (RasAtB.lt HRr4.out))
  have HHr5 : Hid (HasP w5 w5.heap.size A1 r.p) := Lib.hid (HHr4.out.carry bc5 (Nat.le_refl _) bc5.size)
  have HB5 := Lib.hid (HB4.out.trans (bc5.mono HB4.out.size))
  have HRT5 : Hid (RangesIn w5) := Lib.hid (HRT4.out.next bc5)
  clear HRr4 HHr4 HRx4 HHx4 HB4 HRT4
  clear bb5 bc5
  have HHy5 : Hid (HasP w5 w5.heap.size A5 y.p) := Lib.hid hh5
  clear hh5 b5
  have HRy5 : Hid (RasAtB (w5.alloc (.cells #[.int .i64 (y.w : Int), .int .i64 (y.h : Int), .slice A5 y.p.length c5] 34)) (w5.heap.size) y.w y.h A5 y.p.length c5 34) := Lib.hid (Box.new w5 _ _)
  have rc0 := RasAtB.c0 HRr5.out
  have rc1 := RasAtB.c1 HRr5.out
  have rc2 := RasAtB.c2 HRr5.out
  have rn0 : w1.heap.size < w5.heap.size := by have := RasAtB.lt HRr5.out; omega
  have CE6 : Hid (Calls Tryd.prog 23 #[.agg #[.int .i64 (r.w : Int), .int .i64 (r.h : Int), .slice A1 r.p.length c1], .slice (some ⟨w5.heap.size + 1, 0, none⟩) 2 2] ((w5.alloc (.cells #[.int .i64 (y.w : Int), .int .i64 (y.h : Int), .slice A5 y.p.length c5] 34)).alloc (.cells #[.int .i64 7, .int .i64 (r.w : Int), .int .i64 (b : Int), .int .i64 0, .int .i64 0, .int .i64 7, .int .i64 (a : Int), .int .i64 (b : Int), .int .i64 0, .int .i64 0] 25)) (EaDid (sizeR r a b) ((w5.alloc (.cells #[.int .i64 (y.w : Int), .int .i64 (y.h : Int), .slice A5 y.p.length c5] 34)).alloc (.cells #[.int .i64 7, .int .i64 (r.w : Int), .int .i64 (b : Int), .int .i64 0, .int .i64 0, .int .i64 7, .int .i64 (a : Int), .int .i64 (b : Int), .int .i64 0, .int .i64 0] 25)))) := Lib.hid (by
    have bbel : Below w5.heap.size w5 ((w5.alloc (.cells #[.int .i64 (y.w : Int), .int .i64 (y.h : Int), .slice A5 y.p.length c5] 34)).alloc (.cells #[.int .i64 7, .int .i64 (r.w : Int), .int .i64 (b : Int), .int .i64 0, .int .i64 0, .int .i64 7, .int .i64 (a : Int), .int .i64 (b : Int), .int .i64 0, .int .i64 0] 25)) := (((Below.refl w5.heap.size w5).alloc (Nat.le_refl _) _).alloc (by simp) _)
    have hlst : opE.Has ((w5.alloc (.cells #[.int .i64 (y.w : Int), .int .i64 (y.h : Int), .slice A5 y.p.length c5] 34)).alloc (.cells #[.int .i64 7, .int .i64 (r.w : Int), .int .i64 (b : Int), .int .i64 0, .int .i64 0, .int .i64 7, .int .i64 (a : Int), .int .i64 (b : Int), .int .i64 0, .int .i64 0] 25)) ((w5.alloc (.cells #[.int .i64 (y.w : Int), .int .i64 (y.h : Int), .slice A5 y.p.length c5] 34)).alloc (.cells #[.int .i64 7, .int .i64 (r.w : Int), .int .i64 (b : Int), .int .i64 0, .int .i64 0, .int .i64 7, .int .i64 (a : Int), .int .i64 (b : Int), .int .i64 0, .int .i64 0] 25)).heap.size (some ⟨w5.heap.size + 1, 0, none⟩) [sO (r.w : Int) (b : Int), sO (a : Int) (b : Int)] := by
      have := El.Has.laid opE (w5.alloc (.cells #[.int .i64 (y.w : Int), .int .i64 (y.h : Int), .slice A5 y.p.length c5] 34)) [sO (r.w : Int) (b : Int), sO (a : Int) (b : Int)] 25
      rw [show (w5.alloc (.cells #[.int .i64 (y.w : Int), .int .i64 (y.h : Int), .slice A5 y.p.length c5] 34)).heap.size = w5.heap.size + 1 from by simp] at this
      exact this.wider (by simp)
    have := eaDo_any r A1 c1 (some ⟨w5.heap.size + 1, 0, none⟩) 2 [sO (r.w : Int) (b : Int), sO (a : Int) (b : Int)] _ hr (can_s hW hbb (can_s hab hbb can_nil)) (HRT5.out.next bbel) hc1 (HHr5.out.carry bbel (Nat.le_refl _) bbel.size) hlst (by simp)
    rw [ea_s hr _ hW hbb, ea_s (sizeR_ok hr hW hbb) _ hab hbb, eaR_nil, size_last hr hab hbb] at this
    exact this)
  go_wp2_with fail
  refine CE6.out.mono ?_
  rintro e w6 ⟨v6, rfl, ⟨A6, c6, rfl, hc6, hh6⟩, b6⟩
  clear CE6
  clear rc0 rc1 rc2 rn0
  obtain ⟨z, hz⟩ : ∃ s, sizeR r a b = s := ⟨_, rfl⟩
  rw [hz] at hc6 hh6 ⊢
  have HEz := Lib.hid hz
  clear hz
  unfold raV rasV
  have bb6 : Below (w5.alloc (.cells #[.int .i64 (y.w : Int), .int .i64 (y.h : Int), .slice A5 y.p.length c5] 34)).heap.size (w5.alloc (.cells #[.int .i64 (y.w : Int), .int .i64 (y.h : Int), .slice A5 y.p.length c5] 34)) w6 := (((Below.refl (w5.alloc (.cells #[.int .i64 (y.w : Int), .int .i64 (y.h : Int), .slice A5 y.p.length c5] 34)).heap.size (w5.alloc (.cells #[.int .i64 (y.w : Int), .int .i64 (y.h : Int), .slice A5 y.p.length c5] 34))).alloc (Nat.le_refl _) (.cells #[.int .i64 7, .int .i64 (r.w : Int), .int .i64 (b : Int), .int .i64 0, .int .i64 0, .int .i64 7, .int .i64 (a : Int), .int .i64 (b : Int), .int .i64 0, .int .i64 0] 25))).trans (b6.mono (((Below.refl (w5.alloc (.cells #[.int .i64 (y.w : Int), .int .i64 (y.h : Int), .slice A5 y.p.length c5] 34)).heap.size (w5.alloc (.cells #[.int .i64 (y.w : Int), .int .i64 (y.h : Int), .slice A5 y.p.length c5] 34))).alloc (Nat.le_refl _) (.cells #[.int .i64 7, .int .i64 (r.w : Int), .int .i64 (b : Int), .int .i64 0, .int .i64 0, .int .i64 7, .int .i64 (a : Int), .int .i64 (b : Int), .int .i64 0, .int .i64 0] 25))).size)
  have bc6 : Below w5.heap.size w5 w6 := (((Below.refl w5.heap.size w5).alloc (Nat.le_refl _) _)).trans (bb6.mono (((Below.refl w5.heap.size w5).alloc (Nat.le_refl _) _)).size)
  have HRy6 : Hid (RasAtB w6 (w5.heap.size) y.w y.h A5 y.p.length c5 34) := Lib.hid (Box.below HRy5.out bb6 (RasAtB.lt HRy5.out))
  have HHy6 : Hid (HasP w6 w6.heap.size A5 y.p) := Lib.hid (HHy5.out.carry bc6 (Nat.le_refl _) bc6.size)
  have HRr6 : Hid (RasAtB w6 (w1.heap.size) r.w r.h A1 r.p.length c1 34) := Lib.hid (Box.below HRr5.out bc6 (RasAtB.lt HRr5.out))
  have HHr6 : Hid (HasP w6 w6.heap.size A1 r.p) := Lib.hid (HHr5.out.carry bc6 (Nat.le_refl _) bc6.size)
  have HRx6 : Hid (RasAtB w6 (w4.heap.size) x.w x.h A4 x.p.length c4 34) := Lib.hid (Box.below HRx5.out bc6 (RasAtB.lt HRx5.out))
  have HHx6 : Hid (HasP w6 w6.heap.size A4 x.p) := Lib.hid (HHx5.out.carry bc6 (Nat.le_refl _) bc6.size)
  have HB6 := Lib.hid (HB5.out.trans (bc6.mono HB5.out.size))
  have HRT6 : Hid (RangesIn w6) := Lib.hid (HRT5.out.next bc6)
  clear HRr5 HHr5 HRx5 HHx5 HRy5 HHy5 HB5 HRT5
  clear bb6 bc6
  have HHz6 : Hid (HasP w6 w6.heap.size A6 z.p) := Lib.hid hh6
  clear hh6 b6
  have HRz6 : Hid (RasAtB (w6.alloc (.cells #[.int .i64 (z.w : Int), .int .i64 (z.h : Int), .slice A6 z.p.length c6] 34)) (w6.heap.size) z.w z.h A6 z.p.length c6 34) := Lib.hid (Box.new w6 _ _)
  obtain rfl : x = y := HEx.out.symm.trans HEy.out
  obtain rfl : x = z := HEx.out.symm.trans HEz.out
  have hx : x.ok := by rw [← HEx.out]; exact sizeR_ok hr hab hbb
  have hxl := ra_len hx
  have HXL := Lib.hid hxl
  have HXO : Hid (rasB x.w x.h x.p = true) := Lib.hid hx
  clear hx hxl hr hW hH
  have xc0 := RasAtB.c0 HRx6.out
  have xc1 := RasAtB.c1 HRx6.out
  have xc2 := RasAtB.c2 HRx6.out
  have yc0 := RasAtB.c0 HRy6.out
  have yc1 := RasAtB.c1 HRy6.out
  have yc2 := RasAtB.c2 HRy6.out
  have xn0 : w4.heap.size < w6.heap.size := by have := RasAtB.lt HRx6.out; omega
  have yn0 : w5.heap.size < w6.heap.size := by have := RasAtB.lt HRy6.out; omega
  have CK : Hid (Calls Tryd.prog 22 #[.agg #[.int .i64 (x.w : Int), .int .i64 (x.h : Int), .slice A4 x.p.length c4]] (w6.alloc (.cells #[.int .i64 (x.w : Int), .int .i64 (x.h : Int), .slice A6 x.p.length c6] 34)) (fun e w' => e = .returned (.bool true) ∧ Below (w6.alloc (.cells #[.int .i64 (x.w : Int), .int .i64 (x.h : Int), .slice A6 x.p.length c6] 34)).heap.size (w6.alloc (.cells #[.int .i64 (x.w : Int), .int .i64 (x.h : Int), .slice A6 x.p.length c6] 34)) w')) := Lib.hid (by
    have := implRasOk_any x.w x.h A4 c4 x.p (w6.alloc (.cells #[.int .i64 (x.w : Int), .int .i64 (x.h : Int), .slice A6 x.p.length c6] 34)) (by have := HXL.out; omega) (HHx6.out.carry ((Below.refl w6.heap.size w6).alloc (Nat.le_refl _) _) (Nat.le_refl _) (by simp))
    rw [HXO.out] at this
    exact this)
  go_wp2_with fail
  refine CK.out.mono ?_
  rintro e w7 ⟨rfl, b7⟩
  clear CK
  clear xc0 xc1 xc2 yc0 yc1 yc2 xn0 yn0
  have bb7 : Below (w6.alloc (.cells #[.int .i64 (x.w : Int), .int .i64 (x.h : Int), .slice A6 x.p.length c6] 34)).heap.size (w6.alloc (.cells #[.int .i64 (x.w : Int), .int .i64 (x.h : Int), .slice A6 x.p.length c6] 34)) w7 := ((Below.refl (w6.alloc (.cells #[.int .i64 (x.w : Int), .int .i64 (x.h : Int), .slice A6 x.p.length c6] 34)).heap.size (w6.alloc (.cells #[.int .i64 (x.w : Int), .int .i64 (x.h : Int), .slice A6 x.p.length c6] 34)))).trans (b7.mono ((Below.refl (w6.alloc (.cells #[.int .i64 (x.w : Int), .int .i64 (x.h : Int), .slice A6 x.p.length c6] 34)).heap.size (w6.alloc (.cells #[.int .i64 (x.w : Int), .int .i64 (x.h : Int), .slice A6 x.p.length c6] 34)))).size)
  have bc7 : Below w6.heap.size w6 w7 := (((Below.refl w6.heap.size w6).alloc (Nat.le_refl _) _)).trans (bb7.mono (((Below.refl w6.heap.size w6).alloc (Nat.le_refl _) _)).size)
  have HRz7 : Hid (RasAtB w7 (w6.heap.size) x.w x.h A6 x.p.length c6 34) := Lib.hid (Box.below HRz6.out bb7 (RasAtB.lt HRz6.out))
  have HHz7 : Hid (HasP w7 w7.heap.size A6 x.p) := Lib.hid (HHz6.out.carry bc7 (Nat.le_refl _) bc7.size)
  have HRr7 : Hid (RasAtB w7 (w1.heap.size) r.w r.h A1 r.p.length c1 34) := Lib.hid (Box.below HRr6.out bc7 (RasAtB.lt HRr6.out))
  have HHr7 : Hid (HasP w7 w7.heap.size A1 r.p) := Lib.hid (HHr6.out.carry bc7 (Nat.le_refl _) bc7.size)
  have HRx7 : Hid (RasAtB w7 (w4.heap.size) x.w x.h A4 x.p.length c4 34) := Lib.hid (Box.below HRx6.out bc7 (RasAtB.lt HRx6.out))
  have HHx7 : Hid (HasP w7 w7.heap.size A4 x.p) := Lib.hid (HHx6.out.carry bc7 (Nat.le_refl _) bc7.size)
  have HRy7 : Hid (RasAtB w7 (w5.heap.size) x.w x.h A5 x.p.length c5 34) := Lib.hid (Box.below HRy6.out bc7 (RasAtB.lt HRy6.out))
  have HHy7 : Hid (HasP w7 w7.heap.size A5 x.p) := Lib.hid (HHy6.out.carry bc7 (Nat.le_refl _) bc7.size)
  have HB7 := Lib.hid (HB6.out.trans (bc7.mono HB6.out.size))
  have HRT7 : Hid (RangesIn w7) := Lib.hid (HRT6.out.next bc7)
  clear HRr6 HHr6 HRx6 HHx6 HRy6 HHy6 HRz6 HHz6 HB6 HRT6
  clear bb7 bc7
  clear b7
  have xc0 := RasAtB.c0 HRx7.out
  have xc1 := RasAtB.c1 HRx7.out
  have xc2 := RasAtB.c2 HRx7.out
  have yc0 := RasAtB.c0 HRy7.out
  have yc1 := RasAtB.c1 HRy7.out
  have yc2 := RasAtB.c2 HRy7.out
  have CE8 : Hid (Calls Tryd.prog 25 #[.agg #[.int .i64 (x.w : Int), .int .i64 (x.h : Int), .slice A5 x.p.length c5], .agg #[.int .i64 (x.w : Int), .int .i64 (x.h : Int), .slice A4 x.p.length c4]] w7 (fun e w' => e = .returned (.bool true) ∧ Below w7.heap.size w7 w')) := Lib.hid (eaRas_same x.w x.h A5 A4 c5 c4 x.p w7 (by have := HXL.out; omega) HHy7.out HHx7.out)
  go_wp2_with fail
  refine CE8.out.mono ?_
  rintro e w8 ⟨rfl, b8⟩
  clear CE8
  clear xc0 xc1 xc2 yc0 yc1 yc2
  have bb8 : Below w7.heap.size w7 w8 := ((Below.refl w7.heap.size w7)).trans (b8.mono ((Below.refl w7.heap.size w7)).size)
  have bc8 : Below w7.heap.size w7 w8 := ((Below.refl w7.heap.size w7)).trans (bb8.mono ((Below.refl w7.heap.size w7)).size)
  have HRr8 : Hid (RasAtB w8 (w1.heap.size) r.w r.h A1 r.p.length c1 34) := Lib.hid (Box.below HRr7.out bc8 (RasAtB.lt HRr7.out))
  have HHr8 : Hid (HasP w8 w8.heap.size A1 r.p) := Lib.hid (HHr7.out.carry bc8 (Nat.le_refl _) bc8.size)
  have HRx8 : Hid (RasAtB w8 (w4.heap.size) x.w x.h A4 x.p.length c4 34) := Lib.hid (Box.below HRx7.out bc8 (RasAtB.lt HRx7.out))
  have HHx8 : Hid (HasP w8 w8.heap.size A4 x.p) := Lib.hid (HHx7.out.carry bc8 (Nat.le_refl _) bc8.size)
  have HRy8 : Hid (RasAtB w8 (w5.heap.size) x.w x.h A5 x.p.length c5 34) := Lib.hid (Box.below HRy7.out bc8 (RasAtB.lt HRy7.out))
  have HHy8 : Hid (HasP w8 w8.heap.size A5 x.p) := Lib.hid (HHy7.out.carry bc8 (Nat.le_refl _) bc8.size)
  have HRz8 : Hid (RasAtB w8 (w6.heap.size) x.w x.h A6 x.p.length c6 34) := Lib.hid (Box.below HRz7.out bc8 (RasAtB.lt HRz7.out))
  have HHz8 : Hid (HasP w8 w8.heap.size A6 x.p) := Lib.hid (HHz7.out.carry bc8 (Nat.le_refl _) bc8.size)
  have HB8 := Lib.hid (HB7.out.trans (bc8.mono HB7.out.size))
  have HRT8 : Hid (RangesIn w8) := Lib.hid (HRT7.out.next bc8)
  clear HRr7 HHr7 HRx7 HHx7 HRy7 HHy7 HRz7 HHz7 HB7 HRT7
  clear bb8 bc8
  clear b8
  have xc0 := RasAtB.c0 HRx8.out
  have xc1 := RasAtB.c1 HRx8.out
  have xc2 := RasAtB.c2 HRx8.out
  have zc0 := RasAtB.c0 HRz8.out
  have zc1 := RasAtB.c1 HRz8.out
  have zc2 := RasAtB.c2 HRz8.out
  have CE9 : Hid (Calls Tryd.prog 25 #[.agg #[.int .i64 (x.w : Int), .int .i64 (x.h : Int), .slice A6 x.p.length c6], .agg #[.int .i64 (x.w : Int), .int .i64 (x.h : Int), .slice A4 x.p.length c4]] w8 (fun e w' => e = .returned (.bool true) ∧ Below w8.heap.size w8 w')) := Lib.hid (eaRas_same x.w x.h A6 A4 c6 c4 x.p w8 (by have := HXL.out; omega) HHz8.out HHx8.out)
  go_wp2_with fail
  refine CE9.out.mono ?_
  rintro e w9 ⟨rfl, b9⟩
  clear CE9
  clear xc0 xc1 xc2 zc0 zc1 zc2
  have bb9 : Below w8.heap.size w8 w9 := ((Below.refl w8.heap.size w8)).trans (b9.mono ((Below.refl w8.heap.size w8)).size)
  have bc9 : Below w8.heap.size w8 w9 := ((Below.refl w8.heap.size w8)).trans (bb9.mono ((Below.refl w8.heap.size w8)).size)
  have HRr9 : Hid (RasAtB w9 (w1.heap.size) r.w r.h A1 r.p.length c1 34) := Lib.hid (Box.below HRr8.out bc9 (RasAtB.lt HRr8.out))
  have HHr9 : Hid (HasP w9 w9.heap.size A1 r.p) := Lib.hid (HHr8.out.carry bc9 (Nat.le_refl _) bc9.size)
  have HRx9 : Hid (RasAtB w9 (w4.heap.size) x.w x.h A4 x.p.length c4 34) := Lib.hid (Box.below HRx8.out bc9 (RasAtB.lt HRx8.out))
  have HHx9 : Hid (HasP w9 w9.heap.size A4 x.p) := Lib.hid (HHx8.out.carry bc9 (Nat.le_refl _) bc9.size)
  have HRy9 : Hid (RasAtB w9 (w5.heap.size) x.w x.h A5 x.p.length c5 34) := Lib.hid (Box.below HRy8.out bc9 (RasAtB.lt HRy8.out))
  have HHy9 : Hid (HasP w9 w9.heap.size A5 x.p) := Lib.hid (HHy8.out.carry bc9 (Nat.le_refl _) bc9.size)
  have HRz9 : Hid (RasAtB w9 (w6.heap.size) x.w x.h A6 x.p.length c6 34) := Lib.hid (Box.below HRz8.out bc9 (RasAtB.lt HRz8.out))
  have HHz9 : Hid (HasP w9 w9.heap.size A6 x.p) := Lib.hid (HHz8.out.carry bc9 (Nat.le_refl _) bc9.size)
  have HB9 := Lib.hid (HB8.out.trans (bc9.mono HB8.out.size))
  have HRT9 : Hid (RangesIn w9) := Lib.hid (HRT8.out.next bc9)
  clear HRr8 HHr8 HRx8 HHx8 HRy8 HHy8 HRz8 HHz8 HB8 HRT8
  clear bb9 bc9
  clear b9
  go_wp2_with fail
  go_ret
  exact ⟨rfl, HB9.out⟩
theorem fnOpSizeBoth_walk (A : Option Addr) (c : Nat) (l : List UInt8) (A2 : Option Addr) (c2 : Nat) (l2 : List UInt8) (w : World) (hR : RangesIn w) (h : Has w w.heap.size A l) (hc : l.length ≤ c) (_ : Has w w.heap.size A2 l2) (_ : l2.length ≤ c2) :
    Calls Tryd.prog 10 #[.slice A l.length c, .slice A2 l2.length c2] w fun e w' => e = .returned (.bool true) ∧ Below w.heap.size w w' := by
  by_cases hbig : l.length ≤ 1048576
  · by_cases hbig2 : l2.length ≤ 1048576
    · exact fnOpSizeBoth_small A c l A2 c2 l2 w hR h hc hbig hbig2
    · have hl0 : ¬ ((1048576 : Int) < (l.length : Int)) := by omega
      have hl2 : (1048576 : Int) < (l2.length : Int) := by omega
      clear h hc hbig hbig2
      go_enter Tryd.func10, Tryd.ntmps10
      go_wp2_with fail
      go_ret
      exact ⟨rfl, Below.refl _ _⟩
  · have hl0 : (1048576 : Int) < (l.length : Int) := by omega
    clear h hc hbig
    go_enter Tryd.func10, Tryd.ntmps10
    go_wp2_with fail
    go_ret
    exact ⟨rfl, Below.refl _ _⟩
end Go.Proofs.YthdggnfffebnlaaDoor
