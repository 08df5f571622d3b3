/-
  The law FnOpSizeTwice returns true for every lists of bytes to draw from. Condition: the table of ranges reads as the program's text lays it.
-/
import Derived.Test.YthdggnfffebnlaaDoorRanL
import Derived.Test.YthdggnfffebnlaaDoorDrawOpA
import Derived.Test.YthdggnfffebnlaaDoorEaC
import Derived.Test.YthdggnfffebnlaaDoorRegL
import Derived.Test.YthdggnfffebnlaaDoorRasS
import Derived.Test.YthdggnfffebnlaaDoorRegM
namespace Go.Proofs.YthdggnfffebnlaaDoor
set_option maxRecDepth 4000
open Go.RowKit

set_option maxHeartbeats 8000000 in
theorem fnOpSizeTwice_small (A : Option Addr) (c : Nat) (l : List UInt8) (A2 : Option Addr) (c2 : Nat) (l2 : List UInt8) (w : World) (hR : RangesIn w) (h : Has w w.heap.size A l) (hc : l.length ≤ c) (hs : l.length ≤ 1048576) (hs2 : l2.length ≤ 1048576) :
    Calls Tryd.prog 9 #[.slice A l.length c, .slice A2 l2.length c2] w fun e w' => e = .returned (.bool true) ∧ Below w.heap.size w w' := by
  have C1 := Lib.hid (drawOpDo_any A c l w (by omega) hc h)
  have HRW := Lib.hid hR
  have hl0 : ¬ ((1048576 : Int) < (l.length : Int)) := by omega
  have hl2 : ¬ ((1048576 : Int) < (l2.length : Int)) := by omega
  clear h hs hc hR hs2
  go_enter Tryd.func9, Tryd.ntmps9
  go_wp2_with fail
  refine C1.out.mono ?_
  rintro e w1 ⟨W, H, A1, c1, l1, q, rfl, hh1, hc1, hl1, B1⟩
  have CSK := Lib.hid fun u hh => specRasOk_any W H A1 c1 l1 u (by omega) hh
  have CIK := Lib.hid fun u hh => implRasOk_any W H A1 c1 l1 u (by omega) hh
  unfold rasV at CSK CIK ⊢
  unfold Op.v
  have b2 : Below w1.heap.size w1 ((w1.alloc (.cells #[.int .i64 W, .int .i64 H, .slice A1 l1.length c1] 34)).alloc (.cells #[.int .i64 q.k, .int .i64 q.a, .int .i64 q.b, .int .i64 q.c, .int .i64 q.d] 25)) := ((Below.refl _ w1).alloc (Nat.le_refl _) _).alloc (by simp) _
  have HRb2 : Hid (RasAtB ((w1.alloc (.cells #[.int .i64 W, .int .i64 H, .slice A1 l1.length c1] 34)).alloc (.cells #[.int .i64 q.k, .int .i64 q.a, .int .i64 q.b, .int .i64 q.c, .int .i64 q.d] 25)) w1.heap.size W H A1 l1.length c1 34) := Lib.hid (Box.alloc (Box.new w1 _ _) _)
  have HH2 := Lib.hid (hh1.carry b2 (Nat.le_refl _) b2.size)
  have HB2 := Lib.hid (B1.trans (b2.mono B1.size))
  clear b2 hh1 B1 C1
  go_wp2_with fail
  generalize ((w1.alloc (.cells #[.int .i64 W, .int .i64 H, .slice A1 l1.length c1] 34)).alloc (.cells #[.int .i64 q.k, .int .i64 q.a, .int .i64 q.b, .int .i64 q.c, .int .i64 q.d] 25)) = w2 at *
  have r0 := HRb2.out.c0
  have r1 := HRb2.out.c1
  have r2 := HRb2.out.c2
  go_wp2_with fail
  refine (CSK.out _ HH2.out).mono ?_
  rintro e w3 ⟨rfl, b3⟩
  have HRb3 := Lib.hid (HRb2.out.below b3 HRb2.out.lt)
  have HH3 := Lib.hid (HH2.out.carry b3 (Nat.le_refl _) b3.size)
  have HB3 := Lib.hid (HB2.out.trans (b3.mono HB2.out.size))
  have HR3 := Lib.hid (HRW.out.below HB3.out HRW.out.1)
  clear b3 r0 r1 r2 HRb2  HH2 HB2 CSK
  cases hok : rasB W H l1
  · have CK := Lib.hid (CIK.out w3 HH3.out)
    rw [hok] at CK
    have r0 := HRb3.out.c0
    have r1 := HRb3.out.c1
    have r2 := HRb3.out.c2
    clear hok
    go_wp2_with fail
    refine CK.out.mono ?_
    rintro e w4 ⟨rfl, b4⟩
    have HB4 := Lib.hid (HB3.out.trans (b4.mono HB3.out.size))
    clear b4
    go_wp2_with fail
    refine (eaOk_any _).mono ?_
    rintro e w5 ⟨rfl, b5⟩
    have HB5 := Lib.hid (HB4.out.trans (b5.mono HB4.out.size))
    clear b5
    go_wp2_with fail
    go_ret
    exact ⟨rfl, HB5.out⟩
  obtain ⟨r, rfl, rfl, rfl⟩ : ∃ r : Ra, W = (r.w : Int) ∧ H = (r.h : Int) ∧ l1 = r.p := by
    obtain ⟨hW, hH, -, -⟩ := rasB_parts hok
    exact ⟨⟨W.toNat, H.toNat, l1⟩, by simp only; omega, by simp only; omega, rfl⟩
  have hr : r.ok := hok
  have HRP := Lib.hid hr.parts
  obtain ⟨a, ha, hab⟩ : ∃ a : Nat, 1 + (l2.length : Int) % 6 = (a : Int) ∧ 1 ≤ a ∧ a ≤ 6 := ⟨1 + l2.length % 6, by omega, by omega, by omega⟩
  obtain ⟨b, hb, hbb⟩ : ∃ b : Nat, 1 + (l2.length : Int) / 7 % 6 = (b : Int) ∧ 1 ≤ b ∧ b ≤ 6 := ⟨1 + l2.length / 7 % 6, by omega, by omega, by omega⟩
  clear hok CIK hl1
  have HRr3 := HRb3
  have HHr3 := HH3
  have HRT3 := HR3
  clear HRb3 HH3 HR3
  have HOo3 : Hid (OpAtB (w3.alloc (.cells #[.int .i64 7, .int .i64 (a : Int), .int .i64 (b : Int), .int .i64 0, .int .i64 0] 25)) (w3.heap.size) (sO (a : Int) (b : Int))) := Lib.hid (Box.new w3 _ _)
  have rc0 := RasAtB.c0 HRr3.out
  have rc1 := RasAtB.c1 HRr3.out
  have rc2 := RasAtB.c2 HRr3.out
  have rn0 : w1.heap.size < w3.heap.size := by have := RasAtB.lt HRr3.out; omega
  have CE4 : Hid (Calls Tryd.prog 23 #[.agg #[.int .i64 (r.w : Int), .int .i64 (r.h : Int), .slice A1 r.p.length c1], .slice (some ⟨w3.heap.size + 1, 0, none⟩) 1 1] ((w3.alloc (.cells #[.int .i64 7, .int .i64 (a : Int), .int .i64 (b : Int), .int .i64 0, .int .i64 0] 25)).alloc (.cells #[.int .i64 7, .int .i64 (a : Int), .int .i64 (b : Int), .int .i64 0, .int .i64 0] 25)) (EaDid (sizeR r a b) ((w3.alloc (.cells #[.int .i64 7, .int .i64 (a : Int), .int .i64 (b : Int), .int .i64 0, .int .i64 0] 25)).alloc (.cells #[.int .i64 7, .int .i64 (a : Int), .int .i64 (b : Int), .int .i64 0, .int .i64 0] 25)))) := Lib.hid (by
    have bbel : Below w3.heap.size w3 ((w3.alloc (.cells #[.int .i64 7, .int .i64 (a : Int), .int .i64 (b : Int), .int .i64 0, .int .i64 0] 25)).alloc (.cells #[.int .i64 7, .int .i64 (a : Int), .int .i64 (b : Int), .int .i64 0, .int .i64 0] 25)) := (((Below.refl w3.heap.size w3).alloc (Nat.le_refl _) _).alloc (by simp) _)
    have hlst : opE.Has ((w3.alloc (.cells #[.int .i64 7, .int .i64 (a : Int), .int .i64 (b : Int), .int .i64 0, .int .i64 0] 25)).alloc (.cells #[.int .i64 7, .int .i64 (a : Int), .int .i64 (b : Int), .int .i64 0, .int .i64 0] 25)) ((w3.alloc (.cells #[.int .i64 7, .int .i64 (a : Int), .int .i64 (b : Int), .int .i64 0, .int .i64 0] 25)).alloc (.cells #[.int .i64 7, .int .i64 (a : Int), .int .i64 (b : Int), .int .i64 0, .int .i64 0] 25)).heap.size (some ⟨w3.heap.size + 1, 0, none⟩) [sO (a : Int) (b : Int)] := by
      have := El.Has.laid opE (w3.alloc (.cells #[.int .i64 7, .int .i64 (a : Int), .int .i64 (b : Int), .int .i64 0, .int .i64 0] 25)) [sO (a : Int) (b : Int)] 25
      rw [show (w3.alloc (.cells #[.int .i64 7, .int .i64 (a : Int), .int .i64 (b : Int), .int .i64 0, .int .i64 0] 25)).heap.size = w3.heap.size + 1 from by simp] at this
      exact this.wider (by simp)
    have := eaDo_any r A1 c1 (some ⟨w3.heap.size + 1, 0, none⟩) 1 [sO (a : Int) (b : Int)] _ hr (can_s hab hbb can_nil) (HRT3.out.next bbel) hc1 (HHr3.out.carry bbel (Nat.le_refl _) bbel.size) hlst (by simp)
    rw [ea_s hr _ hab hbb, eaR_nil] at this
    exact this)
  go_wp2_with fail
  refine CE4.out.mono ?_
  rintro e w4 ⟨v4, rfl, ⟨A4, c4, rfl, hc4, hh4⟩, b4⟩
  clear CE4
  clear rc0 rc1 rc2 rn0
  obtain ⟨x, hx⟩ : ∃ s, sizeR r a b = s := ⟨_, rfl⟩
  rw [hx] at hc4 hh4 ⊢
  have HEx := Lib.hid hx
  clear hx
  unfold raV rasV
  have bb4 : Below (w3.alloc (.cells #[.int .i64 7, .int .i64 (a : Int), .int .i64 (b : Int), .int .i64 0, .int .i64 0] 25)).heap.size (w3.alloc (.cells #[.int .i64 7, .int .i64 (a : Int), .int .i64 (b : Int), .int .i64 0, .int .i64 0] 25)) w4 := (((Below.refl (w3.alloc (.cells #[.int .i64 7, .int .i64 (a : Int), .int .i64 (b : Int), .int .i64 0, .int .i64 0] 25)).heap.size (w3.alloc (.cells #[.int .i64 7, .int .i64 (a : Int), .int .i64 (b : Int), .int .i64 0, .int .i64 0] 25))).alloc (Nat.le_refl _) (.cells #[.int .i64 7, .int .i64 (a : Int), .int .i64 (b : Int), .int .i64 0, .int .i64 0] 25))).trans (b4.mono (((Below.refl (w3.alloc (.cells #[.int .i64 7, .int .i64 (a : Int), .int .i64 (b : Int), .int .i64 0, .int .i64 0] 25)).heap.size (w3.alloc (.cells #[.int .i64 7, .int .i64 (a : Int), .int .i64 (b : Int), .int .i64 0, .int .i64 0] 25))).alloc (Nat.le_refl _) (.cells #[.int .i64 7, .int .i64 (a : Int), .int .i64 (b : Int), .int .i64 0, .int .i64 0] 25))).size)
  have bc4 : Below w3.heap.size w3 w4 := (((Below.refl w3.heap.size w3).alloc (Nat.le_refl _) _)).trans (bb4.mono (((Below.refl w3.heap.size w3).alloc (Nat.le_refl _) _)).size)
  have HOo4 : Hid (OpAtB w4 (w3.heap.size) (sO (a : Int) (b : Int))) := Lib.hid (Box.below HOo3.out bb4 (Box.lt HOo3.out))
  have HRr4 : Hid (RasAtB w4 (w1.heap.size) r.w r.h A1 r.p.length c1 34) := Lib.hid (Box.below HRr3.out bc4 (RasAtB.lt HRr3.out))
  have HHr4 : Hid (HasP w4 w4.heap.size A1 r.p) := Lib.hid (HHr3.out.carry bc4 (Nat.le_refl _) bc4.size)
  have HB4 := Lib.hid (HB3.out.trans (bc4.mono HB3.out.size))
  have HRT4 : Hid (RangesIn w4) := Lib.hid (HRT3.out.next bc4)
  clear HRr3 HHr3 HOo3 HB3 HRT3
  clear bb4 bc4
  have HHx4 : Hid (HasP w4 w4.heap.size A4 x.p) := Lib.hid hh4
  clear hh4 b4
  have HRx4 : Hid (RasAtB (w4.alloc (.cells #[.int .i64 (x.w : Int), .int .i64 (x.h : Int), .slice A4 x.p.length c4] 34)) (w4.heap.size) x.w x.h A4 x.p.length c4 34) := Lib.hid (Box.new w4 _ _)
  clear ha hb
  have rc0 := RasAtB.c0 HRr4.out
  have rc1 := RasAtB.c1 HRr4.out
  have rc2 := RasAtB.c2 HRr4.out
  have rn0 : w1.heap.size < w4.heap.size := by have := RasAtB.lt HRr4.out; omega
  have CE5 : Hid (Calls Tryd.prog 23 #[.agg #[.int .i64 (r.w : Int), .int .i64 (r.h : Int), .slice A1 r.p.length c1], .slice (some ⟨w4.heap.size + 1, 0, none⟩) 1 1] ((w4.alloc (.cells #[.int .i64 (x.w : Int), .int .i64 (x.h : Int), .slice A4 x.p.length c4] 34)).alloc (.cells #[.int .i64 7, .int .i64 1, .int .i64 1, .int .i64 0, .int .i64 0] 25)) (EaDid (sizeR r 1 1) ((w4.alloc (.cells #[.int .i64 (x.w : Int), .int .i64 (x.h : Int), .slice A4 x.p.length c4] 34)).alloc (.cells #[.int .i64 7, .int .i64 1, .int .i64 1, .int .i64 0, .int .i64 0] 25)))) := Lib.hid (by
    have bbel : Below w4.heap.size w4 ((w4.alloc (.cells #[.int .i64 (x.w : Int), .int .i64 (x.h : Int), .slice A4 x.p.length c4] 34)).alloc (.cells #[.int .i64 7, .int .i64 1, .int .i64 1, .int .i64 0, .int .i64 0] 25)) := (((Below.refl w4.heap.size w4).alloc (Nat.le_refl _) _).alloc (by simp) _)
    have hlst : opE.Has ((w4.alloc (.cells #[.int .i64 (x.w : Int), .int .i64 (x.h : Int), .slice A4 x.p.length c4] 34)).alloc (.cells #[.int .i64 7, .int .i64 1, .int .i64 1, .int .i64 0, .int .i64 0] 25)) ((w4.alloc (.cells #[.int .i64 (x.w : Int), .int .i64 (x.h : Int), .slice A4 x.p.length c4] 34)).alloc (.cells #[.int .i64 7, .int .i64 1, .int .i64 1, .int .i64 0, .int .i64 0] 25)).heap.size (some ⟨w4.heap.size + 1, 0, none⟩) [sO ((1 : Nat) : Int) ((1 : Nat) : Int)] := by
      have := El.Has.laid opE (w4.alloc (.cells #[.int .i64 (x.w : Int), .int .i64 (x.h : Int), .slice A4 x.p.length c4] 34)) [sO ((1 : Nat) : Int) ((1 : Nat) : Int)] 25
      rw [show (w4.alloc (.cells #[.int .i64 (x.w : Int), .int .i64 (x.h : Int), .slice A4 x.p.length c4] 34)).heap.size = w4.heap.size + 1 from by simp] at this
      exact this.wider (by simp)
    have := eaDo_any r A1 c1 (some ⟨w4.heap.size + 1, 0, none⟩) 1 [sO ((1 : Nat) : Int) ((1 : Nat) : Int)] _ hr (can_s (by decide) (by decide) can_nil) (HRT4.out.next bbel) hc1 (HHr4.out.carry bbel (Nat.le_refl _) bbel.size) hlst (by simp)
    rw [ea_s hr _ (by decide) (by decide), eaR_nil] at this
    exact this)
  go_wp2_with fail
  refine CE5.out.mono ?_
  rintro e w5 ⟨v5, rfl, ⟨A5, c5, rfl, hc5, hh5⟩, b5⟩
  clear CE5
  clear rc0 rc1 rc2 rn0
  obtain ⟨one, hone⟩ : ∃ s, sizeR r 1 1 = s := ⟨_, rfl⟩
  rw [hone] at hc5 hh5 ⊢
  have HEone := Lib.hid hone
  clear hone
  unfold raV rasV
  have bb5 : Below (w4.alloc (.cells #[.int .i64 (x.w : Int), .int .i64 (x.h : Int), .slice A4 x.p.length c4] 34)).heap.size (w4.alloc (.cells #[.int .i64 (x.w : Int), .int .i64 (x.h : Int), .slice A4 x.p.length c4] 34)) w5 := (((Below.refl (w4.alloc (.cells #[.int .i64 (x.w : Int), .int .i64 (x.h : Int), .slice A4 x.p.length c4] 34)).heap.size (w4.alloc (.cells #[.int .i64 (x.w : Int), .int .i64 (x.h : Int), .slice A4 x.p.length c4] 34))).alloc (Nat.le_refl _) (.cells #[.int .i64 7, .int .i64 1, .int .i64 1, .int .i64 0, .int .i64 0] 25))).trans (b5.mono (((Below.refl (w4.alloc (.cells #[.int .i64 (x.w : Int), .int .i64 (x.h : Int), .slice A4 x.p.length c4] 34)).heap.size (w4.alloc (.cells #[.int .i64 (x.w : Int), .int .i64 (x.h : Int), .slice A4 x.p.length c4] 34))).alloc (Nat.le_refl _) (.cells #[.int .i64 7, .int .i64 1, .int .i64 1, .int .i64 0, .int .i64 0] 25))).size)
  have bc5 : Below w4.heap.size w4 w5 := (((Below.refl w4.heap.size w4).alloc (Nat.le_refl _) _)).trans (bb5.mono (((Below.refl w4.heap.size w4).alloc (Nat.le_refl _) _)).size)
  have HRx5 : Hid (RasAtB w5 (w4.heap.size) x.w x.h A4 x.p.length c4 34) := Lib.hid (Box.below HRx4.out bb5 (RasAtB.lt HRx4.out))
  have HHx5 : Hid (HasP w5 w5.heap.size A4 x.p) := Lib.hid (HHx4.out.carry bc5 (Nat.le_refl _) bc5.size)
  have HRr5 : Hid (RasAtB w5 (w1.heap.size) r.w r.h A1 r.p.length c1 34) := Lib.hid (Box.below HRr4.out bc5 (RasAtB.lt HRr4.out))
  have HHr5 : Hid (HasP w5 w5.heap.size A1 r.p) := Lib.hid (HHr4.out.carry bc5 (Nat.le_refl _) bc5.size)
  have HOo5 : Hid (OpAtB w5 (w3.heap.size) (sO (a : Int) (b : Int))) := Lib.hid (Box.below HOo4.out bc5 (Box.lt HOo4.out))
  have HB5 := Lib.hid (HB4.out.trans (bc5.mono HB4.out.size))
  have HRT5 : Hid (RangesIn w5) := Lib.hid (HRT4.out.next bc5)
  clear HRr4 HHr4 HRx4 HHx4 HOo4 HB4 HRT4
  clear bb5 bc5
  have HHone5 : Hid (HasP w5 w5.heap.size A5 one.p) := Lib.hid hh5
  clear hh5 b5
  have HRone5 : Hid (RasAtB (w5.alloc (.cells #[.int .i64 (one.w : Int), .int .i64 (one.h : Int), .slice A5 one.p.length c5] 34)) (w5.heap.size) one.w one.h A5 one.p.length c5 34) := Lib.hid (Box.new w5 _ _)
  have hx : x.ok ∧ eaR x [sO (a : Int) (b : Int)] = x := by
    have hx0 : x.ok := by rw [← HEx.out]; exact sizeR_ok hr hab hbb
    refine ⟨hx0, ?_⟩
    rw [ea_s hx0 _ hab hbb, eaR_nil, ← HEx.out]
    exact size_twice hr hab hbb
  have hone : one.ok ∧ one.p.length = 1 ∧ one.at 0 0 = r.at (r.w / 2) (r.h / 2) := by
    have h0 : one.ok := by rw [← HEone.out]; exact sizeR_ok hr (by decide) (by decide)
    refine ⟨h0, ?_, ?_⟩
    · have := h0.parts.2.2.1
      rw [this, ← HEone.out]
      rfl
    · rw [← HEone.out, sizeR_at r (by decide) (by decide)]
      simp
  have HX := Lib.hid hx
  have HONE := Lib.hid hone
  have HOK := Lib.hid hr
  obtain ⟨hw1, hw6⟩ := hr.parts.1
  obtain ⟨hh1, hh6⟩ := hr.parts.2.1
  clear hx hone hr
  have HBN6 : Hid (Below w5.heap.size w5 (w5.alloc (.cells #[.int .i64 (one.w : Int), .int .i64 (one.h : Int), .slice A5 one.p.length c5] 34))) := Lib.hid ((Below.refl w5.heap.size w5).alloc (Nat.le_refl _) _)
  go_wp2_with fail
  generalize w5.alloc (.cells #[.int .i64 (one.w : Int), .int .i64 (one.h : Int), .slice A5 one.p.length c5] 34) = w6 at *
  have b6 := HBN6.out
  have HRone6 : Hid (RasAtB w6 (w5.heap.size) one.w one.h A5 one.p.length c5 34) := HRone5
  have HHone6 : Hid (HasP w6 w6.heap.size A5 one.p) := Lib.hid (HHone5.out.carry b6 (Nat.le_refl _) b6.size)
  have HRr6 : Hid (RasAtB w6 (w1.heap.size) r.w r.h A1 r.p.length c1 34) := Lib.hid (Box.below HRr5.out b6 (RasAtB.lt HRr5.out))
  have HHr6 : Hid (HasP w6 w6.heap.size A1 r.p) := Lib.hid (HHr5.out.carry b6 (Nat.le_refl _) b6.size)
  have HRx6 : Hid (RasAtB w6 (w4.heap.size) x.w x.h A4 x.p.length c4 34) := Lib.hid (Box.below HRx5.out b6 (RasAtB.lt HRx5.out))
  have HHx6 : Hid (HasP w6 w6.heap.size A4 x.p) := Lib.hid (HHx5.out.carry b6 (Nat.le_refl _) b6.size)
  have HOo6 : Hid (OpAtB w6 (w3.heap.size) (sO (a : Int) (b : Int))) := Lib.hid (Box.below HOo5.out b6 (Box.lt HOo5.out))
  have HB6 := Lib.hid (HB5.out.trans (b6.mono HB5.out.size))
  have HRT6 : Hid (RangesIn w6) := Lib.hid (HRT5.out.next b6)
  clear HRr5 HHr5 HRx5 HHx5 HRone5 HHone5 HOo5 HB5 HRT5
  clear b6 HBN6
  obtain ⟨b9, d9, p9, rfl, hbl9, hp9, hpx9⟩ := HHone6.out.spot (k := 0) (by rw [HONE.out.2.1]; decide)
  have HP9 : Hid (p9 = r.at (r.w / 2) (r.h / 2)) := Lib.hid (by
    rw [← HONE.out.2.2]
    unfold Ra.at
    rw [Nat.zero_mul, Nat.zero_add, hp9]
    rfl)
  have HPX := Lib.hid (And.intro hbl9 hpx9)
  clear hp9 hbl9 hpx9
  have hbd : Below w6.heap.size w6 w6.drew := below_draws ((Below.refl _ _)) 1
  have hRrb : RasAtB w6.drew (w1.heap.size) r.w r.h A1 r.p.length c1 34 := Box.below HRr6.out hbd (RasAtB.lt HRr6.out)
  have hHrb : HasP w6.drew w6.drew.heap.size A1 r.p := HHr6.out.carry hbd (Nat.le_refl _) hbd.size
  have hRxb : RasAtB w6.drew (w4.heap.size) x.w x.h A4 x.p.length c4 34 := Box.below HRx6.out hbd (RasAtB.lt HRx6.out)
  have hHxb : HasP w6.drew w6.drew.heap.size A4 x.p := HHx6.out.carry hbd (Nat.le_refl _) hbd.size
  have hRoneb : RasAtB w6.drew (w5.heap.size) one.w one.h (some ⟨b9, d9, none⟩) one.p.length c5 34 := Box.below HRone6.out hbd (RasAtB.lt HRone6.out)
  have hHoneb : HasP w6.drew w6.drew.heap.size (some ⟨b9, d9, none⟩) one.p := HHone6.out.carry hbd (Nat.le_refl _) hbd.size
  have hOob : OpAtB w6.drew (w3.heap.size) (sO (a : Int) (b : Int)) := Box.below HOo6.out hbd (Box.lt HOo6.out)
  have hRTb : RangesIn w6.drew := HRT6.out.next hbd
  have HBD := Lib.hid hbd
  clear hbd
  have HFS := Lib.hid (And.intro hRrb ( And.intro hHrb ( And.intro hRxb ( And.intro hHxb ( And.intro hRoneb ( And.intro hHoneb ( And.intro hOob (hRTb))))))))
  clear hRrb hHrb hRxb hHxb hRoneb hHoneb hOob hRTb
  go_wp2_with fail
  obtain ⟨hRrb, hHrb, hRxb, hHxb, hRoneb, hHoneb, hOob, hRTb⟩ := HFS.out
  clear HFS
  have hpx9 : PxAt w6.drew b9 (d9 + 0 * 4) p9 := HPX.out.2
  have hbl9 : b9 < w6.drew.heap.size := HPX.out.1
  have hRone1 : RasAtB w6.drew (w5.heap.size) one.w one.h (some ⟨b9, d9, none⟩) 1 c5 34 := by
    have := hRoneb
    rw [HONE.out.2.1] at this
    exact this
  refine wp_region_kd 81 [50, 51, 52, 53, 54, 55, 56, 57, 58, 59, 60, 61, 62, 63, 64, 65, 66, 67, 68, 69, 70, 71, 72, 73, 74, 75, 76, 77, 78, 79, 80, 4] [(50, .ras x), (51, .is ((sO (a : Int) (b : Int)).v)), (52, .ops [(sO (a : Int) (b : Int))]), (53, .ras (eaR x [(sO (a : Int) (b : Int))])), (54, .ras x), (55, .is (.bool true)), (56, .is (.bool true)), (57, .ras x), (58, .is (.bool true)), (59, .is (.bool true)), (60, .is (.bool true)), (61, .is (.pointer (some ⟨w5.heap.size, 2, none⟩))), (62, .is (.slice (some ⟨b9, d9, none⟩) 1 c5)), (63, .is (.int .i64 (1 : Int))), (64, .is (.bool true)), (65, .is (.bool true)), (66, .is (.bool true)), (67, .is (.pointer (some ⟨w5.heap.size, 2, none⟩))), (68, .is (.slice (some ⟨b9, d9, none⟩) 1 c5)), (69, .is (.pointer (some ⟨b9, d9 + 0 * 4, none⟩))), (70, .is (p9.v)), (71, .ras r), (72, .is (.pointer (some ⟨w1.heap.size, 0, none⟩))), (73, .is (.int .i64 (r.w : Int))), (74, .is (.int .i64 ((r.w / 2 : Nat) : Int))), (75, .is (.pointer (some ⟨w1.heap.size, 1, none⟩))), (76, .is (.int .i64 (r.h : Int))), (77, .is (.int .i64 ((r.h / 2 : Nat) : Int))), (78, .is ((r.at (r.w / 2) (r.h / 2)).v)), (79, .is (.bool true)), (80, .is (.bool true)), (4, .is (.bool true))] (Below w6.drew.heap.size w6.drew) (by kernel_rfl) (by kernel_rfl) rfl rfl (by decide) (by decide) rfl rfl (Below.refl _ _) ?_ ?_
  · intro i o V w ho hS hV hd
    have hi : i < 32 := (Array.getElem?_eq_some_iff.1 ho).1
    have hi2 : i = 0 ∨ i = 1 ∨ i = 2 ∨ i = 3 ∨ i = 4 ∨ i = 5 ∨ i = 6 ∨ i = 7 ∨ i = 8 ∨ i = 9 ∨ i = 10 ∨ i = 11 ∨ i = 12 ∨ i = 13 ∨ i = 14 ∨ i = 15 ∨ i = 16 ∨ i = 17 ∨ i = 18 ∨ i = 19 ∨ i = 20 ∨ i = 21 ∨ i = 22 ∨ i = 23 ∨ i = 24 ∨ i = 25 ∨ i = 26 ∨ i = 27 ∨ i = 28 ∨ i = 29 ∨ i = 30 ∨ i = 31 := by omega
    clear hi
    rcases hi2 with rfl | rfl | rfl | rfl | rfl | rfl | rfl | rfl | rfl | rfl | rfl | rfl | rfl | rfl | rfl | rfl | rfl | rfl | rfl | rfl | rfl | rfl | rfl | rfl | rfl | rfl | rfl | rfl | rfl | rfl | rfl | rfl
    · obtain rfl : _ = o := Option.some.inj ((show _ = some _ from rfl).symm.trans ho)
      have x8 : V 8 = .pointer (some ⟨w4.heap.size, 0, none⟩) := (hV 8 (by simp)).trans rfl
      refine ⟨fun _ => ?_, fun hw => absurd (show true = false from hw) (by decide)⟩
      · exact yield_ras rfl ((frame_eval V (by decide)).trans x8) hRxb hc4 hHxb hS
    · obtain rfl : _ = o := Option.some.inj ((show _ = some _ from rfl).symm.trans ho)
      have x7 : V 7 = .pointer (some ⟨w3.heap.size, 0, none⟩) := (hV 7 (by simp)).trans rfl
      refine ⟨fun _ => ?_, fun hw => absurd (show true = false from hw) (by decide)⟩
      · exact yield_op rfl ((frame_eval V (by decide)).trans x7) hOob hS
    · obtain rfl : _ = o := Option.some.inj ((show _ = some _ from rfl).symm.trans ho)
      have d1 : V 51 = (sO (a : Int) (b : Int)).v := hd ⟨1, .data⟩ (by simp) rfl
      refine ⟨fun _ => ?_, fun hw => absurd (show true = false from hw) (by decide)⟩
      · exact yield_ops1 rfl ((frame_eval V (by decide)).trans d1) hS
    · obtain rfl : _ = o := Option.some.inj ((show _ = some _ from rfl).symm.trans ho)
      have d0 : IsRa x w (V 50) := hd ⟨0, .data⟩ (by simp) rfl
      have d2 : IsOps [(sO (a : Int) (b : Int))] w (V 52) := hd ⟨2, .data⟩ (by simp) rfl
      refine ⟨fun _ => ?_, fun hw => absurd (show true = false from hw) (by decide)⟩
      · exact yield_eaDo rfl (frame_eval V (by decide)) (frame_eval V (by decide)) d0 d2 HX.out.1 (can_s hab hbb can_nil) (by simp) hRTb hS
    · obtain rfl : _ = o := Option.some.inj ((show _ = some _ from rfl).symm.trans ho)
      have x8 : V 8 = .pointer (some ⟨w4.heap.size, 0, none⟩) := (hV 8 (by simp)).trans rfl
      refine ⟨fun _ => ?_, fun hw => absurd (show true = false from hw) (by decide)⟩
      · exact yield_ras rfl ((frame_eval V (by decide)).trans x8) hRxb hc4 hHxb hS
    · obtain rfl : _ = o := Option.some.inj ((show _ = some _ from rfl).symm.trans ho)
      have d3 : IsRa (eaR x [(sO (a : Int) (b : Int))]) w (V 53) := hd ⟨3, .data⟩ (by simp) rfl
      have d4 : IsRa x w (V 54) := hd ⟨4, .data⟩ (by simp) rfl
      refine ⟨fun _ => ?_, fun hw => absurd (show true = false from hw) (by decide)⟩
      · exact yield_eaRas rfl (frame_eval V (by decide)) (frame_eval V (by decide)) d3 d4 (ea_ok HX.out.1 (can_s hab hbb can_nil)) HX.out.2 hS
    · obtain rfl : _ = o := Option.some.inj ((show _ = some _ from rfl).symm.trans ho)
      have d5 : V 55 = .bool true := hd ⟨5, .data⟩ (by simp) rfl
      refine ⟨fun _ => ?_, fun hw => absurd (show true = false from hw) (by decide)⟩
      · exact yield_copy (.inl rfl) ((frame_eval V (by decide)).trans d5) hS
    · obtain rfl : _ = o := Option.some.inj ((show _ = some _ from rfl).symm.trans ho)
      have x8 : V 8 = .pointer (some ⟨w4.heap.size, 0, none⟩) := (hV 8 (by simp)).trans rfl
      have gd : V 56 = .bool true := hd ⟨6, .guard⟩ (by simp) rfl
      refine ⟨fun _ => ?_, fun hw => absurd ((wanted_of rfl rfl (by decide) gd).symm.trans hw) (by decide)⟩
      · exact yield_ras rfl ((frame_eval V (by decide)).trans x8) hRxb hc4 hHxb hS
    · obtain rfl : _ = o := Option.some.inj ((show _ = some _ from rfl).symm.trans ho)
      have d7 : IsRa x w (V 57) := hd ⟨7, .data⟩ (by simp) rfl
      have gd : V 56 = .bool true := hd ⟨6, .guard⟩ (by simp) rfl
      refine ⟨fun _ => ?_, fun hw => absurd ((wanted_of rfl rfl (by decide) gd).symm.trans hw) (by decide)⟩
      · exact yield_rasOk rfl (frame_eval V (by decide)) d7 HX.out.1 hS
    · obtain rfl : _ = o := Option.some.inj ((show _ = some _ from rfl).symm.trans ho)
      have d6 : V 56 = .bool true := hd ⟨6, .data⟩ (by simp) rfl
      have d8 : V 58 = .bool true := hd ⟨8, .data⟩ (by simp) rfl
      refine ⟨fun _ => ?_, fun hw => absurd (show true = false from hw) (by decide)⟩
      · exact yield_pick rfl ((frame_eval V (by decide)).trans d6) ((frame_eval V (by decide)).trans d8) hS
    · obtain rfl : _ = o := Option.some.inj ((show _ = some _ from rfl).symm.trans ho)
      have d9 : V 59 = .bool true := hd ⟨9, .data⟩ (by simp) rfl
      refine ⟨fun _ => ?_, fun hw => absurd (show true = false from hw) (by decide)⟩
      · exact yield_copy (.inl rfl) ((frame_eval V (by decide)).trans d9) hS
    · obtain rfl : _ = o := Option.some.inj ((show _ = some _ from rfl).symm.trans ho)
      have x9 : V 9 = .pointer (some ⟨w5.heap.size, 0, none⟩) := (hV 9 (by simp)).trans rfl
      have gd : V 60 = .bool true := hd ⟨10, .guard⟩ (by simp) rfl
      refine ⟨fun _ => ?_, fun hw => absurd ((wanted_of rfl rfl (by decide) gd).symm.trans hw) (by decide)⟩
      · exact yield_fld rfl ((frame_eval V (by decide)).trans x9) (fun w => fld_ras _ 2 (by decide) w) hS
    · obtain rfl : _ = o := Option.some.inj ((show _ = some _ from rfl).symm.trans ho)
      have d11 : V 61 = .pointer (some ⟨w5.heap.size, 2, none⟩) := hd ⟨11, .data⟩ (by simp) rfl
      have gd : V 60 = .bool true := hd ⟨10, .guard⟩ (by simp) rfl
      refine ⟨fun _ => ?_, fun hw => absurd ((wanted_of rfl rfl (by decide) gd).symm.trans hw) (by decide)⟩
      · exact yield_sl rfl ((frame_eval V (by decide)).trans d11) (RasAtB.c2 hRone1) (RasAtB.lt hRone1) hS
    · obtain rfl : _ = o := Option.some.inj ((show _ = some _ from rfl).symm.trans ho)
      have d12 : V 62 = .slice (some ⟨b9, d9, none⟩) 1 c5 := hd ⟨12, .data⟩ (by simp) rfl
      have gd : V 60 = .bool true := hd ⟨10, .guard⟩ (by simp) rfl
      refine ⟨fun _ => ?_, fun hw => absurd ((wanted_of rfl rfl (by decide) gd).symm.trans hw) (by decide)⟩
      · exact yield_len rfl ((frame_eval V (by decide)).trans d12) hS
    · obtain rfl : _ = o := Option.some.inj ((show _ = some _ from rfl).symm.trans ho)
      have d13 : V 63 = .int .i64 (1 : Int) := hd ⟨13, .data⟩ (by simp) rfl
      have gd : V 60 = .bool true := hd ⟨10, .guard⟩ (by simp) rfl
      refine ⟨fun _ => ?_, fun hw => absurd ((wanted_of rfl rfl (by decide) gd).symm.trans hw) (by decide)⟩
      · exact yield_eqlI rfl ((frame_eval V (by decide)).trans d13) rfl rfl hS
    · obtain rfl : _ = o := Option.some.inj ((show _ = some _ from rfl).symm.trans ho)
      have d10 : V 60 = .bool true := hd ⟨10, .data⟩ (by simp) rfl
      have d14 : V 64 = .bool true := hd ⟨14, .data⟩ (by simp) rfl
      refine ⟨fun _ => ?_, fun hw => absurd (show true = false from hw) (by decide)⟩
      · exact yield_pick rfl ((frame_eval V (by decide)).trans d10) ((frame_eval V (by decide)).trans d14) hS
    · obtain rfl : _ = o := Option.some.inj ((show _ = some _ from rfl).symm.trans ho)
      have d15 : V 65 = .bool true := hd ⟨15, .data⟩ (by simp) rfl
      refine ⟨fun _ => ?_, fun hw => absurd (show true = false from hw) (by decide)⟩
      · exact yield_copy (.inl rfl) ((frame_eval V (by decide)).trans d15) hS
    · obtain rfl : _ = o := Option.some.inj ((show _ = some _ from rfl).symm.trans ho)
      have x9 : V 9 = .pointer (some ⟨w5.heap.size, 0, none⟩) := (hV 9 (by simp)).trans rfl
      have gd : V 66 = .bool true := hd ⟨16, .guard⟩ (by simp) rfl
      refine ⟨fun _ => ?_, fun hw => absurd ((wanted_of rfl rfl (by decide) gd).symm.trans hw) (by decide)⟩
      · exact yield_fld rfl ((frame_eval V (by decide)).trans x9) (fun w => fld_ras _ 2 (by decide) w) hS
    · obtain rfl : _ = o := Option.some.inj ((show _ = some _ from rfl).symm.trans ho)
      have d17 : V 67 = .pointer (some ⟨w5.heap.size, 2, none⟩) := hd ⟨17, .data⟩ (by simp) rfl
      have gd : V 66 = .bool true := hd ⟨16, .guard⟩ (by simp) rfl
      refine ⟨fun _ => ?_, fun hw => absurd ((wanted_of rfl rfl (by decide) gd).symm.trans hw) (by decide)⟩
      · exact yield_sl rfl ((frame_eval V (by decide)).trans d17) (RasAtB.c2 hRone1) (RasAtB.lt hRone1) hS
    · obtain rfl : _ = o := Option.some.inj ((show _ = some _ from rfl).symm.trans ho)
      have d18 : V 68 = .slice (some ⟨b9, d9, none⟩) 1 c5 := hd ⟨18, .data⟩ (by simp) rfl
      have gd : V 66 = .bool true := hd ⟨16, .guard⟩ (by simp) rfl
      refine ⟨fun _ => ?_, fun hw => absurd ((wanted_of rfl rfl (by decide) gd).symm.trans hw) (by decide)⟩
      · exact yield_idx rfl ((frame_eval V (by decide)).trans d18) rfl (by decide) hS
    · obtain rfl : _ = o := Option.some.inj ((show _ = some _ from rfl).symm.trans ho)
      have d19 : V 69 = .pointer (some ⟨b9, d9 + 0 * 4, none⟩) := hd ⟨19, .data⟩ (by simp) rfl
      have gd : V 66 = .bool true := hd ⟨16, .guard⟩ (by simp) rfl
      refine ⟨fun _ => ?_, fun hw => absurd ((wanted_of rfl rfl (by decide) gd).symm.trans hw) (by decide)⟩
      · exact yield_px rfl ((frame_eval V (by decide)).trans d19) hpx9 hbl9 hS
    · obtain rfl : _ = o := Option.some.inj ((show _ = some _ from rfl).symm.trans ho)
      have x5 : V 5 = .pointer (some ⟨w1.heap.size, 0, none⟩) := (hV 5 (by simp)).trans rfl
      have gd : V 66 = .bool true := hd ⟨16, .guard⟩ (by simp) rfl
      refine ⟨fun _ => ?_, fun hw => absurd ((wanted_of rfl rfl (by decide) gd).symm.trans hw) (by decide)⟩
      · exact yield_ras rfl ((frame_eval V (by decide)).trans x5) hRrb hc1 hHrb hS
    · obtain rfl : _ = o := Option.some.inj ((show _ = some _ from rfl).symm.trans ho)
      have x5 : V 5 = .pointer (some ⟨w1.heap.size, 0, none⟩) := (hV 5 (by simp)).trans rfl
      have gd : V 66 = .bool true := hd ⟨16, .guard⟩ (by simp) rfl
      refine ⟨fun _ => ?_, fun hw => absurd ((wanted_of rfl rfl (by decide) gd).symm.trans hw) (by decide)⟩
      · exact yield_fld rfl ((frame_eval V (by decide)).trans x5) (fun w => fld_ras _ 0 (by decide) w) hS
    · obtain rfl : _ = o := Option.some.inj ((show _ = some _ from rfl).symm.trans ho)
      have d22 : V 72 = .pointer (some ⟨w1.heap.size, 0, none⟩) := hd ⟨22, .data⟩ (by simp) rfl
      have gd : V 66 = .bool true := hd ⟨16, .guard⟩ (by simp) rfl
      refine ⟨fun _ => ?_, fun hw => absurd ((wanted_of rfl rfl (by decide) gd).symm.trans hw) (by decide)⟩
      · exact yield_cell rfl ((frame_eval V (by decide)).trans d22) (RasAtB.c0 hRrb) (RasAtB.lt hRrb) hS
    · obtain rfl : _ = o := Option.some.inj ((show _ = some _ from rfl).symm.trans ho)
      have d23 : V 73 = .int .i64 (r.w : Int) := hd ⟨23, .data⟩ (by simp) rfl
      have gd : V 66 = .bool true := hd ⟨16, .guard⟩ (by simp) rfl
      refine ⟨fun _ => ?_, fun hw => absurd ((wanted_of rfl rfl (by decide) gd).symm.trans hw) (by decide)⟩
      · exact yield_quo (n := 2) rfl ((frame_eval V (by decide)).trans d23) rfl rfl (by decide) (by omega) (by decide) hS
    · obtain rfl : _ = o := Option.some.inj ((show _ = some _ from rfl).symm.trans ho)
      have x5 : V 5 = .pointer (some ⟨w1.heap.size, 0, none⟩) := (hV 5 (by simp)).trans rfl
      have gd : V 66 = .bool true := hd ⟨16, .guard⟩ (by simp) rfl
      refine ⟨fun _ => ?_, fun hw => absurd ((wanted_of rfl rfl (by decide) gd).symm.trans hw) (by decide)⟩
      · exact yield_fld rfl ((frame_eval V (by decide)).trans x5) (fun w => fld_ras _ 1 (by decide) w) hS
    · obtain rfl : _ = o := Option.some.inj ((show _ = some _ from rfl).symm.trans ho)
      have d25 : V 75 = .pointer (some ⟨w1.heap.size, 1, none⟩) := hd ⟨25, .data⟩ (by simp) rfl
      have gd : V 66 = .bool true := hd ⟨16, .guard⟩ (by simp) rfl
      refine ⟨fun _ => ?_, fun hw => absurd ((wanted_of rfl rfl (by decide) gd).symm.trans hw) (by decide)⟩
      · exact yield_cell rfl ((frame_eval V (by decide)).trans d25) (RasAtB.c1 hRrb) (RasAtB.lt hRrb) hS
    · obtain rfl : _ = o := Option.some.inj ((show _ = some _ from rfl).symm.trans ho)
      have d26 : V 76 = .int .i64 (r.h : Int) := hd ⟨26, .data⟩ (by simp) rfl
      have gd : V 66 = .bool true := hd ⟨16, .guard⟩ (by simp) rfl
      refine ⟨fun _ => ?_, fun hw => absurd ((wanted_of rfl rfl (by decide) gd).symm.trans hw) (by decide)⟩
      · exact yield_quo (n := 2) rfl ((frame_eval V (by decide)).trans d26) rfl rfl (by decide) (by omega) (by decide) hS
    · obtain rfl : _ = o := Option.some.inj ((show _ = some _ from rfl).symm.trans ho)
      have d21 : IsRa r w (V 71) := hd ⟨21, .data⟩ (by simp) rfl
      have d24 : V 74 = .int .i64 ((r.w / 2 : Nat) : Int) := hd ⟨24, .data⟩ (by simp) rfl
      have d27 : V 77 = .int .i64 ((r.h / 2 : Nat) : Int) := hd ⟨27, .data⟩ (by simp) rfl
      have gd : V 66 = .bool true := hd ⟨16, .guard⟩ (by simp) rfl
      refine ⟨fun _ => ?_, fun hw => absurd ((wanted_of rfl rfl (by decide) gd).symm.trans hw) (by decide)⟩
      · exact yield_rasAt rfl (frame_eval V (by decide)) ((frame_eval V (by decide)).trans d24) ((frame_eval V (by decide)).trans d27) d21 HOK.out (by omega) (by omega) hS
    · obtain rfl : _ = o := Option.some.inj ((show _ = some _ from rfl).symm.trans ho)
      have d20 : V 70 = p9.v := hd ⟨20, .data⟩ (by simp) rfl
      have d28 : V 78 = (r.at (r.w / 2) (r.h / 2)).v := hd ⟨28, .data⟩ (by simp) rfl
      have gd : V 66 = .bool true := hd ⟨16, .guard⟩ (by simp) rfl
      refine ⟨fun _ => ?_, fun hw => absurd ((wanted_of rfl rfl (by decide) gd).symm.trans hw) (by decide)⟩
      · exact yield_eqlPix rfl ((frame_eval V (by decide)).trans d20) ((frame_eval V (by decide)).trans d28) HP9.out hS
    · obtain rfl : _ = o := Option.some.inj ((show _ = some _ from rfl).symm.trans ho)
      have d16 : V 66 = .bool true := hd ⟨16, .data⟩ (by simp) rfl
      have d29 : V 79 = .bool true := hd ⟨29, .data⟩ (by simp) rfl
      refine ⟨fun _ => ?_, fun hw => absurd (show true = false from hw) (by decide)⟩
      · exact yield_pick rfl ((frame_eval V (by decide)).trans d16) ((frame_eval V (by decide)).trans d29) hS
    · obtain rfl : _ = o := Option.some.inj ((show _ = some _ from rfl).symm.trans ho)
      have d30 : V 80 = .bool true := hd ⟨30, .data⟩ (by simp) rfl
      refine ⟨fun _ => ?_, fun hw => absurd (show true = false from hw) (by decide)⟩
      · exact yield_copy (.inr rfl) ((frame_eval V (by decide)).trans d30) hS
  · intro V wx hS hV hall
    have dl : V 4 = .bool true := hall 31 (by decide)
    rw [frame_all (n := 81) (D := [50, 51, 52, 53, 54, 55, 56, 57, 58, 59, 60, 61, 62, 63, 64, 65, 66, 67, 68, 69, 70, 71, 72, 73, 74, 75, 76, 77, 78, 79, 80, 4]) rfl rfl (by decide) hV]
    simp only [List.foldl_cons, List.foldl_nil, Act.put, List.setIfInBounds_toArray, List.set_cons_zero, List.set_cons_succ]
    rw [dl]
    have HE := Lib.hid (HB6.out.trans ((HBD.out.trans (hS.mono HBD.out.size)).mono HB6.out.size))
    clear hall hV dl hS hRrb hHrb hRxb hHxb hRoneb hHoneb hOob hRTb hpx9 hbl9 hRone1
    go_wp2_with fail
    go_ret
    exact ⟨rfl, HE.out⟩
theorem fnOpSizeTwice_walk (A : Option Addr) (c : Nat) (l : List UInt8) (A2 : Option Addr) (c2 : Nat) (l2 : List UInt8) (w : World) (hR : RangesIn w) (h : Has w w.heap.size A l) (hc : l.length ≤ c) (_ : Has w w.heap.size A2 l2) (_ : l2.length ≤ c2) :
    Calls Tryd.prog 9 #[.slice A l.length c, .slice A2 l2.length c2] w fun e w' => e = .returned (.bool true) ∧ Below w.heap.size w w' := by
  by_cases hbig : l.length ≤ 1048576
  · by_cases hbig2 : l2.length ≤ 1048576
    · exact fnOpSizeTwice_small A c l A2 c2 l2 w hR h hc hbig hbig2
    · have hl0 : ¬ ((1048576 : Int) < (l.length : Int)) := by omega
      have hl2 : (1048576 : Int) < (l2.length : Int) := by omega
      clear h hc hbig hbig2
      go_enter Tryd.func9, Tryd.ntmps9
      go_wp2_with fail
      go_ret
      exact ⟨rfl, Below.refl _ _⟩
  · have hl0 : (1048576 : Int) < (l.length : Int) := by omega
    clear h hc hbig
    go_enter Tryd.func9, Tryd.ntmps9
    go_wp2_with fail
    go_ret
    exact ⟨rfl, Below.refl _ _⟩
end Go.Proofs.YthdggnfffebnlaaDoor
