/-
  The law FnOpSize returns true for every lists of bytes to draw from. Condition: the table of ranges reads as the program's text lays it.
-/
import Derived.Test.YtiemlakjallphaaDoorRanL
import Derived.Test.YtiemlakjallphaaDoorDrawOpA
import Derived.Test.YtiemlakjallphaaDoorEaC
import Derived.Test.YtiemlakjallphaaDoorRegK
import Derived.Test.YtiemlakjallphaaDoorRasS
import Derived.Test.YtiemlakjallphaaDoorPutO
namespace Go.Proofs.YtiemlakjallphaaDoor
set_option maxRecDepth 4000
open Go.RowKit

theorem size_mem {r : Ra} (hr : r.ok) {a b : Nat} (ha : 1 ≤ a ∧ a ≤ 6) (hb : 1 ≤ b ∧ b ≤ 6) {u : Px} (hu : u ∈ (sizeR r a b).p) : u ∈ r.p := by
  obtain ⟨i, hi, e⟩ := List.getElem_of_mem hu
  have hg := ok_get (sizeR_ok hr ha hb) (List.getElem?_eq_some_iff.2 ⟨hi, e⟩)
  have h1 : i % (sizeR r a b).w < a := hg.2.1
  have h2 : i / (sizeR r a b).w < b := hg.2.2.1
  rw [← hg.2.2.2, sizeR_at r h1 h2]
  exact List.mem_of_getElem? (hr.at (pick_lt hr.parts.1.1 h1) (pick_lt hr.parts.2.1.1 h2)).1
set_option maxHeartbeats 8000000 in
theorem fnOpSize_small (A : Option Addr) (c : Nat) (l : List UInt8) (A2 : Option Addr) (c2 : Nat) (l2 : List UInt8) (w : World) (hR : RangesIn w) (h : Has w w.heap.size A l) (hc : l.length ≤ c) (hs : l.length ≤ 1048576) (hs2 : l2.length ≤ 1048576) :
    Calls Tryd.prog 6 #[.slice A l.length c, .slice A2 l2.length c2] w fun e w' => e = .returned (.bool true) ∧ Below w.heap.size w w' := by
  have C1 := Lib.hid (drawOpDo_any A c l w (by omega) hc h)
  have HRW := Lib.hid hR
  have hl0 : ¬ ((1048576 : Int) < (l.length : Int)) := by omega
  have hl2 : ¬ ((1048576 : Int) < (l2.length : Int)) := by omega
  clear h hs hc hR hs2
  go_enter Tryd.func6, Tryd.ntmps6
  go_wp2_with fail
  refine C1.out.mono ?_
  rintro e w1 ⟨W, H, A1, c1, l1, q, rfl, hh1, hc1, hl1, B1⟩
  have CSK := Lib.hid fun u hh => specRasOk_any W H A1 c1 l1 u (by omega) hh
  have CIK := Lib.hid fun u hh => implRasOk_any W H A1 c1 l1 u (by omega) hh
  unfold rasV at CSK CIK ⊢
  unfold Op.v
  have b2 : Below w1.heap.size w1 ((w1.alloc (.cells #[.int .i64 W, .int .i64 H, .slice A1 l1.length c1] 25)).alloc (.cells #[.int .i64 q.k, .int .i64 q.a, .int .i64 q.b, .int .i64 q.c, .int .i64 q.d] 27)) := ((Below.refl _ w1).alloc (Nat.le_refl _) _).alloc (by simp) _
  have HRb2 : Hid (RasAtB ((w1.alloc (.cells #[.int .i64 W, .int .i64 H, .slice A1 l1.length c1] 25)).alloc (.cells #[.int .i64 q.k, .int .i64 q.a, .int .i64 q.b, .int .i64 q.c, .int .i64 q.d] 27)) w1.heap.size W H A1 l1.length c1 25) := Lib.hid (Box.alloc (Box.new w1 _ _) _)
  have HH2 := Lib.hid (hh1.carry b2 (Nat.le_refl _) b2.size)
  have HB2 := Lib.hid (B1.trans (b2.mono B1.size))
  clear b2 hh1 B1 C1
  go_wp2_with fail
  generalize ((w1.alloc (.cells #[.int .i64 W, .int .i64 H, .slice A1 l1.length c1] 25)).alloc (.cells #[.int .i64 q.k, .int .i64 q.a, .int .i64 q.b, .int .i64 q.c, .int .i64 q.d] 27)) = w2 at *
  have r0 := HRb2.out.c0
  have r1 := HRb2.out.c1
  have r2 := HRb2.out.c2
  go_wp2_with fail
  refine (CSK.out _ HH2.out).mono ?_
  rintro e w3 ⟨rfl, b3⟩
  have HRb3 := Lib.hid (HRb2.out.below b3 HRb2.out.lt)
  have HH3 := Lib.hid (HH2.out.carry b3 (Nat.le_refl _) b3.size)
  have HB3 := Lib.hid (HB2.out.trans (b3.mono HB2.out.size))
  have HR3 := Lib.hid (HRW.out.below HB3.out HRW.out.1)
  clear b3 r0 r1 r2 HRb2  HH2 HB2 CSK
  cases hok : rasB W H l1
  · have CK := Lib.hid (CIK.out w3 HH3.out)
    rw [hok] at CK
    have r0 := HRb3.out.c0
    have r1 := HRb3.out.c1
    have r2 := HRb3.out.c2
    clear hok
    go_wp2_with fail
    refine CK.out.mono ?_
    rintro e w4 ⟨rfl, b4⟩
    have HB4 := Lib.hid (HB3.out.trans (b4.mono HB3.out.size))
    clear b4
    go_wp2_with fail
    refine (eaOk_any _).mono ?_
    rintro e w5 ⟨rfl, b5⟩
    have HB5 := Lib.hid (HB4.out.trans (b5.mono HB4.out.size))
    clear b5
    go_wp2_with fail
    go_ret
    exact ⟨rfl, HB5.out⟩
  obtain ⟨r, rfl, rfl, rfl⟩ : ∃ r : Ra, W = (r.w : Int) ∧ H = (r.h : Int) ∧ l1 = r.p := by
    obtain ⟨hW, hH, -, -⟩ := rasB_parts hok
    exact ⟨⟨W.toNat, H.toNat, l1⟩, by simp only; omega, by simp only; omega, rfl⟩
  have hr : r.ok := hok
  have HRP := Lib.hid hr.parts
  obtain ⟨a, ha, hab⟩ : ∃ a : Nat, 1 + (l2.length : Int) % 6 = (a : Int) ∧ 1 ≤ a ∧ a ≤ 6 := ⟨1 + l2.length % 6, by omega, by omega, by omega⟩
  obtain ⟨b, hb, hbb⟩ : ∃ b : Nat, 1 + (l2.length : Int) / 7 % 6 = (b : Int) ∧ 1 ≤ b ∧ b ≤ 6 := ⟨1 + l2.length / 7 % 6, by omega, by omega, by omega⟩
  clear hok CIK hl1
  have HRr3 := HRb3
  have HHr3 := HH3
  have HRT3 := HR3
  clear HRb3 HH3 HR3
  have HOo3 : Hid (OpAtB (w3.alloc (.cells #[.int .i64 7, .int .i64 (a : Int), .int .i64 (b : Int), .int .i64 0, .int .i64 0] 27)) (w3.heap.size) (sO (a : Int) (b : Int))) := Lib.hid (Box.new w3 _ _)
  have rc0 := RasAtB.c0 HRr3.out
  have rc1 := RasAtB.c1 HRr3.out
  have rc2 := RasAtB.c2 HRr3.out
  have rn0 : w1.heap.size < w3.heap.size := by have := RasAtB.lt HRr3.out; omega
  have CE4 : Hid (Calls Tryd.prog 20 #[.agg #[.int .i64 (r.w : Int), .int .i64 (r.h : Int), .slice A1 r.p.length c1], .slice (some ⟨w3.heap.size + 1, 0, none⟩) 1 1] ((w3.alloc (.cells #[.int .i64 7, .int .i64 (a : Int), .int .i64 (b : Int), .int .i64 0, .int .i64 0] 27)).alloc (.cells #[.int .i64 7, .int .i64 (a : Int), .int .i64 (b : Int), .int .i64 0, .int .i64 0] 27)) (EaDid (sizeR r a b) ((w3.alloc (.cells #[.int .i64 7, .int .i64 (a : Int), .int .i64 (b : Int), .int .i64 0, .int .i64 0] 27)).alloc (.cells #[.int .i64 7, .int .i64 (a : Int), .int .i64 (b : Int), .int .i64 0, .int .i64 0] 27)))) := Lib.hid (by
    have bbel : Below w3.heap.size w3 ((w3.alloc (.cells #[.int .i64 7, .int .i64 (a : Int), .int .i64 (b : Int), .int .i64 0, .int .i64 0] 27)).alloc (.cells #[.int .i64 7, .int .i64 (a : Int), .int .i64 (b : Int), .int .i64 0, .int .i64 0] 27)) := (((Below.refl w3.heap.size w3).alloc (Nat.le_refl _) _).alloc (by simp) _)
    have hlst : opE.Has ((w3.alloc (.cells #[.int .i64 7, .int .i64 (a : Int), .int .i64 (b : Int), .int .i64 0, .int .i64 0] 27)).alloc (.cells #[.int .i64 7, .int .i64 (a : Int), .int .i64 (b : Int), .int .i64 0, .int .i64 0] 27)) ((w3.alloc (.cells #[.int .i64 7, .int .i64 (a : Int), .int .i64 (b : Int), .int .i64 0, .int .i64 0] 27)).alloc (.cells #[.int .i64 7, .int .i64 (a : Int), .int .i64 (b : Int), .int .i64 0, .int .i64 0] 27)).heap.size (some ⟨w3.heap.size + 1, 0, none⟩) [(sO (a : Int) (b : Int))] := by
      have := El.Has.laid opE (w3.alloc (.cells #[.int .i64 7, .int .i64 (a : Int), .int .i64 (b : Int), .int .i64 0, .int .i64 0] 27)) [(sO (a : Int) (b : Int))] 27
      rw [show (w3.alloc (.cells #[.int .i64 7, .int .i64 (a : Int), .int .i64 (b : Int), .int .i64 0, .int .i64 0] 27)).heap.size = w3.heap.size + 1 from by simp] at this
      exact this.wider (by simp)
    have := eaDo_any r A1 c1 (some ⟨w3.heap.size + 1, 0, none⟩) 1 [(sO (a : Int) (b : Int))] _ hr (can_s hab hbb can_nil) (HRT3.out.next bbel) hc1 (HHr3.out.carry bbel (Nat.le_refl _) bbel.size) hlst (by simp)
    rw [ea_s hr _ hab hbb, eaR_nil] at this
    exact this)
  go_wp2_with fail
  refine CE4.out.mono ?_
  rintro e w4 ⟨v4, rfl, ⟨A4, c4, rfl, hc4, hh4⟩, b4⟩
  clear CE4
  clear rc0 rc1 rc2 rn0
  obtain ⟨x, hx⟩ : ∃ s, sizeR r a b = s := ⟨_, rfl⟩
  rw [hx] at hc4 hh4 ⊢
  have HEx := Lib.hid hx
  clear hx
  unfold raV rasV
  have bb4 : Below (w3.alloc (.cells #[.int .i64 7, .int .i64 (a : Int), .int .i64 (b : Int), .int .i64 0, .int .i64 0] 27)).heap.size (w3.alloc (.cells #[.int .i64 7, .int .i64 (a : Int), .int .i64 (b : Int), .int .i64 0, .int .i64 0] 27)) w4 := (((Below.refl (w3.alloc (.cells #[.int .i64 7, .int .i64 (a : Int), .int .i64 (b : Int), .int .i64 0, .int .i64 0] 27)).heap.size (w3.alloc (.cells #[.int .i64 7, .int .i64 (a : Int), .int .i64 (b : Int), .int .i64 0, .int .i64 0] 27))).alloc (Nat.le_refl _) (.cells #[.int .i64 7, .int .i64 (a : Int), .int .i64 (b : Int), .int .i64 0, .int .i64 0] 27))).trans (b4.mono (((Below.refl (w3.alloc (.cells #[.int .i64 7, .int .i64 (a : Int), .int .i64 (b : Int), .int .i64 0, .int .i64 0] 27)).heap.size (w3.alloc (.cells #[.int .i64 7, .int .i64 (a : Int), .int .i64 (b : Int), .int .i64 0, .int .i64 0] 27))).alloc (Nat.le_refl _) (.cells #[.int .i64 7, .int .i64 (a : Int), .int .i64 (b : Int), .int .i64 0, .int .i64 0] 27))).size)
  have bc4 : Below w3.heap.size w3 w4 := (((Below.refl w3.heap.size w3).alloc (Nat.le_refl _) _)).trans (bb4.mono (((Below.refl w3.heap.size w3).alloc (Nat.le_refl _) _)).size)
  have HOo4 : Hid (OpAtB w4 (w3.heap.size) (sO (a : Int) (b : Int))) := Lib.hid (Box.below HOo3.out bb4 (Box.lt HOo3.out))
  have HRr4 : Hid (RasAtB w4 (w1.heap.size) r.w r.h A1 r.p.length c1 25) := Lib.hid (Box.below HRr3.out bc4 (RasAtB.lt HRr3.out))
  have HHr4 : Hid (HasP w4 w4.heap.size A1 r.p) := Lib.hid (HHr3.out.carry bc4 (Nat.le_refl _) bc4.size)
  have HB4 := Lib.hid (HB3.out.trans (bc4.mono HB3.out.size))
  have HRT4 : Hid (RangesIn w4) := Lib.hid (HRT3.out.next bc4)
  clear HRr3 HHr3 HOo3 HB3 HRT3
  clear bb4 bc4
  have HHx4 : Hid (HasP w4 w4.heap.size A4 x.p) := Lib.hid hh4
  clear hh4 b4
  have HRx4 : Hid (RasAtB (w4.alloc (.cells #[.int .i64 (x.w : Int), .int .i64 (x.h : Int), .slice A4 x.p.length c4] 25)) (w4.heap.size) x.w x.h A4 x.p.length c4 25) := Lib.hid (Box.new w4 _ _)
  clear ha hb
  have rc0 := RasAtB.c0 HRr4.out
  have rc1 := RasAtB.c1 HRr4.out
  have rc2 := RasAtB.c2 HRr4.out
  obtain ⟨oe0, oe1, oe2, oe3, oe4⟩ := OpAtB.cs HOo4.out
  have rn0 : w1.heap.size < w4.heap.size := by have := RasAtB.lt HRr4.out; omega
  have on0 : w3.heap.size < w4.heap.size := by have := Box.lt HOo4.out; omega
  have CE5 : Hid (Calls Tryd.prog 13 #[.agg #[.int .i64 (r.w : Int), .int .i64 (r.h : Int), .slice A1 r.p.length c1], .agg #[.int .i64 7, .int .i64 (a : Int), .int .i64 (b : Int), .int .i64 0, .int .i64 0]] (w4.alloc (.cells #[.int .i64 (x.w : Int), .int .i64 (x.h : Int), .slice A4 x.p.length c4] 25)) (Did (some (sizeR r a b)) (w4.alloc (.cells #[.int .i64 (x.w : Int), .int .i64 (x.h : Int), .slice A4 x.p.length c4] 25)))) := Lib.hid (by
    have bbel : Below w4.heap.size w4 (w4.alloc (.cells #[.int .i64 (x.w : Int), .int .i64 (x.h : Int), .slice A4 x.p.length c4] 25)) := ((Below.refl w4.heap.size w4).alloc (Nat.le_refl _) _)
    exact by
      have := specOpDo_good r A1 c1 (sO (a : Int) (b : Int)) ((w4.alloc (.cells #[.int .i64 (x.w : Int), .int .i64 (x.h : Int), .slice A4 x.p.length c4] 25))) hr (opB_s hab hbb) hc1 (HHr4.out.carry bbel (Nat.le_refl _) bbel.size)
      rw [show doR r (sO (a : Int) (b : Int)) = some (sizeR r a b) from rfl] at this
      exact this)
  unfold Did at CE5
  go_wp2_with fail
  refine CE5.out.mono ?_
  rintro e w5 ⟨A5, c5, rfl, hc5, hh5, b5⟩
  clear CE5
  clear rc0 rc1 rc2 oe0 oe1 oe2 oe3 oe4 rn0 on0
  obtain ⟨wan, hwan⟩ : ∃ s, sizeR r a b = s := ⟨_, rfl⟩
  simp only [Option.getD_some, Option.isSome_some] at hc5 hh5 ⊢
  have hh5 := hh5.reads
  rw [hwan] at hc5 hh5 ⊢
  have HEwan := Lib.hid hwan
  clear hwan
  try unfold raV rasV
  have bc5 : Below w4.heap.size w4 w5 := (((Below.refl w4.heap.size w4).alloc (Nat.le_refl _) _)).trans (b5.mono (((Below.refl w4.heap.size w4).alloc (Nat.le_refl _) _)).size)
  have HRx5 : Hid (RasAtB w5 (w4.heap.size) x.w x.h A4 x.p.length c4 25) := Lib.hid (Box.below HRx4.out b5 (RasAtB.lt HRx4.out))
  have HHx5 : Hid (HasP w5 w5.heap.size A4 x.p) := Lib.hid (HHx4.out.carry bc5 (Nat.le_refl _) bc5.size)
  have HRr5 : Hid (RasAtB w5 (w1.heap.size) r.w r.h A1 r.p.length c1 25) := Lib.hid (Box.below HRr4.out bc5 (RasAtB.lt HRr4.out))
  have HHr5 : Hid (HasP w5 w5.heap.size A1 r.p) := Lib.hid (HHr4.out.carry bc5 (Nat.le_refl _) bc5.size)
  have HOo5 : Hid (OpAtB w5 (w3.heap.size) (sO (a : Int) (b : Int))) := Lib.hid (Box.below HOo4.out bc5 (Box.lt HOo4.out))
  have HB5 := Lib.hid (HB4.out.trans (bc5.mono HB4.out.size))
  have HRT5 : Hid (RangesIn w5) := Lib.hid (HRT4.out.next bc5)
  clear HRr4 HHr4 HRx4 HHx4 HOo4 HB4 HRT4
  clear bc5
  have HHwan5 : Hid (HasP w5 w5.heap.size A5 wan.p) := Lib.hid hh5
  clear hh5 b5
  have HRwan5 : Hid (RasAtB (w5.alloc (.cells #[.int .i64 (wan.w : Int), .int .i64 (wan.h : Int), .slice A5 wan.p.length c5] 25)) (w5.heap.size) wan.w wan.h A5 wan.p.length c5 25) := Lib.hid (Box.new w5 _ _)
  obtain rfl : x = wan := by rw [← HEx.out]; exact HEwan.out
  clear HEwan
  have hxo : x.ok := by rw [← HEx.out]; exact sizeR_ok hr hab hbb
  have hxw : x.w = a := by rw [← HEx.out]; rfl
  have hxh : x.h = b := by rw [← HEx.out]; rfl
  have HXO := Lib.hid hxo
  have HXL := Lib.hid (ra_len hxo)
  have HOK := Lib.hid hr
  have HRL := Lib.hid (ra_len hr)
  have HIN : Hid (∀ u, u ∈ x.p → u ∈ r.p) := Lib.hid (by rw [← HEx.out]; exact fun u hu => size_mem hr hab hbb hu)
  have ew : ((x.w : Int) != (a : Int)) = false := by rw [hxw]; exact bne_self_eq_false _
  have eh : ((x.h : Int) != (b : Int)) = false := by rw [hxh]; exact bne_self_eq_false _
  clear hr hxo hxw hxh
  have xc0 := RasAtB.c0 HRx5.out
  have xc1 := RasAtB.c1 HRx5.out
  have xc2 := RasAtB.c2 HRx5.out
  have xn0 : w4.heap.size < w5.heap.size := by have := RasAtB.lt HRx5.out; omega
  have CE6 : Hid (Calls Tryd.prog 14 #[rasV x.w x.h A4 x.p.length c4, rasV x.w x.h A5 x.p.length c5] (w5.alloc (.cells #[.int .i64 (x.w : Int), .int .i64 (x.h : Int), .slice A5 x.p.length c5] 25)) (fun e w' => e = .returned (.bool true) ∧ Below ((w5.alloc (.cells #[.int .i64 (x.w : Int), .int .i64 (x.h : Int), .slice A5 x.p.length c5] 25))).heap.size ((w5.alloc (.cells #[.int .i64 (x.w : Int), .int .i64 (x.h : Int), .slice A5 x.p.length c5] 25))) w')) := Lib.hid (by
    have bbel : Below w5.heap.size w5 (w5.alloc (.cells #[.int .i64 (x.w : Int), .int .i64 (x.h : Int), .slice A5 x.p.length c5] 25)) := ((Below.refl w5.heap.size w5).alloc (Nat.le_refl _) _)
    exact eaRas_same x.w x.h A4 A5 c4 c5 x.p _ (by have := HXL.out; omega) (HHx5.out.carry bbel (Nat.le_refl _) bbel.size) (HHwan5.out.carry bbel (Nat.le_refl _) bbel.size))
  unfold rasV at CE6
  go_wp2_with fail
  refine CE6.out.mono ?_
  rintro e w6 ⟨rfl, b6⟩
  clear CE6
  clear xc0 xc1 xc2 xn0
  have bb6 : Below (w5.alloc (.cells #[.int .i64 (x.w : Int), .int .i64 (x.h : Int), .slice A5 x.p.length c5] 25)).heap.size (w5.alloc (.cells #[.int .i64 (x.w : Int), .int .i64 (x.h : Int), .slice A5 x.p.length c5] 25)) w6 := ((Below.refl (w5.alloc (.cells #[.int .i64 (x.w : Int), .int .i64 (x.h : Int), .slice A5 x.p.length c5] 25)).heap.size (w5.alloc (.cells #[.int .i64 (x.w : Int), .int .i64 (x.h : Int), .slice A5 x.p.length c5] 25)))).trans (b6.mono ((Below.refl (w5.alloc (.cells #[.int .i64 (x.w : Int), .int .i64 (x.h : Int), .slice A5 x.p.length c5] 25)).heap.size (w5.alloc (.cells #[.int .i64 (x.w : Int), .int .i64 (x.h : Int), .slice A5 x.p.length c5] 25)))).size)
  have bc6 : Below w5.heap.size w5 w6 := (((Below.refl w5.heap.size w5).alloc (Nat.le_refl _) _)).trans (bb6.mono (((Below.refl w5.heap.size w5).alloc (Nat.le_refl _) _)).size)
  have HRwan6 : Hid (RasAtB w6 (w5.heap.size) x.w x.h A5 x.p.length c5 25) := Lib.hid (Box.below HRwan5.out bb6 (RasAtB.lt HRwan5.out))
  have HHwan6 : Hid (HasP w6 w6.heap.size A5 x.p) := Lib.hid (HHwan5.out.carry bc6 (Nat.le_refl _) bc6.size)
  have HRr6 : Hid (RasAtB w6 (w1.heap.size) r.w r.h A1 r.p.length c1 25) := Lib.hid (Box.below HRr5.out bc6 (RasAtB.lt HRr5.out))
  have HHr6 : Hid (HasP w6 w6.heap.size A1 r.p) := Lib.hid (HHr5.out.carry bc6 (Nat.le_refl _) bc6.size)
  have HRx6 : Hid (RasAtB w6 (w4.heap.size) x.w x.h A4 x.p.length c4 25) := Lib.hid (Box.below HRx5.out bc6 (RasAtB.lt HRx5.out))
  have HHx6 : Hid (HasP w6 w6.heap.size A4 x.p) := Lib.hid (HHx5.out.carry bc6 (Nat.le_refl _) bc6.size)
  have HOo6 : Hid (OpAtB w6 (w3.heap.size) (sO (a : Int) (b : Int))) := Lib.hid (Box.below HOo5.out bc6 (Box.lt HOo5.out))
  have HB6 := Lib.hid (HB5.out.trans (bc6.mono HB5.out.size))
  have HRT6 : Hid (RangesIn w6) := Lib.hid (HRT5.out.next bc6)
  clear HRr5 HHr5 HRx5 HHx5 HRwan5 HHwan5 HOo5 HB5 HRT5
  clear bb6 bc6
  clear b6
  have xc0 := RasAtB.c0 HRx6.out
  have xc1 := RasAtB.c1 HRx6.out
  have xc2 := RasAtB.c2 HRx6.out
  obtain ⟨oe0, oe1, oe2, oe3, oe4⟩ := OpAtB.cs HOo6.out
  have oa : w6.cell? ⟨w3.heap.size, 1, none⟩ = some (.int .i64 (a : Int)) := oe1
  have ob : w6.cell? ⟨w3.heap.size, 2, none⟩ = some (.int .i64 (b : Int)) := oe2
  clear oe0 oe1 oe2 oe3 oe4 HRwan6 HHwan6
  go_wp2_with fail
  clear xc0 xc1 xc2 oa ob ew eh
  obtain ⟨b1, d1, rfl⟩ := HasP.some HHr6.out HRL.out.1
  obtain ⟨b4, d4, rfl⟩ := HasP.some HHx6.out HXL.out.1
  go_loopw [11] (fun v wr => ∃ k : Nat, k ≤ x.p.length ∧ v = .int .i64 (k : Int) ∧ Below w6.heap.size w6 wr) (fun v _ => x.p.length - (intOf v).toNat)
  case atStart => exact ⟨0, Nat.zero_le _, rfl, Below.refl _ _⟩
  case round =>
    obtain ⟨k, hk, rfl, hbq⟩ := hrel
    obtain ⟨wo, rfl⟩ : ∃ u, u = wr := ⟨wr, rfl⟩
    have HRr7 : Hid (RasAtB wo (w1.heap.size) r.w r.h (some ⟨b1, d1, none⟩) r.p.length c1 25) := Lib.hid (Box.below HRr6.out hbq (RasAtB.lt HRr6.out))
    have HHr7 : Hid (HasP wo wo.heap.size (some ⟨b1, d1, none⟩) r.p) := Lib.hid (HHr6.out.carry hbq (Nat.le_refl _) hbq.size)
    have HRx7 : Hid (RasAtB wo (w4.heap.size) x.w x.h (some ⟨b4, d4, none⟩) x.p.length c4 25) := Lib.hid (Box.below HRx6.out hbq (RasAtB.lt HRx6.out))
    have HHx7 : Hid (HasP wo wo.heap.size (some ⟨b4, d4, none⟩) x.p) := Lib.hid (HHx6.out.carry hbq (Nat.le_refl _) hbq.size)
    have HOo7 : Hid (OpAtB wo (w3.heap.size) (sO (a : Int) (b : Int))) := Lib.hid (Box.below HOo6.out hbq (Box.lt HOo6.out))
    have HB7 := Lib.hid (HB6.out.trans (hbq.mono HB6.out.size))
    have HRT7 : Hid (RangesIn wo) := Lib.hid (HRT6.out.next hbq)
    have HBQ := Lib.hid hbq
    clear hbq
    have x2 := RasAtB.c2 HRx7.out
    have hxl := HXL.out.2
    by_cases hlt : k < x.p.length
    · obtain ⟨u, hu⟩ : ∃ u, x.p[k]? = some u := ⟨_, List.getElem?_eq_getElem hlt⟩
      have HU := Lib.hid hu
      clear hu
      go_wp2_with fail
      clear x2
      go_loopw [12, 13] (fun f i wr => ∃ j : Nat, j ≤ r.p.length ∧ i = .int .i64 (j : Int) ∧ f = .bool (decide (u ∈ r.p.take j)) ∧ Below wo.heap.size wo wr) (fun _ i _ => r.p.length - (intOf i).toNat)
      case atStart => exact ⟨0, Nat.zero_le _, rfl, by simp, Below.refl _ _⟩
      case round =>
        obtain ⟨j, hj, rfl, rfl, hbj⟩ := hrel
        have HRr8 : Hid (RasAtB wr (w1.heap.size) r.w r.h (some ⟨b1, d1, none⟩) r.p.length c1 25) := Lib.hid (Box.below HRr7.out hbj (RasAtB.lt HRr7.out))
        have HHr8 : Hid (HasP wr wr.heap.size (some ⟨b1, d1, none⟩) r.p) := Lib.hid (HHr7.out.carry hbj (Nat.le_refl _) hbj.size)
        have HRx8 : Hid (RasAtB wr (w4.heap.size) x.w x.h (some ⟨b4, d4, none⟩) x.p.length c4 25) := Lib.hid (Box.below HRx7.out hbj (RasAtB.lt HRx7.out))
        have HHx8 : Hid (HasP wr wr.heap.size (some ⟨b4, d4, none⟩) x.p) := Lib.hid (HHx7.out.carry hbj (Nat.le_refl _) hbj.size)
        have HOo8 : Hid (OpAtB wr (w3.heap.size) (sO (a : Int) (b : Int))) := Lib.hid (Box.below HOo7.out hbj (Box.lt HOo7.out))
        have HB8 := Lib.hid (HB7.out.trans (hbj.mono HB7.out.size))
        have HRT8 : Hid (RangesIn wr) := Lib.hid (HRT7.out.next hbj)
        have HBJ := Lib.hid hbj
        clear hbj
        have r2 := RasAtB.c2 HRr8.out
        have hrl := HRL.out.2
        by_cases hjl : j < r.p.length
        · obtain ⟨y, hy⟩ : ∃ y, r.p[j]? = some y := ⟨_, List.getElem?_eq_getElem hjl⟩
          have hj36 : j < 36 := by omega
          have hk36 : k < 36 := by omega
          have hjI : (0 : Int) ≤ (j : Int) ∧ (j : Int) < (r.p.length : Int) := by omega
          have hkI : (0 : Int) ≤ (k : Int) ∧ (k : Int) < (x.p.length : Int) := by omega
          have hmem : (u ∈ r.p.take (j + 1)) ↔ (u ∈ r.p.take j ∨ y = u) := by
            rw [List.take_add_one, hy, List.mem_append]
            simp [eq_comm]
          have HS0 : Hid ((fun w' => RasAtB w' (w1.heap.size) r.w r.h (some ⟨b1, d1, none⟩) r.p.length c1 25 ∧ RasAtB w' (w4.heap.size) x.w x.h (some ⟨b4, d4, none⟩) x.p.length c4 25 ∧ PxAt w' b1 (d1 + j * 4) y ∧ PxAt w' b4 (d4 + k * 4) u) wr.drew) := Lib.hid ⟨HRr8.out.drew1, HRx8.out.drew1, (HasP.px (HHr8.out.drewN 1) hy).2, (HasP.px (HHx8.out.drewN 1) HU.out).2⟩
          have HE := Lib.hid (below_draws HBJ.out 1)
          clear hy
          by_cases hf : u ∈ r.p.take j
          · rw [decide_eq_true hf]
            have HM : Hid (decide (u ∈ r.p.take (j + 1)) = true) := Lib.hid (decide_eq_true (hmem.2 (.inl hf)))
            clear hmem hf
            go_wp2_with fail
            clear r2
            refine wp_region_T (fun w' => RasAtB w' (w1.heap.size) r.w r.h (some ⟨b1, d1, none⟩) r.p.length c1 25 ∧ RasAtB w' (w4.heap.size) x.w x.h (some ⟨b4, d4, none⟩) x.p.length c4 25 ∧ PxAt w' b1 (d1 + j * 4) y ∧ PxAt w' b4 (d4 + k * 4) u) 14 (by kernel_rfl) ?_
            refine wpAnyT_take (i := 0) (d := 90) (v := .bool true) rfl rfl (by kernel_rfl) (by kernel_rfl) (by kernel_rfl) (by kernel_rfl) (by kernel_rfl) (fun _ _ _ h => h) HS0.out (Or.inl ⟨by rfl, fun w' hS' => ?_⟩) ?_
            · obtain ⟨s0, s1, s2, s3⟩ := hS'
              have t2 := s0.c2
              have v2 := s1.c2
              obtain ⟨p0, p1, p2, p3⟩ := s2
              obtain ⟨q0, q1, q2, q3⟩ := s3
              go_simp
            simp only [Act.put, List.setIfInBounds_toArray, List.set_cons_zero, List.set_cons_succ]
            refine wpAnyT_take (i := 1) (d := 91) (v := .bool true) rfl rfl (by kernel_rfl) (by kernel_rfl) (by kernel_rfl) (by kernel_rfl) (by kernel_rfl) (fun _ _ _ h => h) HS0.out (Or.inl ⟨by rfl, fun w' hS' => ?_⟩) ?_
            · obtain ⟨s0, s1, s2, s3⟩ := hS'
              have t2 := s0.c2
              have v2 := s1.c2
              obtain ⟨p0, p1, p2, p3⟩ := s2
              obtain ⟨q0, q1, q2, q3⟩ := s3
              go_simp
            simp only [Act.put, List.setIfInBounds_toArray, List.set_cons_zero, List.set_cons_succ]
            refine wpAnyT_take (i := 2) (d := 92) (v := undef) rfl rfl (by kernel_rfl) (by kernel_rfl) (by kernel_rfl) (by kernel_rfl) (by kernel_rfl) (fun _ _ _ h => h) HS0.out (Or.inr ⟨by rfl, rfl⟩) ?_
            simp only [Act.put, List.setIfInBounds_toArray, List.set_cons_zero, List.set_cons_succ]
            refine wpAnyT_take (i := 3) (d := 93) (v := undef) rfl rfl (by kernel_rfl) (by kernel_rfl) (by kernel_rfl) (by kernel_rfl) (by kernel_rfl) (fun _ _ _ h => h) HS0.out (Or.inr ⟨by rfl, rfl⟩) ?_
            simp only [Act.put, List.setIfInBounds_toArray, List.set_cons_zero, List.set_cons_succ]
            refine wpAnyT_take (i := 4) (d := 94) (v := undef) rfl rfl (by kernel_rfl) (by kernel_rfl) (by kernel_rfl) (by kernel_rfl) (by kernel_rfl) (fun _ _ _ h => h) HS0.out (Or.inr ⟨by rfl, rfl⟩) ?_
            simp only [Act.put, List.setIfInBounds_toArray, List.set_cons_zero, List.set_cons_succ]
            refine wpAnyT_take (i := 5) (d := 95) (v := undef) rfl rfl (by kernel_rfl) (by kernel_rfl) (by kernel_rfl) (by kernel_rfl) (by kernel_rfl) (fun _ _ _ h => h) HS0.out (Or.inr ⟨by rfl, rfl⟩) ?_
            simp only [Act.put, List.setIfInBounds_toArray, List.set_cons_zero, List.set_cons_succ]
            refine wpAnyT_take (i := 6) (d := 96) (v := undef) rfl rfl (by kernel_rfl) (by kernel_rfl) (by kernel_rfl) (by kernel_rfl) (by kernel_rfl) (fun _ _ _ h => h) HS0.out (Or.inr ⟨by rfl, rfl⟩) ?_
            simp only [Act.put, List.setIfInBounds_toArray, List.set_cons_zero, List.set_cons_succ]
            refine wpAnyT_take (i := 7) (d := 97) (v := undef) rfl rfl (by kernel_rfl) (by kernel_rfl) (by kernel_rfl) (by kernel_rfl) (by kernel_rfl) (fun _ _ _ h => h) HS0.out (Or.inr ⟨by rfl, rfl⟩) ?_
            simp only [Act.put, List.setIfInBounds_toArray, List.set_cons_zero, List.set_cons_succ]
            refine wpAnyT_take (i := 8) (d := 98) (v := undef) rfl rfl (by kernel_rfl) (by kernel_rfl) (by kernel_rfl) (by kernel_rfl) (by kernel_rfl) (fun _ _ _ h => h) HS0.out (Or.inr ⟨by rfl, rfl⟩) ?_
            simp only [Act.put, List.setIfInBounds_toArray, List.set_cons_zero, List.set_cons_succ]
            refine wpAnyT_take (i := 9) (d := 99) (v := undef) rfl rfl (by kernel_rfl) (by kernel_rfl) (by kernel_rfl) (by kernel_rfl) (by kernel_rfl) (fun _ _ _ h => h) HS0.out (Or.inr ⟨by rfl, rfl⟩) ?_
            simp only [Act.put, List.setIfInBounds_toArray, List.set_cons_zero, List.set_cons_succ]
            refine wpAnyT_take (i := 10) (d := 100) (v := undef) rfl rfl (by kernel_rfl) (by kernel_rfl) (by kernel_rfl) (by kernel_rfl) (by kernel_rfl) (fun _ _ _ h => h) HS0.out (Or.inr ⟨by rfl, rfl⟩) ?_
            simp only [Act.put, List.setIfInBounds_toArray, List.set_cons_zero, List.set_cons_succ]
            refine wpAnyT_take (i := 11) (d := 101) (v := undef) rfl rfl (by kernel_rfl) (by kernel_rfl) (by kernel_rfl) (by kernel_rfl) (by kernel_rfl) (fun _ _ _ h => h) HS0.out (Or.inr ⟨by rfl, rfl⟩) ?_
            simp only [Act.put, List.setIfInBounds_toArray, List.set_cons_zero, List.set_cons_succ]
            refine wpAnyT_take (i := 12) (d := 102) (v := undef) rfl rfl (by kernel_rfl) (by kernel_rfl) (by kernel_rfl) (by kernel_rfl) (by kernel_rfl) (fun _ _ _ h => h) HS0.out (Or.inr ⟨by rfl, rfl⟩) ?_
            simp only [Act.put, List.setIfInBounds_toArray, List.set_cons_zero, List.set_cons_succ]
            refine wpAnyT_take (i := 13) (d := 103) (v := .bool true) rfl rfl (by kernel_rfl) (by kernel_rfl) (by kernel_rfl) (by kernel_rfl) (by kernel_rfl) (fun _ _ _ h => h) HS0.out (Or.inl ⟨by rfl, fun w' hS' => ?_⟩) ?_
            · obtain ⟨s0, s1, s2, s3⟩ := hS'
              have t2 := s0.c2
              have v2 := s1.c2
              obtain ⟨p0, p1, p2, p3⟩ := s2
              obtain ⟨q0, q1, q2, q3⟩ := s3
              go_simp
            simp only [Act.put, List.setIfInBounds_toArray, List.set_cons_zero, List.set_cons_succ]
            refine wpAnyT_one (i := 14) (by kernel_rfl) rfl (fun K hK => ?_)
            go_simp
            refine hK.out _ _ last_out ?_
            clear hK
            refine wpAnyT_done (by kernel_rfl) ?_ _
            have HE1 := HE.out
            go_wp2_with fail
            go_roundw
            case rel => exact ⟨j + 1, by omega, by go_num, by rw [HM.out], HE1⟩
            case measure => simp [intOf]; omega
          · rw [decide_eq_false hf]
            have HM : Hid (decide (u ∈ r.p.take (j + 1)) = decide (y = u)) := Lib.hid (by
              by_cases e : y = u
              · rw [decide_eq_true e]
                exact decide_eq_true (hmem.2 (.inr e))
              · rw [decide_eq_false e]
                exact decide_eq_false fun h => (hmem.1 h).elim hf e)
            clear hmem hf
            go_wp2_with fail
            clear r2
            refine wp_region_T (fun w' => RasAtB w' (w1.heap.size) r.w r.h (some ⟨b1, d1, none⟩) r.p.length c1 25 ∧ RasAtB w' (w4.heap.size) x.w x.h (some ⟨b4, d4, none⟩) x.p.length c4 25 ∧ PxAt w' b1 (d1 + j * 4) y ∧ PxAt w' b4 (d4 + k * 4) u) 14 (by kernel_rfl) ?_
            refine wpAnyT_take (i := 0) (d := 90) (v := .bool false) rfl rfl (by kernel_rfl) (by kernel_rfl) (by kernel_rfl) (by kernel_rfl) (by kernel_rfl) (fun _ _ _ h => h) HS0.out (Or.inl ⟨by rfl, fun w' hS' => ?_⟩) ?_
            · obtain ⟨s0, s1, s2, s3⟩ := hS'
              have t2 := s0.c2
              have v2 := s1.c2
              obtain ⟨p0, p1, p2, p3⟩ := s2
              obtain ⟨q0, q1, q2, q3⟩ := s3
              go_simp
            simp only [Act.put, List.setIfInBounds_toArray, List.set_cons_zero, List.set_cons_succ]
            refine wpAnyT_take (i := 1) (d := 91) (v := .bool false) rfl rfl (by kernel_rfl) (by kernel_rfl) (by kernel_rfl) (by kernel_rfl) (by kernel_rfl) (fun _ _ _ h => h) HS0.out (Or.inl ⟨by rfl, fun w' hS' => ?_⟩) ?_
            · obtain ⟨s0, s1, s2, s3⟩ := hS'
              have t2 := s0.c2
              have v2 := s1.c2
              obtain ⟨p0, p1, p2, p3⟩ := s2
              obtain ⟨q0, q1, q2, q3⟩ := s3
              go_simp
            simp only [Act.put, List.setIfInBounds_toArray, List.set_cons_zero, List.set_cons_succ]
            refine wpAnyT_take (i := 2) (d := 92) (v := .pointer (some ⟨w1.heap.size, 2, none⟩)) rfl rfl (by kernel_rfl) (by kernel_rfl) (by kernel_rfl) (by kernel_rfl) (by kernel_rfl) (fun _ _ _ h => h) HS0.out (Or.inl ⟨by rfl, fun w' hS' => ?_⟩) ?_
            · obtain ⟨s0, s1, s2, s3⟩ := hS'
              have t2 := s0.c2
              have v2 := s1.c2
              obtain ⟨p0, p1, p2, p3⟩ := s2
              obtain ⟨q0, q1, q2, q3⟩ := s3
              go_simp
            simp only [Act.put, List.setIfInBounds_toArray, List.set_cons_zero, List.set_cons_succ]
            refine wpAnyT_take (i := 3) (d := 93) (v := .slice (some ⟨b1, d1, none⟩) r.p.length c1) rfl rfl (by kernel_rfl) (by kernel_rfl) (by kernel_rfl) (by kernel_rfl) (by kernel_rfl) (fun _ _ _ h => h) HS0.out (Or.inl ⟨by rfl, fun w' hS' => ?_⟩) ?_
            · obtain ⟨s0, s1, s2, s3⟩ := hS'
              have t2 := s0.c2
              have v2 := s1.c2
              obtain ⟨p0, p1, p2, p3⟩ := s2
              obtain ⟨q0, q1, q2, q3⟩ := s3
              go_simp
            simp only [Act.put, List.setIfInBounds_toArray, List.set_cons_zero, List.set_cons_succ]
            refine wpAnyT_take (i := 4) (d := 94) (v := .int .i64 (j : Int)) rfl rfl (by kernel_rfl) (by kernel_rfl) (by kernel_rfl) (by kernel_rfl) (by kernel_rfl) (fun _ _ _ h => h) HS0.out (Or.inl ⟨by rfl, fun w' hS' => ?_⟩) ?_
            · obtain ⟨s0, s1, s2, s3⟩ := hS'
              have t2 := s0.c2
              have v2 := s1.c2
              obtain ⟨p0, p1, p2, p3⟩ := s2
              obtain ⟨q0, q1, q2, q3⟩ := s3
              go_simp
            simp only [Act.put, List.setIfInBounds_toArray, List.set_cons_zero, List.set_cons_succ]
            refine wpAnyT_take (i := 5) (d := 95) (v := .pointer (some ⟨b1, d1 + j * 4, none⟩)) rfl rfl (by kernel_rfl) (by kernel_rfl) (by kernel_rfl) (by kernel_rfl) (by kernel_rfl) (fun _ _ _ h => h) HS0.out (Or.inl ⟨by rfl, fun w' hS' => ?_⟩) ?_
            · obtain ⟨s0, s1, s2, s3⟩ := hS'
              have t2 := s0.c2
              have v2 := s1.c2
              obtain ⟨p0, p1, p2, p3⟩ := s2
              obtain ⟨q0, q1, q2, q3⟩ := s3
              go_simp
            simp only [Act.put, List.setIfInBounds_toArray, List.set_cons_zero, List.set_cons_succ]
            refine wpAnyT_take (i := 6) (d := 96) (v := (.agg #[.int .i64 y.r, .int .i64 y.g, .int .i64 y.b, .int .i64 y.a])) rfl rfl (by kernel_rfl) (by kernel_rfl) (by kernel_rfl) (by kernel_rfl) (by kernel_rfl) (fun _ _ _ h => h) HS0.out (Or.inl ⟨by rfl, fun w' hS' => ?_⟩) ?_
            · obtain ⟨s0, s1, s2, s3⟩ := hS'
              have t2 := s0.c2
              have v2 := s1.c2
              obtain ⟨p0, p1, p2, p3⟩ := s2
              obtain ⟨q0, q1, q2, q3⟩ := s3
              go_simp
            simp only [Act.put, List.setIfInBounds_toArray, List.set_cons_zero, List.set_cons_succ]
            refine wpAnyT_take (i := 7) (d := 97) (v := .pointer (some ⟨w4.heap.size, 2, none⟩)) rfl rfl (by kernel_rfl) (by kernel_rfl) (by kernel_rfl) (by kernel_rfl) (by kernel_rfl) (fun _ _ _ h => h) HS0.out (Or.inl ⟨by rfl, fun w' hS' => ?_⟩) ?_
            · obtain ⟨s0, s1, s2, s3⟩ := hS'
              have t2 := s0.c2
              have v2 := s1.c2
              obtain ⟨p0, p1, p2, p3⟩ := s2
              obtain ⟨q0, q1, q2, q3⟩ := s3
              go_simp
            simp only [Act.put, List.setIfInBounds_toArray, List.set_cons_zero, List.set_cons_succ]
            refine wpAnyT_take (i := 8) (d := 98) (v := .slice (some ⟨b4, d4, none⟩) x.p.length c4) rfl rfl (by kernel_rfl) (by kernel_rfl) (by kernel_rfl) (by kernel_rfl) (by kernel_rfl) (fun _ _ _ h => h) HS0.out (Or.inl ⟨by rfl, fun w' hS' => ?_⟩) ?_
            · obtain ⟨s0, s1, s2, s3⟩ := hS'
              have t2 := s0.c2
              have v2 := s1.c2
              obtain ⟨p0, p1, p2, p3⟩ := s2
              obtain ⟨q0, q1, q2, q3⟩ := s3
              go_simp
            simp only [Act.put, List.setIfInBounds_toArray, List.set_cons_zero, List.set_cons_succ]
            refine wpAnyT_take (i := 9) (d := 99) (v := .int .i64 (k : Int)) rfl rfl (by kernel_rfl) (by kernel_rfl) (by kernel_rfl) (by kernel_rfl) (by kernel_rfl) (fun _ _ _ h => h) HS0.out (Or.inl ⟨by rfl, fun w' hS' => ?_⟩) ?_
            · obtain ⟨s0, s1, s2, s3⟩ := hS'
              have t2 := s0.c2
              have v2 := s1.c2
              obtain ⟨p0, p1, p2, p3⟩ := s2
              obtain ⟨q0, q1, q2, q3⟩ := s3
              go_simp
            simp only [Act.put, List.setIfInBounds_toArray, List.set_cons_zero, List.set_cons_succ]
            refine wpAnyT_take (i := 10) (d := 100) (v := .pointer (some ⟨b4, d4 + k * 4, none⟩)) rfl rfl (by kernel_rfl) (by kernel_rfl) (by kernel_rfl) (by kernel_rfl) (by kernel_rfl) (fun _ _ _ h => h) HS0.out (Or.inl ⟨by rfl, fun w' hS' => ?_⟩) ?_
            · obtain ⟨s0, s1, s2, s3⟩ := hS'
              have t2 := s0.c2
              have v2 := s1.c2
              obtain ⟨p0, p1, p2, p3⟩ := s2
              obtain ⟨q0, q1, q2, q3⟩ := s3
              go_simp
            simp only [Act.put, List.setIfInBounds_toArray, List.set_cons_zero, List.set_cons_succ]
            refine wpAnyT_take (i := 11) (d := 101) (v := (.agg #[.int .i64 u.r, .int .i64 u.g, .int .i64 u.b, .int .i64 u.a])) rfl rfl (by kernel_rfl) (by kernel_rfl) (by kernel_rfl) (by kernel_rfl) (by kernel_rfl) (fun _ _ _ h => h) HS0.out (Or.inl ⟨by rfl, fun w' hS' => ?_⟩) ?_
            · obtain ⟨s0, s1, s2, s3⟩ := hS'
              have t2 := s0.c2
              have v2 := s1.c2
              obtain ⟨p0, p1, p2, p3⟩ := s2
              obtain ⟨q0, q1, q2, q3⟩ := s3
              go_simp
            simp only [Act.put, List.setIfInBounds_toArray, List.set_cons_zero, List.set_cons_succ]
            refine wpAnyT_take (i := 12) (d := 102) (v := .bool (decide (y = u))) rfl rfl (by kernel_rfl) (by kernel_rfl) (by kernel_rfl) (by kernel_rfl) (by kernel_rfl) (fun _ _ _ h => h) HS0.out (Or.inl ⟨by rfl, fun w' hS' => ?_⟩) ?_
            · exact exec_eqlPix (p := y) (q := u) rfl rfl rfl w'
            simp only [Act.put, List.setIfInBounds_toArray, List.set_cons_zero, List.set_cons_succ]
            refine wpAnyT_take (i := 13) (d := 103) (v := .bool (decide (y = u))) rfl rfl (by kernel_rfl) (by kernel_rfl) (by kernel_rfl) (by kernel_rfl) (by kernel_rfl) (fun _ _ _ h => h) HS0.out (Or.inl ⟨by rfl, fun w' hS' => ?_⟩) ?_
            · obtain ⟨s0, s1, s2, s3⟩ := hS'
              have t2 := s0.c2
              have v2 := s1.c2
              obtain ⟨p0, p1, p2, p3⟩ := s2
              obtain ⟨q0, q1, q2, q3⟩ := s3
              go_simp
            simp only [Act.put, List.setIfInBounds_toArray, List.set_cons_zero, List.set_cons_succ]
            refine wpAnyT_one (i := 14) (by kernel_rfl) rfl (fun K hK => ?_)
            go_simp
            refine hK.out _ _ last_out ?_
            clear hK
            refine wpAnyT_done (by kernel_rfl) ?_ _
            have HE1 := HE.out
            go_wp2_with fail
            go_roundw
            case rel => exact ⟨j + 1, by omega, by go_num, by rw [HM.out], HE1⟩
            case measure => simp [intOf]; omega
        obtain rfl : j = r.p.length := by omega
        have hf : u ∈ r.p.take r.p.length := by rw [List.take_length]; exact HIN.out u (List.mem_of_getElem? HU.out)
        rw [decide_eq_true hf]
        have HE := Lib.hid (HBQ.out.trans (HBJ.out.mono HBQ.out.size))
        clear hf hj hjl
        go_wp2_with fail
        go_roundw
        case rel => exact ⟨k + 1, by omega, by go_num, HE.out⟩
        case measure => simp [intOf]; omega
    obtain rfl : k = x.p.length := by omega
    clear hk hlt
    have rc0 := RasAtB.c0 HRr7.out
    have rc1 := RasAtB.c1 HRr7.out
    have rc2 := RasAtB.c2 HRr7.out
    have HOgO7 : Hid (OpAtB (wo.alloc (.cells #[.int .i64 5, .int .i64 0, .int .i64 0, .int .i64 0, .int .i64 0] 27)) (wo.heap.size) gO) := Lib.hid (Box.new wo _ _)
    have rn0 : w1.heap.size < wo.heap.size := by have := RasAtB.lt HRr7.out; omega
    have HOgO7 : Hid (OpAtB ((wo.alloc (.cells #[.int .i64 5, .int .i64 0, .int .i64 0, .int .i64 0, .int .i64 0] 27)).alloc (.cells #[.int .i64 7, .int .i64 (r.w : Int), .int .i64 (r.h : Int), .int .i64 0, .int .i64 0] 27)) (wo.heap.size) gO) := Lib.hid (Box.alloc HOgO7.out _)
    have HOsm7 : Hid (OpAtB ((wo.alloc (.cells #[.int .i64 5, .int .i64 0, .int .i64 0, .int .i64 0, .int .i64 0] 27)).alloc (.cells #[.int .i64 7, .int .i64 (r.w : Int), .int .i64 (r.h : Int), .int .i64 0, .int .i64 0] 27)) (wo.heap.size + 1) (sO (r.w : Int) (r.h : Int))) := Lib.hid ((by
        have := Box.new (wo.alloc (.cells #[.int .i64 5, .int .i64 0, .int .i64 0, .int .i64 0, .int .i64 0] 27)) #[.int .i64 7, .int .i64 (r.w : Int), .int .i64 (r.h : Int), .int .i64 0, .int .i64 0] 27
        rw [show (wo.alloc (.cells #[.int .i64 5, .int .i64 0, .int .i64 0, .int .i64 0, .int .i64 0] 27)).heap.size = wo.heap.size + 1 from by simp] at this
        exact this))
    have HBN9 : Hid (Below wo.heap.size wo ((wo.alloc (.cells #[.int .i64 5, .int .i64 0, .int .i64 0, .int .i64 0, .int .i64 0] 27)).alloc (.cells #[.int .i64 7, .int .i64 (r.w : Int), .int .i64 (r.h : Int), .int .i64 0, .int .i64 0] 27))) := Lib.hid (((Below.refl wo.heap.size wo).alloc (Nat.le_refl _) _).alloc (by simp) _)
    go_wp2_with fail
    generalize (wo.alloc (.cells #[.int .i64 5, .int .i64 0, .int .i64 0, .int .i64 0, .int .i64 0] 27)).alloc (.cells #[.int .i64 7, .int .i64 (r.w : Int), .int .i64 (r.h : Int), .int .i64 0, .int .i64 0] 27) = w9 at *
    have b9 := HBN9.out
    have HOgO9 : Hid (OpAtB w9 (wo.heap.size) gO) := HOgO7
    have HOsm9 : Hid (OpAtB w9 (wo.heap.size + 1) (sO (r.w : Int) (r.h : Int))) := HOsm7
    have HRr9 : Hid (RasAtB w9 (w1.heap.size) r.w r.h (some ⟨b1, d1, none⟩) r.p.length c1 25) := Lib.hid (Box.below HRr7.out b9 (RasAtB.lt HRr7.out))
    have HHr9 : Hid (HasP w9 w9.heap.size (some ⟨b1, d1, none⟩) r.p) := Lib.hid (HHr7.out.carry b9 (Nat.le_refl _) b9.size)
    have HRx9 : Hid (RasAtB w9 (w4.heap.size) x.w x.h (some ⟨b4, d4, none⟩) x.p.length c4 25) := Lib.hid (Box.below HRx7.out b9 (RasAtB.lt HRx7.out))
    have HHx9 : Hid (HasP w9 w9.heap.size (some ⟨b4, d4, none⟩) x.p) := Lib.hid (HHx7.out.carry b9 (Nat.le_refl _) b9.size)
    have HOo9 : Hid (OpAtB w9 (w3.heap.size) (sO (a : Int) (b : Int))) := Lib.hid (Box.below HOo7.out b9 (Box.lt HOo7.out))
    have HB9 := Lib.hid (HB7.out.trans (b9.mono HB7.out.size))
    have HRT9 : Hid (RangesIn w9) := Lib.hid (HRT7.out.next b9)
    clear HRr7 HHr7 HRx7 HHx7 HOo7 HOgO7 HOsm7 HB7 HRT7
    clear b9 HBN9
    clear rc0 rc1 rc2 rn0 x2
    have hW := HOK.out.parts.1
    have hH := HOK.out.parts.2.1
    have hbd : Below w9.heap.size w9 w9.drew := below_draws ((Below.refl _ _)) 1
    have hRrb : RasAtB w9.drew (w1.heap.size) r.w r.h (some ⟨b1, d1, none⟩) r.p.length c1 25 := Box.below HRr9.out hbd (RasAtB.lt HRr9.out)
    have hHrb : HasP w9.drew w9.drew.heap.size (some ⟨b1, d1, none⟩) r.p := HHr9.out.carry hbd (Nat.le_refl _) hbd.size
    have hRxb : RasAtB w9.drew (w4.heap.size) x.w x.h (some ⟨b4, d4, none⟩) x.p.length c4 25 := Box.below HRx9.out hbd (RasAtB.lt HRx9.out)
    have hHxb : HasP w9.drew w9.drew.heap.size (some ⟨b4, d4, none⟩) x.p := HHx9.out.carry hbd (Nat.le_refl _) hbd.size
    have hOob : OpAtB w9.drew (w3.heap.size) (sO (a : Int) (b : Int)) := Box.below HOo9.out hbd (Box.lt HOo9.out)
    have hOgOb : OpAtB w9.drew (wo.heap.size) gO := Box.below HOgO9.out hbd (Box.lt HOgO9.out)
    have hOsmb : OpAtB w9.drew (wo.heap.size + 1) (sO (r.w : Int) (r.h : Int)) := Box.below HOsm9.out hbd (Box.lt HOsm9.out)
    have hRTb : RangesIn w9.drew := HRT9.out.next hbd
    have HBD := Lib.hid hbd
    clear hbd
    have HFS := Lib.hid (And.intro hRrb ( And.intro hHrb ( And.intro hRxb ( And.intro hHxb ( And.intro hOob ( And.intro hOgOb ( And.intro hOsmb (hRTb))))))))
    clear hRrb hHrb hRxb hHxb hOob hOgOb hOsmb hRTb
    obtain ⟨hRrb, hHrb, hRxb, hHxb, hOob, hOgOb, hOsmb, hRTb⟩ := HFS.out
    clear HFS
    refine wp_region_kd 130 [112, 113, 114, 115, 116, 117, 118, 119, 120, 121, 122, 123, 124, 125, 126, 127, 128, 129, 4] [(112, .ras r), (113, .is ((sO (r.w : Int) (r.h : Int)).v)), (114, .ops [(sO (r.w : Int) (r.h : Int))]), (115, .ras (eaR r [(sO (r.w : Int) (r.h : Int))])), (116, .ras r), (117, .is (.bool true)), (118, .is (.bool true)), (119, .ras x), (120, .is (gO.v)), (121, .ops [gO]), (122, .ras (eaR x [gO])), (123, .ras r), (124, .is (gO.v)), (125, .is ((sO (a : Int) (b : Int)).v)), (126, .ops [gO, (sO (a : Int) (b : Int))]), (127, .ras (eaR r [gO, (sO (a : Int) (b : Int))])), (128, .is (.bool true)), (129, .is (.bool true)), (4, .is (.bool true))] (Below w9.drew.heap.size w9.drew) (by kernel_rfl) (by kernel_rfl) rfl rfl (by decide) (by decide) rfl rfl (Below.refl _ _) ?_ ?_
    · intro i o V w ho hS hV hd
      have hi : i < 19 := (Array.getElem?_eq_some_iff.1 ho).1
      have hi2 : i = 0 ∨ i = 1 ∨ i = 2 ∨ i = 3 ∨ i = 4 ∨ i = 5 ∨ i = 6 ∨ i = 7 ∨ i = 8 ∨ i = 9 ∨ i = 10 ∨ i = 11 ∨ i = 12 ∨ i = 13 ∨ i = 14 ∨ i = 15 ∨ i = 16 ∨ i = 17 ∨ i = 18 := by omega
      clear hi
      rcases hi2 with rfl | rfl | rfl | rfl | rfl | rfl | rfl | rfl | rfl | rfl | rfl | rfl | rfl | rfl | rfl | rfl | rfl | rfl | rfl
      · obtain rfl : _ = o := Option.some.inj ((show _ = some _ from rfl).symm.trans ho)
        have x5 : V 5 = .pointer (some ⟨w1.heap.size, 0, none⟩) := (hV 5 (by simp)).trans rfl
        refine ⟨fun _ => ?_, fun hw => absurd (show true = false from hw) (by decide)⟩
        · exact yield_ras rfl ((frame_eval V (by decide)).trans x5) hRrb hc1 hHrb hS
      · obtain rfl : _ = o := Option.some.inj ((show _ = some _ from rfl).symm.trans ho)
        have x15 : V 15 = .pointer (some ⟨wo.heap.size + 1, 0, none⟩) := (hV 15 (by simp)).trans rfl
        refine ⟨fun _ => ?_, fun hw => absurd (show true = false from hw) (by decide)⟩
        · exact yield_op rfl ((frame_eval V (by decide)).trans x15) hOsmb hS
      · obtain rfl : _ = o := Option.some.inj ((show _ = some _ from rfl).symm.trans ho)
        have d1 : V 113 = (sO (r.w : Int) (r.h : Int)).v := hd ⟨1, .data⟩ (by simp) rfl
        refine ⟨fun _ => ?_, fun hw => absurd (show true = false from hw) (by decide)⟩
        · exact yield_ops1 rfl ((frame_eval V (by decide)).trans d1) hS
      · obtain rfl : _ = o := Option.some.inj ((show _ = some _ from rfl).symm.trans ho)
        have d0 : IsRa r w (V 112) := hd ⟨0, .data⟩ (by simp) rfl
        have d2 : IsOps [(sO (r.w : Int) (r.h : Int))] w (V 114) := hd ⟨2, .data⟩ (by simp) rfl
        refine ⟨fun _ => ?_, fun hw => absurd (show true = false from hw) (by decide)⟩
        · exact yield_eaDo rfl (frame_eval V (by decide)) (frame_eval V (by decide)) d0 d2 HOK.out (can_s hW hH can_nil) (by simp) hRTb hS
      · obtain rfl : _ = o := Option.some.inj ((show _ = some _ from rfl).symm.trans ho)
        have x5 : V 5 = .pointer (some ⟨w1.heap.size, 0, none⟩) := (hV 5 (by simp)).trans rfl
        refine ⟨fun _ => ?_, fun hw => absurd (show true = false from hw) (by decide)⟩
        · exact yield_ras rfl ((frame_eval V (by decide)).trans x5) hRrb hc1 hHrb hS
      · obtain rfl : _ = o := Option.some.inj ((show _ = some _ from rfl).symm.trans ho)
        have d3 : IsRa (eaR r [(sO (r.w : Int) (r.h : Int))]) w (V 115) := hd ⟨3, .data⟩ (by simp) rfl
        have d4 : IsRa r w (V 116) := hd ⟨4, .data⟩ (by simp) rfl
        refine ⟨fun _ => ?_, fun hw => absurd (show true = false from hw) (by decide)⟩
        · exact yield_eaRas rfl (frame_eval V (by decide)) (frame_eval V (by decide)) d3 d4 (ea_ok HOK.out (can_s hW hH can_nil)) (by rw [ea_s HOK.out _ hW hH, eaR_nil]; exact size_same HOK.out) hS
      · obtain rfl : _ = o := Option.some.inj ((show _ = some _ from rfl).symm.trans ho)
        have d5 : V 117 = .bool true := hd ⟨5, .data⟩ (by simp) rfl
        refine ⟨fun _ => ?_, fun hw => absurd (show true = false from hw) (by decide)⟩
        · exact yield_copy (.inl rfl) ((frame_eval V (by decide)).trans d5) hS
      · obtain rfl : _ = o := Option.some.inj ((show _ = some _ from rfl).symm.trans ho)
        have x8 : V 8 = .pointer (some ⟨w4.heap.size, 0, none⟩) := (hV 8 (by simp)).trans rfl
        have gd : V 118 = .bool true := hd ⟨6, .guard⟩ (by simp) rfl
        refine ⟨fun _ => ?_, fun hw => absurd ((wanted_of rfl rfl (by decide) gd).symm.trans hw) (by decide)⟩
        · exact yield_ras rfl ((frame_eval V (by decide)).trans x8) hRxb hc4 hHxb hS
      · obtain rfl : _ = o := Option.some.inj ((show _ = some _ from rfl).symm.trans ho)
        have x14 : V 14 = .pointer (some ⟨wo.heap.size, 0, none⟩) := (hV 14 (by simp)).trans rfl
        have gd : V 118 = .bool true := hd ⟨6, .guard⟩ (by simp) rfl
        refine ⟨fun _ => ?_, fun hw => absurd ((wanted_of rfl rfl (by decide) gd).symm.trans hw) (by decide)⟩
        · exact yield_op rfl ((frame_eval V (by decide)).trans x14) hOgOb hS
      · obtain rfl : _ = o := Option.some.inj ((show _ = some _ from rfl).symm.trans ho)
        have d8 : V 120 = gO.v := hd ⟨8, .data⟩ (by simp) rfl
        have gd : V 118 = .bool true := hd ⟨6, .guard⟩ (by simp) rfl
        refine ⟨fun _ => ?_, fun hw => absurd ((wanted_of rfl rfl (by decide) gd).symm.trans hw) (by decide)⟩
        · exact yield_ops1 rfl ((frame_eval V (by decide)).trans d8) hS
      · obtain rfl : _ = o := Option.some.inj ((show _ = some _ from rfl).symm.trans ho)
        have d7 : IsRa x w (V 119) := hd ⟨7, .data⟩ (by simp) rfl
        have d9 : IsOps [gO] w (V 121) := hd ⟨9, .data⟩ (by simp) rfl
        have gd : V 118 = .bool true := hd ⟨6, .guard⟩ (by simp) rfl
        refine ⟨fun _ => ?_, fun hw => absurd ((wanted_of rfl rfl (by decide) gd).symm.trans hw) (by decide)⟩
        · exact yield_eaDo rfl (frame_eval V (by decide)) (frame_eval V (by decide)) d7 d9 HXO.out (can_g can_nil) (by simp) hRTb hS
      · obtain rfl : _ = o := Option.some.inj ((show _ = some _ from rfl).symm.trans ho)
        have x5 : V 5 = .pointer (some ⟨w1.heap.size, 0, none⟩) := (hV 5 (by simp)).trans rfl
        have gd : V 118 = .bool true := hd ⟨6, .guard⟩ (by simp) rfl
        refine ⟨fun _ => ?_, fun hw => absurd ((wanted_of rfl rfl (by decide) gd).symm.trans hw) (by decide)⟩
        · exact yield_ras rfl ((frame_eval V (by decide)).trans x5) hRrb hc1 hHrb hS
      · obtain rfl : _ = o := Option.some.inj ((show _ = some _ from rfl).symm.trans ho)
        have x14 : V 14 = .pointer (some ⟨wo.heap.size, 0, none⟩) := (hV 14 (by simp)).trans rfl
        have gd : V 118 = .bool true := hd ⟨6, .guard⟩ (by simp) rfl
        refine ⟨fun _ => ?_, fun hw => absurd ((wanted_of rfl rfl (by decide) gd).symm.trans hw) (by decide)⟩
        · exact yield_op rfl ((frame_eval V (by decide)).trans x14) hOgOb hS
      · obtain rfl : _ = o := Option.some.inj ((show _ = some _ from rfl).symm.trans ho)
        have x7 : V 7 = .pointer (some ⟨w3.heap.size, 0, none⟩) := (hV 7 (by simp)).trans rfl
        have gd : V 118 = .bool true := hd ⟨6, .guard⟩ (by simp) rfl
        refine ⟨fun _ => ?_, fun hw => absurd ((wanted_of rfl rfl (by decide) gd).symm.trans hw) (by decide)⟩
        · exact yield_op rfl ((frame_eval V (by decide)).trans x7) hOob hS
      · obtain rfl : _ = o := Option.some.inj ((show _ = some _ from rfl).symm.trans ho)
        have d12 : V 124 = gO.v := hd ⟨12, .data⟩ (by simp) rfl
        have d13 : V 125 = (sO (a : Int) (b : Int)).v := hd ⟨13, .data⟩ (by simp) rfl
        have gd : V 118 = .bool true := hd ⟨6, .guard⟩ (by simp) rfl
        refine ⟨fun _ => ?_, fun hw => absurd ((wanted_of rfl rfl (by decide) gd).symm.trans hw) (by decide)⟩
        · exact yield_ops2 rfl ((frame_eval V (by decide)).trans d12) ((frame_eval V (by decide)).trans d13) hS
      · obtain rfl : _ = o := Option.some.inj ((show _ = some _ from rfl).symm.trans ho)
        have d11 : IsRa r w (V 123) := hd ⟨11, .data⟩ (by simp) rfl
        have d14 : IsOps [gO, (sO (a : Int) (b : Int))] w (V 126) := hd ⟨14, .data⟩ (by simp) rfl
        have gd : V 118 = .bool true := hd ⟨6, .guard⟩ (by simp) rfl
        refine ⟨fun _ => ?_, fun hw => absurd ((wanted_of rfl rfl (by decide) gd).symm.trans hw) (by decide)⟩
        · exact yield_eaDo rfl (frame_eval V (by decide)) (frame_eval V (by decide)) d11 d14 HOK.out (can_g (can_s hab hbb can_nil)) (by simp) hRTb hS
      · obtain rfl : _ = o := Option.some.inj ((show _ = some _ from rfl).symm.trans ho)
        have d10 : IsRa (eaR x [gO]) w (V 122) := hd ⟨10, .data⟩ (by simp) rfl
        have d15 : IsRa (eaR r [gO, (sO (a : Int) (b : Int))]) w (V 127) := hd ⟨15, .data⟩ (by simp) rfl
        have gd : V 118 = .bool true := hd ⟨6, .guard⟩ (by simp) rfl
        refine ⟨fun _ => ?_, fun hw => absurd ((wanted_of rfl rfl (by decide) gd).symm.trans hw) (by decide)⟩
        · exact yield_eaRas rfl (frame_eval V (by decide)) (frame_eval V (by decide)) d10 d15 (ea_ok HXO.out (can_g can_nil)) (by rw [ea_g HXO.out, ea_g HOK.out, ea_s (eachR_ok HOK.out fun _ h => grayP_ok h) _ hab hbb, eaR_nil, ← HEx.out]; exact each_size HOK.out (fun _ h => grayP_ok h) hab hbb) hS
      · obtain rfl : _ = o := Option.some.inj ((show _ = some _ from rfl).symm.trans ho)
        have d6 : V 118 = .bool true := hd ⟨6, .data⟩ (by simp) rfl
        have d16 : V 128 = .bool true := hd ⟨16, .data⟩ (by simp) rfl
        refine ⟨fun _ => ?_, fun hw => absurd (show true = false from hw) (by decide)⟩
        · exact yield_pick rfl ((frame_eval V (by decide)).trans d6) ((frame_eval V (by decide)).trans d16) hS
      · obtain rfl : _ = o := Option.some.inj ((show _ = some _ from rfl).symm.trans ho)
        have d17 : V 129 = .bool true := hd ⟨17, .data⟩ (by simp) rfl
        refine ⟨fun _ => ?_, fun hw => absurd (show true = false from hw) (by decide)⟩
        · exact yield_copy (.inr rfl) ((frame_eval V (by decide)).trans d17) hS
    · intro V wx hS hV hall
      have dl : V 4 = .bool true := hall 18 (by decide)
      rw [frame_all (n := 130) (D := [112, 113, 114, 115, 116, 117, 118, 119, 120, 121, 122, 123, 124, 125, 126, 127, 128, 129, 4]) rfl rfl (by decide) hV]
      simp only [List.foldl_cons, List.foldl_nil, Act.put, List.setIfInBounds_toArray, List.set_cons_zero, List.set_cons_succ]
      rw [dl]
      have HE := Lib.hid (HB9.out.trans ((HBD.out.trans (hS.mono HBD.out.size)).mono HB9.out.size))
      clear hall hV dl hS hRrb hHrb hRxb hHxb hOob hOgOb hOsmb hRTb 
      go_wp2_with fail
      go_ret
      exact ⟨rfl, HE.out⟩
theorem fnOpSize_walk (A : Option Addr) (c : Nat) (l : List UInt8) (A2 : Option Addr) (c2 : Nat) (l2 : List UInt8) (w : World) (hR : RangesIn w) (h : Has w w.heap.size A l) (hc : l.length ≤ c) (_ : Has w w.heap.size A2 l2) (_ : l2.length ≤ c2) :
    Calls Tryd.prog 6 #[.slice A l.length c, .slice A2 l2.length c2] w fun e w' => e = .returned (.bool true) ∧ Below w.heap.size w w' := by
  by_cases hbig : l.length ≤ 1048576
  · by_cases hbig2 : l2.length ≤ 1048576
    · exact fnOpSize_small A c l A2 c2 l2 w hR h hc hbig hbig2
    · have hl0 : ¬ ((1048576 : Int) < (l.length : Int)) := by omega
      have hl2 : (1048576 : Int) < (l2.length : Int) := by omega
      clear h hc hbig hbig2
      go_enter Tryd.func6, Tryd.ntmps6
      go_wp2_with fail
      go_ret
      exact ⟨rfl, Below.refl _ _⟩
  · have hl0 : (1048576 : Int) < (l.length : Int) := by omega
    clear h hc hbig
    go_enter Tryd.func6, Tryd.ntmps6
    go_wp2_with fail
    go_ret
    exact ⟨rfl, Below.refl _ _⟩
end Go.Proofs.YtiemlakjallphaaDoor
