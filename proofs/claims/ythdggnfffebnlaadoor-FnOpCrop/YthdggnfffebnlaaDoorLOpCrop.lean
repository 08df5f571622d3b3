/-
  The law FnOpCrop returns true for every lists of bytes to draw from. Condition: the table of ranges reads as the program's text lays it.
-/
import Derived.Test.YthdggnfffebnlaaDoorRanL
import Derived.Test.YthdggnfffebnlaaDoorDrawOpA
import Derived.Test.YthdggnfffebnlaaDoorEaC
import Derived.Test.YthdggnfffebnlaaDoorRegL
import Derived.Test.YthdggnfffebnlaaDoorRasS
import Derived.Test.YthdggnfffebnlaaDoorRegM
namespace Go.Proofs.YthdggnfffebnlaaDoor
set_option maxRecDepth 4000
open Go.RowKit

set_option maxHeartbeats 8000000 in
theorem fnOpCrop_small (A : Option Addr) (c : Nat) (l : List UInt8) (A2 : Option Addr) (c2 : Nat) (l2 : List UInt8) (w : World) (hR : RangesIn w) (h : Has w w.heap.size A l) (hc : l.length ≤ c) (hs : l.length ≤ 1048576) (hs2 : l2.length ≤ 1048576) :
    Calls Tryd.prog 11 #[.slice A l.length c, .slice A2 l2.length c2] w fun e w' => e = .returned (.bool true) ∧ Below w.heap.size w w' := by
  have C1 := Lib.hid (drawOpDo_any A c l w (by omega) hc h)
  have HRW := Lib.hid hR
  have hl0 : ¬ ((1048576 : Int) < (l.length : Int)) := by omega
  have hl2 : ¬ ((1048576 : Int) < (l2.length : Int)) := by omega
  clear h hs hc hR hs2
  go_enter Tryd.func11, Tryd.ntmps11
  go_wp2_with fail
  refine C1.out.mono ?_
  rintro e w1 ⟨W, H, A1, c1, l1, q, rfl, hh1, hc1, hl1, B1⟩
  have CSK := Lib.hid fun u hh => specRasOk_any W H A1 c1 l1 u (by omega) hh
  have CIK := Lib.hid fun u hh => implRasOk_any W H A1 c1 l1 u (by omega) hh
  unfold rasV at CSK CIK ⊢
  unfold Op.v
  have b2 : Below w1.heap.size w1 ((w1.alloc (.cells #[.int .i64 W, .int .i64 H, .slice A1 l1.length c1] 34)).alloc (.cells #[.int .i64 q.k, .int .i64 q.a, .int .i64 q.b, .int .i64 q.c, .int .i64 q.d] 25)) := ((Below.refl _ w1).alloc (Nat.le_refl _) _).alloc (by simp) _
  have HRb2 : Hid (RasAtB ((w1.alloc (.cells #[.int .i64 W, .int .i64 H, .slice A1 l1.length c1] 34)).alloc (.cells #[.int .i64 q.k, .int .i64 q.a, .int .i64 q.b, .int .i64 q.c, .int .i64 q.d] 25)) w1.heap.size W H A1 l1.length c1 34) := Lib.hid (Box.alloc (Box.new w1 _ _) _)
  have HH2 := Lib.hid (hh1.carry b2 (Nat.le_refl _) b2.size)
  have HB2 := Lib.hid (B1.trans (b2.mono B1.size))
  clear b2 hh1 B1 C1
  go_wp2_with fail
  generalize ((w1.alloc (.cells #[.int .i64 W, .int .i64 H, .slice A1 l1.length c1] 34)).alloc (.cells #[.int .i64 q.k, .int .i64 q.a, .int .i64 q.b, .int .i64 q.c, .int .i64 q.d] 25)) = w2 at *
  have r0 := HRb2.out.c0
  have r1 := HRb2.out.c1
  have r2 := HRb2.out.c2
  go_wp2_with fail
  refine (CSK.out _ HH2.out).mono ?_
  rintro e w3 ⟨rfl, b3⟩
  have HRb3 := Lib.hid (HRb2.out.below b3 HRb2.out.lt)
  have HH3 := Lib.hid (HH2.out.carry b3 (Nat.le_refl _) b3.size)
  have HB3 := Lib.hid (HB2.out.trans (b3.mono HB2.out.size))
  have HR3 := Lib.hid (HRW.out.below HB3.out HRW.out.1)
  clear b3 r0 r1 r2 HRb2  HH2 HB2 CSK
  cases hok : rasB W H l1
  · have CK := Lib.hid (CIK.out w3 HH3.out)
    rw [hok] at CK
    have r0 := HRb3.out.c0
    have r1 := HRb3.out.c1
    have r2 := HRb3.out.c2
    clear hok
    go_wp2_with fail
    refine CK.out.mono ?_
    rintro e w4 ⟨rfl, b4⟩
    have HB4 := Lib.hid (HB3.out.trans (b4.mono HB3.out.size))
    clear b4
    go_wp2_with fail
    refine (eaOk_any _).mono ?_
    rintro e w5 ⟨rfl, b5⟩
    have HB5 := Lib.hid (HB4.out.trans (b5.mono HB4.out.size))
    clear b5
    go_wp2_with fail
    go_ret
    exact ⟨rfl, HB5.out⟩
  obtain ⟨r, rfl, rfl, rfl⟩ : ∃ r : Ra, W = (r.w : Int) ∧ H = (r.h : Int) ∧ l1 = r.p := by
    obtain ⟨hW, hH, -, -⟩ := rasB_parts hok
    exact ⟨⟨W.toNat, H.toNat, l1⟩, by simp only; omega, by simp only; omega, rfl⟩
  have hr : r.ok := hok
  have HRP := Lib.hid hr.parts
  clear hok CIK hl1
  have hW : 1 ≤ r.w ∧ r.w ≤ 6 := hr.parts.1
  have hH : 1 ≤ r.h ∧ r.h ≤ 6 := hr.parts.2.1
  obtain ⟨n, hn⟩ : ∃ n, l2.length = n := ⟨_, rfl⟩
  obtain ⟨a, ha⟩ : ∃ a, n % r.w = a := ⟨_, rfl⟩
  obtain ⟨b, hb⟩ : ∃ b, n / 7 % r.h = b := ⟨_, rfl⟩
  have haw : a < r.w := by rw [← ha]; exact Nat.mod_lt _ (by omega)
  have hbh : b < r.h := by rw [← hb]; exact Nat.mod_lt _ (by omega)
  obtain ⟨wa, hwa⟩ : ∃ wa : Nat, (r.w : Int) - (a : Int) = (wa : Int) ∧ r.w - a = wa := ⟨r.w - a, by omega, rfl⟩
  obtain ⟨hb1, hhb⟩ : ∃ hb1 : Nat, (r.h : Int) - (b : Int) = (hb1 : Int) ∧ r.h - b = hb1 := ⟨r.h - b, by omega, rfl⟩
  have hwa0 : 0 < wa := by omega
  have hhb0 : 0 < hb1 := by omega
  obtain ⟨c0, hc0⟩ : ∃ c0, n / 3 % wa = c0 := ⟨_, rfl⟩
  obtain ⟨d0, hd0⟩ : ∃ d0, n / 5 % hb1 = d0 := ⟨_, rfl⟩
  have hcw : c0 < wa := by rw [← hc0]; exact Nat.mod_lt _ hwa0
  have hdh : d0 < hb1 := by rw [← hd0]; exact Nat.mod_lt _ hhb0
  obtain ⟨cc, hcc⟩ : ∃ cc : Nat, 1 + (c0 : Int) = (cc : Int) ∧ 1 + c0 = cc := ⟨1 + c0, by omega, rfl⟩
  obtain ⟨dd, hdd⟩ : ∃ dd : Nat, 1 + (d0 : Int) = (dd : Int) ∧ 1 + d0 = dd := ⟨1 + d0, by omega, rfl⟩
  have hac : a + cc ≤ r.w := by omega
  have hbd2 : b + dd ≤ r.h := by omega
  have hc1' : 1 ≤ cc := by omega
  have hd1' : 1 ≤ dd := by omega
  have hn1 : n ≤ 1048576 := by omega
  have ea : (n : Int).tmod (r.w : Int) = (a : Int) := by rw [Int.tmod_eq_emod_of_nonneg (by omega), ← ha]; exact (Int.natCast_emod n r.w).symm
  have eb0 : (n : Int) / 7 = ((n / 7 : Nat) : Int) := (Int.natCast_ediv n 7).symm
  have eb : ((n : Int) / 7).tmod (r.h : Int) = (b : Int) := by rw [eb0, Int.tmod_eq_emod_of_nonneg (by omega), ← hb]; exact (Int.natCast_emod (n / 7) r.h).symm
  have ec0 : (n : Int) / 3 = ((n / 3 : Nat) : Int) := (Int.natCast_ediv n 3).symm
  have ec : ((n : Int) / 3).tmod (wa : Int) = (c0 : Int) := by rw [ec0, Int.tmod_eq_emod_of_nonneg (by omega), ← hc0]; exact (Int.natCast_emod (n / 3) wa).symm
  have ed0 : (n : Int) / 5 = ((n / 5 : Nat) : Int) := (Int.natCast_ediv n 5).symm
  have ed : ((n : Int) / 5).tmod (hb1 : Int) = (d0 : Int) := by rw [ed0, Int.tmod_eq_emod_of_nonneg (by omega), ← hd0]; exact (Int.natCast_emod (n / 5) hb1).symm
  have ea2 : (n : Int) % (r.w : Int) = (a : Int) := by rw [← ha]; exact (Int.natCast_emod n r.w).symm
  have eb2 : (n : Int) / 7 % (r.h : Int) = (b : Int) := by rw [eb0, ← hb]; exact (Int.natCast_emod (n / 7) r.h).symm
  have ec2 : (n : Int) / 3 % (wa : Int) = (c0 : Int) := by rw [ec0, ← hc0]; exact (Int.natCast_emod (n / 3) wa).symm
  have ed2 : (n : Int) / 5 % (hb1 : Int) = (d0 : Int) := by rw [ed0, ← hd0]; exact (Int.natCast_emod (n / 5) hb1).symm
  clear eb0 ec0 ed0
  have nw0 : ¬ r.w = 0 := by omega
  have nh0 : ¬ r.h = 0 := by omega
  have nwa0 : ¬ wa = 0 := by omega
  have nhb0 : ¬ hb1 = 0 := by omega
  have ew := hwa.1
  have eh := hhb.1
  have ecc := hcc.1
  have edd := hdd.1
  have hl2n := hn
  have HNS := Lib.hid (And.intro hwa.2 (And.intro hhb.2 (And.intro hcc.2 hdd.2)))
  have HOK := Lib.hid hr
  clear hwa hhb hcc hdd ha hb hc0 hd0 haw hbh hwa0 hhb0 hcw hdh
  have HRr3 := HRb3
  have HHr3 := HH3
  have HRT3 := HR3
  clear HRb3 HH3 HR3
  rw [hl2n] at *
  have rc0 := RasAtB.c0 HRr3.out
  have rc1 := RasAtB.c1 HRr3.out
  have rc2 := RasAtB.c2 HRr3.out
  have CE4 : Hid (Calls Tryd.prog 23 #[.agg #[.int .i64 (r.w : Int), .int .i64 (r.h : Int), .slice A1 r.p.length c1], .slice (some ⟨w3.heap.size, 0, none⟩) 1 1] (w3.alloc (.cells #[.int .i64 1, .int .i64 (a : Int), .int .i64 (b : Int), .int .i64 (cc : Int), .int .i64 (dd : Int)] 25)) (EaDid (cropR r a b cc dd) (w3.alloc (.cells #[.int .i64 1, .int .i64 (a : Int), .int .i64 (b : Int), .int .i64 (cc : Int), .int .i64 (dd : Int)] 25)))) := Lib.hid (by
    have bbel : Below w3.heap.size w3 (w3.alloc (.cells #[.int .i64 1, .int .i64 (a : Int), .int .i64 (b : Int), .int .i64 (cc : Int), .int .i64 (dd : Int)] 25)) := ((Below.refl w3.heap.size w3).alloc (Nat.le_refl _) _)
    have hlst : opE.Has (w3.alloc (.cells #[.int .i64 1, .int .i64 (a : Int), .int .i64 (b : Int), .int .i64 (cc : Int), .int .i64 (dd : Int)] 25)) (w3.alloc (.cells #[.int .i64 1, .int .i64 (a : Int), .int .i64 (b : Int), .int .i64 (cc : Int), .int .i64 (dd : Int)] 25)).heap.size (some ⟨w3.heap.size, 0, none⟩) [cO (a : Int) (b : Int) (cc : Int) (dd : Int)] := by
      have := El.Has.laid opE w3 [cO (a : Int) (b : Int) (cc : Int) (dd : Int)] 25
      exact this.wider (by simp)
    have := eaDo_any r A1 c1 (some ⟨w3.heap.size, 0, none⟩) 1 [cO (a : Int) (b : Int) (cc : Int) (dd : Int)] _ hr (can_c hr hc1' hd1' hac hbd2 can_nil) (HRT3.out.next bbel) hc1 (HHr3.out.carry bbel (Nat.le_refl _) bbel.size) hlst (by simp)
    rw [ea_c hr _ hc1' hd1' hac hbd2, eaR_nil] at this
    exact this)
  go_wp2_with fail
  refine CE4.out.mono ?_
  rintro e w4 ⟨v4, rfl, ⟨A4, c4, rfl, hc4, hh4⟩, b4⟩
  clear CE4
  clear rc0 rc1 rc2
  obtain ⟨x, hx⟩ : ∃ s, cropR r a b cc dd = s := ⟨_, rfl⟩
  rw [hx] at hc4 hh4 ⊢
  have HEx := Lib.hid hx
  clear hx
  unfold raV rasV
  have bb4 : Below w3.heap.size w3 w4 := (((Below.refl w3.heap.size w3).alloc (Nat.le_refl _) (.cells #[.int .i64 1, .int .i64 (a : Int), .int .i64 (b : Int), .int .i64 (cc : Int), .int .i64 (dd : Int)] 25))).trans (b4.mono (((Below.refl w3.heap.size w3).alloc (Nat.le_refl _) (.cells #[.int .i64 1, .int .i64 (a : Int), .int .i64 (b : Int), .int .i64 (cc : Int), .int .i64 (dd : Int)] 25))).size)
  have bc4 : Below w3.heap.size w3 w4 := ((Below.refl w3.heap.size w3)).trans (bb4.mono ((Below.refl w3.heap.size w3)).size)
  have HRr4 : Hid (RasAtB w4 (w1.heap.size) r.w r.h A1 r.p.length c1 34) := Lib.hid (Box.below HRr3.out bc4 (RasAtB.lt HRr3.out))
  have HHr4 : Hid (HasP w4 w4.heap.size A1 r.p) := Lib.hid (HHr3.out.carry bc4 (Nat.le_refl _) bc4.size)
  have HB4 := Lib.hid (HB3.out.trans (bc4.mono HB3.out.size))
  have HRT4 : Hid (RangesIn w4) := Lib.hid (HRT3.out.next bc4)
  clear HRr3 HHr3 HB3 HRT3
  clear bb4 bc4
  have HHx4 : Hid (HasP w4 w4.heap.size A4 x.p) := Lib.hid hh4
  clear hh4 b4
  have HRx4 : Hid (RasAtB (w4.alloc (.cells #[.int .i64 (x.w : Int), .int .i64 (x.h : Int), .slice A4 x.p.length c4] 34)) (w4.heap.size) x.w x.h A4 x.p.length c4 34) := Lib.hid (Box.new w4 _ _)
  have HBN5 : Hid (Below w4.heap.size w4 (w4.alloc (.cells #[.int .i64 (x.w : Int), .int .i64 (x.h : Int), .slice A4 x.p.length c4] 34))) := Lib.hid ((Below.refl w4.heap.size w4).alloc (Nat.le_refl _) _)
  go_wp2_with fail
  generalize w4.alloc (.cells #[.int .i64 (x.w : Int), .int .i64 (x.h : Int), .slice A4 x.p.length c4] 34) = w5 at *
  have b5 := HBN5.out
  have HRx5 : Hid (RasAtB w5 (w4.heap.size) x.w x.h A4 x.p.length c4 34) := HRx4
  have HHx5 : Hid (HasP w5 w5.heap.size A4 x.p) := Lib.hid (HHx4.out.carry b5 (Nat.le_refl _) b5.size)
  have HRr5 : Hid (RasAtB w5 (w1.heap.size) r.w r.h A1 r.p.length c1 34) := Lib.hid (Box.below HRr4.out b5 (RasAtB.lt HRr4.out))
  have HHr5 : Hid (HasP w5 w5.heap.size A1 r.p) := Lib.hid (HHr4.out.carry b5 (Nat.le_refl _) b5.size)
  have HB5 := Lib.hid (HB4.out.trans (b5.mono HB4.out.size))
  have HRT5 : Hid (RangesIn w5) := Lib.hid (HRT4.out.next b5)
  clear HRr4 HHr4 HRx4 HHx4 HB4 HRT4
  clear b5 HBN5
  have hx : x.ok ∧ x.w = cc ∧ x.h = dd := by
    rw [← HEx.out]
    exact ⟨cropR_ok hr hc1' hd1' hac hbd2, rfl, rfl⟩
  have HX := Lib.hid hx
  clear ea eb ec ed ea2 eb2 ec2 ed2 ew eh ecc edd hr hx
  go_loopw [13] (fun v wr => ∃ k : Nat, k ≤ dd ∧ v = .int .i64 (k : Int) ∧ Below w5.heap.size w5 wr) (fun v _ => dd - (intOf v).toNat)
  case atStart => exact ⟨0, Nat.zero_le _, rfl, Below.refl _ _⟩
  case round =>
    obtain ⟨k, hk, rfl, hbq⟩ := hrel
    have HBQ := Lib.hid hbq
    by_cases hlt : k < dd
    · clear hbq
      go_wp2_with fail
      go_loopw [14] (fun v wr => ∃ j : Nat, j ≤ cc ∧ v = .int .i64 (j : Int) ∧ Below w5.heap.size w5 wr) (fun v _ => cc - (intOf v).toNat)
      case atStart => exact ⟨0, Nat.zero_le _, rfl, HBQ.out⟩
      case round =>
        clear HBQ
        obtain ⟨j, hj, rfl, hbq⟩ := hrel
        have HBQ := Lib.hid hbq
        by_cases hltj : j < cc
        · have hbd : Below w5.heap.size w5 wr.drew := below_draws hbq 1
          have hRrb : RasAtB wr.drew (w1.heap.size) r.w r.h A1 r.p.length c1 34 := Box.below HRr5.out hbd (RasAtB.lt HRr5.out)
          have hHrb : HasP wr.drew wr.drew.heap.size A1 r.p := HHr5.out.carry hbd (Nat.le_refl _) hbd.size
          have hRxb : RasAtB wr.drew (w4.heap.size) x.w x.h A4 x.p.length c4 34 := Box.below HRx5.out hbd (RasAtB.lt HRx5.out)
          have hHxb : HasP wr.drew wr.drew.heap.size A4 x.p := HHx5.out.carry hbd (Nat.le_refl _) hbd.size
          have hRTb : RangesIn wr.drew := HRT5.out.next hbd
          obtain ⟨m1, hm1⟩ : ∃ m1 : Nat, (a : Int) + (j : Int) = (m1 : Int) := ⟨a + j, by omega⟩
          obtain ⟨m2, hm2⟩ : ∃ m2 : Nat, (b : Int) + (k : Int) = (m2 : Int) := ⟨b + k, by omega⟩
          have hp1 : x.at j k = r.at m1 m2 := by
            rw [← HEx.out, cropR_at r hltj hlt, show a + j = m1 from by omega, show b + k = m2 from by omega]
          have HAL := Lib.hid (And.intro hbq (And.intro hbd (And.intro hm1 (And.intro hm2 hp1))))
          clear hbq hbd hm1 hm2 hp1
          have HFS := Lib.hid (And.intro hRrb ( And.intro hHrb ( And.intro hRxb ( And.intro hHxb (hRTb)))))
          clear hRrb hHrb hRxb hHxb hRTb
          go_wp2_with fail
          obtain ⟨hRrb, hHrb, hRxb, hHxb, hRTb⟩ := HFS.out
          clear HFS
          obtain ⟨hbq, hbd, hm1, hm2, hp1⟩ := HAL.out
          clear HAL
          refine wp_region_kd 154 [86, 87, 88, 89, 90, 91, 92, 93, 94, 95, 96, 97, 98] [(86, .ras x), (87, .is (.int .i64 (j : Int))), (88, .is (.int .i64 (k : Int))), (89, .is ((x.at j k).v)), (90, .ras r), (91, .is (.int .i64 (a : Int))), (92, .is (.int .i64 (j : Int))), (93, .is (.int .i64 (m1 : Int))), (94, .is (.int .i64 (b : Int))), (95, .is (.int .i64 (k : Int))), (96, .is (.int .i64 (m2 : Int))), (97, .is ((r.at m1 m2).v)), (98, .is (.bool false))] (Below wr.drew.heap.size wr.drew) (by kernel_rfl) (by kernel_rfl) rfl rfl (by decide) (by decide) rfl rfl (Below.refl _ _) ?_ ?_
          · intro i o V w ho hS hV hd
            have hi : i < 13 := (Array.getElem?_eq_some_iff.1 ho).1
            have hi2 : i = 0 ∨ i = 1 ∨ i = 2 ∨ i = 3 ∨ i = 4 ∨ i = 5 ∨ i = 6 ∨ i = 7 ∨ i = 8 ∨ i = 9 ∨ i = 10 ∨ i = 11 ∨ i = 12 := by omega
            clear hi
            rcases hi2 with rfl | rfl | rfl | rfl | rfl | rfl | rfl | rfl | rfl | rfl | rfl | rfl | rfl
            · obtain rfl : _ = o := Option.some.inj ((show _ = some _ from rfl).symm.trans ho)
              have x12 : V 12 = .pointer (some ⟨w4.heap.size, 0, none⟩) := (hV 12 (by simp)).trans rfl
              refine ⟨fun _ => ?_, fun hw => absurd (show true = false from hw) (by decide)⟩
              · exact yield_ras rfl ((frame_eval V (by decide)).trans x12) hRxb hc4 hHxb hS
            · obtain rfl : _ = o := Option.some.inj ((show _ = some _ from rfl).symm.trans ho)
              have x14 : V 14 = .int .i64 (j : Int) := (hV 14 (by simp)).trans rfl
              refine ⟨fun _ => ?_, fun hw => absurd (show true = false from hw) (by decide)⟩
              · exact yield_copy (.inl rfl) ((frame_eval V (by decide)).trans x14) hS
            · obtain rfl : _ = o := Option.some.inj ((show _ = some _ from rfl).symm.trans ho)
              have x13 : V 13 = .int .i64 (k : Int) := (hV 13 (by simp)).trans rfl
              refine ⟨fun _ => ?_, fun hw => absurd (show true = false from hw) (by decide)⟩
              · exact yield_copy (.inl rfl) ((frame_eval V (by decide)).trans x13) hS
            · obtain rfl : _ = o := Option.some.inj ((show _ = some _ from rfl).symm.trans ho)
              have d0 : IsRa x w (V 86) := hd ⟨0, .data⟩ (by simp) rfl
              have d1 : V 87 = .int .i64 (j : Int) := hd ⟨1, .data⟩ (by simp) rfl
              have d2 : V 88 = .int .i64 (k : Int) := hd ⟨2, .data⟩ (by simp) rfl
              refine ⟨fun _ => ?_, fun hw => absurd (show true = false from hw) (by decide)⟩
              · exact yield_rasAt rfl (frame_eval V (by decide)) ((frame_eval V (by decide)).trans d1) ((frame_eval V (by decide)).trans d2) d0 HX.out.1 (by rw [HX.out.2.1]; exact hltj) (by rw [HX.out.2.2]; exact hlt) hS
            · obtain rfl : _ = o := Option.some.inj ((show _ = some _ from rfl).symm.trans ho)
              have x5 : V 5 = .pointer (some ⟨w1.heap.size, 0, none⟩) := (hV 5 (by simp)).trans rfl
              refine ⟨fun _ => ?_, fun hw => absurd (show true = false from hw) (by decide)⟩
              · exact yield_ras rfl ((frame_eval V (by decide)).trans x5) hRrb hc1 hHrb hS
            · obtain rfl : _ = o := Option.some.inj ((show _ = some _ from rfl).symm.trans ho)
              have x8 : V 8 = .int .i64 (a : Int) := (hV 8 (by simp)).trans rfl
              refine ⟨fun _ => ?_, fun hw => absurd (show true = false from hw) (by decide)⟩
              · exact yield_copy (.inl rfl) ((frame_eval V (by decide)).trans x8) hS
            · obtain rfl : _ = o := Option.some.inj ((show _ = some _ from rfl).symm.trans ho)
              have x14 : V 14 = .int .i64 (j : Int) := (hV 14 (by simp)).trans rfl
              refine ⟨fun _ => ?_, fun hw => absurd (show true = false from hw) (by decide)⟩
              · exact yield_copy (.inl rfl) ((frame_eval V (by decide)).trans x14) hS
            · obtain rfl : _ = o := Option.some.inj ((show _ = some _ from rfl).symm.trans ho)
              have d5 : V 91 = .int .i64 (a : Int) := hd ⟨5, .data⟩ (by simp) rfl
              have d6 : V 92 = .int .i64 (j : Int) := hd ⟨6, .data⟩ (by simp) rfl
              refine ⟨fun _ => ?_, fun hw => absurd (show true = false from hw) (by decide)⟩
              · exact yield_add rfl ((frame_eval V (by decide)).trans d5) ((frame_eval V (by decide)).trans d6) hm1 (by omega) hS
            · obtain rfl : _ = o := Option.some.inj ((show _ = some _ from rfl).symm.trans ho)
              have x9 : V 9 = .int .i64 (b : Int) := (hV 9 (by simp)).trans rfl
              refine ⟨fun _ => ?_, fun hw => absurd (show true = false from hw) (by decide)⟩
              · exact yield_copy (.inl rfl) ((frame_eval V (by decide)).trans x9) hS
            · obtain rfl : _ = o := Option.some.inj ((show _ = some _ from rfl).symm.trans ho)
              have x13 : V 13 = .int .i64 (k : Int) := (hV 13 (by simp)).trans rfl
              refine ⟨fun _ => ?_, fun hw => absurd (show true = false from hw) (by decide)⟩
              · exact yield_copy (.inl rfl) ((frame_eval V (by decide)).trans x13) hS
            · obtain rfl : _ = o := Option.some.inj ((show _ = some _ from rfl).symm.trans ho)
              have d8 : V 94 = .int .i64 (b : Int) := hd ⟨8, .data⟩ (by simp) rfl
              have d9 : V 95 = .int .i64 (k : Int) := hd ⟨9, .data⟩ (by simp) rfl
              refine ⟨fun _ => ?_, fun hw => absurd (show true = false from hw) (by decide)⟩
              · exact yield_add rfl ((frame_eval V (by decide)).trans d8) ((frame_eval V (by decide)).trans d9) hm2 (by omega) hS
            · obtain rfl : _ = o := Option.some.inj ((show _ = some _ from rfl).symm.trans ho)
              have d4 : IsRa r w (V 90) := hd ⟨4, .data⟩ (by simp) rfl
              have d7 : V 93 = .int .i64 (m1 : Int) := hd ⟨7, .data⟩ (by simp) rfl
              have d10 : V 96 = .int .i64 (m2 : Int) := hd ⟨10, .data⟩ (by simp) rfl
              refine ⟨fun _ => ?_, fun hw => absurd (show true = false from hw) (by decide)⟩
              · exact yield_rasAt rfl (frame_eval V (by decide)) ((frame_eval V (by decide)).trans d7) ((frame_eval V (by decide)).trans d10) d4 HOK.out (by omega) (by omega) hS
            · obtain rfl : _ = o := Option.some.inj ((show _ = some _ from rfl).symm.trans ho)
              have d3 : V 89 = (x.at j k).v := hd ⟨3, .data⟩ (by simp) rfl
              have d11 : V 97 = (r.at m1 m2).v := hd ⟨11, .data⟩ (by simp) rfl
              refine ⟨fun _ => ?_, fun hw => absurd (show true = false from hw) (by decide)⟩
              · exact yield_neqPix rfl ((frame_eval V (by decide)).trans d3) ((frame_eval V (by decide)).trans d11) hp1 hS
          · intro V wx hS hV hall
            have dl : V 98 = .bool false := hall 12 (by decide)
            rw [frame_all (n := 154) (D := [86, 87, 88, 89, 90, 91, 92, 93, 94, 95, 96, 97, 98]) rfl rfl (by decide) hV]
            simp only [List.foldl_cons, List.foldl_nil, Act.put, List.setIfInBounds_toArray, List.set_cons_zero, List.set_cons_succ]
            rw [dl]
            have HE := Lib.hid (hbd.trans (hS.mono hbd.size))
            clear hall hV dl hS hRrb hHrb hRxb hHxb hRTb hbq hbd hm1 hm2 hp1 HBQ
            go_wp2_with fail
            go_roundw
            case rel => exact ⟨j + 1, by omega, by go_num, HE.out⟩
            case measure => simp [intOf]; omega
        · obtain rfl : j = cc := by omega
          clear hbq
          go_wp2_with fail
          go_roundw
          case rel => exact ⟨k + 1, by omega, by go_num, HBQ.out⟩
          case measure => simp [intOf]; omega
    · obtain rfl : k = dd := by omega
      obtain ⟨e, he⟩ : ∃ e, n / 11 % cc = e := ⟨_, rfl⟩
      obtain ⟨f, hf⟩ : ∃ f, n / 13 % k = f := ⟨_, rfl⟩
      have hec : e < cc := by rw [← he]; exact Nat.mod_lt _ (by omega)
      have hfd : f < k := by rw [← hf]; exact Nat.mod_lt _ (by omega)
      have ee0 : (n : Int) / 11 = ((n / 11 : Nat) : Int) := (Int.natCast_ediv n 11).symm
      have ee : ((n : Int) / 11).tmod (cc : Int) = (e : Int) := by rw [ee0, Int.tmod_eq_emod_of_nonneg (by omega), ← he]; exact (Int.natCast_emod (n / 11) cc).symm
      have ee2 : (n : Int) / 11 % (cc : Int) = (e : Int) := by rw [ee0, ← he]; exact (Int.natCast_emod (n / 11) cc).symm
      have ef0 : (n : Int) / 13 = ((n / 13 : Nat) : Int) := (Int.natCast_ediv n 13).symm
      have ef : ((n : Int) / 13).tmod (k : Int) = (f : Int) := by rw [ef0, Int.tmod_eq_emod_of_nonneg (by omega), ← hf]; exact (Int.natCast_emod (n / 13) k).symm
      have ef2 : (n : Int) / 13 % (k : Int) = (f : Int) := by rw [ef0, ← hf]; exact (Int.natCast_emod (n / 13) k).symm
      clear ee0 ef0 he hf
      have ncc0 : ¬ cc = 0 := by omega
      have nk0 : ¬ k = 0 := by omega
      obtain ⟨g1, hg1, hg1'⟩ : ∃ g1 : Nat, (cc : Int) - (e : Int) = (g1 : Int) ∧ cc - e = g1 := ⟨cc - e, by omega, rfl⟩
      obtain ⟨g2, hg2, hg2'⟩ : ∃ g2 : Nat, (k : Int) - (f : Int) = (g2 : Int) ∧ k - f = g2 := ⟨k - f, by omega, rfl⟩
      obtain ⟨h1, hh1, hh1'⟩ : ∃ h1 : Nat, (a : Int) + (e : Int) = (h1 : Int) ∧ a + e = h1 := ⟨a + e, by omega, rfl⟩
      obtain ⟨h2, hh2, hh2'⟩ : ∃ h2 : Nat, (b : Int) + (f : Int) = (h2 : Int) ∧ b + f = h2 := ⟨b + f, by omega, rfl⟩
      have HNN := Lib.hid (And.intro hg1' (And.intro hg2' (And.intro hh1' hh2')))
      have HPP : Hid ((1 ≤ g1 ∧ 1 ≤ g2) ∧ (e + g1 ≤ cc ∧ f + g2 ≤ k) ∧ h1 + g1 ≤ r.w ∧ h2 + g2 ≤ r.h) := Lib.hid (by omega)
      clear hg1' hg2' hh1' hh2'
      have HRr7 : Hid (RasAtB wr (w1.heap.size) r.w r.h A1 r.p.length c1 34) := Lib.hid (Box.below HRr5.out hbq (RasAtB.lt HRr5.out))
      have HHr7 : Hid (HasP wr wr.heap.size A1 r.p) := Lib.hid (HHr5.out.carry hbq (Nat.le_refl _) hbq.size)
      have HRx7 : Hid (RasAtB wr (w4.heap.size) x.w x.h A4 x.p.length c4 34) := Lib.hid (Box.below HRx5.out hbq (RasAtB.lt HRx5.out))
      have HHx7 : Hid (HasP wr wr.heap.size A4 x.p) := Lib.hid (HHx5.out.carry hbq (Nat.le_refl _) hbq.size)
      have HB7 := Lib.hid (HB5.out.trans (hbq.mono HB5.out.size))
      have HRT7 : Hid (RangesIn wr) := Lib.hid (HRT5.out.next hbq)
      clear hbq HBQ
      have xc0 := RasAtB.c0 HRx7.out
      have xc1 := RasAtB.c1 HRx7.out
      have xc2 := RasAtB.c2 HRx7.out
      have CE8 : Hid (Calls Tryd.prog 23 #[.agg #[.int .i64 (x.w : Int), .int .i64 (x.h : Int), .slice A4 x.p.length c4], .slice (some ⟨wr.heap.size, 0, none⟩) 1 1] (wr.alloc (.cells #[.int .i64 1, .int .i64 (e : Int), .int .i64 (f : Int), .int .i64 (g1 : Int), .int .i64 (g2 : Int)] 25)) (EaDid (cropR x e f g1 g2) (wr.alloc (.cells #[.int .i64 1, .int .i64 (e : Int), .int .i64 (f : Int), .int .i64 (g1 : Int), .int .i64 (g2 : Int)] 25)))) := Lib.hid (by
        have bbel : Below wr.heap.size wr (wr.alloc (.cells #[.int .i64 1, .int .i64 (e : Int), .int .i64 (f : Int), .int .i64 (g1 : Int), .int .i64 (g2 : Int)] 25)) := ((Below.refl wr.heap.size wr).alloc (Nat.le_refl _) _)
        have hlst : opE.Has (wr.alloc (.cells #[.int .i64 1, .int .i64 (e : Int), .int .i64 (f : Int), .int .i64 (g1 : Int), .int .i64 (g2 : Int)] 25)) (wr.alloc (.cells #[.int .i64 1, .int .i64 (e : Int), .int .i64 (f : Int), .int .i64 (g1 : Int), .int .i64 (g2 : Int)] 25)).heap.size (some ⟨wr.heap.size, 0, none⟩) [cO (e : Int) (f : Int) (g1 : Int) (g2 : Int)] := by
          have := El.Has.laid opE wr [cO (e : Int) (f : Int) (g1 : Int) (g2 : Int)] 25
          exact this.wider (by simp)
        have := eaDo_any x A4 c4 (some ⟨wr.heap.size, 0, none⟩) 1 [cO (e : Int) (f : Int) (g1 : Int) (g2 : Int)] _ HX.out.1 (can_c HX.out.1 HPP.out.1.1 HPP.out.1.2 (by rw [HX.out.2.1]; exact HPP.out.2.1.1) (by rw [HX.out.2.2]; exact HPP.out.2.1.2) can_nil) (HRT7.out.next bbel) hc4 (HHx7.out.carry bbel (Nat.le_refl _) bbel.size) hlst (by simp)
        rw [ea_c HX.out.1 _ HPP.out.1.1 HPP.out.1.2 (by rw [HX.out.2.1]; exact HPP.out.2.1.1) (by rw [HX.out.2.2]; exact HPP.out.2.1.2), eaR_nil] at this
        exact this)
      go_wp2_with fail
      refine CE8.out.mono ?_
      rintro e w8 ⟨v8, rfl, ⟨A8, c8, rfl, hc8, hh8⟩, b8⟩
      clear CE8
      clear xc0 xc1 xc2
      obtain ⟨two, htwo⟩ : ∃ s, cropR x e f g1 g2 = s := ⟨_, rfl⟩
      rw [htwo] at hc8 hh8 ⊢
      have HEtwo := Lib.hid htwo
      clear htwo
      unfold raV rasV
      have bb8 : Below wr.heap.size wr w8 := (((Below.refl wr.heap.size wr).alloc (Nat.le_refl _) (.cells #[.int .i64 1, .int .i64 (e : Int), .int .i64 (f : Int), .int .i64 (g1 : Int), .int .i64 (g2 : Int)] 25))).trans (b8.mono (((Below.refl wr.heap.size wr).alloc (Nat.le_refl _) (.cells #[.int .i64 1, .int .i64 (e : Int), .int .i64 (f : Int), .int .i64 (g1 : Int), .int .i64 (g2 : Int)] 25))).size)
      have bc8 : Below wr.heap.size wr w8 := ((Below.refl wr.heap.size wr)).trans (bb8.mono ((Below.refl wr.heap.size wr)).size)
      have HRr8 : Hid (RasAtB w8 (w1.heap.size) r.w r.h A1 r.p.length c1 34) := Lib.hid (Box.below HRr7.out bc8 (RasAtB.lt HRr7.out))
      have HHr8 : Hid (HasP w8 w8.heap.size A1 r.p) := Lib.hid (HHr7.out.carry bc8 (Nat.le_refl _) bc8.size)
      have HRx8 : Hid (RasAtB w8 (w4.heap.size) x.w x.h A4 x.p.length c4 34) := Lib.hid (Box.below HRx7.out bc8 (RasAtB.lt HRx7.out))
      have HHx8 : Hid (HasP w8 w8.heap.size A4 x.p) := Lib.hid (HHx7.out.carry bc8 (Nat.le_refl _) bc8.size)
      have HB8 := Lib.hid (HB7.out.trans (bc8.mono HB7.out.size))
      have HRT8 : Hid (RangesIn w8) := Lib.hid (HRT7.out.next bc8)
      clear HRr7 HHr7 HRx7 HHx7 HB7 HRT7
      clear bb8 bc8
      have HHtwo8 : Hid (HasP w8 w8.heap.size A8 two.p) := Lib.hid hh8
      clear hh8 b8
      have HRtwo8 : Hid (RasAtB (w8.alloc (.cells #[.int .i64 (two.w : Int), .int .i64 (two.h : Int), .slice A8 two.p.length c8] 34)) (w8.heap.size) two.w two.h A8 two.p.length c8 34) := Lib.hid (Box.new w8 _ _)
      have rc0 := RasAtB.c0 HRr8.out
      have rc1 := RasAtB.c1 HRr8.out
      have rc2 := RasAtB.c2 HRr8.out
      have rn0 : w1.heap.size < w8.heap.size := by have := RasAtB.lt HRr8.out; omega
      have CE9 : Hid (Calls Tryd.prog 23 #[.agg #[.int .i64 (r.w : Int), .int .i64 (r.h : Int), .slice A1 r.p.length c1], .slice (some ⟨w8.heap.size + 1, 0, none⟩) 1 1] ((w8.alloc (.cells #[.int .i64 (two.w : Int), .int .i64 (two.h : Int), .slice A8 two.p.length c8] 34)).alloc (.cells #[.int .i64 1, .int .i64 (h1 : Int), .int .i64 (h2 : Int), .int .i64 (g1 : Int), .int .i64 (g2 : Int)] 25)) (EaDid (cropR r h1 h2 g1 g2) ((w8.alloc (.cells #[.int .i64 (two.w : Int), .int .i64 (two.h : Int), .slice A8 two.p.length c8] 34)).alloc (.cells #[.int .i64 1, .int .i64 (h1 : Int), .int .i64 (h2 : Int), .int .i64 (g1 : Int), .int .i64 (g2 : Int)] 25)))) := Lib.hid (by
        have bbel : Below w8.heap.size w8 ((w8.alloc (.cells #[.int .i64 (two.w : Int), .int .i64 (two.h : Int), .slice A8 two.p.length c8] 34)).alloc (.cells #[.int .i64 1, .int .i64 (h1 : Int), .int .i64 (h2 : Int), .int .i64 (g1 : Int), .int .i64 (g2 : Int)] 25)) := (((Below.refl w8.heap.size w8).alloc (Nat.le_refl _) _).alloc (by simp) _)
        have hlst : opE.Has ((w8.alloc (.cells #[.int .i64 (two.w : Int), .int .i64 (two.h : Int), .slice A8 two.p.length c8] 34)).alloc (.cells #[.int .i64 1, .int .i64 (h1 : Int), .int .i64 (h2 : Int), .int .i64 (g1 : Int), .int .i64 (g2 : Int)] 25)) ((w8.alloc (.cells #[.int .i64 (two.w : Int), .int .i64 (two.h : Int), .slice A8 two.p.length c8] 34)).alloc (.cells #[.int .i64 1, .int .i64 (h1 : Int), .int .i64 (h2 : Int), .int .i64 (g1 : Int), .int .i64 (g2 : Int)] 25)).heap.size (some ⟨w8.heap.size + 1, 0, none⟩) [cO (h1 : Int) (h2 : Int) (g1 : Int) (g2 : Int)] := by
          have := El.Has.laid opE (w8.alloc (.cells #[.int .i64 (two.w : Int), .int .i64 (two.h : Int), .slice A8 two.p.length c8] 34)) [cO (h1 : Int) (h2 : Int) (g1 : Int) (g2 : Int)] 25
          rw [show (w8.alloc (.cells #[.int .i64 (two.w : Int), .int .i64 (two.h : Int), .slice A8 two.p.length c8] 34)).heap.size = w8.heap.size + 1 from by simp] at this
          exact this.wider (by simp)
        have := eaDo_any r A1 c1 (some ⟨w8.heap.size + 1, 0, none⟩) 1 [cO (h1 : Int) (h2 : Int) (g1 : Int) (g2 : Int)] _ HOK.out (can_c HOK.out HPP.out.1.1 HPP.out.1.2 HPP.out.2.2.1 HPP.out.2.2.2 can_nil) (HRT8.out.next bbel) hc1 (HHr8.out.carry bbel (Nat.le_refl _) bbel.size) hlst (by simp)
        rw [ea_c HOK.out _ HPP.out.1.1 HPP.out.1.2 HPP.out.2.2.1 HPP.out.2.2.2, eaR_nil] at this
        exact this)
      go_wp2_with fail
      refine CE9.out.mono ?_
      rintro e w9 ⟨v9, rfl, ⟨A9, c9, rfl, hc9, hh9⟩, b9⟩
      clear CE9
      clear rc0 rc1 rc2 rn0
      obtain ⟨one, hone⟩ : ∃ s, cropR r h1 h2 g1 g2 = s := ⟨_, rfl⟩
      rw [hone] at hc9 hh9 ⊢
      have HEone := Lib.hid hone
      clear hone
      unfold raV rasV
      have bb9 : Below (w8.alloc (.cells #[.int .i64 (two.w : Int), .int .i64 (two.h : Int), .slice A8 two.p.length c8] 34)).heap.size (w8.alloc (.cells #[.int .i64 (two.w : Int), .int .i64 (two.h : Int), .slice A8 two.p.length c8] 34)) w9 := (((Below.refl (w8.alloc (.cells #[.int .i64 (two.w : Int), .int .i64 (two.h : Int), .slice A8 two.p.length c8] 34)).heap.size (w8.alloc (.cells #[.int .i64 (two.w : Int), .int .i64 (two.h : Int), .slice A8 two.p.length c8] 34))).alloc (Nat.le_refl _) (.cells #[.int .i64 1, .int .i64 (h1 : Int), .int .i64 (h2 : Int), .int .i64 (g1 : Int), .int .i64 (g2 : Int)] 25))).trans (b9.mono (((Below.refl (w8.alloc (.cells #[.int .i64 (two.w : Int), .int .i64 (two.h : Int), .slice A8 two.p.length c8] 34)).heap.size (w8.alloc (.cells #[.int .i64 (two.w : Int), .int .i64 (two.h : Int), .slice A8 two.p.length c8] 34))).alloc (Nat.le_refl _) (.cells #[.int .i64 1, .int .i64 (h1 : Int), .int .i64 (h2 : Int), .int .i64 (g1 : Int), .int .i64 (g2 : Int)] 25))).size)
      have bc9 : Below w8.heap.size w8 w9 := (((Below.refl w8.heap.size w8).alloc (Nat.le_refl _) _)).trans (bb9.mono (((Below.refl w8.heap.size w8).alloc (Nat.le_refl _) _)).size)
      have HRtwo9 : Hid (RasAtB w9 (w8.heap.size) two.w two.h A8 two.p.length c8 34) := Lib.hid (Box.below HRtwo8.out bb9 (RasAtB.lt HRtwo8.out))
      have HHtwo9 : Hid (HasP w9 w9.heap.size A8 two.p) := Lib.hid (HHtwo8.out.carry bc9 (Nat.le_refl _) bc9.size)
      have HRr9 : Hid (RasAtB w9 (w1.heap.size) r.w r.h A1 r.p.length c1 34) := Lib.hid (Box.below HRr8.out bc9 (RasAtB.lt HRr8.out))
      have HHr9 : Hid (HasP w9 w9.heap.size A1 r.p) := Lib.hid (HHr8.out.carry bc9 (Nat.le_refl _) bc9.size)
      have HRx9 : Hid (RasAtB w9 (w4.heap.size) x.w x.h A4 x.p.length c4 34) := Lib.hid (Box.below HRx8.out bc9 (RasAtB.lt HRx8.out))
      have HHx9 : Hid (HasP w9 w9.heap.size A4 x.p) := Lib.hid (HHx8.out.carry bc9 (Nat.le_refl _) bc9.size)
      have HB9 := Lib.hid (HB8.out.trans (bc9.mono HB8.out.size))
      have HRT9 : Hid (RangesIn w9) := Lib.hid (HRT8.out.next bc9)
      clear HRr8 HHr8 HRx8 HHx8 HRtwo8 HHtwo8 HB8 HRT8
      clear bb9 bc9
      have HHone9 : Hid (HasP w9 w9.heap.size A9 one.p) := Lib.hid hh9
      clear hh9 b9
      have HRone9 : Hid (RasAtB (w9.alloc (.cells #[.int .i64 (one.w : Int), .int .i64 (one.h : Int), .slice A9 one.p.length c9] 34)) (w9.heap.size) one.w one.h A9 one.p.length c9 34) := Lib.hid (Box.new w9 _ _)
      have HBN10 : Hid (Below w9.heap.size w9 (w9.alloc (.cells #[.int .i64 (one.w : Int), .int .i64 (one.h : Int), .slice A9 one.p.length c9] 34))) := Lib.hid ((Below.refl w9.heap.size w9).alloc (Nat.le_refl _) _)
      go_wp2_with fail
      generalize w9.alloc (.cells #[.int .i64 (one.w : Int), .int .i64 (one.h : Int), .slice A9 one.p.length c9] 34) = w10 at *
      have b10 := HBN10.out
      have HRone10 : Hid (RasAtB w10 (w9.heap.size) one.w one.h A9 one.p.length c9 34) := HRone9
      have HHone10 : Hid (HasP w10 w10.heap.size A9 one.p) := Lib.hid (HHone9.out.carry b10 (Nat.le_refl _) b10.size)
      have HRr10 : Hid (RasAtB w10 (w1.heap.size) r.w r.h A1 r.p.length c1 34) := Lib.hid (Box.below HRr9.out b10 (RasAtB.lt HRr9.out))
      have HHr10 : Hid (HasP w10 w10.heap.size A1 r.p) := Lib.hid (HHr9.out.carry b10 (Nat.le_refl _) b10.size)
      have HRx10 : Hid (RasAtB w10 (w4.heap.size) x.w x.h A4 x.p.length c4 34) := Lib.hid (Box.below HRx9.out b10 (RasAtB.lt HRx9.out))
      have HHx10 : Hid (HasP w10 w10.heap.size A4 x.p) := Lib.hid (HHx9.out.carry b10 (Nat.le_refl _) b10.size)
      have HRtwo10 : Hid (RasAtB w10 (w8.heap.size) two.w two.h A8 two.p.length c8 34) := Lib.hid (Box.below HRtwo9.out b10 (RasAtB.lt HRtwo9.out))
      have HHtwo10 : Hid (HasP w10 w10.heap.size A8 two.p) := Lib.hid (HHtwo9.out.carry b10 (Nat.le_refl _) b10.size)
      have HB10 := Lib.hid (HB9.out.trans (b10.mono HB9.out.size))
      have HRT10 : Hid (RangesIn w10) := Lib.hid (HRT9.out.next b10)
      clear HRr9 HHr9 HRx9 HHx9 HRtwo9 HHtwo9 HRone9 HHone9 HB9 HRT9
      clear b10 HBN10
      clear ee ee2 ef ef2 hg1 hg2 hh1 hh2
      have htwo : two.ok ∧ two = one := by
        have h2o : two.ok := by rw [← HEtwo.out]; exact cropR_ok HX.out.1 HPP.out.1.1 HPP.out.1.2 (by rw [HX.out.2.1]; exact HPP.out.2.1.1) (by rw [HX.out.2.2]; exact HPP.out.2.1.2)
        refine ⟨h2o, ?_⟩
        rw [← HEtwo.out, ← HEone.out, ← HEx.out, crop_crop HOK.out hac hbd2 HPP.out.1.1 HPP.out.1.2 HPP.out.2.1.1 HPP.out.2.1.2, HNN.out.2.2.1, HNN.out.2.2.2]
      have HTWO := Lib.hid htwo
      have hall0 : canAll r [cO ((0 : Nat) : Int) ((0 : Nat) : Int) (r.w : Int) (r.h : Int)] ∧ eaR r [cO ((0 : Nat) : Int) ((0 : Nat) : Int) (r.w : Int) (r.h : Int)] = r := by
        have e1 : 0 + r.w ≤ r.w := by omega
        have e2 : 0 + r.h ≤ r.h := by omega
        exact ⟨can_c HOK.out hW.1 hH.1 e1 e2 can_nil, by rw [ea_c HOK.out _ hW.1 hH.1 e1 e2, eaR_nil]; exact crop_all HOK.out⟩
      have HALL := Lib.hid hall0
      clear htwo hall0
      have hbd : Below w10.heap.size w10 w10.drew := below_draws ((Below.refl _ _)) 1
      have hRrb : RasAtB w10.drew (w1.heap.size) r.w r.h A1 r.p.length c1 34 := Box.below HRr10.out hbd (RasAtB.lt HRr10.out)
      have hHrb : HasP w10.drew w10.drew.heap.size A1 r.p := HHr10.out.carry hbd (Nat.le_refl _) hbd.size
      have hRxb : RasAtB w10.drew (w4.heap.size) x.w x.h A4 x.p.length c4 34 := Box.below HRx10.out hbd (RasAtB.lt HRx10.out)
      have hHxb : HasP w10.drew w10.drew.heap.size A4 x.p := HHx10.out.carry hbd (Nat.le_refl _) hbd.size
      have hRtwob : RasAtB w10.drew (w8.heap.size) two.w two.h A8 two.p.length c8 34 := Box.below HRtwo10.out hbd (RasAtB.lt HRtwo10.out)
      have hHtwob : HasP w10.drew w10.drew.heap.size A8 two.p := HHtwo10.out.carry hbd (Nat.le_refl _) hbd.size
      have hRoneb : RasAtB w10.drew (w9.heap.size) one.w one.h A9 one.p.length c9 34 := Box.below HRone10.out hbd (RasAtB.lt HRone10.out)
      have hHoneb : HasP w10.drew w10.drew.heap.size A9 one.p := HHone10.out.carry hbd (Nat.le_refl _) hbd.size
      have hRTb : RangesIn w10.drew := HRT10.out.next hbd
      have HBD := Lib.hid hbd
      clear hbd
      have HFS := Lib.hid (And.intro hRrb ( And.intro hHrb ( And.intro hRxb ( And.intro hHxb ( And.intro hRtwob ( And.intro hHtwob ( And.intro hRoneb ( And.intro hHoneb (hRTb)))))))))
      clear hRrb hHrb hRxb hHxb hRtwob hHtwob hRoneb hHoneb hRTb
      obtain ⟨hRrb, hHrb, hRxb, hHxb, hRtwob, hHtwob, hRoneb, hHoneb, hRTb⟩ := HFS.out
      clear HFS
      refine wp_region_kd 154 [135, 136, 137, 138, 139, 140, 141, 142, 143, 144, 145, 146, 147, 148, 149, 150, 151, 152, 153, 4] [(135, .ras x), (136, .is (.bool true)), (137, .is (.bool true)), (138, .ras two), (139, .ras one), (140, .is (.bool true)), (141, .is (.bool true)), (142, .is (.bool true)), (143, .ras r), (144, .is (.pointer (some ⟨w1.heap.size, 0, none⟩))), (145, .is (.int .i64 (r.w : Int))), (146, .is (.pointer (some ⟨w1.heap.size, 1, none⟩))), (147, .is (.int .i64 (r.h : Int))), (148, .is ((cO ((0 : Nat) : Int) ((0 : Nat) : Int) (r.w : Int) (r.h : Int)).v)), (149, .ops [(cO ((0 : Nat) : Int) ((0 : Nat) : Int) (r.w : Int) (r.h : Int))]), (150, .ras (eaR r [(cO ((0 : Nat) : Int) ((0 : Nat) : Int) (r.w : Int) (r.h : Int))])), (151, .ras r), (152, .is (.bool true)), (153, .is (.bool true)), (4, .is (.bool true))] (Below w10.drew.heap.size w10.drew) (by kernel_rfl) (by kernel_rfl) rfl rfl (by decide) (by decide) rfl rfl (Below.refl _ _) ?_ ?_
      · intro i o V w ho hS hV hd
        have hi : i < 20 := (Array.getElem?_eq_some_iff.1 ho).1
        have hi2 : i = 0 ∨ i = 1 ∨ i = 2 ∨ i = 3 ∨ i = 4 ∨ i = 5 ∨ i = 6 ∨ i = 7 ∨ i = 8 ∨ i = 9 ∨ i = 10 ∨ i = 11 ∨ i = 12 ∨ i = 13 ∨ i = 14 ∨ i = 15 ∨ i = 16 ∨ i = 17 ∨ i = 18 ∨ i = 19 := by omega
        clear hi
        rcases hi2 with rfl | rfl | rfl | rfl | rfl | rfl | rfl | rfl | rfl | rfl | rfl | rfl | rfl | rfl | rfl | rfl | rfl | rfl | rfl | rfl
        · obtain rfl : _ = o := Option.some.inj ((show _ = some _ from rfl).symm.trans ho)
          have x12 : V 12 = .pointer (some ⟨w4.heap.size, 0, none⟩) := (hV 12 (by simp)).trans rfl
          refine ⟨fun _ => ?_, fun hw => absurd (show true = false from hw) (by decide)⟩
          · exact yield_ras rfl ((frame_eval V (by decide)).trans x12) hRxb hc4 hHxb hS
        · obtain rfl : _ = o := Option.some.inj ((show _ = some _ from rfl).symm.trans ho)
          have d0 : IsRa x w (V 135) := hd ⟨0, .data⟩ (by simp) rfl
          refine ⟨fun _ => ?_, fun hw => absurd (show true = false from hw) (by decide)⟩
          · exact yield_rasOk rfl (frame_eval V (by decide)) d0 HX.out.1 hS
        · obtain rfl : _ = o := Option.some.inj ((show _ = some _ from rfl).symm.trans ho)
          have d1 : V 136 = .bool true := hd ⟨1, .data⟩ (by simp) rfl
          refine ⟨fun _ => ?_, fun hw => absurd (show true = false from hw) (by decide)⟩
          · exact yield_copy (.inl rfl) ((frame_eval V (by decide)).trans d1) hS
        · obtain rfl : _ = o := Option.some.inj ((show _ = some _ from rfl).symm.trans ho)
          have x17 : V 17 = .pointer (some ⟨w8.heap.size, 0, none⟩) := (hV 17 (by simp)).trans rfl
          have gd : V 137 = .bool true := hd ⟨2, .guard⟩ (by simp) rfl
          refine ⟨fun _ => ?_, fun hw => absurd ((wanted_of rfl rfl (by decide) gd).symm.trans hw) (by decide)⟩
          · exact yield_ras rfl ((frame_eval V (by decide)).trans x17) hRtwob hc8 hHtwob hS
        · obtain rfl : _ = o := Option.some.inj ((show _ = some _ from rfl).symm.trans ho)
          have x18 : V 18 = .pointer (some ⟨w9.heap.size, 0, none⟩) := (hV 18 (by simp)).trans rfl
          have gd : V 137 = .bool true := hd ⟨2, .guard⟩ (by simp) rfl
          refine ⟨fun _ => ?_, fun hw => absurd ((wanted_of rfl rfl (by decide) gd).symm.trans hw) (by decide)⟩
          · exact yield_ras rfl ((frame_eval V (by decide)).trans x18) hRoneb hc9 hHoneb hS
        · obtain rfl : _ = o := Option.some.inj ((show _ = some _ from rfl).symm.trans ho)
          have d3 : IsRa two w (V 138) := hd ⟨3, .data⟩ (by simp) rfl
          have d4 : IsRa one w (V 139) := hd ⟨4, .data⟩ (by simp) rfl
          have gd : V 137 = .bool true := hd ⟨2, .guard⟩ (by simp) rfl
          refine ⟨fun _ => ?_, fun hw => absurd ((wanted_of rfl rfl (by decide) gd).symm.trans hw) (by decide)⟩
          · exact yield_eaRas rfl (frame_eval V (by decide)) (frame_eval V (by decide)) d3 d4 HTWO.out.1 HTWO.out.2 hS
        · obtain rfl : _ = o := Option.some.inj ((show _ = some _ from rfl).symm.trans ho)
          have d2 : V 137 = .bool true := hd ⟨2, .data⟩ (by simp) rfl
          have d5 : V 140 = .bool true := hd ⟨5, .data⟩ (by simp) rfl
          refine ⟨fun _ => ?_, fun hw => absurd (show true = false from hw) (by decide)⟩
          · exact yield_pick rfl ((frame_eval V (by decide)).trans d2) ((frame_eval V (by decide)).trans d5) hS
        · obtain rfl : _ = o := Option.some.inj ((show _ = some _ from rfl).symm.trans ho)
          have d6 : V 141 = .bool true := hd ⟨6, .data⟩ (by simp) rfl
          refine ⟨fun _ => ?_, fun hw => absurd (show true = false from hw) (by decide)⟩
          · exact yield_copy (.inl rfl) ((frame_eval V (by decide)).trans d6) hS
        · obtain rfl : _ = o := Option.some.inj ((show _ = some _ from rfl).symm.trans ho)
          have x5 : V 5 = .pointer (some ⟨w1.heap.size, 0, none⟩) := (hV 5 (by simp)).trans rfl
          have gd : V 142 = .bool true := hd ⟨7, .guard⟩ (by simp) rfl
          refine ⟨fun _ => ?_, fun hw => absurd ((wanted_of rfl rfl (by decide) gd).symm.trans hw) (by decide)⟩
          · exact yield_ras rfl ((frame_eval V (by decide)).trans x5) hRrb hc1 hHrb hS
        · obtain rfl : _ = o := Option.some.inj ((show _ = some _ from rfl).symm.trans ho)
          have x5 : V 5 = .pointer (some ⟨w1.heap.size, 0, none⟩) := (hV 5 (by simp)).trans rfl
          have gd : V 142 = .bool true := hd ⟨7, .guard⟩ (by simp) rfl
          refine ⟨fun _ => ?_, fun hw => absurd ((wanted_of rfl rfl (by decide) gd).symm.trans hw) (by decide)⟩
          · exact yield_fld rfl ((frame_eval V (by decide)).trans x5) (fun w => fld_ras _ 0 (by decide) w) hS
        · obtain rfl : _ = o := Option.some.inj ((show _ = some _ from rfl).symm.trans ho)
          have d9 : V 144 = .pointer (some ⟨w1.heap.size, 0, none⟩) := hd ⟨9, .data⟩ (by simp) rfl
          have gd : V 142 = .bool true := hd ⟨7, .guard⟩ (by simp) rfl
          refine ⟨fun _ => ?_, fun hw => absurd ((wanted_of rfl rfl (by decide) gd).symm.trans hw) (by decide)⟩
          · exact yield_cell rfl ((frame_eval V (by decide)).trans d9) (RasAtB.c0 hRrb) (RasAtB.lt hRrb) hS
        · obtain rfl : _ = o := Option.some.inj ((show _ = some _ from rfl).symm.trans ho)
          have x5 : V 5 = .pointer (some ⟨w1.heap.size, 0, none⟩) := (hV 5 (by simp)).trans rfl
          have gd : V 142 = .bool true := hd ⟨7, .guard⟩ (by simp) rfl
          refine ⟨fun _ => ?_, fun hw => absurd ((wanted_of rfl rfl (by decide) gd).symm.trans hw) (by decide)⟩
          · exact yield_fld rfl ((frame_eval V (by decide)).trans x5) (fun w => fld_ras _ 1 (by decide) w) hS
        · obtain rfl : _ = o := Option.some.inj ((show _ = some _ from rfl).symm.trans ho)
          have d11 : V 146 = .pointer (some ⟨w1.heap.size, 1, none⟩) := hd ⟨11, .data⟩ (by simp) rfl
          have gd : V 142 = .bool true := hd ⟨7, .guard⟩ (by simp) rfl
          refine ⟨fun _ => ?_, fun hw => absurd ((wanted_of rfl rfl (by decide) gd).symm.trans hw) (by decide)⟩
          · exact yield_cell rfl ((frame_eval V (by decide)).trans d11) (RasAtB.c1 hRrb) (RasAtB.lt hRrb) hS
        · obtain rfl : _ = o := Option.some.inj ((show _ = some _ from rfl).symm.trans ho)
          have d10 : V 145 = .int .i64 (r.w : Int) := hd ⟨10, .data⟩ (by simp) rfl
          have d12 : V 147 = .int .i64 (r.h : Int) := hd ⟨12, .data⟩ (by simp) rfl
          have gd : V 142 = .bool true := hd ⟨7, .guard⟩ (by simp) rfl
          refine ⟨fun _ => ?_, fun hw => absurd ((wanted_of rfl rfl (by decide) gd).symm.trans hw) (by decide)⟩
          · exact yield_build rfl (by simp [frame_eval V (show 145 < 154 by decide), d10, frame_eval V (show 147 < 154 by decide), d12]; rfl) (fun w => run_build_cd 1 (r.w : Int) (r.h : Int) w) hS
        · obtain rfl : _ = o := Option.some.inj ((show _ = some _ from rfl).symm.trans ho)
          have d13 : V 148 = (cO ((0 : Nat) : Int) ((0 : Nat) : Int) (r.w : Int) (r.h : Int)).v := hd ⟨13, .data⟩ (by simp) rfl
          have gd : V 142 = .bool true := hd ⟨7, .guard⟩ (by simp) rfl
          refine ⟨fun _ => ?_, fun hw => absurd ((wanted_of rfl rfl (by decide) gd).symm.trans hw) (by decide)⟩
          · exact yield_ops1 rfl ((frame_eval V (by decide)).trans d13) hS
        · obtain rfl : _ = o := Option.some.inj ((show _ = some _ from rfl).symm.trans ho)
          have d8 : IsRa r w (V 143) := hd ⟨8, .data⟩ (by simp) rfl
          have d14 : IsOps [(cO ((0 : Nat) : Int) ((0 : Nat) : Int) (r.w : Int) (r.h : Int))] w (V 149) := hd ⟨14, .data⟩ (by simp) rfl
          have gd : V 142 = .bool true := hd ⟨7, .guard⟩ (by simp) rfl
          refine ⟨fun _ => ?_, fun hw => absurd ((wanted_of rfl rfl (by decide) gd).symm.trans hw) (by decide)⟩
          · exact yield_eaDo rfl (frame_eval V (by decide)) (frame_eval V (by decide)) d8 d14 HOK.out HALL.out.1 (by simp) hRTb hS
        · obtain rfl : _ = o := Option.some.inj ((show _ = some _ from rfl).symm.trans ho)
          have x5 : V 5 = .pointer (some ⟨w1.heap.size, 0, none⟩) := (hV 5 (by simp)).trans rfl
          have gd : V 142 = .bool true := hd ⟨7, .guard⟩ (by simp) rfl
          refine ⟨fun _ => ?_, fun hw => absurd ((wanted_of rfl rfl (by decide) gd).symm.trans hw) (by decide)⟩
          · exact yield_ras rfl ((frame_eval V (by decide)).trans x5) hRrb hc1 hHrb hS
        · obtain rfl : _ = o := Option.some.inj ((show _ = some _ from rfl).symm.trans ho)
          have d15 : IsRa (eaR r [(cO ((0 : Nat) : Int) ((0 : Nat) : Int) (r.w : Int) (r.h : Int))]) w (V 150) := hd ⟨15, .data⟩ (by simp) rfl
          have d16 : IsRa r w (V 151) := hd ⟨16, .data⟩ (by simp) rfl
          have gd : V 142 = .bool true := hd ⟨7, .guard⟩ (by simp) rfl
          refine ⟨fun _ => ?_, fun hw => absurd ((wanted_of rfl rfl (by decide) gd).symm.trans hw) (by decide)⟩
          · exact yield_eaRas rfl (frame_eval V (by decide)) (frame_eval V (by decide)) d15 d16 (ea_ok HOK.out HALL.out.1) HALL.out.2 hS
        · obtain rfl : _ = o := Option.some.inj ((show _ = some _ from rfl).symm.trans ho)
          have d7 : V 142 = .bool true := hd ⟨7, .data⟩ (by simp) rfl
          have d17 : V 152 = .bool true := hd ⟨17, .data⟩ (by simp) rfl
          refine ⟨fun _ => ?_, fun hw => absurd (show true = false from hw) (by decide)⟩
          · exact yield_pick rfl ((frame_eval V (by decide)).trans d7) ((frame_eval V (by decide)).trans d17) hS
        · obtain rfl : _ = o := Option.some.inj ((show _ = some _ from rfl).symm.trans ho)
          have d18 : V 153 = .bool true := hd ⟨18, .data⟩ (by simp) rfl
          refine ⟨fun _ => ?_, fun hw => absurd (show true = false from hw) (by decide)⟩
          · exact yield_copy (.inr rfl) ((frame_eval V (by decide)).trans d18) hS
      · intro V wx hS hV hall
        have dl : V 4 = .bool true := hall 19 (by decide)
        rw [frame_all (n := 154) (D := [135, 136, 137, 138, 139, 140, 141, 142, 143, 144, 145, 146, 147, 148, 149, 150, 151, 152, 153, 4]) rfl rfl (by decide) hV]
        simp only [List.foldl_cons, List.foldl_nil, Act.put, List.setIfInBounds_toArray, List.set_cons_zero, List.set_cons_succ]
        rw [dl]
        have HE := Lib.hid (HB10.out.trans ((HBD.out.trans (hS.mono HBD.out.size)).mono HB10.out.size))
        clear hall hV dl hS hRrb hHrb hRxb hHxb hRtwob hHtwob hRoneb hHoneb hRTb 
        go_wp2_with fail
        go_ret
        exact ⟨rfl, HE.out⟩
theorem fnOpCrop_walk (A : Option Addr) (c : Nat) (l : List UInt8) (A2 : Option Addr) (c2 : Nat) (l2 : List UInt8) (w : World) (hR : RangesIn w) (h : Has w w.heap.size A l) (hc : l.length ≤ c) (_ : Has w w.heap.size A2 l2) (_ : l2.length ≤ c2) :
    Calls Tryd.prog 11 #[.slice A l.length c, .slice A2 l2.length c2] w fun e w' => e = .returned (.bool true) ∧ Below w.heap.size w w' := by
  by_cases hbig : l.length ≤ 1048576
  · by_cases hbig2 : l2.length ≤ 1048576
    · exact fnOpCrop_small A c l A2 c2 l2 w hR h hc hbig hbig2
    · have hl0 : ¬ ((1048576 : Int) < (l.length : Int)) := by omega
      have hl2 : (1048576 : Int) < (l2.length : Int) := by omega
      clear h hc hbig hbig2
      go_enter Tryd.func11, Tryd.ntmps11
      go_wp2_with fail
      go_ret
      exact ⟨rfl, Below.refl _ _⟩
  · have hl0 : (1048576 : Int) < (l.length : Int) := by omega
    clear h hc hbig
    go_enter Tryd.func11, Tryd.ntmps11
    go_wp2_with fail
    go_ret
    exact ⟨rfl, Below.refl _ _⟩
end Go.Proofs.YthdggnfffebnlaaDoor
