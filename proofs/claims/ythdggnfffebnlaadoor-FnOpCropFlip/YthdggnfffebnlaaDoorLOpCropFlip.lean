/-
  The law FnOpCropFlip returns true for every lists of bytes to draw from. Condition: the table of ranges reads as the program's text lays it.
-/
import Derived.Test.YthdggnfffebnlaaDoorRanL
import Derived.Test.YthdggnfffebnlaaDoorDrawOpA
import Derived.Test.YthdggnfffebnlaaDoorEaC
import Derived.Test.YthdggnfffebnlaaDoorRegL
import Derived.Test.YthdggnfffebnlaaDoorRasS
import Derived.Test.YthdggnfffebnlaaDoorRegM
namespace Go.Proofs.YthdggnfffebnlaaDoor
set_option maxRecDepth 4000
open Go.RowKit

set_option maxHeartbeats 8000000 in
theorem fnOpCropFlip_small (A : Option Addr) (c : Nat) (l : List UInt8) (A2 : Option Addr) (c2 : Nat) (l2 : List UInt8) (w : World) (hR : RangesIn w) (h : Has w w.heap.size A l) (hc : l.length ≤ c) (hs : l.length ≤ 1048576) (hs2 : l2.length ≤ 1048576) :
    Calls Tryd.prog 12 #[.slice A l.length c, .slice A2 l2.length c2] w fun e w' => e = .returned (.bool true) ∧ Below w.heap.size w w' := by
  have C1 := Lib.hid (drawOpDo_any A c l w (by omega) hc h)
  have HRW := Lib.hid hR
  have hl0 : ¬ ((1048576 : Int) < (l.length : Int)) := by omega
  have hl2 : ¬ ((1048576 : Int) < (l2.length : Int)) := by omega
  clear h hs hc hR hs2
  go_enter Tryd.func12, Tryd.ntmps12
  go_wp2_with fail
  refine C1.out.mono ?_
  rintro e w1 ⟨W, H, A1, c1, l1, q, rfl, hh1, hc1, hl1, B1⟩
  have CSK := Lib.hid fun u hh => specRasOk_any W H A1 c1 l1 u (by omega) hh
  have CIK := Lib.hid fun u hh => implRasOk_any W H A1 c1 l1 u (by omega) hh
  unfold rasV at CSK CIK ⊢
  unfold Op.v
  have b2 : Below w1.heap.size w1 ((w1.alloc (.cells #[.int .i64 W, .int .i64 H, .slice A1 l1.length c1] 34)).alloc (.cells #[.int .i64 q.k, .int .i64 q.a, .int .i64 q.b, .int .i64 q.c, .int .i64 q.d] 25)) := ((Below.refl _ w1).alloc (Nat.le_refl _) _).alloc (by simp) _
  have HRb2 : Hid (RasAtB ((w1.alloc (.cells #[.int .i64 W, .int .i64 H, .slice A1 l1.length c1] 34)).alloc (.cells #[.int .i64 q.k, .int .i64 q.a, .int .i64 q.b, .int .i64 q.c, .int .i64 q.d] 25)) w1.heap.size W H A1 l1.length c1 34) := Lib.hid (Box.alloc (Box.new w1 _ _) _)
  have HH2 := Lib.hid (hh1.carry b2 (Nat.le_refl _) b2.size)
  have HB2 := Lib.hid (B1.trans (b2.mono B1.size))
  clear b2 hh1 B1 C1
  go_wp2_with fail
  generalize ((w1.alloc (.cells #[.int .i64 W, .int .i64 H, .slice A1 l1.length c1] 34)).alloc (.cells #[.int .i64 q.k, .int .i64 q.a, .int .i64 q.b, .int .i64 q.c, .int .i64 q.d] 25)) = w2 at *
  have r0 := HRb2.out.c0
  have r1 := HRb2.out.c1
  have r2 := HRb2.out.c2
  go_wp2_with fail
  refine (CSK.out _ HH2.out).mono ?_
  rintro e w3 ⟨rfl, b3⟩
  have HRb3 := Lib.hid (HRb2.out.below b3 HRb2.out.lt)
  have HH3 := Lib.hid (HH2.out.carry b3 (Nat.le_refl _) b3.size)
  have HB3 := Lib.hid (HB2.out.trans (b3.mono HB2.out.size))
  have HR3 := Lib.hid (HRW.out.below HB3.out HRW.out.1)
  clear b3 r0 r1 r2 HRb2  HH2 HB2 CSK
  cases hok : rasB W H l1
  · have CK := Lib.hid (CIK.out w3 HH3.out)
    rw [hok] at CK
    have r0 := HRb3.out.c0
    have r1 := HRb3.out.c1
    have r2 := HRb3.out.c2
    clear hok
    go_wp2_with fail
    refine CK.out.mono ?_
    rintro e w4 ⟨rfl, b4⟩
    have HB4 := Lib.hid (HB3.out.trans (b4.mono HB3.out.size))
    clear b4
    go_wp2_with fail
    refine (eaOk_any _).mono ?_
    rintro e w5 ⟨rfl, b5⟩
    have HB5 := Lib.hid (HB4.out.trans (b5.mono HB4.out.size))
    clear b5
    go_wp2_with fail
    go_ret
    exact ⟨rfl, HB5.out⟩
  obtain ⟨r, rfl, rfl, rfl⟩ : ∃ r : Ra, W = (r.w : Int) ∧ H = (r.h : Int) ∧ l1 = r.p := by
    obtain ⟨hW, hH, -, -⟩ := rasB_parts hok
    exact ⟨⟨W.toNat, H.toNat, l1⟩, by simp only; omega, by simp only; omega, rfl⟩
  have hr : r.ok := hok
  have HRP := Lib.hid hr.parts
  clear hok CIK hl1
  have hW : 1 ≤ r.w ∧ r.w ≤ 6 := hr.parts.1
  have hH : 1 ≤ r.h ∧ r.h ≤ 6 := hr.parts.2.1
  obtain ⟨n, hn⟩ : ∃ n, l2.length = n := ⟨_, rfl⟩
  obtain ⟨a, ha⟩ : ∃ a, n % r.w = a := ⟨_, rfl⟩
  obtain ⟨b, hb⟩ : ∃ b, n / 7 % r.h = b := ⟨_, rfl⟩
  have haw : a < r.w := by rw [← ha]; exact Nat.mod_lt _ (by omega)
  have hbh : b < r.h := by rw [← hb]; exact Nat.mod_lt _ (by omega)
  obtain ⟨wa, hwa⟩ : ∃ wa : Nat, (r.w : Int) - (a : Int) = (wa : Int) ∧ r.w - a = wa := ⟨r.w - a, by omega, rfl⟩
  obtain ⟨hb1, hhb⟩ : ∃ hb1 : Nat, (r.h : Int) - (b : Int) = (hb1 : Int) ∧ r.h - b = hb1 := ⟨r.h - b, by omega, rfl⟩
  have hwa0 : 0 < wa := by omega
  have hhb0 : 0 < hb1 := by omega
  obtain ⟨c0, hc0⟩ : ∃ c0, n / 3 % wa = c0 := ⟨_, rfl⟩
  obtain ⟨d0, hd0⟩ : ∃ d0, n / 5 % hb1 = d0 := ⟨_, rfl⟩
  have hcw : c0 < wa := by rw [← hc0]; exact Nat.mod_lt _ hwa0
  have hdh : d0 < hb1 := by rw [← hd0]; exact Nat.mod_lt _ hhb0
  obtain ⟨cc, hcc⟩ : ∃ cc : Nat, 1 + (c0 : Int) = (cc : Int) ∧ 1 + c0 = cc := ⟨1 + c0, by omega, rfl⟩
  obtain ⟨dd, hdd⟩ : ∃ dd : Nat, 1 + (d0 : Int) = (dd : Int) ∧ 1 + d0 = dd := ⟨1 + d0, by omega, rfl⟩
  have hac : a + cc ≤ r.w := by omega
  have hbd2 : b + dd ≤ r.h := by omega
  have hc1' : 1 ≤ cc := by omega
  have hd1' : 1 ≤ dd := by omega
  have hn1 : n ≤ 1048576 := by omega
  have ea : (n : Int).tmod (r.w : Int) = (a : Int) := by rw [Int.tmod_eq_emod_of_nonneg (by omega), ← ha]; exact (Int.natCast_emod n r.w).symm
  have eb0 : (n : Int) / 7 = ((n / 7 : Nat) : Int) := (Int.natCast_ediv n 7).symm
  have eb : ((n : Int) / 7).tmod (r.h : Int) = (b : Int) := by rw [eb0, Int.tmod_eq_emod_of_nonneg (by omega), ← hb]; exact (Int.natCast_emod (n / 7) r.h).symm
  have ec0 : (n : Int) / 3 = ((n / 3 : Nat) : Int) := (Int.natCast_ediv n 3).symm
  have ec : ((n : Int) / 3).tmod (wa : Int) = (c0 : Int) := by rw [ec0, Int.tmod_eq_emod_of_nonneg (by omega), ← hc0]; exact (Int.natCast_emod (n / 3) wa).symm
  have ed0 : (n : Int) / 5 = ((n / 5 : Nat) : Int) := (Int.natCast_ediv n 5).symm
  have ed : ((n : Int) / 5).tmod (hb1 : Int) = (d0 : Int) := by rw [ed0, Int.tmod_eq_emod_of_nonneg (by omega), ← hd0]; exact (Int.natCast_emod (n / 5) hb1).symm
  have ea2 : (n : Int) % (r.w : Int) = (a : Int) := by rw [← ha]; exact (Int.natCast_emod n r.w).symm
  have eb2 : (n : Int) / 7 % (r.h : Int) = (b : Int) := by rw [eb0, ← hb]; exact (Int.natCast_emod (n / 7) r.h).symm
  have ec2 : (n : Int) / 3 % (wa : Int) = (c0 : Int) := by rw [ec0, ← hc0]; exact (Int.natCast_emod (n / 3) wa).symm
  have ed2 : (n : Int) / 5 % (hb1 : Int) = (d0 : Int) := by rw [ed0, ← hd0]; exact (Int.natCast_emod (n / 5) hb1).symm
  clear eb0 ec0 ed0
  have nw0 : ¬ r.w = 0 := by omega
  have nh0 : ¬ r.h = 0 := by omega
  have nwa0 : ¬ wa = 0 := by omega
  have nhb0 : ¬ hb1 = 0 := by omega
  have ew := hwa.1
  have eh := hhb.1
  have ecc := hcc.1
  have edd := hdd.1
  obtain ⟨e1, he1⟩ : ∃ e1 : Nat, (wa : Int) - (cc : Int) = (e1 : Int) ∧ r.w - a - cc = e1 := ⟨wa - cc, by omega, by omega⟩
  obtain ⟨e2, he2⟩ : ∃ e2 : Nat, (hb1 : Int) - (dd : Int) = (e2 : Int) ∧ r.h - b - dd = e2 := ⟨hb1 - dd, by omega, by omega⟩
  have ee1 := he1.1
  have ee2 := he2.1
  have hl2n := hn
  have HNS := Lib.hid (And.intro hwa.2 (And.intro hhb.2 (And.intro hcc.2 (And.intro hdd.2 (And.intro he1.2 he2.2)))))
  clear hwa hhb hcc hdd he1 he2 ha hb hc0 hd0 haw hbh hwa0 hhb0 hcw hdh
  have HRr3 := HRb3
  have HHr3 := HH3
  have HRT3 := HR3
  clear HRb3 HH3 HR3
  have HOcrop3 : Hid (OpAtB (w3.alloc (.cells #[.int .i64 1, .int .i64 (a : Int), .int .i64 (b : Int), .int .i64 (cc : Int), .int .i64 (dd : Int)] 25)) (w3.heap.size) (cO (a : Int) (b : Int) (cc : Int) (dd : Int))) := Lib.hid (Box.new w3 _ _)
  have HOcrop3 : Hid (OpAtB ((w3.alloc (.cells #[.int .i64 1, .int .i64 (a : Int), .int .i64 (b : Int), .int .i64 (cc : Int), .int .i64 (dd : Int)] 25)).alloc (.cells #[.int .i64 1, .int .i64 (e1 : Int), .int .i64 (b : Int), .int .i64 (cc : Int), .int .i64 (dd : Int)] 25)) (w3.heap.size) (cO (a : Int) (b : Int) (cc : Int) (dd : Int))) := Lib.hid (Box.alloc HOcrop3.out _)
  have HOacross3 : Hid (OpAtB ((w3.alloc (.cells #[.int .i64 1, .int .i64 (a : Int), .int .i64 (b : Int), .int .i64 (cc : Int), .int .i64 (dd : Int)] 25)).alloc (.cells #[.int .i64 1, .int .i64 (e1 : Int), .int .i64 (b : Int), .int .i64 (cc : Int), .int .i64 (dd : Int)] 25)) (w3.heap.size + 1) (cO (e1 : Int) (b : Int) (cc : Int) (dd : Int))) := Lib.hid ((by
      have := Box.new (w3.alloc (.cells #[.int .i64 1, .int .i64 (a : Int), .int .i64 (b : Int), .int .i64 (cc : Int), .int .i64 (dd : Int)] 25)) #[.int .i64 1, .int .i64 (e1 : Int), .int .i64 (b : Int), .int .i64 (cc : Int), .int .i64 (dd : Int)] 25
      rw [show (w3.alloc (.cells #[.int .i64 1, .int .i64 (a : Int), .int .i64 (b : Int), .int .i64 (cc : Int), .int .i64 (dd : Int)] 25)).heap.size = w3.heap.size + 1 from by simp] at this
      exact this))
  have HOcrop3 : Hid (OpAtB (((w3.alloc (.cells #[.int .i64 1, .int .i64 (a : Int), .int .i64 (b : Int), .int .i64 (cc : Int), .int .i64 (dd : Int)] 25)).alloc (.cells #[.int .i64 1, .int .i64 (e1 : Int), .int .i64 (b : Int), .int .i64 (cc : Int), .int .i64 (dd : Int)] 25)).alloc (.cells #[.int .i64 1, .int .i64 (a : Int), .int .i64 (e2 : Int), .int .i64 (cc : Int), .int .i64 (dd : Int)] 25)) (w3.heap.size) (cO (a : Int) (b : Int) (cc : Int) (dd : Int))) := Lib.hid (Box.alloc HOcrop3.out _)
  have HOacross3 : Hid (OpAtB (((w3.alloc (.cells #[.int .i64 1, .int .i64 (a : Int), .int .i64 (b : Int), .int .i64 (cc : Int), .int .i64 (dd : Int)] 25)).alloc (.cells #[.int .i64 1, .int .i64 (e1 : Int), .int .i64 (b : Int), .int .i64 (cc : Int), .int .i64 (dd : Int)] 25)).alloc (.cells #[.int .i64 1, .int .i64 (a : Int), .int .i64 (e2 : Int), .int .i64 (cc : Int), .int .i64 (dd : Int)] 25)) (w3.heap.size + 1) (cO (e1 : Int) (b : Int) (cc : Int) (dd : Int))) := Lib.hid (Box.alloc HOacross3.out _)
  have HObelw3 : Hid (OpAtB (((w3.alloc (.cells #[.int .i64 1, .int .i64 (a : Int), .int .i64 (b : Int), .int .i64 (cc : Int), .int .i64 (dd : Int)] 25)).alloc (.cells #[.int .i64 1, .int .i64 (e1 : Int), .int .i64 (b : Int), .int .i64 (cc : Int), .int .i64 (dd : Int)] 25)).alloc (.cells #[.int .i64 1, .int .i64 (a : Int), .int .i64 (e2 : Int), .int .i64 (cc : Int), .int .i64 (dd : Int)] 25)) (w3.heap.size + 1 + 1) (cO (a : Int) (e2 : Int) (cc : Int) (dd : Int))) := Lib.hid ((by
      have := Box.new ((w3.alloc (.cells #[.int .i64 1, .int .i64 (a : Int), .int .i64 (b : Int), .int .i64 (cc : Int), .int .i64 (dd : Int)] 25)).alloc (.cells #[.int .i64 1, .int .i64 (e1 : Int), .int .i64 (b : Int), .int .i64 (cc : Int), .int .i64 (dd : Int)] 25)) #[.int .i64 1, .int .i64 (a : Int), .int .i64 (e2 : Int), .int .i64 (cc : Int), .int .i64 (dd : Int)] 25
      rw [show ((w3.alloc (.cells #[.int .i64 1, .int .i64 (a : Int), .int .i64 (b : Int), .int .i64 (cc : Int), .int .i64 (dd : Int)] 25)).alloc (.cells #[.int .i64 1, .int .i64 (e1 : Int), .int .i64 (b : Int), .int .i64 (cc : Int), .int .i64 (dd : Int)] 25)).heap.size = w3.heap.size + 1 + 1 from by simp] at this
      exact this))
  have HOcrop3 : Hid (OpAtB ((((w3.alloc (.cells #[.int .i64 1, .int .i64 (a : Int), .int .i64 (b : Int), .int .i64 (cc : Int), .int .i64 (dd : Int)] 25)).alloc (.cells #[.int .i64 1, .int .i64 (e1 : Int), .int .i64 (b : Int), .int .i64 (cc : Int), .int .i64 (dd : Int)] 25)).alloc (.cells #[.int .i64 1, .int .i64 (a : Int), .int .i64 (e2 : Int), .int .i64 (cc : Int), .int .i64 (dd : Int)] 25)).alloc (.cells #[.int .i64 1, .int .i64 (e2 : Int), .int .i64 (a : Int), .int .i64 (dd : Int), .int .i64 (cc : Int)] 25)) (w3.heap.size) (cO (a : Int) (b : Int) (cc : Int) (dd : Int))) := Lib.hid (Box.alloc HOcrop3.out _)
  have HOacross3 : Hid (OpAtB ((((w3.alloc (.cells #[.int .i64 1, .int .i64 (a : Int), .int .i64 (b : Int), .int .i64 (cc : Int), .int .i64 (dd : Int)] 25)).alloc (.cells #[.int .i64 1, .int .i64 (e1 : Int), .int .i64 (b : Int), .int .i64 (cc : Int), .int .i64 (dd : Int)] 25)).alloc (.cells #[.int .i64 1, .int .i64 (a : Int), .int .i64 (e2 : Int), .int .i64 (cc : Int), .int .i64 (dd : Int)] 25)).alloc (.cells #[.int .i64 1, .int .i64 (e2 : Int), .int .i64 (a : Int), .int .i64 (dd : Int), .int .i64 (cc : Int)] 25)) (w3.heap.size + 1) (cO (e1 : Int) (b : Int) (cc : Int) (dd : Int))) := Lib.hid (Box.alloc HOacross3.out _)
  have HObelw3 : Hid (OpAtB ((((w3.alloc (.cells #[.int .i64 1, .int .i64 (a : Int), .int .i64 (b : Int), .int .i64 (cc : Int), .int .i64 (dd : Int)] 25)).alloc (.cells #[.int .i64 1, .int .i64 (e1 : Int), .int .i64 (b : Int), .int .i64 (cc : Int), .int .i64 (dd : Int)] 25)).alloc (.cells #[.int .i64 1, .int .i64 (a : Int), .int .i64 (e2 : Int), .int .i64 (cc : Int), .int .i64 (dd : Int)] 25)).alloc (.cells #[.int .i64 1, .int .i64 (e2 : Int), .int .i64 (a : Int), .int .i64 (dd : Int), .int .i64 (cc : Int)] 25)) (w3.heap.size + 1 + 1) (cO (a : Int) (e2 : Int) (cc : Int) (dd : Int))) := Lib.hid (Box.alloc HObelw3.out _)
  have HOturned3 : Hid (OpAtB ((((w3.alloc (.cells #[.int .i64 1, .int .i64 (a : Int), .int .i64 (b : Int), .int .i64 (cc : Int), .int .i64 (dd : Int)] 25)).alloc (.cells #[.int .i64 1, .int .i64 (e1 : Int), .int .i64 (b : Int), .int .i64 (cc : Int), .int .i64 (dd : Int)] 25)).alloc (.cells #[.int .i64 1, .int .i64 (a : Int), .int .i64 (e2 : Int), .int .i64 (cc : Int), .int .i64 (dd : Int)] 25)).alloc (.cells #[.int .i64 1, .int .i64 (e2 : Int), .int .i64 (a : Int), .int .i64 (dd : Int), .int .i64 (cc : Int)] 25)) (w3.heap.size + 1 + 1 + 1) (cO (e2 : Int) (a : Int) (dd : Int) (cc : Int))) := Lib.hid ((by
      have := Box.new (((w3.alloc (.cells #[.int .i64 1, .int .i64 (a : Int), .int .i64 (b : Int), .int .i64 (cc : Int), .int .i64 (dd : Int)] 25)).alloc (.cells #[.int .i64 1, .int .i64 (e1 : Int), .int .i64 (b : Int), .int .i64 (cc : Int), .int .i64 (dd : Int)] 25)).alloc (.cells #[.int .i64 1, .int .i64 (a : Int), .int .i64 (e2 : Int), .int .i64 (cc : Int), .int .i64 (dd : Int)] 25)) #[.int .i64 1, .int .i64 (e2 : Int), .int .i64 (a : Int), .int .i64 (dd : Int), .int .i64 (cc : Int)] 25
      rw [show (((w3.alloc (.cells #[.int .i64 1, .int .i64 (a : Int), .int .i64 (b : Int), .int .i64 (cc : Int), .int .i64 (dd : Int)] 25)).alloc (.cells #[.int .i64 1, .int .i64 (e1 : Int), .int .i64 (b : Int), .int .i64 (cc : Int), .int .i64 (dd : Int)] 25)).alloc (.cells #[.int .i64 1, .int .i64 (a : Int), .int .i64 (e2 : Int), .int .i64 (cc : Int), .int .i64 (dd : Int)] 25)).heap.size = w3.heap.size + 1 + 1 + 1 from by simp] at this
      exact this))
  have HOcrop3 : Hid (OpAtB (((((w3.alloc (.cells #[.int .i64 1, .int .i64 (a : Int), .int .i64 (b : Int), .int .i64 (cc : Int), .int .i64 (dd : Int)] 25)).alloc (.cells #[.int .i64 1, .int .i64 (e1 : Int), .int .i64 (b : Int), .int .i64 (cc : Int), .int .i64 (dd : Int)] 25)).alloc (.cells #[.int .i64 1, .int .i64 (a : Int), .int .i64 (e2 : Int), .int .i64 (cc : Int), .int .i64 (dd : Int)] 25)).alloc (.cells #[.int .i64 1, .int .i64 (e2 : Int), .int .i64 (a : Int), .int .i64 (dd : Int), .int .i64 (cc : Int)] 25)).alloc (.cells #[.int .i64 2, .int .i64 0, .int .i64 0, .int .i64 0, .int .i64 0] 25)) (w3.heap.size) (cO (a : Int) (b : Int) (cc : Int) (dd : Int))) := Lib.hid (Box.alloc HOcrop3.out _)
  have HOacross3 : Hid (OpAtB (((((w3.alloc (.cells #[.int .i64 1, .int .i64 (a : Int), .int .i64 (b : Int), .int .i64 (cc : Int), .int .i64 (dd : Int)] 25)).alloc (.cells #[.int .i64 1, .int .i64 (e1 : Int), .int .i64 (b : Int), .int .i64 (cc : Int), .int .i64 (dd : Int)] 25)).alloc (.cells #[.int .i64 1, .int .i64 (a : Int), .int .i64 (e2 : Int), .int .i64 (cc : Int), .int .i64 (dd : Int)] 25)).alloc (.cells #[.int .i64 1, .int .i64 (e2 : Int), .int .i64 (a : Int), .int .i64 (dd : Int), .int .i64 (cc : Int)] 25)).alloc (.cells #[.int .i64 2, .int .i64 0, .int .i64 0, .int .i64 0, .int .i64 0] 25)) (w3.heap.size + 1) (cO (e1 : Int) (b : Int) (cc : Int) (dd : Int))) := Lib.hid (Box.alloc HOacross3.out _)
  have HObelw3 : Hid (OpAtB (((((w3.alloc (.cells #[.int .i64 1, .int .i64 (a : Int), .int .i64 (b : Int), .int .i64 (cc : Int), .int .i64 (dd : Int)] 25)).alloc (.cells #[.int .i64 1, .int .i64 (e1 : Int), .int .i64 (b : Int), .int .i64 (cc : Int), .int .i64 (dd : Int)] 25)).alloc (.cells #[.int .i64 1, .int .i64 (a : Int), .int .i64 (e2 : Int), .int .i64 (cc : Int), .int .i64 (dd : Int)] 25)).alloc (.cells #[.int .i64 1, .int .i64 (e2 : Int), .int .i64 (a : Int), .int .i64 (dd : Int), .int .i64 (cc : Int)] 25)).alloc (.cells #[.int .i64 2, .int .i64 0, .int .i64 0, .int .i64 0, .int .i64 0] 25)) (w3.heap.size + 1 + 1) (cO (a : Int) (e2 : Int) (cc : Int) (dd : Int))) := Lib.hid (Box.alloc HObelw3.out _)
  have HOturned3 : Hid (OpAtB (((((w3.alloc (.cells #[.int .i64 1, .int .i64 (a : Int), .int .i64 (b : Int), .int .i64 (cc : Int), .int .i64 (dd : Int)] 25)).alloc (.cells #[.int .i64 1, .int .i64 (e1 : Int), .int .i64 (b : Int), .int .i64 (cc : Int), .int .i64 (dd : Int)] 25)).alloc (.cells #[.int .i64 1, .int .i64 (a : Int), .int .i64 (e2 : Int), .int .i64 (cc : Int), .int .i64 (dd : Int)] 25)).alloc (.cells #[.int .i64 1, .int .i64 (e2 : Int), .int .i64 (a : Int), .int .i64 (dd : Int), .int .i64 (cc : Int)] 25)).alloc (.cells #[.int .i64 2, .int .i64 0, .int .i64 0, .int .i64 0, .int .i64 0] 25)) (w3.heap.size + 1 + 1 + 1) (cO (e2 : Int) (a : Int) (dd : Int) (cc : Int))) := Lib.hid (Box.alloc HOturned3.out _)
  have HOxO3 : Hid (OpAtB (((((w3.alloc (.cells #[.int .i64 1, .int .i64 (a : Int), .int .i64 (b : Int), .int .i64 (cc : Int), .int .i64 (dd : Int)] 25)).alloc (.cells #[.int .i64 1, .int .i64 (e1 : Int), .int .i64 (b : Int), .int .i64 (cc : Int), .int .i64 (dd : Int)] 25)).alloc (.cells #[.int .i64 1, .int .i64 (a : Int), .int .i64 (e2 : Int), .int .i64 (cc : Int), .int .i64 (dd : Int)] 25)).alloc (.cells #[.int .i64 1, .int .i64 (e2 : Int), .int .i64 (a : Int), .int .i64 (dd : Int), .int .i64 (cc : Int)] 25)).alloc (.cells #[.int .i64 2, .int .i64 0, .int .i64 0, .int .i64 0, .int .i64 0] 25)) (w3.heap.size + 1 + 1 + 1 + 1) xO) := Lib.hid ((by
      have := Box.new ((((w3.alloc (.cells #[.int .i64 1, .int .i64 (a : Int), .int .i64 (b : Int), .int .i64 (cc : Int), .int .i64 (dd : Int)] 25)).alloc (.cells #[.int .i64 1, .int .i64 (e1 : Int), .int .i64 (b : Int), .int .i64 (cc : Int), .int .i64 (dd : Int)] 25)).alloc (.cells #[.int .i64 1, .int .i64 (a : Int), .int .i64 (e2 : Int), .int .i64 (cc : Int), .int .i64 (dd : Int)] 25)).alloc (.cells #[.int .i64 1, .int .i64 (e2 : Int), .int .i64 (a : Int), .int .i64 (dd : Int), .int .i64 (cc : Int)] 25)) #[.int .i64 2, .int .i64 0, .int .i64 0, .int .i64 0, .int .i64 0] 25
      rw [show ((((w3.alloc (.cells #[.int .i64 1, .int .i64 (a : Int), .int .i64 (b : Int), .int .i64 (cc : Int), .int .i64 (dd : Int)] 25)).alloc (.cells #[.int .i64 1, .int .i64 (e1 : Int), .int .i64 (b : Int), .int .i64 (cc : Int), .int .i64 (dd : Int)] 25)).alloc (.cells #[.int .i64 1, .int .i64 (a : Int), .int .i64 (e2 : Int), .int .i64 (cc : Int), .int .i64 (dd : Int)] 25)).alloc (.cells #[.int .i64 1, .int .i64 (e2 : Int), .int .i64 (a : Int), .int .i64 (dd : Int), .int .i64 (cc : Int)] 25)).heap.size = w3.heap.size + 1 + 1 + 1 + 1 from by simp] at this
      exact this))
  have HOcrop3 : Hid (OpAtB ((((((w3.alloc (.cells #[.int .i64 1, .int .i64 (a : Int), .int .i64 (b : Int), .int .i64 (cc : Int), .int .i64 (dd : Int)] 25)).alloc (.cells #[.int .i64 1, .int .i64 (e1 : Int), .int .i64 (b : Int), .int .i64 (cc : Int), .int .i64 (dd : Int)] 25)).alloc (.cells #[.int .i64 1, .int .i64 (a : Int), .int .i64 (e2 : Int), .int .i64 (cc : Int), .int .i64 (dd : Int)] 25)).alloc (.cells #[.int .i64 1, .int .i64 (e2 : Int), .int .i64 (a : Int), .int .i64 (dd : Int), .int .i64 (cc : Int)] 25)).alloc (.cells #[.int .i64 2, .int .i64 0, .int .i64 0, .int .i64 0, .int .i64 0] 25)).alloc (.cells #[.int .i64 3, .int .i64 0, .int .i64 0, .int .i64 0, .int .i64 0] 25)) (w3.heap.size) (cO (a : Int) (b : Int) (cc : Int) (dd : Int))) := Lib.hid (Box.alloc HOcrop3.out _)
  have HOacross3 : Hid (OpAtB ((((((w3.alloc (.cells #[.int .i64 1, .int .i64 (a : Int), .int .i64 (b : Int), .int .i64 (cc : Int), .int .i64 (dd : Int)] 25)).alloc (.cells #[.int .i64 1, .int .i64 (e1 : Int), .int .i64 (b : Int), .int .i64 (cc : Int), .int .i64 (dd : Int)] 25)).alloc (.cells #[.int .i64 1, .int .i64 (a : Int), .int .i64 (e2 : Int), .int .i64 (cc : Int), .int .i64 (dd : Int)] 25)).alloc (.cells #[.int .i64 1, .int .i64 (e2 : Int), .int .i64 (a : Int), .int .i64 (dd : Int), .int .i64 (cc : Int)] 25)).alloc (.cells #[.int .i64 2, .int .i64 0, .int .i64 0, .int .i64 0, .int .i64 0] 25)).alloc (.cells #[.int .i64 3, .int .i64 0, .int .i64 0, .int .i64 0, .int .i64 0] 25)) (w3.heap.size + 1) (cO (e1 : Int) (b : Int) (cc : Int) (dd : Int))) := Lib.hid (Box.alloc HOacross3.out _)
  have HObelw3 : Hid (OpAtB ((((((w3.alloc (.cells #[.int .i64 1, .int .i64 (a : Int), .int .i64 (b : Int), .int .i64 (cc : Int), .int .i64 (dd : Int)] 25)).alloc (.cells #[.int .i64 1, .int .i64 (e1 : Int), .int .i64 (b : Int), .int .i64 (cc : Int), .int .i64 (dd : Int)] 25)).alloc (.cells #[.int .i64 1, .int .i64 (a : Int), .int .i64 (e2 : Int), .int .i64 (cc : Int), .int .i64 (dd : Int)] 25)).alloc (.cells #[.int .i64 1, .int .i64 (e2 : Int), .int .i64 (a : Int), .int .i64 (dd : Int), .int .i64 (cc : Int)] 25)).alloc (.cells #[.int .i64 2, .int .i64 0, .int .i64 0, .int .i64 0, .int .i64 0] 25)).alloc (.cells #[.int .i64 3, .int .i64 0, .int .i64 0, .int .i64 0, .int .i64 0] 25)) (w3.heap.size + 1 + 1) (cO (a : Int) (e2 : Int) (cc : Int) (dd : Int))) := Lib.hid (Box.alloc HObelw3.out _)
  have HOturned3 : Hid (OpAtB ((((((w3.alloc (.cells #[.int .i64 1, .int .i64 (a : Int), .int .i64 (b : Int), .int .i64 (cc : Int), .int .i64 (dd : Int)] 25)).alloc (.cells #[.int .i64 1, .int .i64 (e1 : Int), .int .i64 (b : Int), .int .i64 (cc : Int), .int .i64 (dd : Int)] 25)).alloc (.cells #[.int .i64 1, .int .i64 (a : Int), .int .i64 (e2 : Int), .int .i64 (cc : Int), .int .i64 (dd : Int)] 25)).alloc (.cells #[.int .i64 1, .int .i64 (e2 : Int), .int .i64 (a : Int), .int .i64 (dd : Int), .int .i64 (cc : Int)] 25)).alloc (.cells #[.int .i64 2, .int .i64 0, .int .i64 0, .int .i64 0, .int .i64 0] 25)).alloc (.cells #[.int .i64 3, .int .i64 0, .int .i64 0, .int .i64 0, .int .i64 0] 25)) (w3.heap.size + 1 + 1 + 1) (cO (e2 : Int) (a : Int) (dd : Int) (cc : Int))) := Lib.hid (Box.alloc HOturned3.out _)
  have HOxO3 : Hid (OpAtB ((((((w3.alloc (.cells #[.int .i64 1, .int .i64 (a : Int), .int .i64 (b : Int), .int .i64 (cc : Int), .int .i64 (dd : Int)] 25)).alloc (.cells #[.int .i64 1, .int .i64 (e1 : Int), .int .i64 (b : Int), .int .i64 (cc : Int), .int .i64 (dd : Int)] 25)).alloc (.cells #[.int .i64 1, .int .i64 (a : Int), .int .i64 (e2 : Int), .int .i64 (cc : Int), .int .i64 (dd : Int)] 25)).alloc (.cells #[.int .i64 1, .int .i64 (e2 : Int), .int .i64 (a : Int), .int .i64 (dd : Int), .int .i64 (cc : Int)] 25)).alloc (.cells #[.int .i64 2, .int .i64 0, .int .i64 0, .int .i64 0, .int .i64 0] 25)).alloc (.cells #[.int .i64 3, .int .i64 0, .int .i64 0, .int .i64 0, .int .i64 0] 25)) (w3.heap.size + 1 + 1 + 1 + 1) xO) := Lib.hid (Box.alloc HOxO3.out _)
  have HOyO3 : Hid (OpAtB ((((((w3.alloc (.cells #[.int .i64 1, .int .i64 (a : Int), .int .i64 (b : Int), .int .i64 (cc : Int), .int .i64 (dd : Int)] 25)).alloc (.cells #[.int .i64 1, .int .i64 (e1 : Int), .int .i64 (b : Int), .int .i64 (cc : Int), .int .i64 (dd : Int)] 25)).alloc (.cells #[.int .i64 1, .int .i64 (a : Int), .int .i64 (e2 : Int), .int .i64 (cc : Int), .int .i64 (dd : Int)] 25)).alloc (.cells #[.int .i64 1, .int .i64 (e2 : Int), .int .i64 (a : Int), .int .i64 (dd : Int), .int .i64 (cc : Int)] 25)).alloc (.cells #[.int .i64 2, .int .i64 0, .int .i64 0, .int .i64 0, .int .i64 0] 25)).alloc (.cells #[.int .i64 3, .int .i64 0, .int .i64 0, .int .i64 0, .int .i64 0] 25)) (w3.heap.size + 1 + 1 + 1 + 1 + 1) yO) := Lib.hid ((by
      have := Box.new (((((w3.alloc (.cells #[.int .i64 1, .int .i64 (a : Int), .int .i64 (b : Int), .int .i64 (cc : Int), .int .i64 (dd : Int)] 25)).alloc (.cells #[.int .i64 1, .int .i64 (e1 : Int), .int .i64 (b : Int), .int .i64 (cc : Int), .int .i64 (dd : Int)] 25)).alloc (.cells #[.int .i64 1, .int .i64 (a : Int), .int .i64 (e2 : Int), .int .i64 (cc : Int), .int .i64 (dd : Int)] 25)).alloc (.cells #[.int .i64 1, .int .i64 (e2 : Int), .int .i64 (a : Int), .int .i64 (dd : Int), .int .i64 (cc : Int)] 25)).alloc (.cells #[.int .i64 2, .int .i64 0, .int .i64 0, .int .i64 0, .int .i64 0] 25)) #[.int .i64 3, .int .i64 0, .int .i64 0, .int .i64 0, .int .i64 0] 25
      rw [show (((((w3.alloc (.cells #[.int .i64 1, .int .i64 (a : Int), .int .i64 (b : Int), .int .i64 (cc : Int), .int .i64 (dd : Int)] 25)).alloc (.cells #[.int .i64 1, .int .i64 (e1 : Int), .int .i64 (b : Int), .int .i64 (cc : Int), .int .i64 (dd : Int)] 25)).alloc (.cells #[.int .i64 1, .int .i64 (a : Int), .int .i64 (e2 : Int), .int .i64 (cc : Int), .int .i64 (dd : Int)] 25)).alloc (.cells #[.int .i64 1, .int .i64 (e2 : Int), .int .i64 (a : Int), .int .i64 (dd : Int), .int .i64 (cc : Int)] 25)).alloc (.cells #[.int .i64 2, .int .i64 0, .int .i64 0, .int .i64 0, .int .i64 0] 25)).heap.size = w3.heap.size + 1 + 1 + 1 + 1 + 1 from by simp] at this
      exact this))
  have HOcrop3 : Hid (OpAtB (((((((w3.alloc (.cells #[.int .i64 1, .int .i64 (a : Int), .int .i64 (b : Int), .int .i64 (cc : Int), .int .i64 (dd : Int)] 25)).alloc (.cells #[.int .i64 1, .int .i64 (e1 : Int), .int .i64 (b : Int), .int .i64 (cc : Int), .int .i64 (dd : Int)] 25)).alloc (.cells #[.int .i64 1, .int .i64 (a : Int), .int .i64 (e2 : Int), .int .i64 (cc : Int), .int .i64 (dd : Int)] 25)).alloc (.cells #[.int .i64 1, .int .i64 (e2 : Int), .int .i64 (a : Int), .int .i64 (dd : Int), .int .i64 (cc : Int)] 25)).alloc (.cells #[.int .i64 2, .int .i64 0, .int .i64 0, .int .i64 0, .int .i64 0] 25)).alloc (.cells #[.int .i64 3, .int .i64 0, .int .i64 0, .int .i64 0, .int .i64 0] 25)).alloc (.cells #[.int .i64 4, .int .i64 0, .int .i64 0, .int .i64 0, .int .i64 0] 25)) (w3.heap.size) (cO (a : Int) (b : Int) (cc : Int) (dd : Int))) := Lib.hid (Box.alloc HOcrop3.out _)
  have HOacross3 : Hid (OpAtB (((((((w3.alloc (.cells #[.int .i64 1, .int .i64 (a : Int), .int .i64 (b : Int), .int .i64 (cc : Int), .int .i64 (dd : Int)] 25)).alloc (.cells #[.int .i64 1, .int .i64 (e1 : Int), .int .i64 (b : Int), .int .i64 (cc : Int), .int .i64 (dd : Int)] 25)).alloc (.cells #[.int .i64 1, .int .i64 (a : Int), .int .i64 (e2 : Int), .int .i64 (cc : Int), .int .i64 (dd : Int)] 25)).alloc (.cells #[.int .i64 1, .int .i64 (e2 : Int), .int .i64 (a : Int), .int .i64 (dd : Int), .int .i64 (cc : Int)] 25)).alloc (.cells #[.int .i64 2, .int .i64 0, .int .i64 0, .int .i64 0, .int .i64 0] 25)).alloc (.cells #[.int .i64 3, .int .i64 0, .int .i64 0, .int .i64 0, .int .i64 0] 25)).alloc (.cells #[.int .i64 4, .int .i64 0, .int .i64 0, .int .i64 0, .int .i64 0] 25)) (w3.heap.size + 1) (cO (e1 : Int) (b : Int) (cc : Int) (dd : Int))) := Lib.hid (Box.alloc HOacross3.out _)
  have HObelw3 : Hid (OpAtB (((((((w3.alloc (.cells #[.int .i64 1, .int .i64 (a : Int), .int .i64 (b : Int), .int .i64 (cc : Int), .int .i64 (dd : Int)] 25)).alloc (.cells #[.int .i64 1, .int .i64 (e1 : Int), .int .i64 (b : Int), .int .i64 (cc : Int), .int .i64 (dd : Int)] 25)).alloc (.cells #[.int .i64 1, .int .i64 (a : Int), .int .i64 (e2 : Int), .int .i64 (cc : Int), .int .i64 (dd : Int)] 25)).alloc (.cells #[.int .i64 1, .int .i64 (e2 : Int), .int .i64 (a : Int), .int .i64 (dd : Int), .int .i64 (cc : Int)] 25)).alloc (.cells #[.int .i64 2, .int .i64 0, .int .i64 0, .int .i64 0, .int .i64 0] 25)).alloc (.cells #[.int .i64 3, .int .i64 0, .int .i64 0, .int .i64 0, .int .i64 0] 25)).alloc (.cells #[.int .i64 4, .int .i64 0, .int .i64 0, .int .i64 0, .int .i64 0] 25)) (w3.heap.size + 1 + 1) (cO (a : Int) (e2 : Int) (cc : Int) (dd : Int))) := Lib.hid (Box.alloc HObelw3.out _)
  have HOturned3 : Hid (OpAtB (((((((w3.alloc (.cells #[.int .i64 1, .int .i64 (a : Int), .int .i64 (b : Int), .int .i64 (cc : Int), .int .i64 (dd : Int)] 25)).alloc (.cells #[.int .i64 1, .int .i64 (e1 : Int), .int .i64 (b : Int), .int .i64 (cc : Int), .int .i64 (dd : Int)] 25)).alloc (.cells #[.int .i64 1, .int .i64 (a : Int), .int .i64 (e2 : Int), .int .i64 (cc : Int), .int .i64 (dd : Int)] 25)).alloc (.cells #[.int .i64 1, .int .i64 (e2 : Int), .int .i64 (a : Int), .int .i64 (dd : Int), .int .i64 (cc : Int)] 25)).alloc (.cells #[.int .i64 2, .int .i64 0, .int .i64 0, .int .i64 0, .int .i64 0] 25)).alloc (.cells #[.int .i64 3, .int .i64 0, .int .i64 0, .int .i64 0, .int .i64 0] 25)).alloc (.cells #[.int .i64 4, .int .i64 0, .int .i64 0, .int .i64 0, .int .i64 0] 25)) (w3.heap.size + 1 + 1 + 1) (cO (e2 : Int) (a : Int) (dd : Int) (cc : Int))) := Lib.hid (Box.alloc HOturned3.out _)
  have HOxO3 : Hid (OpAtB (((((((w3.alloc (.cells #[.int .i64 1, .int .i64 (a : Int), .int .i64 (b : Int), .int .i64 (cc : Int), .int .i64 (dd : Int)] 25)).alloc (.cells #[.int .i64 1, .int .i64 (e1 : Int), .int .i64 (b : Int), .int .i64 (cc : Int), .int .i64 (dd : Int)] 25)).alloc (.cells #[.int .i64 1, .int .i64 (a : Int), .int .i64 (e2 : Int), .int .i64 (cc : Int), .int .i64 (dd : Int)] 25)).alloc (.cells #[.int .i64 1, .int .i64 (e2 : Int), .int .i64 (a : Int), .int .i64 (dd : Int), .int .i64 (cc : Int)] 25)).alloc (.cells #[.int .i64 2, .int .i64 0, .int .i64 0, .int .i64 0, .int .i64 0] 25)).alloc (.cells #[.int .i64 3, .int .i64 0, .int .i64 0, .int .i64 0, .int .i64 0] 25)).alloc (.cells #[.int .i64 4, .int .i64 0, .int .i64 0, .int .i64 0, .int .i64 0] 25)) (w3.heap.size + 1 + 1 + 1 + 1) xO) := Lib.hid (Box.alloc HOxO3.out _)
  have HOyO3 : Hid (OpAtB (((((((w3.alloc (.cells #[.int .i64 1, .int .i64 (a : Int), .int .i64 (b : Int), .int .i64 (cc : Int), .int .i64 (dd : Int)] 25)).alloc (.cells #[.int .i64 1, .int .i64 (e1 : Int), .int .i64 (b : Int), .int .i64 (cc : Int), .int .i64 (dd : Int)] 25)).alloc (.cells #[.int .i64 1, .int .i64 (a : Int), .int .i64 (e2 : Int), .int .i64 (cc : Int), .int .i64 (dd : Int)] 25)).alloc (.cells #[.int .i64 1, .int .i64 (e2 : Int), .int .i64 (a : Int), .int .i64 (dd : Int), .int .i64 (cc : Int)] 25)).alloc (.cells #[.int .i64 2, .int .i64 0, .int .i64 0, .int .i64 0, .int .i64 0] 25)).alloc (.cells #[.int .i64 3, .int .i64 0, .int .i64 0, .int .i64 0, .int .i64 0] 25)).alloc (.cells #[.int .i64 4, .int .i64 0, .int .i64 0, .int .i64 0, .int .i64 0] 25)) (w3.heap.size + 1 + 1 + 1 + 1 + 1) yO) := Lib.hid (Box.alloc HOyO3.out _)
  have HOtO3 : Hid (OpAtB (((((((w3.alloc (.cells #[.int .i64 1, .int .i64 (a : Int), .int .i64 (b : Int), .int .i64 (cc : Int), .int .i64 (dd : Int)] 25)).alloc (.cells #[.int .i64 1, .int .i64 (e1 : Int), .int .i64 (b : Int), .int .i64 (cc : Int), .int .i64 (dd : Int)] 25)).alloc (.cells #[.int .i64 1, .int .i64 (a : Int), .int .i64 (e2 : Int), .int .i64 (cc : Int), .int .i64 (dd : Int)] 25)).alloc (.cells #[.int .i64 1, .int .i64 (e2 : Int), .int .i64 (a : Int), .int .i64 (dd : Int), .int .i64 (cc : Int)] 25)).alloc (.cells #[.int .i64 2, .int .i64 0, .int .i64 0, .int .i64 0, .int .i64 0] 25)).alloc (.cells #[.int .i64 3, .int .i64 0, .int .i64 0, .int .i64 0, .int .i64 0] 25)).alloc (.cells #[.int .i64 4, .int .i64 0, .int .i64 0, .int .i64 0, .int .i64 0] 25)) (w3.heap.size + 1 + 1 + 1 + 1 + 1 + 1) tO) := Lib.hid ((by
      have := Box.new ((((((w3.alloc (.cells #[.int .i64 1, .int .i64 (a : Int), .int .i64 (b : Int), .int .i64 (cc : Int), .int .i64 (dd : Int)] 25)).alloc (.cells #[.int .i64 1, .int .i64 (e1 : Int), .int .i64 (b : Int), .int .i64 (cc : Int), .int .i64 (dd : Int)] 25)).alloc (.cells #[.int .i64 1, .int .i64 (a : Int), .int .i64 (e2 : Int), .int .i64 (cc : Int), .int .i64 (dd : Int)] 25)).alloc (.cells #[.int .i64 1, .int .i64 (e2 : Int), .int .i64 (a : Int), .int .i64 (dd : Int), .int .i64 (cc : Int)] 25)).alloc (.cells #[.int .i64 2, .int .i64 0, .int .i64 0, .int .i64 0, .int .i64 0] 25)).alloc (.cells #[.int .i64 3, .int .i64 0, .int .i64 0, .int .i64 0, .int .i64 0] 25)) #[.int .i64 4, .int .i64 0, .int .i64 0, .int .i64 0, .int .i64 0] 25
      rw [show ((((((w3.alloc (.cells #[.int .i64 1, .int .i64 (a : Int), .int .i64 (b : Int), .int .i64 (cc : Int), .int .i64 (dd : Int)] 25)).alloc (.cells #[.int .i64 1, .int .i64 (e1 : Int), .int .i64 (b : Int), .int .i64 (cc : Int), .int .i64 (dd : Int)] 25)).alloc (.cells #[.int .i64 1, .int .i64 (a : Int), .int .i64 (e2 : Int), .int .i64 (cc : Int), .int .i64 (dd : Int)] 25)).alloc (.cells #[.int .i64 1, .int .i64 (e2 : Int), .int .i64 (a : Int), .int .i64 (dd : Int), .int .i64 (cc : Int)] 25)).alloc (.cells #[.int .i64 2, .int .i64 0, .int .i64 0, .int .i64 0, .int .i64 0] 25)).alloc (.cells #[.int .i64 3, .int .i64 0, .int .i64 0, .int .i64 0, .int .i64 0] 25)).heap.size = w3.heap.size + 1 + 1 + 1 + 1 + 1 + 1 from by simp] at this
      exact this))
  rw [hl2n] at *
  have r0 := RasAtB.c0 HRr3.out
  have r1 := RasAtB.c1 HRr3.out
  have r2 := RasAtB.c2 HRr3.out
  have rn0 : w1.heap.size < w3.heap.size := by have := RasAtB.lt HRr3.out; omega
  have rn1 : w1.heap.size < w3.heap.size + 1 := by have := RasAtB.lt HRr3.out; omega
  have rn2 : w1.heap.size < w3.heap.size + 1 + 1 := by have := RasAtB.lt HRr3.out; omega
  have rn3 : w1.heap.size < w3.heap.size + 1 + 1 + 1 := by have := RasAtB.lt HRr3.out; omega
  have HBN4 : Hid (Below w3.heap.size w3 (((((((w3.alloc (.cells #[.int .i64 1, .int .i64 (a : Int), .int .i64 (b : Int), .int .i64 (cc : Int), .int .i64 (dd : Int)] 25)).alloc (.cells #[.int .i64 1, .int .i64 (e1 : Int), .int .i64 (b : Int), .int .i64 (cc : Int), .int .i64 (dd : Int)] 25)).alloc (.cells #[.int .i64 1, .int .i64 (a : Int), .int .i64 (e2 : Int), .int .i64 (cc : Int), .int .i64 (dd : Int)] 25)).alloc (.cells #[.int .i64 1, .int .i64 (e2 : Int), .int .i64 (a : Int), .int .i64 (dd : Int), .int .i64 (cc : Int)] 25)).alloc (.cells #[.int .i64 2, .int .i64 0, .int .i64 0, .int .i64 0, .int .i64 0] 25)).alloc (.cells #[.int .i64 3, .int .i64 0, .int .i64 0, .int .i64 0, .int .i64 0] 25)).alloc (.cells #[.int .i64 4, .int .i64 0, .int .i64 0, .int .i64 0, .int .i64 0] 25))) := Lib.hid ((((((((Below.refl w3.heap.size w3).alloc (Nat.le_refl _) _).alloc (by simp) _).alloc (by simp; omega) _).alloc (by simp; omega) _).alloc (by simp; omega) _).alloc (by simp; omega) _).alloc (by simp; omega) _)
  go_wp2_with fail
  generalize ((((((w3.alloc (.cells #[.int .i64 1, .int .i64 (a : Int), .int .i64 (b : Int), .int .i64 (cc : Int), .int .i64 (dd : Int)] 25)).alloc (.cells #[.int .i64 1, .int .i64 (e1 : Int), .int .i64 (b : Int), .int .i64 (cc : Int), .int .i64 (dd : Int)] 25)).alloc (.cells #[.int .i64 1, .int .i64 (a : Int), .int .i64 (e2 : Int), .int .i64 (cc : Int), .int .i64 (dd : Int)] 25)).alloc (.cells #[.int .i64 1, .int .i64 (e2 : Int), .int .i64 (a : Int), .int .i64 (dd : Int), .int .i64 (cc : Int)] 25)).alloc (.cells #[.int .i64 2, .int .i64 0, .int .i64 0, .int .i64 0, .int .i64 0] 25)).alloc (.cells #[.int .i64 3, .int .i64 0, .int .i64 0, .int .i64 0, .int .i64 0] 25)).alloc (.cells #[.int .i64 4, .int .i64 0, .int .i64 0, .int .i64 0, .int .i64 0] 25) = w4 at *
  have b4 := HBN4.out
  have HOcrop4 : Hid (OpAtB w4 (w3.heap.size) (cO (a : Int) (b : Int) (cc : Int) (dd : Int))) := HOcrop3
  have HOacross4 : Hid (OpAtB w4 (w3.heap.size + 1) (cO (e1 : Int) (b : Int) (cc : Int) (dd : Int))) := HOacross3
  have HObelw4 : Hid (OpAtB w4 (w3.heap.size + 1 + 1) (cO (a : Int) (e2 : Int) (cc : Int) (dd : Int))) := HObelw3
  have HOturned4 : Hid (OpAtB w4 (w3.heap.size + 1 + 1 + 1) (cO (e2 : Int) (a : Int) (dd : Int) (cc : Int))) := HOturned3
  have HOxO4 : Hid (OpAtB w4 (w3.heap.size + 1 + 1 + 1 + 1) xO) := HOxO3
  have HOyO4 : Hid (OpAtB w4 (w3.heap.size + 1 + 1 + 1 + 1 + 1) yO) := HOyO3
  have HOtO4 : Hid (OpAtB w4 (w3.heap.size + 1 + 1 + 1 + 1 + 1 + 1) tO) := HOtO3
  have HRr4 : Hid (RasAtB w4 (w1.heap.size) r.w r.h A1 r.p.length c1 34) := Lib.hid (Box.below HRr3.out b4 (RasAtB.lt HRr3.out))
  have HHr4 : Hid (HasP w4 w4.heap.size A1 r.p) := Lib.hid (HHr3.out.carry b4 (Nat.le_refl _) b4.size)
  have HB4 := Lib.hid (HB3.out.trans (b4.mono HB3.out.size))
  have HRT4 : Hid (RangesIn w4) := Lib.hid (HRT3.out.next b4)
  clear HRr3 HHr3 HOcrop3 HOacross3 HObelw3 HOturned3 HOxO3 HOyO3 HOtO3 HB3 HRT3
  clear b4 HBN4
  have HOK := Lib.hid hr
  clear r0 r1 r2 rn0 rn1 rn2 rn3 ea eb ec ed ea2 eb2 ec2 ed2 ew eh ecc edd ee1 ee2 hr
  have hcan1 : canAll r [cO (a : Int) (b : Int) (cc : Int) (dd : Int)] := can_c HOK.out hc1' hd1' hac hbd2 can_nil
  have hcr := cropR_ok HOK.out hc1' hd1' hac hbd2
  have HN2 := HNS.out
  obtain ⟨-, -, -, -, g1, g2⟩ := HN2
  have k1 : canAll r [cO (a : Int) (b : Int) (cc : Int) (dd : Int), xO] := can_c HOK.out hc1' hd1' hac hbd2 (can_x can_nil)
  have k2 : canAll r [xO, cO (e1 : Int) (b : Int) (cc : Int) (dd : Int)] := can_x (can_c (flipXR_ok HOK.out) hc1' hd1' (by rw [flipXR_w]; omega) (by rw [flipXR_h]; omega) can_nil)
  have k3 : canAll r [cO (a : Int) (b : Int) (cc : Int) (dd : Int), yO] := can_c HOK.out hc1' hd1' hac hbd2 (can_y can_nil)
  have k4 : canAll r [yO, cO (a : Int) (e2 : Int) (cc : Int) (dd : Int)] := can_y (can_c (flipYR_ok HOK.out) hc1' hd1' (by rw [flipYR_w]; omega) (by rw [flipYR_h]; omega) can_nil)
  have k5 : canAll r [cO (a : Int) (b : Int) (cc : Int) (dd : Int), tO] := can_c HOK.out hc1' hd1' hac hbd2 (can_t can_nil)
  have k6 : canAll r [tO, cO (e2 : Int) (a : Int) (dd : Int) (cc : Int)] := can_t (can_c (turnR_ok HOK.out) hd1' hc1' (by rw [turnR_w]; omega) (by rw [turnR_h]; omega) can_nil)
  have q1 : eaR r [cO (a : Int) (b : Int) (cc : Int) (dd : Int), xO] = eaR r [xO, cO (e1 : Int) (b : Int) (cc : Int) (dd : Int)] := by
    rw [ea_c HOK.out _ hc1' hd1' hac hbd2, ea_x hcr, eaR_nil, ea_x HOK.out, ea_c (flipXR_ok HOK.out) _ hc1' hd1' (by rw [flipXR_w]; omega) (by rw [flipXR_h]; omega), eaR_nil, ← g1]
    exact crop_flipX HOK.out hc1' hd1' hac hbd2
  have q2 : eaR r [cO (a : Int) (b : Int) (cc : Int) (dd : Int), yO] = eaR r [yO, cO (a : Int) (e2 : Int) (cc : Int) (dd : Int)] := by
    rw [ea_c HOK.out _ hc1' hd1' hac hbd2, ea_y hcr, eaR_nil, ea_y HOK.out, ea_c (flipYR_ok HOK.out) _ hc1' hd1' (by rw [flipYR_w]; omega) (by rw [flipYR_h]; omega), eaR_nil, ← g2]
    exact crop_flipY HOK.out hc1' hd1' hac hbd2
  have q3 : eaR r [cO (a : Int) (b : Int) (cc : Int) (dd : Int), tO] = eaR r [tO, cO (e2 : Int) (a : Int) (dd : Int) (cc : Int)] := by
    rw [ea_c HOK.out _ hc1' hd1' hac hbd2, ea_t hcr, eaR_nil, ea_t HOK.out, ea_c (turnR_ok HOK.out) _ hd1' hc1' (by rw [turnR_w]; omega) (by rw [turnR_h]; omega), eaR_nil, ← g2]
    exact crop_turn HOK.out hc1' hd1' hac hbd2
  have HKK := Lib.hid (And.intro hcan1 (And.intro k1 (And.intro k2 (And.intro k3 (And.intro k4 (And.intro k5 (And.intro k6 (And.intro q1 (And.intro q2 q3)))))))))
  clear hcan1 k1 k2 k3 k4 k5 k6 q1 q2 q3 hcr g1 g2
  have hbd : Below w4.heap.size w4 w4.drew := below_draws ((Below.refl _ _)) 1
  have hRrb : RasAtB w4.drew (w1.heap.size) r.w r.h A1 r.p.length c1 34 := Box.below HRr4.out hbd (RasAtB.lt HRr4.out)
  have hHrb : HasP w4.drew w4.drew.heap.size A1 r.p := HHr4.out.carry hbd (Nat.le_refl _) hbd.size
  have hOcropb : OpAtB w4.drew (w3.heap.size) (cO (a : Int) (b : Int) (cc : Int) (dd : Int)) := Box.below HOcrop4.out hbd (Box.lt HOcrop4.out)
  have hOacrossb : OpAtB w4.drew (w3.heap.size + 1) (cO (e1 : Int) (b : Int) (cc : Int) (dd : Int)) := Box.below HOacross4.out hbd (Box.lt HOacross4.out)
  have hObelwb : OpAtB w4.drew (w3.heap.size + 1 + 1) (cO (a : Int) (e2 : Int) (cc : Int) (dd : Int)) := Box.below HObelw4.out hbd (Box.lt HObelw4.out)
  have hOturnedb : OpAtB w4.drew (w3.heap.size + 1 + 1 + 1) (cO (e2 : Int) (a : Int) (dd : Int) (cc : Int)) := Box.below HOturned4.out hbd (Box.lt HOturned4.out)
  have hOxOb : OpAtB w4.drew (w3.heap.size + 1 + 1 + 1 + 1) xO := Box.below HOxO4.out hbd (Box.lt HOxO4.out)
  have hOyOb : OpAtB w4.drew (w3.heap.size + 1 + 1 + 1 + 1 + 1) yO := Box.below HOyO4.out hbd (Box.lt HOyO4.out)
  have hOtOb : OpAtB w4.drew (w3.heap.size + 1 + 1 + 1 + 1 + 1 + 1) tO := Box.below HOtO4.out hbd (Box.lt HOtO4.out)
  have hRTb : RangesIn w4.drew := HRT4.out.next hbd
  have HBD := Lib.hid hbd
  clear hbd
  have HFS := Lib.hid (And.intro hRrb ( And.intro hHrb ( And.intro hOcropb ( And.intro hOacrossb ( And.intro hObelwb ( And.intro hOturnedb ( And.intro hOxOb ( And.intro hOyOb ( And.intro hOtOb (hRTb))))))))))
  clear hRrb hHrb hOcropb hOacrossb hObelwb hOturnedb hOxOb hOyOb hOtOb hRTb
  obtain ⟨hRrb, hHrb, hOcropb, hOacrossb, hObelwb, hOturnedb, hOxOb, hOyOb, hOtOb, hRTb⟩ := HFS.out
  clear HFS
  refine wp_region_kd 150 [106, 107, 108, 109, 110, 111, 112, 113, 114, 115, 116, 117, 118, 119, 120, 121, 122, 123, 124, 125, 126, 127, 128, 129, 130, 131, 132, 133, 134, 135, 136, 137, 138, 139, 140, 141, 142, 143, 144, 145, 146, 147, 148, 149, 4] [(106, .ras r), (107, .is ((cO (a : Int) (b : Int) (cc : Int) (dd : Int)).v)), (108, .ops [(cO (a : Int) (b : Int) (cc : Int) (dd : Int))]), (109, .ras (eaR r [(cO (a : Int) (b : Int) (cc : Int) (dd : Int))])), (110, .is (.bool true)), (111, .is (.bool true)), (112, .ras r), (113, .is ((cO (a : Int) (b : Int) (cc : Int) (dd : Int)).v)), (114, .is (xO.v)), (115, .ops [(cO (a : Int) (b : Int) (cc : Int) (dd : Int)), xO]), (116, .ras (eaR r [(cO (a : Int) (b : Int) (cc : Int) (dd : Int)), xO])), (117, .ras r), (118, .is (xO.v)), (119, .is ((cO (e1 : Int) (b : Int) (cc : Int) (dd : Int)).v)), (120, .ops [xO, (cO (e1 : Int) (b : Int) (cc : Int) (dd : Int))]), (121, .ras (eaR r [xO, (cO (e1 : Int) (b : Int) (cc : Int) (dd : Int))])), (122, .is (.bool true)), (123, .is (.bool true)), (124, .is (.bool true)), (125, .ras r), (126, .is ((cO (a : Int) (b : Int) (cc : Int) (dd : Int)).v)), (127, .is (yO.v)), (128, .ops [(cO (a : Int) (b : Int) (cc : Int) (dd : Int)), yO]), (129, .ras (eaR r [(cO (a : Int) (b : Int) (cc : Int) (dd : Int)), yO])), (130, .ras r), (131, .is (yO.v)), (132, .is ((cO (a : Int) (e2 : Int) (cc : Int) (dd : Int)).v)), (133, .ops [yO, (cO (a : Int) (e2 : Int) (cc : Int) (dd : Int))]), (134, .ras (eaR r [yO, (cO (a : Int) (e2 : Int) (cc : Int) (dd : Int))])), (135, .is (.bool true)), (136, .is (.bool true)), (137, .is (.bool true)), (138, .ras r), (139, .is ((cO (a : Int) (b : Int) (cc : Int) (dd : Int)).v)), (140, .is (tO.v)), (141, .ops [(cO (a : Int) (b : Int) (cc : Int) (dd : Int)), tO]), (142, .ras (eaR r [(cO (a : Int) (b : Int) (cc : Int) (dd : Int)), tO])), (143, .ras r), (144, .is (tO.v)), (145, .is ((cO (e2 : Int) (a : Int) (dd : Int) (cc : Int)).v)), (146, .ops [tO, (cO (e2 : Int) (a : Int) (dd : Int) (cc : Int))]), (147, .ras (eaR r [tO, (cO (e2 : Int) (a : Int) (dd : Int) (cc : Int))])), (148, .is (.bool true)), (149, .is (.bool true)), (4, .is (.bool true))] (Below w4.drew.heap.size w4.drew) (by kernel_rfl) (by kernel_rfl) rfl rfl (by decide) (by decide) rfl rfl (Below.refl _ _) ?_ ?_
  · intro i o V w ho hS hV hd
    have hi : i < 45 := (Array.getElem?_eq_some_iff.1 ho).1
    have hi2 : i = 0 ∨ i = 1 ∨ i = 2 ∨ i = 3 ∨ i = 4 ∨ i = 5 ∨ i = 6 ∨ i = 7 ∨ i = 8 ∨ i = 9 ∨ i = 10 ∨ i = 11 ∨ i = 12 ∨ i = 13 ∨ i = 14 ∨ i = 15 ∨ i = 16 ∨ i = 17 ∨ i = 18 ∨ i = 19 ∨ i = 20 ∨ i = 21 ∨ i = 22 ∨ i = 23 ∨ i = 24 ∨ i = 25 ∨ i = 26 ∨ i = 27 ∨ i = 28 ∨ i = 29 ∨ i = 30 ∨ i = 31 ∨ i = 32 ∨ i = 33 ∨ i = 34 ∨ i = 35 ∨ i = 36 ∨ i = 37 ∨ i = 38 ∨ i = 39 ∨ i = 40 ∨ i = 41 ∨ i = 42 ∨ i = 43 ∨ i = 44 := by omega
    clear hi
    rcases hi2 with rfl | rfl | rfl | rfl | rfl | rfl | rfl | rfl | rfl | rfl | rfl | rfl | rfl | rfl | rfl | rfl | rfl | rfl | rfl | rfl | rfl | rfl | rfl | rfl | rfl | rfl | rfl | rfl | rfl | rfl | rfl | rfl | rfl | rfl | rfl | rfl | rfl | rfl | rfl | rfl | rfl | rfl | rfl | rfl | rfl
    · obtain rfl : _ = o := Option.some.inj ((show _ = some _ from rfl).symm.trans ho)
      have x5 : V 5 = .pointer (some ⟨w1.heap.size, 0, none⟩) := (hV 5 (by simp)).trans rfl
      refine ⟨fun _ => ?_, fun hw => absurd (show true = false from hw) (by decide)⟩
      · exact yield_ras rfl ((frame_eval V (by decide)).trans x5) hRrb hc1 hHrb hS
    · obtain rfl : _ = o := Option.some.inj ((show _ = some _ from rfl).symm.trans ho)
      have x12 : V 12 = .pointer (some ⟨w3.heap.size, 0, none⟩) := (hV 12 (by simp)).trans rfl
      refine ⟨fun _ => ?_, fun hw => absurd (show true = false from hw) (by decide)⟩
      · exact yield_op rfl ((frame_eval V (by decide)).trans x12) hOcropb hS
    · obtain rfl : _ = o := Option.some.inj ((show _ = some _ from rfl).symm.trans ho)
      have d1 : V 107 = (cO (a : Int) (b : Int) (cc : Int) (dd : Int)).v := hd ⟨1, .data⟩ (by simp) rfl
      refine ⟨fun _ => ?_, fun hw => absurd (show true = false from hw) (by decide)⟩
      · exact yield_ops1 rfl ((frame_eval V (by decide)).trans d1) hS
    · obtain rfl : _ = o := Option.some.inj ((show _ = some _ from rfl).symm.trans ho)
      have d0 : IsRa r w (V 106) := hd ⟨0, .data⟩ (by simp) rfl
      have d2 : IsOps [(cO (a : Int) (b : Int) (cc : Int) (dd : Int))] w (V 108) := hd ⟨2, .data⟩ (by simp) rfl
      refine ⟨fun _ => ?_, fun hw => absurd (show true = false from hw) (by decide)⟩
      · exact yield_eaDo rfl (frame_eval V (by decide)) (frame_eval V (by decide)) d0 d2 HOK.out HKK.out.1 (by simp) hRTb hS
    · obtain rfl : _ = o := Option.some.inj ((show _ = some _ from rfl).symm.trans ho)
      have d3 : IsRa (eaR r [(cO (a : Int) (b : Int) (cc : Int) (dd : Int))]) w (V 109) := hd ⟨3, .data⟩ (by simp) rfl
      refine ⟨fun _ => ?_, fun hw => absurd (show true = false from hw) (by decide)⟩
      · exact yield_rasOk rfl (frame_eval V (by decide)) d3 (ea_ok HOK.out HKK.out.1) hS
    · obtain rfl : _ = o := Option.some.inj ((show _ = some _ from rfl).symm.trans ho)
      have d4 : V 110 = .bool true := hd ⟨4, .data⟩ (by simp) rfl
      refine ⟨fun _ => ?_, fun hw => absurd (show true = false from hw) (by decide)⟩
      · exact yield_copy (.inl rfl) ((frame_eval V (by decide)).trans d4) hS
    · obtain rfl : _ = o := Option.some.inj ((show _ = some _ from rfl).symm.trans ho)
      have x5 : V 5 = .pointer (some ⟨w1.heap.size, 0, none⟩) := (hV 5 (by simp)).trans rfl
      have gd : V 111 = .bool true := hd ⟨5, .guard⟩ (by simp) rfl
      refine ⟨fun _ => ?_, fun hw => absurd ((wanted_of rfl rfl (by decide) gd).symm.trans hw) (by decide)⟩
      · exact yield_ras rfl ((frame_eval V (by decide)).trans x5) hRrb hc1 hHrb hS
    · obtain rfl : _ = o := Option.some.inj ((show _ = some _ from rfl).symm.trans ho)
      have x12 : V 12 = .pointer (some ⟨w3.heap.size, 0, none⟩) := (hV 12 (by simp)).trans rfl
      have gd : V 111 = .bool true := hd ⟨5, .guard⟩ (by simp) rfl
      refine ⟨fun _ => ?_, fun hw => absurd ((wanted_of rfl rfl (by decide) gd).symm.trans hw) (by decide)⟩
      · exact yield_op rfl ((frame_eval V (by decide)).trans x12) hOcropb hS
    · obtain rfl : _ = o := Option.some.inj ((show _ = some _ from rfl).symm.trans ho)
      have x16 : V 16 = .pointer (some ⟨w3.heap.size + 1 + 1 + 1 + 1, 0, none⟩) := (hV 16 (by simp)).trans rfl
      have gd : V 111 = .bool true := hd ⟨5, .guard⟩ (by simp) rfl
      refine ⟨fun _ => ?_, fun hw => absurd ((wanted_of rfl rfl (by decide) gd).symm.trans hw) (by decide)⟩
      · exact yield_op rfl ((frame_eval V (by decide)).trans x16) hOxOb hS
    · obtain rfl : _ = o := Option.some.inj ((show _ = some _ from rfl).symm.trans ho)
      have d7 : V 113 = (cO (a : Int) (b : Int) (cc : Int) (dd : Int)).v := hd ⟨7, .data⟩ (by simp) rfl
      have d8 : V 114 = xO.v := hd ⟨8, .data⟩ (by simp) rfl
      have gd : V 111 = .bool true := hd ⟨5, .guard⟩ (by simp) rfl
      refine ⟨fun _ => ?_, fun hw => absurd ((wanted_of rfl rfl (by decide) gd).symm.trans hw) (by decide)⟩
      · exact yield_ops2 rfl ((frame_eval V (by decide)).trans d7) ((frame_eval V (by decide)).trans d8) hS
    · obtain rfl : _ = o := Option.some.inj ((show _ = some _ from rfl).symm.trans ho)
      have d6 : IsRa r w (V 112) := hd ⟨6, .data⟩ (by simp) rfl
      have d9 : IsOps [(cO (a : Int) (b : Int) (cc : Int) (dd : Int)), xO] w (V 115) := hd ⟨9, .data⟩ (by simp) rfl
      have gd : V 111 = .bool true := hd ⟨5, .guard⟩ (by simp) rfl
      refine ⟨fun _ => ?_, fun hw => absurd ((wanted_of rfl rfl (by decide) gd).symm.trans hw) (by decide)⟩
      · exact yield_eaDo rfl (frame_eval V (by decide)) (frame_eval V (by decide)) d6 d9 HOK.out HKK.out.2.1 (by simp) hRTb hS
    · obtain rfl : _ = o := Option.some.inj ((show _ = some _ from rfl).symm.trans ho)
      have x5 : V 5 = .pointer (some ⟨w1.heap.size, 0, none⟩) := (hV 5 (by simp)).trans rfl
      have gd : V 111 = .bool true := hd ⟨5, .guard⟩ (by simp) rfl
      refine ⟨fun _ => ?_, fun hw => absurd ((wanted_of rfl rfl (by decide) gd).symm.trans hw) (by decide)⟩
      · exact yield_ras rfl ((frame_eval V (by decide)).trans x5) hRrb hc1 hHrb hS
    · obtain rfl : _ = o := Option.some.inj ((show _ = some _ from rfl).symm.trans ho)
      have x16 : V 16 = .pointer (some ⟨w3.heap.size + 1 + 1 + 1 + 1, 0, none⟩) := (hV 16 (by simp)).trans rfl
      have gd : V 111 = .bool true := hd ⟨5, .guard⟩ (by simp) rfl
      refine ⟨fun _ => ?_, fun hw => absurd ((wanted_of rfl rfl (by decide) gd).symm.trans hw) (by decide)⟩
      · exact yield_op rfl ((frame_eval V (by decide)).trans x16) hOxOb hS
    · obtain rfl : _ = o := Option.some.inj ((show _ = some _ from rfl).symm.trans ho)
      have x13 : V 13 = .pointer (some ⟨w3.heap.size + 1, 0, none⟩) := (hV 13 (by simp)).trans rfl
      have gd : V 111 = .bool true := hd ⟨5, .guard⟩ (by simp) rfl
      refine ⟨fun _ => ?_, fun hw => absurd ((wanted_of rfl rfl (by decide) gd).symm.trans hw) (by decide)⟩
      · exact yield_op rfl ((frame_eval V (by decide)).trans x13) hOacrossb hS
    · obtain rfl : _ = o := Option.some.inj ((show _ = some _ from rfl).symm.trans ho)
      have d12 : V 118 = xO.v := hd ⟨12, .data⟩ (by simp) rfl
      have d13 : V 119 = (cO (e1 : Int) (b : Int) (cc : Int) (dd : Int)).v := hd ⟨13, .data⟩ (by simp) rfl
      have gd : V 111 = .bool true := hd ⟨5, .guard⟩ (by simp) rfl
      refine ⟨fun _ => ?_, fun hw => absurd ((wanted_of rfl rfl (by decide) gd).symm.trans hw) (by decide)⟩
      · exact yield_ops2 rfl ((frame_eval V (by decide)).trans d12) ((frame_eval V (by decide)).trans d13) hS
    · obtain rfl : _ = o := Option.some.inj ((show _ = some _ from rfl).symm.trans ho)
      have d11 : IsRa r w (V 117) := hd ⟨11, .data⟩ (by simp) rfl
      have d14 : IsOps [xO, (cO (e1 : Int) (b : Int) (cc : Int) (dd : Int))] w (V 120) := hd ⟨14, .data⟩ (by simp) rfl
      have gd : V 111 = .bool true := hd ⟨5, .guard⟩ (by simp) rfl
      refine ⟨fun _ => ?_, fun hw => absurd ((wanted_of rfl rfl (by decide) gd).symm.trans hw) (by decide)⟩
      · exact yield_eaDo rfl (frame_eval V (by decide)) (frame_eval V (by decide)) d11 d14 HOK.out HKK.out.2.2.1 (by simp) hRTb hS
    · obtain rfl : _ = o := Option.some.inj ((show _ = some _ from rfl).symm.trans ho)
      have d10 : IsRa (eaR r [(cO (a : Int) (b : Int) (cc : Int) (dd : Int)), xO]) w (V 116) := hd ⟨10, .data⟩ (by simp) rfl
      have d15 : IsRa (eaR r [xO, (cO (e1 : Int) (b : Int) (cc : Int) (dd : Int))]) w (V 121) := hd ⟨15, .data⟩ (by simp) rfl
      have gd : V 111 = .bool true := hd ⟨5, .guard⟩ (by simp) rfl
      refine ⟨fun _ => ?_, fun hw => absurd ((wanted_of rfl rfl (by decide) gd).symm.trans hw) (by decide)⟩
      · exact yield_eaRas rfl (frame_eval V (by decide)) (frame_eval V (by decide)) d10 d15 (ea_ok HOK.out HKK.out.2.1) HKK.out.2.2.2.2.2.2.2.1 hS
    · obtain rfl : _ = o := Option.some.inj ((show _ = some _ from rfl).symm.trans ho)
      have d5 : V 111 = .bool true := hd ⟨5, .data⟩ (by simp) rfl
      have d16 : V 122 = .bool true := hd ⟨16, .data⟩ (by simp) rfl
      refine ⟨fun _ => ?_, fun hw => absurd (show true = false from hw) (by decide)⟩
      · exact yield_pick rfl ((frame_eval V (by decide)).trans d5) ((frame_eval V (by decide)).trans d16) hS
    · obtain rfl : _ = o := Option.some.inj ((show _ = some _ from rfl).symm.trans ho)
      have d17 : V 123 = .bool true := hd ⟨17, .data⟩ (by simp) rfl
      refine ⟨fun _ => ?_, fun hw => absurd (show true = false from hw) (by decide)⟩
      · exact yield_copy (.inl rfl) ((frame_eval V (by decide)).trans d17) hS
    · obtain rfl : _ = o := Option.some.inj ((show _ = some _ from rfl).symm.trans ho)
      have x5 : V 5 = .pointer (some ⟨w1.heap.size, 0, none⟩) := (hV 5 (by simp)).trans rfl
      have gd : V 124 = .bool true := hd ⟨18, .guard⟩ (by simp) rfl
      refine ⟨fun _ => ?_, fun hw => absurd ((wanted_of rfl rfl (by decide) gd).symm.trans hw) (by decide)⟩
      · exact yield_ras rfl ((frame_eval V (by decide)).trans x5) hRrb hc1 hHrb hS
    · obtain rfl : _ = o := Option.some.inj ((show _ = some _ from rfl).symm.trans ho)
      have x12 : V 12 = .pointer (some ⟨w3.heap.size, 0, none⟩) := (hV 12 (by simp)).trans rfl
      have gd : V 124 = .bool true := hd ⟨18, .guard⟩ (by simp) rfl
      refine ⟨fun _ => ?_, fun hw => absurd ((wanted_of rfl rfl (by decide) gd).symm.trans hw) (by decide)⟩
      · exact yield_op rfl ((frame_eval V (by decide)).trans x12) hOcropb hS
    · obtain rfl : _ = o := Option.some.inj ((show _ = some _ from rfl).symm.trans ho)
      have x17 : V 17 = .pointer (some ⟨w3.heap.size + 1 + 1 + 1 + 1 + 1, 0, none⟩) := (hV 17 (by simp)).trans rfl
      have gd : V 124 = .bool true := hd ⟨18, .guard⟩ (by simp) rfl
      refine ⟨fun _ => ?_, fun hw => absurd ((wanted_of rfl rfl (by decide) gd).symm.trans hw) (by decide)⟩
      · exact yield_op rfl ((frame_eval V (by decide)).trans x17) hOyOb hS
    · obtain rfl : _ = o := Option.some.inj ((show _ = some _ from rfl).symm.trans ho)
      have d20 : V 126 = (cO (a : Int) (b : Int) (cc : Int) (dd : Int)).v := hd ⟨20, .data⟩ (by simp) rfl
      have d21 : V 127 = yO.v := hd ⟨21, .data⟩ (by simp) rfl
      have gd : V 124 = .bool true := hd ⟨18, .guard⟩ (by simp) rfl
      refine ⟨fun _ => ?_, fun hw => absurd ((wanted_of rfl rfl (by decide) gd).symm.trans hw) (by decide)⟩
      · exact yield_ops2 rfl ((frame_eval V (by decide)).trans d20) ((frame_eval V (by decide)).trans d21) hS
    · obtain rfl : _ = o := Option.some.inj ((show _ = some _ from rfl).symm.trans ho)
      have d19 : IsRa r w (V 125) := hd ⟨19, .data⟩ (by simp) rfl
      have d22 : IsOps [(cO (a : Int) (b : Int) (cc : Int) (dd : Int)), yO] w (V 128) := hd ⟨22, .data⟩ (by simp) rfl
      have gd : V 124 = .bool true := hd ⟨18, .guard⟩ (by simp) rfl
      refine ⟨fun _ => ?_, fun hw => absurd ((wanted_of rfl rfl (by decide) gd).symm.trans hw) (by decide)⟩
      · exact yield_eaDo rfl (frame_eval V (by decide)) (frame_eval V (by decide)) d19 d22 HOK.out HKK.out.2.2.2.1 (by simp) hRTb hS
    · obtain rfl : _ = o := Option.some.inj ((show _ = some _ from rfl).symm.trans ho)
      have x5 : V 5 = .pointer (some ⟨w1.heap.size, 0, none⟩) := (hV 5 (by simp)).trans rfl
      have gd : V 124 = .bool true := hd ⟨18, .guard⟩ (by simp) rfl
      refine ⟨fun _ => ?_, fun hw => absurd ((wanted_of rfl rfl (by decide) gd).symm.trans hw) (by decide)⟩
      · exact yield_ras rfl ((frame_eval V (by decide)).trans x5) hRrb hc1 hHrb hS
    · obtain rfl : _ = o := Option.some.inj ((show _ = some _ from rfl).symm.trans ho)
      have x17 : V 17 = .pointer (some ⟨w3.heap.size + 1 + 1 + 1 + 1 + 1, 0, none⟩) := (hV 17 (by simp)).trans rfl
      have gd : V 124 = .bool true := hd ⟨18, .guard⟩ (by simp) rfl
      refine ⟨fun _ => ?_, fun hw => absurd ((wanted_of rfl rfl (by decide) gd).symm.trans hw) (by decide)⟩
      · exact yield_op rfl ((frame_eval V (by decide)).trans x17) hOyOb hS
    · obtain rfl : _ = o := Option.some.inj ((show _ = some _ from rfl).symm.trans ho)
      have x14 : V 14 = .pointer (some ⟨w3.heap.size + 1 + 1, 0, none⟩) := (hV 14 (by simp)).trans rfl
      have gd : V 124 = .bool true := hd ⟨18, .guard⟩ (by simp) rfl
      refine ⟨fun _ => ?_, fun hw => absurd ((wanted_of rfl rfl (by decide) gd).symm.trans hw) (by decide)⟩
      · exact yield_op rfl ((frame_eval V (by decide)).trans x14) hObelwb hS
    · obtain rfl : _ = o := Option.some.inj ((show _ = some _ from rfl).symm.trans ho)
      have d25 : V 131 = yO.v := hd ⟨25, .data⟩ (by simp) rfl
      have d26 : V 132 = (cO (a : Int) (e2 : Int) (cc : Int) (dd : Int)).v := hd ⟨26, .data⟩ (by simp) rfl
      have gd : V 124 = .bool true := hd ⟨18, .guard⟩ (by simp) rfl
      refine ⟨fun _ => ?_, fun hw => absurd ((wanted_of rfl rfl (by decide) gd).symm.trans hw) (by decide)⟩
      · exact yield_ops2 rfl ((frame_eval V (by decide)).trans d25) ((frame_eval V (by decide)).trans d26) hS
    · obtain rfl : _ = o := Option.some.inj ((show _ = some _ from rfl).symm.trans ho)
      have d24 : IsRa r w (V 130) := hd ⟨24, .data⟩ (by simp) rfl
      have d27 : IsOps [yO, (cO (a : Int) (e2 : Int) (cc : Int) (dd : Int))] w (V 133) := hd ⟨27, .data⟩ (by simp) rfl
      have gd : V 124 = .bool true := hd ⟨18, .guard⟩ (by simp) rfl
      refine ⟨fun _ => ?_, fun hw => absurd ((wanted_of rfl rfl (by decide) gd).symm.trans hw) (by decide)⟩
      · exact yield_eaDo rfl (frame_eval V (by decide)) (frame_eval V (by decide)) d24 d27 HOK.out HKK.out.2.2.2.2.1 (by simp) hRTb hS
    · obtain rfl : _ = o := Option.some.inj ((show _ = some _ from rfl).symm.trans ho)
      have d23 : IsRa (eaR r [(cO (a : Int) (b : Int) (cc : Int) (dd : Int)), yO]) w (V 129) := hd ⟨23, .data⟩ (by simp) rfl
      have d28 : IsRa (eaR r [yO, (cO (a : Int) (e2 : Int) (cc : Int) (dd : Int))]) w (V 134) := hd ⟨28, .data⟩ (by simp) rfl
      have gd : V 124 = .bool true := hd ⟨18, .guard⟩ (by simp) rfl
      refine ⟨fun _ => ?_, fun hw => absurd ((wanted_of rfl rfl (by decide) gd).symm.trans hw) (by decide)⟩
      · exact yield_eaRas rfl (frame_eval V (by decide)) (frame_eval V (by decide)) d23 d28 (ea_ok HOK.out HKK.out.2.2.2.1) HKK.out.2.2.2.2.2.2.2.2.1 hS
    · obtain rfl : _ = o := Option.some.inj ((show _ = some _ from rfl).symm.trans ho)
      have d18 : V 124 = .bool true := hd ⟨18, .data⟩ (by simp) rfl
      have d29 : V 135 = .bool true := hd ⟨29, .data⟩ (by simp) rfl
      refine ⟨fun _ => ?_, fun hw => absurd (show true = false from hw) (by decide)⟩
      · exact yield_pick rfl ((frame_eval V (by decide)).trans d18) ((frame_eval V (by decide)).trans d29) hS
    · obtain rfl : _ = o := Option.some.inj ((show _ = some _ from rfl).symm.trans ho)
      have d30 : V 136 = .bool true := hd ⟨30, .data⟩ (by simp) rfl
      refine ⟨fun _ => ?_, fun hw => absurd (show true = false from hw) (by decide)⟩
      · exact yield_copy (.inl rfl) ((frame_eval V (by decide)).trans d30) hS
    · obtain rfl : _ = o := Option.some.inj ((show _ = some _ from rfl).symm.trans ho)
      have x5 : V 5 = .pointer (some ⟨w1.heap.size, 0, none⟩) := (hV 5 (by simp)).trans rfl
      have gd : V 137 = .bool true := hd ⟨31, .guard⟩ (by simp) rfl
      refine ⟨fun _ => ?_, fun hw => absurd ((wanted_of rfl rfl (by decide) gd).symm.trans hw) (by decide)⟩
      · exact yield_ras rfl ((frame_eval V (by decide)).trans x5) hRrb hc1 hHrb hS
    · obtain rfl : _ = o := Option.some.inj ((show _ = some _ from rfl).symm.trans ho)
      have x12 : V 12 = .pointer (some ⟨w3.heap.size, 0, none⟩) := (hV 12 (by simp)).trans rfl
      have gd : V 137 = .bool true := hd ⟨31, .guard⟩ (by simp) rfl
      refine ⟨fun _ => ?_, fun hw => absurd ((wanted_of rfl rfl (by decide) gd).symm.trans hw) (by decide)⟩
      · exact yield_op rfl ((frame_eval V (by decide)).trans x12) hOcropb hS
    · obtain rfl : _ = o := Option.some.inj ((show _ = some _ from rfl).symm.trans ho)
      have x18 : V 18 = .pointer (some ⟨w3.heap.size + 1 + 1 + 1 + 1 + 1 + 1, 0, none⟩) := (hV 18 (by simp)).trans rfl
      have gd : V 137 = .bool true := hd ⟨31, .guard⟩ (by simp) rfl
      refine ⟨fun _ => ?_, fun hw => absurd ((wanted_of rfl rfl (by decide) gd).symm.trans hw) (by decide)⟩
      · exact yield_op rfl ((frame_eval V (by decide)).trans x18) hOtOb hS
    · obtain rfl : _ = o := Option.some.inj ((show _ = some _ from rfl).symm.trans ho)
      have d33 : V 139 = (cO (a : Int) (b : Int) (cc : Int) (dd : Int)).v := hd ⟨33, .data⟩ (by simp) rfl
      have d34 : V 140 = tO.v := hd ⟨34, .data⟩ (by simp) rfl
      have gd : V 137 = .bool true := hd ⟨31, .guard⟩ (by simp) rfl
      refine ⟨fun _ => ?_, fun hw => absurd ((wanted_of rfl rfl (by decide) gd).symm.trans hw) (by decide)⟩
      · exact yield_ops2 rfl ((frame_eval V (by decide)).trans d33) ((frame_eval V (by decide)).trans d34) hS
    · obtain rfl : _ = o := Option.some.inj ((show _ = some _ from rfl).symm.trans ho)
      have d32 : IsRa r w (V 138) := hd ⟨32, .data⟩ (by simp) rfl
      have d35 : IsOps [(cO (a : Int) (b : Int) (cc : Int) (dd : Int)), tO] w (V 141) := hd ⟨35, .data⟩ (by simp) rfl
      have gd : V 137 = .bool true := hd ⟨31, .guard⟩ (by simp) rfl
      refine ⟨fun _ => ?_, fun hw => absurd ((wanted_of rfl rfl (by decide) gd).symm.trans hw) (by decide)⟩
      · exact yield_eaDo rfl (frame_eval V (by decide)) (frame_eval V (by decide)) d32 d35 HOK.out HKK.out.2.2.2.2.2.1 (by simp) hRTb hS
    · obtain rfl : _ = o := Option.some.inj ((show _ = some _ from rfl).symm.trans ho)
      have x5 : V 5 = .pointer (some ⟨w1.heap.size, 0, none⟩) := (hV 5 (by simp)).trans rfl
      have gd : V 137 = .bool true := hd ⟨31, .guard⟩ (by simp) rfl
      refine ⟨fun _ => ?_, fun hw => absurd ((wanted_of rfl rfl (by decide) gd).symm.trans hw) (by decide)⟩
      · exact yield_ras rfl ((frame_eval V (by decide)).trans x5) hRrb hc1 hHrb hS
    · obtain rfl : _ = o := Option.some.inj ((show _ = some _ from rfl).symm.trans ho)
      have x18 : V 18 = .pointer (some ⟨w3.heap.size + 1 + 1 + 1 + 1 + 1 + 1, 0, none⟩) := (hV 18 (by simp)).trans rfl
      have gd : V 137 = .bool true := hd ⟨31, .guard⟩ (by simp) rfl
      refine ⟨fun _ => ?_, fun hw => absurd ((wanted_of rfl rfl (by decide) gd).symm.trans hw) (by decide)⟩
      · exact yield_op rfl ((frame_eval V (by decide)).trans x18) hOtOb hS
    · obtain rfl : _ = o := Option.some.inj ((show _ = some _ from rfl).symm.trans ho)
      have x15 : V 15 = .pointer (some ⟨w3.heap.size + 1 + 1 + 1, 0, none⟩) := (hV 15 (by simp)).trans rfl
      have gd : V 137 = .bool true := hd ⟨31, .guard⟩ (by simp) rfl
      refine ⟨fun _ => ?_, fun hw => absurd ((wanted_of rfl rfl (by decide) gd).symm.trans hw) (by decide)⟩
      · exact yield_op rfl ((frame_eval V (by decide)).trans x15) hOturnedb hS
    · obtain rfl : _ = o := Option.some.inj ((show _ = some _ from rfl).symm.trans ho)
      have d38 : V 144 = tO.v := hd ⟨38, .data⟩ (by simp) rfl
      have d39 : V 145 = (cO (e2 : Int) (a : Int) (dd : Int) (cc : Int)).v := hd ⟨39, .data⟩ (by simp) rfl
      have gd : V 137 = .bool true := hd ⟨31, .guard⟩ (by simp) rfl
      refine ⟨fun _ => ?_, fun hw => absurd ((wanted_of rfl rfl (by decide) gd).symm.trans hw) (by decide)⟩
      · exact yield_ops2 rfl ((frame_eval V (by decide)).trans d38) ((frame_eval V (by decide)).trans d39) hS
    · obtain rfl : _ = o := Option.some.inj ((show _ = some _ from rfl).symm.trans ho)
      have d37 : IsRa r w (V 143) := hd ⟨37, .data⟩ (by simp) rfl
      have d40 : IsOps [tO, (cO (e2 : Int) (a : Int) (dd : Int) (cc : Int))] w (V 146) := hd ⟨40, .data⟩ (by simp) rfl
      have gd : V 137 = .bool true := hd ⟨31, .guard⟩ (by simp) rfl
      refine ⟨fun _ => ?_, fun hw => absurd ((wanted_of rfl rfl (by decide) gd).symm.trans hw) (by decide)⟩
      · exact yield_eaDo rfl (frame_eval V (by decide)) (frame_eval V (by decide)) d37 d40 HOK.out HKK.out.2.2.2.2.2.2.1 (by simp) hRTb hS
    · obtain rfl : _ = o := Option.some.inj ((show _ = some _ from rfl).symm.trans ho)
      have d36 : IsRa (eaR r [(cO (a : Int) (b : Int) (cc : Int) (dd : Int)), tO]) w (V 142) := hd ⟨36, .data⟩ (by simp) rfl
      have d41 : IsRa (eaR r [tO, (cO (e2 : Int) (a : Int) (dd : Int) (cc : Int))]) w (V 147) := hd ⟨41, .data⟩ (by simp) rfl
      have gd : V 137 = .bool true := hd ⟨31, .guard⟩ (by simp) rfl
      refine ⟨fun _ => ?_, fun hw => absurd ((wanted_of rfl rfl (by decide) gd).symm.trans hw) (by decide)⟩
      · exact yield_eaRas rfl (frame_eval V (by decide)) (frame_eval V (by decide)) d36 d41 (ea_ok HOK.out HKK.out.2.2.2.2.2.1) HKK.out.2.2.2.2.2.2.2.2.2 hS
    · obtain rfl : _ = o := Option.some.inj ((show _ = some _ from rfl).symm.trans ho)
      have d31 : V 137 = .bool true := hd ⟨31, .data⟩ (by simp) rfl
      have d42 : V 148 = .bool true := hd ⟨42, .data⟩ (by simp) rfl
      refine ⟨fun _ => ?_, fun hw => absurd (show true = false from hw) (by decide)⟩
      · exact yield_pick rfl ((frame_eval V (by decide)).trans d31) ((frame_eval V (by decide)).trans d42) hS
    · obtain rfl : _ = o := Option.some.inj ((show _ = some _ from rfl).symm.trans ho)
      have d43 : V 149 = .bool true := hd ⟨43, .data⟩ (by simp) rfl
      refine ⟨fun _ => ?_, fun hw => absurd (show true = false from hw) (by decide)⟩
      · exact yield_copy (.inr rfl) ((frame_eval V (by decide)).trans d43) hS
  · intro V wx hS hV hall
    have dl : V 4 = .bool true := hall 44 (by decide)
    rw [frame_all (n := 150) (D := [106, 107, 108, 109, 110, 111, 112, 113, 114, 115, 116, 117, 118, 119, 120, 121, 122, 123, 124, 125, 126, 127, 128, 129, 130, 131, 132, 133, 134, 135, 136, 137, 138, 139, 140, 141, 142, 143, 144, 145, 146, 147, 148, 149, 4]) rfl rfl (by decide) hV]
    simp only [List.foldl_cons, List.foldl_nil, Act.put, List.setIfInBounds_toArray, List.set_cons_zero, List.set_cons_succ]
    rw [dl]
    have HE := Lib.hid (HB4.out.trans ((HBD.out.trans (hS.mono HBD.out.size)).mono HB4.out.size))
    clear hall hV dl hS hRrb hHrb hOcropb hOacrossb hObelwb hOturnedb hOxOb hOyOb hOtOb hRTb 
    go_wp2_with fail
    go_ret
    exact ⟨rfl, HE.out⟩
theorem fnOpCropFlip_walk (A : Option Addr) (c : Nat) (l : List UInt8) (A2 : Option Addr) (c2 : Nat) (l2 : List UInt8) (w : World) (hR : RangesIn w) (h : Has w w.heap.size A l) (hc : l.length ≤ c) (_ : Has w w.heap.size A2 l2) (_ : l2.length ≤ c2) :
    Calls Tryd.prog 12 #[.slice A l.length c, .slice A2 l2.length c2] w fun e w' => e = .returned (.bool true) ∧ Below w.heap.size w w' := by
  by_cases hbig : l.length ≤ 1048576
  · by_cases hbig2 : l2.length ≤ 1048576
    · exact fnOpCropFlip_small A c l A2 c2 l2 w hR h hc hbig hbig2
    · have hl0 : ¬ ((1048576 : Int) < (l.length : Int)) := by omega
      have hl2 : (1048576 : Int) < (l2.length : Int) := by omega
      clear h hc hbig hbig2
      go_enter Tryd.func12, Tryd.ntmps12
      go_wp2_with fail
      go_ret
      exact ⟨rfl, Below.refl _ _⟩
  · have hl0 : (1048576 : Int) < (l.length : Int) := by omega
    clear h hc hbig
    go_enter Tryd.func12, Tryd.ntmps12
    go_wp2_with fail
    go_ret
    exact ⟨rfl, Below.refl _ _⟩
end Go.Proofs.YthdggnfffebnlaaDoor
