/-
  The law FnExactOpsFold returns true for every list of operations. Condition: the table of ranges reads as the program's text lays it.
-/
import Derived.Test.YtiemlakjallphabDoorRanL
import Derived.Test.YtiemlakjallphabDoorOpIn
import Derived.Test.YtiemlakjallphabDoorOpH
import Derived.Test.YtiemlakjallphabDoorFoldN
namespace Go.Proofs.YtiemlakjallphabDoor
set_option maxRecDepth 4000
open Go.RowKit

set_option maxHeartbeats 4000000 in
theorem fnExactOpsFold_walk (L : Option Addr) (lc : Nat) (ls : List Op) (w : World) (hR : RangesIn w) (hl : opL.Has w w.heap.size L ls) (hlm : ls.length ≤ maxLen) (_ : ls.length ≤ lc) :
    Calls Tryd.prog 4 #[.slice L ls.length lc] w fun e w' => e = .returned (.bool true) ∧ Below w.heap.size w w' := by
  have CZ := szOpOpS_any L ls.length lc 1048576 w (by omega) hlm
  obtain ⟨N, hN⟩ : ∃ N, ls.length = N := ⟨_, rfl⟩
  have HN := Lib.hid hN
  have HR := Lib.hid fun u (hb : Below w.heap.size w u) => hR.below hb hR.1
  have HL := Lib.hid fun u (hb : Below w.heap.size w u) => (hl.below hb).wider hb.size
  by_cases hs : N ≤ 1048576
  case neg =>
    rw [hN] at CZ ⊢
    rw [if_neg (by omega)] at CZ
    clear hR hl hlm hN
    go_enter Tryd.func4, Tryd.ntmps4
    go_wp2_with fail
    refine CZ.mono ?_
    rintro e w1 ⟨rfl, rfl⟩
    clear CZ
    go_wp2_with fail
    go_ret
    exact ⟨rfl, Below.refl _ _⟩
  obtain ⟨f, hf⟩ : ∃ f, opsFold ls = f := ⟨_, rfl⟩
  obtain ⟨M, hM⟩ : ∃ M, f.length = M := ⟨_, rfl⟩
  have hMN : M ≤ N := by rw [← hM, ← hf, ← hN]; exact opsFold_le ls
  have HM := Lib.hid hM
  have CT : Hid (∀ u, Below w.heap.size w u → Calls Tryd.prog 14 #[.slice L N lc] u fun e w' => e = .returned (.slice (some ⟨u.heap.size, 0, none⟩) N N) ∧ opE.Own w' u.heap.size (.slice (some ⟨u.heap.size, 0, none⟩) N N) ls ∧ Below u.heap.size u w') := Lib.hid fun u hb => by
    have := toOpOpS_any L lc ls u (by omega) (HL.out u hb)
    rw [hN] at this
    exact this
  have CS : Hid (∀ u A c, opE.Has u u.heap.size A ls → Calls Tryd.prog 21 #[.slice A N c] u (GaveL f u)) := Lib.hid fun u A c h => by
    have := specOpsFold_any A c ls u (by omega) h
    rw [hN, hf] at this
    exact this
  have CI : Hid (∀ u A c, Below w.heap.size w u → opE.Has u u.heap.size A ls → Calls Tryd.prog 22 #[.slice A N c] u (GaveO f u)) := Lib.hid fun u A c hb h => by
    have := implOpsFold_any A c ls u (by omega) (HR.out u hb) h
    rw [hN, hf] at this
    exact this
  have CE : Hid (∀ (u : World) (A A' : Option Addr) (c c' n : Nat) (l : List Op), l.length = n → n ≤ 1048576 → opE.Has u u.heap.size A l → opE.Has u u.heap.size A' l → Calls Tryd.prog 17 #[.slice A n c, .slice A' n c'] u fun e w' => e = .returned (.bool true) ∧ Below u.heap.size u w') := Lib.hid fun u A A' c c' n l hn hm h h' => by
    subst hn
    exact eqOpOpS_same A A' c c' l u (by omega) h h'
  have CM : Hid (∀ (u : World) (base : Nat) (A : Option Addr) (c n : Nat) (l : List Op), l.length = n → n ≤ 1048576 → opE.Own u base (.slice A n c) l → Calls Tryd.prog 19 #[.slice A n c, .int .i64 1] u fun e w' => e = .returned (.int .i64 (1 + 5 * (n : Int))) ∧ opE.Own w' base (.slice A n c) (omarks 1 n) ∧ u.grownBy w' (Value.slice A n c).ownBlock) := Lib.hid fun u base A c n l hn hm h => by
    subst hn
    exact markOpOpS_from A c l base 1 u (by omega) (by omega) h
  have CH : Hid (∀ (u : World) (A : Option Addr) (c n : Nat), n ≤ 1048576 → opE.Has u u.heap.size A (omarks 1 n) → Calls Tryd.prog 23 #[.slice A n c, .int .i64 1] u fun e w' => e = .returned (.int .i64 (1 + 5 * (n : Int))) ∧ u = w') := Lib.hid fun u A c n hn h => heldOpOpS_any A c n u.heap.size u (by omega) h
  rw [hN] at CZ ⊢
  rw [if_pos (by omega)] at CZ
  have hM2 : M ≤ 1048576 := by omega
  have hge : ¬ (1048576 : Int) - (N : Int) < 0 := by omega
  obtain ⟨room, hroom⟩ : ∃ room : Int, (1048576 : Int) - (N : Int) = room := ⟨_, rfl⟩
  rw [hroom] at CZ hge
  have hgm : ¬ (1 + 5 * (N : Int)) < 0 := by omega
  have hgm2 : ¬ (1 + 5 * (M : Int)) < 0 := by omega
  obtain ⟨mN, hmN⟩ : ∃ x : Int, 1 + 5 * (N : Int) = x := ⟨_, rfl⟩
  obtain ⟨mM, hmM⟩ : ∃ x : Int, 1 + 5 * (M : Int) = x := ⟨_, rfl⟩
  have HmN := Lib.hid hmN
  have HmM := Lib.hid hmM
  rw [hmN] at hgm
  rw [hmM] at hgm2
  clear hR hl hlm hN hf hM hMN hroom hmN hmM
  go_enter Tryd.func4, Tryd.ntmps4
  go_wp2_with fail
  refine CZ.mono ?_
  rintro e wz ⟨rfl, rfl⟩
  clear CZ
  go_wp2_with fail
  refine (CT.out _ (Below.refl _ _)).mono ?_
  rintro e w1 ⟨rfl, ho1, b1⟩
  have HB1 := Lib.hid b1
  have HO1 := Lib.hid ho1
  clear b1 ho1
  go_wp2_with fail
  refine (CS.out _ _ _ HO1.out.reads).mono ?_
  rintro e w2 ⟨A2, c2, rfl, hc2, hh2, b2⟩
  rw [HM.out]
  have HW := Lib.hid fun u (hb : Below w2.heap.size w2 u) => (hh2.below hb).wider hb.size
  have HB2 := Lib.hid (HB1.out.trans (b2.mono HB1.out.size))
  clear hc2 hh2 b2
  go_wp2_with fail
  refine (CT.out _ HB2.out).mono ?_
  rintro e w3 ⟨rfl, ho3, b3⟩
  have HO3 := Lib.hid ho3
  have HS3 := Lib.hid (Below.size b3)
  have HB23 := Lib.hid b3
  have HB3 := Lib.hid (HB2.out.trans (b3.mono HB2.out.size))
  clear ho3 b3
  go_wp2_with fail
  refine (CI.out _ _ _ HB3.out HO3.out.reads).mono ?_
  rintro e w4 ⟨A4, c4, n4, hn4, rfl, ho4, b4⟩
  obtain rfl : n4 = M := hn4.trans HM.out
  have HO4 := Lib.hid ho4
  have HB34 := Lib.hid b4
  have HB24 := Lib.hid (HB23.out.trans (b4.mono HB23.out.size))
  have HB4 := Lib.hid (HB3.out.trans (b4.mono HB3.out.size))
  clear ho4 b4 hn4
  go_wp2_with fail
  refine (CE.out _ _ _ _ _ _ f HM.out hM2 HO4.out.reads (HW.out _ HB24.out)).mono ?_
  rintro e w5 ⟨rfl, b5⟩
  have HB35 := Lib.hid (HB34.out.trans (b5.mono HB34.out.size))
  have HB45 := Lib.hid b5
  have HB5 := Lib.hid (HB4.out.trans (b5.mono HB4.out.size))
  clear b5
  go_wp2_with fail
  refine (CT.out _ HB5.out).mono ?_
  rintro e w6 ⟨rfl, ho6, b6⟩
  have HO6 := Lib.hid ho6
  have HB36 := Lib.hid (HB35.out.trans (b6.mono HB35.out.size))
  have HB46 := Lib.hid (HB45.out.trans (b6.mono HB45.out.size))
  have HB6 := Lib.hid (HB5.out.trans (b6.mono HB5.out.size))
  clear ho6 b6
  go_wp2_with fail
  refine (CE.out _ _ _ _ _ _ ls HN.out hs ((HO3.out.below HB36.out (Nat.le_refl _)).reads) HO6.out.reads).mono ?_
  rintro e w7 ⟨rfl, b7⟩
  have HB37 := Lib.hid (HB36.out.trans (b7.mono HB36.out.size))
  have HB47 := Lib.hid (HB46.out.trans (b7.mono HB46.out.size))
  have HB7 := Lib.hid (HB6.out.trans (b7.mono HB6.out.size))
  have HB27 := Lib.hid (HB23.out.trans (HB37.out.mono HB23.out.size))
  have HO37 := Lib.hid (HO3.out.below HB37.out (Nat.le_refl _))
  have HO47 := Lib.hid (HO4.out.below HB47.out (Nat.le_refl _))
  clear b7
  go_wp2_with fail
  refine (CM.out _ _ _ _ _ ls HN.out hs HO37.out).mono ?_
  rintro e w8 ⟨rfl, ho8, g8⟩
  rw [HmN.out]
  have HB78 := Lib.hid (HO37.out.below_grown g8 (Nat.le_refl _) HB27.out.size)
  have HB28 := Lib.hid (HB27.out.trans HB78.out)
  have HB8 := Lib.hid (HB7.out.trans (HB78.out.mono HB2.out.size))
  have HO48 := Lib.hid (HO47.out.low_grown g8 ((World.ownsRow.lt HO3.out _ rfl).2))
  clear ho8 g8
  go_wp2_with fail
  refine (CE.out _ _ _ _ _ _ f HM.out hM2 HO48.out.reads (HW.out _ HB28.out)).mono ?_
  rintro e w9 ⟨rfl, b9⟩
  have HO49 := Lib.hid (HO48.out.below b9 (Nat.le_refl _))
  have HB29 := Lib.hid (HB28.out.trans (b9.mono HB28.out.size))
  have HB9 := Lib.hid (HB8.out.trans (b9.mono HB8.out.size))
  have HS39 := Lib.hid (show w3.heap.size ≤ w9.heap.size from Nat.le_trans HB37.out.size (Nat.le_trans HB78.out.size b9.size))
  clear b9
  go_wp2_with fail
  refine (CM.out _ _ _ _ _ f HM.out hM2 HO49.out).mono ?_
  rintro e w10 ⟨rfl, ho10, g10⟩
  rw [HmM.out]
  have HB910 := Lib.hid (HO49.out.below_grown g10 HS3.out (Nat.le_trans HS3.out HS39.out))
  have HB210 := Lib.hid (HB29.out.trans HB910.out)
  have HB10 := Lib.hid (HB9.out.trans (HB910.out.mono HB2.out.size))
  have HO10 := Lib.hid ho10
  clear ho10 g10
  go_wp2_with fail
  refine (CH.out _ _ _ _ hM2 HO10.out.reads).mono ?_
  rintro e w11 ⟨rfl, rfl⟩
  rw [HmM.out]
  go_wp2_with fail
  refine (CT.out _ HB10.out).mono ?_
  rintro e w12 ⟨rfl, ho12, b12⟩
  have HO12 := Lib.hid ho12
  have HBX := Lib.hid b12
  have HB12 := Lib.hid (HB10.out.trans (b12.mono HB10.out.size))
  have HB212 := Lib.hid (HB210.out.trans (b12.mono HB210.out.size))
  clear ho12 b12
  go_wp2_with fail
  refine (CI.out _ _ _ HB12.out HO12.out.reads).mono ?_
  rintro e w13 ⟨A13, c13, n13, hn13, rfl, ho13, b13⟩
  obtain rfl : n13 = n4 := hn13.trans HM.out
  have HO13 := Lib.hid ho13
  have HBY := Lib.hid (HBX.out.trans (b13.mono HBX.out.size))
  have HB13 := Lib.hid (HB12.out.trans (b13.mono HB12.out.size))
  have HB213 := Lib.hid (HB212.out.trans (b13.mono HB212.out.size))
  clear ho13 b13 hn13
  go_wp2_with fail
  refine (CE.out _ _ _ _ _ _ f HM.out hM2 HO13.out.reads (HW.out _ HB213.out)).mono ?_
  rintro e w14 ⟨rfl, b14⟩
  have HBZ := Lib.hid (HBY.out.trans (b14.mono HBY.out.size))
  have HB14 := Lib.hid (HB13.out.trans (b14.mono HB13.out.size))
  clear b14
  go_wp2_with fail
  refine (CH.out _ _ _ _ hM2 ((HO10.out.below HBZ.out (Nat.le_refl _)).reads)).mono ?_
  rintro e w15 ⟨rfl, rfl⟩
  rw [HmM.out]
  go_wp2_with fail
  go_ret
  exact ⟨rfl, HB14.out⟩
end Go.Proofs.YtiemlakjallphabDoor
