/-
  The law FnPakMore returns true for every list of bytes to draw from. Condition: the four errors are not nil.
-/
import Derived.Test.YtofphjfgaihjhaaDoorPakC
import Derived.Test.YtofphjfgaihjhaaDoorDrawPak
import Derived.Test.YtofphjfgaihjhaaDoorEaB
import Derived.Test.YtofphjfgaihjhaaDoorEaOk
namespace Go.Proofs.YtofphjfgaihjhaaDoor
open Go.RowKit

set_option maxRecDepth 100000 in
set_option maxHeartbeats 4000000 in
theorem fnPakMore_small (A : Option Addr) (c : Nat) (l : List UInt8) (w : World) (he : ErrsA w) (h : Has w w.heap.size A l) (hc : l.length ≤ c) (hs : l.length ≤ 1048576) :
    Calls Tryd.prog 6 #[.slice A l.length c] w fun e w' => e = .returned (.bool true) ∧ Below w.heap.size w w' := by
  have C1 := Lib.hid (drawPakPut_any A c l w (by omega) hc h)
  have HE : Hid (∀ W, Below w.heap.size w W → ErrsA W) := Lib.hid fun W hb => he.below hb
  have hl0 : ¬ ((1048576 : Int) < (l.length : Int)) := by omega
  clear h hs hc he
  go_enter Tryd.func6, Tryd.ntmps6
  go_wp2_with fail
  refine C1.out.mono ?_
  rintro e w1 ⟨A1, c1, l1, rfl, h1, hc1, hl1, B1⟩
  have CI := Lib.hid (putI A1 c1 l1 w1 hl1 hc1 h1 (HE.out _ B1))
  have CS := Lib.hid fun W hh => putS A1 c1 l1 W hl1 hc1 hh
  have hpl := pakPutB_le4 l1
  have HPB := Lib.hid (fun h => pakPutB_big (l := l1) h)
  have HIN := Lib.hid (fun h => pak_inv (l := l1) h)
  unfold Packed at CI CS
  obtain ⟨p, hp⟩ : ∃ p, pakPutB l1 = p := ⟨_, rfl⟩
  rw [hp] at CI CS hpl HIN
  have HL1 := Lib.hid hl1
  have HPL := Lib.hid hpl
  have HP := Lib.hid hp
  clear C1 hp hl1 hpl
  go_wp2_with fail
  refine CI.out.mono ?_
  rintro e w2 ⟨A2, c2, rfl, hc2, h2, b2⟩
  have h12 := h1.carry b2 (Nat.le_refl _) b2.size
  have B2 := B1.trans (b2.mono B1.size)
  clear CI h1 B1 b2
  go_wp2_with fail
  refine (CS.out _ h12).mono ?_
  rintro e w3 ⟨A3, c3, rfl, -, h3, b3⟩
  have h13 := h12.carry b3 (Nat.le_refl _) b3.size
  have h23 := h2.carry b3 (Nat.le_refl _) b3.size
  have B3 := B2.trans (b3.mono B2.size)
  clear CS h12 h2 B2 b3
  go_wp2_with fail
  refine (eaBytes_same _ _ _ _ _ _ p _ h23 h3).mono ?_
  rintro e w' ⟨rfl, rfl⟩
  clear h3
  by_cases hbig : l1.length ≤ 200 ∧ p.length ≤ 200
  · have hb1 : ¬ (200 : Int) < (l1.length : Int) := by omega
    have hb2 : ¬ (200 : Int) < (p.length : Int) := by omega
    have CP := Lib.hid (putI A2 c2 p w3 (by omega) hc2 h23 (HE.out _ B3))
    have hpl2 := pakPutB_le4 p
    have hin2 := pak_inv (l := p) hbig.2
    unfold Packed at CP
    generalize pakPutB p = pp at *
    have CG := Lib.hid fun A c W hh he => getI A c pp W (by omega) hh he
    have CG2 := Lib.hid fun A c W hh he => getI A c p W (by have := HPL.out; omega) hh he
    rw [hin2] at CG
    rw [HIN.out hbig.1] at CG2
    unfold Unpacked at CG CG2
    simp only [Option.getD_some, Option.isSome_some] at CG CG2
    clear hin2 hpl2 hbig HIN HPB HP
    go_wp2_with fail
    refine CP.out.mono ?_
    rintro e w4 ⟨A4, c4, rfl, -, h4, b4⟩
    have h14 := h13.carry b4 (Nat.le_refl _) b4.size
    have h24 := h23.carry b4 (Nat.le_refl _) b4.size
    have B4 := B3.trans (b4.mono B3.size)
    clear CP h13 h23 B3 b4
    go_wp2_with fail
    refine (CG.out _ _ _ h4 (HE.out _ B4)).mono ?_
    rintro e w5 ⟨A5, c5, rfl, -, h5, b5⟩
    have h15 := h14.carry b5 (Nat.le_refl _) b5.size
    have h25 := h24.carry b5 (Nat.le_refl _) b5.size
    have B5 := B4.trans (b5.mono B4.size)
    clear CG h14 h24 B4 b5 h4
    go_wp2_with fail
    refine (CG2.out _ _ _ h5 (HE.out _ B5)).mono ?_
    rintro e w6 ⟨A6, c6, rfl, -, h6, b6⟩
    have h16 := h15.carry b6 (Nat.le_refl _) b6.size
    have h26 := h25.carry b6 (Nat.le_refl _) b6.size
    have h56 := h5.carry b6 (Nat.le_refl _) b6.size
    have B6 := B5.trans (b6.mono B5.size)
    clear CG2 h15 h25 B5 b6 h5
    go_wp2_with fail
    refine (eaBytes_same _ _ _ _ _ _ l1 _ h6 h16).mono ?_
    rintro e w' ⟨rfl, rfl⟩
    go_wp2_with fail
    refine (eaBytes_same _ _ _ _ _ _ p _ h56 h26).mono ?_
    rintro e w' ⟨rfl, rfl⟩
    go_wp2_with fail
    go_ret
    exact ⟨rfl, B6⟩
  · by_cases hb1 : (200 : Int) < (l1.length : Int)
    · clear HIN HPB HP h13 h23
      go_wp2_with fail
      refine (eaOk_any _).mono ?_
      rintro e w5 ⟨rfl, b5⟩
      have HB5 := Lib.hid (B3.trans (b5.mono B3.size))
      clear b5
      go_wp2_with fail
      go_ret
      exact ⟨rfl, HB5.out⟩
    · have hb2 : (200 : Int) < (p.length : Int) := by omega
      clear HIN HPB HP h13 h23
      go_wp2_with fail
      refine (eaOk_any _).mono ?_
      rintro e w5 ⟨rfl, b5⟩
      have HB5 := Lib.hid (B3.trans (b5.mono B3.size))
      clear b5
      go_wp2_with fail
      go_ret
      exact ⟨rfl, HB5.out⟩

set_option maxHeartbeats 400000 in
theorem fnPakMore_walk (A : Option Addr) (c : Nat) (l : List UInt8) (w : World) (he : ErrsA w) (h : Has w w.heap.size A l) (hc : l.length ≤ c) :
    Calls Tryd.prog 6 #[.slice A l.length c] w fun e w' => e = .returned (.bool true) ∧ Below w.heap.size w w' := by
  by_cases hbig : 1048576 < l.length
  · have hb : (1048576 : Int) < (l.length : Int) := by omega
    clear hbig h he
    go_enter Tryd.func6, Tryd.ntmps6
    go_wp2
    go_ret
    exact ⟨rfl, Below.refl _ _⟩
  · exact fnPakMore_small A c l w he h hc (by omega)
end Go.Proofs.YtofphjfgaihjhaaDoor
