/-
  The law FnPakApart returns true for every two lists of bytes to draw from. Condition: the four errors are not nil.
-/
import Derived.Test.YtofphjfgaihjhaaDoorPakC
import Derived.Test.YtofphjfgaihjhaaDoorDrawPak
import Derived.Test.YtofphjfgaihjhaaDoorEaB
import Derived.Test.YtofphjfgaihjhaaDoorEaOk
namespace Go.Proofs.YtofphjfgaihjhaaDoor
open Go.RowKit

/-- eaBytes, as one contract. -/
theorem eaBytes_any (A A' : Option Addr) (c c' B B' : Nat) (l m : List UInt8) (w : World) (h : Has w B A l) (h' : Has w B' A' m) :
    Calls Tryd.prog 11 #[.slice A l.length c, .slice A' m.length c'] w fun e w' => e = .returned (.bool (decide (l = m))) ∧ w = w' := by
  by_cases e : l = m
  · subst e
    rw [decide_eq_true rfl]
    exact eaBytes_same A A' c c' B B' l w h h'
  · rw [decide_eq_false e]
    exact eaBytes_diff A A' c c' B B' l m w h h' e
set_option maxRecDepth 100000 in
set_option maxHeartbeats 4000000 in
theorem fnPakApart_small (A : Option Addr) (c : Nat) (l : List UInt8) (A' : Option Addr) (c' : Nat) (l' : List UInt8) (w : World) (he : ErrsA w) (h : Has w w.heap.size A l) (hc : l.length ≤ c) (h' : Has w w.heap.size A' l') (hc' : l'.length ≤ c') (hs : l.length ≤ 1048576) (hs' : l'.length ≤ 1048576) :
    Calls Tryd.prog 5 #[.slice A l.length c, .slice A' l'.length c'] w fun e w' => e = .returned (.bool true) ∧ Below w.heap.size w w' := by
  have C1 := Lib.hid (drawPakPut_any A c l w (by omega) hc h)
  have C2 := Lib.hid fun W hb => drawPakPut_any A' c' l' W (by omega) hc' (h'.carry (C := w.heap.size) (w' := W) hb (Nat.le_refl _) hb.size)
  have HE : Hid (∀ W, Below w.heap.size w W → ErrsA W) := Lib.hid fun W hb => he.below hb
  have hl0 : ¬ ((1048576 : Int) < (l.length : Int)) := by omega
  have hl0' : ¬ ((1048576 : Int) < (l'.length : Int)) := by omega
  clear h hs hc he h' hs' hc'
  go_enter Tryd.func5, Tryd.ntmps5
  go_wp2_with fail
  refine C1.out.mono ?_
  rintro e w1 ⟨A1, c1, l1, rfl, h1, hc1, hl1, B1⟩
  clear C1
  go_wp2_with fail
  refine (C2.out _ B1).mono ?_
  rintro e w2 ⟨A2, c2, l2, rfl, h2, hc2, hl2, b2⟩
  have h12 := h1.carry b2 (Nat.le_refl _) b2.size
  have B2 := B1.trans (b2.mono B1.size)
  have CI := Lib.hid (putI A1 c1 l1 w2 hl1 hc1 h12 (HE.out _ B2))
  have CS := Lib.hid fun W hh => putS A1 c1 l1 W hl1 hc1 hh
  have CI2 := Lib.hid fun W hh he => putI A2 c2 l2 W hl2 hc2 hh he
  have CIB := Lib.hid fun A c W hc hh he => putI A c l1 W hl1 hc hh he
  have HIN := Lib.hid (fun h => pak_inv (l := l1) h)
  have HINJ := Lib.hid (fun h h' => pak_inj (a := l1) (b := l2) h h')
  have HPL := Lib.hid (pakPutB_le4 l1)
  unfold Packed at CI CS CI2 CIB
  obtain ⟨p, hp⟩ : ∃ p, pakPutB l1 = p := ⟨_, rfl⟩
  obtain ⟨p2, hp2⟩ : ∃ p2, pakPutB l2 = p2 := ⟨_, rfl⟩
  rw [hp] at CI CS HIN CIB HPL
  rw [hp2] at CI2
  have HP : Hid (l1.length ≤ 200 → l2.length ≤ 200 → decide (p = p2) = decide (l1 = l2)) := Lib.hid (fun ha hb => by
    rw [← hp, ← hp2, Bool.eq_iff_iff, decide_eq_true_eq, decide_eq_true_eq]
    exact ⟨fun e => HINJ.out ha hb e, fun e => by rw [e]⟩)
  clear C2 hp hp2 h1 b2 B1 HINJ hl1 hl2
  go_wp2_with fail
  refine CI.out.mono ?_
  rintro e w3 ⟨A3, c3, rfl, hc3, h3, b3⟩
  have h13 := h12.carry b3 (Nat.le_refl _) b3.size
  have h23 := h2.carry b3 (Nat.le_refl _) b3.size
  have B3 := B2.trans (b3.mono B2.size)
  clear CI h12 h2 B2 b3
  go_wp2_with fail
  refine (CS.out _ h13).mono ?_
  rintro e w4 ⟨A4, c4, rfl, -, h4, b4⟩
  have h14 := h13.carry b4 (Nat.le_refl _) b4.size
  have h24 := h23.carry b4 (Nat.le_refl _) b4.size
  have h34 := h3.carry b4 (Nat.le_refl _) b4.size
  have B4 := B3.trans (b4.mono B3.size)
  clear CS h13 h23 h3 B3 b4
  go_wp2_with fail
  refine (eaBytes_same _ _ _ _ _ _ p _ h34 h4).mono ?_
  rintro e w' ⟨rfl, rfl⟩
  clear h4
  by_cases hbig : l1.length ≤ 200 ∧ l2.length ≤ 200
  · have hb1 : ¬ (200 : Int) < (l1.length : Int) := by omega
    have hb2 : ¬ (200 : Int) < (l2.length : Int) := by omega
    have CG := Lib.hid (getI A3 c3 p w4 (by have := HPL.out; omega) h34 (HE.out _ B4))
    rw [HIN.out hbig.1] at CG
    unfold Unpacked at CG
    simp only [Option.getD_some, Option.isSome_some] at CG
    have HD := Lib.hid (HP.out hbig.1 hbig.2)
    clear hbig HIN HP
    go_wp2_with fail
    refine CG.out.mono ?_
    rintro e w5 ⟨A5, c5, rfl, hc5, h5, b5⟩
    have h15 := h14.carry b5 (Nat.le_refl _) b5.size
    have h25 := h24.carry b5 (Nat.le_refl _) b5.size
    have h35 := h34.carry b5 (Nat.le_refl _) b5.size
    have B5 := B4.trans (b5.mono B4.size)
    clear CG h14 h24 h34 B4 b5
    go_wp2_with fail
    refine (CI2.out _ h25 (HE.out _ B5)).mono ?_
    rintro e w6 ⟨A6, c6, rfl, -, h6, b6⟩
    have h16 := h15.carry b6 (Nat.le_refl _) b6.size
    have h26 := h25.carry b6 (Nat.le_refl _) b6.size
    have h36 := h35.carry b6 (Nat.le_refl _) b6.size
    have h56 := h5.carry b6 (Nat.le_refl _) b6.size
    have B6 := B5.trans (b6.mono B5.size)
    clear CI2 h15 h25 h35 h5 B5 b6
    go_wp2_with fail
    refine (eaBytes_any _ _ _ _ _ _ p p2 _ h36 h6).mono ?_
    rintro e w' ⟨rfl, rfl⟩
    rw [HD.out]
    go_wp2_with fail
    refine (eaBytes_any _ _ _ _ _ _ l1 l2 _ h16 h26).mono ?_
    rintro e w' ⟨rfl, rfl⟩
    generalize decide (l1 = l2) = q at *
    have hqq : (q == q) = true := by cases q <;> rfl
    clear h6 h26 HD h16
    cases q
    all_goals
      go_wp2_with fail
      refine (CIB.out _ _ _ hc5 h56 (HE.out _ B6)).mono ?_
      rintro e w7 ⟨A7, c7, rfl, -, h7, b7⟩
      have h37 := h36.carry b7 (Nat.le_refl _) b7.size
      have B7 := B6.trans (b7.mono B6.size)
      clear b7
      go_wp2_with fail
      refine (eaBytes_same _ _ _ _ _ _ p _ h7 h37).mono ?_
      rintro e w' ⟨rfl, rfl⟩
      go_wp2_with fail
      go_ret
      exact ⟨rfl, B7⟩
  · by_cases hb1 : (200 : Int) < (l1.length : Int)
    · clear HIN HP h14 h24 h34 CI2 CIB
      go_wp2_with fail
      refine (eaOk_any _).mono ?_
      rintro e w5 ⟨rfl, b5⟩
      have HB5 := Lib.hid (B4.trans (b5.mono B4.size))
      clear b5
      go_wp2_with fail
      go_ret
      exact ⟨rfl, HB5.out⟩
    · have hb2 : (200 : Int) < (l2.length : Int) := by omega
      clear HIN HP h14 h24 h34 CI2 CIB
      go_wp2_with fail
      refine (eaOk_any _).mono ?_
      rintro e w5 ⟨rfl, b5⟩
      have HB5 := Lib.hid (B4.trans (b5.mono B4.size))
      clear b5
      go_wp2_with fail
      go_ret
      exact ⟨rfl, HB5.out⟩

set_option maxHeartbeats 400000 in
theorem fnPakApart_walk (A : Option Addr) (c : Nat) (l : List UInt8) (A' : Option Addr) (c' : Nat) (l' : List UInt8) (w : World) (he : ErrsA w) (h : Has w w.heap.size A l) (hc : l.length ≤ c) (h' : Has w w.heap.size A' l') (hc' : l'.length ≤ c') :
    Calls Tryd.prog 5 #[.slice A l.length c, .slice A' l'.length c'] w fun e w' => e = .returned (.bool true) ∧ Below w.heap.size w w' := by
  by_cases hbig : 1048576 < l.length
  · have hb : (1048576 : Int) < (l.length : Int) := by omega
    clear hbig h he h'
    go_enter Tryd.func5, Tryd.ntmps5
    go_wp2
    go_ret
    exact ⟨rfl, Below.refl _ _⟩
  · by_cases hbig' : 1048576 < l'.length
    · have hb0 : ¬ ((1048576 : Int) < (l.length : Int)) := by omega
      have hb : (1048576 : Int) < (l'.length : Int) := by omega
      clear hbig hbig' h he h'
      go_enter Tryd.func5, Tryd.ntmps5
      go_wp2
      go_ret
      exact ⟨rfl, Below.refl _ _⟩
    · exact fnPakApart_small A c l A' c' l' w he h hc h' hc' (by omega) (by omega)
end Go.Proofs.YtofphjfgaihjhaaDoor
