/-
  The law FnExactBitPut returns true for every list of bit numbers. Condition: the two errors are not nil.
-/
import Derived.Test.YtfdbonlagfmegaaDoorCopy
import Derived.Test.YtfdbonlagfmegaaDoorMark
import Derived.Test.YtfdbonlagfmegaaDoorNumsQ
import Derived.Test.YtfdbonlagfmegaaDoorBitPR
import Derived.Test.YtfdbonlagfmegaaDoorNumsIn
namespace Go.Proofs.YtfdbonlagfmegaaDoor
open Go.RowKit

theorem OwnN.below {w w' : World} {base B : Nat} {v : Value} {l : List (Int × Int)} (h : OwnN w base v l) (hb : Below B w w') (hB : w.heap.size ≤ B) : OwnN w' base v l := row_below h hb hB
theorem OwnN.drewN {w : World} {base : Nat} {v : Value} {l : List (Int × Int)} (h : OwnN w base v l) (n : Nat) : OwnN (w.drewN n) base v l := h
theorem below_drewN {B : Nat} {w : World} (n : Nat) : Below B w (w.drewN n) := below_draws (Below.refl _ _) n
theorem below_row {B g : Nat} {w w' : World} (hg : w.grownBy w' (some g)) (hB : B ≤ g) (hz : B ≤ w.heap.size) : Below B w w' := (Below.refl _ _).grown hg hz (fun k e => by injection e with e; omega)

set_option maxHeartbeats 2000000 in
theorem fnExactBitPut_small (A : Option Addr) (c : Nat) (l : List (Int × Int)) (w : World) (hT : ErrsW w) (h : HasN w w.heap.size A l) (hs : l.length ≤ 1048576) :
    Calls Tryd.prog 3 #[.slice A l.length c] w fun e w' => e = .returned (.bool true) ∧ Below w.heap.size w w' := by
  have HT : Hid (∀ W, Below w.heap.size w W → ErrsW W) := Lib.hid fun W hb => hT.below hb (Nat.le_refl _)
  have HA : Hid (∀ W, Below w.heap.size w W → HasN W W.heap.size A l) := Lib.hid fun W hb => h.carry hb (Nat.le_refl _) hb.size
  have CZ := Lib.hid (szBitNumS_any A l.length c w (by unfold maxLen; omega))
  rw [if_pos hs] at CZ
  have CT := Lib.hid fun W hh => toBitNumS_any A c l W (by omega) hh
  have CS := Lib.hid fun A c W hh => specBitPut_any A c l W (by omega) hh
  have CI := Lib.hid fun A c W hh hE => implBitPut_any A c l W (by omega) hh hE
  have CN := Lib.hid fun A A' c c' W hh hh' => eqBitNumS_same A A' c c' l W (by omega) hh hh'
  have CM := Lib.hid fun g c base W hh => markBitNumS_any g c base l W (by omega) hh
  have hrl := bitPutB_le l
  unfold PutOut at CS CI
  generalize bitPutB l = r at *
  have CE := Lib.hid fun A A' c c' W hh hh' => eqByteS_same A A' c c' r W (by omega) hh hh'
  have CK := Lib.hid fun A c base W hh => markByteS_at A c r 1 1 base rfl W (by omega) (by omega) hh
  have CH := Lib.hid fun A c B W hh => heldByteS_at A c r.length 1 1 B rfl W (by omega) (by omega) hh
  have hl0 : ¬ ((1048576 : Int) - (l.length : Int) < 0) := by omega
  have hq1 : ¬ (1 + (r.length : Int) < 0) := by omega
  have hk1 : ¬ (1 + 2 * (l.length : Int) < 0) := by omega
  clear hT h hrl hs
  go_enter Tryd.func3, Tryd.ntmps3
  go_wp2_with fail
  refine CZ.out.mono ?_
  rintro e w' ⟨rfl, rfl⟩
  clear CZ
  go_wp2_with fail
  refine (CT.out _ (HA.out _ (Below.refl _ _))).mono ?_
  rintro e w1 ⟨rfl, hx1, b1⟩
  have hr1 := hx1.reads
  go_wp2_with fail
  refine (CS.out _ _ _ hr1).mono ?_
  rintro e w2 ⟨v0, rfl, ho0, b2⟩
  have B2 : Below w'.heap.size w' w2 := b1.trans (b2.mono b1.size)
  obtain ⟨A0, c0, rfl, -, h0⟩ := ho0.has
  clear hx1 hr1 b1 b2 ho0
  go_wp2_with fail
  refine (CT.out _ (HA.out _ B2)).mono ?_
  rintro e w3 ⟨rfl, hx3, b3⟩
  have z3 := b3.size
  have zx : w2.heap.size < w3.heap.size := by
    rcases hx3.2 with ⟨e, -⟩ | ⟨g, cap, cur, e, _, hg, _⟩
    · cases e
    · injection e with e _ _
      injection e with e
      injection e with e _ _
      subst e
      exact (Array.getElem?_eq_some_iff.1 hg).1
  have B3 : Below w'.heap.size w' w3 := B2.trans (b3.mono B2.size)
  have h03 := h0.below b3
  clear b3 h0
  go_wp2_with fail
  refine (CI.out _ _ _ hx3.reads (HT.out _ B3)).mono ?_
  rintro e w4 ⟨v1, rfl, ho1, b4⟩
  have B4 : Below w'.heap.size w' w4 := B3.trans (b4.mono B3.size)
  have h04 := h03.below (b4.mono z3)
  have hx4 := hx3.below b4 (Nat.le_refl _)
  have z4 := b4.size
  obtain ⟨A1, c1, rfl, -, h1⟩ := ho1.has
  clear b4 h03 hx3 B3
  go_wp2_with fail
  refine (CE.out _ _ _ _ _ h1 (h04.wider (Nat.le_trans z3 z4))).mono ?_
  rintro e w5 ⟨rfl, n5, rfl⟩
  have B5 := below_draws B4 n5
  have h05 := h04.drewN n5
  have hx5 := hx4.drewN n5
  have ho5 := ho1.drewN n5
  have z5 : w3.heap.size ≤ (w4.drewN n5).heap.size := z4
  clear B4 h04 hx4 ho1 h1 z4
  generalize w4.drewN n5 = w5 at *
  go_wp2_with fail
  refine (CT.out _ (HA.out _ B5)).mono ?_
  rintro e w6 ⟨rfl, hx6, b6⟩
  have B6 : Below w'.heap.size w' w6 := B5.trans (b6.mono B5.size)
  have z6 := Nat.le_trans z5 b6.size
  have h06 := h05.below (b6.mono (Nat.le_trans z3 z5))
  have hxx6 := hx5.below b6 (Nat.le_refl _)
  have ho6 := ho5.below b6 (Nat.le_refl _)
  clear b6 h05 hx5 ho5 z5 B5
  go_wp2_with fail
  refine (CN.out _ _ _ _ _ hxx6.reads hx6.reads).mono ?_
  rintro e w7 ⟨rfl, b7⟩
  have B7 : Below w'.heap.size w' w7 := B6.trans (b7.mono B6.size)
  have z7 := Nat.le_trans z6 b7.size
  have h07 := h06.below (b7.mono (Nat.le_trans z3 z6))
  have hx7 := hxx6.below b7 (Nat.le_refl _)
  have ho7 := ho6.below b7 (Nat.le_refl _)
  clear b7 h06 hxx6 hx6 ho6 z6 B6
  go_wp2_with fail
  refine (CM.out _ _ _ _ hx7).mono ?_
  rintro e w8 ⟨rfl, g8⟩
  have b8 : Below w2.heap.size w7 w8 := below_row g8 (Nat.le_refl _) (Nat.le_trans z3 z7)
  have B8 : Below w'.heap.size w' w8 := B7.trans (b8.mono B2.size)
  have z8 := Nat.le_trans z7 b8.size
  have h08 := h07.below b8
  have ho8 : Own w8 w3.heap.size (.slice A1 r.length c1) r := ho7.keep g8 (by
    cases hv : (Value.slice A1 r.length c1).ownBlock with
    | none => exact .inl rfl
    | some q => exact .inr fun e => by have := (World.ownsRow.lt ho7 q hv).1; injection e with e; omega)
  clear b8 g8 h07 ho7 hx7 z7 B7
  go_wp2_with fail
  refine (CE.out _ _ _ _ _ ho8.reads (h08.wider (Nat.le_trans z3 z8))).mono ?_
  rintro e w9 ⟨rfl, n9, rfl⟩
  have B9 := below_draws B8 n9
  have h09 := h08.drewN n9
  have ho9 := ho8.drewN n9
  have z9 : w3.heap.size ≤ (w8.drewN n9).heap.size := z8
  clear B8 h08 ho8 z8
  generalize w8.drewN n9 = w9 at *
  go_wp2_with fail
  refine (CK.out _ _ _ _ ho9).mono ?_
  rintro e w10 ⟨rfl, ho10, g10⟩
  have b10 : Below w3.heap.size w9 w10 := grown_below g10 ho9 (Nat.le_refl _) z9
  have B10 : Below w'.heap.size w' w10 := B9.trans (b10.mono (Nat.le_trans B2.size z3))
  have h010 := h09.below (b10.mono z3)
  have z10 := Nat.le_trans z9 b10.size
  have hm10 := ho10.reads
  clear b10 g10 ho9 ho10 h09 z9 B9
  go_wp2_with fail
  refine (CH.out _ _ _ _ hm10).mono ?_
  rintro e w' ⟨rfl, rfl⟩
  go_wp2_with fail
  refine (CT.out _ (HA.out _ B10)).mono ?_
  rintro e w11 ⟨rfl, hx11, b11⟩
  have B11 := B10.trans (b11.mono B10.size)
  have h011 := h010.below (b11.mono (Nat.le_trans z3 z10))
  have hm11 := hm10.below b11
  have z11 := Nat.le_trans z10 b11.size
  have zz := b11.size
  clear b11 h010 hm10 B10
  go_wp2_with fail
  refine (CI.out _ _ _ hx11.reads (HT.out _ B11)).mono ?_
  rintro e w12 ⟨v2, rfl, ho12, b12⟩
  have B12 := B11.trans (b12.mono B11.size)
  have h012 := h011.below (b12.mono (Nat.le_trans z3 z11))
  have hm12 := hm11.below (b12.mono zz)
  have z12 := Nat.le_trans z11 b12.size
  obtain ⟨A2, c2, rfl, -, h2⟩ := ho12.has
  clear b12 h011 hm11 hx11 ho12 B11
  go_wp2_with fail
  refine (CE.out _ _ _ _ _ h2 (h012.wider (Nat.le_trans z3 z12))).mono ?_
  rintro e w13 ⟨rfl, n13, rfl⟩
  have hm13 := hm12.drewN n13
  have B13 := below_draws B12 n13
  clear hm12 B12 h012 h2
  generalize w12.drewN n13 = w13 at *
  go_wp2_with fail
  refine (CH.out _ _ _ _ hm13).mono ?_
  rintro e w' ⟨rfl, rfl⟩
  go_wp2_with fail
  go_ret
  exact ⟨rfl, B13⟩

theorem fnExactBitPut_walk (A : Option Addr) (c : Nat) (l : List (Int × Int)) (w : World) (hT : ErrsW w) (h : HasN w w.heap.size A l) (hm : l.length ≤ maxLen) :
    Calls Tryd.prog 3 #[.slice A l.length c] w fun e w' => e = .returned (.bool true) ∧ Below w.heap.size w w' := by
  by_cases hbig : l.length ≤ 1048576
  · exact fnExactBitPut_small A c l w hT h hbig
  · have CZ := szBitNumS_any A l.length c w hm
    rw [if_neg hbig] at CZ
    clear hT h hm hbig
    go_enter Tryd.func3, Tryd.ntmps3
    go_wp2_with fail
    refine CZ.mono ?_
    rintro e w' ⟨rfl, rfl⟩
    go_wp2_with fail
    go_ret
    exact ⟨rfl, Below.refl _ _⟩
end Go.Proofs.YtfdbonlagfmegaaDoor
