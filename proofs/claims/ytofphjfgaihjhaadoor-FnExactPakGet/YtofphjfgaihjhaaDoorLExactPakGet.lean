/-
  The law FnExactPakGet returns true for every list of bytes. Condition: the three errors of reading are not nil.
-/
import Derived.Test.YtofphjfgaihjhaaDoorCopy
import Derived.Test.YtofphjfgaihjhaaDoorMark
import Derived.Test.YtofphjfgaihjhaaDoorPakIH
import Derived.Test.YtofphjfgaihjhaaDoorPakSG
namespace Go.Proofs.YtofphjfgaihjhaaDoor
open Go.RowKit

/-- What the call owns at a block from base on stands where a block below is written. -/
theorem Own.other {w w' : World} {base g n c : Nat} {v : Value} {l : List UInt8} (h : Own w base v l) (hg : w.grownBy w' (Value.slice (some ⟨g, 0, none⟩) n c).ownBlock) (hb : g < base) : Own w' base v l :=
  h.keep hg (by
    cases hv : v.ownBlock with
    | none => exact .inl rfl
    | some k =>
      refine .inr fun e => ?_
      have := (World.ownsRow.lt h k hv).1
      simp [Value.ownBlock] at e
      omega)

theorem pakGetD_le (l : List UInt8) : ((pakGetO l).getD []).length ≤ 200 := by
  cases h : pakGetO l with
  | none => simp
  | some x => exact pakGet_le h
set_option maxHeartbeats 2000000 in
theorem fnExactPakGet_small (A : Option Addr) (c : Nat) (l : List UInt8) (w : World) (hT : Errs w) (h : Has w w.heap.size A l) (hs : l.length ≤ 1048576) :
    Calls Tryd.prog 8 #[.slice A l.length c] w fun e w' => e = .returned (.bool true) ∧ Below w.heap.size w w' := by
  have hb : (l.length : Int) ≤ 1048576 := by omega
  have hrl := pakGetD_le l
  have CS := Lib.hid fun A W (hh : Has W W.heap.size A l) => specPakGet_any A l.length l W (by omega) hh
  have CI := Lib.hid fun A W hT (hh : Has W W.heap.size A l) => implPakGet_any A l.length l W (by omega) hh hT
  unfold PakGOut at CS CI
  have HT : Hid (∀ W, Below w.heap.size w W → Errs W) := Lib.hid fun W hb => hT.below hb (Nat.le_refl _)
  have HA : Hid (∀ W, Below w.heap.size w W → Has W W.heap.size A l) := Lib.hid fun W hb => h.carry hb (Nat.le_refl _) hb.size
  generalize (pakGetO l).getD [] = r at *
  generalize (pakGetO l).isSome = q at *
  clear hT
  go_enter Tryd.func8, Tryd.ntmps8
  go_wp2_with fail
  refine (toByteS_any A c l _ (by omega) h).mono ?_
  rintro e w1 ⟨rfl, ho1, hb1⟩
  clear h
  go_wp2_with fail
  refine (CS.out _ _ ho1.reads).mono ?_
  rintro e w2 ⟨v0, rfl, ho2, hb2⟩
  obtain ⟨A0, c0, rfl, -, h02⟩ := ho2.has
  have B2 : Below w.heap.size w w2 := hb1.trans (hb2.mono hb1.size)
  have z2 := B2.size
  clear ho1 hb1 ho2 hb2
  go_wp2_with fail
  refine (toByteS_any A c l _ (by omega) (HA.out _ B2)).mono ?_
  rintro e w3 ⟨rfl, ho3, hb3⟩
  have B3 : Below w.heap.size w w3 := B2.trans (hb3.mono z2)
  have h03 := h02.below hb3
  have z3 : w2.heap.size < w3.heap.size := (World.ownsRow.lt ho3 _ rfl).2
  clear h02 hb3 B2
  go_wp2_with fail
  refine (CI.out _ _ (HT.out _ B3) ho3.reads).mono ?_
  rintro e w4 ⟨v4, rfl, ho4, hb4⟩
  obtain ⟨A4, c4, rfl, -, h4⟩ := ho4.has
  have B4 : Below w.heap.size w w4 := B3.trans (hb4.mono (by omega))
  have h04 := h03.below (hb4.mono (by omega))
  have hx4 := ho3.below hb4 (Nat.le_refl _)
  have z4 := hb4.size
  clear h03 hb4 B3 ho3
  go_wp2_with fail
  refine (eqByteS_same _ _ _ _ r _ (by omega) h4 (h04.wider (by omega))).mono ?_
  rintro e w5 ⟨rfl, n5, rfl⟩
  have B5 := below_draws B4 n5
  have h05 := h04.drewN n5
  have hx5 := hx4.drewN n5
  have ho5 := ho4.drewN n5
  have z5 : w3.heap.size ≤ (w4.drewN n5).heap.size := z4
  clear B4 h04 hx4 ho4 h4 z4
  generalize w4.drewN n5 = w5 at *
  go_wp2_with fail
  refine (toByteS_any A c l _ (by omega) (HA.out _ B5)).mono ?_
  rintro e w6 ⟨rfl, ho6, hb6⟩
  have B6 : Below w.heap.size w w6 := B5.trans (hb6.mono (by omega))
  have h06 := h05.below (hb6.mono (by omega))
  have hx6 := hx5.below hb6 (Nat.le_refl _)
  have hg6 := ho5.below hb6 (Nat.le_refl _)
  have z6 := hb6.size
  clear B5 h05 hx5 ho5 hb6
  go_wp2_with fail
  refine (eqByteS_same _ _ _ _ l _ (by omega) hx6.reads ho6.reads).mono ?_
  rintro e w7 ⟨rfl, n7, rfl⟩
  have B7 := below_draws B6 n7
  have h07 := h06.drewN n7
  have hx7 := hx6.drewN n7
  have hg7 := hg6.drewN n7
  have z7 : w3.heap.size ≤ (w6.drewN n7).heap.size := Nat.le_trans z5 z6
  clear B6 h06 hx6 hg6 ho6 z6 z5
  generalize w6.drewN n7 = w7 at *
  go_wp2_with fail
  refine (markByteS_at _ _ l 1 1 w2.heap.size rfl _ (by omega) (by omega) hx7).mono ?_
  rintro e w8 ⟨rfl, -, hgr8⟩
  have hb8 : Below w2.heap.size w7 w8 := grown_below hgr8 hx7 (Nat.le_refl _) (by omega)
  have B8 : Below w.heap.size w w8 := B7.trans (hb8.mono z2)
  have h08 := h07.below hb8
  have hg8 := hg7.other hgr8 (by omega)
  have z8 : w3.heap.size ≤ w8.heap.size := Nat.le_trans z7 hb8.size
  have hk : ¬ (1 + (l.length : Int) < 0) := by omega
  clear B7 h07 hx7 hg7 hgr8 hb8 z7
  go_wp2_with fail
  refine (eqByteS_same _ _ _ _ r _ (by omega) hg8.reads (h08.wider (by omega))).mono ?_
  rintro e w9 ⟨rfl, n9, rfl⟩
  have B9 := below_draws B8 n9
  have h09 := h08.drewN n9
  have hg9 := hg8.drewN n9
  have z9 : w3.heap.size ≤ (w8.drewN n9).heap.size := z8
  clear B8 h08 hg8 z8
  generalize w8.drewN n9 = w9 at *
  go_wp2_with fail
  refine (markByteS_at _ _ r 1 1 w3.heap.size rfl _ (by omega) (by omega) hg9).mono ?_
  rintro e w10 ⟨rfl, ho10, hgr10⟩
  have hb10 : Below w3.heap.size w9 w10 := grown_below hgr10 hg9 (Nat.le_refl _) z9
  have B10 : Below w.heap.size w w10 := B9.trans (hb10.mono (by omega))
  have h010 := h09.below (hb10.mono (by omega))
  have hm10 := ho10.reads
  have z10 : w3.heap.size ≤ w10.heap.size := Nat.le_trans z9 hb10.size
  clear B9 h09 hg9 hgr10 hb10 z9 ho10 hk
  have hq1 : ¬ (1 + (r.length : Int) < 0) := by omega
  go_wp2_with fail
  refine (heldByteS_at _ _ r.length 1 1 _ rfl _ (by omega) (by omega) hm10).mono ?_
  rintro e w' ⟨rfl, rfl⟩
  go_wp2_with fail
  refine (toByteS_any A c l _ (by omega) (HA.out _ B10)).mono ?_
  rintro e w11 ⟨rfl, ho11, hb11⟩
  have B11 : Below w.heap.size w w11 := B10.trans (hb11.mono (by omega))
  have h011 := h010.below (hb11.mono (by omega))
  have hm11 := hm10.below hb11
  have z11 := hb11.size
  clear B10 h010 hb11 hm10
  go_wp2_with fail
  refine (CI.out _ _ (HT.out _ B11) ho11.reads).mono ?_
  rintro e w12 ⟨v12, rfl, ho12, hb12⟩
  obtain ⟨A12, c12, rfl, -, h12⟩ := ho12.has
  have B12 : Below w.heap.size w w12 := B11.trans (hb12.mono (by omega))
  have h012 := h011.below (hb12.mono (by omega))
  have hm12 := hm11.below (hb12.mono z11)
  have z12 := hb12.size
  clear B11 h011 hm11 hb12 ho11 ho12
  go_wp2_with fail
  refine (eqByteS_same _ _ _ _ r _ (by omega) h12 (h012.wider (by omega))).mono ?_
  rintro e w13 ⟨rfl, n13, rfl⟩
  have B13 := below_draws B12 n13
  have hm13 := hm12.drewN n13
  clear B12 h012 hm12 h12
  generalize w12.drewN n13 = w13 at *
  go_wp2_with fail
  refine (heldByteS_at _ _ r.length 1 1 _ rfl _ (by omega) (by omega) hm13).mono ?_
  rintro e w' ⟨rfl, rfl⟩
  go_wp2_with fail
  go_ret
  exact ⟨rfl, B13⟩

theorem fnExactPakGet_walk (A : Option Addr) (c : Nat) (l : List UInt8) (w : World) (hT : Errs w) (h : Has w w.heap.size A l) :
    Calls Tryd.prog 8 #[.slice A l.length c] w fun e w' => e = .returned (.bool true) ∧ Below w.heap.size w w' := by
  by_cases hbig : 1048576 < l.length
  · have hb : (1048576 : Int) < (l.length : Int) := by omega
    go_enter Tryd.func8, Tryd.ntmps8
    go_wp2
    go_ret
    exact ⟨rfl, Below.refl _ _⟩
  · exact fnExactPakGet_small A c l w hT h (by omega)
end Go.Proofs.YtofphjfgaihjhaaDoor
