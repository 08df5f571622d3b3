/-
  The law FnExactShaMac returns true for every two lists of bytes. Condition: the program's two tables are the standard's.
-/
import Derived.Test.YtadefoeolbhnmaaDoorLExactShaSum
import Derived.Test.YtadefoeolbhnmaaDoorMacI
import Derived.Test.YtadefoeolbhnmaaDoorMacR
namespace Go.Proofs.YtadefoeolbhnmaaDoor
open Go.RowKit

set_option maxHeartbeats 1000000 in
theorem specShaMac_any (A A' : Option Addr) (c c' : Nat) (k l : List UInt8) (w : World) (h : Has w w.heap.size A k) (h' : Has w w.heap.size A' l) :
    Calls Tryd.prog 15 #[.slice A k.length c, .slice A' l.length c'] w fun e w' => ∃ v, e = .returned v ∧ Own w' w.heap.size v (macOut k l) ∧ Below w.heap.size w w' := by
  unfold macOut
  by_cases hk5 : 500 < k.length
  · rw [if_pos (.inl hk5)]
    go_enter Tryd.func15, Tryd.ntmps15
    go_wp2
    go_ret
    exact ⟨_, rfl, own_empty (Nat.le_refl _), (Below.refl _ _).alloc (Nat.le_refl _) _⟩
  by_cases hl5 : 500 < l.length
  · rw [if_pos (.inr hl5)]
    go_enter Tryd.func15, Tryd.ntmps15
    go_wp2
    go_ret
    exact ⟨_, rfl, own_empty (Nat.le_refl _), (Below.refl _ _).alloc (Nat.le_refl _) _⟩
  · rw [if_neg (by omega)]
    exact specShaMac_small A A' c c' k l w (by omega) (by omega) h h'

set_option maxHeartbeats 2000000 in
theorem fnExactShaMac_small (A A' : Option Addr) (c c' : Nat) (k l : List UInt8) (w : World) (hT : Tabs w) (h : Has w w.heap.size A k) (h' : Has w w.heap.size A' l) (hs : k.length ≤ 1048576) (hs' : l.length ≤ 1048576) :
    Calls Tryd.prog 7 #[.slice A k.length c, .slice A' l.length c'] w fun e w' => e = .returned (.bool true) ∧ Below w.heap.size w w' := by
  have hb : (k.length : Int) ≤ 1048576 := by omega
  have hb' : (l.length : Int) ≤ 1048576 := by omega
  have hrl := macOut_length_le k l
  have CS := Lib.hid fun A A' c c' W (hh : Has W W.heap.size A k) (hh' : Has W W.heap.size A' l) => specShaMac_any A A' c c' k l W hh hh'
  have CI := Lib.hid fun A A' c c' W hT (hh : Has W W.heap.size A k) (hh' : Has W W.heap.size A' l) => implShaMac_any A A' c c' k l W (by omega) (by omega) hT hh hh'
  have HT : Hid (∀ W, Below w.heap.size w W → Tabs W) := Lib.hid fun W hb => hT.below hb hT.2.2
  have HA : Hid (∀ W, Below w.heap.size w W → Has W W.heap.size A k) := Lib.hid fun W hb => h.carry hb (Nat.le_refl _) hb.size
  have HA' : Hid (∀ W, Below w.heap.size w W → Has W W.heap.size A' l) := Lib.hid fun W hb => h'.carry hb (Nat.le_refl _) hb.size
  generalize macOut k l = r at *
  clear hT h h'
  go_enter Tryd.func7, Tryd.ntmps7
  go_wp2_with fail
  refine (toByteS_any A c k _ (by omega) (HA.out _ (Below.refl _ _))).mono ?_
  rintro e w1 ⟨rfl, ho1, B1⟩
  go_wp2_with fail
  refine (toByteS_any A' c' l _ (by omega) (HA'.out _ B1)).mono ?_
  rintro e w2 ⟨rfl, ho2, hb2⟩
  have ho1' := ho1.below hb2 (Nat.le_refl _)
  have B2 : Below w.heap.size w w2 := B1.trans (hb2.mono B1.size)
  clear ho1 hb2 B1
  go_wp2_with fail
  refine (CS.out _ _ _ _ _ ho1'.reads ho2.reads).mono ?_
  rintro e w3 ⟨v0, rfl, ho3, hb3⟩
  obtain ⟨A0, c0, rfl, -, h03⟩ := ho3.has
  have B3 : Below w.heap.size w w3 := B2.trans (hb3.mono B2.size)
  have z3 := B3.size
  clear ho1' ho2 ho3 hb3 B2
  go_wp2_with fail
  refine (toByteS_any A c k _ (by omega) (HA.out _ B3)).mono ?_
  rintro e w4 ⟨rfl, hx4, hb4⟩
  have B4 : Below w.heap.size w w4 := B3.trans (hb4.mono z3)
  have h04 := h03.below hb4
  have z4 : w3.heap.size < w4.heap.size := (World.ownsRow.lt hx4 _ rfl).2
  clear h03 hb4 B3
  go_wp2_with fail
  refine (toByteS_any A' c' l _ (by omega) (HA'.out _ B4)).mono ?_
  rintro e w5 ⟨rfl, hy5, hb5⟩
  have B5 : Below w.heap.size w w5 := B4.trans (hb5.mono (by omega))
  have h05 := h04.below (hb5.mono (by omega))
  have hx5 := hx4.below hb5 (Nat.le_refl _)
  have z5 : w4.heap.size < w5.heap.size := (World.ownsRow.lt hy5 _ rfl).2
  clear h04 hb5 B4 hx4
  go_wp2_with fail
  refine (CI.out _ _ _ _ _ (HT.out _ B5) hx5.reads hy5.reads).mono ?_
  rintro e w6 ⟨v6, rfl, hg6, hb6⟩
  obtain ⟨A6, c6, rfl, -, h6⟩ := hg6.has
  have B6 : Below w.heap.size w w6 := B5.trans (hb6.mono (by omega))
  have h06 := h05.below (hb6.mono (by omega))
  have hx6 := hx5.below hb6 (Nat.le_refl _)
  have hy6 := hy5.below hb6 (Nat.le_refl _)
  have z6 := hb6.size
  clear h05 hb6 B5 hx5 hy5
  go_wp2_with fail
  refine (eqByteS_same _ _ _ _ r _ (by omega) h6 (h06.wider (by omega))).mono ?_
  rintro e w7 ⟨rfl, n7, rfl⟩
  have B7 := below_draws B6 n7
  have h07 := h06.drewN n7
  have hx7 := hx6.drewN n7
  have hy7 := hy6.drewN n7
  have hg7 := hg6.drewN n7
  have z7 : w5.heap.size ≤ (w6.drewN n7).heap.size := z6
  clear B6 h06 hx6 hy6 hg6 h6 z6
  generalize w6.drewN n7 = w7 at *
  go_wp2_with fail
  refine (toByteS_any A c k _ (by omega) (HA.out _ B7)).mono ?_
  rintro e w8 ⟨rfl, ho8, hb8⟩
  have B8 : Below w.heap.size w w8 := B7.trans (hb8.mono (by omega))
  have h08 := h07.below (hb8.mono (by omega))
  have hx8 := hx7.below hb8 (Nat.le_refl _)
  have hy8 := hy7.below hb8 (Nat.le_refl _)
  have hg8 := hg7.below hb8 (Nat.le_refl _)
  have z8 : w5.heap.size ≤ w8.heap.size := Nat.le_trans z7 hb8.size
  clear B7 h07 hx7 hy7 hg7 hb8 z7
  go_wp2_with fail
  refine (eqByteS_same _ _ _ _ k _ (by omega) hx8.reads ho8.reads).mono ?_
  rintro e w9 ⟨rfl, n9, rfl⟩
  have B9 := below_draws B8 n9
  have h09 := h08.drewN n9
  have hx9 := hx8.drewN n9
  have hy9 := hy8.drewN n9
  have hg9 := hg8.drewN n9
  have z9 : w5.heap.size ≤ (w8.drewN n9).heap.size := z8
  clear B8 h08 hx8 hy8 hg8 ho8 z8
  generalize w8.drewN n9 = w9 at *
  go_wp2_with fail
  refine (toByteS_any A' c' l _ (by omega) (HA'.out _ B9)).mono ?_
  rintro e w10 ⟨rfl, ho10, hb10⟩
  have B10 : Below w.heap.size w w10 := B9.trans (hb10.mono (by omega))
  have h010 := h09.below (hb10.mono (by omega))
  have hx10 := hx9.below hb10 (Nat.le_refl _)
  have hy10 := hy9.below hb10 (Nat.le_refl _)
  have hg10 := hg9.below hb10 (Nat.le_refl _)
  have z10 : w5.heap.size ≤ w10.heap.size := Nat.le_trans z9 hb10.size
  clear B9 h09 hx9 hy9 hg9 hb10 z9
  go_wp2_with fail
  refine (eqByteS_same _ _ _ _ l _ (by omega) hy10.reads ho10.reads).mono ?_
  rintro e w11 ⟨rfl, n11, rfl⟩
  have B11 := below_draws B10 n11
  have h011 := h010.drewN n11
  have hx11 := hx10.drewN n11
  have hy11 := hy10.drewN n11
  have hg11 := hg10.drewN n11
  have z11 : w5.heap.size ≤ (w10.drewN n11).heap.size := z10
  clear B10 h010 hx10 hy10 hg10 ho10 z10
  generalize w10.drewN n11 = w11 at *
  go_wp2_with fail
  refine (markByteS_at _ _ k 1 1 w3.heap.size rfl _ (by omega) (by omega) hx11).mono ?_
  rintro e w12 ⟨rfl, -, hgr12⟩
  have hb12 : Below w3.heap.size w11 w12 := grown_below hgr12 hx11 (Nat.le_refl _) (by omega)
  have B12 : Below w.heap.size w w12 := B11.trans (hb12.mono z3)
  have h012 := h011.below hb12
  have hy12 := hy11.other hgr12 (by omega)
  have hg12 := hg11.other hgr12 (by omega)
  have z12 : w5.heap.size ≤ w12.heap.size := Nat.le_trans z11 hb12.size
  clear B11 h011 hx11 hy11 hg11 hgr12 hb12 z11
  go_wp2_with fail
  refine (markByteS_at _ _ l (1 + (k.length : Int)) (1 + k.length) w4.heap.size (by omega) _ (by omega) (by omega) hy12).mono ?_
  rintro e w13 ⟨rfl, -, hgr13⟩
  have hb13 : Below w4.heap.size w12 w13 := grown_below hgr13 hy12 (Nat.le_refl _) (by omega)
  have B13 : Below w.heap.size w w13 := B12.trans (hb13.mono (by omega))
  have h013 := h012.below (hb13.mono (by omega))
  have hg13 := hg12.other hgr13 (by omega)
  have z13 : w5.heap.size ≤ w13.heap.size := Nat.le_trans z12 hb13.size
  have hk : ¬ (1 + (k.length : Int) + (l.length : Int) < 0) := by omega
  clear B12 h012 hy12 hg12 hgr13 hb13 z12
  go_wp2_with fail
  refine (eqByteS_same _ _ _ _ r _ (by omega) hg13.reads (h013.wider (by omega))).mono ?_
  rintro e w14 ⟨rfl, n14, rfl⟩
  have B14 := below_draws B13 n14
  have h014 := h013.drewN n14
  have hg14 := hg13.drewN n14
  have z14 : w5.heap.size ≤ (w13.drewN n14).heap.size := z13
  clear B13 h013 hg13 z13 hk
  generalize w13.drewN n14 = w14 at *
  go_wp2_with fail
  refine (markByteS_at _ _ r 1 1 w5.heap.size rfl _ (by omega) (by omega) hg14).mono ?_
  rintro e w15 ⟨rfl, ho15, hgr15⟩
  have hb15 : Below w5.heap.size w14 w15 := grown_below hgr15 hg14 (Nat.le_refl _) z14
  have B15 : Below w.heap.size w w15 := B14.trans (hb15.mono (by omega))
  have h015 := h014.below (hb15.mono (by omega))
  have hm15 := ho15.reads
  have z15 : w5.heap.size ≤ w15.heap.size := Nat.le_trans z14 hb15.size
  clear B14 h014 hg14 hgr15 hb15 z14 ho15
  have hq1 : ¬ (1 + (r.length : Int) < 0) := by omega
  go_wp2_with fail
  refine (heldByteS_at _ _ r.length 1 1 _ rfl _ (by omega) (by omega) hm15).mono ?_
  rintro e w' ⟨rfl, rfl⟩
  go_wp2_with fail
  refine (toByteS_any A c k _ (by omega) (HA.out _ B15)).mono ?_
  rintro e w16 ⟨rfl, ho16, hb16⟩
  have B16 : Below w.heap.size w w16 := B15.trans (hb16.mono (by omega))
  have h016 := h015.below (hb16.mono (by omega))
  have hm16 := hm15.below hb16
  have z16 := hb16.size
  clear B15 h015 hb16 hm15
  go_wp2_with fail
  refine (toByteS_any A' c' l _ (by omega) (HA'.out _ B16)).mono ?_
  rintro e w17 ⟨rfl, ho17, hb17⟩
  have B17 : Below w.heap.size w w17 := B16.trans (hb17.mono (by omega))
  have h017 := h016.below (hb17.mono (by omega))
  have hm17 := hm16.below (hb17.mono (by omega))
  have ho16' := ho16.below hb17 (Nat.le_refl _)
  have z17 := hb17.size
  clear B16 h016 hb17 hm16 ho16
  go_wp2_with fail
  refine (CI.out _ _ _ _ _ (HT.out _ B17) ho16'.reads ho17.reads).mono ?_
  rintro e w18 ⟨v18, rfl, ho18, hb18⟩
  obtain ⟨A18, c18, rfl, -, h18⟩ := ho18.has
  have B18 : Below w.heap.size w w18 := B17.trans (hb18.mono (by omega))
  have h018 := h017.below (hb18.mono (by omega))
  have hm18 := hm17.below (hb18.mono (by omega))
  have z18 := hb18.size
  clear B17 h017 hm17 hb18 ho16' ho17 ho18
  go_wp2_with fail
  refine (eqByteS_same _ _ _ _ r _ (by omega) h18 (h018.wider (by omega))).mono ?_
  rintro e w19 ⟨rfl, n19, rfl⟩
  have B19 := below_draws B18 n19
  have hm19 := hm18.drewN n19
  clear B18 h018 hm18 h18
  generalize w18.drewN n19 = w19 at *
  go_wp2_with fail
  refine (heldByteS_at _ _ r.length 1 1 _ rfl _ (by omega) (by omega) hm19).mono ?_
  rintro e w' ⟨rfl, rfl⟩
  go_wp2_with fail
  go_ret
  exact ⟨rfl, B19⟩

theorem fnExactShaMac_walk (A : Option Addr) (c : Nat) (k : List UInt8) (A' : Option Addr) (c' : Nat) (l : List UInt8) (w : World) (hT : Tabs w) (h : Has w w.heap.size A k) (h' : Has w w.heap.size A' l) :
    Calls Tryd.prog 7 #[.slice A k.length c, .slice A' l.length c'] w fun e w' => e = .returned (.bool true) ∧ Below w.heap.size w w' := by
  by_cases hbig : 1048576 < k.length
  · have hb : (1048576 : Int) < (k.length : Int) := by omega
    go_enter Tryd.func7, Tryd.ntmps7
    go_wp2
    go_ret
    exact ⟨rfl, Below.refl _ _⟩
  by_cases hbig' : 1048576 < l.length
  · have hb : (k.length : Int) ≤ 1048576 := by omega
    have hb' : (1048576 : Int) < (l.length : Int) := by omega
    go_enter Tryd.func7, Tryd.ntmps7
    go_wp2
    go_ret
    exact ⟨rfl, Below.refl _ _⟩
  · exact fnExactShaMac_small A A' c c' k l w hT h h' (by omega) (by omega)
end Go.Proofs.YtadefoeolbhnmaaDoor
