/-
  DrawBitGet draws some bytes, a place and a number of bits. Condition: at most 2^30 bytes to draw from.
-/
import Derived.Test.YtdipihdpfkoddaaDoorOrdPick
import Derived.Test.YtdipihdpfkoddaaDoorDrawB
import Derived.OwnWalk
namespace Go.Proofs.YtdipihdpfkoddaaDoor
open Go.RowKit

/-- An index into a table of four. -/
def R4 (z : Int) : Prop := 0 ≤ z ∧ z < 4
/-- A number that an int holds. -/
def RI (z : Int) : Prop := -9223372036854775808 ≤ z ∧ z < 9223372036854775808
theorem grown_drew1 (w : World) (row : Option Nat) : w.grownBy w.drew row := ⟨rfl, rfl, rfl, Nat.le_refl _, fun _ _ _ => rfl⟩
/-- What the slots of its return hold. -/
def getT (Ab : Option Addr) (cb : Nat) (b : List UInt8) (g : Nat) : List (Nat × Slot) := [(11, .is (.slice Ab b.length cb)), (12, .is (.pointer (some ⟨g, 0, none⟩))), (13, .is (.slice Ab b.length cb)), (14, .is (.int .i64 (b.length : Int))), (15, .is (.int .i64 (8 * (b.length : Int)))), (16, .is (.int .i64 (8 * (b.length : Int) + 1))), (17, .below (8 * (b.length : Int) + 1)), (18, .is (.slice Ab b.length cb)), (19, .is (.int .i64 (b.length : Int))), (20, .is (.int .i64 (8 * (b.length : Int)))), (21, .tab 4 RI), (22, .tab 7 R4), (23, .is (.pointer (some ⟨g, 0, none⟩))), (24, .below 7), (25, .spot R4), (26, .num R4), (27, .spot RI), (28, .num RI), (29, .is (.pointer (some ⟨g, 0, none⟩))), (30, .below 12), (31, .num RI), (32, .tab 4 RI), (33, .tab 8 R4), (34, .is (.pointer (some ⟨g, 0, none⟩))), (35, .below 8), (36, .spot R4), (37, .num R4), (38, .spot RI), (39, .num RI), (2, .is (.slice Ab b.length cb)), (3, .num RI), (4, .num RI)]
theorem getT_apart (Ab : Option Addr) (cb : Nat) (b : List UInt8) (g : Nat) : apartB (getT Ab cb b g) = true := by kernel_rfl
/-- What DrawBitGet answers. -/
def DrewG (w : World) (e : Ending) (w' : World) : Prop := ∃ A' c', ∃ b : List UInt8, ∃ x y : Int, e = .returned (.tuple #[.slice A' b.length c', .int .i64 x, .int .i64 y]) ∧ Has w' w'.heap.size A' b ∧ b.length ≤ c' ∧ b.length ≤ 12 ∧ RI x ∧ RI y ∧ Below w.heap.size w w'

set_option maxHeartbeats 4000000 in
theorem drawBitGet_any (A : Option Addr) (c : Nat) (l : List UInt8) (w : World) (hs : l.length ≤ 1073741824) (hc : l.length ≤ c) (h : Has w w.heap.size A l) :
    Calls Tryd.prog 13 #[.slice A l.length c] w (DrewG w) := by
  go_enter Tryd.func13, Tryd.ntmps13
  go_wp2_with fail
  refine (l20Open_any A c l _ hs hc h).mono ?_
  rintro e w1 ⟨rfl, hr, hb⟩
  have hz := hr.lt
  go_wp2_with fail
  refine (l20Bytes_any _ 0 12 12 rfl _ hr (by omega) (by omega)).mono ?_
  rintro e w2 ⟨v, b, p2, rfl, ho, hbl, hp2, hr2, hg2⟩
  have hb2 := below_of_grown hb hg2 (Nat.le_refl _) (by omega)
  obtain ⟨Ab, cb, hv, -, h2⟩ := ho.has
  subst hv
  have hog : (Value.slice Ab b.length cb).ownBlock = none ∨ (Value.slice Ab b.length cb).ownBlock ≠ some w.heap.size := by
    cases hv : (Value.slice Ab b.length cb).ownBlock with
    | none => exact .inl rfl
    | some q => exact .inr fun e => by have := (World.ownsRow.lt ho q hv).1; injection e with e; omega
  clear hg2 hr hb h hs hc
  obtain ⟨g, hgE⟩ : ∃ g, w.heap.size = g := ⟨_, rfl⟩
  have hap := getT_apart Ab cb b g
  rw [hgE] at hr2 hog
  have hbl2 : (b.length : Int) ≤ 12 := by omega
  have hw8 : IntKind.i64.wrap (8 * (b.length : Int)) = 8 * (b.length : Int) := IntWalk.i64_in _ (by omega)
  have hw9 : IntKind.i64.wrap (8 * (b.length : Int) + 1) = 8 * (b.length : Int) + 1 := IntWalk.i64_in _ (by omega)
  have HB2 := Lib.hid hb2
  have HO := Lib.hid ho
  have HOG := Lib.hid hog
  clear hb2 h2 ho hog hbl
  go_wp2_with fail
  refine wp_region_inv (fun fuel listed a W => listed.size = 32 ∧ ∃ V : Nat → Value, a = { tmps := #[(.slice A l.length c), undef, V 2, V 3, V 4, (.pointer (some ⟨g, 0, none⟩)), (.slice Ab b.length cb), (.slice A l.length c), (.pointer (some ⟨g, 0, none⟩)), (.pointer (some ⟨g, 0, none⟩)), (.slice Ab b.length cb), V 11, V 12, V 13, V 14, V 15, V 16, V 17, V 18, V 19, V 20, V 21, V 22, V 23, V 24, V 25, V 26, V 27, V 28, V 29, V 30, V 31, V 32, V 33, V 34, V 35, V 36, V 37, V 38, V 39], defers := [] } ∧ Reads w2 g 1000 fuel W ∧ Slots g (getT Ab cb b g) V listed W) (by kernel_rfl) (by kernel_rfl) ?_ ?_ ?_
  · exact ⟨by simp, fun k => if k = 2 then .slice none 0 0 else if k = 3 then .int .i64 0 else if k = 4 then .int .i64 0 else undef, by simp, ⟨p2, by simp; omega, hr2, grown_drew1 w2 _⟩, fun i d t _ hl => by
      rw [Array.getD_eq_getD_getElem?, Array.getElem?_replicate] at hl
      split at hl <;> simp at hl⟩
  · clear hr2 hp2
    rintro fuel listed a w i o ⟨hsz, V, rfl, hJ, hS⟩ ho hlist hd
    have hsz2 : (listed.setIfInBounds i true).size = 32 := by simpa using hsz
    have hi : i < 32 := (Array.getElem?_eq_some_iff.1 ho).1
    have hi2 : i = 0 ∨ i = 1 ∨ i = 2 ∨ i = 3 ∨ i = 4 ∨ i = 5 ∨ i = 6 ∨ i = 7 ∨ i = 8 ∨ i = 9 ∨ i = 10 ∨ i = 11 ∨ i = 12 ∨ i = 13 ∨ i = 14 ∨ i = 15 ∨ i = 16 ∨ i = 17 ∨ i = 18 ∨ i = 19 ∨ i = 20 ∨ i = 21 ∨ i = 22 ∨ i = 23 ∨ i = 24 ∨ i = 25 ∨ i = 26 ∨ i = 27 ∨ i = 28 ∨ i = 29 ∨ i = 30 ∨ i = 31 := by omega
    clear hlist hi
    rcases hi2 with rfl | rfl | rfl | rfl | rfl | rfl | rfl | rfl | rfl | rfl | rfl | rfl | rfl | rfl | rfl | rfl | rfl | rfl | rfl | rfl | rfl | rfl | rfl | rfl | rfl | rfl | rfl | rfl | rfl | rfl | rfl | rfl
    · obtain rfl : _ = o := Option.some.inj ((show _ = some _ from rfl).symm.trans ho)
      refine wpOp_step rfl (fun K hK => ?_)
      go_simp
      refine hK _ _ ⟨hsz2, _, ?_, hJ.quiet, hS.next (i := 0) rfl (apartB_spec hap rfl) (World.grownBy.refl _ _) rfl⟩
      simp []
    · obtain rfl : _ = o := Option.some.inj ((show _ = some _ from rfl).symm.trans ho)
      refine wpOp_step rfl (fun K hK => ?_)
      go_simp
      refine hK _ _ ⟨hsz2, _, ?_, hJ.quiet, hS.next (i := 1) rfl (apartB_spec hap rfl) (World.grownBy.refl _ _) rfl⟩
      simp []
    · obtain rfl : _ = o := Option.some.inj ((show _ = some _ from rfl).symm.trans ho)
      refine wpOp_step rfl (fun K hK => ?_)
      go_simp
      refine hK _ _ ⟨hsz2, _, ?_, hJ.quiet, hS.next (i := 2) rfl (apartB_spec hap rfl) (World.grownBy.refl _ _) rfl⟩
      simp []
    · obtain rfl : _ = o := Option.some.inj ((show _ = some _ from rfl).symm.trans ho)
      have l2 : listed.getD 2 false = true := hd { on := 2, ground := .data } (by simp) rfl
      have v13 : V 13 = _ := hS 2 13 _ rfl l2
      refine wpOp_step rfl (fun K hK => ?_)
      go_simp
      refine hK _ _ ⟨hsz2, _, ?_, hJ.quiet, hS.next (i := 3) rfl (apartB_spec hap rfl) (World.grownBy.refl _ _) rfl⟩
      simp [v13]
    · obtain rfl : _ = o := Option.some.inj ((show _ = some _ from rfl).symm.trans ho)
      have l3 : listed.getD 3 false = true := hd { on := 3, ground := .data } (by simp) rfl
      have v14 : V 14 = _ := hS 3 14 _ rfl l3
      refine wpOp_step rfl (fun K hK => ?_)
      go_simp
      refine hK _ _ ⟨hsz2, _, ?_, hJ.quiet, hS.next (i := 4) rfl (apartB_spec hap rfl) (World.grownBy.refl _ _) rfl⟩
      simp [v14]
    · obtain rfl : _ = o := Option.some.inj ((show _ = some _ from rfl).symm.trans ho)
      have l4 : listed.getD 4 false = true := hd { on := 4, ground := .data } (by simp) rfl
      have v15 : V 15 = _ := hS 4 15 _ rfl l4
      refine wpOp_step rfl (fun K hK => ?_)
      go_simp
      refine hK _ _ ⟨hsz2, _, ?_, hJ.quiet, hS.next (i := 5) rfl (apartB_spec hap rfl) (World.grownBy.refl _ _) rfl⟩
      simp [v15]
    · obtain rfl : _ = o := Option.some.inj ((show _ = some _ from rfl).symm.trans ho)
      have l1 : listed.getD 1 false = true := hd { on := 1, ground := .data } (by simp) rfl
      have v12 : V 12 = _ := hS 1 12 _ rfl l1
      have l5 : listed.getD 5 false = true := hd { on := 5, ground := .data } (by simp) rfl
      have v16 : V 16 = _ := hS 5 16 _ rfl l5
      obtain ⟨p, hp, hr, hgr⟩ := hJ
      refine wpOp_step rfl (fun K hK => ?_)
      go_simp
      refine (pick_any g p _ _ hr (by omega) (by omega) (by omega)).mono ?_
      rintro e w' ⟨k, rfl, hk, -, hr', hg', -⟩
      refine hK _ _ ⟨hsz2, _, ?_, ⟨p + 1, by omega, hr', grown_trans hgr hg'⟩, hS.next (i := 6) rfl (apartB_spec hap rfl) hg' ⟨k, rfl, hk (by omega)⟩⟩
      simp [v12, v16]
    · obtain rfl : _ = o := Option.some.inj ((show _ = some _ from rfl).symm.trans ho)
      refine wpOp_step rfl (fun K hK => ?_)
      go_simp
      refine hK _ _ ⟨hsz2, _, ?_, hJ.quiet, hS.next (i := 7) rfl (apartB_spec hap rfl) (World.grownBy.refl _ _) rfl⟩
      simp []
    · obtain rfl : _ = o := Option.some.inj ((show _ = some _ from rfl).symm.trans ho)
      have l7 : listed.getD 7 false = true := hd { on := 7, ground := .data } (by simp) rfl
      have v18 : V 18 = _ := hS 7 18 _ rfl l7
      refine wpOp_step rfl (fun K hK => ?_)
      go_simp
      refine hK _ _ ⟨hsz2, _, ?_, hJ.quiet, hS.next (i := 8) rfl (apartB_spec hap rfl) (World.grownBy.refl _ _) rfl⟩
      simp [v18]
    · obtain rfl : _ = o := Option.some.inj ((show _ = some _ from rfl).symm.trans ho)
      have l8 : listed.getD 8 false = true := hd { on := 8, ground := .data } (by simp) rfl
      have v19 : V 19 = _ := hS 8 19 _ rfl l8
      refine wpOp_step rfl (fun K hK => ?_)
      go_simp
      refine hK _ _ ⟨hsz2, _, ?_, hJ.quiet, hS.next (i := 9) rfl (apartB_spec hap rfl) (World.grownBy.refl _ _) rfl⟩
      simp [v19]
    · obtain rfl : _ = o := Option.some.inj ((show _ = some _ from rfl).symm.trans ho)
      have l6 : listed.getD 6 false = true := hd { on := 6, ground := .data } (by simp) rfl
      obtain ⟨k17, v17, b17⟩ := hS 6 17 _ rfl l6
      have l9 : listed.getD 9 false = true := hd { on := 9, ground := .data } (by simp) rfl
      have v20 : V 20 = _ := hS 9 20 _ rfl l9
      have hgw : g < w.heap.size := by obtain ⟨p, _, hr, _⟩ := hJ; exact hr.lt
      refine wpOp_step rfl (fun K hK => ?_)
      go_simp
      refine hK _ _ ⟨hsz2, _, ?_, hJ.alloc _, hS.next (i := 10) rfl (apartB_spec hap rfl) (World.grownBy_alloc w _ _) (tab_new _ hgw (fun j hj => by
        match j, hj with
        | 0, _ => exact ⟨_, rfl, by unfold RI; omega⟩
        | 1, _ => exact ⟨_, rfl, by unfold RI; omega⟩
        | 2, _ => exact ⟨_, rfl, by unfold RI; omega⟩
        | 3, _ => exact ⟨_, rfl, by unfold RI; omega⟩))⟩
      simp [v17, v20]
    · obtain rfl : _ = o := Option.some.inj ((show _ = some _ from rfl).symm.trans ho)
      have hgw : g < w.heap.size := by obtain ⟨p, _, hr, _⟩ := hJ; exact hr.lt
      refine wpOp_step rfl (fun K hK => ?_)
      go_simp
      refine hK _ _ ⟨hsz2, _, ?_, hJ.alloc _, hS.next (i := 11) rfl (apartB_spec hap rfl) (World.grownBy_alloc w _ _) (tab_new _ hgw (fun j hj => by
        match j, hj with
        | 0, _ => exact ⟨_, rfl, by unfold R4; omega⟩
        | 1, _ => exact ⟨_, rfl, by unfold R4; omega⟩
        | 2, _ => exact ⟨_, rfl, by unfold R4; omega⟩
        | 3, _ => exact ⟨_, rfl, by unfold R4; omega⟩
        | 4, _ => exact ⟨_, rfl, by unfold R4; omega⟩
        | 5, _ => exact ⟨_, rfl, by unfold R4; omega⟩
        | 6, _ => exact ⟨_, rfl, by unfold R4; omega⟩))⟩
      simp []
    · obtain rfl : _ = o := Option.some.inj ((show _ = some _ from rfl).symm.trans ho)
      refine wpOp_step rfl (fun K hK => ?_)
      go_simp
      refine hK _ _ ⟨hsz2, _, ?_, hJ.quiet, hS.next (i := 12) rfl (apartB_spec hap rfl) (World.grownBy.refl _ _) rfl⟩
      simp []
    · obtain rfl : _ = o := Option.some.inj ((show _ = some _ from rfl).symm.trans ho)
      have l12 : listed.getD 12 false = true := hd { on := 12, ground := .data } (by simp) rfl
      have v23 : V 23 = _ := hS 12 23 _ rfl l12
      obtain ⟨p, hp, hr, hgr⟩ := hJ
      refine wpOp_step rfl (fun K hK => ?_)
      go_simp
      refine (pick_any g p _ _ hr (by omega) (by omega) (by omega)).mono ?_
      rintro e w' ⟨k, rfl, hk, -, hr', hg', -⟩
      refine hK _ _ ⟨hsz2, _, ?_, ⟨p + 1, by omega, hr', grown_trans hgr hg'⟩, hS.next (i := 13) rfl (apartB_spec hap rfl) hg' ⟨k, rfl, hk (by omega)⟩⟩
      simp [v23]
    · obtain rfl : _ = o := Option.some.inj ((show _ = some _ from rfl).symm.trans ho)
      have l11 : listed.getD 11 false = true := hd { on := 11, ground := .data } (by simp) rfl
      obtain ⟨s22, v22, g22, h22, t22⟩ := hS 11 22 _ rfl l11
      have l13 : listed.getD 13 false = true := hd { on := 13, ground := .data } (by simp) rfl
      obtain ⟨k24, v24, b24⟩ := hS 13 24 _ rfl l13
      have p24 : 0 ≤ (k24 : Int) ∧ (k24 : Int) < 7 := by omega
      obtain ⟨y, hy, ry⟩ := t22 k24 (by omega)
      refine wpOp_step rfl (fun K hK => ?_)
      go_simp
      refine hK _ _ ⟨hsz2, _, ?_, hJ.quiet, hS.next (i := 14) rfl (apartB_spec hap rfl) (World.grownBy.refl _ _) ⟨s22, k24, rfl, g22, h22, y, hy, ry⟩⟩
      simp [v22, v24]
    · obtain rfl : _ = o := Option.some.inj ((show _ = some _ from rfl).symm.trans ho)
      have l14 : listed.getD 14 false = true := hd { on := 14, ground := .data } (by simp) rfl
      obtain ⟨s25, j25, v25, g25, h25, z25, q25, r25⟩ := hS 14 25 _ rfl l14
      refine wpOp_step rfl (fun K hK => ?_)
      go_simp
      refine hK _ _ ⟨hsz2, _, ?_, hJ.quiet, hS.next (i := 15) rfl (apartB_spec hap rfl) (World.grownBy.refl _ _) ⟨z25, rfl, r25⟩⟩
      simp [v25]
    · obtain rfl : _ = o := Option.some.inj ((show _ = some _ from rfl).symm.trans ho)
      have l10 : listed.getD 10 false = true := hd { on := 10, ground := .data } (by simp) rfl
      obtain ⟨s21, v21, g21, h21, t21⟩ := hS 10 21 _ rfl l10
      have l15 : listed.getD 15 false = true := hd { on := 15, ground := .data } (by simp) rfl
      obtain ⟨z26, v26, r26⟩ := hS 15 26 _ rfl l15
      obtain ⟨n26, e26⟩ : ∃ n : Nat, z26 = (n : Int) := ⟨z26.toNat, by unfold R4 at r26; omega⟩
      subst e26
      unfold R4 at r26
      have p26 : 0 ≤ (n26 : Int) ∧ (n26 : Int) < 4 := by omega
      obtain ⟨y, hy, ry⟩ := t21 n26 (by omega)
      refine wpOp_step rfl (fun K hK => ?_)
      go_simp
      refine hK _ _ ⟨hsz2, _, ?_, hJ.quiet, hS.next (i := 16) rfl (apartB_spec hap rfl) (World.grownBy.refl _ _) ⟨s21, n26, rfl, g21, h21, y, hy, ry⟩⟩
      simp [v21, v26]
    · obtain rfl : _ = o := Option.some.inj ((show _ = some _ from rfl).symm.trans ho)
      have l16 : listed.getD 16 false = true := hd { on := 16, ground := .data } (by simp) rfl
      obtain ⟨s27, j27, v27, g27, h27, z27, q27, r27⟩ := hS 16 27 _ rfl l16
      refine wpOp_step rfl (fun K hK => ?_)
      go_simp
      refine hK _ _ ⟨hsz2, _, ?_, hJ.quiet, hS.next (i := 17) rfl (apartB_spec hap rfl) (World.grownBy.refl _ _) ⟨z27, rfl, r27⟩⟩
      simp [v27]
    · obtain rfl : _ = o := Option.some.inj ((show _ = some _ from rfl).symm.trans ho)
      refine wpOp_step rfl (fun K hK => ?_)
      go_simp
      refine hK _ _ ⟨hsz2, _, ?_, hJ.quiet, hS.next (i := 18) rfl (apartB_spec hap rfl) (World.grownBy.refl _ _) rfl⟩
      simp []
    · obtain rfl : _ = o := Option.some.inj ((show _ = some _ from rfl).symm.trans ho)
      have l18 : listed.getD 18 false = true := hd { on := 18, ground := .data } (by simp) rfl
      have v29 : V 29 = _ := hS 18 29 _ rfl l18
      obtain ⟨p, hp, hr, hgr⟩ := hJ
      refine wpOp_step rfl (fun K hK => ?_)
      go_simp
      refine (pick_any g p _ _ hr (by omega) (by omega) (by omega)).mono ?_
      rintro e w' ⟨k, rfl, hk, -, hr', hg', -⟩
      refine hK _ _ ⟨hsz2, _, ?_, ⟨p + 1, by omega, hr', grown_trans hgr hg'⟩, hS.next (i := 19) rfl (apartB_spec hap rfl) hg' ⟨k, rfl, hk (by omega)⟩⟩
      simp [v29]
    · obtain rfl : _ = o := Option.some.inj ((show _ = some _ from rfl).symm.trans ho)
      have l19 : listed.getD 19 false = true := hd { on := 19, ground := .data } (by simp) rfl
      obtain ⟨k30, v30, b30⟩ := hS 19 30 _ rfl l19
      have hw : IntKind.i64.wrap (1 + (k30 : Int)) = 1 + (k30 : Int) := IntWalk.i64_in _ (by omega)
      refine wpOp_step rfl (fun K hK => ?_)
      go_simp
      refine hK _ _ ⟨hsz2, _, ?_, hJ.quiet, hS.next (i := 20) rfl (apartB_spec hap rfl) (World.grownBy.refl _ _) ⟨1 + (k30 : Int), rfl, by unfold RI; omega⟩⟩
      simp [v30]
    · obtain rfl : _ = o := Option.some.inj ((show _ = some _ from rfl).symm.trans ho)
      have l20 : listed.getD 20 false = true := hd { on := 20, ground := .data } (by simp) rfl
      obtain ⟨z31, v31, r31⟩ := hS 20 31 _ rfl l20
      have hgw : g < w.heap.size := by obtain ⟨p, _, hr, _⟩ := hJ; exact hr.lt
      refine wpOp_step rfl (fun K hK => ?_)
      go_simp
      refine hK _ _ ⟨hsz2, _, ?_, hJ.alloc _, hS.next (i := 21) rfl (apartB_spec hap rfl) (World.grownBy_alloc w _ _) (tab_new _ hgw (fun j hj => by
        match j, hj with
        | 0, _ => exact ⟨_, rfl, by exact r31⟩
        | 1, _ => exact ⟨_, rfl, by unfold RI; omega⟩
        | 2, _ => exact ⟨_, rfl, by unfold RI; omega⟩
        | 3, _ => exact ⟨_, rfl, by unfold RI; omega⟩))⟩
      simp [v31]
    · obtain rfl : _ = o := Option.some.inj ((show _ = some _ from rfl).symm.trans ho)
      have hgw : g < w.heap.size := by obtain ⟨p, _, hr, _⟩ := hJ; exact hr.lt
      refine wpOp_step rfl (fun K hK => ?_)
      go_simp
      refine hK _ _ ⟨hsz2, _, ?_, hJ.alloc _, hS.next (i := 22) rfl (apartB_spec hap rfl) (World.grownBy_alloc w _ _) (tab_new _ hgw (fun j hj => by
        match j, hj with
        | 0, _ => exact ⟨_, rfl, by unfold R4; omega⟩
        | 1, _ => exact ⟨_, rfl, by unfold R4; omega⟩
        | 2, _ => exact ⟨_, rfl, by unfold R4; omega⟩
        | 3, _ => exact ⟨_, rfl, by unfold R4; omega⟩
        | 4, _ => exact ⟨_, rfl, by unfold R4; omega⟩
        | 5, _ => exact ⟨_, rfl, by unfold R4; omega⟩
        | 6, _ => exact ⟨_, rfl, by unfold R4; omega⟩
        | 7, _ => exact ⟨_, rfl, by unfold R4; omega⟩))⟩
      simp []
    · obtain rfl : _ = o := Option.some.inj ((show _ = some _ from rfl).symm.trans ho)
      refine wpOp_step rfl (fun K hK => ?_)
      go_simp
      refine hK _ _ ⟨hsz2, _, ?_, hJ.quiet, hS.next (i := 23) rfl (apartB_spec hap rfl) (World.grownBy.refl _ _) rfl⟩
      simp []
    · obtain rfl : _ = o := Option.some.inj ((show _ = some _ from rfl).symm.trans ho)
      have l23 : listed.getD 23 false = true := hd { on := 23, ground := .data } (by simp) rfl
      have v34 : V 34 = _ := hS 23 34 _ rfl l23
      obtain ⟨p, hp, hr, hgr⟩ := hJ
      refine wpOp_step rfl (fun K hK => ?_)
      go_simp
      refine (pick_any g p _ _ hr (by omega) (by omega) (by omega)).mono ?_
      rintro e w' ⟨k, rfl, hk, -, hr', hg', -⟩
      refine hK _ _ ⟨hsz2, _, ?_, ⟨p + 1, by omega, hr', grown_trans hgr hg'⟩, hS.next (i := 24) rfl (apartB_spec hap rfl) hg' ⟨k, rfl, hk (by omega)⟩⟩
      simp [v34]
    · obtain rfl : _ = o := Option.some.inj ((show _ = some _ from rfl).symm.trans ho)
      have l22 : listed.getD 22 false = true := hd { on := 22, ground := .data } (by simp) rfl
      obtain ⟨s33, v33, g33, h33, t33⟩ := hS 22 33 _ rfl l22
      have l24 : listed.getD 24 false = true := hd { on := 24, ground := .data } (by simp) rfl
      obtain ⟨k35, v35, b35⟩ := hS 24 35 _ rfl l24
      have p35 : 0 ≤ (k35 : Int) ∧ (k35 : Int) < 8 := by omega
      obtain ⟨y, hy, ry⟩ := t33 k35 (by omega)
      refine wpOp_step rfl (fun K hK => ?_)
      go_simp
      refine hK _ _ ⟨hsz2, _, ?_, hJ.quiet, hS.next (i := 25) rfl (apartB_spec hap rfl) (World.grownBy.refl _ _) ⟨s33, k35, rfl, g33, h33, y, hy, ry⟩⟩
      simp [v33, v35]
    · obtain rfl : _ = o := Option.some.inj ((show _ = some _ from rfl).symm.trans ho)
      have l25 : listed.getD 25 false = true := hd { on := 25, ground := .data } (by simp) rfl
      obtain ⟨s36, j36, v36, g36, h36, z36, q36, r36⟩ := hS 25 36 _ rfl l25
      refine wpOp_step rfl (fun K hK => ?_)
      go_simp
      refine hK _ _ ⟨hsz2, _, ?_, hJ.quiet, hS.next (i := 26) rfl (apartB_spec hap rfl) (World.grownBy.refl _ _) ⟨z36, rfl, r36⟩⟩
      simp [v36]
    · obtain rfl : _ = o := Option.some.inj ((show _ = some _ from rfl).symm.trans ho)
      have l21 : listed.getD 21 false = true := hd { on := 21, ground := .data } (by simp) rfl
      obtain ⟨s32, v32, g32, h32, t32⟩ := hS 21 32 _ rfl l21
      have l26 : listed.getD 26 false = true := hd { on := 26, ground := .data } (by simp) rfl
      obtain ⟨z37, v37, r37⟩ := hS 26 37 _ rfl l26
      obtain ⟨n37, e37⟩ : ∃ n : Nat, z37 = (n : Int) := ⟨z37.toNat, by unfold R4 at r37; omega⟩
      subst e37
      unfold R4 at r37
      have p37 : 0 ≤ (n37 : Int) ∧ (n37 : Int) < 4 := by omega
      obtain ⟨y, hy, ry⟩ := t32 n37 (by omega)
      refine wpOp_step rfl (fun K hK => ?_)
      go_simp
      refine hK _ _ ⟨hsz2, _, ?_, hJ.quiet, hS.next (i := 27) rfl (apartB_spec hap rfl) (World.grownBy.refl _ _) ⟨s32, n37, rfl, g32, h32, y, hy, ry⟩⟩
      simp [v32, v37]
    · obtain rfl : _ = o := Option.some.inj ((show _ = some _ from rfl).symm.trans ho)
      have l27 : listed.getD 27 false = true := hd { on := 27, ground := .data } (by simp) rfl
      obtain ⟨s38, j38, v38, g38, h38, z38, q38, r38⟩ := hS 27 38 _ rfl l27
      refine wpOp_step rfl (fun K hK => ?_)
      go_simp
      refine hK _ _ ⟨hsz2, _, ?_, hJ.quiet, hS.next (i := 28) rfl (apartB_spec hap rfl) (World.grownBy.refl _ _) ⟨z38, rfl, r38⟩⟩
      simp [v38]
    · obtain rfl : _ = o := Option.some.inj ((show _ = some _ from rfl).symm.trans ho)
      have l0 : listed.getD 0 false = true := hd { on := 0, ground := .data } (by simp) rfl
      have v11 : V 11 = _ := hS 0 11 _ rfl l0
      refine wpOp_step rfl (fun K hK => ?_)
      go_simp
      refine hK _ _ ⟨hsz2, _, ?_, hJ.quiet, hS.next (i := 29) rfl (apartB_spec hap rfl) (World.grownBy.refl _ _) rfl⟩
      simp [v11]
    · obtain rfl : _ = o := Option.some.inj ((show _ = some _ from rfl).symm.trans ho)
      have l17 : listed.getD 17 false = true := hd { on := 17, ground := .data } (by simp) rfl
      obtain ⟨z28, v28, r28⟩ := hS 17 28 _ rfl l17
      refine wpOp_step rfl (fun K hK => ?_)
      go_simp
      refine hK _ _ ⟨hsz2, _, ?_, hJ.quiet, hS.next (i := 30) rfl (apartB_spec hap rfl) (World.grownBy.refl _ _) ⟨z28, rfl, r28⟩⟩
      simp [v28]
    · obtain rfl : _ = o := Option.some.inj ((show _ = some _ from rfl).symm.trans ho)
      have l28 : listed.getD 28 false = true := hd { on := 28, ground := .data } (by simp) rfl
      obtain ⟨z39, v39, r39⟩ := hS 28 39 _ rfl l28
      refine wpOp_step rfl (fun K hK => ?_)
      go_simp
      refine hK _ _ ⟨hsz2, _, ?_, hJ.quiet, hS.next (i := 31) rfl (apartB_spec hap rfl) (World.grownBy.refl _ _) ⟨z39, rfl, r39⟩⟩
      simp [v39]
  · intro fuel listed a W hI hall
    obtain ⟨hsz, V, rfl, hJ, hS⟩ := hI
    have hl : ∀ i, i < 32 → listed.getD i false = true := fun i hi => by
      have h1 := hall i hi
      by_cases hin : i < listed.size
      · simp [hin] at h1 ⊢
        exact h1
      · have hz : listed.size = 32 := hsz
        omega
    have v2 : V 2 = _ := hS 29 2 _ rfl (hl 29 (by omega))
    obtain ⟨x, v3, rx⟩ := hS 30 3 _ rfl (hl 30 (by omega))
    obtain ⟨y, v4, ry⟩ := hS 31 4 _ rfl (hl 31 (by omega))
    obtain ⟨p, -, hr, hgr⟩ := hJ
    have HX := Lib.hid rx
    have HY := Lib.hid ry
    have HW := Lib.hid hgr
    clear hS rx ry hgr hr hall hl
    go_wp2_with fail
    go_ret3
    obtain ⟨A3, c3, e3, hcc, h3⟩ := (HO.out.keep HW.out HOG.out).has
    injection e3 with eA _ eC
    subst eA eC
    exact ⟨Ab, cb, b, x, y, (by simp [v2, v3, v4]), h3, hcc, by omega, HX.out, HY.out, below_of_grown HB2.out HW.out (by omega) HB2.out.size⟩
end Go.Proofs.YtdipihdpfkoddaaDoor
