/-
  l20Pix draws some pixel, and it is one. Condition: fewer than 10^8 draws before.
-/
import Derived.Test.YtiemlakjallphabDoorOrdPick
import Derived.Test.YtiemlakjallphabDoorRasAtM
namespace Go.Proofs.YtiemlakjallphabDoor
set_option maxRecDepth 4000
open Go.RowKit

theorem set_all {listed : Array Bool} {i j n : Nat} (hs : listed.size = n) (hj : j < n) (h : j = i ∨ listed.getD j false = true) : (listed.setIfInBounds i true).getD j true = true := by
  have hjs : j < listed.size := by omega
  rcases h with rfl | h
  · simp [hjs]
  · simp [hjs] at h ⊢
    rw [Array.getElem_setIfInBounds (by simpa using hjs)]
    split
    · rfl
    · exact h
theorem set_other {listed : Array Bool} {i j : Nat} (h : listed.getD j false = false) (hne : i ≠ j) : (listed.setIfInBounds i true).getD j false = false := by
  simp only [Array.getD_eq_getD_getElem?, Array.getElem?_setIfInBounds] at h ⊢
  rw [if_neg hne]
  exact h
/-- A part of a colour. -/
def RC (z : Int) : Prop := 0 ≤ z ∧ z ≤ 255
def IsPx (v : Value) : Prop := ∃ p : Px, v = p.v ∧ pixB p = true
theorem px_in {a b c d : Int} (ha : RC a) (hb : RC b) (hc : RC c) (hd : RC d) : pixB ⟨a, b, c, d⟩ = true := by
  unfold RC at ha hb hc hd
  simp [pixB, partB, ha, hb, hc, hd]
theorem grown_cellp (w : World) (g i : Nat) (v : Value) : w.grownBy (w.setCell ⟨g, i, none⟩ v) (some g) := ⟨rfl, rfl, rfl, by simp, fun k _ hne => Below.heap_setCell w _ _ k (fun e => hne (by rw [e]))⟩
theorem grown_px (W : World) (R : Nat) (a b c d : Value) : W.grownBy ((((W.setCell ⟨R, 0, none⟩ a).setCell ⟨R, 1, none⟩ b).setCell ⟨R, 2, none⟩ c).setCell ⟨R, 3, none⟩ d) (some R) :=
  grown_trans (grown_trans (grown_trans (grown_cellp W R 0 a) (grown_cellp _ R 1 b)) (grown_cellp _ R 2 c)) (grown_cellp _ R 3 d)
theorem grown_drew1 (w : World) (row : Option Nat) : w.grownBy w.drew row := ⟨rfl, rfl, rfl, Nat.le_refl _, fun _ _ _ => rfl⟩
/-- What the slots of its return hold. -/
def pixT (g : Nat) (n : Int) : List (Nat × Slot) := [(11, .is (.int .i64 n)), (12, .is (.int .i64 n)), (13, .is (.pointer (some ⟨g, 0, none⟩))), (14, .below 256), (15, .tab 2 RC), (16, .is (.pointer (some ⟨g, 0, none⟩))), (17, .below 2), (18, .spot RC), (19, .num RC), (20, .is (.int .i64 n)), (21, .is (.pointer (some ⟨g, 0, none⟩))), (22, .below 256), (23, .tab 2 RC), (24, .is (.pointer (some ⟨g, 0, none⟩))), (25, .below 2), (26, .spot RC), (27, .num RC), (28, .is (.pointer (some ⟨g, 0, none⟩))), (29, .below 256), (30, .tab 4 RC), (31, .is (.pointer (some ⟨g, 0, none⟩))), (32, .below 4), (33, .spot RC), (34, .num RC), (35, .sat IsPx)]
theorem pixT_apart (g : Nat) (n : Int) : apartB (pixT g n) = true := by kernel_rfl
/-- What l20Pix answers. -/
def DrewP (w : World) (g p : Nat) (e : Ending) (w' : World) : Prop := ∃ q : Px, e = .returned q.v ∧ pixB q = true ∧ (∃ p', p' ≤ p + 28 ∧ Rdr w' g p') ∧ w.grownBy w' (some g)

set_option maxHeartbeats 4000000 in
theorem l20Pix_any (g p : Nat) (w : World) (h : Rdr w g p) (hp : p ≤ 100000000) :
    Calls Tryd.prog 83 #[.pointer (some ⟨g, 0, none⟩)] w (DrewP w g p) := by
  have hgw := h.lt
  go_enter Tryd.func83, Tryd.ntmps83
  have h0 := h.alloc (.cells #[.int .i64 0, .int .i64 0, .int .i64 0, .int .i64 0] 62)
  have hg0 : w.grownBy (w.alloc (.cells #[.int .i64 0, .int .i64 0, .int .i64 0, .int .i64 0] 62)) (some g) := World.grownBy_alloc w _ _
  have hx0 : (w.alloc (.cells #[.int .i64 0, .int .i64 0, .int .i64 0, .int .i64 0] 62)).heap[w.heap.size]? = some (.cells #[.int .i64 0, .int .i64 0, .int .i64 0, .int .i64 0] 62 (0, 0)) := heap_alloc_new w _
  go_wp2_with fail
  generalize w.alloc (.cells #[.int .i64 0, .int .i64 0, .int .i64 0, .int .i64 0] 62) = w0 at *
  refine (pick_any g p _ _ h0 (by omega) (by omega) (by omega)).mono ?_
  rintro e w1 ⟨k1, rfl, hk1, -, hr1, hg1, -⟩
  have hk1' : (k1 : Int) < 256 := hk1 (by omega)
  have hgr1 := grown_trans hg0 hg1
  have hx1 := (hg1.block w.heap.size (Array.getElem?_eq_some_iff.1 hx0).1 (by simp; omega)).trans hx0
  have h1a := hr1.alloc (.cells #[.int .i64 0, .int .i64 255, .int .i64 (k1 : Int)] 3)
  have CP := Lib.hid (pick_any g (p + 1) 3 _ h1a (by omega) (by omega) (by omega))
  have hg1w := hr1.lt
  clear hk1 hr1 hg0 hg1 hx0 h0 h h1a
  go_wp2_with fail
  refine CP.out.mono ?_
  rintro e w2 ⟨k2, rfl, hk2, -, hr2, hg2, -⟩
  have hk2' : (k2 : Int) < 3 := hk2 (by omega)
  obtain ⟨n, hz, hn⟩ : ∃ z : Int, w2.cell? ⟨w1.heap.size, k2, none⟩ = some (.int .i64 z) ∧ RC z := by
    obtain ⟨s, e, _, _, ht⟩ := Slot.stays (tab_new (n := 3) (R := RC) (t := 3) #[.int .i64 0, .int .i64 255, .int .i64 (k1 : Int)] hg1w (fun j hj => by
      match j, hj with
      | 0, _ => exact ⟨_, rfl, by unfold RC; omega⟩
      | 1, _ => exact ⟨_, rfl, by unfold RC; omega⟩
      | 2, _ => exact ⟨_, rfl, by unfold RC; omega⟩)) hg2
    injection e with e1 _ _
    injection e1 with e1
    injection e1 with e1 _ _
    rw [e1]
    exact ht k2 (by omega)
  have hx2 := (hg2.block w.heap.size (by simp; have := (Array.getElem?_eq_some_iff.1 hx1).1; omega) (by simp; omega)).trans ((Below.heap_alloc w1 _ _ (Array.getElem?_eq_some_iff.1 hx1).1).trans hx1)
  have HG := Lib.hid (grown_trans (grown_trans hgr1 (World.grownBy_alloc w1 _ _)) hg2)
  obtain ⟨R, hRR⟩ : ∃ R, w.heap.size = R := ⟨_, rfl⟩
  have hRg : g < R := by omega
  rw [hRR] at hx2
  have HR : Hid (∀ W, w2.grownBy W (some g) → W.heap[R]? = some (.cells #[.int .i64 0, .int .i64 0, .int .i64 0, .int .i64 0] 62 (0, 0))) := Lib.hid fun W hW => (hW.block R (Array.getElem?_eq_some_iff.1 hx2).1 (by simp; omega)).trans hx2
  clear hx1 hx2 hk2 hg2 hgr1 CP
  have hap := pixT_apart g n
  go_wp2_with fail
  refine wp_region_inv (fun fuel listed a W => (listed.size = 26 ∧ listed.getD 25 false = false ∧ ∃ V : Nat → Value, a = { tmps := #[.pointer (some ⟨g, 0, none⟩), undef, .pointer (some ⟨R, 0, none⟩), .int .i64 n, .pointer (some ⟨g, 0, none⟩), .int .i64 (k1 : Int), .slice (some ⟨w1.heap.size, 0, none⟩) 3 3, .pointer (some ⟨g, 0, none⟩), .int .i64 (k2 : Int), .pointer (some ⟨w1.heap.size, k2, none⟩), .int .i64 n, V 11, V 12, V 13, V 14, V 15, V 16, V 17, V 18, V 19, V 20, V 21, V 22, V 23, V 24, V 25, V 26, V 27, V 28, V 29, V 30, V 31, V 32, V 33, V 34, V 35], defers := [] } ∧ Reads w2 g (p + 28) fuel W ∧ Slots g (pixT g n) V listed W)
      ∨ ((∀ j, j < 26 → listed.getD j true = true) ∧ ∃ q : Px, pixB q = true ∧ ∃ W1 p', p' ≤ p + 28 ∧ Rdr W1 g p' ∧ w2.grownBy W1 (some g) ∧ W = (((W1.setCell ⟨R, 0, none⟩ (.int .i64 q.r)).setCell ⟨R, 1, none⟩ (.int .i64 q.g)).setCell ⟨R, 2, none⟩ (.int .i64 q.b)).setCell ⟨R, 3, none⟩ (.int .i64 q.a) ∧ ∃ V : Nat → Value, a = { tmps := #[.pointer (some ⟨g, 0, none⟩), undef, .pointer (some ⟨R, 0, none⟩), .int .i64 n, .pointer (some ⟨g, 0, none⟩), .int .i64 (k1 : Int), .slice (some ⟨w1.heap.size, 0, none⟩) 3 3, .pointer (some ⟨g, 0, none⟩), .int .i64 (k2 : Int), .pointer (some ⟨w1.heap.size, k2, none⟩), .int .i64 n, V 11, V 12, V 13, V 14, V 15, V 16, V 17, V 18, V 19, V 20, V 21, V 22, V 23, V 24, V 25, V 26, V 27, V 28, V 29, V 30, V 31, V 32, V 33, V 34, V 35], defers := [] })) (by kernel_rfl) (by kernel_rfl) ?_ ?_ ?_
  · exact .inl ⟨by simp, by simp, fun _ => undef, by simp, ⟨p + 1 + 1, by simp, hr2, grown_drew1 w2 _⟩, fun i d t _ hl => by
      rw [Array.getD_eq_getD_getElem?, Array.getElem?_replicate] at hl
      split at hl <;> simp at hl⟩
  · clear hr2
    rintro fuel listed a w i o (⟨hsz, hne, V, rfl, hJ, hS⟩ | ⟨hall, _⟩) ho hlist hd
    rotate_left
    · rw [hall i (Array.getElem?_eq_some_iff.1 ho).1] at hlist
      cases hlist
    have hsz2 : (listed.setIfInBounds i true).size = 26 := by simpa using hsz
    have hn2 : i ≠ 25 → (listed.setIfInBounds i true).getD 25 false = false := set_other hne
    have hi : i < 26 := (Array.getElem?_eq_some_iff.1 ho).1
    have hi2 : i = 0 ∨ i = 1 ∨ i = 2 ∨ i = 3 ∨ i = 4 ∨ i = 5 ∨ i = 6 ∨ i = 7 ∨ i = 8 ∨ i = 9 ∨ i = 10 ∨ i = 11 ∨ i = 12 ∨ i = 13 ∨ i = 14 ∨ i = 15 ∨ i = 16 ∨ i = 17 ∨ i = 18 ∨ i = 19 ∨ i = 20 ∨ i = 21 ∨ i = 22 ∨ i = 23 ∨ i = 24 ∨ i = 25 := by omega
    clear hlist hi hne
    rcases hi2 with rfl | rfl | rfl | rfl | rfl | rfl | rfl | rfl | rfl | rfl | rfl | rfl | rfl | rfl | rfl | rfl | rfl | rfl | rfl | rfl | rfl | rfl | rfl | rfl | rfl | rfl
    · obtain rfl : _ = o := Option.some.inj ((show _ = some _ from rfl).symm.trans ho)
      refine wpOp_step rfl (fun K hK => ?_)
      go_simp
      refine hK _ _ (.inl ⟨hsz2, hn2 (by decide), _, ?_, hJ.quiet, hS.next (i := 0) rfl (apartB_spec hap rfl) (World.grownBy.refl _ _) rfl⟩)
      simp []
    · obtain rfl : _ = o := Option.some.inj ((show _ = some _ from rfl).symm.trans ho)
      refine wpOp_step rfl (fun K hK => ?_)
      go_simp
      refine hK _ _ (.inl ⟨hsz2, hn2 (by decide), _, ?_, hJ.quiet, hS.next (i := 1) rfl (apartB_spec hap rfl) (World.grownBy.refl _ _) rfl⟩)
      simp []
    · obtain rfl : _ = o := Option.some.inj ((show _ = some _ from rfl).symm.trans ho)
      refine wpOp_step rfl (fun K hK => ?_)
      go_simp
      refine hK _ _ (.inl ⟨hsz2, hn2 (by decide), _, ?_, hJ.quiet, hS.next (i := 2) rfl (apartB_spec hap rfl) (World.grownBy.refl _ _) rfl⟩)
      simp []
    · obtain rfl : _ = o := Option.some.inj ((show _ = some _ from rfl).symm.trans ho)
      have l2 : listed.getD 2 false = true := hd { on := 2, ground := .data } (by simp) rfl
      have v13 : V 13 = _ := hS 2 13 _ rfl l2
      obtain ⟨p, hp, hr, hgr⟩ := hJ
      refine wpOp_step rfl (fun K hK => ?_)
      go_simp
      refine (pick_any g p _ _ hr (by omega) (by omega) (by omega)).mono ?_
      rintro e w' ⟨k, rfl, hk, -, hr', hg', -⟩
      refine hK _ _ (.inl ⟨hsz2, hn2 (by decide), _, ?_, ⟨p + 1, by omega, hr', grown_trans hgr hg'⟩, hS.next (i := 3) rfl (apartB_spec hap rfl) hg' ⟨k, rfl, hk (by omega)⟩⟩)
      simp [v13]
    · obtain rfl : _ = o := Option.some.inj ((show _ = some _ from rfl).symm.trans ho)
      have l1 : listed.getD 1 false = true := hd { on := 1, ground := .data } (by simp) rfl
      have v12 : V 12 = _ := hS 1 12 _ rfl l1
      have l3 : listed.getD 3 false = true := hd { on := 3, ground := .data } (by simp) rfl
      obtain ⟨k14, v14, b14⟩ := hS 3 14 _ rfl l3
      have hgw : g < w.heap.size := by obtain ⟨p, _, hr, _⟩ := hJ; exact hr.lt
      refine wpOp_step rfl (fun K hK => ?_)
      go_simp
      refine hK _ _ (.inl ⟨hsz2, hn2 (by decide), _, ?_, hJ.alloc _, hS.next (i := 4) rfl (apartB_spec hap rfl) (World.grownBy_alloc w _ _) (tab_new _ hgw (fun j hj => by
        match j, hj with
        | 0, _ => exact ⟨_, rfl, by exact hn⟩
        | 1, _ => exact ⟨_, rfl, by unfold RC; omega⟩))⟩)
      simp [v12, v14]
    · obtain rfl : _ = o := Option.some.inj ((show _ = some _ from rfl).symm.trans ho)
      refine wpOp_step rfl (fun K hK => ?_)
      go_simp
      refine hK _ _ (.inl ⟨hsz2, hn2 (by decide), _, ?_, hJ.quiet, hS.next (i := 5) rfl (apartB_spec hap rfl) (World.grownBy.refl _ _) rfl⟩)
      simp []
    · obtain rfl : _ = o := Option.some.inj ((show _ = some _ from rfl).symm.trans ho)
      have l5 : listed.getD 5 false = true := hd { on := 5, ground := .data } (by simp) rfl
      have v16 : V 16 = _ := hS 5 16 _ rfl l5
      obtain ⟨p, hp, hr, hgr⟩ := hJ
      refine wpOp_step rfl (fun K hK => ?_)
      go_simp
      refine (pick_any g p _ _ hr (by omega) (by omega) (by omega)).mono ?_
      rintro e w' ⟨k, rfl, hk, -, hr', hg', -⟩
      refine hK _ _ (.inl ⟨hsz2, hn2 (by decide), _, ?_, ⟨p + 1, by omega, hr', grown_trans hgr hg'⟩, hS.next (i := 6) rfl (apartB_spec hap rfl) hg' ⟨k, rfl, hk (by omega)⟩⟩)
      simp [v16]
    · obtain rfl : _ = o := Option.some.inj ((show _ = some _ from rfl).symm.trans ho)
      have l4 : listed.getD 4 false = true := hd { on := 4, ground := .data } (by simp) rfl
      obtain ⟨s15, v15, g15, h15, t15⟩ := hS 4 15 _ rfl l4
      have l6 : listed.getD 6 false = true := hd { on := 6, ground := .data } (by simp) rfl
      obtain ⟨k17, v17, b17⟩ := hS 6 17 _ rfl l6
      have p17 : 0 ≤ (k17 : Int) ∧ (k17 : Int) < 2 := by omega
      obtain ⟨y, hy, ry⟩ := t15 k17 (by omega)
      refine wpOp_step rfl (fun K hK => ?_)
      go_simp
      refine hK _ _ (.inl ⟨hsz2, hn2 (by decide), _, ?_, hJ.quiet, hS.next (i := 7) rfl (apartB_spec hap rfl) (World.grownBy.refl _ _) ⟨s15, k17, rfl, g15, h15, y, hy, ry⟩⟩)
      simp [v15, v17]
    · obtain rfl : _ = o := Option.some.inj ((show _ = some _ from rfl).symm.trans ho)
      have l7 : listed.getD 7 false = true := hd { on := 7, ground := .data } (by simp) rfl
      obtain ⟨s18, j18, v18, g18, h18, z18, q18, r18⟩ := hS 7 18 _ rfl l7
      refine wpOp_step rfl (fun K hK => ?_)
      go_simp
      refine hK _ _ (.inl ⟨hsz2, hn2 (by decide), _, ?_, hJ.quiet, hS.next (i := 8) rfl (apartB_spec hap rfl) (World.grownBy.refl _ _) ⟨z18, rfl, r18⟩⟩)
      simp [v18]
    · obtain rfl : _ = o := Option.some.inj ((show _ = some _ from rfl).symm.trans ho)
      refine wpOp_step rfl (fun K hK => ?_)
      go_simp
      refine hK _ _ (.inl ⟨hsz2, hn2 (by decide), _, ?_, hJ.quiet, hS.next (i := 9) rfl (apartB_spec hap rfl) (World.grownBy.refl _ _) rfl⟩)
      simp []
    · obtain rfl : _ = o := Option.some.inj ((show _ = some _ from rfl).symm.trans ho)
      refine wpOp_step rfl (fun K hK => ?_)
      go_simp
      refine hK _ _ (.inl ⟨hsz2, hn2 (by decide), _, ?_, hJ.quiet, hS.next (i := 10) rfl (apartB_spec hap rfl) (World.grownBy.refl _ _) rfl⟩)
      simp []
    · obtain rfl : _ = o := Option.some.inj ((show _ = some _ from rfl).symm.trans ho)
      have l10 : listed.getD 10 false = true := hd { on := 10, ground := .data } (by simp) rfl
      have v21 : V 21 = _ := hS 10 21 _ rfl l10
      obtain ⟨p, hp, hr, hgr⟩ := hJ
      refine wpOp_step rfl (fun K hK => ?_)
      go_simp
      refine (pick_any g p _ _ hr (by omega) (by omega) (by omega)).mono ?_
      rintro e w' ⟨k, rfl, hk, -, hr', hg', -⟩
      refine hK _ _ (.inl ⟨hsz2, hn2 (by decide), _, ?_, ⟨p + 1, by omega, hr', grown_trans hgr hg'⟩, hS.next (i := 11) rfl (apartB_spec hap rfl) hg' ⟨k, rfl, hk (by omega)⟩⟩)
      simp [v21]
    · obtain rfl : _ = o := Option.some.inj ((show _ = some _ from rfl).symm.trans ho)
      have l9 : listed.getD 9 false = true := hd { on := 9, ground := .data } (by simp) rfl
      have v20 : V 20 = _ := hS 9 20 _ rfl l9
      have l11 : listed.getD 11 false = true := hd { on := 11, ground := .data } (by simp) rfl
      obtain ⟨k22, v22, b22⟩ := hS 11 22 _ rfl l11
      have hgw : g < w.heap.size := by obtain ⟨p, _, hr, _⟩ := hJ; exact hr.lt
      refine wpOp_step rfl (fun K hK => ?_)
      go_simp
      refine hK _ _ (.inl ⟨hsz2, hn2 (by decide), _, ?_, hJ.alloc _, hS.next (i := 12) rfl (apartB_spec hap rfl) (World.grownBy_alloc w _ _) (tab_new _ hgw (fun j hj => by
        match j, hj with
        | 0, _ => exact ⟨_, rfl, by exact hn⟩
        | 1, _ => exact ⟨_, rfl, by unfold RC; omega⟩))⟩)
      simp [v20, v22]
    · obtain rfl : _ = o := Option.some.inj ((show _ = some _ from rfl).symm.trans ho)
      refine wpOp_step rfl (fun K hK => ?_)
      go_simp
      refine hK _ _ (.inl ⟨hsz2, hn2 (by decide), _, ?_, hJ.quiet, hS.next (i := 13) rfl (apartB_spec hap rfl) (World.grownBy.refl _ _) rfl⟩)
      simp []
    · obtain rfl : _ = o := Option.some.inj ((show _ = some _ from rfl).symm.trans ho)
      have l13 : listed.getD 13 false = true := hd { on := 13, ground := .data } (by simp) rfl
      have v24 : V 24 = _ := hS 13 24 _ rfl l13
      obtain ⟨p, hp, hr, hgr⟩ := hJ
      refine wpOp_step rfl (fun K hK => ?_)
      go_simp
      refine (pick_any g p _ _ hr (by omega) (by omega) (by omega)).mono ?_
      rintro e w' ⟨k, rfl, hk, -, hr', hg', -⟩
      refine hK _ _ (.inl ⟨hsz2, hn2 (by decide), _, ?_, ⟨p + 1, by omega, hr', grown_trans hgr hg'⟩, hS.next (i := 14) rfl (apartB_spec hap rfl) hg' ⟨k, rfl, hk (by omega)⟩⟩)
      simp [v24]
    · obtain rfl : _ = o := Option.some.inj ((show _ = some _ from rfl).symm.trans ho)
      have l12 : listed.getD 12 false = true := hd { on := 12, ground := .data } (by simp) rfl
      obtain ⟨s23, v23, g23, h23, t23⟩ := hS 12 23 _ rfl l12
      have l14 : listed.getD 14 false = true := hd { on := 14, ground := .data } (by simp) rfl
      obtain ⟨k25, v25, b25⟩ := hS 14 25 _ rfl l14
      have p25 : 0 ≤ (k25 : Int) ∧ (k25 : Int) < 2 := by omega
      obtain ⟨y, hy, ry⟩ := t23 k25 (by omega)
      refine wpOp_step rfl (fun K hK => ?_)
      go_simp
      refine hK _ _ (.inl ⟨hsz2, hn2 (by decide), _, ?_, hJ.quiet, hS.next (i := 15) rfl (apartB_spec hap rfl) (World.grownBy.refl _ _) ⟨s23, k25, rfl, g23, h23, y, hy, ry⟩⟩)
      simp [v23, v25]
    · obtain rfl : _ = o := Option.some.inj ((show _ = some _ from rfl).symm.trans ho)
      have l15 : listed.getD 15 false = true := hd { on := 15, ground := .data } (by simp) rfl
      obtain ⟨s26, j26, v26, g26, h26, z26, q26, r26⟩ := hS 15 26 _ rfl l15
      refine wpOp_step rfl (fun K hK => ?_)
      go_simp
      refine hK _ _ (.inl ⟨hsz2, hn2 (by decide), _, ?_, hJ.quiet, hS.next (i := 16) rfl (apartB_spec hap rfl) (World.grownBy.refl _ _) ⟨z26, rfl, r26⟩⟩)
      simp [v26]
    · obtain rfl : _ = o := Option.some.inj ((show _ = some _ from rfl).symm.trans ho)
      refine wpOp_step rfl (fun K hK => ?_)
      go_simp
      refine hK _ _ (.inl ⟨hsz2, hn2 (by decide), _, ?_, hJ.quiet, hS.next (i := 17) rfl (apartB_spec hap rfl) (World.grownBy.refl _ _) rfl⟩)
      simp []
    · obtain rfl : _ = o := Option.some.inj ((show _ = some _ from rfl).symm.trans ho)
      have l17 : listed.getD 17 false = true := hd { on := 17, ground := .data } (by simp) rfl
      have v28 : V 28 = _ := hS 17 28 _ rfl l17
      obtain ⟨p, hp, hr, hgr⟩ := hJ
      refine wpOp_step rfl (fun K hK => ?_)
      go_simp
      refine (pick_any g p _ _ hr (by omega) (by omega) (by omega)).mono ?_
      rintro e w' ⟨k, rfl, hk, -, hr', hg', -⟩
      refine hK _ _ (.inl ⟨hsz2, hn2 (by decide), _, ?_, ⟨p + 1, by omega, hr', grown_trans hgr hg'⟩, hS.next (i := 18) rfl (apartB_spec hap rfl) hg' ⟨k, rfl, hk (by omega)⟩⟩)
      simp [v28]
    · obtain rfl : _ = o := Option.some.inj ((show _ = some _ from rfl).symm.trans ho)
      have l18 : listed.getD 18 false = true := hd { on := 18, ground := .data } (by simp) rfl
      obtain ⟨k29, v29, b29⟩ := hS 18 29 _ rfl l18
      have hgw : g < w.heap.size := by obtain ⟨p, _, hr, _⟩ := hJ; exact hr.lt
      refine wpOp_step rfl (fun K hK => ?_)
      go_simp
      refine hK _ _ (.inl ⟨hsz2, hn2 (by decide), _, ?_, hJ.alloc _, hS.next (i := 19) rfl (apartB_spec hap rfl) (World.grownBy_alloc w _ _) (tab_new _ hgw (fun j hj => by
        match j, hj with
        | 0, _ => exact ⟨_, rfl, by unfold RC; omega⟩
        | 1, _ => exact ⟨_, rfl, by unfold RC; omega⟩
        | 2, _ => exact ⟨_, rfl, by unfold RC; omega⟩
        | 3, _ => exact ⟨_, rfl, by unfold RC; omega⟩))⟩)
      simp [v29]
    · obtain rfl : _ = o := Option.some.inj ((show _ = some _ from rfl).symm.trans ho)
      refine wpOp_step rfl (fun K hK => ?_)
      go_simp
      refine hK _ _ (.inl ⟨hsz2, hn2 (by decide), _, ?_, hJ.quiet, hS.next (i := 20) rfl (apartB_spec hap rfl) (World.grownBy.refl _ _) rfl⟩)
      simp []
    · obtain rfl : _ = o := Option.some.inj ((show _ = some _ from rfl).symm.trans ho)
      have l20 : listed.getD 20 false = true := hd { on := 20, ground := .data } (by simp) rfl
      have v31 : V 31 = _ := hS 20 31 _ rfl l20
      obtain ⟨p, hp, hr, hgr⟩ := hJ
      refine wpOp_step rfl (fun K hK => ?_)
      go_simp
      refine (pick_any g p _ _ hr (by omega) (by omega) (by omega)).mono ?_
      rintro e w' ⟨k, rfl, hk, -, hr', hg', -⟩
      refine hK _ _ (.inl ⟨hsz2, hn2 (by decide), _, ?_, ⟨p + 1, by omega, hr', grown_trans hgr hg'⟩, hS.next (i := 21) rfl (apartB_spec hap rfl) hg' ⟨k, rfl, hk (by omega)⟩⟩)
      simp [v31]
    · obtain rfl : _ = o := Option.some.inj ((show _ = some _ from rfl).symm.trans ho)
      have l19 : listed.getD 19 false = true := hd { on := 19, ground := .data } (by simp) rfl
      obtain ⟨s30, v30, g30, h30, t30⟩ := hS 19 30 _ rfl l19
      have l21 : listed.getD 21 false = true := hd { on := 21, ground := .data } (by simp) rfl
      obtain ⟨k32, v32, b32⟩ := hS 21 32 _ rfl l21
      have p32 : 0 ≤ (k32 : Int) ∧ (k32 : Int) < 4 := by omega
      obtain ⟨y, hy, ry⟩ := t30 k32 (by omega)
      refine wpOp_step rfl (fun K hK => ?_)
      go_simp
      refine hK _ _ (.inl ⟨hsz2, hn2 (by decide), _, ?_, hJ.quiet, hS.next (i := 22) rfl (apartB_spec hap rfl) (World.grownBy.refl _ _) ⟨s30, k32, rfl, g30, h30, y, hy, ry⟩⟩)
      simp [v30, v32]
    · obtain rfl : _ = o := Option.some.inj ((show _ = some _ from rfl).symm.trans ho)
      have l22 : listed.getD 22 false = true := hd { on := 22, ground := .data } (by simp) rfl
      obtain ⟨s33, j33, v33, g33, h33, z33, q33, r33⟩ := hS 22 33 _ rfl l22
      refine wpOp_step rfl (fun K hK => ?_)
      go_simp
      refine hK _ _ (.inl ⟨hsz2, hn2 (by decide), _, ?_, hJ.quiet, hS.next (i := 23) rfl (apartB_spec hap rfl) (World.grownBy.refl _ _) ⟨z33, rfl, r33⟩⟩)
      simp [v33]
    · obtain rfl : _ = o := Option.some.inj ((show _ = some _ from rfl).symm.trans ho)
      have l0 : listed.getD 0 false = true := hd { on := 0, ground := .data } (by simp) rfl
      have v11 : V 11 = _ := hS 0 11 _ rfl l0
      have l8 : listed.getD 8 false = true := hd { on := 8, ground := .data } (by simp) rfl
      obtain ⟨z19, v19, r19⟩ := hS 8 19 _ rfl l8
      have l16 : listed.getD 16 false = true := hd { on := 16, ground := .data } (by simp) rfl
      obtain ⟨z27, v27, r27⟩ := hS 16 27 _ rfl l16
      have l23 : listed.getD 23 false = true := hd { on := 23, ground := .data } (by simp) rfl
      obtain ⟨z34, v34, r34⟩ := hS 23 34 _ rfl l23
      refine wpOp_step rfl (fun K hK => ?_)
      go_simp
      refine hK _ _ (.inl ⟨hsz2, hn2 (by decide), _, ?_, hJ.quiet, hS.next (i := 24) rfl (apartB_spec hap rfl) (World.grownBy.refl _ _) ⟨⟨n, z19, z27, z34⟩, rfl, px_in hn r19 r27 r34⟩⟩)
      simp [v11, v19, v27, v34, Px.v]
    · obtain rfl : _ = o := Option.some.inj ((show _ = some _ from rfl).symm.trans ho)
      have l24 : listed.getD 24 false = true := hd { on := 24, ground := .data } (by simp) rfl
      obtain ⟨x35, v35, r35⟩ := hS 24 35 _ rfl l24
      obtain ⟨p, hp, hr, hgr⟩ := hJ
      have hrow := HR.out w hgr
      have c0 : w.cell? ⟨R, 0, none⟩ = some (.int .i64 0) := by rw [cell_of_row w _ 0 _ _ _ hrow]; rfl
      have c1 : w.cell? ⟨R, 1, none⟩ = some (.int .i64 0) := by rw [cell_of_row w _ 1 _ _ _ hrow]; rfl
      have c2 : w.cell? ⟨R, 2, none⟩ = some (.int .i64 0) := by rw [cell_of_row w _ 2 _ _ _ hrow]; rfl
      have c3 : w.cell? ⟨R, 3, none⟩ = some (.int .i64 0) := by rw [cell_of_row w _ 3 _ _ _ hrow]; rfl
      have f0 : w.frozen? ⟨R, 0, none⟩ = false := by simp [World.frozen?, hrow]
      have f1 : w.frozen? ⟨R, 1, none⟩ = false := by simp [World.frozen?, hrow]
      have f2 : w.frozen? ⟨R, 2, none⟩ = false := by simp [World.frozen?, hrow]
      have f3 : w.frozen? ⟨R, 3, none⟩ = false := by simp [World.frozen?, hrow]
      unfold Px.v at v35
      refine wpOp_step rfl (fun K hK => ?_)
      go_simp
      refine hK _ _ (.inr ⟨fun j hj => ?_, x35, r35, w, p, by omega, hr, hgr, ?_, V, ?_⟩)
      · refine set_all hsz hj ?_
        have hall : ∀ i, i < 25 → listed.getD i false = true := fun i hi => by
          have hi2 : i = 0 ∨ i = 1 ∨ i = 2 ∨ i = 3 ∨ i = 4 ∨ i = 5 ∨ i = 6 ∨ i = 7 ∨ i = 8 ∨ i = 9 ∨ i = 10 ∨ i = 11 ∨ i = 12 ∨ i = 13 ∨ i = 14 ∨ i = 15 ∨ i = 16 ∨ i = 17 ∨ i = 18 ∨ i = 19 ∨ i = 20 ∨ i = 21 ∨ i = 22 ∨ i = 23 ∨ i = 24 := by omega
          rcases hi2 with rfl | rfl | rfl | rfl | rfl | rfl | rfl | rfl | rfl | rfl | rfl | rfl | rfl | rfl | rfl | rfl | rfl | rfl | rfl | rfl | rfl | rfl | rfl | rfl | rfl
          all_goals first | exact hd _ (by simp; exact .inl rfl) rfl | exact hd { on := _, ground := .phase } (by simp) rfl | exact hd { on := _, ground := .data } (by simp) rfl
        by_cases h25 : j = 25
        · exact .inl h25
        · exact .inr (hall j (by omega))
      · rfl
      · simp [v35]
  · intro fuel listed a W hI hall
    rcases hI with ⟨hsz, hne, _⟩ | ⟨_, q, hq, W1, p', hp', hr', hg', rfl, V, rfl⟩
    · have h1 := hall 25 (by decide)
      have hin : 25 < listed.size := by omega
      simp [hin] at h1 hne
      rw [h1] at hne
      cases hne
    have HQ := Lib.hid (fin_px (HR.out W1 hg') q)
    have HF : Hid (DrewP w g p (.returned q.v) ((((W1.setCell ⟨R, 0, none⟩ (.int .i64 q.r)).setCell ⟨R, 1, none⟩ (.int .i64 q.g)).setCell ⟨R, 2, none⟩ (.int .i64 q.b)).setCell ⟨R, 3, none⟩ (.int .i64 q.a))) := Lib.hid ⟨q, rfl, hq, ⟨p', hp', hr'.kept fun j hj => by
      have hz := hr'.lt
      rw [Below.heap_setCell _ _ _ j (by simp; omega), Below.heap_setCell _ _ _ j (by simp; omega), Below.heap_setCell _ _ _ j (by simp; omega), Below.heap_setCell _ _ _ j (by simp; omega)]⟩,
      grown_own (grown_trans HG.out hg') (grown_px W1 R _ _ _ _) (fun x hx => by injection hx with hx; omega)⟩
    clear hr' hg' hall hr2
    go_wp2_with fail
    (try simp only [Exit.inBlock, Exit.then])
    exact bodyPost_ret (results_cell_row rfl _ _ R 62 #[.int .i64 q.r, .int .i64 q.g, .int .i64 q.b, .int .i64 q.a] (0, 0) _ rfl HQ.out Tryd.underlying62 rfl (by kernel_rfl)) rfl HF.out
end Go.Proofs.YtiemlakjallphabDoor
