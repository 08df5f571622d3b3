/-
  toPixPix and toPixPixS copy pixels, szPixPixS counts them, eqPixPix and eqPixPixS tell that the same are the same. Condition: at most 2^30 pixels.
-/
import Derived.Test.YtiemlakjallphabDoorPixO
import Derived.Test.YtiemlakjallphabDoorBitE
import Derived.StillTailTactics
namespace Go.Proofs.YtiemlakjallphabDoor
set_option maxRecDepth 4000
open Go.RowKit

set_option maxHeartbeats 400000 in
theorem toPixPix_any (p : Px) (w : World) :
    Calls Tryd.prog 67 #[.agg #[.int .i64 p.r, .int .i64 p.g, .int .i64 p.b, .int .i64 p.a]] w fun e w' => e = .returned (.agg #[.int .i64 p.r, .int .i64 p.g, .int .i64 p.b, .int .i64 p.a]) ∧ Below w.heap.size w w' := by
  go_enter Tryd.func67, Tryd.ntmps67
  go_wp2_with fail
  (try simp only [Exit.inBlock, Exit.then])
  refine bodyPost_ret (results_cell_row rfl _ _ (w.heap.size + 1) 62 #[.int .i64 p.r, .int .i64 p.g, .int .i64 p.b, .int .i64 p.a] (0, 0) _ rfl ?_ Tryd.underlying62 rfl (by kernel_rfl)) rfl ?_
  · have h := heap_alloc_new (w.alloc (.cells #[.int .i64 p.r, .int .i64 p.g, .int .i64 p.b, .int .i64 p.a] 88)) (.cells #[.int .i64 p.r, .int .i64 p.g, .int .i64 p.b, .int .i64 p.a] 62)
    refine (Below.heap_alloc _ _ _ (by simp)).trans ?_
    simpa using h
  · exact ⟨rfl, (((Below.refl _ w).alloc (Nat.le_refl _) _).alloc (by simp) _).alloc (by simp; omega) _⟩

theorem szPixPixS_any (A : Option Addr) (n c : Nat) (w : World) (hn : n ≤ maxLen) :
    Calls Tryd.prog 33 #[.slice A n c, .int .i64 1048576] w fun e w' => e = .returned (.int .i64 (if n ≤ 1048576 then 1048576 - (n : Int) else -1)) ∧ w' = w := by
  have u1 := IntWalk.i64_in ((1048576 : Int) - (n : Int)) (by unfold maxLen at hn; omega)
  clear hn
  by_cases h : n ≤ 1048576
  · rw [if_pos h]
    have hb : ¬ ((1048576 : Int) - (n : Int) < 0) := by omega
    clear h
    go_enter Tryd.func33, Tryd.ntmps33
    go_wp2
    go_ret
    exact ⟨rfl, rfl⟩
  · rw [if_neg h]
    have hb : (1048576 : Int) - (n : Int) < 0 := by omega
    clear h
    go_enter Tryd.func33, Tryd.ntmps33
    go_wp2
    go_ret
    exact ⟨rfl, rfl⟩
set_option maxHeartbeats 400000 in
theorem eqPixPix_same (p : Px) (w : World) :
    Calls Tryd.prog 76 #[.agg #[.int .i64 p.r, .int .i64 p.g, .int .i64 p.b, .int .i64 p.a], .agg #[.int .i64 p.r, .int .i64 p.g, .int .i64 p.b, .int .i64 p.a]] w fun e w' => e = .returned (.bool true) ∧ Below w.heap.size w w' := by
  go_enter Tryd.func76, Tryd.ntmps76
  go_wp2
  go_ret
  exact ⟨rfl, ((Below.refl _ w).alloc (Nat.le_refl _) _).alloc (by simp) _⟩
set_option maxHeartbeats 400000 in
theorem eqPixPixS_same (A A' : Option Addr) (c c' : Nat) (l : List Px) (w : World) (hs : l.length ≤ 1073741824) (h : HasP w w.heap.size A l) (h' : HasP w w.heap.size A' l) :
    Calls Tryd.prog 43 #[.slice A l.length c, .slice A' l.length c'] w fun e w' => e = .returned (.bool true) ∧ Below w.heap.size w w' := by
  go_enter Tryd.func43, Tryd.ntmps43
  go_wp2
  go_loopw [5] (fun i wr => ∃ k : Nat, k ≤ l.length ∧ i = .int .i64 k ∧ Below w.heap.size w wr) (fun i _ => l.length - (intOf i).toNat)
  case atStart => exact ⟨0, Nat.zero_le _, rfl, Below.refl _ _⟩
  case round =>
    obtain ⟨k, hk, rfl, hbel⟩ := hrel
    by_cases hlt : k < l.length
    · obtain ⟨b, o, p, rfl, hbB, hp, a0, a1, a2, a3⟩ := (h.below hbel).spot hlt
      obtain ⟨b', o', p', rfl, hbB', hp', a0', a1', a2', a3'⟩ := (h'.below hbel).spot hlt
      obtain rfl : p = p' := by rw [hp] at hp'; injection hp'
      have d0 : wr.drew.cell? ⟨b, o + k * 4, none⟩ = _ := a0
      have d1 : wr.drew.cell? ⟨b, o + k * 4 + 1, none⟩ = _ := a1
      have d2 : wr.drew.cell? ⟨b, o + k * 4 + 2, none⟩ = _ := a2
      have d3 : wr.drew.cell? ⟨b, o + k * 4 + 3, none⟩ = _ := a3
      have d0' : wr.drew.cell? ⟨b', o' + k * 4, none⟩ = _ := a0'
      have d1' : wr.drew.cell? ⟨b', o' + k * 4 + 1, none⟩ = _ := a1'
      have d2' : wr.drew.cell? ⟨b', o' + k * 4 + 2, none⟩ = _ := a2'
      have d3' : wr.drew.cell? ⟨b', o' + k * 4 + 3, none⟩ = _ := a3'
      have pk : 0 ≤ (k : Int) ∧ (k : Int) < (l.length : Int) := by omega
      have HB : Hid (Below w.heap.size w wr.drew) := Lib.hid ⟨hbel.os, hbel.tape, hbel.output, hbel.size, hbel.block⟩
      clear hp hp' h h' hbel a0 a1 a2 a3 a0' a1' a2' a3'
      go_wp2_with fail
      refine wp_region_still_tail 8 (by kernel_rfl) (by kernel_rfl) ?_
      simp only [List.take_succ_cons, List.take_zero, List.drop_succ_cons, List.drop_zero]
      change wpStill _ _ wr.drew _ _ _
      repeat still_step
      refine wpStill_nil ?_
      change wpList _ _ _ _ _ wr.drew
      generalize wr.drew = w2 at *
      go_wp2_with fail
      refine (eqPixPix_same p w2).mono ?_
      rintro e w3 ⟨rfl, hb3⟩
      have HB3 := Lib.hid (HB.out.trans (hb3.mono HB.out.size))
      clear hb3 HB d0 d1 d0' d1' d2 d3 d2' d3'
      go_wp2_with fail
      go_roundw
      case rel => exact ⟨k + 1, by omega, by go_num, HB3.out⟩
      case measure => simp [intOf]; omega
    · go_wp2
      go_ret
      exact ⟨rfl, hbel⟩

set_option maxHeartbeats 1000000 in
theorem toPixPixS_any (A : Option Addr) (c : Nat) (l : List Px) (w : World) (hs : l.length ≤ 1073741824) (h : HasP w w.heap.size A l) :
    Calls Tryd.prog 38 #[.slice A l.length c] w fun e w' => e = .returned (.slice (some ⟨w.heap.size, 0, none⟩) l.length l.length) ∧
      OwnP w' w.heap.size (.slice (some ⟨w.heap.size, 0, none⟩) l.length l.length) l ∧ Below w.heap.size w w' := by
  obtain ⟨i0, hi, hz0, hz1, hz2⟩ := info_parts infoP
  go_enter Tryd.func38, Tryd.ntmps38
  go_wp2_with (at_make; refine wpList_make_full _ rfl _ _ 28 rfl w.heap.size 62 i0 (.agg #[.int .i64 0, .int .i64 0, .int .i64 0, .int .i64 0]) 4 Tryd.underlying28 hi hz0 hz1 _ _ _ _ l.length rfl rfl rfl rfl (by rw [hz2]; omega) (by unfold maxLen; omega) (Nat.le_refl _) ?_; intro w1 hown hgrow)
  have hb1 : Below w.heap.size w w1 := (Below.refl _ w).grown hgrow (Nat.le_refl _) (fun _ e => by cases e)
  have ho1 : w1.ownsRow w.heap.size 62 4 (.slice (some ⟨w.heap.size, 0, none⟩) l.length l.length) l.length (partP l 0) := by
    rw [partP_zero, ← madeP]
    exact hown
  clear hown hgrow
  go_loopw [4] (fun i wr => ∃ k : Nat, k ≤ l.length ∧ i = .int .i64 k ∧ wr.ownsRow w.heap.size 62 4 (.slice (some ⟨w.heap.size, 0, none⟩) l.length l.length) l.length (partP l k) ∧ Below w.heap.size w wr)
    (fun i _ => l.length - (intOf i).toNat)
  case atStart => exact ⟨0, Nat.zero_le _, rfl, ho1, hb1⟩
  case round =>
    obtain ⟨k, hk, rfl, hown, hbel⟩ := hrel
    by_cases hlt : k < l.length
    · obtain ⟨b, o, p, rfl, hbB, hp, d0, d1, d2, d3⟩ := (h.below hbel).spot hlt
      have hkl := partP_length l k hk
      have HO := Lib.hid hown
      have HB := Lib.hid hbel
      have HP := Lib.hid hp
      clear hown hbel hp h ho1 hb1
      have CT := Lib.hid (toPixPix_any p)
      go_wp2_with fail
      refine (CT.out _).mono ?_
      rintro e w2 ⟨rfl, hb2⟩
      have ho2 := rowP_below HO.out hb2 (Nat.le_refl _)
      have hB2 := HB.out.trans (hb2.mono HB.out.size)
      have f0 := ho2.frozenAt (k * 4)
      have f1 := ho2.frozenAt (k * 4 + 1)
      have f2 := ho2.frozenAt (k * 4 + 2)
      have f3 := ho2.frozenAt (k * 4 + 3)
      obtain ⟨y0, hy0⟩ : ∃ y, w2.cell? ⟨w.heap.size, k * 4, none⟩ = some y := by
        rw [ho2.cellAt (k * 4) (by omega)]
        exact ⟨_, List.getElem?_eq_getElem (by omega)⟩
      obtain ⟨y1, hy1⟩ : ∃ y, w2.cell? ⟨w.heap.size, k * 4 + 1, none⟩ = some y := by
        rw [ho2.cellAt (k * 4 + 1) (by omega)]
        exact ⟨_, List.getElem?_eq_getElem (by omega)⟩
      obtain ⟨y2, hy2⟩ : ∃ y, w2.cell? ⟨w.heap.size, k * 4 + 2, none⟩ = some y := by
        rw [ho2.cellAt (k * 4 + 2) (by omega)]
        exact ⟨_, List.getElem?_eq_getElem (by omega)⟩
      obtain ⟨y3, hy3⟩ : ∃ y, w2.cell? ⟨w.heap.size, k * 4 + 3, none⟩ = some y := by
        rw [ho2.cellAt (k * 4 + 3) (by omega)]
        exact ⟨_, List.getElem?_eq_getElem (by omega)⟩
      have hst := (((ho2.stored (k * 4) (.int .i64 p.r)).1.stored (k * 4 + 1) (.int .i64 p.g)).1.stored (k * 4 + 2) (.int .i64 p.b)).1.stored (k * 4 + 3) (.int .i64 p.a)
      rw [partP_set l k p HP.out] at hst
      have HS := Lib.hid hst.1
      have HBB := Lib.hid ((((hB2.setCell (p := ⟨w.heap.size, k * 4, none⟩) (Nat.le_refl _) (.int .i64 p.r)).setCell (p := ⟨w.heap.size, k * 4 + 1, none⟩) (Nat.le_refl _) (.int .i64 p.g)).setCell (p := ⟨w.heap.size, k * 4 + 2, none⟩) (Nat.le_refl _) (.int .i64 p.b)).setCell (p := ⟨w.heap.size, k * 4 + 3, none⟩) (Nat.le_refl _) (.int .i64 p.a))
      clear hb2 ho2 hB2 hst hkl HO HB CT d0 d1 d2 d3
      go_wp2_with fail
      go_roundw
      case rel => exact ⟨k + 1, by omega, by go_num, HS.out, HBB.out⟩
      case measure => simp [intOf]; omega
    · obtain rfl : k = l.length := by omega
      rw [partP_all] at hown
      have HO := Lib.hid hown
      clear hown
      go_wp2
      go_ret
      exact ⟨rfl, HO.out, hbel⟩
theorem szRasRaster_small (W H : Int) (A : Option Addr) (n c : Nat) (w : World) (hn : n ≤ 1048576) :
    Calls Tryd.prog 10 #[rasV W H A n c, .int .i64 1048576] w fun e w' => e = .returned (.int .i64 (1048576 - (n : Int))) ∧ Below w.heap.size w w' := by
  have C := Lib.hid fun w => szPixPixS_any A n c w (by unfold maxLen; omega)
  rw [if_pos hn] at C
  have hb : ¬ ((1048576 : Int) - (n : Int) < 0) := by omega
  have HB : Hid (Below w.heap.size w (w.alloc (.cells #[.int .i64 W, .int .i64 H, .slice A n c] 24))) := Lib.hid ((Below.refl _ w).alloc (Nat.le_refl _) _)
  clear hn
  unfold rasV
  go_enter Tryd.func10, Tryd.ntmps10
  go_wp2_with fail
  refine (C.out _).mono ?_
  rintro e w' ⟨rfl, rfl⟩
  go_wp2_with fail
  go_ret
  exact ⟨rfl, HB.out⟩
theorem szRasRaster_big (W H : Int) (A : Option Addr) (n c : Nat) (w : World) (hn : ¬ n ≤ 1048576) (hm : n ≤ maxLen) :
    Calls Tryd.prog 10 #[rasV W H A n c, .int .i64 1048576] w fun e w' => e = .returned (.int .i64 (-1)) ∧ Below w.heap.size w w' := by
  have C := Lib.hid fun w => szPixPixS_any A n c w hm
  rw [if_neg hn] at C
  have HB : Hid (Below w.heap.size w (w.alloc (.cells #[.int .i64 W, .int .i64 H, .slice A n c] 24))) := Lib.hid ((Below.refl _ w).alloc (Nat.le_refl _) _)
  clear hn hm
  unfold rasV
  go_enter Tryd.func10, Tryd.ntmps10
  go_wp2_with fail
  refine (C.out _).mono ?_
  rintro e w' ⟨rfl, rfl⟩
  go_wp2_with fail
  go_ret
  exact ⟨rfl, HB.out⟩
set_option maxHeartbeats 1000000 in
theorem toRasRaster_any (W H : Int) (A : Option Addr) (c : Nat) (l : List Px) (w : World) (hs : l.length ≤ 1073741824) (h : HasP w w.heap.size A l) :
    Calls Tryd.prog 13 #[rasV W H A l.length c] w fun e w' => ∃ g, e = .returned (rasV W H (some ⟨g, 0, none⟩) l.length l.length) ∧
      OwnP w' w.heap.size (.slice (some ⟨g, 0, none⟩) l.length l.length) l ∧ Below w.heap.size w w' := by
  unfold rasV
  have C := Lib.hid fun w hh => toPixPixS_any A c l w hs hh
  have HH := Lib.hid h
  clear h hs
  go_enter Tryd.func13, Tryd.ntmps13
  go_wp2_with fail
  generalize hW : ((w.alloc (.cells #[.int .i64 W, .int .i64 H, .slice A l.length c] 24)).alloc (.cells #[.int .i64 0, .int .i64 0, .slice none 0 0] 30)).alloc (.cells #[.int .i64 W, .int .i64 H, .slice none 0 0] 30) = w0
  have hb0 : Below w.heap.size w w0 := by rw [← hW]; exact (((Below.refl _ w).alloc (Nat.le_refl _) _).alloc (by simp) _).alloc (by simp; omega) _
  have hsz : w0.heap.size = w.heap.size + 3 := by rw [← hW]; simp
  have hx : w0.heap[w.heap.size + 1]? = some (.cells #[.int .i64 0, .int .i64 0, .slice none 0 0] 30 (0, 0)) := by
    rw [← hW, Below.heap_alloc _ _ _ (by simp)]
    have := heap_alloc_new (w.alloc (.cells #[.int .i64 W, .int .i64 H, .slice A l.length c] 24)) (.cells #[.int .i64 0, .int .i64 0, .slice none 0 0] 30)
    simpa using this
  have hy : w0.heap[w.heap.size + 1 + 1]? = some (.cells #[.int .i64 W, .int .i64 H, .slice none 0 0] 30 (0, 0)) := by
    rw [← hW]
    have := heap_alloc_new ((w.alloc (.cells #[.int .i64 W, .int .i64 H, .slice A l.length c] 24)).alloc (.cells #[.int .i64 0, .int .i64 0, .slice none 0 0] 30)) (.cells #[.int .i64 W, .int .i64 H, .slice none 0 0] 30)
    simpa using this
  clear hW
  refine (C.out _ ((HH.out.below hb0).wider hb0.size)).mono ?_
  rintro e w1 ⟨rfl, ho, b1⟩
  have HX := Lib.hid ((b1.block _ (by omega)).trans hx)
  have HY := Lib.hid ((b1.block _ (by omega)).trans hy)
  have HB := Lib.hid (hb0.trans (b1.mono hb0.size))
  have HZ := Lib.hid hsz
  have hne : ¬ w.heap.size + 1 = w.heap.size + 1 + 1 := by omega
  have hoz : ∃ g, w0.heap.size = g ∧ w.heap.size + 3 ≤ g ∧ OwnP w1 g (.slice (some ⟨g, 0, none⟩) l.length l.length) l := ⟨_, rfl, by omega, ho⟩
  obtain ⟨g, hg, hgl, hog⟩ := hoz
  rw [hg]
  have HO := Lib.hid hog
  clear b1 hx hy hb0 ho hsz hg hog HZ C
  have x0 : w1.cell? ⟨w.heap.size + 1, 0, none⟩ = some (.int .i64 0) := by rw [cell_of_row w1 _ 0 _ _ _ HX.out]; rfl
  have x1 : w1.cell? ⟨w.heap.size + 1, 1, none⟩ = some (.int .i64 0) := by rw [cell_of_row w1 _ 1 _ _ _ HX.out]; rfl
  have x2 : w1.cell? ⟨w.heap.size + 1, 2, none⟩ = some (.slice none 0 0) := by rw [cell_of_row w1 _ 2 _ _ _ HX.out]; rfl
  have y0 : w1.cell? ⟨w.heap.size + 1 + 1, 0, none⟩ = some (.int .i64 W) := by rw [cell_of_row w1 _ 0 _ _ _ HY.out]; rfl
  have y1 : w1.cell? ⟨w.heap.size + 1 + 1, 1, none⟩ = some (.int .i64 H) := by rw [cell_of_row w1 _ 1 _ _ _ HY.out]; rfl
  have y2 : w1.cell? ⟨w.heap.size + 1 + 1, 2, none⟩ = some (.slice none 0 0) := by rw [cell_of_row w1 _ 2 _ _ _ HY.out]; rfl
  have f0 : w1.frozen? ⟨w.heap.size + 1, 0, none⟩ = false := by simp [World.frozen?, HX.out]
  have f1 : w1.frozen? ⟨w.heap.size + 1, 1, none⟩ = false := by simp [World.frozen?, HX.out]
  have f2 : w1.frozen? ⟨w.heap.size + 1, 2, none⟩ = false := by simp [World.frozen?, HX.out]
  have g2 : w1.frozen? ⟨w.heap.size + 1 + 1, 2, none⟩ = false := by simp [World.frozen?, HY.out]
  go_wp2_with fail
  (try simp only [Exit.inBlock, Exit.then])
  have HX2 : Hid ((w1.setCell ⟨w.heap.size + 1 + 1, 2, none⟩ (.slice (some ⟨g, 0, none⟩) l.length l.length)).heap[w.heap.size + 1]? = some (.cells #[.int .i64 0, .int .i64 0, .slice none 0 0] 30 (0, 0))) := Lib.hid ((Below.heap_setCell w1 _ _ _ (by simp)).trans HX.out)
  refine bodyPost_ret (results_cell_row rfl _ _ (w.heap.size + 1) 30 #[.int .i64 W, .int .i64 H, .slice (some ⟨g, 0, none⟩) l.length l.length] (0, 0) _ rfl (fin_ras HX2.out _ _ _) Tryd.underlying30 rfl (by kernel_rfl)) rfl ?_
  refine ⟨g, rfl, ?_, (((HB.out.setCell (by simp; omega) _).setCell (by simp) _).setCell (by simp) _).setCell (by simp) _⟩
  exact (OwnP.set_at (OwnP.set_at (OwnP.set_at (OwnP.set_at HO.out (by omega) 2 _) (by omega) 0 _) (by omega) 1 _) (by omega) 2 _).lower (by omega)
set_option maxHeartbeats 1000000 in
theorem eqRasRaster_same (W H : Int) (A A' : Option Addr) (c c' : Nat) (l : List Px) (w : World) (hs : l.length ≤ 1073741824) (h : HasP w w.heap.size A l) (h' : HasP w w.heap.size A' l) :
    Calls Tryd.prog 16 #[rasV W H A l.length c, rasV W H A' l.length c'] w fun e w' => e = .returned (.bool true) ∧ Below w.heap.size w w' := by
  unfold rasV
  have hb0 : Below w.heap.size w ((w.alloc (.cells #[.int .i64 W, .int .i64 H, .slice A l.length c] 30)).alloc (.cells #[.int .i64 W, .int .i64 H, .slice A' l.length c'] 30)) := ((Below.refl _ w).alloc (Nat.le_refl _) _).alloc (by simp) _
  have C := Lib.hid (eqPixPixS_same A A' c c' l _ hs ((h.below hb0).wider hb0.size) ((h'.below hb0).wider hb0.size))
  have HB := Lib.hid hb0
  clear h h' hs hb0
  go_enter Tryd.func16, Tryd.ntmps16
  go_wp2_with fail
  refine C.out.mono ?_
  rintro e w1 ⟨rfl, b1⟩
  have HB1 := Lib.hid (HB.out.trans (b1.mono HB.out.size))
  clear b1 C HB
  go_wp2_with fail
  go_ret
  exact ⟨rfl, HB1.out⟩

end Go.Proofs.YtiemlakjallphabDoor
