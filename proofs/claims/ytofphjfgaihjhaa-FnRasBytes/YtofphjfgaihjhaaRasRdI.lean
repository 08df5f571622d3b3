/-
  RasRead of the program: the raster that the bytes make, or nothing. Conditions: the bytes are read from memory that was there, and their slice has room for them.
-/
import Derived.Test.YtofphjfgaihjhaaRasRd
import Derived.Test.YtofphjfgaihjhaaRasI
import Derived.Test.YtofphjfgaihjhaaRasBox
import Derived.Test.YtofphjfgaihjhaaPixO
import Derived.StillTailTactics
namespace Go.Proofs.Ytofphjfgaihjhaa
open Go.RowKit

theorem pxs_at (l : List UInt8) (n k : Nat) (hk : k < n) : (pxs l n)[k]? = some (pxAt l k) := by simp [pxs, hk]
set_option maxHeartbeats 2000000 in
theorem readRasPixels_any (b o c n m : Nat) (l : List UInt8) (w : World) (hm : m = 4 * n) (hl : l.length = 2 + 4 * n) (hn : n ≤ 36) (hc : 4 * n ≤ c) (hbB : b < w.heap.size) (h : ∀ i, i < l.length → w.cell? ⟨b, o + i, none⟩ = some (.int .u8 (byN l i))) :
    Calls Try.prog 21 #[.slice (some ⟨b, o + 2, none⟩) m c] w fun e w' => e = .returned (.slice (some ⟨w.heap.size, 0, none⟩) n n) ∧ OwnP w' w.heap.size (.slice (some ⟨w.heap.size, 0, none⟩) n n) (pxs l n) ∧ Below w.heap.size w w' := by
  obtain ⟨i0, hi, hz0, hz1, hz2⟩ := info_parts infoP
  have hq : (m : Int) / 4 = (n : Int) := by omega
  have hq2 : (m : Int).tdiv 4 = (n : Int) := by rw [Int.tdiv_eq_ediv_of_nonneg (by omega)]; exact hq
  have hpl := pxs_length l n
  have HM := Lib.hid hm
  have HL := Lib.hid hl
  have HH := Lib.hid h
  clear hm hl h
  go_enter Try.func21, Try.ntmps21
  go_wp2_with (at_make; refine wpList_make_full _ rfl _ _ 40 rfl w.heap.size 44 i0 (.agg #[.int .i64 0, .int .i64 0, .int .i64 0, .int .i64 0]) 4 Try.underlying40 hi hz0 hz1 _ _ _ _ n rfl rfl rfl rfl (by rw [hz2]; omega) (by unfold maxLen; omega) (Nat.le_refl _) ?_; intro w1 hown hgrow)
  have hb1 : Below w.heap.size w w1 := (Below.refl _ w).grown hgrow (Nat.le_refl _) (fun _ e => by cases e)
  have ho1 : w1.ownsRow w.heap.size 44 4 (.slice (some ⟨w.heap.size, 0, none⟩) n n) n (partP (pxs l n) 0) := by
    rw [partP_zero, pxs_length, ← madeP]
    exact hown
  clear hown hgrow hq hq2
  go_loopw [12] (fun i wr => ∃ k : Nat, k ≤ n ∧ i = .int .i64 k ∧ wr.ownsRow w.heap.size 44 4 (.slice (some ⟨w.heap.size, 0, none⟩) n n) n (partP (pxs l n) k) ∧ Below w.heap.size w wr)
    (fun i _ => n - (intOf i).toNat)
  case atStart => exact ⟨0, Nat.zero_le _, rfl, ho1, hb1⟩
  case round =>
    obtain ⟨k, hk, rfl, hown, hbel⟩ := hrel
    by_cases hlt : k < n
    · have hkm : 4 * ((k : Int) + 1) ≤ (m : Int) := by have := HM.out; omega
      have hmc : (m : Int) ≤ (c : Int) := by have := HM.out; omega
      have ln := HL.out
      have by4 : ∀ i, i < 4 → wr.drew.cell? ⟨b, o + 2 + 4 * k + i, none⟩ = some (.int .u8 (byN l (2 + 4 * k + i))) := fun i hi => by
        have e := (hbel.cell (p := ⟨b, o + (2 + 4 * k + i), none⟩) hbB).trans (HH.out (2 + 4 * k + i) (by omega))
        rw [show o + 2 + 4 * k + i = o + (2 + 4 * k + i) from by omega]
        exact e
      obtain ⟨p, hp⟩ : ∃ p : Px, pxAt l k = p := ⟨_, rfl⟩
      have HPP := Lib.hid ((pxs_at l n k hlt).trans (by rw [hp]))
      have d0 : wr.drew.cell? ⟨b, o + 2 + 4 * k, none⟩ = some (.int .u8 p.r) := by have := by4 0 (by omega); rw [← hp]; exact this
      have d1 : wr.drew.cell? ⟨b, o + 2 + 4 * k + 1, none⟩ = some (.int .u8 p.g) := by have := by4 1 (by omega); rw [← hp]; unfold pxAt; rw [show 3 + 4 * k = 2 + 4 * k + 1 from by omega]; exact this
      have d2 : wr.drew.cell? ⟨b, o + 2 + 4 * k + 2, none⟩ = some (.int .u8 p.b) := by have := by4 2 (by omega); rw [← hp]; unfold pxAt; rw [show 4 + 4 * k = 2 + 4 * k + 2 from by omega]; exact this
      have d3 : wr.drew.cell? ⟨b, o + 2 + 4 * k + 3, none⟩ = some (.int .u8 p.a) := by have := by4 3 (by omega); rw [← hp]; unfold pxAt; rw [show 5 + 4 * k = 2 + 4 * k + 3 from by omega]; exact this
      have b0 := byN_in l (2 + 4 * k)
      have b1 := byN_in l (3 + 4 * k)
      have b2 := byN_in l (4 + 4 * k)
      have b3 := byN_in l (5 + 4 * k)
      have u0 := IntWalk.i64_in p.r (by rw [← hp]; unfold pxAt; dsimp only; omega)
      have u1 := IntWalk.i64_in p.g (by rw [← hp]; unfold pxAt; dsimp only; omega)
      have u2 := IntWalk.i64_in p.b (by rw [← hp]; unfold pxAt; dsimp only; omega)
      have u3 := IntWalk.i64_in p.a (by rw [← hp]; unfold pxAt; dsimp only; omega)
      have HOd : Hid (wr.drew.ownsRow w.heap.size 44 4 (.slice (some ⟨w.heap.size, 0, none⟩) n n) n (partP (pxs l n) k)) := Lib.hid hown.drew
      have HBd : Hid (Below w.heap.size w wr.drew) := Lib.hid (below_drew1 hbel)
      have hkl := partP_length (pxs l n) k (by omega)
      have pk : 0 ≤ (k : Int) ∧ (k : Int) < (n : Int) := by omega
      clear hp by4 b0 b1 b2 b3 hown hbel ho1 hb1 ln
      go_wp2_with fail
      rw [show 4 * (k + 1) - 4 * k = 4 from by omega]
      refine wp_region_still_tail 20 (by kernel_rfl) (by kernel_rfl) ?_
      simp only [List.take_succ_cons, List.take_zero, List.drop_succ_cons, List.drop_zero]
      change wpStill _ _ wr.drew _ _ _
      repeat still_step
      refine wpStill_nil ?_
      change wpList _ _ _ _ _ wr.drew
      generalize wr.drew = w2 at *
      have f0 := HOd.out.frozenAt (k * 4)
      have f1 := HOd.out.frozenAt (k * 4 + 1)
      have f2 := HOd.out.frozenAt (k * 4 + 2)
      have f3 := HOd.out.frozenAt (k * 4 + 3)
      obtain ⟨y0, hy0⟩ : ∃ y, w2.cell? ⟨w.heap.size, k * 4, none⟩ = some y := by
        rw [HOd.out.cellAt (k * 4) (by omega)]
        exact ⟨_, List.getElem?_eq_getElem (by omega)⟩
      obtain ⟨y1, hy1⟩ : ∃ y, w2.cell? ⟨w.heap.size, k * 4 + 1, none⟩ = some y := by
        rw [HOd.out.cellAt (k * 4 + 1) (by omega)]
        exact ⟨_, List.getElem?_eq_getElem (by omega)⟩
      obtain ⟨y2, hy2⟩ : ∃ y, w2.cell? ⟨w.heap.size, k * 4 + 2, none⟩ = some y := by
        rw [HOd.out.cellAt (k * 4 + 2) (by omega)]
        exact ⟨_, List.getElem?_eq_getElem (by omega)⟩
      obtain ⟨y3, hy3⟩ : ∃ y, w2.cell? ⟨w.heap.size, k * 4 + 3, none⟩ = some y := by
        rw [HOd.out.cellAt (k * 4 + 3) (by omega)]
        exact ⟨_, List.getElem?_eq_getElem (by omega)⟩
      have hst := (((HOd.out.stored (k * 4) (.int .i64 p.r)).1.stored (k * 4 + 1) (.int .i64 p.g)).1.stored (k * 4 + 2) (.int .i64 p.b)).1.stored (k * 4 + 3) (.int .i64 p.a)
      rw [partP_set (pxs l n) k p HPP.out] at hst
      have HS := Lib.hid hst.1
      have HBB := Lib.hid ((((HBd.out.setCell (p := ⟨w.heap.size, k * 4, none⟩) (Nat.le_refl _) (.int .i64 p.r)).setCell (p := ⟨w.heap.size, k * 4 + 1, none⟩) (Nat.le_refl _) (.int .i64 p.g)).setCell (p := ⟨w.heap.size, k * 4 + 2, none⟩) (Nat.le_refl _) (.int .i64 p.b)).setCell (p := ⟨w.heap.size, k * 4 + 3, none⟩) (Nat.le_refl _) (.int .i64 p.a))
      clear hst HOd HBd d0 d1 d2 d3
      go_wp2_with fail
      go_roundw
      case rel => exact ⟨k + 1, by omega, by go_num, HS.out, HBB.out⟩
      case measure => simp [intOf]; omega
    · obtain rfl : k = n := by omega
      have HO : Hid (OwnP wr w.heap.size (.slice (some ⟨w.heap.size, 0, none⟩) k k) (pxs l k)) := Lib.hid (by
        have e := partP_all (pxs l k)
        rw [pxs_length] at e
        rw [e] at hown
        unfold OwnP
        rw [pxs_length]
        exact hown)
      clear hown
      go_wp2_with fail
      go_ret
      exact ⟨rfl, HO.out, hbel⟩
set_option maxHeartbeats 2000000 in
theorem implRasRead_any (A : Option Addr) (c : Nat) (l : List UInt8) (w : World) (hs : l.length ≤ 1073741824) (hc : l.length ≤ c) (h : Has w w.heap.size A l) :
    Calls Try.prog 7 #[.slice A l.length c] w (ReadOut l w) := by
  have hs2 : (l.length : Int) ≤ 1073741824 := by omega
  have hb0 : Below w.heap.size w (w.alloc (.cells #[.int .i64 0, .int .i64 0, .slice none 0 0] 25)) := (Below.refl _ w).alloc (Nat.le_refl _) _
  have hx0 : RasAtB (w.alloc (.cells #[.int .i64 0, .int .i64 0, .slice none 0 0] 25)) w.heap.size 0 0 none 0 0 25 := heap_alloc_new w _
  have HX := Lib.hid hx0
  have HB := Lib.hid hb0
  by_cases h6 : l.length < 2
  · have h6' : (l.length : Int) < 2 := by omega
    have HF := Lib.hid (rdB_no (l := l) (fun k => by omega))
    clear h6 h hb0 hx0
    go_enter Try.func7, Try.ntmps7
    go_wp2_with fail
    refine bodyPost_ret (results_row_tmp rfl _ _ w.heap.size 25 #[.int .i64 0, .int .i64 0, .slice none 0 0] (0, 0) _ (.bool false) rfl rfl HX.out Try.underlying25 rfl (by kernel_rfl)) rfl ?_
    exact readOut_none HF.out HB.out
  have h6' : ¬ (l.length : Int) < 2 := by omega
  have h6i : (2 : Int) ≤ (l.length : Int) := by omega
  obtain ⟨b, o, rfl, hbB, d0⟩ := (h.below hb0).by (i := 0) (by omega)
  obtain ⟨b', o', eA, hbB', d1⟩ := (h.below hb0).by (i := 1) (by omega)
  injection eA with eA
  injection eA with e1 e2 _
  subst e1 e2
  rw [Nat.add_zero] at d0
  have a0 := byN_in l 0
  have a1 := byN_in l 1
  have HBY : Hid (∀ W1 : World, Below w.heap.size w W1 → ∀ i, i < l.length → W1.cell? ⟨b, o + i, none⟩ = some (.int .u8 (byN l i))) := Lib.hid fun W1 hb i hi => by
    obtain ⟨b', o', eA, _, d⟩ := (h.below hb).by hi
    injection eA with eA
    injection eA with e1 e2 _
    subst e1 e2
    exact d
  have CS := Lib.hid sideOk_any
  clear h hb0 hx0
  go_enter Try.func7, Try.ntmps7
  go_wp2_with fail
  generalize w.alloc (.cells #[.int .i64 0, .int .i64 0, .slice none 0 0] 25) = w0 at *
  have hz0 := HX.out.lt
  have hl0 : 0 < l.length := by omega
  have hl1 : 1 < l.length := by omega
  go_region
  have HB1 := Lib.hid (below_drew1 HB.out)
  have HX1 := Lib.hid HX.out.drew1
  obtain ⟨W, hW⟩ : ∃ W, byN l 0 = W := ⟨_, rfl⟩
  obtain ⟨H, hH⟩ : ∃ H, byN l 1 = H := ⟨_, rfl⟩
  have HW := Lib.hid hW
  have HHt := Lib.hid hH
  rw [hW] at a0 ⊢
  rw [hH] at a1 ⊢
  generalize w0.drew = w1 at *
  have z1 := HX1.out.lt
  clear HB HX d0 d1 hW hH
  have NONE : Hid (∀ W1 : World, RasAtB W1 w.heap.size 0 0 none 0 0 25 → Below w.heap.size w W1 → rdB l = false → RasAtB (((W1.setCell ⟨w.heap.size, 0, none⟩ (.int .i64 0)).setCell ⟨w.heap.size, 1, none⟩ (.int .i64 0)).setCell ⟨w.heap.size, 2, none⟩ (.slice none 0 0)) w.heap.size 0 0 none 0 0 25 ∧ ReadOut l w (.returned (.tuple #[.agg #[.int .i64 0, .int .i64 0, .slice none 0 0], .bool false])) (((W1.setCell ⟨w.heap.size, 0, none⟩ (.int .i64 0)).setCell ⟨w.heap.size, 1, none⟩ (.int .i64 0)).setCell ⟨w.heap.size, 2, none⟩ (.slice none 0 0))) := Lib.hid fun W1 hx hb hf => ⟨fin_ras hx _ _ _, readOut_none hf (((hb.setCell (Nat.le_refl _) _).setCell (Nat.le_refl _) _).setCell (Nat.le_refl _) _)⟩
  have r0 := HX1.out.c0
  have r1 := HX1.out.c1
  have r2 := HX1.out.c2
  have q0 : w1.frozen? ⟨w.heap.size, 0, none⟩ = false := HX1.out.free 0
  have q1 : w1.frozen? ⟨w.heap.size, 1, none⟩ = false := HX1.out.free 1
  have q2 : w1.frozen? ⟨w.heap.size, 2, none⟩ = false := HX1.out.free 2
  have HNO : Hid (¬ ((1 ≤ W ∧ W ≤ 6) ∧ (1 ≤ H ∧ H ≤ 6) ∧ (l.length : Int) = 2 + 4 * W * H) → rdB l = false) := Lib.hid fun hno => by
    cases hr : rdB l
    · rfl
    · obtain ⟨_, e1, e2, e3⟩ := rdB_parts hr
      rw [HW.out] at e1 e3
      rw [HHt.out] at e2 e3
      exact absurd ⟨e1, e2, by rw [Int.mul_assoc]; exact e3⟩ hno
  go_wp2_with fail
  refine (CS.out W _).mono ?_
  rintro e w' ⟨rfl, rfl⟩
  by_cases h1 : ¬ (1 ≤ W ∧ W ≤ 6)
  · have hd : decide (1 ≤ W ∧ W ≤ 6) = false := decide_eq_false h1
    have HN := Lib.hid (NONE.out _ HX1.out HB1.out (HNO.out (fun k => h1 k.1)))
    clear NONE HNO h1
    go_wp2_with fail
    (try simp only [Exit.inBlock, Exit.then])
    refine bodyPost_ret (results_row_tmp rfl _ _ w.heap.size 25 #[.int .i64 0, .int .i64 0, .slice none 0 0] (0, 0) _ (.bool false) rfl rfl HN.out.1 Try.underlying25 rfl (by kernel_rfl)) rfl ?_
    exact HN.out.2
  have h1 := Decidable.not_not.1 h1
  have hd1 : decide (1 ≤ W ∧ W ≤ 6) = true := decide_eq_true h1
  go_wp2_with fail
  refine (CS.out H _).mono ?_
  rintro e w' ⟨rfl, rfl⟩
  by_cases h2 : ¬ (1 ≤ H ∧ H ≤ 6)
  · have hd : decide (1 ≤ H ∧ H ≤ 6) = false := decide_eq_false h2
    have HN := Lib.hid (NONE.out _ HX1.out HB1.out (HNO.out (fun k => h2 k.2.1)))
    clear NONE HNO h2
    go_wp2_with fail
    (try simp only [Exit.inBlock, Exit.then])
    refine bodyPost_ret (results_row_tmp rfl _ _ w.heap.size 25 #[.int .i64 0, .int .i64 0, .slice none 0 0] (0, 0) _ (.bool false) rfl rfl HN.out.1 Try.underlying25 rfl (by kernel_rfl)) rfl ?_
    exact HN.out.2
  have h2 := Decidable.not_not.1 h2
  have hd2 : decide (1 ≤ H ∧ H ≤ 6) = true := decide_eq_true h2
  have h36 := mul36 h1 h2
  have hwr1 : wrap64 (4 * W * H) = 4 * W * H := by rw [Int.mul_assoc]; unfold wrap64; omega
  have h144 : 4 * W * H = 4 * (W * H) := Int.mul_assoc _ _ _
  by_cases h3 : ¬ ((l.length : Int) = 2 + 4 * W * H)
  · have hd : ((l.length : Int) != 2 + 4 * W * H) = true := by rw [bne, beq_eq_false_iff_ne.2 h3]; rfl
    have HN := Lib.hid (NONE.out _ HX1.out HB1.out (HNO.out (fun k => h3 k.2.2)))
    clear NONE HNO h3
    go_wp2_with fail
    (try simp only [Exit.inBlock, Exit.then])
    refine bodyPost_ret (results_row_tmp rfl _ _ w.heap.size 25 #[.int .i64 0, .int .i64 0, .slice none 0 0] (0, 0) _ (.bool false) rfl rfl HN.out.1 Try.underlying25 rfl (by kernel_rfl)) rfl ?_
    exact HN.out.2
  have h3 := Decidable.not_not.1 h3
  have hd : ((l.length : Int) != 2 + 4 * W * H) = false := by rw [bne, beq_iff_eq.2 h3]; rfl
  have hT : rdB l = true := decide_eq_true ⟨by omega, by rw [HW.out, HHt.out]; exact ⟨⟨h1.2, h2.2⟩, h3⟩⟩
  obtain ⟨n, hn⟩ : ∃ n : Nat, W * H = (n : Int) := ⟨(W * H).toNat, by omega⟩
  have hln : l.length = 2 + 4 * n := by omega
  have hn36 : n ≤ 36 := by omega
  have HRP : Hid (rdP l = pxs l n) := Lib.hid (by unfold rdP; rw [hT, HW.out, HHt.out, hn]; rfl)
  have HRW : Hid (rdW l = W) := Lib.hid (by unfold rdW; rw [hT, HW.out]; rfl)
  have HRH : Hid (rdH l = H) := Lib.hid (by unfold rdH; rw [hT, HHt.out]; rfl)
  have HT := Lib.hid hT
  have CR := Lib.hid (readRasPixels_any b o (c - 2) n (l.length - 2) l _ (by omega) hln hn36 (by omega) (Nat.lt_trans hbB z1) (HBY.out _ HB1.out))
  have hc2 : ¬ c = 2 := by omega
  clear hT hln hn h144 NONE HNO HBY h3
  go_wp2_with fail
  refine CR.out.mono ?_
  rintro e w2 ⟨rfl, ho, b2⟩
  have HX2 := Lib.hid (HX1.out.below b2 z1)
  have HB2 := Lib.hid (HB1.out.trans (b2.mono HB1.out.size))
  have x0 := HX2.out.c0
  have x1 := HX2.out.c1
  have x2 := HX2.out.c2
  have f0 := HX2.out.free 0
  have f1 := HX2.out.free 1
  have f2 := HX2.out.free 2
  obtain ⟨g, hg, hgz⟩ : ∃ g, w'.heap.size = g ∧ w.heap.size < g := ⟨_, rfl, z1⟩
  rw [hg] at ho ⊢
  have HXe := Lib.hid (fin_ras HX2.out (.int .i64 W) (.int .i64 H) (.slice (some ⟨g, 0, none⟩) n n))
  have HBe := Lib.hid (((HB2.out.setCell (p := ⟨w.heap.size, 0, none⟩) (Nat.le_refl _) (.int .i64 W)).setCell (p := ⟨w.heap.size, 1, none⟩) (Nat.le_refl _) (.int .i64 H)).setCell (p := ⟨w.heap.size, 2, none⟩) (Nat.le_refl _) (.slice (some ⟨g, 0, none⟩) n n))
  have HOe : Hid (OwnP (((w2.setCell ⟨w.heap.size, 0, none⟩ (.int .i64 W)).setCell ⟨w.heap.size, 1, none⟩ (.int .i64 H)).setCell ⟨w.heap.size, 2, none⟩ (.slice (some ⟨g, 0, none⟩) n n)) g (.slice (some ⟨g, 0, none⟩) n n) (pxs l n)) := Lib.hid (OwnP.set_low (OwnP.set_low (OwnP.set_low ho hgz 0 _) hgz 1 _) hgz 2 _)
  clear ho b2 CR hg
  go_wp2_with fail
  (try simp only [Exit.inBlock, Exit.then])
  refine bodyPost_ret (results_row_tmp rfl _ _ w.heap.size 25 #[.int .i64 W, .int .i64 H, .slice (some ⟨g, 0, none⟩) n n] (0, 0) _ (.bool true) rfl rfl HXe.out Try.underlying25 rfl (by kernel_rfl)) rfl ?_
  refine ⟨some ⟨g, 0, none⟩, n, ?_, ?_, HBe.out⟩
  · rw [HRW.out, HRH.out, HRP.out, HT.out, pxs_length]
    rfl
  · rw [HRP.out, pxs_length]
    exact HOe.out.lower (Nat.le_of_lt hgz)
end Go.Proofs.Ytofphjfgaihjhaa
