/-
  The program's PakGet, whole. Conditions: the bytes are read from memory that was there; where nothing can be unpacked, the errors of reading are not nil.
-/
import Derived.Test.YtnnpjcbdcjdojaaRasRd
import Derived.Test.YtnnpjcbdcjdojaaRasI
import Derived.Test.YtnnpjcbdcjdojaaRasBox
import Derived.Test.YtnnpjcbdcjdojaaPixO
import Derived.StillTailTactics
import Derived.Test.YtnnpjcbdcjdojaaPakSP
import Derived.Test.YtnnpjcbdcjdojaaRegT
import Derived.Test.YtnnpjcbdcjdojaaBitPI
import Derived.Test.YtnnpjcbdcjdojaaBitGM
import Derived.Test.YtnnpjcbdcjdojaaPush
import Derived.Test.YtnnpjcbdcjdojaaBitE
namespace Go.Proofs.Ytnnpjcbdcjdojaa
set_option maxRecDepth 4000
open Go.RowKit

theorem pxs_at (l : List UInt8) (n k : Nat) (hk : k < n) : (pxs l n)[k]? = some (pxAt l k) := by simp [pxs, hk]
set_option maxHeartbeats 2000000 in
theorem readRasPixels_any (b o c n m : Nat) (l : List UInt8) (w : World) (hm : m = 4 * n) (hl : l.length = 2 + 4 * n) (hn : n ≤ 36) (hc : 4 * n ≤ c) (hbB : b < w.heap.size) (h : ∀ i, i < l.length → w.cell? ⟨b, o + i, none⟩ = some (.int .u8 (byN l i))) :
    Calls Try.prog 104 #[.slice (some ⟨b, o + 2, none⟩) m c] w fun e w' => e = .returned (.slice (some ⟨w.heap.size, 0, none⟩) n n) ∧ OwnP w' w.heap.size (.slice (some ⟨w.heap.size, 0, none⟩) n n) (pxs l n) ∧ Below w.heap.size w w' := by
  obtain ⟨i0, hi, hz0, hz1, hz2⟩ := info_parts infoP
  have hq : (m : Int) / 4 = (n : Int) := by omega
  have hq2 : (m : Int).tdiv 4 = (n : Int) := by rw [Int.tdiv_eq_ediv_of_nonneg (by omega)]; exact hq
  have hpl := pxs_length l n
  have HM := Lib.hid hm
  have HL := Lib.hid hl
  have HH := Lib.hid h
  clear hm hl h
  go_enter Try.func104, Try.ntmps104
  go_wp2_with (at_make; refine wpList_make_full _ rfl _ _ 69 rfl w.heap.size 40 i0 (.agg #[.int .i64 0, .int .i64 0, .int .i64 0, .int .i64 0]) 4 Try.underlying69 hi hz0 hz1 _ _ _ _ n rfl rfl rfl rfl (by rw [hz2]; omega) (by unfold maxLen; omega) (Nat.le_refl _) ?_; intro w1 hown hgrow)
  have hb1 : Below w.heap.size w w1 := (Below.refl _ w).grown hgrow (Nat.le_refl _) (fun _ e => by cases e)
  have ho1 : w1.ownsRow w.heap.size 40 4 (.slice (some ⟨w.heap.size, 0, none⟩) n n) n (partP (pxs l n) 0) := by
    rw [partP_zero, pxs_length, ← madeP]
    exact hown
  clear hown hgrow hq hq2
  go_loopw [12] (fun i wr => ∃ k : Nat, k ≤ n ∧ i = .int .i64 k ∧ wr.ownsRow w.heap.size 40 4 (.slice (some ⟨w.heap.size, 0, none⟩) n n) n (partP (pxs l n) k) ∧ Below w.heap.size w wr)
    (fun i _ => n - (intOf i).toNat)
  case atStart => exact ⟨0, Nat.zero_le _, rfl, ho1, hb1⟩
  case round =>
    obtain ⟨k, hk, rfl, hown, hbel⟩ := hrel
    by_cases hlt : k < n
    · have hkm : 4 * ((k : Int) + 1) ≤ (m : Int) := by have := HM.out; omega
      have hmc : (m : Int) ≤ (c : Int) := by have := HM.out; omega
      have ln := HL.out
      have by4 : ∀ i, i < 4 → wr.drew.cell? ⟨b, o + 2 + 4 * k + i, none⟩ = some (.int .u8 (byN l (2 + 4 * k + i))) := fun i hi => by
        have e := (hbel.cell (p := ⟨b, o + (2 + 4 * k + i), none⟩) hbB).trans (HH.out (2 + 4 * k + i) (by omega))
        rw [show o + 2 + 4 * k + i = o + (2 + 4 * k + i) from by omega]
        exact e
      obtain ⟨p, hp⟩ : ∃ p : Px, pxAt l k = p := ⟨_, rfl⟩
      have HPP := Lib.hid ((pxs_at l n k hlt).trans (by rw [hp]))
      have d0 : wr.drew.cell? ⟨b, o + 2 + 4 * k, none⟩ = some (.int .u8 p.r) := by have := by4 0 (by omega); rw [← hp]; exact this
      have d1 : wr.drew.cell? ⟨b, o + 2 + 4 * k + 1, none⟩ = some (.int .u8 p.g) := by have := by4 1 (by omega); rw [← hp]; unfold pxAt; rw [show 3 + 4 * k = 2 + 4 * k + 1 from by omega]; exact this
      have d2 : wr.drew.cell? ⟨b, o + 2 + 4 * k + 2, none⟩ = some (.int .u8 p.b) := by have := by4 2 (by omega); rw [← hp]; unfold pxAt; rw [show 4 + 4 * k = 2 + 4 * k + 2 from by omega]; exact this
      have d3 : wr.drew.cell? ⟨b, o + 2 + 4 * k + 3, none⟩ = some (.int .u8 p.a) := by have := by4 3 (by omega); rw [← hp]; unfold pxAt; rw [show 5 + 4 * k = 2 + 4 * k + 3 from by omega]; exact this
      have b0 := byN_in l (2 + 4 * k)
      have b1 := byN_in l (3 + 4 * k)
      have b2 := byN_in l (4 + 4 * k)
      have b3 := byN_in l (5 + 4 * k)
      have u0 := IntWalk.i64_in p.r (by rw [← hp]; unfold pxAt; dsimp only; omega)
      have u1 := IntWalk.i64_in p.g (by rw [← hp]; unfold pxAt; dsimp only; omega)
      have u2 := IntWalk.i64_in p.b (by rw [← hp]; unfold pxAt; dsimp only; omega)
      have u3 := IntWalk.i64_in p.a (by rw [← hp]; unfold pxAt; dsimp only; omega)
      have HOd : Hid (wr.drew.ownsRow w.heap.size 40 4 (.slice (some ⟨w.heap.size, 0, none⟩) n n) n (partP (pxs l n) k)) := Lib.hid hown.drew
      have HBd : Hid (Below w.heap.size w wr.drew) := Lib.hid (below_drew1 hbel)
      have hkl := partP_length (pxs l n) k (by omega)
      have pk : 0 ≤ (k : Int) ∧ (k : Int) < (n : Int) := by omega
      clear hp by4 b0 b1 b2 b3 hown hbel ho1 hb1 ln
      go_wp2_with fail
      rw [show 4 * (k + 1) - 4 * k = 4 from by omega]
      refine wp_region_still_tail 20 (by kernel_rfl) (by kernel_rfl) ?_
      simp only [List.take_succ_cons, List.take_zero, List.drop_succ_cons, List.drop_zero]
      change wpStill _ _ wr.drew _ _ _
      repeat still_step
      refine wpStill_nil ?_
      change wpList _ _ _ _ _ wr.drew
      generalize wr.drew = w2 at *
      have f0 := HOd.out.frozenAt (k * 4)
      have f1 := HOd.out.frozenAt (k * 4 + 1)
      have f2 := HOd.out.frozenAt (k * 4 + 2)
      have f3 := HOd.out.frozenAt (k * 4 + 3)
      obtain ⟨y0, hy0⟩ : ∃ y, w2.cell? ⟨w.heap.size, k * 4, none⟩ = some y := by
        rw [HOd.out.cellAt (k * 4) (by omega)]
        exact ⟨_, List.getElem?_eq_getElem (by omega)⟩
      obtain ⟨y1, hy1⟩ : ∃ y, w2.cell? ⟨w.heap.size, k * 4 + 1, none⟩ = some y := by
        rw [HOd.out.cellAt (k * 4 + 1) (by omega)]
        exact ⟨_, List.getElem?_eq_getElem (by omega)⟩
      obtain ⟨y2, hy2⟩ : ∃ y, w2.cell? ⟨w.heap.size, k * 4 + 2, none⟩ = some y := by
        rw [HOd.out.cellAt (k * 4 + 2) (by omega)]
        exact ⟨_, List.getElem?_eq_getElem (by omega)⟩
      obtain ⟨y3, hy3⟩ : ∃ y, w2.cell? ⟨w.heap.size, k * 4 + 3, none⟩ = some y := by
        rw [HOd.out.cellAt (k * 4 + 3) (by omega)]
        exact ⟨_, List.getElem?_eq_getElem (by omega)⟩
      have hst := (((HOd.out.stored (k * 4) (.int .i64 p.r)).1.stored (k * 4 + 1) (.int .i64 p.g)).1.stored (k * 4 + 2) (.int .i64 p.b)).1.stored (k * 4 + 3) (.int .i64 p.a)
      rw [partP_set (pxs l n) k p HPP.out] at hst
      have HS := Lib.hid hst.1
      have HBB := Lib.hid ((((HBd.out.setCell (p := ⟨w.heap.size, k * 4, none⟩) (Nat.le_refl _) (.int .i64 p.r)).setCell (p := ⟨w.heap.size, k * 4 + 1, none⟩) (Nat.le_refl _) (.int .i64 p.g)).setCell (p := ⟨w.heap.size, k * 4 + 2, none⟩) (Nat.le_refl _) (.int .i64 p.b)).setCell (p := ⟨w.heap.size, k * 4 + 3, none⟩) (Nat.le_refl _) (.int .i64 p.a))
      clear hst HOd HBd d0 d1 d2 d3
      go_wp2_with fail
      go_roundw
      case rel => exact ⟨k + 1, by omega, by go_num, HS.out, HBB.out⟩
      case measure => simp [intOf]; omega
    · obtain rfl : k = n := by omega
      have HO : Hid (OwnP wr w.heap.size (.slice (some ⟨w.heap.size, 0, none⟩) k k) (pxs l k)) := Lib.hid (by
        have e := partP_all (pxs l k)
        rw [pxs_length] at e
        rw [e] at hown
        unfold OwnP
        rw [pxs_length]
        exact hown)
      clear hown
      go_wp2_with fail
      go_ret
      exact ⟨rfl, HO.out, hbel⟩
set_option maxHeartbeats 2000000 in
theorem implRasRead_any (A : Option Addr) (c : Nat) (l : List UInt8) (w : World) (hs : l.length ≤ 1073741824) (hc : l.length ≤ c) (h : Has w w.heap.size A l) :
    Calls Try.prog 103 #[.slice A l.length c] w (ReadOut l w) := by
  have hs2 : (l.length : Int) ≤ 1073741824 := by omega
  have hb0 : Below w.heap.size w (w.alloc (.cells #[.int .i64 0, .int .i64 0, .slice none 0 0] 25)) := (Below.refl _ w).alloc (Nat.le_refl _) _
  have hx0 : RasAtB (w.alloc (.cells #[.int .i64 0, .int .i64 0, .slice none 0 0] 25)) w.heap.size 0 0 none 0 0 25 := heap_alloc_new w _
  have HX := Lib.hid hx0
  have HB := Lib.hid hb0
  by_cases h6 : l.length < 2
  · have h6' : (l.length : Int) < 2 := by omega
    have HF := Lib.hid (rdB_no (l := l) (fun k => by omega))
    clear h6 h hb0 hx0
    go_enter Try.func103, Try.ntmps103
    go_wp2_with fail
    refine bodyPost_ret (results_row_tmp rfl _ _ w.heap.size 25 #[.int .i64 0, .int .i64 0, .slice none 0 0] (0, 0) _ (.bool false) rfl rfl HX.out Try.underlying25 rfl (by kernel_rfl)) rfl ?_
    exact readOut_none HF.out HB.out
  have h6' : ¬ (l.length : Int) < 2 := by omega
  have h6i : (2 : Int) ≤ (l.length : Int) := by omega
  obtain ⟨b, o, rfl, hbB, d0⟩ := (h.below hb0).by (i := 0) (by omega)
  obtain ⟨b', o', eA, hbB', d1⟩ := (h.below hb0).by (i := 1) (by omega)
  injection eA with eA
  injection eA with e1 e2 _
  subst e1 e2
  rw [Nat.add_zero] at d0
  have a0 := byN_in l 0
  have a1 := byN_in l 1
  have HBY : Hid (∀ W1 : World, Below w.heap.size w W1 → ∀ i, i < l.length → W1.cell? ⟨b, o + i, none⟩ = some (.int .u8 (byN l i))) := Lib.hid fun W1 hb i hi => by
    obtain ⟨b', o', eA, _, d⟩ := (h.below hb).by hi
    injection eA with eA
    injection eA with e1 e2 _
    subst e1 e2
    exact d
  have CS := Lib.hid sideOk_any
  clear h hb0 hx0
  go_enter Try.func103, Try.ntmps103
  go_wp2_with fail
  generalize w.alloc (.cells #[.int .i64 0, .int .i64 0, .slice none 0 0] 25) = w0 at *
  have hz0 := HX.out.lt
  have hl0 : 0 < l.length := by omega
  have hl1 : 1 < l.length := by omega
  go_region
  have HB1 := Lib.hid (below_drew1 HB.out)
  have HX1 := Lib.hid HX.out.drew1
  obtain ⟨W, hW⟩ : ∃ W, byN l 0 = W := ⟨_, rfl⟩
  obtain ⟨H, hH⟩ : ∃ H, byN l 1 = H := ⟨_, rfl⟩
  have HW := Lib.hid hW
  have HHt := Lib.hid hH
  rw [hW] at a0 ⊢
  rw [hH] at a1 ⊢
  generalize w0.drew = w1 at *
  have z1 := HX1.out.lt
  clear HB HX d0 d1 hW hH
  have NONE : Hid (∀ W1 : World, RasAtB W1 w.heap.size 0 0 none 0 0 25 → Below w.heap.size w W1 → rdB l = false → RasAtB (((W1.setCell ⟨w.heap.size, 0, none⟩ (.int .i64 0)).setCell ⟨w.heap.size, 1, none⟩ (.int .i64 0)).setCell ⟨w.heap.size, 2, none⟩ (.slice none 0 0)) w.heap.size 0 0 none 0 0 25 ∧ ReadOut l w (.returned (.tuple #[.agg #[.int .i64 0, .int .i64 0, .slice none 0 0], .bool false])) (((W1.setCell ⟨w.heap.size, 0, none⟩ (.int .i64 0)).setCell ⟨w.heap.size, 1, none⟩ (.int .i64 0)).setCell ⟨w.heap.size, 2, none⟩ (.slice none 0 0))) := Lib.hid fun W1 hx hb hf => ⟨fin_ras hx _ _ _, readOut_none hf (((hb.setCell (Nat.le_refl _) _).setCell (Nat.le_refl _) _).setCell (Nat.le_refl _) _)⟩
  have r0 := HX1.out.c0
  have r1 := HX1.out.c1
  have r2 := HX1.out.c2
  have q0 : w1.frozen? ⟨w.heap.size, 0, none⟩ = false := HX1.out.free 0
  have q1 : w1.frozen? ⟨w.heap.size, 1, none⟩ = false := HX1.out.free 1
  have q2 : w1.frozen? ⟨w.heap.size, 2, none⟩ = false := HX1.out.free 2
  have HNO : Hid (¬ ((1 ≤ W ∧ W ≤ 6) ∧ (1 ≤ H ∧ H ≤ 6) ∧ (l.length : Int) = 2 + 4 * W * H) → rdB l = false) := Lib.hid fun hno => by
    cases hr : rdB l
    · rfl
    · obtain ⟨_, e1, e2, e3⟩ := rdB_parts hr
      rw [HW.out] at e1 e3
      rw [HHt.out] at e2 e3
      exact absurd ⟨e1, e2, by rw [Int.mul_assoc]; exact e3⟩ hno
  go_wp2_with fail
  refine (CS.out W _).mono ?_
  rintro e w' ⟨rfl, rfl⟩
  by_cases h1 : ¬ (1 ≤ W ∧ W ≤ 6)
  · have hd : decide (1 ≤ W ∧ W ≤ 6) = false := decide_eq_false h1
    have HN := Lib.hid (NONE.out _ HX1.out HB1.out (HNO.out (fun k => h1 k.1)))
    clear NONE HNO h1
    go_wp2_with fail
    (try simp only [Exit.inBlock, Exit.then])
    refine bodyPost_ret (results_row_tmp rfl _ _ w.heap.size 25 #[.int .i64 0, .int .i64 0, .slice none 0 0] (0, 0) _ (.bool false) rfl rfl HN.out.1 Try.underlying25 rfl (by kernel_rfl)) rfl ?_
    exact HN.out.2
  have h1 := Decidable.not_not.1 h1
  have hd1 : decide (1 ≤ W ∧ W ≤ 6) = true := decide_eq_true h1
  go_wp2_with fail
  refine (CS.out H _).mono ?_
  rintro e w' ⟨rfl, rfl⟩
  by_cases h2 : ¬ (1 ≤ H ∧ H ≤ 6)
  · have hd : decide (1 ≤ H ∧ H ≤ 6) = false := decide_eq_false h2
    have HN := Lib.hid (NONE.out _ HX1.out HB1.out (HNO.out (fun k => h2 k.2.1)))
    clear NONE HNO h2
    go_wp2_with fail
    (try simp only [Exit.inBlock, Exit.then])
    refine bodyPost_ret (results_row_tmp rfl _ _ w.heap.size 25 #[.int .i64 0, .int .i64 0, .slice none 0 0] (0, 0) _ (.bool false) rfl rfl HN.out.1 Try.underlying25 rfl (by kernel_rfl)) rfl ?_
    exact HN.out.2
  have h2 := Decidable.not_not.1 h2
  have hd2 : decide (1 ≤ H ∧ H ≤ 6) = true := decide_eq_true h2
  have h36 := mul36 h1 h2
  have hwr1 : wrap64 (4 * W * H) = 4 * W * H := by rw [Int.mul_assoc]; unfold wrap64; omega
  have h144 : 4 * W * H = 4 * (W * H) := Int.mul_assoc _ _ _
  by_cases h3 : ¬ ((l.length : Int) = 2 + 4 * W * H)
  · have hd : ((l.length : Int) != 2 + 4 * W * H) = true := by rw [bne, beq_eq_false_iff_ne.2 h3]; rfl
    have HN := Lib.hid (NONE.out _ HX1.out HB1.out (HNO.out (fun k => h3 k.2.2)))
    clear NONE HNO h3
    go_wp2_with fail
    (try simp only [Exit.inBlock, Exit.then])
    refine bodyPost_ret (results_row_tmp rfl _ _ w.heap.size 25 #[.int .i64 0, .int .i64 0, .slice none 0 0] (0, 0) _ (.bool false) rfl rfl HN.out.1 Try.underlying25 rfl (by kernel_rfl)) rfl ?_
    exact HN.out.2
  have h3 := Decidable.not_not.1 h3
  have hd : ((l.length : Int) != 2 + 4 * W * H) = false := by rw [bne, beq_iff_eq.2 h3]; rfl
  have hT : rdB l = true := decide_eq_true ⟨by omega, by rw [HW.out, HHt.out]; exact ⟨⟨h1.2, h2.2⟩, h3⟩⟩
  obtain ⟨n, hn⟩ : ∃ n : Nat, W * H = (n : Int) := ⟨(W * H).toNat, by omega⟩
  have hln : l.length = 2 + 4 * n := by omega
  have hn36 : n ≤ 36 := by omega
  have HRP : Hid (rdP l = pxs l n) := Lib.hid (by unfold rdP; rw [hT, HW.out, HHt.out, hn]; rfl)
  have HRW : Hid (rdW l = W) := Lib.hid (by unfold rdW; rw [hT, HW.out]; rfl)
  have HRH : Hid (rdH l = H) := Lib.hid (by unfold rdH; rw [hT, HHt.out]; rfl)
  have HT := Lib.hid hT
  have CR := Lib.hid (readRasPixels_any b o (c - 2) n (l.length - 2) l _ (by omega) hln hn36 (by omega) (Nat.lt_trans hbB z1) (HBY.out _ HB1.out))
  have hc2 : ¬ c = 2 := by omega
  clear hT hln hn h144 NONE HNO HBY h3
  go_wp2_with fail
  refine CR.out.mono ?_
  rintro e w2 ⟨rfl, ho, b2⟩
  have HX2 := Lib.hid (HX1.out.below b2 z1)
  have HB2 := Lib.hid (HB1.out.trans (b2.mono HB1.out.size))
  have x0 := HX2.out.c0
  have x1 := HX2.out.c1
  have x2 := HX2.out.c2
  have f0 := HX2.out.free 0
  have f1 := HX2.out.free 1
  have f2 := HX2.out.free 2
  obtain ⟨g, hg, hgz⟩ : ∃ g, w'.heap.size = g ∧ w.heap.size < g := ⟨_, rfl, z1⟩
  rw [hg] at ho ⊢
  have HXe := Lib.hid (fin_ras HX2.out (.int .i64 W) (.int .i64 H) (.slice (some ⟨g, 0, none⟩) n n))
  have HBe := Lib.hid (((HB2.out.setCell (p := ⟨w.heap.size, 0, none⟩) (Nat.le_refl _) (.int .i64 W)).setCell (p := ⟨w.heap.size, 1, none⟩) (Nat.le_refl _) (.int .i64 H)).setCell (p := ⟨w.heap.size, 2, none⟩) (Nat.le_refl _) (.slice (some ⟨g, 0, none⟩) n n))
  have HOe : Hid (OwnP (((w2.setCell ⟨w.heap.size, 0, none⟩ (.int .i64 W)).setCell ⟨w.heap.size, 1, none⟩ (.int .i64 H)).setCell ⟨w.heap.size, 2, none⟩ (.slice (some ⟨g, 0, none⟩) n n)) g (.slice (some ⟨g, 0, none⟩) n n) (pxs l n)) := Lib.hid (OwnP.set_low (OwnP.set_low (OwnP.set_low ho hgz 0 _) hgz 1 _) hgz 2 _)
  clear ho b2 CR hg
  go_wp2_with fail
  (try simp only [Exit.inBlock, Exit.then])
  refine bodyPost_ret (results_row_tmp rfl _ _ w.heap.size 25 #[.int .i64 W, .int .i64 H, .slice (some ⟨g, 0, none⟩) n n] (0, 0) _ (.bool true) rfl rfl HXe.out Try.underlying25 rfl (by kernel_rfl)) rfl ?_
  refine ⟨some ⟨g, 0, none⟩, n, ?_, ?_, HBe.out⟩
  · rw [HRW.out, HRH.out, HRP.out, HT.out, pxs_length]
    rfl
  · rw [HRP.out, pxs_length]
    exact HOe.out.lower (Nat.le_of_lt hgz)
end Go.Proofs.Ytnnpjcbdcjdojaa
namespace Go.Proofs.Ytnnpjcbdcjdojaa
open Go.RowKit

/-- Spans as pairs of numbers. -/
def spI (l : List (Nat × Nat)) : List (Int × Int) := l.map fun q => ((q.1 : Int), (q.2 : Int))
theorem spI_length (l : List (Nat × Nat)) : (spI l).length = l.length := by simp [spI]
theorem spI_at {l : List (Nat × Nat)} {i a b : Nat} (h : l[i]? = some (a, b)) : (spI l)[i]? = some ((a : Int), (b : Int)) := by
  unfold spI
  rw [List.getElem?_map, h]
  rfl
/-- A row of spans of the call's own. -/
def OwnSp (w : World) (base : Nat) (v : Value) (l : List (Nat × Nat)) : Prop := w.ownsRow base 135 2 v l.length (flat (spI l))
theorem infoSp : (Try.prog.info? 135).map (fun i => (i.zero, i.size, i.bytes)) = some (some (.agg #[.int .i64 0, .int .i64 0]), 2, 16) := by kernel_rfl
theorem OwnSp.has {w : World} {base : Nat} {v : Value} {l : List (Nat × Nat)} (h : OwnSp w base v l) : ∃ A c, v = .slice A l.length c ∧ l.length ≤ c := by
  rcases h.2 with ⟨rfl, hn⟩ | ⟨g, cap, cur, rfl, _, hg, hc, _⟩
  · exact ⟨none, 0, by rw [hn], by omega⟩
  · exact ⟨_, cap, rfl, hc⟩
theorem OwnSp.spot {w : World} {base : Nat} {A : Option Addr} {n c : Nat} {l : List (Nat × Nat)} (h : OwnSp w base (.slice A n c) l) {i a b : Nat} (hi : l[i]? = some (a, b)) : ∃ g, A = some ⟨g, 0, none⟩ ∧ w.cell? ⟨g, i * 2, none⟩ = some (.int .i64 (a : Int)) ∧ w.cell? ⟨g, i * 2 + 1, none⟩ = some (.int .i64 (b : Int)) := by
  have hlt := (List.getElem?_eq_some_iff.1 hi).1
  have h' := h
  rcases h.2 with ⟨hv, hn⟩ | ⟨g, cap, cur, hv, _⟩
  · omega
  · injection hv with e1 e2 e3
    subst e1 e2 e3
    have hf := flat_at _ i _ (spI_at hi)
    refine ⟨g, rfl, ?_, ?_⟩
    · rw [World.ownsRow.cellAt h' (i * 2) (by omega)]; exact hf.1
    · rw [World.ownsRow.cellAt h' (i * 2 + 1) (by omega)]; exact hf.2
/-- Block gu is an unpacker. -/
def UnB (w : World) (gu : Nat) (vo vs : Value) (p s : Nat) : Prop := w.heap[gu]? = some (.cells #[vo, vs, .int .i64 (p : Int), .int .i64 (s : Int)] 137 (0, 0))
theorem UnB.c0 {w : World} {gu : Nat} {vo vs : Value} {p s : Nat} (h : UnB w gu vo vs p s) : w.cell? ⟨gu, 0, none⟩ = some vo := by rw [cell_of_row w _ 0 _ _ _ h]; rfl
theorem UnB.c1 {w : World} {gu : Nat} {vo vs : Value} {p s : Nat} (h : UnB w gu vo vs p s) : w.cell? ⟨gu, 1, none⟩ = some vs := by rw [cell_of_row w _ 1 _ _ _ h]; rfl
theorem UnB.c2 {w : World} {gu : Nat} {vo vs : Value} {p s : Nat} (h : UnB w gu vo vs p s) : w.cell? ⟨gu, 2, none⟩ = some (.int .i64 (p : Int)) := by rw [cell_of_row w _ 2 _ _ _ h]; rfl
theorem UnB.c3 {w : World} {gu : Nat} {vo vs : Value} {p s : Nat} (h : UnB w gu vo vs p s) : w.cell? ⟨gu, 3, none⟩ = some (.int .i64 (s : Int)) := by rw [cell_of_row w _ 3 _ _ _ h]; rfl
theorem UnB.free {w : World} {gu : Nat} {vo vs : Value} {p s : Nat} (h : UnB w gu vo vs p s) (i : Nat) : w.frozen? ⟨gu, i, none⟩ = false := by
  unfold UnB at h
  simp [World.frozen?, h]
theorem UnB.lt {w : World} {gu : Nat} {vo vs : Value} {p s : Nat} (h : UnB w gu vo vs p s) : gu < w.heap.size := (Array.getElem?_eq_some_iff.1 h).1
/-- What lies in blocks of other kinds stays. -/
def FrT (w w' : World) : Prop := ∀ (b : Nat) cs t fr, w.heap[b]? = some (.cells cs t fr) → t ≠ 137 → t ≠ 5 → t ≠ 135 → w'.heap[b]? = w.heap[b]?
theorem FrT.refl (w : World) : FrT w w := fun _ _ _ _ _ _ _ _ => rfl
theorem FrT.trans {a b c : World} (h : FrT a b) (k : FrT b c) : FrT a c := fun q cs t fr hq h1 h2 h3 => by
  have e := h q cs t fr hq h1 h2 h3
  exact (k q cs t fr (e.trans hq) h1 h2 h3).trans e
theorem FrT.alloc (w : World) (o : Obj) : FrT w (w.alloc o) := fun b _ _ _ hb _ _ _ => Below.heap_alloc w o b (Array.getElem?_eq_some_iff.1 hb).1
/-- A block of one kind is none of another row's. -/
theorem row_ne {w w' : World} {base : Nat} {e : TypeId} {size : Nat} {v : Value} {n : Nat} {xs : List Value} (ho : w.ownsRow base e size v n xs) (hg : w.grownBy w' v.ownBlock) {b : Nat} {cs : Array Value} {t : TypeId} {fr : Nat × Nat} (hb : w.heap[b]? = some (.cells cs t fr)) (ht : t ≠ e) : w'.heap[b]? = w.heap[b]? := by
  refine hg.block b (Array.getElem?_eq_some_iff.1 hb).1 fun q => ?_
  rcases ho.2 with ⟨rfl, _⟩ | ⟨g0, cap0, cur0, rfl, _, hh, _⟩
  · cases q
  · simp [Value.ownBlock] at q
    subst q
    rw [hb] at hh
    injection hh with hh
    injection hh with _ ht2 _
    exact ht ht2
theorem setU_other {w : World} {gu i : Nat} {x : Value} {vo vs : Value} {p s : Nat} (h : UnB w gu vo vs p s) {b : Nat} {cs : Array Value} {t : TypeId} {fr : Nat × Nat} (hb : w.heap[b]? = some (.cells cs t fr)) (ht : t ≠ 137) : (w.setCell ⟨gu, i, none⟩ x).heap[b]? = w.heap[b]? := by
  refine heap_setCell_other _ _ _ _ fun e => ?_
  simp at e
  subst e
  unfold UnB at h
  rw [hb] at h
  injection h with h
  injection h with _ ht2 _
  exact ht ht2
/-- 'append(v, q)' of one span, v the call's own: as one step of a region that draws its order. -/
theorem step_pushSp {w : World} {ops : Array Oper} {o : Oper} {a : Act} {K : Act → World → Prop} {Q : Exit → Act → World → Prop} {E : Prop} (hgd : o.guard = none) (s x : Operand)
    (ho : o.op = .call { callee := .builtin .append, args := #[s, x], argTypes := #[133, 133] })
    (base : Nat) (v : Value) (l : List (Nat × Nat)) (hs : a.eval s = v) (hown : OwnSp w base v l) (p q H : Nat) (hx : a.eval x = .slice (some ⟨H, 0, none⟩) 1 1) (hH : w.heap[H]? = some (.cells #[.int .i64 (p : Int), .int .i64 (q : Int)] 135 (0, 0)))
    (hb : l.length + 1 ≤ 1073741824) (hbase : base ≤ w.heap.size)
    (h : ∀ g cap w', OwnSp w' base (.slice (some ⟨g, 0, none⟩) (l.length + 1) cap) (l ++ [(p, q)]) → w.grownBy w' v.ownBlock → K (a.put o.dst (.slice (some ⟨g, 0, none⟩) (l.length + 1) cap)) w') :
    if Region.wanted o (yielded ops a.tmps) = true then Oper.wp Try.prog o a w K Q else E := by
  obtain ⟨i0, hi, hz0, hz1, hz2⟩ := info_parts infoSp
  refine step_append_lies w hgd s x 133 ho base 135 i0 (.agg #[.int .i64 0, .int .i64 0]) 2 16 Try.underlying133 hi hz0 hz1 hz2 rfl (by omega) v l.length (flat (spI l)) hs hown ⟨H, 0, none⟩ 1 1 (flat [((p : Int), (q : Int))]) hx (by rw [flat_length]; rfl) ?_ (flat_one _) (by omega) (by unfold maxLen; omega) (by omega) hbase _ rfl ?_
  · intro j u hu
    refine World.news_of_block hH j u ?_
    simpa [flat, nv] using hu
  · intro g cap w' h1 h2 _ _
    refine h g cap w' ?_ h2
    unfold OwnSp
    rw [List.length_append, show spI (l ++ [(p, q)]) = spI l ++ [((p : Int), (q : Int))] from by simp [spI], flat_append]
    exact h1

set_option maxHeartbeats 1000000 in
theorem enterPrev_zero (gu : Nat) (vo vs : Value) (p : Nat) (w : World) (h : UnB w gu vo vs p 0) : Calls Try.prog 133 #[.pointer (some ⟨gu, 0, none⟩)] w fun e w' => e = .returned (.tuple #[]) ∧ w = w' := by
  have c3 : w.cell? ⟨gu, 3, none⟩ = some (.int .i64 0) := h.c3
  clear h
  go_enter Try.func133, Try.ntmps133
  go_wp2
  exact bodyPost_ret (results_none Try.results133 _ _ _) rfl ⟨rfl, rfl⟩

/-- What enterPrevious leaves. -/
def EpOut (base gu : Nat) (vo : Value) (out : List UInt8) (sp : List (Nat × Nat)) (p s : Nat) (w : World) (e : Ending) (w' : World) : Prop := e = .returned (.tuple #[]) ∧ (∃ vs', UnB w' gu vo vs' p s ∧ OwnSp w' base vs' sp ∧ Own w' base vo out) ∧ FrT w w' ∧ Below base w w'
set_option maxRecDepth 100000 in
set_option maxHeartbeats 2000000 in
theorem enterPrev_more (base gu : Nat) (vo vs : Value) (out : List UInt8) (sp : List (Nat × Nat)) (p s : Nat) (w : World) (h : UnB w gu vo vs p s) (ho : Own w base vo out) (hsp : OwnSp w base vs sp) (hs : 0 < s) (hs2 : s ≤ 1000) (hl : sp.length < 255) (hg : base ≤ gu) (hbw : base ≤ w.heap.size) :
    Calls Try.prog 133 #[.pointer (some ⟨gu, 0, none⟩)] w (EpOut base gu vo out (sp ++ [(p, s + 1)]) p s w) := by
  obtain ⟨As, cs, rfl, -⟩ := hsp.has
  obtain ⟨vs, hvs0⟩ : ∃ vs, Value.slice As sp.length cs = vs := ⟨_, rfl⟩
  have HVS := Lib.hid hvs0
  clear hvs0
  have c0 := h.c0
  have c1 := h.c1
  have c2 := h.c2
  have c3 := h.c3
  have HU := Lib.hid h
  have HO := Lib.hid ho
  have HSP := Lib.hid hsp
  have hsI : ((s : Int) == 0) = false := beq_eq_false_iff_ne.2 (by omega)
  have hsN : ¬ s = 0 := by omega
  have hws : wrap64 ((s : Int) + 1) = (s : Int) + 1 := by unfold wrap64; omega
  have hws' : IntKind.i64.wrap ((s : Int) + 1) = (s : Int) + 1 := IntWalk.i64_in _ (by omega)
  have hlI : (257 + (sp.length : Int) == 512) = false := beq_eq_false_iff_ne.2 (by omega)
  have hlJ : 257 + (sp.length : Int) < 512 := by omega
  have HL := Lib.hid hl
  have hgl := h.lt
  clear h ho hsp hs hs2 hl
  go_enter Try.func133, Try.ntmps133
  go_upto_region 1 with fail
  have hvs := HVS.out
  rw [hvs] at c1 HSP HU
  clear hvs HVS
  have HS0 : w.drew.cell? ⟨gu, 0, none⟩ = some vo ∧ w.drew.cell? ⟨gu, 1, none⟩ = some vs ∧ w.drew.cell? ⟨gu, 2, none⟩ = some (.int .i64 (p : Int)) ∧ w.drew.cell? ⟨gu, 3, none⟩ = some (.int .i64 (s : Int)) := ⟨c0, c1, c2, c3⟩
  clear c0 c1 c2 c3
  refine wp_region_T (fun w' => w'.cell? ⟨gu, 0, none⟩ = some vo ∧ w'.cell? ⟨gu, 1, none⟩ = some vs ∧ w'.cell? ⟨gu, 2, none⟩ = some (.int .i64 (p : Int)) ∧ w'.cell? ⟨gu, 3, none⟩ = some (.int .i64 (s : Int))) 21 (by kernel_rfl) ?_
  refine wpAnyT_take (i := 0) (d := 17) (v := .pointer (some ⟨gu, 0, none⟩)) rfl rfl (by kernel_rfl) (by kernel_rfl) (by kernel_rfl) (by kernel_rfl) (by kernel_rfl) (fun _ _ _ h => h) HS0 (Or.inl ⟨by rfl, fun w' hS' => ?_⟩) ?_
  · obtain ⟨z0, z1, z2, z3⟩ := hS'
    go_simp
  simp only [Act.put, List.setIfInBounds_toArray, List.set_cons_zero, List.set_cons_succ]
  refine wpAnyT_take (i := 1) (d := 18) (v := .pointer (some ⟨gu, 0, none⟩)) rfl rfl (by kernel_rfl) (by kernel_rfl) (by kernel_rfl) (by kernel_rfl) (by kernel_rfl) (fun _ _ _ h => h) HS0 (Or.inl ⟨by rfl, fun w' hS' => ?_⟩) ?_
  · obtain ⟨z0, z1, z2, z3⟩ := hS'
    go_simp
  simp only [Act.put, List.setIfInBounds_toArray, List.set_cons_zero, List.set_cons_succ]
  refine wpAnyT_take (i := 2) (d := 19) (v := .pointer (some ⟨gu, 0, none⟩)) rfl rfl (by kernel_rfl) (by kernel_rfl) (by kernel_rfl) (by kernel_rfl) (by kernel_rfl) (fun _ _ _ h => h) HS0 (Or.inl ⟨by rfl, fun w' hS' => ?_⟩) ?_
  · obtain ⟨z0, z1, z2, z3⟩ := hS'
    go_simp
  simp only [Act.put, List.setIfInBounds_toArray, List.set_cons_zero, List.set_cons_succ]
  refine wpAnyT_take (i := 3) (d := 20) (v := .pointer (some ⟨gu, 1, none⟩)) rfl rfl (by kernel_rfl) (by kernel_rfl) (by kernel_rfl) (by kernel_rfl) (by kernel_rfl) (fun _ _ _ h => h) HS0 (Or.inl ⟨by rfl, fun w' hS' => ?_⟩) ?_
  · obtain ⟨z0, z1, z2, z3⟩ := hS'
    go_simp
  simp only [Act.put, List.setIfInBounds_toArray, List.set_cons_zero, List.set_cons_succ]
  refine wpAnyT_take (i := 4) (d := 21) (v := vs) rfl rfl (by kernel_rfl) (by kernel_rfl) (by kernel_rfl) (by kernel_rfl) (by kernel_rfl) (fun _ _ _ h => h) HS0 (Or.inl ⟨by rfl, fun w' hS' => ?_⟩) ?_
  · obtain ⟨z0, z1, z2, z3⟩ := hS'
    go_simp
  simp only [Act.put, List.setIfInBounds_toArray, List.set_cons_zero, List.set_cons_succ]
  refine wpAnyT_take (i := 5) (d := 22) (v := .pointer (some ⟨gu, 0, none⟩)) rfl rfl (by kernel_rfl) (by kernel_rfl) (by kernel_rfl) (by kernel_rfl) (by kernel_rfl) (fun _ _ _ h => h) HS0 (Or.inl ⟨by rfl, fun w' hS' => ?_⟩) ?_
  · obtain ⟨z0, z1, z2, z3⟩ := hS'
    go_simp
  simp only [Act.put, List.setIfInBounds_toArray, List.set_cons_zero, List.set_cons_succ]
  refine wpAnyT_take (i := 6) (d := 23) (v := .pointer (some ⟨gu, 0, none⟩)) rfl rfl (by kernel_rfl) (by kernel_rfl) (by kernel_rfl) (by kernel_rfl) (by kernel_rfl) (fun _ _ _ h => h) HS0 (Or.inl ⟨by rfl, fun w' hS' => ?_⟩) ?_
  · obtain ⟨z0, z1, z2, z3⟩ := hS'
    go_simp
  simp only [Act.put, List.setIfInBounds_toArray, List.set_cons_zero, List.set_cons_succ]
  refine wpAnyT_take (i := 7) (d := 24) (v := .pointer (some ⟨gu, 2, none⟩)) rfl rfl (by kernel_rfl) (by kernel_rfl) (by kernel_rfl) (by kernel_rfl) (by kernel_rfl) (fun _ _ _ h => h) HS0 (Or.inl ⟨by rfl, fun w' hS' => ?_⟩) ?_
  · obtain ⟨z0, z1, z2, z3⟩ := hS'
    go_simp
  simp only [Act.put, List.setIfInBounds_toArray, List.set_cons_zero, List.set_cons_succ]
  refine wpAnyT_take (i := 8) (d := 25) (v := .pointer (some ⟨gu, 2, none⟩)) rfl rfl (by kernel_rfl) (by kernel_rfl) (by kernel_rfl) (by kernel_rfl) (by kernel_rfl) (fun _ _ _ h => h) HS0 (Or.inl ⟨by rfl, fun w' hS' => ?_⟩) ?_
  · obtain ⟨z0, z1, z2, z3⟩ := hS'
    go_simp
  simp only [Act.put, List.setIfInBounds_toArray, List.set_cons_zero, List.set_cons_succ]
  refine wpAnyT_take (i := 9) (d := 26) (v := .int .i64 (p : Int)) rfl rfl (by kernel_rfl) (by kernel_rfl) (by kernel_rfl) (by kernel_rfl) (by kernel_rfl) (fun _ _ _ h => h) HS0 (Or.inl ⟨by rfl, fun w' hS' => ?_⟩) ?_
  · obtain ⟨z0, z1, z2, z3⟩ := hS'
    go_simp
  simp only [Act.put, List.setIfInBounds_toArray, List.set_cons_zero, List.set_cons_succ]
  refine wpAnyT_take (i := 10) (d := 27) (v := .pointer (some ⟨gu, 0, none⟩)) rfl rfl (by kernel_rfl) (by kernel_rfl) (by kernel_rfl) (by kernel_rfl) (by kernel_rfl) (fun _ _ _ h => h) HS0 (Or.inl ⟨by rfl, fun w' hS' => ?_⟩) ?_
  · obtain ⟨z0, z1, z2, z3⟩ := hS'
    go_simp
  simp only [Act.put, List.setIfInBounds_toArray, List.set_cons_zero, List.set_cons_succ]
  refine wpAnyT_take (i := 11) (d := 28) (v := .pointer (some ⟨gu, 0, none⟩)) rfl rfl (by kernel_rfl) (by kernel_rfl) (by kernel_rfl) (by kernel_rfl) (by kernel_rfl) (fun _ _ _ h => h) HS0 (Or.inl ⟨by rfl, fun w' hS' => ?_⟩) ?_
  · obtain ⟨z0, z1, z2, z3⟩ := hS'
    go_simp
  simp only [Act.put, List.setIfInBounds_toArray, List.set_cons_zero, List.set_cons_succ]
  refine wpAnyT_take (i := 12) (d := 29) (v := .pointer (some ⟨gu, 2, none⟩)) rfl rfl (by kernel_rfl) (by kernel_rfl) (by kernel_rfl) (by kernel_rfl) (by kernel_rfl) (fun _ _ _ h => h) HS0 (Or.inl ⟨by rfl, fun w' hS' => ?_⟩) ?_
  · obtain ⟨z0, z1, z2, z3⟩ := hS'
    go_simp
  simp only [Act.put, List.setIfInBounds_toArray, List.set_cons_zero, List.set_cons_succ]
  refine wpAnyT_take (i := 13) (d := 30) (v := .pointer (some ⟨gu, 3, none⟩)) rfl rfl (by kernel_rfl) (by kernel_rfl) (by kernel_rfl) (by kernel_rfl) (by kernel_rfl) (fun _ _ _ h => h) HS0 (Or.inl ⟨by rfl, fun w' hS' => ?_⟩) ?_
  · obtain ⟨z0, z1, z2, z3⟩ := hS'
    go_simp
  simp only [Act.put, List.setIfInBounds_toArray, List.set_cons_zero, List.set_cons_succ]
  refine wpAnyT_take (i := 14) (d := 31) (v := .int .i64 (s : Int)) rfl rfl (by kernel_rfl) (by kernel_rfl) (by kernel_rfl) (by kernel_rfl) (by kernel_rfl) (fun _ _ _ h => h) HS0 (Or.inl ⟨by rfl, fun w' hS' => ?_⟩) ?_
  · obtain ⟨z0, z1, z2, z3⟩ := hS'
    go_simp
  simp only [Act.put, List.setIfInBounds_toArray, List.set_cons_zero, List.set_cons_succ]
  refine wpAnyT_take (i := 15) (d := 32) (v := .int .i64 ((s : Int) + 1)) rfl rfl (by kernel_rfl) (by kernel_rfl) (by kernel_rfl) (by kernel_rfl) (by kernel_rfl) (fun _ _ _ h => h) HS0 (Or.inl ⟨by rfl, fun w' hS' => ?_⟩) ?_
  · obtain ⟨z0, z1, z2, z3⟩ := hS'
    go_simp
  simp only [Act.put, List.setIfInBounds_toArray, List.set_cons_zero, List.set_cons_succ]
  refine wpAnyT_take (i := 16) (d := 33) (v := .agg #[.int .i64 (p : Int), .int .i64 ((s : Int) + 1)]) rfl rfl (by kernel_rfl) (by kernel_rfl) (by kernel_rfl) (by kernel_rfl) (by kernel_rfl) (fun _ _ _ h => h) HS0 (Or.inl ⟨by rfl, fun w' hS' => ?_⟩) ?_
  · obtain ⟨z0, z1, z2, z3⟩ := hS'
    go_simp
  simp only [Act.put, List.setIfInBounds_toArray, List.set_cons_zero, List.set_cons_succ]
  have hU0 : UnB (w.alloc (.cells #[.int .i64 (p : Int), .int .i64 ((s : Int) + 1)] 135)).drew gu vo vs p s := (Below.heap_alloc w _ gu hgl).trans HU.out
  have hP0 : OwnSp (w.alloc (.cells #[.int .i64 (p : Int), .int .i64 ((s : Int) + 1)] 135)).drew base vs sp := World.ownsRow.alloc (w := w) HSP.out _
  have hO0 : Own (w.alloc (.cells #[.int .i64 (p : Int), .int .i64 ((s : Int) + 1)] 135)).drew base vo out := World.ownsRow.alloc (w := w) HO.out _
  have hN0 : (w.alloc (.cells #[.int .i64 (p : Int), .int .i64 ((s : Int) + 1)] 135)).drew.heap[w.heap.size]? = some (.cells #[.int .i64 (p : Int), .int .i64 ((s + 1 : Nat) : Int)] 135 (0, 0)) := heap_alloc_new w _
  have hF0 : FrT w (w.alloc (.cells #[.int .i64 (p : Int), .int .i64 ((s : Int) + 1)] 135)).drew := FrT.alloc w _
  have hB0 : Below base w (w.alloc (.cells #[.int .i64 (p : Int), .int .i64 ((s : Int) + 1)] 135)).drew := below_drew1 ((Below.refl _ w).alloc hbw _)
  refine wpAnyT_one (i := 17) (by kernel_rfl) rfl (fun K hK => ?_)
  go_simp
  refine hK.out _ _ (fun _ => ⟨hU0.c0, hU0.c1, hU0.c2, hU0.c3⟩) ?_
  clear hK HS0
  generalize (w.alloc (.cells #[.int .i64 (p : Int), .int .i64 ((s : Int) + 1)] 135)).drew = w1 at *
  refine wpAnyT_one (i := 18) (by kernel_rfl) rfl (fun K hK => ?_)
  refine step_pushSp rfl (.tmp 21) (.tmp 34) rfl base vs sp rfl hP0 p (s + 1) w.heap.size rfl hN0 (by have := HL.out; omega) (Nat.le_trans hbw hB0.size) ?_
  intro g5 c5 w5 hP5 hg5
  have hU5 : UnB w5 gu vo vs p s := (row_ne hP0 hg5 hU0 (by decide)).trans hU0
  have hO5 : Own w5 base vo out := row_move hO0 fun b cs fr hb => row_ne hP0 hg5 hb (by decide)
  have hF5 : FrT w w5 := hF0.trans fun b cs t fr hb h1 h2 h3 => row_ne hP0 hg5 hb h3
  have hB5 : Below base w w5 := hB0.grown hg5 (Nat.le_trans hbw hB0.size) (fun q hq => (World.ownsRow.lt hP0 q hq).1)
  refine hK.out _ _ (fun _ => ⟨hU5.c0, hU5.c1, hU5.c2, hU5.c3⟩) ?_
  clear hK hU0 hP0 hO0 hN0 hF0 hB0 hg5
  try simp only [Act.put, List.setIfInBounds_toArray]
  refine wpAnyT_one (i := 19) (by kernel_rfl) rfl (fun K hK => ?_)
  go_simp
  refine hK.out _ _ (fun _ => ⟨hU5.c0, hU5.c1, hU5.c2, hU5.c3⟩) ?_
  clear hK
  refine wpAnyT_one (i := 20) (by kernel_rfl) rfl (fun K hK => ?_)
  go_simp
  refine hK.out _ _ (fun _ => ⟨hU5.c0, hU5.c1, hU5.c2, hU5.c3⟩) ?_
  clear hK
  have k1 := hU5.c1
  have f1 := hU5.free 1
  refine wpAnyT_one (i := 21) (by kernel_rfl) rfl (fun K hK => ?_)
  go_simp
  refine hK.out _ _ (fun h => last_out h) ?_
  clear hK
  refine wpAnyT_done (by kernel_rfl) ?_ _
  have HF : Hid (EpOut base gu vo out (sp ++ [(p, s + 1)]) p s w (.returned (.tuple #[])) (w5.setCell ⟨gu, 1, none⟩ (.slice (some ⟨g5, 0, none⟩) (sp.length + 1) c5))) := Lib.hid (by
    have hset : UnB (w5.setCell ⟨gu, 1, none⟩ (.slice (some ⟨g5, 0, none⟩) (sp.length + 1) c5)) gu vo (.slice (some ⟨g5, 0, none⟩) (sp.length + 1) c5) p s := heap_setCell_same _ gu 1 _ _ _ hU5
    refine ⟨rfl, ⟨_, hset, ?_, ?_⟩, hF5.trans fun b cs t fr hb h1 h2 h3 => setU_other hU5 hb h1, below_cell hB5 hg⟩
    · exact row_move hP5 fun b cs fr hb => setU_other hU5 hb (by decide)
    · exact row_move hO5 fun b cs fr hb => setU_other hU5 hb (by decide))
  clear hU5 hO5 hF5 hB5 hP5 k1 f1
  go_wp2_with fail
  exact bodyPost_end (results_none Try.results133 _ _ _) rfl HF.out
end Go.Proofs.Ytnnpjcbdcjdojaa
namespace Go.Proofs.Ytnnpjcbdcjdojaa
open Go.RowKit

/-- Bytes copied one by one, from a place on. -/
def copyN (out : List UInt8) (st : Nat) : Nat → List UInt8
  | 0 => out
  | k + 1 => copyN out st k ++ [((copyN out st k)[st + k]?).getD 0]
theorem copyN_length (out : List UInt8) (st k : Nat) : (copyN out st k).length = out.length + k := by
  induction k with
  | zero => rfl
  | succ k ih => simp [copyN, ih]; omega
theorem copyN_in (out : List UInt8) (st : Nat) : ∀ k, st + k ≤ out.length → copyN out st k = out ++ (out.drop st).take k
  | 0, _ => by simp [copyN]
  | k + 1, h => by
    have hk : k < (out.drop st).length := by simp; omega
    rw [copyN, copyN_in out st k (by omega), List.getElem?_append_left (by omega), List.getElem?_eq_getElem (by omega), List.take_add_one, List.getElem?_eq_getElem hk, List.getElem_drop]
    simp
theorem copyN_over (out : List UInt8) (st m : Nat) (h : st + m = out.length) (hm : 1 ≤ m) : copyN out st (m + 1) = out ++ (out.drop st ++ (out.drop st).take 1) := by
  have hd : (out.drop st).take m = out.drop st := List.take_of_length_le (by simp; omega)
  have hl : 0 < (out.drop st).length := by simp; omega
  rw [copyN, copyN_in out st m (by omega), hd, List.getElem?_append_right (by omega), show st + m - out.length = 0 from by omega]
  obtain ⟨x, l, e⟩ := List.exists_cons_of_length_pos hl
  rw [e]
  simp
/-- What a code leaves. -/
def apS (out : List UInt8) (sp : List (Nat × Nat)) (c : Nat) : Option (List UInt8) :=
  if c < 256 then (if out.length + 1 ≤ 200 then some (out ++ [UInt8.ofNat c]) else none)
  else match sp[c - 257]? with
  | some q => if out.length + q.2 ≤ 200 then some (copyN out q.1 q.2) else none
  | none => none
/-- What appendString answers and leaves. -/
def ApOut (base gu : Nat) (vs : Value) (sp : List (Nat × Nat)) (p s : Nat) (r : Option (List UInt8)) (w : World) (e : Ending) (w' : World) : Prop :=
  e = .returned (.bool r.isSome) ∧ (∀ o, r = some o → ∃ vo', UnB w' gu vo' vs p s ∧ OwnSp w' base vs sp ∧ Own w' base vo' o) ∧ FrT w w' ∧ Below base w w'
/-- The out field is stored. -/
theorem set_out {w w5 : World} {base gu : Nat} {vo vs v5 : Value} {sp : List (Nat × Nat)} {p s : Nat} {o : List UInt8} (hU : UnB w5 gu vo vs p s) (hP : OwnSp w5 base vs sp) (hO : Own w5 base v5 o) (hF : FrT w w5) (hB : Below base w w5) (hg : base ≤ gu) :
    (UnB (w5.setCell ⟨gu, 0, none⟩ v5) gu v5 vs p s ∧ OwnSp (w5.setCell ⟨gu, 0, none⟩ v5) base vs sp ∧ Own (w5.setCell ⟨gu, 0, none⟩ v5) base v5 o) ∧ FrT w (w5.setCell ⟨gu, 0, none⟩ v5) ∧ Below base w (w5.setCell ⟨gu, 0, none⟩ v5) := by
  have hset : UnB (w5.setCell ⟨gu, 0, none⟩ v5) gu v5 vs p s := heap_setCell_same _ gu 0 _ _ _ hU
  refine ⟨⟨hset, ?_, ?_⟩, hF.trans fun b cs t fr hb h1 h2 h3 => setU_other hU hb h1, below_cell hB hg⟩
  · exact row_move hP fun b cs fr hb => setU_other hU hb (by decide)
  · exact row_move hO fun b cs fr hb => setU_other hU hb (by decide)
/-- A byte's row has grown. -/
theorem grown_out {w w1 w5 : World} {base gu : Nat} {vo vs v1 : Value} {sp : List (Nat × Nat)} {p s : Nat} {o : List UInt8} (hU : UnB w1 gu vo vs p s) (hP : OwnSp w1 base vs sp) (hO : Own w1 base v1 o) (hF : FrT w w1) (hB : Below base w w1) (hbw : base ≤ w.heap.size) (hg : w1.grownBy w5 v1.ownBlock) : UnB w5 gu vo vs p s ∧ OwnSp w5 base vs sp ∧ FrT w w5 ∧ Below base w w5 := by
  refine ⟨(row_ne hO hg hU (by decide)).trans hU, row_move hP fun b cs fr hb => row_ne hO hg hb (by decide), hF.trans fun b cs t fr hb h1 h2 h3 => row_ne hO hg hb h2, hB.grown hg (Nat.le_trans hbw hB.size) (fun q hq => (World.ownsRow.lt hO q hq).1)⟩

set_option maxRecDepth 100000 in
set_option maxHeartbeats 2000000 in
theorem apString_byte (base gu : Nat) (vo vs : Value) (out : List UInt8) (sp : List (Nat × Nat)) (p s : Nat) (x : UInt8) (w : World) (h : UnB w gu vo vs p s) (ho : Own w base vo out) (hsp : OwnSp w base vs sp) (hol : out.length ≤ 200) (hg : base ≤ gu) (hbw : base ≤ w.heap.size) :
    Calls Try.prog 134 #[.pointer (some ⟨gu, 0, none⟩), .int .i64 (x.toNat : Int)] w (ApOut base gu vs sp p s (apS out sp x.toNat) w) := by
  obtain ⟨Ao, co, rfl, -, -⟩ := ho.has
  have hx1 : ((x.toNat : Int) < 256) = True := eq_true (by have := x.toNat_lt; omega)
  have hx2 : IntKind.u8.wrap (x.toNat : Int) = (x.toNat : Int) := by
    show (x.toNat : Int) % 256 = (x.toNat : Int)
    have := x.toNat_lt
    omega
  have hx3 : (x.toNat : Int) % 256 = (x.toNat : Int) := by have := x.toNat_lt; omega
  have c0 := h.c0
  have hU1 : UnB (w.alloc (.cells #[.int .u8 (x.toNat : Int)] 5)) gu (.slice Ao out.length co) vs p s := (Below.heap_alloc w _ gu h.lt).trans h
  have hP1 : OwnSp (w.alloc (.cells #[.int .u8 (x.toNat : Int)] 5)) base vs sp := World.ownsRow.alloc hsp _
  have hO1 : Own (w.alloc (.cells #[.int .u8 (x.toNat : Int)] 5)) base (.slice Ao out.length co) out := World.ownsRow.alloc ho _
  have HG := Lib.hid (And.intro hU1 (And.intro hP1 (And.intro hO1 (And.intro (FrT.alloc w (.cells #[.int .u8 (x.toNat : Int)] 5)) ((Below.refl base w).alloc hbw (.cells #[.int .u8 (x.toNat : Int)] 5))))))
  have HR : Hid (apS out sp x.toNat = if out.length + 1 ≤ 200 then some (out ++ [x]) else none) := Lib.hid (by
    unfold apS
    rw [if_pos (by have := x.toNat_lt; omega)]
    simp)
  have HOL := Lib.hid hol
  have HO := Lib.hid ho
  clear h ho hsp hol hU1 hP1 hO1
  go_enter Try.func134, Try.ntmps134
  go_upto_region 3 with (at_builtin; refine wpList_push1 rfl (.tmp 13) (.tmp 16) rfl base (.slice Ao out.length co) out rfl HO.out x w.heap.size rfl rfl (by have := HOL.out; omega) hbw ?_; intro g5 c5 w5 ho5 hg5; have hQ5 := grown_out HG.out.1 HG.out.2.1 HG.out.2.2.1 HG.out.2.2.2.1 HG.out.2.2.2.2 hbw hg5; have k0 := hQ5.1.c0; have f0 := hQ5.1.free 0)
  have hQ6 := set_out hQ5.1 hQ5.2.1 ho5 hQ5.2.2.1 hQ5.2.2.2 hg
  have k6 := hQ6.1.1.c0
  have HQ := Lib.hid hQ6
  clear hQ5 hQ6 k0 f0 ho5 hg5 c0
  generalize w5.setCell ⟨gu, 0, none⟩ (.slice (some ⟨g5, 0, none⟩) (out.length + 1) c5) = w6 at *
  go_wp2_with fail
  go_ret
  unfold ApOut
  rw [HR.out]
  by_cases hq : out.length + 1 ≤ 200
  · rw [if_pos hq]
    refine ⟨?_, fun o' ho' => ?_, HQ.out.2.1, HQ.out.2.2⟩
    · show Ending.returned (Value.bool (decide ((out.length : Int) + 1 ≤ 200))) = _
      rw [decide_eq_true (by omega)]
      rfl
    · injection ho' with ho'
      subst ho'
      exact ⟨_, HQ.out.1.1, HQ.out.1.2.1, HQ.out.1.2.2⟩
  · rw [if_neg hq]
    refine ⟨?_, fun o' ho' => (by cases ho'), HQ.out.2.1, HQ.out.2.2⟩
    show Ending.returned (Value.bool (decide ((out.length : Int) + 1 ≤ 200))) = _
    rw [decide_eq_false (by omega)]
    rfl
set_option maxRecDepth 100000 in
set_option maxHeartbeats 2000000 in
theorem apString_none (base gu : Nat) (vo vs : Value) (out : List UInt8) (sp : List (Nat × Nat)) (p s j : Nat) (w : World) (h : UnB w gu vo vs p s) (hsp : OwnSp w base vs sp) (hj : sp.length ≤ j) (hj2 : j < 255) :
    Calls Try.prog 134 #[.pointer (some ⟨gu, 0, none⟩), .int .i64 ((257 + j : Nat) : Int)] w (ApOut base gu vs sp p s (apS out sp (257 + j)) w) := by
  obtain ⟨As, cs, rfl, -⟩ := hsp.has
  have c1 := h.c1
  have HR : Hid (apS out sp (257 + j) = none) := Lib.hid (by
    unfold apS
    rw [if_neg (by omega), show 257 + j - 257 = j from by omega, List.getElem?_eq_none hj])
  obtain ⟨cd, hcd⟩ : ∃ cd : Int, ((257 + j : Nat) : Int) = cd := ⟨_, rfl⟩
  rw [hcd]
  have h1 : ¬ cd < 256 := by omega
  have h2 : ¬ cd < 257 := by omega
  have h3 : wrap64 (j : Int) = (j : Int) := by unfold wrap64; omega
  have h3' : cd - 257 = (j : Int) := by omega
  have h4 : (sp.length : Int) ≤ (j : Int) := by omega
  clear h hsp hj hj2 hcd
  go_enter Try.func134, Try.ntmps134
  go_wp2
  go_ret
  unfold ApOut
  rw [HR.out]
  exact ⟨rfl, fun o' ho' => (by cases ho'), FrT.refl w, Below.refl _ _⟩
set_option maxRecDepth 100000 in
set_option maxHeartbeats 4000000 in
theorem apString_span (base gu : Nat) (vo vs : Value) (out : List UInt8) (sp : List (Nat × Nat)) (p s j st n : Nat) (w : World) (h : UnB w gu vo vs p s) (ho : Own w base vo out) (hsp : OwnSp w base vs sp) (hj : sp[j]? = some (st, n)) (hj2 : j < 255) (hst : st < out.length) (hn : n ≤ 300) (hol : out.length ≤ 200) (hg : base ≤ gu) (hbw : base ≤ w.heap.size) :
    Calls Try.prog 134 #[.pointer (some ⟨gu, 0, none⟩), .int .i64 ((257 + j : Nat) : Int)] w (ApOut base gu vs sp p s (apS out sp (257 + j)) w) := by
  obtain ⟨As, cs, rfl, -⟩ := hsp.has
  obtain ⟨gp, rfl, e1, e2⟩ := hsp.spot hj
  obtain ⟨Ao, co, rfl, -, -⟩ := ho.has
  have hjl := (List.getElem?_eq_some_iff.1 hj).1
  have c0 := h.c0
  have c1 := h.c1
  have HR : Hid (apS out sp (257 + j) = if out.length + n ≤ 200 then some (copyN out st n) else none) := Lib.hid (by
    unfold apS
    rw [if_neg (by omega), show 257 + j - 257 = j from by omega, hj])
  obtain ⟨cd, hcd⟩ : ∃ cd : Int, ((257 + j : Nat) : Int) = cd := ⟨_, rfl⟩
  rw [hcd]
  have h1 : ¬ cd < 256 := by omega
  have h2 : ¬ cd < 257 := by omega
  have h3' : cd - 257 = (j : Int) := by omega
  have h3 : wrap64 (j : Int) = (j : Int) := by unfold wrap64; omega
  have h4 : (j : Int) < (sp.length : Int) := by omega
  have h5 : ¬ (sp.length : Int) ≤ (j : Int) := by omega
  have HF := Lib.hid (And.intro hst (And.intro hn (And.intro hol hj2)))
  have HU := Lib.hid h
  have HO := Lib.hid ho
  have HSP := Lib.hid hsp
  clear h ho hsp hj hj2 hcd hjl hst hn hol
  go_enter Try.func134, Try.ntmps134
  go_upto_region 7 with fail
  obtain ⟨gs, hgs⟩ : ∃ gs, w.heap.size = gs := ⟨_, rfl⟩
  have hU1 : UnB (w.alloc (.cells #[.int .i64 (st : Int), .int .i64 (n : Int)] 135)) gu (.slice Ao out.length co) (.slice (some ⟨gp, 0, none⟩) sp.length cs) p s := (Below.heap_alloc w _ gu HU.out.lt).trans HU.out
  have hP1 : OwnSp (w.alloc (.cells #[.int .i64 (st : Int), .int .i64 (n : Int)] 135)) base (.slice (some ⟨gp, 0, none⟩) sp.length cs) sp := World.ownsRow.alloc HSP.out _
  have hO1 : Own (w.alloc (.cells #[.int .i64 (st : Int), .int .i64 (n : Int)] 135)) base (.slice Ao out.length co) out := World.ownsRow.alloc HO.out _
  have hN1 : (w.alloc (.cells #[.int .i64 (st : Int), .int .i64 (n : Int)] 135)).heap[w.heap.size]? = some (.cells #[.int .i64 (st : Int), .int .i64 (n : Int)] 135 (0, 0)) := heap_alloc_new w _
  have hF1 : FrT w (w.alloc (.cells #[.int .i64 (st : Int), .int .i64 (n : Int)] 135)) := FrT.alloc w _
  have hB1 : Below base w (w.alloc (.cells #[.int .i64 (st : Int), .int .i64 (n : Int)] 135)) := (Below.refl _ w).alloc hbw _
  rw [hgs] at hN1 ⊢
  generalize w.alloc (.cells #[.int .i64 (st : Int), .int .i64 (n : Int)] 135) = w1 at *
  have q0 := hU1.c0
  have q1 : w1.cell? ⟨gs, 1, none⟩ = some (.int .i64 (n : Int)) := by rw [cell_of_row w1 _ 1 _ _ _ hN1]; rfl
  obtain ⟨hst, hn, hol, hj2⟩ := HF.out
  have HI := Lib.hid (And.intro hU1 (And.intro hP1 (And.intro hO1 (And.intro hN1 (And.intro hF1 hB1)))))
  have hoI : (out.length : Int) ≤ 1073741824 := by omega
  have hnI : (n : Int) ≤ 1073741824 := by omega
  clear hU1 hP1 hO1 hN1 hF1 hB1 c0 c1 e1 e2 h1 h2 h3 h3' h4 h5 HSP HO HU hst hn hol hj2
  go_quiet (fail)
  by_cases hq : out.length + n ≤ 200
  · have hqI : (out.length : Int) + (n : Int) ≤ 200 := by omega
    have HR2 : Hid (apS out sp (257 + j) = some (copyN out st n)) := Lib.hid (by rw [HR.out, if_pos hq])
    clear hq
    go_wp2_with fail
    go_loopw [57] (fun i wr => ∃ k : Nat, k ≤ n ∧ i = .int .i64 k ∧ ∃ vo', UnB wr gu vo' (.slice (some ⟨gp, 0, none⟩) sp.length cs) p s ∧ OwnSp wr base (.slice (some ⟨gp, 0, none⟩) sp.length cs) sp ∧ Own wr base vo' (copyN out st k) ∧ wr.heap[gs]? = some (.cells #[.int .i64 (st : Int), .int .i64 (n : Int)] 135 (0, 0)) ∧ FrT w wr ∧ Below base w wr) (fun i _ => n - (intOf i).toNat)
    case atStart => exact ⟨0, Nat.zero_le _, rfl, _, HI.out.1, HI.out.2.1, HI.out.2.2.1, HI.out.2.2.2.1, HI.out.2.2.2.2.1, below_draws HI.out.2.2.2.2.2 _⟩
    case round =>
      clear HI q0 q1
      obtain ⟨k, hk, rfl, vo', hU, hP, hO, hN, hF, hB⟩ := hrel
      by_cases hlt : k < n
      · obtain ⟨Aq, co', rfl, -, -⟩ := hO.has
        obtain ⟨m, hm⟩ : ∃ m, (copyN out st k).length = m := ⟨_, rfl⟩
        have hml : m = out.length + k := by rw [← hm, copyN_length]
        obtain ⟨go, rfl, -, -⟩ := hO.nonnil (by rw [hm]; have := HF.out.1; omega)
        obtain ⟨x, hx⟩ : ∃ x, (copyN out st k)[st + k]? = some x := ⟨_, List.getElem?_eq_getElem (by rw [hm]; have := HF.out.1; omega)⟩
        have hxc : wr.cell? ⟨go, st + k, none⟩ = some (.int .u8 (x.toNat : Int)) := by
          rw [World.ownsRow.cellAt hO (st + k) (by rw [hm]; have := HF.out.1; omega)]
          simp [hx, bv]
        rw [hm] at hU
        have HO := Lib.hid hO
        have HCN : Hid (copyN out st (k + 1) = copyN out st k ++ [x]) := Lib.hid (by rw [copyN, hx]; rfl)
        have HM := Lib.hid hm
        obtain ⟨ix, hix⟩ : ∃ ix, st + k = ix := ⟨_, rfl⟩
        have px : 0 ≤ (ix : Int) ∧ (ix : Int) < (m : Int) := by have := HF.out.1; omega
        have hst2 : IntKind.i64.wrap ((st : Int) + (k : Int)) = (ix : Int) := by rw [IntWalk.i64_in _ (by have := HF.out; omega)]; omega
        rw [hix] at hxc
        have HML := Lib.hid hml
        clear hix hml
        have g0 : wr.cell? ⟨gs, 0, none⟩ = some (.int .i64 (st : Int)) := by rw [cell_of_row wr _ 0 _ _ _ hN]; rfl
        have HS0 : wr.drew.cell? ⟨gu, 0, none⟩ = some (.slice (some ⟨go, 0, none⟩) m co') ∧ wr.drew.cell? ⟨gu, 1, none⟩ = some (.slice (some ⟨gp, 0, none⟩) sp.length cs) ∧ wr.drew.cell? ⟨gu, 2, none⟩ = some (.int .i64 (p : Int)) ∧ wr.drew.cell? ⟨gu, 3, none⟩ = some (.int .i64 (s : Int)) ∧ wr.drew.cell? ⟨gs, 0, none⟩ = some (.int .i64 (st : Int)) := ⟨hU.c0, hU.c1, hU.c2, hU.c3, g0⟩
        have hxd : wr.drew.cell? ⟨go, ix, none⟩ = some (.int .u8 (x.toNat : Int)) := hxc
        clear hO hx hm g0 hxc
        go_upto_region 12 with fail
        obtain ⟨co, hco⟩ : ∃ co, co = co' := ⟨_, rfl⟩
        subst hco
        refine wp_region_T (fun w' => w'.cell? ⟨gu, 0, none⟩ = some (.slice (some ⟨go, 0, none⟩) m co) ∧ w'.cell? ⟨gu, 1, none⟩ = some (.slice (some ⟨gp, 0, none⟩) sp.length cs) ∧ w'.cell? ⟨gu, 2, none⟩ = some (.int .i64 (p : Int)) ∧ w'.cell? ⟨gu, 3, none⟩ = some (.int .i64 (s : Int)) ∧ w'.cell? ⟨gs, 0, none⟩ = some (.int .i64 (st : Int))) 19 (by kernel_rfl) ?_
        refine wpAnyT_take (i := 0) (d := 60) (v := .pointer (some ⟨gu, 0, none⟩)) rfl rfl (by kernel_rfl) (by kernel_rfl) (by kernel_rfl) (by kernel_rfl) (by kernel_rfl) (fun _ _ _ h => h) HS0 (Or.inl ⟨by rfl, fun w' hS' => ?_⟩) ?_
        · obtain ⟨z0, z1, z2, z3, z4⟩ := hS'
          go_simp
        simp only [Act.put, List.setIfInBounds_toArray, List.set_cons_zero, List.set_cons_succ]
        refine wpAnyT_take (i := 1) (d := 61) (v := .pointer (some ⟨gu, 0, none⟩)) rfl rfl (by kernel_rfl) (by kernel_rfl) (by kernel_rfl) (by kernel_rfl) (by kernel_rfl) (fun _ _ _ h => h) HS0 (Or.inl ⟨by rfl, fun w' hS' => ?_⟩) ?_
        · obtain ⟨z0, z1, z2, z3, z4⟩ := hS'
          go_simp
        simp only [Act.put, List.setIfInBounds_toArray, List.set_cons_zero, List.set_cons_succ]
        refine wpAnyT_take (i := 2) (d := 62) (v := .pointer (some ⟨gu, 0, none⟩)) rfl rfl (by kernel_rfl) (by kernel_rfl) (by kernel_rfl) (by kernel_rfl) (by kernel_rfl) (fun _ _ _ h => h) HS0 (Or.inl ⟨by rfl, fun w' hS' => ?_⟩) ?_
        · obtain ⟨z0, z1, z2, z3, z4⟩ := hS'
          go_simp
        simp only [Act.put, List.setIfInBounds_toArray, List.set_cons_zero, List.set_cons_succ]
        refine wpAnyT_take (i := 3) (d := 63) (v := .pointer (some ⟨gu, 0, none⟩)) rfl rfl (by kernel_rfl) (by kernel_rfl) (by kernel_rfl) (by kernel_rfl) (by kernel_rfl) (fun _ _ _ h => h) HS0 (Or.inl ⟨by rfl, fun w' hS' => ?_⟩) ?_
        · obtain ⟨z0, z1, z2, z3, z4⟩ := hS'
          go_simp
        simp only [Act.put, List.setIfInBounds_toArray, List.set_cons_zero, List.set_cons_succ]
        refine wpAnyT_take (i := 4) (d := 64) (v := .slice (some ⟨go, 0, none⟩) m co) rfl rfl (by kernel_rfl) (by kernel_rfl) (by kernel_rfl) (by kernel_rfl) (by kernel_rfl) (fun _ _ _ h => h) HS0 (Or.inl ⟨by rfl, fun w' hS' => ?_⟩) ?_
        · obtain ⟨z0, z1, z2, z3, z4⟩ := hS'
          go_simp
        simp only [Act.put, List.setIfInBounds_toArray, List.set_cons_zero, List.set_cons_succ]
        refine wpAnyT_take (i := 5) (d := 65) (v := .pointer (some ⟨gu, 0, none⟩)) rfl rfl (by kernel_rfl) (by kernel_rfl) (by kernel_rfl) (by kernel_rfl) (by kernel_rfl) (fun _ _ _ h => h) HS0 (Or.inl ⟨by rfl, fun w' hS' => ?_⟩) ?_
        · obtain ⟨z0, z1, z2, z3, z4⟩ := hS'
          go_simp
        simp only [Act.put, List.setIfInBounds_toArray, List.set_cons_zero, List.set_cons_succ]
        refine wpAnyT_take (i := 6) (d := 66) (v := .pointer (some ⟨gu, 0, none⟩)) rfl rfl (by kernel_rfl) (by kernel_rfl) (by kernel_rfl) (by kernel_rfl) (by kernel_rfl) (fun _ _ _ h => h) HS0 (Or.inl ⟨by rfl, fun w' hS' => ?_⟩) ?_
        · obtain ⟨z0, z1, z2, z3, z4⟩ := hS'
          go_simp
        simp only [Act.put, List.setIfInBounds_toArray, List.set_cons_zero, List.set_cons_succ]
        refine wpAnyT_take (i := 7) (d := 67) (v := .pointer (some ⟨gu, 0, none⟩)) rfl rfl (by kernel_rfl) (by kernel_rfl) (by kernel_rfl) (by kernel_rfl) (by kernel_rfl) (fun _ _ _ h => h) HS0 (Or.inl ⟨by rfl, fun w' hS' => ?_⟩) ?_
        · obtain ⟨z0, z1, z2, z3, z4⟩ := hS'
          go_simp
        simp only [Act.put, List.setIfInBounds_toArray, List.set_cons_zero, List.set_cons_succ]
        refine wpAnyT_take (i := 8) (d := 68) (v := .slice (some ⟨go, 0, none⟩) m co) rfl rfl (by kernel_rfl) (by kernel_rfl) (by kernel_rfl) (by kernel_rfl) (by kernel_rfl) (fun _ _ _ h => h) HS0 (Or.inl ⟨by rfl, fun w' hS' => ?_⟩) ?_
        · obtain ⟨z0, z1, z2, z3, z4⟩ := hS'
          go_simp
        simp only [Act.put, List.setIfInBounds_toArray, List.set_cons_zero, List.set_cons_succ]
        refine wpAnyT_take (i := 9) (d := 69) (v := .pointer (some ⟨gs, 0, none⟩)) rfl rfl (by kernel_rfl) (by kernel_rfl) (by kernel_rfl) (by kernel_rfl) (by kernel_rfl) (fun _ _ _ h => h) HS0 (Or.inl ⟨by rfl, fun w' hS' => ?_⟩) ?_
        · obtain ⟨z0, z1, z2, z3, z4⟩ := hS'
          go_simp
        simp only [Act.put, List.setIfInBounds_toArray, List.set_cons_zero, List.set_cons_succ]
        refine wpAnyT_take (i := 10) (d := 70) (v := .int .i64 (st : Int)) rfl rfl (by kernel_rfl) (by kernel_rfl) (by kernel_rfl) (by kernel_rfl) (by kernel_rfl) (fun _ _ _ h => h) HS0 (Or.inl ⟨by rfl, fun w' hS' => ?_⟩) ?_
        · obtain ⟨z0, z1, z2, z3, z4⟩ := hS'
          go_simp
        simp only [Act.put, List.setIfInBounds_toArray, List.set_cons_zero, List.set_cons_succ]
        refine wpAnyT_take (i := 11) (d := 71) (v := .int .i64 (k : Int)) rfl rfl (by kernel_rfl) (by kernel_rfl) (by kernel_rfl) (by kernel_rfl) (by kernel_rfl) (fun _ _ _ h => h) HS0 (Or.inl ⟨by rfl, fun w' hS' => ?_⟩) ?_
        · obtain ⟨z0, z1, z2, z3, z4⟩ := hS'
          go_simp
        simp only [Act.put, List.setIfInBounds_toArray, List.set_cons_zero, List.set_cons_succ]
        refine wpAnyT_take (i := 12) (d := 72) (v := .int .i64 (ix : Int)) rfl rfl (by kernel_rfl) (by kernel_rfl) (by kernel_rfl) (by kernel_rfl) (by kernel_rfl) (fun _ _ _ h => h) HS0 (Or.inl ⟨by rfl, fun w' hS' => ?_⟩) ?_
        · obtain ⟨z0, z1, z2, z3, z4⟩ := hS'
          go_simp
        simp only [Act.put, List.setIfInBounds_toArray, List.set_cons_zero, List.set_cons_succ]
        refine wpAnyT_one (i := 13) (by kernel_rfl) rfl (fun K hK => ?_)
        go_simp
        refine hK.out _ _ (fun _ => HS0) ?_
        clear hK
        refine wpAnyT_one (i := 14) (by kernel_rfl) rfl (fun K hK => ?_)
        go_simp
        refine hK.out _ _ (fun _ => HS0) ?_
        clear hK
        have hU1 : UnB (wr.alloc (.cells #[.int .u8 (x.toNat : Int)] 5)).drew gu (.slice (some ⟨go, 0, none⟩) m co) (.slice (some ⟨gp, 0, none⟩) sp.length cs) p s := (Below.heap_alloc wr _ gu hU.lt).trans hU
        have hP1 : OwnSp (wr.alloc (.cells #[.int .u8 (x.toNat : Int)] 5)).drew base (.slice (some ⟨gp, 0, none⟩) sp.length cs) sp := World.ownsRow.alloc (w := wr) hP _
        have hO1 : Own (wr.alloc (.cells #[.int .u8 (x.toNat : Int)] 5)).drew base (.slice (some ⟨go, 0, none⟩) m co) (copyN out st k) := by have := World.ownsRow.alloc (w := wr) HO.out (.cells #[.int .u8 (x.toNat : Int)] 5); rw [HM.out] at this; rw [← HM.out] at this ⊢; exact this
        have hN1 : (wr.alloc (.cells #[.int .u8 (x.toNat : Int)] 5)).drew.heap[gs]? = some (.cells #[.int .i64 (st : Int), .int .i64 (n : Int)] 135 (0, 0)) := (Below.heap_alloc wr _ gs (Array.getElem?_eq_some_iff.1 hN).1).trans hN
        have hF1 : FrT w (wr.alloc (.cells #[.int .u8 (x.toNat : Int)] 5)).drew := hF.trans (FrT.alloc wr _)
        have hB1 : Below base w (wr.alloc (.cells #[.int .u8 (x.toNat : Int)] 5)).drew := below_drew1 (hB.alloc (Nat.le_trans hbw hB.size) _)
        have hX1 : (wr.alloc (.cells #[.int .u8 (x.toNat : Int)] 5)).drew.heap[wr.heap.size]? = some (.cells #[.int .u8 (x.toNat : Int)] 5 (0, 0)) := heap_alloc_new wr _
        have r1 : (wr.alloc (.cells #[.int .u8 (x.toNat : Int)] 5)).drew.cell? ⟨gs, 0, none⟩ = some (.int .i64 (st : Int)) := by rw [cell_of_row _ _ 0 _ _ _ hN1]; rfl
        refine wpAnyT_one (i := 15) (by kernel_rfl) rfl (fun K hK => ?_)
        go_simp
        refine hK.out _ _ (fun _ => ⟨hU1.c0, hU1.c1, hU1.c2, hU1.c3, r1⟩) ?_
        clear hK HS0 hxd hU hP hN hF hB r1
        generalize (wr.alloc (.cells #[.int .u8 (x.toNat : Int)] 5)).drew = w2 at *
        refine wpAnyT_one (i := 16) (by kernel_rfl) rfl (fun K hK => ?_)
        refine step_push rfl (.tmp 64) (.tmp 75) rfl base (.slice (some ⟨go, 0, none⟩) m co) (copyN out st k) rfl hO1 ⟨wr.heap.size, 0, none⟩ 1 [x] rfl (fun j u hu => World.news_of_block hX1 j _ (by
          match j, hu with
          | 0, hu => simp at hu; subst hu; rfl)) (by simp) (by rw [HM.out, HML.out]; have := HF.out; simp; omega) (Nat.le_trans hbw hB1.size) ?_
        intro g5 c5 w5 hO5 hg5
        obtain ⟨hU5, hP5, hF5, hB5⟩ := grown_out hU1 hP1 hO1 hF1 hB1 hbw hg5
        have hN5 := (row_ne hO1 hg5 hN1 (by decide)).trans hN1
        have r5 : w5.cell? ⟨gs, 0, none⟩ = some (.int .i64 (st : Int)) := by rw [cell_of_row _ _ 0 _ _ _ hN5]; rfl
        refine hK.out _ _ (fun _ => ⟨hU5.c0, hU5.c1, hU5.c2, hU5.c3, r5⟩) ?_
        clear hK hU1 hP1 hO1 hN1 hF1 hB1 hX1 hg5
        try simp only [Act.put, List.setIfInBounds_toArray]
        refine wpAnyT_one (i := 17) (by kernel_rfl) rfl (fun K hK => ?_)
        go_simp
        refine hK.out _ _ (fun _ => ⟨hU5.c0, hU5.c1, hU5.c2, hU5.c3, r5⟩) ?_
        clear hK
        refine wpAnyT_one (i := 18) (by kernel_rfl) rfl (fun K hK => ?_)
        go_simp
        refine hK.out _ _ (fun _ => ⟨hU5.c0, hU5.c1, hU5.c2, hU5.c3, r5⟩) ?_
        clear hK r5
        have hQ6 := set_out hU5 hP5 hO5 hF5 hB5 hg
        have HN6 := Lib.hid ((setU_other (i := 0) (x := .slice (some ⟨g5, 0, none⟩) ((copyN out st k).length + [x].length) c5) hU5 hN5 (by decide)).trans hN5)
        rw [← HCN.out] at hQ6
        have HQ6 := Lib.hid hQ6
        have k0 := hU5.c0
        have f0 := hU5.free 0
        clear hQ6 hU5 hP5 hO5 hF5 hB5 hN5
        refine wpAnyT_one (i := 19) (by kernel_rfl) rfl (fun K hK => ?_)
        go_simp
        refine hK.out _ _ (fun h => last_out h) ?_
        clear hK k0 f0
        refine wpAnyT_done (by kernel_rfl) ?_ _
        go_wp2_with fail
        go_roundw
        case rel => exact ⟨k + 1, by omega, by go_num, _, HQ6.out.1.1, HQ6.out.1.2.1, HQ6.out.1.2.2, HN6.out, HQ6.out.2.1, HQ6.out.2.2⟩
        case measure => simp [intOf]; omega
      · obtain rfl : k = n := by omega
        have HE : Hid (ApOut base gu (.slice (some ⟨gp, 0, none⟩) sp.length cs) sp p s (apS out sp (257 + j)) w (.returned (.bool true)) wr) := Lib.hid (by
          unfold ApOut
          rw [HR2.out]
          refine ⟨rfl, fun o' ho' => ?_, hF, hB⟩
          injection ho' with ho'
          subst ho'
          exact ⟨_, hU, hP, hO⟩)
        clear hU hP hO hN hF hB
        go_wp2_with fail
        go_ret
        exact HE.out
  · have hqI : 200 < (out.length : Int) + (n : Int) := by omega
    have HE : Hid (∀ m, ApOut base gu (.slice (some ⟨gp, 0, none⟩) sp.length cs) sp p s (apS out sp (257 + j)) w (.returned (.bool false)) (w1.drewN m)) := Lib.hid (fun m => by
      unfold ApOut
      rw [HR.out, if_neg hq]
      exact ⟨rfl, fun o' ho' => (by cases ho'), HI.out.2.2.2.2.1, below_draws HI.out.2.2.2.2.2 _⟩)
    clear hq
    go_wp2_with fail
    go_ret
    exact HE.out _
end Go.Proofs.Ytnnpjcbdcjdojaa
namespace Go.Proofs.Ytnnpjcbdcjdojaa
open Go.RowKit

/-- Where the strings that were met, and the last one, stand in what was unpacked. -/
def SpanRel (out : List UInt8) (met : List (List UInt8)) (last : List UInt8) (sp : List (Nat × Nat)) (p s : Nat) : Prop :=
  sp.length = met.length ∧ (∀ (i : Nat) b, met[i]? = some b → ∃ st n, sp[i]? = some (st, n) ∧ 1 ≤ n ∧ st + n ≤ out.length ∧ b = (out.drop st).take n) ∧ p + s = out.length ∧ last = out.drop p
/-- The spans once the last string is entered. -/
def sp2 (sp : List (Nat × Nat)) (p s : Nat) : List (Nat × Nat) := if s = 0 then sp else sp ++ [(p, s + 1)]
theorem last_len {out last : List UInt8} {p s : Nat} (h : p + s = out.length) (hl : last = out.drop p) : last.length = s := by rw [hl]; simp; omega
theorem ap_bytes {out : List UInt8} {met : List (List UInt8)} {last : List UInt8} {sp : List (Nat × Nat)} {p s cd : Nat} (h : SpanRel out met last sp p s) (h5 : cd < 512) :
    apS out (sp2 sp p s) cd = if (bytes4 met last cd).length ≠ 0 ∧ out.length + (bytes4 met last cd).length ≤ 200 then some (out ++ bytes4 met last cd) else none := by
  obtain ⟨h1, h2, h3, h4⟩ := h
  have hll := last_len h3 h4
  unfold apS bytes4
  by_cases hc : cd < 256
  · rw [if_pos hc, if_pos hc]
    simp
  · rw [if_neg hc, if_neg hc]
    by_cases hi : cd - 257 < met.length
    · rw [if_pos hi]
      obtain ⟨b, hb⟩ : ∃ b, met[cd - 257]? = some b := ⟨_, List.getElem?_eq_getElem hi⟩
      obtain ⟨st, n, e1, e2, e3, e4⟩ := h2 _ b hb
      have e5 : (sp2 sp p s)[cd - 257]? = some (st, n) := by
        unfold sp2
        split
        · exact e1
        · rw [List.getElem?_append_left (by omega)]; exact e1
      have hbl : b.length = n := by rw [e4]; simp; omega
      rw [e5, hb]
      simp only [Option.getD_some]
      rw [copyN_in out st n e3, ← e4, hbl]
      by_cases hq : out.length + n ≤ 200
      · rw [if_pos hq, if_pos ⟨by omega, hq⟩]
      · rw [if_neg hq, if_neg (fun q => hq q.2)]
    · rw [if_neg hi]
      by_cases hj : cd - 257 = met.length ∧ 0 < last.length ∧ cd < 512
      · rw [if_pos hj]
        have e5 : (sp2 sp p s)[cd - 257]? = some (p, s + 1) := by
          unfold sp2
          rw [if_neg (by omega), List.getElem?_append_right (by omega), show cd - 257 - sp.length = 0 from by omega]
          rfl
        have hbl : (last ++ last.take 1).length = s + 1 := by simp; omega
        rw [e5]
        simp only
        rw [copyN_over out p s h3 (by omega), ← h4, hbl]
        by_cases hq : out.length + (s + 1) ≤ 200
        · rw [if_pos hq, if_pos ⟨by omega, hq⟩]
        · rw [if_neg hq, if_neg (fun q => hq q.2)]
      · rw [if_neg hj]
        have e5 : (sp2 sp p s)[cd - 257]? = none := by
          unfold sp2
          split
          · exact List.getElem?_eq_none (by omega)
          · refine List.getElem?_eq_none ?_
            simp
            omega
        rw [e5]
        simp
/-- Behind a code. -/
theorem span_next {out : List UInt8} {met : List (List UInt8)} {last : List UInt8} {sp : List (Nat × Nat)} {p s : Nat} {b : List UInt8} (h : SpanRel out met last sp p s) (hm : met.length < 255) (hb : b.length ≠ 0) : SpanRel (out ++ b) (meet4 met last b) b (sp2 sp p s) out.length b.length := by
  obtain ⟨h1, h2, h3, h4⟩ := h
  have hll := last_len h3 h4
  have hold : ∀ st n, st + n ≤ out.length → (out.drop st).take n = ((out ++ b).drop st).take n := by
    intro st n hle
    rw [List.drop_append_of_le_length (by omega), List.take_append_of_le_length (by simp; omega)]
  refine ⟨?_, fun i x hx => ?_, by simp, by simp⟩
  · unfold sp2 meet4
    by_cases hs : s = 0
    · rw [if_pos hs, if_neg (by omega)]; exact h1
    · rw [if_neg hs, if_pos ⟨by omega, hm⟩]; simp [h1]
  · unfold meet4 at hx
    by_cases hs : s = 0
    · rw [if_neg (by omega)] at hx
      obtain ⟨st, n, e1, e2, e3, e4⟩ := h2 i x hx
      exact ⟨st, n, by unfold sp2; rw [if_pos hs]; exact e1, e2, by simp; omega, by rw [e4]; exact hold st n e3⟩
    · rw [if_pos ⟨by omega, hm⟩] at hx
      by_cases hi : i < met.length
      · rw [List.getElem?_append_left hi] at hx
        obtain ⟨st, n, e1, e2, e3, e4⟩ := h2 i x hx
        exact ⟨st, n, by unfold sp2; rw [if_neg hs, List.getElem?_append_left (by omega)]; exact e1, e2, by simp; omega, by rw [e4]; exact hold st n e3⟩
      · rw [List.getElem?_append_right (by omega)] at hx
        have hi2 := (List.getElem?_eq_some_iff.1 hx).1
        simp at hi2
        have hi3 : i = met.length := by omega
        subst hi3
        simp at hx
        subst hx
        refine ⟨p, s + 1, by unfold sp2; rw [if_neg hs, List.getElem?_append_right (by omega), h1, Nat.sub_self]; rfl, by omega, by simp; omega, ?_⟩
        rw [List.drop_append_of_le_length (by omega), ← h4, List.take_append, show s + 1 - last.length = 1 from by omega, List.take_of_length_le (l := last) (by omega)]
theorem span_at {out : List UInt8} {met : List (List UInt8)} {last : List UInt8} {sp : List (Nat × Nat)} {p s i st n : Nat} (h : SpanRel out met last sp p s) (hi : (sp2 sp p s)[i]? = some (st, n)) : st < out.length ∧ n ≤ out.length + 1 := by
  obtain ⟨h1, h2, h3, h4⟩ := h
  have hold : sp[i]? = some (st, n) → st < out.length ∧ n ≤ out.length + 1 := fun e => by
    have hil := (List.getElem?_eq_some_iff.1 e).1
    obtain ⟨b, hb⟩ : ∃ b, met[i]? = some b := ⟨_, List.getElem?_eq_getElem (by omega)⟩
    obtain ⟨st', n', e1, e2, e3, -⟩ := h2 i b hb
    rw [e] at e1
    injection e1 with e1
    injection e1 with q1 q2
    omega
  unfold sp2 at hi
  split at hi
  · exact hold hi
  · by_cases hil : i < sp.length
    · rw [List.getElem?_append_left hil] at hi
      exact hold hi
    · rw [List.getElem?_append_right (by omega)] at hi
      have hi2 := (List.getElem?_eq_some_iff.1 hi).1
      simp at hi2
      have hi3 : i - sp.length = 0 := by omega
      rw [hi3] at hi
      simp at hi
      obtain ⟨rfl, rfl⟩ := hi
      omega
/-- Block gu is an unpacker of out, what was met and the last string. -/
def Unp (w : World) (base gu : Nat) (out : List UInt8) (met : List (List UInt8)) (last : List UInt8) : Prop :=
  ∃ vo vs sp p s, UnB w gu vo vs p s ∧ Own w base vo out ∧ OwnSp w base vs sp ∧ SpanRel out met last sp p s
/-- appendString for every code. -/
theorem apString_any (base gu : Nat) (vo vs : Value) (out : List UInt8) (sp : List (Nat × Nat)) (p s cd : Nat) (w : World) (h : UnB w gu vo vs p s) (ho : Own w base vo out) (hsp : OwnSp w base vs sp) (h5 : cd < 512) (h6 : cd ≠ 256) (hs : ∀ (i st n : Nat), sp[i]? = some (st, n) → st < out.length ∧ n ≤ 300) (hol : out.length ≤ 200) (hg : base ≤ gu) (hbw : base ≤ w.heap.size) :
    Calls Try.prog 134 #[.pointer (some ⟨gu, 0, none⟩), .int .i64 (cd : Int)] w (ApOut base gu vs sp p s (apS out sp cd) w) := by
  by_cases hc : cd < 256
  · have e : (UInt8.ofNat cd).toNat = cd := by simp; omega
    have := apString_byte base gu vo vs out sp p s (UInt8.ofNat cd) w h ho hsp hol hg hbw
    rw [e] at this
    exact this
  · obtain ⟨j, rfl⟩ : ∃ j, cd = 257 + j := ⟨cd - 257, by omega⟩
    cases hj : sp[j]? with
    | none => exact apString_none base gu vo vs out sp p s j w h hsp (List.getElem?_eq_none_iff.1 hj) (by omega)
    | some q =>
      obtain ⟨st, n⟩ := q
      obtain ⟨k1, k2⟩ := hs j st n hj
      exact apString_span base gu vo vs out sp p s j st n w h ho hsp hj (by omega) k1 k2 hol hg hbw
/-- What put answers and leaves. -/
def PutU (base gu : Nat) (out : List UInt8) (met : List (List UInt8)) (last b : List UInt8) (w : World) (e : Ending) (w' : World) : Prop :=
  e = .returned (.bool (decide (b.length ≠ 0 ∧ out.length + b.length ≤ 200))) ∧ ((b.length ≠ 0 ∧ out.length + b.length ≤ 200) → Unp w' base gu (out ++ b) (meet4 met last b) b) ∧ FrT w w' ∧ Below base w w'
/-- enterPrevious, whatever the last string is. -/
theorem enterPrev_any (base gu : Nat) (vo vs : Value) (out : List UInt8) (sp : List (Nat × Nat)) (p s : Nat) (w : World) (h : UnB w gu vo vs p s) (ho : Own w base vo out) (hsp : OwnSp w base vs sp) (hs2 : s ≤ 1000) (hl : sp.length < 255) (hg : base ≤ gu) (hbw : base ≤ w.heap.size) :
    Calls Try.prog 133 #[.pointer (some ⟨gu, 0, none⟩)] w (EpOut base gu vo out (sp2 sp p s) p s w) := by
  by_cases hs : s = 0
  · subst hs
    refine (enterPrev_zero gu vo vs p w h).mono ?_
    rintro e w' ⟨rfl, rfl⟩
    exact ⟨rfl, ⟨vs, h, hsp, ho⟩, FrT.refl _, Below.refl _ _⟩
  · have := enterPrev_more base gu vo vs out sp p s w h ho hsp (by omega) hs2 hl hg hbw
    unfold sp2
    rw [if_neg hs]
    exact this
set_option maxHeartbeats 2000000 in
theorem putU_any (base gu cd : Nat) (out : List UInt8) (met : List (List UInt8)) (last : List UInt8) (w : World) (h : Unp w base gu out met last) (h5 : cd < 512) (h6 : cd ≠ 256) (hm : met.length < 255) (hol : out.length ≤ 200) (hg : base ≤ gu) (hbw : base ≤ w.heap.size) :
    Calls Try.prog 125 #[.pointer (some ⟨gu, 0, none⟩), .int .i64 (cd : Int)] w (PutU base gu out met last (bytes4 met last cd) w) := by
  obtain ⟨vo, vs, sp, p, s, hU, hO, hP, hR⟩ := h
  have hsl : s ≤ out.length := by have := hR.2.2.1; omega
  have CE := Lib.hid (enterPrev_any base gu vo vs out sp p s w hU hO hP (by omega) (by have := hR.1; omega) hg hbw)
  have CA := Lib.hid fun vs' W (hU : UnB W gu vo vs' p s) hO hP hbW => apString_any base gu vo vs' out (sp2 sp p s) p s cd W hU hO hP h5 h6 (fun i st n hi => by have := span_at hR hi; omega) hol hg hbW
  rw [ap_bytes hR h5] at CA
  have HN := Lib.hid (fun (b : List UInt8) hb => span_next (b := b) hR hm hb)
  have HOL := Lib.hid hol
  generalize bytes4 met last cd = b at *
  obtain ⟨Ao, co, rfl, -, -⟩ := hO.has
  clear hU hO hP hR h5 h6 hm hsl hol
  go_enter Try.func125, Try.ntmps125
  go_wp2_with fail
  refine CE.out.mono ?_
  rintro e w1 ⟨rfl, ⟨vs1, hU1, hP1, hO1⟩, hF1, hB1⟩
  have c0 := hU1.c0
  have CA1 := Lib.hid (CA.out vs1 w1 hU1 hO1 hP1 (Nat.le_trans hbw hB1.size))
  have HF1 := Lib.hid (And.intro hF1 hB1)
  clear CE CA hU1 hP1 hO1 hF1 hB1
  unfold ApOut at CA1
  go_wp2_with fail
  refine CA1.out.mono ?_
  rintro e w2 ⟨rfl, hs2, hF2, hB2⟩
  have hF := HF1.out.1.trans hF2
  have hB := HF1.out.2.trans hB2
  clear CA1 HF1 hF2 hB2 c0
  by_cases hq : b.length ≠ 0 ∧ out.length + b.length ≤ 200
  · rw [if_pos hq] at hs2 ⊢
    obtain ⟨vo2, hU2, hP2, hO2⟩ := hs2 _ rfl
    obtain ⟨A2, c2, rfl, -, -⟩ := hO2.has
    have d0 := hU2.c0
    have d2 := hU2.c2
    have d3 := hU2.c3
    have f2 := hU2.free 2
    have f3 := hU2.free 3
    have hlen : (out ++ b).length = out.length + b.length := by simp
    rw [hlen] at d0
    have hset : UnB ((w2.setCell ⟨gu, 2, none⟩ (.int .i64 (out.length : Int))).setCell ⟨gu, 3, none⟩ (.int .i64 (b.length : Int))) gu (.slice A2 (out ++ b).length c2) vs1 out.length b.length := by
      have s1 := heap_setCell_same _ gu 2 _ _ (.int .i64 (out.length : Int)) hU2
      have s2 := heap_setCell_same _ gu 3 _ _ (.int .i64 (b.length : Int)) s1
      exact s2
    have hU2' : UnB (w2.setCell ⟨gu, 2, none⟩ (.int .i64 (out.length : Int))) gu (.slice A2 (out ++ b).length c2) vs1 out.length s := heap_setCell_same _ gu 2 _ _ (.int .i64 (out.length : Int)) hU2
    have hoth : ∀ (q : Nat) cs t fr, w2.heap[q]? = some (.cells cs t fr) → t ≠ 137 → ((w2.setCell ⟨gu, 2, none⟩ (.int .i64 (out.length : Int))).setCell ⟨gu, 3, none⟩ (.int .i64 (b.length : Int))).heap[q]? = w2.heap[q]? := fun q cs t fr hb ht => by
      have e1 := setU_other (i := 2) (x := .int .i64 (out.length : Int)) hU2 hb ht
      exact (setU_other (i := 3) (x := .int .i64 (b.length : Int)) hU2' (e1.trans hb) ht).trans e1
    have HQ : Hid (PutU base gu out met last b w (.returned (.bool true)) ((w2.setCell ⟨gu, 2, none⟩ (.int .i64 (out.length : Int))).setCell ⟨gu, 3, none⟩ (.int .i64 (b.length : Int)))) := Lib.hid (by
      refine ⟨by rw [decide_eq_true hq], fun _ => ⟨_, vs1, sp2 sp p s, _, _, hset, ?_, ?_, HN.out b hq.1⟩, hF.trans fun q cs t fr hb h1 _ _ => hoth q cs t fr hb h1, below_cell (below_cell hB hg) hg⟩
      · exact row_move hO2 fun q cs fr hb => hoth q cs _ fr hb (by decide)
      · exact row_move hP2 fun q cs fr hb => hoth q cs _ fr hb (by decide))
    have hb3 : (out.length : Int) ≤ 1000 ∧ (b.length : Int) ≤ 1000 := by have := HOL.out; omega
    clear hU2 hP2 hO2 hset hU2' hoth hF hB hs2 HN hlen hq
    go_wp2
    go_ret
    rw [show (out.length : Int) + (b.length : Int) - (out.length : Int) = (b.length : Int) from by omega]
    exact HQ.out
  · rw [if_neg hq] at hs2 ⊢
    have HQ : Hid (PutU base gu out met last b w (.returned (.bool false)) w2) := Lib.hid ⟨by rw [decide_eq_false hq], fun h => absurd h hq, hF, hB⟩
    clear hs2 hF hB hq HN
    go_wp2
    go_ret
    exact HQ.out
end Go.Proofs.Ytnnpjcbdcjdojaa
namespace Go.Proofs.Ytnnpjcbdcjdojaa
open Go.RowKit

set_option maxHeartbeats 400000 in
theorem specBitGet_any (A : Option Addr) (c : Nat) (l : List UInt8) (a b : Int) (B : Nat) (w : World) (hs : l.length ≤ 1073741824) (h : Has w B A l) :
    Calls Try.prog 79 #[.slice A l.length c, .int .i64 a, .int .i64 b] w fun e w' => e = .returned (.tuple #[.int .i64 ((bitGetN l a b : Nat) : Int), .bool (bitGetB l a b)]) ∧ w' = w := by
  by_cases ha : a < 0
  · have hB : bitGetB l a b = false := decide_eq_false (by omega)
    rw [bitGetN_no hB, hB]
    go_enter Try.func79, Try.ntmps79
    go_wp2
    go_ret2
    exact ⟨rfl, rfl⟩
  · by_cases hb : 1 ≤ b ∧ b ≤ 12
    · by_cases hl : a > 8 * (l.length : Int) - b
      · have hB : bitGetB l a b = false := decide_eq_false (by omega)
        rw [bitGetN_no hB, hB]
        go_enter Try.func79, Try.ntmps79
        go_wp2_with fail
        refine (l1In_any _ _ _ _).mono ?_
        rintro e w' ⟨rfl, rfl⟩
        go_wp2
        go_ret2
        exact ⟨rfl, rfl⟩
      · have hB : bitGetB l a b = true := decide_eq_true (by omega)
        obtain ⟨p, rfl⟩ : ∃ p : Nat, a = (p : Int) := ⟨a.toNat, by omega⟩
        obtain ⟨q, rfl⟩ : ∃ q : Nat, b = (q : Int) := ⟨b.toNat, by omega⟩
        have HN : Hid (bitGetN l p q = getN l p q) := Lib.hid (by unfold bitGetN; rw [hB]; simp)
        rw [hB, HN.out]
        go_enter Try.func79, Try.ntmps79
        go_wp2_with fail
        refine (l1In_any _ _ _ _).mono ?_
        rintro e w' ⟨rfl, rfl⟩
        go_wp2
        go_loop [8, 9] (fun n i => ∃ k m : Nat, k ≤ q ∧ i = .int .i64 k ∧ n = .int .i64 m ∧ getN l p k = m) (fun _ i => q - (intOf i).toNat)
        case atStart => exact ⟨0, 0, Nat.zero_le _, rfl, rfl, rfl⟩
        case round =>
          obtain ⟨k, m, hk, rfl, rfl, hm⟩ := hrel
          by_cases hlt : k < q
          · obtain ⟨i, hi⟩ : ∃ i, (p + k) / 8 = i := ⟨_, rfl⟩
            obtain ⟨s, hs'⟩ : ∃ s, (p + k) % 8 = s := ⟨_, rfl⟩
            obtain ⟨bb, o, x, rfl, hbB, hx, hc⟩ := h.spot (k := i) (by omega)
            have hbit := bitAt_of (l := l) (a := p + k) (x := x) (by rw [hi]; exact hx)
            have hb2 := bitAt_lt l (p + k)
            rw [hs'] at hbit
            have hm2 := getN_lt l p k
            have HS : Hid (getN l p (k + 1) = m + bitAt l (p + k) * 2 ^ k) := Lib.hid (by rw [getN, hm])
            rw [hm] at hm2
            generalize bitAt l (p + k) = bt at *
            have t1 : ((p : Int) + (k : Int)) / 8 = (i : Int) := by omega
            have t2 : ((p : Int) + (k : Int)) % 8 = (s : Int) := by omega
            have HV := Lib.hid (get_step m x.toNat s k bt x.toNat_lt hm2 (by omega) hbit)
            clear hx h hbit hi hs' hm hm2
            go_wp2
            go_round
            case rel => exact ⟨k + 1, m + bt * 2 ^ k, by omega, by go_num, by rw [HV.out], HS.out⟩
            case measure => simp [intOf]; omega
          · obtain rfl : k = q := by omega
            rw [← hm]
            go_wp2
            go_ret2
            exact ⟨rfl, rfl⟩
    · have hB : bitGetB l a b = false := decide_eq_false (by omega)
      have hd : decide (1 ≤ b ∧ b ≤ 12) = false := decide_eq_false hb
      rw [bitGetN_no hB, hB]
      go_enter Try.func79, Try.ntmps79
      go_wp2_with fail
      refine (l1In_any _ _ _ _).mono ?_
      rintro e w' ⟨rfl, rfl⟩
      go_wp2
      go_ret2
      exact ⟨rfl, rfl⟩
end Go.Proofs.Ytnnpjcbdcjdojaa
namespace Go.Proofs.Ytnnpjcbdcjdojaa
open Go.RowKit

/-- Block g is a reader of the bytes l that stands at place a and has the error e. -/
def RdB (w : World) (g : Nat) (A : Option Addr) (c : Nat) (l : List UInt8) (a : Int) (e : Value) : Prop :=
  w.heap[g]? = some (.cells #[.slice A l.length c, .int .i64 a, e] 141 (0, 0)) ∧ Has w g A l
section
variable {w w' : World} {g : Nat} {A : Option Addr} {c : Nat} {l : List UInt8} {a : Int} {e : Value}
theorem RdB.lt (h : RdB w g A c l a e) : g < w.heap.size := (Array.getElem?_eq_some_iff.1 h.1).1
theorem RdB.c0 (h : RdB w g A c l a e) : w.cell? ⟨g, 0, none⟩ = some (.slice A l.length c) := by rw [cell_of_row w g 0 _ _ _ h.1]; rfl
theorem RdB.c1 (h : RdB w g A c l a e) : w.cell? ⟨g, 1, none⟩ = some (.int .i64 a) := by rw [cell_of_row w g 1 _ _ _ h.1]; rfl
theorem RdB.c2 (h : RdB w g A c l a e) : w.cell? ⟨g, 2, none⟩ = some e := by rw [cell_of_row w g 2 _ _ _ h.1]; rfl
theorem RdB.free (h : RdB w g A c l a e) (i : Nat) : w.frozen? ⟨g, i, none⟩ = false := by simp [World.frozen?, h.1]
theorem RdB.drewN (h : RdB w g A c l a e) (n : Nat) : RdB (w.drewN n) g A c l a e := h
theorem RdB.set1 (h : RdB w g A c l a e) (b : Int) : RdB (w.setCell ⟨g, 1, none⟩ (.int .i64 b)) g A c l b e := by
  refine ⟨?_, h.2.kept fun q hq => World.cell?_of_block (Below.heap_setCell w _ _ q.block (by simp; omega))⟩
  have := heap_setCell_same w g 1 _ _ (.int .i64 b) h.1
  simpa using this
theorem RdB.set2 (h : RdB w g A c l a e) (v : Value) : RdB (w.setCell ⟨g, 2, none⟩ v) g A c l a v := by
  refine ⟨?_, h.2.kept fun q hq => World.cell?_of_block (Below.heap_setCell w _ _ q.block (by simp; omega))⟩
  have := heap_setCell_same w g 2 _ _ v h.1
  simpa using this
end

theorem and_bit (x s bt : Nat) (hx : x < 256) (hb : x / 2 ^ s % 2 = bt) : bits .and .u8 ((x : Int) / 2 ^ s) 1 = (bt : Int) := by
  have e2 : (x : Int) / 2 ^ s = ((x / 2 ^ s : Nat) : Int) := by simp
  have hy : x / 2 ^ s < 256 := Nat.lt_of_le_of_lt (Nat.div_le_self _ _) hx
  rw [e2]
  generalize x / 2 ^ s = y at *
  show IntKind.u8.wrap ((BitVec.ofInt 8 (y : Int) &&& BitVec.ofInt 8 1).toNat : Int) = _
  rw [BitVec.toNat_and, BitVec.ofInt_natCast, show (BitVec.ofInt 8 1).toNat = 1 from rfl, BitVec.toNat_ofNat, Nat.mod_eq_of_lt (by omega), Nat.and_one_is_mod, hb, IntKind.wrap_u8]
  omega

set_option maxHeartbeats 1000000 in
theorem getOne_bit (g : Nat) (A : Option Addr) (c : Nat) (l : List UInt8) (p : Nat) (w : World) (h : RdB w g A c l p .nilIface) (hs : l.length ≤ 1073741824) (hp : p / 8 < l.length) :
    Calls Try.prog 132 #[.pointer (some ⟨g, 0, none⟩)] w fun e w' => e = .returned (.int .i64 (bitAt l p : Int)) ∧ RdB w' g A c l ((p : Int) + 1) .nilIface ∧ w.grownBy w' (some g) := by
  obtain ⟨i, hi⟩ : ∃ i, p / 8 = i := ⟨_, rfl⟩
  obtain ⟨s, hs'⟩ : ∃ s, p % 8 = s := ⟨_, rfl⟩
  obtain ⟨b, o, x, rfl, hbB, hx, hc⟩ := h.2.spot (k := i) (by omega)
  have hbit := bitAt_of (l := l) (a := p) (x := x) (by rw [hi]; exact hx)
  have hbl := bitAt_lt l p
  rw [hs'] at hbit
  generalize bitAt l p = bt at *
  have c0 := h.c0
  have c1 := h.c1
  have f1 := h.free 1
  have ho := and_bit x.toNat s bt x.toNat_lt hbit
  have t1 : (p : Int) / 8 = (i : Int) := by omega
  have t2 : (p : Int) % 8 = (s : Int) := by omega
  have hi2 : ¬ ((l.length : Int) ≤ (i : Int)) := by omega
  have HR := Lib.hid fun n => ((h.drewN n).set1 ((p : Int) + 1))
  have hbg : ¬ b = g := by omega
  have u1 := IntWalk.i64_in ((p : Int) + 1) (by omega)
  have u2 := IntWalk.i64_in (i : Int) (by omega)
  have hs8 : (s : Int) < 8 := by omega
  clear hx hbit hi hs' h hp hs
  go_enter Try.func132, Try.ntmps132
  go_wp2
  go_quiet (fail)
  generalize nq = n1 at *
  go_wp2
  go_quiet (fail)
  generalize nq = n2 at *
  go_wp2
  go_ret
  exact ⟨rfl, HR.out _, grown_draw _ _ _ _ _⟩

set_option maxHeartbeats 1000000 in
theorem getOne_end (g : Nat) (A : Option Addr) (c : Nat) (l : List UInt8) (p : Nat) (w : World) (h : RdB w g A c l p .nilIface) (hp : l.length ≤ p / 8) (hp3 : p < 9223372036854775808) (he : ErrV w 3) :
    Calls Try.prog 132 #[.pointer (some ⟨g, 0, none⟩)] w fun e w' => e = .returned (.int .i64 0) ∧ ∃ u v, RdB w' g A c l (p : Int) (.iface u v) ∧ w.grownBy w' (some g) := by
  obtain ⟨i, hi⟩ : ∃ i, p / 8 = i := ⟨_, rfl⟩
  obtain ⟨u, v, ce⟩ := he
  have c0 := h.c0
  have c1 := h.c1
  have c2 := h.c2
  have f2 := h.free 2
  have t1 : (p : Int) / 8 = (i : Int) := by omega
  have hi2 : (l.length : Int) ≤ (i : Int) := by omega
  have HR := Lib.hid fun n => ((h.drewN n).set2 (.iface u v))
  have u2 := IntWalk.i64_in (i : Int) (by omega)
  clear hi h hp hp3
  go_enter Try.func132, Try.ntmps132
  go_wp2
  go_quiet (fail)
  generalize nq = n1 at *
  go_wp2
  go_ret
  exact ⟨rfl, u, v, HR.out _, grown_draw _ _ _ _ _⟩

theorem or_nat (a b : Nat) (ha : a < 4611686018427387904) (hb : b < 4611686018427387904) : bits .or .i64 (a : Int) (b : Int) = ((a ||| b : Nat) : Int) := by
  have hx : a ||| b < 2 ^ 62 := Nat.or_lt_two_pow ha hb
  show IntKind.i64.wrap ((BitVec.ofInt 64 (a : Int) ||| BitVec.ofInt 64 (b : Int)).toNat : Int) = _
  rw [BitVec.toNat_or, BitVec.ofInt_natCast, BitVec.ofInt_natCast, BitVec.toNat_ofNat, BitVec.toNat_ofNat, Nat.mod_eq_of_lt (by omega), Nat.mod_eq_of_lt (by omega)]
  exact IntWalk.i64_in _ (by omega)
theorem or_step (m k bt : Nat) (hm : m < 2 ^ k) (hk : k < 12) (hb : bt ≤ 1) : bits .or .i64 (m : Int) (wrap64 ((bt : Int) * 2 ^ k)) = ((m + bt * 2 ^ k : Nat) : Int) := by
  have e4 : (bt : Int) * 2 ^ k = ((bt * 2 ^ k : Nat) : Int) := by simp
  have h1 := two_pow_le k (Nat.le_of_lt hk)
  have h2 : bt * 2 ^ k ≤ 1 * 2 ^ k := Nat.mul_le_mul_right _ hb
  have h3 : bt * 2 ^ k < 8192 := Nat.lt_of_le_of_lt h2 (by rw [Nat.one_mul]; exact Nat.lt_of_le_of_lt h1 (by decide))
  have h4 := Nat.two_pow_add_eq_or_of_lt hm bt
  rw [e4, w64 _ (Nat.lt_trans h3 (by decide)), or_nat _ _ (Nat.lt_of_lt_of_le hm (Nat.le_trans h1 (by decide))) (Nat.lt_trans h3 (by decide))]
  rw [Nat.or_comm, Nat.mul_comm bt, ← h4, Nat.add_comm]

/-- What get leaves: a reader without an error just if so many bits are there. -/
def Got (w : World) (g : Nat) (A : Option Addr) (c : Nat) (l : List UInt8) (ok : Bool) : Prop :=
  (ok = true ∧ ∃ a, RdB w g A c l a .nilIface) ∨ (ok = false ∧ ∃ a u v, RdB w g A c l a (.iface u v))

theorem get_err (g : Nat) (A : Option Addr) (c : Nat) (l : List UInt8) (a b : Int) (u : TypeId) (v : Value) (w : World) (h : RdB w g A c l a (.iface u v)) :
    Calls Try.prog 124 #[.pointer (some ⟨g, 0, none⟩), .int .i64 b] w fun e w' => e = .returned (.int .i64 0) ∧ w' = w := by
  have c2 := h.c2
  clear h
  go_enter Try.func124, Try.ntmps124
  go_wp2
  go_loop [5, 6] (fun n i => n = .int .i64 0 ∧ i = .int .i64 0) (fun _ _ => 0)
  case atStart => exact ⟨rfl, rfl⟩
  case round =>
    obtain ⟨rfl, rfl⟩ := hrel
    by_cases hb : 0 < b
    all_goals
      go_wp2
      go_ret
      exact ⟨rfl, rfl⟩

theorem get_bad (g : Nat) (A : Option Addr) (c : Nat) (l : List UInt8) (a b : Int) (w : World) (h : RdB w g A c l a .nilIface) (hb : ¬ (1 ≤ b ∧ b ≤ 12)) (he : ErrV w 2) (hg : 2 < g) :
    Calls Try.prog 124 #[.pointer (some ⟨g, 0, none⟩), .int .i64 b] w fun e w' => e = .returned (.int .i64 0) ∧ (∃ u v, RdB w' g A c l a (.iface u v)) ∧ w.grownBy w' (some g) := by
  obtain ⟨u, v, ce⟩ := he
  have c2 := h.c2
  have f2 := h.free 2
  have hd : decide (1 ≤ b ∧ b ≤ 12) = false := decide_eq_false hb
  have hr := h.set2 (.iface u v)
  have HR := Lib.hid hr
  have d2 := hr.c2
  have hgr := grown_cell w g 2 (.iface u v)
  have HG := Lib.hid hgr
  have hne : ¬ g = 2 := by omega
  clear h hg hr hgr
  go_enter Try.func124, Try.ntmps124
  go_wp2_with fail
  refine (bitWidthOk_any _ _).mono ?_
  rintro e w' ⟨rfl, rfl⟩
  go_wp2
  generalize w'.setCell ⟨g, 2, none⟩ (.iface u v) = w2 at *
  go_loop [5, 6] (fun n i => n = .int .i64 0 ∧ i = .int .i64 0) (fun _ _ => 0)
  case atStart => exact ⟨rfl, rfl⟩
  case round =>
    obtain ⟨rfl, rfl⟩ := hrel
    clear ce c2 f2
    by_cases hb0 : 0 < b
    all_goals
      go_wp2
      go_ret
      exact ⟨rfl, ⟨u, v, HR.out⟩, HG.out⟩
end Go.Proofs.Ytnnpjcbdcjdojaa
namespace Go.Proofs.Ytnnpjcbdcjdojaa
open Go.RowKit

/-- A reader behind a read: it stands at the next place, or has an error. -/
def GotP (w : World) (g : Nat) (A : Option Addr) (c : Nat) (l : List UInt8) (ok : Bool) (a : Int) : Prop := (ok = true ∧ RdB w g A c l a .nilIface) ∨ (ok = false ∧ ∃ a u v, RdB w g A c l a (.iface u v))
set_option maxHeartbeats 1000000 in
theorem get_if (g : Nat) (A : Option Addr) (c : Nat) (l : List UInt8) (p q : Nat) (w : World) (h : RdB w g A c l p .nilIface) (hs : l.length ≤ 1073741824) (hp : p < 9223372036854775808) (hq : 1 ≤ (q : Int) ∧ (q : Int) ≤ 12) (he : 8 * l.length < p + q → ErrV w 3 ∧ 3 < g) :
    Calls Try.prog 124 #[.pointer (some ⟨g, 0, none⟩), .int .i64 (q : Int)] w fun e w' => e = .returned (.int .i64 ((bitGetN l p q : Nat) : Int)) ∧ GotP w' g A c l (bitGetB l p q) ((p : Int) + (q : Int)) ∧ w.grownBy w' (some g) := by
  have c2 := h.c2
  have hd : decide (1 ≤ (q : Int) ∧ (q : Int) ≤ 12) = true := decide_eq_true hq
  have HP := Lib.hid hp
  have HS := Lib.hid hs
  have HE := Lib.hid he
  clear hp hs he
  go_enter Try.func124, Try.ntmps124
  go_wp2_with fail
  refine (bitWidthOk_any _ _).mono ?_
  rintro e w' ⟨rfl, rfl⟩
  go_wp2
  clear c2
  go_loopw [5, 6] (fun n i wr => ∃ k : Nat, k ≤ q ∧ i = .int .i64 k ∧ w'.grownBy wr (some g) ∧
      ((∃ m : Nat, n = .int .i64 m ∧ getN l p k = m ∧ (k = 0 ∨ p + k ≤ 8 * l.length) ∧ RdB wr g A c l ((p : Int) + k) .nilIface) ∨
        (∃ (z a : Int) (u : TypeId) (v : Value), n = .int .i64 z ∧ 8 * l.length < p + q ∧ RdB wr g A c l a (.iface u v)))) (fun _ i _ => q - (intOf i).toNat)
  case atStart => exact ⟨0, Nat.zero_le _, rfl, World.grownBy.refl _ _, .inl ⟨0, rfl, rfl, .inl rfl, by rw [show (p : Int) + ((0 : Nat) : Int) = (p : Int) from by omega]; exact h⟩⟩
  case round =>
    clear h
    obtain ⟨k, hk, rfl, hgr, ⟨m, rfl, hm, hk8, hr⟩ | ⟨z, a, u, v, rfl, hk8, hr⟩⟩ := hrel
    · have c2 := hr.c2
      have HR := Lib.hid hr
      have HG := Lib.hid hgr
      have HK8 := Lib.hid hk8
      clear hr hgr hk8
      by_cases hlt : k < q
      · by_cases hin : (p + k) / 8 < l.length
        · have hb1 := bitAt_lt l (p + k)
          have HV := Lib.hid (or_step m k (bitAt l (p + k)) (by rw [← hm]; exact getN_lt l p k) (by omega) (by omega))
          have HN : Hid (getN l p (k + 1) = m + bitAt l (p + k) * 2 ^ k) := Lib.hid (by rw [getN, hm])
          have CG := Lib.hid (getOne_bit g A c l (p + k) _ HR.out HS.out hin)
          rw [Int.natCast_add] at CG
          generalize bitAt l (p + k) = bt at *
          have HIN := Lib.hid hin
          clear hin hm
          go_wp2_with fail
          refine CG.out.mono ?_
          rintro e w2 ⟨rfl, hr2, hg2⟩
          have HR2 := Lib.hid hr2
          have HG2 := Lib.hid (grown_trans HG.out hg2)
          clear hr2 hg2 CG c2
          go_wp2
          go_roundw
          case rel => exact ⟨k + 1, by omega, by go_num, HG2.out, .inl ⟨m + bt * 2 ^ k, by rw [HV.out], HN.out, .inr (by have := HIN.out; omega), by rw [show (p : Int) + ((k + 1 : Nat) : Int) = (p : Int) + (k : Int) + 1 from by omega]; exact HR2.out⟩⟩
          case measure => simp [intOf]; omega
        · have hpk : p + k < 9223372036854775808 := by have h1 := HP.out; have h2 := HS.out; rcases HK8.out with h0 | h0 <;> omega
          have CG := Lib.hid (getOne_end g A c l (p + k) _ HR.out (by omega) hpk ((HE.out (by omega)).1.grown HG.out (by have := (HE.out (by omega)).2; omega)))
          rw [Int.natCast_add] at CG
          have HIN : Hid (8 * l.length < p + q) := Lib.hid (by omega)
          clear hin hm hpk
          go_wp2_with fail
          refine CG.out.mono ?_
          rintro e w2 ⟨rfl, u, v, hr2, hg2⟩
          have HR2 := Lib.hid hr2
          have HG2 := Lib.hid (grown_trans HG.out hg2)
          clear hr2 hg2 CG c2
          go_wp2
          go_roundw
          case rel => exact ⟨k + 1, by omega, by go_num, HG2.out, .inr ⟨_, _, u, v, rfl, HIN.out, HR2.out⟩⟩
          case measure => simp [intOf]; omega
      · obtain rfl : k = q := by omega
        have hB : bitGetB l p k = true := decide_eq_true (by rcases HK8.out with h0 | h0 <;> omega)
        have HN : Hid (bitGetN l p k = m) := Lib.hid (by unfold bitGetN; rw [hB]; simp [hm])
        have HQ : Hid (GotP wr g A c l (bitGetB l p k) ((p : Int) + (k : Int))) := Lib.hid (.inl ⟨hB, HR.out⟩)
        clear hB hm
        go_wp2
        go_ret
        exact ⟨by rw [HN.out]; rfl, HQ.out, HG.out⟩
    · have c2 := hr.c2
      have hB : bitGetB l p q = false := decide_eq_false (by omega)
      have HN : Hid (bitGetN l p q = 0) := Lib.hid (bitGetN_no hB)
      have HQ : Hid (GotP wr g A c l (bitGetB l p q) ((p : Int) + (q : Int))) := Lib.hid (.inr ⟨hB, _, u, v, hr⟩)
      have HG := Lib.hid hgr
      clear hB hr hgr hk8
      by_cases hlt : k < q
      all_goals
        go_wp2
        go_ret
        exact ⟨by rw [HN.out]; rfl, HQ.out, HG.out⟩
theorem get_pos (g : Nat) (A : Option Addr) (c : Nat) (l : List UInt8) (p q : Nat) (w : World) (h : RdB w g A c l p .nilIface) (hs : l.length ≤ 1073741824) (hp : p < 9223372036854775808) (hq : 1 ≤ (q : Int) ∧ (q : Int) ≤ 12) (he : ErrV w 3) (hg : 3 < g) :
    Calls Try.prog 124 #[.pointer (some ⟨g, 0, none⟩), .int .i64 (q : Int)] w fun e w' => e = .returned (.int .i64 ((bitGetN l p q : Nat) : Int)) ∧ GotP w' g A c l (bitGetB l p q) ((p : Int) + (q : Int)) ∧ w.grownBy w' (some g) := get_if g A c l p q w h hs hp hq fun _ => ⟨he, hg⟩

theorem get_num (g : Nat) (A : Option Addr) (c : Nat) (l : List UInt8) (p q : Nat) (w : World) (h : RdB w g A c l p .nilIface) (hs : l.length ≤ 1073741824) (hp : p < 9223372036854775808) (hq : 1 ≤ (q : Int) ∧ (q : Int) ≤ 12) (he : ErrV w 3) (hg : 3 < g) :
    Calls Try.prog 124 #[.pointer (some ⟨g, 0, none⟩), .int .i64 (q : Int)] w fun e w' => e = .returned (.int .i64 ((bitGetN l p q : Nat) : Int)) ∧ Got w' g A c l (bitGetB l p q) ∧ w.grownBy w' (some g) := by
  refine (get_pos g A c l p q w h hs hp hq he hg).mono ?_
  rintro e w' ⟨he, ⟨hb, hr⟩ | ⟨hb, a, u, v, hr⟩, hg⟩
  · exact ⟨he, .inl ⟨hb, _, hr⟩, hg⟩
  · exact ⟨he, .inr ⟨hb, a, u, v, hr⟩, hg⟩

theorem RdB.has {w : World} {g : Nat} {A : Option Addr} {c : Nat} {l : List UInt8} {a : Int} {e : Value} (h : RdB w g A c l a e) : Has w g A l := h.2
theorem rdB_new {w : World} {A : Option Addr} {l : List UInt8} (c : Nat) (a : Int) (e : Value) (h : Has w w.heap.size A l) : RdB (w.alloc (.cells #[.slice A l.length c, .int .i64 a, e] 141)) w.heap.size A c l a e :=
  ⟨heap_alloc_new w _, h.kept fun q hq => World.cell?_of_block (Below.heap_alloc w _ q.block hq)⟩
/-- What a new reader is: without an error just if its place is none below the first. -/
def NewRd (w : World) (g : Nat) (A : Option Addr) (c : Nat) (l : List UInt8) (a : Int) : Prop := (0 ≤ a ∧ RdB w g A c l a .nilIface) ∨ (a < 0 ∧ ∃ u v, RdB w g A c l a (.iface u v))

set_option maxHeartbeats 400000 in
theorem newBitReader_any (A : Option Addr) (c : Nat) (l : List UInt8) (a : Int) (w : World) (h : Has w w.heap.size A l) (he : ErrV w 1) :
    Calls Try.prog 123 #[.slice A l.length c, .int .i64 a] w fun e w' => e = .returned (.pointer (some ⟨w.heap.size, 0, none⟩)) ∧ NewRd w' w.heap.size A c l a ∧ Below w.heap.size w w' := by
  have hlt := he.lt
  have he2 := he.below ((Below.refl _ w).alloc (Nat.le_refl _) (.cells #[.slice A l.length c, .int .i64 a, .nilIface] 141)) hlt
  obtain ⟨u, v, ce⟩ := he2
  by_cases ha : a < 0
  · have HR : Hid (NewRd (w.alloc (.cells #[.slice A l.length c, .int .i64 a, .iface u v] 141)) w.heap.size A c l a) := Lib.hid (.inr ⟨ha, u, v, rdB_new c a _ h⟩)
    clear h he
    go_enter Try.func123, Try.ntmps123
    go_wp2
    go_ret
    exact ⟨rfl, HR.out, (Below.refl _ w).alloc (Nat.le_refl _) _⟩
  · have HR : Hid (NewRd (w.alloc (.cells #[.slice A l.length c, .int .i64 a, .nilIface] 141)) w.heap.size A c l a) := Lib.hid (.inl ⟨by omega, rdB_new c a _ h⟩)
    clear h he
    go_enter Try.func123, Try.ntmps123
    go_wp2
    go_ret
    exact ⟨rfl, HR.out, (Below.refl _ w).alloc (Nat.le_refl _) _⟩

set_option maxHeartbeats 400000 in
theorem newBitReader_zero (A : Option Addr) (c : Nat) (l : List UInt8) (w : World) (h : Has w w.heap.size A l) :
    Calls Try.prog 123 #[.slice A l.length c, .int .i64 0] w fun e w' => e = .returned (.pointer (some ⟨w.heap.size, 0, none⟩)) ∧ RdB w' w.heap.size A c l 0 .nilIface ∧ Below w.heap.size w w' := by
  have HR : Hid (RdB (w.alloc (.cells #[.slice A l.length c, .int .i64 0, .nilIface] 141)) w.heap.size A c l 0 .nilIface) := Lib.hid (rdB_new c 0 _ h)
  clear h
  go_enter Try.func123, Try.ntmps123
  go_wp2
  go_ret
  exact ⟨rfl, HR.out, (Below.refl _ w).alloc (Nat.le_refl _) _⟩

/-- The three errors of reading are not nil. -/
def Errs (w : World) : Prop := ErrV w 2 ∧ ErrV w 1 ∧ ErrV w 3
theorem Errs.below {w w' : World} {B : Nat} (h : Errs w) (hb : Below B w w') (hB : w.heap.size ≤ B) : Errs w' :=
  ⟨h.1.below hb (Nat.lt_of_lt_of_le h.1.lt hB), h.2.1.below hb (Nat.lt_of_lt_of_le h.2.1.lt hB), h.2.2.below hb (Nat.lt_of_lt_of_le h.2.2.lt hB)⟩

/-- What get answers over a new reader. -/
theorem get_new (g : Nat) (A : Option Addr) (c : Nat) (l : List UInt8) (a b : Int) (w : World) (h : NewRd w g A c l a) (hs : l.length ≤ 1073741824) (ha : a < 9223372036854775808) (he : Errs w) (hg : 3 < g) (hg0 : 2 < g) :
    Calls Try.prog 124 #[.pointer (some ⟨g, 0, none⟩), .int .i64 b] w fun e w' => e = .returned (.int .i64 ((bitGetN l a b : Nat) : Int)) ∧ Got w' g A c l (bitGetB l a b) ∧ w.grownBy w' (some g) := by
  rcases h with ⟨h0, h⟩ | ⟨h0, u, v, h⟩
  · by_cases hb : 1 ≤ b ∧ b ≤ 12
    · obtain ⟨p, rfl⟩ : ∃ p : Nat, a = (p : Int) := ⟨a.toNat, by omega⟩
      obtain ⟨q, rfl⟩ : ∃ q : Nat, b = (q : Int) := ⟨b.toNat, by omega⟩
      exact get_num g A c l p q w h hs (by omega) hb he.2.2 hg
    · have hB : bitGetB l a b = false := decide_eq_false (by omega)
      refine (get_bad g A c l a b w h hb he.1 hg0).mono ?_
      rintro e w' ⟨rfl, ⟨u, v, hr⟩, hgr⟩
      exact ⟨by rw [bitGetN_no hB]; rfl, .inr ⟨hB, _, u, v, hr⟩, hgr⟩
  · have hB : bitGetB l a b = false := decide_eq_false (by omega)
    refine (get_err g A c l a b u v w h).mono ?_
    rintro e w' ⟨rfl, rfl⟩
    exact ⟨by rw [bitGetN_no hB]; rfl, .inr ⟨hB, _, u, v, h⟩, World.grownBy.refl _ _⟩
end Go.Proofs.Ytnnpjcbdcjdojaa
namespace Go.Proofs.Ytnnpjcbdcjdojaa
open Go.RowKit

theorem getN_zero (l : List UInt8) (a : Nat) : ∀ q, getN l a q = 0 ↔ ∀ t, t < q → bitAt l (a + t) = 0
  | 0 => by simp [getN]
  | q + 1 => by
    have ih := getN_zero l a q
    have h2 : 0 < 2 ^ q := Nat.two_pow_pos q
    rw [getN]
    constructor
    · intro h t ht
      have h1 : getN l a q = 0 := by omega
      have h3 : bitAt l (a + q) * 2 ^ q = 0 := by omega
      rcases Nat.lt_succ_iff_lt_or_eq.1 ht with h | rfl
      · exact ih.1 h1 t h
      · rcases Nat.mul_eq_zero.1 h3 with h | h
        · exact h
        · omega
    · intro h
      rw [ih.2 fun t ht => h t (by omega), h q (by omega)]
      simp
theorem rest_get {l : List UInt8} {a q : Nat} (h : a + q = 8 * l.length) : restB l a = (getN l a q == 0) := by
  rw [Bool.eq_iff_iff]
  unfold restB
  rw [decide_eq_true_eq, beq_iff_eq, getN_zero]
  constructor
  · intro hr t ht
    exact hr (a + t) (by omega) (by omega)
  · intro hr k hk ha
    have := hr (k - a) (by omega)
    rwa [show a + (k - a) = k from by omega] at this
/-- Whether what is left is less than a byte, and noughts. -/
def padB (l : List UInt8) (a : Nat) : Bool := decide ((a + 7) / 8 = l.length ∧ restB l a = true)
theorem padB_zero {l : List UInt8} {a : Nat} (h : a = 8 * l.length) : padB l a = true := by
  unfold padB
  rw [decide_eq_true_eq]
  refine ⟨by omega, ?_⟩
  unfold restB
  rw [decide_eq_true_eq]
  intro k hk ha
  omega
theorem padB_more {l : List UInt8} {a q : Nat} (h : a + q = 8 * l.length) (hq : 8 ≤ q) : padB l a = false := by
  unfold padB
  rw [decide_eq_false_iff_not]
  intro h2
  have := h2.1
  omega
theorem padB_some {l : List UInt8} {a q : Nat} (h : a + q = 8 * l.length) (hq : q < 8) : padB l a = (getN l a q == 0) := by
  rw [← rest_get h]
  unfold padB
  cases e : restB l a with
  | false => simp
  | true => simp; omega
set_option maxRecDepth 100000 in
set_option maxHeartbeats 2000000 in
theorem onlyPadding_any (g a q : Nat) (A : Option Addr) (c : Nat) (l : List UInt8) (w : World) (h : RdB w g A c l (a : Int) .nilIface) (hs : l.length ≤ 1073741824) (ha : a + q = 8 * l.length) :
    Calls Try.prog 126 #[.pointer (some ⟨g, 0, none⟩)] w fun e w' => e = .returned (.bool (padB l a)) ∧ w.grownBy w' (some g) := by
  have c0 := h.c0
  have c1 := h.c1
  have CG := Lib.hid fun n (hq : 1 ≤ (q : Int) ∧ (q : Int) ≤ 12) => get_if g A c l a q (w.drewN n) (h : RdB (w.drewN n) g A c l (a : Int) .nilIface) hs (by omega) hq (fun h => by omega)
  have hl8 : wrap64 (8 * (l.length : Int)) = 8 * (l.length : Int) := by unfold wrap64; omega
  have hl9 : IntKind.i64.wrap (8 * (l.length : Int)) = 8 * (l.length : Int) := IntWalk.i64_in _ (by omega)
  have hd : 8 * (l.length : Int) - (a : Int) = (q : Int) := by omega
  have hw9 : IntKind.i64.wrap (q : Int) = (q : Int) := IntWalk.i64_in _ (by omega)
  have HA := Lib.hid ha
  clear h hs ha
  go_enter Try.func126, Try.ntmps126
  go_upto_region 1 with fail
  go_quiet (fail)
  by_cases hq0 : q = 0
  · subst hq0
    have HR : Hid (padB l a = true) := Lib.hid (padB_zero (by have := HA.out; omega))
    clear CG
    go_wp2_with fail
    go_ret
    exact ⟨by rw [HR.out]; rfl, ⟨rfl, rfl, rfl, Nat.le_refl _, fun _ _ _ => rfl⟩⟩
  · have hq0' : ((q : Int) == 0) = false := beq_eq_false_iff_ne.2 (by omega)
    by_cases hq8 : q < 8
    · have hq8' : (q : Int) < 8 := by omega
      have HR := Lib.hid (padB_some HA.out hq8)
      have hB : bitGetB l (a : Int) (q : Int) = true := decide_eq_true (by have := HA.out; omega)
      have CG1 := Lib.hid (CG.out nq (by omega))
      rw [show bitGetN l (a : Int) (q : Int) = getN l a q from by unfold bitGetN; rw [hB]; simp] at CG1
      clear CG hB
      generalize getN l a q = z at *
      go_wp2_with fail
      refine CG1.out.mono ?_
      rintro e w2 ⟨rfl, -, hg2⟩
      have HB2 : Hid (w.grownBy w2 (some g)) := Lib.hid ⟨hg2.os, hg2.tape, hg2.output, hg2.size, hg2.block⟩
      clear hg2 CG1
      go_wp2_with fail
      go_ret
      refine ⟨?_, HB2.out⟩
      rw [HR.out]
      show Ending.returned (Value.bool ((z : Int) == 0)) = Ending.returned (Value.bool (z == 0))
      rw [show ((z : Int) == 0) = (z == 0) from by rw [Bool.eq_iff_iff, beq_iff_eq, beq_iff_eq]; omega]
    · have hq8' : ¬ (q : Int) < 8 := by omega
      have HR := Lib.hid (padB_more HA.out (by omega))
      clear CG
      go_wp2_with fail
      go_ret
      exact ⟨by rw [HR.out]; rfl, ⟨rfl, rfl, rfl, Nat.le_refl _, fun _ _ _ => rfl⟩⟩
/-- A reader stays while an unpacker works. -/
theorem RdB.fr {w w' : World} {g : Nat} {A : Option Addr} {c : Nat} {l : List UInt8} {a : Int} {e : Value} (h : RdB w g A c l a e) (hF : FrT w w') (hB : Below g w w') : RdB w' g A c l a e :=
  ⟨(hF g _ _ _ h.1 (by decide) (by decide) (by decide)).trans h.1, h.2.below hB⟩
theorem Unp.move {w w' : World} {base gu : Nat} {out : List UInt8} {met : List (List UInt8)} {last : List UInt8} (h : Unp w base gu out met last) (hk : ∀ (b : Nat) cs t fr, w.heap[b]? = some (.cells cs t fr) → t ≠ 141 → w'.heap[b]? = w.heap[b]?) : Unp w' base gu out met last := by
  obtain ⟨vo, vs, sp, p, s, hU, hO, hP, hR⟩ := h
  exact ⟨vo, vs, sp, p, s, (hk gu _ _ _ hU (by decide)).trans hU, row_move hO fun b cs fr hb => hk b cs _ fr hb (by decide), row_move hP fun b cs fr hb => hk b cs _ fr hb (by decide), hR⟩
/-- .. while a reader reads. -/
theorem Unp.read {w w' : World} {base gu g : Nat} {out : List UInt8} {met : List (List UInt8)} {last : List UInt8} {A : Option Addr} {c : Nat} {l : List UInt8} {a : Int} {e : Value} (h : Unp w base gu out met last) (hr : RdB w g A c l a e) (hg : w.grownBy w' (some g)) : Unp w' base gu out met last :=
  h.move fun b cs t fr hb ht => hg.block b (Array.getElem?_eq_some_iff.1 hb).1 fun q => by
    injection q with q
    subst q
    have h1 := hr.1
    rw [hb] at h1
    injection h1 with h1
    injection h1 with _ h2 _
    exact ht h2
/-- How long a slice is. -/
def lenV0 : Value → Nat
  | .slice _ n _ => n
  | _ => 0
/-- How much is unpacked. -/
def outLen (w : World) (gu : Nat) : Nat := match w.cell? ⟨gu, 0, none⟩ with
  | some v => lenV0 v
  | none => 0
theorem Unp.len {w : World} {base gu : Nat} {out : List UInt8} {met : List (List UInt8)} {last : List UInt8} (h : Unp w base gu out met last) : outLen w gu = out.length := by
  obtain ⟨vo, vs, sp, p, s, hU, hO, -, -⟩ := h
  obtain ⟨A, c, rfl, -, -⟩ := hO.has
  unfold outLen
  rw [hU.c0]
  rfl
theorem unp_new (w : World) (base : Nat) : Unp (w.alloc (.cells #[.slice none 0 0, .slice none 0 0, .int .i64 0, .int .i64 0] 137)) base w.heap.size [] [] [] :=
  ⟨.slice none 0 0, .slice none 0 0, [], 0, 0, heap_alloc_new w _, own_nil _ _, World.ownsRow_nil _ _ _ _, rfl, fun i b h => by simp at h, rfl, rfl⟩
/-- What PakGet answers. -/
def PakGOut (l : List UInt8) (w : World) (e : Ending) (w' : World) : Prop := ∃ v, e = .returned (.tuple #[v, .bool (pakGetO l).isSome]) ∧ Own w' w.heap.size v ((pakGetO l).getD []) ∧ Below w.heap.size w w'
theorem pakGOut_none {l : List UInt8} {w w' : World} (h : pakGetO l = none) (hb : Below w.heap.size w w') : PakGOut l w (.returned (.tuple #[.slice none 0 0, .bool false])) w' := ⟨_, by rw [h]; rfl, by rw [h]; exact own_nil _ _, hb⟩
theorem get4_fail {l : List UInt8} {i : Nat} {out : List UInt8} {met : List (List UInt8)} {last : List UInt8} (hi : i ≤ 200) (h : 8 * l.length < 9 * i + 9) : get4 l (356 - i) (9 * i) out met last = none := by
  obtain ⟨f, hf⟩ : ∃ f, 356 - i = f + 1 := ⟨355 - i, by omega⟩
  rw [hf, get4, if_pos h]
theorem get4_end {l : List UInt8} {i : Nat} {out : List UInt8} {met : List (List UInt8)} {last : List UInt8} (hi : i ≤ 200) (h : ¬ 8 * l.length < 9 * i + 9) (hc : getN l (9 * i) 9 = 256) : get4 l (356 - i) (9 * i) out met last = if padB l (9 * i + 9) then some out else none := by
  obtain ⟨f, hf⟩ : ∃ f, 356 - i = f + 1 := ⟨355 - i, by omega⟩
  rw [hf, get4, if_neg h, if_pos hc]
  unfold padB
  by_cases hq : (9 * i + 9 + 7) / 8 = l.length ∧ restB l (9 * i + 9) = true
  · rw [if_pos hq, decide_eq_true hq, if_pos rfl]
  · rw [if_neg hq, decide_eq_false hq, if_neg (by simp)]
theorem get4_step {l : List UInt8} {i : Nat} {out : List UInt8} {met : List (List UInt8)} {last b : List UInt8} (hi : i ≤ 200) (h : ¬ 8 * l.length < 9 * i + 9) (hc : getN l (9 * i) 9 ≠ 256) (hb : bytes4 met last (getN l (9 * i) 9) = b) : get4 l (356 - i) (9 * i) out met last = if b.length ≠ 0 ∧ out.length + b.length ≤ 200 then get4 l (356 - (i + 1)) (9 * (i + 1)) (out ++ b) (meet4 met last b) b else none := by
  obtain ⟨f, hf⟩ : ∃ f, 356 - i = f + 1 := ⟨355 - i, by omega⟩
  rw [hf, get4, if_neg h, if_neg hc, hb, show 356 - (i + 1) = f from by omega]
  by_cases hq : b.length ≠ 0 ∧ out.length + b.length ≤ 200
  · rw [if_pos hq, if_neg (by omega)]
    rfl
  · rw [if_neg hq, if_pos (by omega)]
end Go.Proofs.Ytnnpjcbdcjdojaa
namespace Go.Proofs.Ytnnpjcbdcjdojaa
open Go.RowKit

set_option maxRecDepth 100000 in
set_option maxHeartbeats 4000000 in
theorem implPakGet_if (A : Option Addr) (c : Nat) (l : List UInt8) (w : World) (hs : l.length ≤ 1073741824) (h : Has w w.heap.size A l) (he : pakGetO l = none → Errs w) :
    Calls Try.prog 121 #[.slice A l.length c] w (PakGOut l w) := by
  have CN := Lib.hid (newBitReader_zero A c l w h)
  have HE := Lib.hid he
  have CG := Lib.hid fun (p : Nat) (W : World) (hr : RdB W w.heap.size A c l (p : Int) .nilIface) (hp : p < 9000) (hb : Below w.heap.size w W) (hx : 8 * l.length < p + 9 → pakGetO l = none) => get_if w.heap.size A c l p 9 W hr hs (by omega) (by omega) (fun h => ⟨(HE.out (hx h)).2.2.below hb (HE.out (hx h)).2.2.lt, (HE.out (hx h)).2.2.lt⟩)
  have HS := Lib.hid hs
  clear h hs he
  go_enter Try.func121, Try.ntmps121
  go_wp2_with fail
  refine CN.out.mono ?_
  rintro e w1 ⟨rfl, hr1, hb1⟩
  have hg1 := hr1.lt
  have hu2 := unp_new w1 w.heap.size
  have b2 : Below w1.heap.size w1 (w1.alloc (.cells #[.slice none 0 0, .slice none 0 0, .int .i64 0, .int .i64 0] 137)) := (Below.refl _ w1).alloc (Nat.le_refl _) _
  have hr2 : RdB (w1.alloc (.cells #[.slice none 0 0, .slice none 0 0, .int .i64 0, .int .i64 0] 137)) w.heap.size A c l 0 .nilIface := hr1.fr (FrT.alloc w1 _) (b2.mono (Nat.le_of_lt hg1))
  have B2 := hb1.trans (b2.mono hb1.size)
  have CG2 := Lib.hid (CG.out 0 _ hr2 (by omega) B2 (fun h => (get4_fail (i := 0) (out := []) (met := []) (last := []) (by omega) (by omega))))
  have HG1 := Lib.hid hg1
  clear CN hb1 hr1 b2
  go_upto_region 3 with fail
  generalize w1.alloc (.cells #[.slice none 0 0, .slice none 0 0, .int .i64 0, .int .i64 0] 137) = w2 at *
  have HI := Lib.hid (And.intro hu2 (And.intro hr2 B2))
  clear hu2 hr2 B2 hg1
  go_wp2_with fail
  refine CG2.out.mono ?_
  rintro e w3 ⟨rfl, hgot3, hg3⟩
  have HS3 : Hid (GotP w3 w.heap.size A c l (bitGetB l ((9 * 0 : Nat) : Int) 9) ((9 * 0 + 9 : Nat) : Int) ∧ Unp w3 w.heap.size w1.heap.size [] [] [] ∧ Below w.heap.size w w3) := Lib.hid ⟨hgot3, HI.out.1.read HI.out.2.1 hg3, HI.out.2.2.grown hg3 HI.out.2.2.size (fun k hk => by injection hk with hk; omega)⟩
  clear CG2 hgot3 hg3 HI
  go_wp2_with fail
  go_loopw [6] (fun v6 wr => ∃ (i : Nat) (out : List UInt8) (met : List (List UInt8)) (last : List UInt8), v6 = .int .i64 ((bitGetN l ((9 * i : Nat) : Int) 9 : Nat) : Int) ∧ GotP wr w.heap.size A c l (bitGetB l ((9 * i : Nat) : Int) 9) ((9 * i + 9 : Nat) : Int) ∧ Unp wr w.heap.size w1.heap.size out met last ∧ Below w.heap.size w wr ∧
      get4 l (356 - i) (9 * i) out met last = pakGetO l ∧ i ≤ out.length ∧ out.length ≤ 200 ∧ met.length ≤ out.length) (fun _ wr => 201 - outLen wr w1.heap.size)
  case atStart => exact ⟨0, [], [], [], rfl, HS3.out.1, HS3.out.2.1, HS3.out.2.2, rfl, by simp, by simp, by simp⟩
  case round =>
    clear HS3
    obtain ⟨i, out, met, last, rfl, hgot, hu, hB, hget, hi, hol, hml⟩ := hrel
    rcases hgot with ⟨hbt, hr⟩ | ⟨hbt, a, x, y, hr⟩
    · have hlen : ¬ 8 * l.length < 9 * i + 9 := by
        have := of_decide_eq_true hbt
        omega
      have hN : bitGetN l ((9 * i : Nat) : Int) 9 = getN l (9 * i) 9 := by unfold bitGetN; rw [hbt, if_pos rfl]; rfl
      rw [hN]
      have hcl := getN_lt l (9 * i) 9
      have c2 := hr.c2
      by_cases hc : getN l (9 * i) 9 = 256
      · have hend := get4_end (out := out) (met := met) (last := last) (by omega) hlen hc
        rw [hget] at hend
        rw [hc]
        obtain ⟨q, hq⟩ : ∃ q, 9 * i + 9 + q = 8 * l.length := ⟨8 * l.length - (9 * i + 9), by omega⟩
        have CO := Lib.hid (onlyPadding_any w.heap.size (9 * i + 9) q A c l wr hr HS.out hq)
        have HU := Lib.hid (And.intro hu hr)
        have HB := Lib.hid hB
        have HEN := Lib.hid hend
        clear hr hu hB hget hi hol hml hc hcl hN hbt hlen hend hq c2 CG
        generalize padB l (9 * i + 9) = pb at *
        go_wp2_with fail
        refine CO.out.mono ?_
        rintro e w5 ⟨rfl, g5⟩
        have hB5 := HB.out.grown g5 HB.out.size (fun k hk => by injection hk with hk; omega)
        obtain ⟨vo, vs, sp, p, s, hU, hO, -, -⟩ := HU.out.1.read HU.out.2 g5
        have c0 := hU.c0
        cases pb
        · have HF := Lib.hid (pakGOut_none HEN.out hB5)
          clear hU hO hB5 g5 CO HU HB HEN
          go_wp2_with fail
          go_ret2
          exact HF.out
        · have HF : Hid (PakGOut l w (.returned (.tuple #[vo, .bool true])) w5) := Lib.hid ⟨_, by rw [HEN.out]; rfl, by rw [HEN.out]; exact hO, hB5⟩
          clear hU hO hB5 g5 CO HU HB HEN
          go_wp2_with fail
          go_ret2
          exact HF.out
      · obtain ⟨cd, hcd⟩ : ∃ cd, getN l (9 * i) 9 = cd := ⟨_, rfl⟩
        have hst := get4_step (out := out) (met := met) (last := last) (by omega) hlen hc rfl
        rw [hget, hcd] at hst
        rw [hcd] at hc hcl
        rw [hcd]
        have CP := Lib.hid (putU_any w.heap.size w1.heap.size cd out met last wr hu (by omega) hc (by omega) hol (Nat.le_of_lt HG1.out) hB.size)
        have hcI : ¬ (cd : Int) = 256 := by omega
        have hcB : ((cd : Int) == 256) = false := beq_eq_false_iff_ne.2 hcI
        have HR := Lib.hid hr
        have HB := Lib.hid hB
        have HST := Lib.hid hst
        have HI := Lib.hid (And.intro hi (And.intro hol (And.intro hml hlen)))
        have HOL : Hid (outLen wr w1.heap.size = out.length) := Lib.hid hu.len
        generalize bytes4 met last cd = b at *
        clear hr hu hB hget hi hol hml hc hcl hN hbt hlen hst hcd
        unfold PutU at CP
        go_wp2_with fail
        refine CP.out.mono ?_
        rintro e w5 ⟨rfl, hu5, hF5, hB5⟩
        have hr5 := HR.out.fr hF5 hB5
        have hBB := HB.out.trans hB5
        clear CP hF5 hB5 c2
        by_cases hq : b.length ≠ 0 ∧ out.length + b.length ≤ 200
        · rw [decide_eq_true hq]
          have hu6 := hu5 hq
          have hst := HST.out
          rw [if_pos hq] at hst
          have CG6 := Lib.hid (CG.out (9 * (i + 1)) w5 (by rw [show ((9 * (i + 1) : Nat) : Int) = ((9 * i + 9 : Nat) : Int) from by omega]; exact hr5) (by have := HI.out; omega) hBB (fun h => by rw [hst]; exact get4_fail (by have := HI.out; omega) (by omega)))
          have HU6 := Lib.hid (And.intro hu6 (And.intro hr5 hBB))
          have HQ := Lib.hid hq
          have HS6 := Lib.hid hst
          clear hu5 hu6 hr5 hBB hst hq CG
          go_wp2_with fail
          refine CG6.out.mono ?_
          rintro e w7 ⟨rfl, hgot7, hg7⟩
          have HG7 := Lib.hid hgot7
          have HU7 := Lib.hid (HU6.out.1.read HU6.out.2.1 hg7)
          have HB7 := Lib.hid (HU6.out.2.2.grown hg7 HU6.out.2.2.size (fun k hk => by injection hk with hk; omega))
          clear hgot7 hg7 CG6
          go_wp2_with fail
          go_roundw
          case rel =>
            refine ⟨i + 1, out ++ b, meet4 met last b, b, rfl, ?_, HU7.out, HB7.out, HS6.out.symm, ?_, ?_, ?_⟩
            · exact HG7.out
            · have := HI.out.1; have := HQ.out.1; simp; omega
            · have := HQ.out.2; simp; omega
            · have := HI.out.2.2.1
              have h1 := HQ.out.1
              unfold meet4
              split
              · simp; omega
              · simp; omega
          case measure =>
            have h7 := HU7.out.len
            rw [h7, HOL.out]
            have := HQ.out
            simp
            omega
        · rw [decide_eq_false hq]
          have hst := HST.out
          rw [if_neg hq] at hst
          have HF := Lib.hid (pakGOut_none hst hBB)
          clear hu5 hr5 hBB hst hq CG
          go_wp2_with fail
          go_ret2
          exact HF.out
    · have hN : bitGetN l ((9 * i : Nat) : Int) 9 = 0 := bitGetN_no hbt
      rw [hN]
      have c2 := hr.c2
      have hlen : 8 * l.length < 9 * i + 9 := by
        have := of_decide_eq_false hbt
        omega
      have hf := get4_fail (out := out) (met := met) (last := last) (by omega) hlen
      rw [hget] at hf
      have HF := Lib.hid (pakGOut_none hf hB)
      clear hr hu hB hget hi hol hml hN hbt hlen hf CG
      go_wp2_with fail
      go_ret2
      exact HF.out
theorem implPakGet_any (A : Option Addr) (c : Nat) (l : List UInt8) (w : World) (hs : l.length ≤ 1073741824) (h : Has w w.heap.size A l) (he : Errs w) :
    Calls Try.prog 121 #[.slice A l.length c] w (PakGOut l w) := implPakGet_if A c l w hs h fun _ => he
end Go.Proofs.Ytnnpjcbdcjdojaa
