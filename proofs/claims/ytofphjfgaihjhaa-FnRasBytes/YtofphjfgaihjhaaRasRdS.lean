/-
  RasRead of the reference: the raster that the bytes make, or nothing. Condition: the bytes are read from memory that was there.
-/
import Derived.Test.YtofphjfgaihjhaaRasRd
import Derived.Test.YtofphjfgaihjhaaRasBox
import Derived.Test.YtofphjfgaihjhaaRegT
import Derived.Test.YtofphjfgaihjhaaPixO
import Derived.StillTailTactics
import Derived.BigRegion
namespace Go.Proofs.Ytofphjfgaihjhaa
open Go.RowKit

set_option maxHeartbeats 2000000 in
theorem specRasRead_any (A : Option Addr) (c : Nat) (l : List UInt8) (w : World) (hs : l.length ≤ 1073741824) (h : Has w w.heap.size A l) :
    Calls Try.prog 8 #[.slice A l.length c] w (ReadOut l w) := by
  have hs2 : (l.length : Int) ≤ 1073741824 := by omega
  have hb0 : Below w.heap.size w (w.alloc (.cells #[.int .i64 0, .int .i64 0, .slice none 0 0] 25)) := (Below.refl _ w).alloc (Nat.le_refl _) _
  have hx0 : RasAtB (w.alloc (.cells #[.int .i64 0, .int .i64 0, .slice none 0 0] 25)) w.heap.size 0 0 none 0 0 25 := heap_alloc_new w _
  by_cases h6 : l.length < 6
  · have h6' : (l.length : Int) < 6 := by omega
    have HB := Lib.hid hb0
    have HX := Lib.hid hx0
    have HF := Lib.hid (rdB_no (l := l) (fun k => by omega))
    clear h6 h hb0 hx0
    go_enter Try.func8, Try.ntmps8
    go_wp2_with fail
    refine bodyPost_ret (results_row_tmp rfl _ _ w.heap.size 25 #[.int .i64 0, .int .i64 0, .slice none 0 0] (0, 0) _ (.bool false) rfl rfl HX.out Try.underlying25 rfl (by kernel_rfl)) rfl ?_
    exact readOut_none HF.out HB.out
  have h6' : ¬ (l.length : Int) < 6 := by omega
  have h6i : (6 : Int) ≤ (l.length : Int) := by omega
  obtain ⟨b, o, rfl, hbB, d0⟩ := (h.below hb0).by (i := 0) (by omega)
  obtain ⟨b', o', eA, hbB', d1⟩ := (h.below hb0).by (i := 1) (by omega)
  injection eA with eA
  injection eA with e1 e2 _
  subst e1 e2
  rw [Nat.add_zero] at d0
  have a0 := byN_in l 0
  have a1 := byN_in l 1
  have HH := Lib.hid h
  have HB := Lib.hid hb0
  have HX := Lib.hid hx0
  clear h hb0 hx0
  go_enter Try.func8, Try.ntmps8
  go_wp2_with fail
  generalize w.alloc (.cells #[.int .i64 0, .int .i64 0, .slice none 0 0] 25) = w0 at *
  have hz0 := HX.out.lt
  have hbz : b < w0.heap.size := Nat.lt_trans hbB hz0
  have hbn : ¬ b = w0.heap.size := by omega
  have hl0 : 0 < l.length := by omega
  have hl1 : 1 < l.length := by omega
  go_region
  have hb1 : Below w.heap.size w (w0.alloc (.cells #[.int .i64 (byN l 0), .int .i64 (byN l 1), .slice none 0 0] 25)).drew := below_drew1 (HB.out.alloc (Nat.le_of_lt hz0) _)
  have hy1 : RasAtB (w0.alloc (.cells #[.int .i64 (byN l 0), .int .i64 (byN l 1), .slice none 0 0] 25)).drew w0.heap.size (byN l 0) (byN l 1) none 0 0 25 := heap_alloc_new w0 _
  have hx1 : RasAtB (w0.alloc (.cells #[.int .i64 (byN l 0), .int .i64 (byN l 1), .slice none 0 0] 25)).drew w.heap.size 0 0 none 0 0 25 := (Below.heap_alloc w0 _ _ hz0).trans HX.out
  obtain ⟨W, hW⟩ : ∃ W, byN l 0 = W := ⟨_, rfl⟩
  obtain ⟨H, hH⟩ : ∃ H, byN l 1 = H := ⟨_, rfl⟩
  have HW := Lib.hid hW
  have HHt := Lib.hid hH
  rw [hW] at a0
  rw [hH] at a1
  rw [hW, hH] at hb1 hy1 hx1 ⊢
  generalize (w0.alloc (.cells #[.int .i64 W, .int .i64 H, .slice none 0 0] 25)).drew = w1 at *
  have y0 := hy1.c0
  have y1 := hy1.c1
  have y2 := hy1.c2
  have z1 := hy1.lt
  have HB1 := Lib.hid hb1
  have HX1 := Lib.hid hx1
  have HY1 := Lib.hid hy1
  clear hb1 hx1 hy1 HB HX d0 d1 hW hH
  have NONE : Hid (∀ W1 : World, RasAtB W1 w.heap.size 0 0 none 0 0 25 → Below w.heap.size w W1 → rdB l = false → RasAtB (((W1.setCell ⟨w.heap.size, 0, none⟩ (.int .i64 0)).setCell ⟨w.heap.size, 1, none⟩ (.int .i64 0)).setCell ⟨w.heap.size, 2, none⟩ (.slice none 0 0)) w.heap.size 0 0 none 0 0 25 ∧ ReadOut l w (.returned (.tuple #[.agg #[.int .i64 0, .int .i64 0, .slice none 0 0], .bool false])) (((W1.setCell ⟨w.heap.size, 0, none⟩ (.int .i64 0)).setCell ⟨w.heap.size, 1, none⟩ (.int .i64 0)).setCell ⟨w.heap.size, 2, none⟩ (.slice none 0 0))) := Lib.hid fun W1 hx hb hf => ⟨fin_ras hx _ _ _, readOut_none hf (((hb.setCell (Nat.le_refl _) _).setCell (Nat.le_refl _) _).setCell (Nat.le_refl _) _)⟩
  have r0 := HX1.out.c0
  have r1 := HX1.out.c1
  have r2 := HX1.out.c2
  have q0 : w1.frozen? ⟨w.heap.size, 0, none⟩ = false := HX1.out.free 0
  have q1 : w1.frozen? ⟨w.heap.size, 1, none⟩ = false := HX1.out.free 1
  have q2 : w1.frozen? ⟨w.heap.size, 2, none⟩ = false := HX1.out.free 2
  by_cases hok : ¬ (W ≤ 6 ∧ H ≤ 6 ∧ (l.length : Int) = 2 + 4 * W * H)
  · have HF : Hid (rdB l = false) := Lib.hid (rdB_no (fun k => hok (by rw [← HW.out, ← HHt.out]; exact ⟨k.2.1.1, k.2.1.2, k.2.2⟩)))
    have HN := Lib.hid (NONE.out w1 HX1.out HB1.out HF.out)
    clear NONE
    by_cases k1 : W > 6
    rotate_left
    by_cases k2 : H > 6
    rotate_left
    have k3 : ¬ ((l.length : Int) = 2 + 4 * W * H) := fun e => hok ⟨by omega, by omega, e⟩
    have hm : 4 * W * H ≤ 144 ∧ 0 ≤ 4 * W * H := by
      rcases (by omega : W = 0 ∨ W = 1 ∨ W = 2 ∨ W = 3 ∨ W = 4 ∨ W = 5 ∨ W = 6) with rfl | rfl | rfl | rfl | rfl | rfl | rfl <;> omega
    have hwr1 : wrap64 (4 * W * H) = 4 * W * H := by unfold wrap64; omega
    have k3b : ((l.length : Int) == 2 + 4 * W * H) = false := beq_eq_false_iff_ne.2 k3
    all_goals (
      clear hok
      go_wp2_with fail
      (try simp only [Exit.inBlock, Exit.then])
      refine bodyPost_ret (results_row_tmp rfl _ _ w.heap.size 25 #[.int .i64 0, .int .i64 0, .slice none 0 0] (0, 0) _ (.bool false) rfl rfl HN.out.1 Try.underlying25 rfl (by kernel_rfl)) rfl ?_
      exact HN.out.2)
  have hok := Decidable.not_not.1 hok
  obtain ⟨k1, k2, k3⟩ := hok
  have hT : rdB l = true := decide_eq_true ⟨by omega, by rw [HW.out, HHt.out]; exact ⟨⟨k1, k2⟩, k3⟩⟩
  obtain ⟨-, p1, p2, p3⟩ := rdB_parts hT
  rw [HW.out] at p1 p3
  rw [HHt.out] at p2 p3
  have h36 := mul36 p1 p2
  have hwr1 : wrap64 (4 * W * H) = 4 * W * H := by rw [Int.mul_assoc]; unfold wrap64; omega
  have k3c : ((l.length : Int) != 2 + 4 * W * H) = false := by rw [bne, beq_iff_eq.2 k3]; rfl
  have HT := Lib.hid hT
  have P3 := Lib.hid p3
  obtain ⟨n, hn⟩ : ∃ n : Nat, W * H = (n : Int) := ⟨(W * H).toNat, by omega⟩
  have hln : l.length = 2 + 4 * n := by omega
  have hn36 : n ≤ 36 := by omega
  have HRP : Hid (rdP l = pxs l n) := Lib.hid (by unfold rdP; rw [hT, HW.out, HHt.out, hn]; rfl)
  have HRW : Hid (rdW l = W) := Lib.hid (by unfold rdW; rw [hT, HW.out]; rfl)
  have HRH : Hid (rdH l = H) := Lib.hid (by unfold rdH; rw [hT, HHt.out]; rfl)
  have hl146 : (l.length : Int) ≤ 146 := by omega
  clear hT p3 NONE k3 P3
  have HLN := Lib.hid hln
  have HN := Lib.hid hn
  clear hn hln
  go_wp2_with fail
  clear k3c hwr1 y0 y1 y2 r0 r1 r2 q0 q1 q2 h6' h6i h6 hl0 hl1
  have HBY : Hid (∀ W1 : World, Below w.heap.size w W1 → ∀ i, i < l.length → W1.drew.cell? ⟨b, o + i, none⟩ = some (.int .u8 (byN l i))) := Lib.hid fun W1 hb i hi => by
    obtain ⟨b', o', eA, _, d⟩ := (HH.out.below hb).by hi
    injection eA with eA
    injection eA with e1 e2 _
    subst e1 e2
    exact d
  go_loopw [5] (fun i wr => ∃ j : Nat, j ≤ n ∧ i = .int .i64 ((2 + 4 * j : Nat) : Int) ∧ Below w.heap.size w wr ∧ RasAtB wr w.heap.size 0 0 none 0 0 25 ∧ ∃ A' c', RasAtB wr w0.heap.size W H A' j c' 25 ∧ OwnP wr w1.heap.size (.slice A' j c') (pxs l j) ∧ w1.heap.size ≤ wr.heap.size) (fun i _ => l.length - (intOf i).toNat)
  case atStart => exact ⟨0, Nat.zero_le _, rfl, HB1.out, HX1.out, none, 0, HY1.out, ownP_nil _ _, Nat.le_refl _⟩
  case round =>
    obtain ⟨j, hj, rfl, hbel, hx, A', c', hy, hown, hwz⟩ := hrel
    obtain ⟨k, hk⟩ : ∃ k, 2 + 4 * j = k := ⟨_, rfl⟩
    rw [hk]
    by_cases hlt : j < n
    · have hkl : (k : Int) < (l.length : Int) := by rw [HLN.out]; omega
      have hkl1 : (k : Int) + 1 < (l.length : Int) := by rw [HLN.out]; omega
      have hkl2 : (k : Int) + 2 < (l.length : Int) := by rw [HLN.out]; omega
      have hkl3 : (k : Int) + 3 < (l.length : Int) := by rw [HLN.out]; omega
      have d0 := HBY.out wr hbel k (by omega)
      have d1 := HBY.out wr hbel (k + 1) (by omega)
      have d2 := HBY.out wr hbel (k + 2) (by omega)
      have d3 := HBY.out wr hbel (k + 3) (by omega)
      have y2 : wr.drew.cell? ⟨w0.heap.size, 2, none⟩ = some (.slice A' j c') := hy.c2
      have HBd := Lib.hid (below_drew1 hbel)
      have HBr := Lib.hid hbel
      have HXd := Lib.hid hx.drew1
      have HYd := Lib.hid hy.drew1
      have HOd := Lib.hid (hown.drewN 1)
      have hwd : w1.heap.size ≤ wr.drew.heap.size := hwz
      have HK := Lib.hid hk
      clear hbel hx hy hown hk
      have pk0 : 0 ≤ (k : Int) ∧ (k : Int) < (l.length : Int) := by omega
      have pk1 : 0 ≤ (k : Int) + 1 ∧ (k : Int) + 1 < (l.length : Int) := by omega
      have pk2 : 0 ≤ (k : Int) + 2 ∧ (k : Int) + 2 < (l.length : Int) := by omega
      have pk3 : 0 ≤ (k : Int) + 3 ∧ (k : Int) + 3 < (l.length : Int) := by omega
      have t1 : ((k : Int) + 1).toNat = k + 1 := by omega
      have t2 : ((k : Int) + 2).toNat = k + 2 := by omega
      have t3 : ((k : Int) + 3).toNat = k + 3 := by omega
      have w1a := IntWalk.i64_in ((k : Int) + 1) (by omega)
      have w2a := IntWalk.i64_in ((k : Int) + 2) (by omega)
      have w3a := IntWalk.i64_in ((k : Int) + 3) (by omega)
      have b0 := byN_in l k
      have b1 := byN_in l (k + 1)
      have b2 := byN_in l (k + 2)
      have b3 := byN_in l (k + 3)
      go_wp2_with fail
      have hwy : w0.heap.size < wr.heap.size := HYd.out.lt
      have y2f : wr.frozen? ⟨w0.heap.size, 2, none⟩ = false := HYd.out.free 2
      obtain ⟨p, hp⟩ : ∃ p : Px, p = ⟨byN l k, byN l (k + 1), byN l (k + 2), byN l (k + 3)⟩ := ⟨_, rfl⟩
      have e0 : byN l k = p.r := by rw [hp]
      have e1 : byN l (k + 1) = p.g := by rw [hp]
      have e2 : byN l (k + 2) = p.b := by rw [hp]
      have e3 : byN l (k + 3) = p.a := by rw [hp]
      rw [e0] at d0 b0
      rw [e1] at d1 b1
      rw [e2] at d2 b2
      rw [e3] at d3 b3
      have HPP := Lib.hid hp
      clear hp e0 e1 e2 e3
      have hbr : b < wr.heap.size := Nat.lt_trans (Nat.lt_trans hbB hz0) hwy
      have ll : (pxs l j).length = j := pxs_length l j
      have HS0 : wr.drew.cell? ⟨w0.heap.size, 2, none⟩ = some (.slice A' j c') ∧ wr.drew.cell? ⟨b, o + k, none⟩ = some (.int .u8 p.r) ∧ wr.drew.cell? ⟨b, o + (k + 1), none⟩ = some (.int .u8 p.g) ∧ wr.drew.cell? ⟨b, o + (k + 2), none⟩ = some (.int .u8 p.b) ∧ wr.drew.cell? ⟨b, o + (k + 3), none⟩ = some (.int .u8 p.a) := ⟨y2, d0, d1, d2, d3⟩
      refine wp_region_T (fun w' => w'.cell? ⟨w0.heap.size, 2, none⟩ = some (.slice A' j c') ∧ w'.cell? ⟨b, o + k, none⟩ = some (.int .u8 p.r) ∧ w'.cell? ⟨b, o + (k + 1), none⟩ = some (.int .u8 p.g) ∧ w'.cell? ⟨b, o + (k + 2), none⟩ = some (.int .u8 p.b) ∧ w'.cell? ⟨b, o + (k + 3), none⟩ = some (.int .u8 p.a)) 29 (by kernel_rfl) ?_
      have u0 := IntWalk.i64_in p.r (by omega)
      have u1 := IntWalk.i64_in p.g (by omega)
      have u2 := IntWalk.i64_in p.b (by omega)
      have u3 := IntWalk.i64_in p.a (by omega)
      refine wpAnyT_take (i := 0) (d := 46) (v := .pointer (some ⟨w0.heap.size, 2, none⟩)) rfl rfl (by kernel_rfl) (by kernel_rfl) (by kernel_rfl) (by kernel_rfl) (by kernel_rfl) (fun _ _ _ h => h) HS0 (Or.inl ⟨by rfl, fun w' hS' => ?_⟩) ?_
      · obtain ⟨s0, s1, s2, s3, s4⟩ := hS'
        go_simp
      simp only [Act.put, List.setIfInBounds_toArray, List.set_cons_zero, List.set_cons_succ]
      refine wpAnyT_take (i := 1) (d := 47) (v := .slice A' j c') rfl rfl (by kernel_rfl) (by kernel_rfl) (by kernel_rfl) (by kernel_rfl) (by kernel_rfl) (fun _ _ _ h => h) HS0 (Or.inl ⟨by rfl, fun w' hS' => ?_⟩) ?_
      · obtain ⟨s0, s1, s2, s3, s4⟩ := hS'
        go_simp
      simp only [Act.put, List.setIfInBounds_toArray, List.set_cons_zero, List.set_cons_succ]
      refine wpAnyT_take (i := 2) (d := 48) (v := .slice (some ⟨b, o, none⟩) l.length c) rfl rfl (by kernel_rfl) (by kernel_rfl) (by kernel_rfl) (by kernel_rfl) (by kernel_rfl) (fun _ _ _ h => h) HS0 (Or.inl ⟨by rfl, fun w' hS' => ?_⟩) ?_
      · obtain ⟨s0, s1, s2, s3, s4⟩ := hS'
        go_simp
      simp only [Act.put, List.setIfInBounds_toArray, List.set_cons_zero, List.set_cons_succ]
      refine wpAnyT_take (i := 3) (d := 49) (v := .int .i64 (k : Int)) rfl rfl (by kernel_rfl) (by kernel_rfl) (by kernel_rfl) (by kernel_rfl) (by kernel_rfl) (fun _ _ _ h => h) HS0 (Or.inl ⟨by rfl, fun w' hS' => ?_⟩) ?_
      · obtain ⟨s0, s1, s2, s3, s4⟩ := hS'
        go_simp
      simp only [Act.put, List.setIfInBounds_toArray, List.set_cons_zero, List.set_cons_succ]
      refine wpAnyT_take (i := 4) (d := 50) (v := .pointer (some ⟨b, o + k, none⟩)) rfl rfl (by kernel_rfl) (by kernel_rfl) (by kernel_rfl) (by kernel_rfl) (by kernel_rfl) (fun _ _ _ h => h) HS0 (Or.inl ⟨by rfl, fun w' hS' => ?_⟩) ?_
      · obtain ⟨s0, s1, s2, s3, s4⟩ := hS'
        go_simp
      simp only [Act.put, List.setIfInBounds_toArray, List.set_cons_zero, List.set_cons_succ]
      refine wpAnyT_take (i := 5) (d := 51) (v := .int .u8 p.r) rfl rfl (by kernel_rfl) (by kernel_rfl) (by kernel_rfl) (by kernel_rfl) (by kernel_rfl) (fun _ _ _ h => h) HS0 (Or.inl ⟨by rfl, fun w' hS' => ?_⟩) ?_
      · obtain ⟨s0, s1, s2, s3, s4⟩ := hS'
        go_simp
      simp only [Act.put, List.setIfInBounds_toArray, List.set_cons_zero, List.set_cons_succ]
      refine wpAnyT_take (i := 6) (d := 52) (v := .int .i64 p.r) rfl rfl (by kernel_rfl) (by kernel_rfl) (by kernel_rfl) (by kernel_rfl) (by kernel_rfl) (fun _ _ _ h => h) HS0 (Or.inl ⟨by rfl, fun w' hS' => ?_⟩) ?_
      · obtain ⟨s0, s1, s2, s3, s4⟩ := hS'
        go_simp
      simp only [Act.put, List.setIfInBounds_toArray, List.set_cons_zero, List.set_cons_succ]
      refine wpAnyT_take (i := 7) (d := 53) (v := .slice (some ⟨b, o, none⟩) l.length c) rfl rfl (by kernel_rfl) (by kernel_rfl) (by kernel_rfl) (by kernel_rfl) (by kernel_rfl) (fun _ _ _ h => h) HS0 (Or.inl ⟨by rfl, fun w' hS' => ?_⟩) ?_
      · obtain ⟨s0, s1, s2, s3, s4⟩ := hS'
        go_simp
      simp only [Act.put, List.setIfInBounds_toArray, List.set_cons_zero, List.set_cons_succ]
      refine wpAnyT_take (i := 8) (d := 54) (v := .int .i64 (k : Int)) rfl rfl (by kernel_rfl) (by kernel_rfl) (by kernel_rfl) (by kernel_rfl) (by kernel_rfl) (fun _ _ _ h => h) HS0 (Or.inl ⟨by rfl, fun w' hS' => ?_⟩) ?_
      · obtain ⟨s0, s1, s2, s3, s4⟩ := hS'
        go_simp
      simp only [Act.put, List.setIfInBounds_toArray, List.set_cons_zero, List.set_cons_succ]
      refine wpAnyT_take (i := 9) (d := 55) (v := .int .i64 ((k : Int) + 1)) rfl rfl (by kernel_rfl) (by kernel_rfl) (by kernel_rfl) (by kernel_rfl) (by kernel_rfl) (fun _ _ _ h => h) HS0 (Or.inl ⟨by rfl, fun w' hS' => ?_⟩) ?_
      · obtain ⟨s0, s1, s2, s3, s4⟩ := hS'
        go_simp
      simp only [Act.put, List.setIfInBounds_toArray, List.set_cons_zero, List.set_cons_succ]
      refine wpAnyT_take (i := 10) (d := 56) (v := .pointer (some ⟨b, o + (k + 1), none⟩)) rfl rfl (by kernel_rfl) (by kernel_rfl) (by kernel_rfl) (by kernel_rfl) (by kernel_rfl) (fun _ _ _ h => h) HS0 (Or.inl ⟨by rfl, fun w' hS' => ?_⟩) ?_
      · obtain ⟨s0, s1, s2, s3, s4⟩ := hS'
        go_simp
      simp only [Act.put, List.setIfInBounds_toArray, List.set_cons_zero, List.set_cons_succ]
      refine wpAnyT_take (i := 11) (d := 57) (v := .int .u8 p.g) rfl rfl (by kernel_rfl) (by kernel_rfl) (by kernel_rfl) (by kernel_rfl) (by kernel_rfl) (fun _ _ _ h => h) HS0 (Or.inl ⟨by rfl, fun w' hS' => ?_⟩) ?_
      · obtain ⟨s0, s1, s2, s3, s4⟩ := hS'
        go_simp
      simp only [Act.put, List.setIfInBounds_toArray, List.set_cons_zero, List.set_cons_succ]
      refine wpAnyT_take (i := 12) (d := 58) (v := .int .i64 p.g) rfl rfl (by kernel_rfl) (by kernel_rfl) (by kernel_rfl) (by kernel_rfl) (by kernel_rfl) (fun _ _ _ h => h) HS0 (Or.inl ⟨by rfl, fun w' hS' => ?_⟩) ?_
      · obtain ⟨s0, s1, s2, s3, s4⟩ := hS'
        go_simp
      simp only [Act.put, List.setIfInBounds_toArray, List.set_cons_zero, List.set_cons_succ]
      refine wpAnyT_take (i := 13) (d := 59) (v := .slice (some ⟨b, o, none⟩) l.length c) rfl rfl (by kernel_rfl) (by kernel_rfl) (by kernel_rfl) (by kernel_rfl) (by kernel_rfl) (fun _ _ _ h => h) HS0 (Or.inl ⟨by rfl, fun w' hS' => ?_⟩) ?_
      · obtain ⟨s0, s1, s2, s3, s4⟩ := hS'
        go_simp
      simp only [Act.put, List.setIfInBounds_toArray, List.set_cons_zero, List.set_cons_succ]
      refine wpAnyT_take (i := 14) (d := 60) (v := .int .i64 (k : Int)) rfl rfl (by kernel_rfl) (by kernel_rfl) (by kernel_rfl) (by kernel_rfl) (by kernel_rfl) (fun _ _ _ h => h) HS0 (Or.inl ⟨by rfl, fun w' hS' => ?_⟩) ?_
      · obtain ⟨s0, s1, s2, s3, s4⟩ := hS'
        go_simp
      simp only [Act.put, List.setIfInBounds_toArray, List.set_cons_zero, List.set_cons_succ]
      refine wpAnyT_take (i := 15) (d := 61) (v := .int .i64 ((k : Int) + 2)) rfl rfl (by kernel_rfl) (by kernel_rfl) (by kernel_rfl) (by kernel_rfl) (by kernel_rfl) (fun _ _ _ h => h) HS0 (Or.inl ⟨by rfl, fun w' hS' => ?_⟩) ?_
      · obtain ⟨s0, s1, s2, s3, s4⟩ := hS'
        go_simp
      simp only [Act.put, List.setIfInBounds_toArray, List.set_cons_zero, List.set_cons_succ]
      refine wpAnyT_take (i := 16) (d := 62) (v := .pointer (some ⟨b, o + (k + 2), none⟩)) rfl rfl (by kernel_rfl) (by kernel_rfl) (by kernel_rfl) (by kernel_rfl) (by kernel_rfl) (fun _ _ _ h => h) HS0 (Or.inl ⟨by rfl, fun w' hS' => ?_⟩) ?_
      · obtain ⟨s0, s1, s2, s3, s4⟩ := hS'
        go_simp
      simp only [Act.put, List.setIfInBounds_toArray, List.set_cons_zero, List.set_cons_succ]
      refine wpAnyT_take (i := 17) (d := 63) (v := .int .u8 p.b) rfl rfl (by kernel_rfl) (by kernel_rfl) (by kernel_rfl) (by kernel_rfl) (by kernel_rfl) (fun _ _ _ h => h) HS0 (Or.inl ⟨by rfl, fun w' hS' => ?_⟩) ?_
      · obtain ⟨s0, s1, s2, s3, s4⟩ := hS'
        go_simp
      simp only [Act.put, List.setIfInBounds_toArray, List.set_cons_zero, List.set_cons_succ]
      refine wpAnyT_take (i := 18) (d := 64) (v := .int .i64 p.b) rfl rfl (by kernel_rfl) (by kernel_rfl) (by kernel_rfl) (by kernel_rfl) (by kernel_rfl) (fun _ _ _ h => h) HS0 (Or.inl ⟨by rfl, fun w' hS' => ?_⟩) ?_
      · obtain ⟨s0, s1, s2, s3, s4⟩ := hS'
        go_simp
      simp only [Act.put, List.setIfInBounds_toArray, List.set_cons_zero, List.set_cons_succ]
      refine wpAnyT_take (i := 19) (d := 65) (v := .slice (some ⟨b, o, none⟩) l.length c) rfl rfl (by kernel_rfl) (by kernel_rfl) (by kernel_rfl) (by kernel_rfl) (by kernel_rfl) (fun _ _ _ h => h) HS0 (Or.inl ⟨by rfl, fun w' hS' => ?_⟩) ?_
      · obtain ⟨s0, s1, s2, s3, s4⟩ := hS'
        go_simp
      simp only [Act.put, List.setIfInBounds_toArray, List.set_cons_zero, List.set_cons_succ]
      refine wpAnyT_take (i := 20) (d := 66) (v := .int .i64 (k : Int)) rfl rfl (by kernel_rfl) (by kernel_rfl) (by kernel_rfl) (by kernel_rfl) (by kernel_rfl) (fun _ _ _ h => h) HS0 (Or.inl ⟨by rfl, fun w' hS' => ?_⟩) ?_
      · obtain ⟨s0, s1, s2, s3, s4⟩ := hS'
        go_simp
      simp only [Act.put, List.setIfInBounds_toArray, List.set_cons_zero, List.set_cons_succ]
      refine wpAnyT_take (i := 21) (d := 67) (v := .int .i64 ((k : Int) + 3)) rfl rfl (by kernel_rfl) (by kernel_rfl) (by kernel_rfl) (by kernel_rfl) (by kernel_rfl) (fun _ _ _ h => h) HS0 (Or.inl ⟨by rfl, fun w' hS' => ?_⟩) ?_
      · obtain ⟨s0, s1, s2, s3, s4⟩ := hS'
        go_simp
      simp only [Act.put, List.setIfInBounds_toArray, List.set_cons_zero, List.set_cons_succ]
      refine wpAnyT_take (i := 22) (d := 68) (v := .pointer (some ⟨b, o + (k + 3), none⟩)) rfl rfl (by kernel_rfl) (by kernel_rfl) (by kernel_rfl) (by kernel_rfl) (by kernel_rfl) (fun _ _ _ h => h) HS0 (Or.inl ⟨by rfl, fun w' hS' => ?_⟩) ?_
      · obtain ⟨s0, s1, s2, s3, s4⟩ := hS'
        go_simp
      simp only [Act.put, List.setIfInBounds_toArray, List.set_cons_zero, List.set_cons_succ]
      refine wpAnyT_take (i := 23) (d := 69) (v := .int .u8 p.a) rfl rfl (by kernel_rfl) (by kernel_rfl) (by kernel_rfl) (by kernel_rfl) (by kernel_rfl) (fun _ _ _ h => h) HS0 (Or.inl ⟨by rfl, fun w' hS' => ?_⟩) ?_
      · obtain ⟨s0, s1, s2, s3, s4⟩ := hS'
        go_simp
      simp only [Act.put, List.setIfInBounds_toArray, List.set_cons_zero, List.set_cons_succ]
      refine wpAnyT_take (i := 24) (d := 70) (v := .int .i64 p.a) rfl rfl (by kernel_rfl) (by kernel_rfl) (by kernel_rfl) (by kernel_rfl) (by kernel_rfl) (fun _ _ _ h => h) HS0 (Or.inl ⟨by rfl, fun w' hS' => ?_⟩) ?_
      · obtain ⟨s0, s1, s2, s3, s4⟩ := hS'
        go_simp
      simp only [Act.put, List.setIfInBounds_toArray, List.set_cons_zero, List.set_cons_succ]
      refine wpAnyT_take (i := 25) (d := 71) (v := .agg #[.int .i64 p.r, .int .i64 p.g, .int .i64 p.b, .int .i64 p.a]) rfl rfl (by kernel_rfl) (by kernel_rfl) (by kernel_rfl) (by kernel_rfl) (by kernel_rfl) (fun _ _ _ h => h) HS0 (Or.inl ⟨by rfl, fun w' hS' => ?_⟩) ?_
      · obtain ⟨s0, s1, s2, s3, s4⟩ := hS'
        go_simp
      simp only [Act.put, List.setIfInBounds_toArray, List.set_cons_zero, List.set_cons_succ]
      have hne1 : ¬ w0.heap.size = wr.heap.size := by omega
      have hne2 : ¬ b = wr.heap.size := by omega
      refine wpAnyT_one (i := 26) (by kernel_rfl) rfl (fun K hK => ?_)
      go_simp
      have ho1 : OwnP (wr.alloc (.cells #[.int .i64 p.r, .int .i64 p.g, .int .i64 p.b, .int .i64 p.a] 44)).drew w1.heap.size (.slice A' j c') (pxs l j) := HOd.out.alloc _
      have hy1 : RasAtB (wr.alloc (.cells #[.int .i64 p.r, .int .i64 p.g, .int .i64 p.b, .int .i64 p.a] 44)).drew w0.heap.size W H A' j c' 25 := (Below.heap_alloc wr _ _ hwy).trans HYd.out
      have hx1 : RasAtB (wr.alloc (.cells #[.int .i64 p.r, .int .i64 p.g, .int .i64 p.b, .int .i64 p.a] 44)).drew w.heap.size 0 0 none 0 0 25 := (Below.heap_alloc wr _ _ HXd.out.lt).trans HXd.out
      have hB1 : Below w.heap.size w (wr.alloc (.cells #[.int .i64 p.r, .int .i64 p.g, .int .i64 p.b, .int .i64 p.a] 44)).drew := below_drew1 (HBr.out.alloc (Nat.le_of_lt HXd.out.lt) _)
      have hnews := laid_px wr p 44
      have hz1 : (wr.alloc (.cells #[.int .i64 p.r, .int .i64 p.g, .int .i64 p.b, .int .i64 p.a] 44)).drew.heap.size = wr.heap.size + 1 := by simp
      have hnews' : ∀ (jj : Nat) (u : Value), (flatP [p])[jj]? = some u → (wr.alloc (.cells #[.int .i64 p.r, .int .i64 p.g, .int .i64 p.b, .int .i64 p.a] 44)).drew.cell? ((⟨wr.heap.size, 0, none⟩ : Addr).add jj) = some u := hnews
      have S1 : ∀ W1 : World, (∀ q : Addr, q.block < w1.heap.size → W1.cell? q = wr.cell? q) → W1.cell? ⟨w0.heap.size, 2, none⟩ = some (.slice A' j c') ∧ W1.cell? ⟨b, o + k, none⟩ = some (.int .u8 p.r) ∧ W1.cell? ⟨b, o + (k + 1), none⟩ = some (.int .u8 p.g) ∧ W1.cell? ⟨b, o + (k + 2), none⟩ = some (.int .u8 p.b) ∧ W1.cell? ⟨b, o + (k + 3), none⟩ = some (.int .u8 p.a) := fun W1 hk => ⟨(hk _ z1).trans HS0.1, (hk _ (Nat.lt_trans hbz z1)).trans HS0.2.1, (hk _ (Nat.lt_trans hbz z1)).trans HS0.2.2.1, (hk _ (Nat.lt_trans hbz z1)).trans HS0.2.2.2.1, (hk _ (Nat.lt_trans hbz z1)).trans HS0.2.2.2.2⟩
      have hold1 : ∀ q : Addr, q.block < w1.heap.size → (wr.alloc (.cells #[.int .i64 p.r, .int .i64 p.g, .int .i64 p.b, .int .i64 p.a] 44)).drew.cell? q = wr.cell? q := fun q hq => World.cell?_of_block (Below.heap_alloc wr (.cells #[.int .i64 p.r, .int .i64 p.g, .int .i64 p.b, .int .i64 p.a] 44) q.block (Nat.lt_of_lt_of_le hq hwz))
      have HS1 := Lib.hid (S1 _ hold1)
      refine hK.out _ _ (fun _ => HS1.out) ?_
      clear hK hnews
      try simp only [Act.put, List.setIfInBounds_toArray, List.set_cons_zero, List.set_cons_succ]
      generalize (wr.alloc (.cells #[.int .i64 p.r, .int .i64 p.g, .int .i64 p.b, .int .i64 p.a] 44)).drew = w4 at *
      refine wpAnyT_one (i := 27) (by kernel_rfl) rfl (fun K hK => ?_)
      refine step_pushP rfl (.tmp 47) (.tmp 72) rfl w1.heap.size (.slice A' j c') (pxs l j) rfl ho1 p ⟨wr.heap.size, 0, none⟩ rfl hnews' (by rw [pxs_length]; omega) (by omega) ?_
      intro g5 c5 w5 ho5 hg5
      have hb5 : Below w1.heap.size w4 w5 := (Below.refl _ w4).grown hg5 (by omega) (fun q hq => (World.ownsRow.lt ho1 q hq).1)
      have S5 := Lib.hid (S1 w5 (fun q hq => (hb5.cell hq).trans (hold1 q hq)))
      refine hK.out _ _ (fun _ => S5.out) ?_
      clear hK
      rw [pxs_length] at ho5 ⊢
      have HX5 := Lib.hid (hx1.below hb5 (Nat.lt_trans hz0 z1))
      have HY5 := Lib.hid (hy1.below hb5 z1)
      have HB5 := Lib.hid (hB1.trans (hb5.mono (Nat.le_of_lt (Nat.lt_trans hz0 z1))))
      have HO5 := Lib.hid ho5
      have hz5 : w1.heap.size ≤ w5.heap.size := by have := hb5.size; omega
      have hg5l : w1.heap.size ≤ g5 := (World.ownsRow.lt ho5 g5 rfl).1
      have y52 := HY5.out.c2
      have y52f := HY5.out.free 2
      clear hg5 ho5 hb5 hold1 S1 hy1 hx1 hB1 ho1 hnews' HS1
      try simp only [Act.put, List.setIfInBounds_toArray]
      refine wpAnyT_one (i := 28) (by kernel_rfl) rfl (fun K hK => ?_)
      go_simp
      refine hK.out _ _ (fun _ => S5.out) ?_
      clear hK
      try simp only [Act.put, List.setIfInBounds_toArray, List.set_cons_zero, List.set_cons_succ]
      refine wpAnyT_one (i := 29) (by kernel_rfl) rfl (fun K hK => ?_)
      go_simp
      refine hK.out _ _ (fun h => last_out h) ?_
      clear hK
      refine wpAnyT_done (by kernel_rfl) ?_ _
      have HB6 := Lib.hid (HB5.out.setCell (p := ⟨w0.heap.size, 2, none⟩) (Nat.le_of_lt hz0) (.slice (some ⟨g5, 0, none⟩) (j + 1) c5))
      have HX6 := Lib.hid (HX5.out.set_other (b := w0.heap.size) (by omega) 2 (.slice (some ⟨g5, 0, none⟩) (j + 1) c5))
      have HY6 := Lib.hid (HY5.out.set2 (some ⟨g5, 0, none⟩) (j + 1) c5)
      have HO6 : Hid (OwnP (w5.setCell ⟨w0.heap.size, 2, none⟩ (.slice (some ⟨g5, 0, none⟩) (j + 1) c5)) w1.heap.size (.slice (some ⟨g5, 0, none⟩) (j + 1) c5) (pxs l (j + 1))) := Lib.hid (by
        rw [pxs_snoc, show pxAt l j = p from by rw [HPP.out, ← HK.out]; unfold pxAt; simp only [show 2 + 4 * j + 1 = 3 + 4 * j from by omega, show 2 + 4 * j + 2 = 4 + 4 * j from by omega, show 2 + 4 * j + 3 = 5 + 4 * j from by omega]]
        exact World.ownsRow.kept HO5.out (grown_cell w5 w0.heap.size 2 _) (.inr (by simp [Value.ownBlock]; omega)))
      have hz6 : w1.heap.size ≤ (w5.setCell ⟨w0.heap.size, 2, none⟩ (.slice (some ⟨g5, 0, none⟩) (j + 1) c5)).heap.size := by simpa using hz5
      clear y52 y52f S5 HX5 HY5 HB5 HO5 HS0 y2 d0 d1 d2 d3
      go_wp2_with fail
      go_roundw
      case rel => exact ⟨j + 1, by omega, by have := HK.out; go_num, HB6.out, HX6.out, some ⟨g5, 0, none⟩, c5, HY6.out, HO6.out, hz6⟩
      case measure => simp [intOf]; omega
    · obtain rfl : j = n := by omega
      have hkl : ¬ ((k : Int) < (l.length : Int)) := by rw [HLN.out]; omega
      have x0 := hx.c0
      have x1 := hx.c1
      have x2 := hx.c2
      have y0 := hy.c0
      have y1 := hy.c1
      have y2 := hy.c2
      have f0 := hx.free 0
      have f1 := hx.free 1
      have f2 := hx.free 2
      have hne : ¬ w.heap.size = w0.heap.size := by omega
      have HXe := Lib.hid (fin_ras hx (.int .i64 W) (.int .i64 H) (.slice A' j c'))
      have HBe := Lib.hid (((hbel.setCell (p := ⟨w.heap.size, 0, none⟩) (Nat.le_refl _) (.int .i64 W)).setCell (p := ⟨w.heap.size, 1, none⟩) (Nat.le_refl _) (.int .i64 H)).setCell (p := ⟨w.heap.size, 2, none⟩) (Nat.le_refl _) (.slice A' j c'))
      have HOe : Hid (OwnP (((wr.setCell ⟨w.heap.size, 0, none⟩ (.int .i64 W)).setCell ⟨w.heap.size, 1, none⟩ (.int .i64 H)).setCell ⟨w.heap.size, 2, none⟩ (.slice A' j c')) w1.heap.size (.slice A' j c') (pxs l j)) := Lib.hid (OwnP.set_low (OwnP.set_low (OwnP.set_low hown (by omega) 0 _) (by omega) 1 _) (by omega) 2 _)
      clear hx hy hbel hown
      go_wp2_with fail
      (try simp only [Exit.inBlock, Exit.then])
      refine bodyPost_ret (results_row_tmp rfl _ _ w.heap.size 25 #[.int .i64 W, .int .i64 H, .slice A' j c'] (0, 0) _ (.bool true) rfl rfl HXe.out Try.underlying25 rfl (by kernel_rfl)) rfl ?_
      refine ⟨A', c', ?_, ?_, HBe.out⟩
      · rw [HRW.out, HRH.out, HRP.out, HT.out, pxs_length]
        rfl
      · rw [HRP.out, pxs_length]
        exact HOe.out.lower (by omega)
end Go.Proofs.Ytofphjfgaihjhaa
