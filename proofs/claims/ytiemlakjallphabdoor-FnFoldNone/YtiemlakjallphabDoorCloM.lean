/-
  meanAround of the program: the mean of the pixels about a place. Conditions: the raster is one, there is the place, the pixels lie in memory that was there.
-/
import Derived.Test.YtiemlakjallphabDoorCloP
import Derived.Test.YtiemlakjallphabDoorCloA
import Derived.Test.YtiemlakjallphabDoorRegT
import Derived.Lib.MinMax
namespace Go.Proofs.YtiemlakjallphabDoor
set_option maxRecDepth 4000
open Go.RowKit

/-- A sum of so many pixels' parts. -/
def Sums (q : Px) (m : Nat) : Prop := (0 ≤ q.r ∧ q.r ≤ 255 * (m : Int)) ∧ (0 ≤ q.g ∧ q.g ≤ 255 * (m : Int)) ∧ (0 ≤ q.b ∧ q.b ≤ 255 * (m : Int)) ∧ (0 ≤ q.a ∧ q.a ≤ 255 * (m : Int))
theorem Sums.add {q p : Px} {m : Nat} (h : Sums q m) (hp : pixB p = true) : Sums (addP q p) (m + 1) := by
  obtain ⟨h1, h2, h3, h4⟩ := h
  obtain ⟨p1, p2, p3, p4⟩ := pixB_parts hp
  unfold Sums addP
  simp only
  omega
/-- A block that holds a pixel's parts. -/
def SumB (w : World) (g : Nat) (q : Px) : Prop := Box w g #[.int .i64 q.r, .int .i64 q.g, .int .i64 q.b, .int .i64 q.a] 62
set_option maxHeartbeats 4000000 in
theorem meanAround_any (r : Ra) (A : Option Addr) (c x y : Nat) (w : World) (hr : r.ok) (hx : x < r.w) (hy : y < r.h) (hc : r.p.length ≤ c) (h : HasP w w.heap.size A r.p) :
    Calls Tryd.prog 102 #[raV r A c, .int .i64 (x : Int), .int .i64 (y : Int)] w fun e w' => e = .returned (meanP r x y).v ∧ Below w.heap.size w w' := by
  have hw6 := hr.parts.1
  have hh6 := hr.parts.2.1
  obtain ⟨x1, x2, x3, x4⟩ := lo_in hx
  obtain ⟨y1, y2, y3, y4⟩ := lo_in hy
  obtain ⟨j, hj⟩ : ∃ j, lo1 x = j := ⟨_, rfl⟩
  obtain ⟨k, hk⟩ : ∃ k, lo1 y = k := ⟨_, rfl⟩
  obtain ⟨n, hn⟩ : ∃ n, cnt1 r.w x = n := ⟨_, rfl⟩
  obtain ⟨M, hM⟩ : ∃ M, cnt1 r.h y = M := ⟨_, rfl⟩
  have ex : max ((x : Int) - 1) 0 = (j : Int) := by unfold lo1 at hj; omega
  have ey : max ((y : Int) - 1) 0 = (k : Int) := by unfold lo1 at hk; omega
  have fx : min ((x : Int) + 1) ((r.w : Int) - 1) = (j : Int) + (n : Int) - 1 := by unfold lo1 at hj; unfold cnt1 lo1 at hn; omega
  have fy : min ((y : Int) + 1) ((r.h : Int) - 1) = (k : Int) + (M : Int) - 1 := by unfold lo1 at hk; unfold cnt1 lo1 at hM; omega
  have hG : Hid (∀ q : Px, q = sumBox r.at j n k M → (meanP r x y) = ⟨q.r / ((M * n : Nat) : Int), q.g / ((M * n : Nat) : Int), q.b / ((M * n : Nat) : Int), q.a / ((M * n : Nat) : Int)⟩) := Lib.hid fun q hq => by subst hq hj hk hn hM; rfl
  rw [hj, hn] at x1
  rw [hk, hM] at y1
  rw [hn] at x2
  rw [hM] at y2
  clear hj hk hn hM x3 x4 y3 y4
  have CP := Lib.hid fun a b W ha hb hh => pixelAt_any r A c a b W hr ha hb hc hh
  have HPX : Hid (∀ a b, a < r.w → b < r.h → pixB (r.at a b) = true) := Lib.hid fun a b ha hb => (hr.at ha hb).2
  generalize meanP r x y = me at *
  unfold raV rasV Px.v at CP
  unfold raV rasV Px.v
  obtain ⟨W, hW⟩ : ∃ W, r.w = W := ⟨_, rfl⟩
  obtain ⟨H, hH⟩ : ∃ H, r.h = H := ⟨_, rfl⟩
  obtain ⟨nl, hl⟩ : ∃ nl, r.p.length = nl := ⟨_, rfl⟩
  obtain ⟨fat, hfat⟩ : ∃ fat, r.at = fat := ⟨_, rfl⟩
  obtain ⟨pl, hpl⟩ : ∃ pl, r.p = pl := ⟨_, rfl⟩
  rw [hpl] at h
  rw [hW, hH, hl, hfat, hpl] at CP
  rw [hW, hH, hfat] at HPX
  rw [hfat] at hG
  rw [hW] at hw6 fx x1 hx
  rw [hH] at hh6 fy y1 hy
  rw [hW, hH, hl]
  clear hW hH hl hfat hpl hr hc
  have hb0 : Below w.heap.size w (((w.alloc (.cells #[.int .i64 (W : Int), .int .i64 (H : Int), .slice A nl c] 30)).alloc (.cells #[.int .i64 0, .int .i64 0, .int .i64 0, .int .i64 0] 62)).alloc (.cells #[.int .i64 0, .int .i64 0, .int .i64 0, .int .i64 0] 62)) := (((Below.refl _ w).alloc (Nat.le_refl _) _).alloc (by simp) _).alloc (by simp; omega) _
  have hR0 : RasAtB (((w.alloc (.cells #[.int .i64 (W : Int), .int .i64 (H : Int), .slice A nl c] 30)).alloc (.cells #[.int .i64 0, .int .i64 0, .int .i64 0, .int .i64 0] 62)).alloc (.cells #[.int .i64 0, .int .i64 0, .int .i64 0, .int .i64 0] 62)) w.heap.size (W : Int) (H : Int) A nl c 30 := Box.alloc (Box.alloc (Box.new w _ _) _) _
  have hX0 : SumB (((w.alloc (.cells #[.int .i64 (W : Int), .int .i64 (H : Int), .slice A nl c] 30)).alloc (.cells #[.int .i64 0, .int .i64 0, .int .i64 0, .int .i64 0] 62)).alloc (.cells #[.int .i64 0, .int .i64 0, .int .i64 0, .int .i64 0] 62)) (w.heap.size + 1) px0 := by
    refine Box.alloc ?_ _
    have := Box.new (w.alloc (.cells #[.int .i64 (W : Int), .int .i64 (H : Int), .slice A nl c] 30)) #[.int .i64 0, .int .i64 0, .int .i64 0, .int .i64 0] 62
    rw [show (w.alloc (.cells #[.int .i64 (W : Int), .int .i64 (H : Int), .slice A nl c] 30)).heap.size = w.heap.size + 1 from by simp] at this
    exact this
  have hS0 : SumB (((w.alloc (.cells #[.int .i64 (W : Int), .int .i64 (H : Int), .slice A nl c] 30)).alloc (.cells #[.int .i64 0, .int .i64 0, .int .i64 0, .int .i64 0] 62)).alloc (.cells #[.int .i64 0, .int .i64 0, .int .i64 0, .int .i64 0] 62)) (w.heap.size + 1 + 1) px0 := by
    have := Box.new ((w.alloc (.cells #[.int .i64 (W : Int), .int .i64 (H : Int), .slice A nl c] 30)).alloc (.cells #[.int .i64 0, .int .i64 0, .int .i64 0, .int .i64 0] 62)) #[.int .i64 0, .int .i64 0, .int .i64 0, .int .i64 0] 62
    rw [show ((w.alloc (.cells #[.int .i64 (W : Int), .int .i64 (H : Int), .slice A nl c] 30)).alloc (.cells #[.int .i64 0, .int .i64 0, .int .i64 0, .int .i64 0] 62)).heap.size = w.heap.size + 1 + 1 from by simp] at this
    exact this
  have HB0 := Lib.hid hb0
  have HR0 := Lib.hid hR0
  have HX0 := Lib.hid hX0
  have HS0 := Lib.hid hS0
  have HH := Lib.hid h
  clear hb0 hR0 hX0 hS0 h
  go_enter Tryd.func102, Tryd.ntmps102
  go_wp2_with fail
  generalize ((w.alloc (.cells #[.int .i64 (W : Int), .int .i64 (H : Int), .slice A nl c] 30)).alloc (.cells #[.int .i64 0, .int .i64 0, .int .i64 0, .int .i64 0] 62)).alloc (.cells #[.int .i64 0, .int .i64 0, .int .i64 0, .int .i64 0] 62) = w0 at *
  go_loopw [8, 9] (fun v i wr => ∃ m Y : Nat, m ≤ M ∧ Y = k + m ∧ i = .int .i64 (Y : Int) ∧ v = .int .i64 ((m * n : Nat) : Int) ∧ ∃ q : Px, q = sumBox fat j n k m ∧ Sums q (m * n) ∧ SumB wr (w.heap.size + 1 + 1) q ∧ SumB wr (w.heap.size + 1) px0 ∧ RasAtB wr w.heap.size (W : Int) (H : Int) A nl c 30 ∧ Below w.heap.size w wr) (fun _ i _ => ((k : Int) + (M : Int) - intOf i).toNat)
  case atStart => exact ⟨0, k, Nat.zero_le _, rfl, rfl, by simp, px0, rfl, by unfold Sums px0; simp, HS0.out, HX0.out, HR0.out, HB0.out⟩
  case round =>
    obtain ⟨m, Y, hm, hY, rfl, rfl, q, hq, hsum, hS, hX, hR, hbel⟩ := hrel
    by_cases hlt : m < M
    · have HQ := Lib.hid hq
      have HS := Lib.hid hS
      have HX := Lib.hid hX
      have HR := Lib.hid hR
      have HB := Lib.hid hbel
      have HSM := Lib.hid hsum
      have HY := Lib.hid hY
      have r0 := hR.c0
      have r1 := hR.c1
      have hkm : (Y : Int) ≤ (k : Int) + (M : Int) - 1 := by omega
      have hkm2 : (0 : Int) ≤ (Y : Int) ∧ (Y : Int) < 6 := by omega
      have hYH : Y < H := by omega
      obtain ⟨C, hC⟩ : ∃ C, m * n = C := ⟨_, rfl⟩
      have hC36 : C + n ≤ 36 := by
        have h1 : (m + 1) * n ≤ 6 * n := Nat.mul_le_mul_right n (by omega)
        rw [Nat.add_mul, hC] at h1
        omega
      have HCC := Lib.hid hC
      rw [hC] at HSM ⊢
      clear hq hS hX hR hbel hsum hY hC
      go_wp2_with fail
      go_loopw [8, 10] (fun v i wq => ∃ a X : Nat, a ≤ n ∧ X = j + a ∧ i = .int .i64 (X : Int) ∧ v = .int .i64 ((C + a : Nat) : Int) ∧ ∃ q' : Px, q' = sumRow (fun x => fat x Y) q j a ∧ Sums q' (C + a) ∧ SumB wq (w.heap.size + 1 + 1) q' ∧ SumB wq (w.heap.size + 1) px0 ∧ RasAtB wq w.heap.size (W : Int) (H : Int) A nl c 30 ∧ Below w.heap.size w wq) (fun _ i _ => ((j : Int) + (n : Int) - intOf i).toNat)
      case atStart => exact ⟨0, j, Nat.zero_le _, rfl, rfl, rfl, q, rfl, HSM.out, HS.out, HX.out, HR.out, HB.out⟩
      case round =>
        clear HSM HS HX HR HB r0 r1
        obtain ⟨a, X, ha, hXe, rfl, rfl, q', hq, hsum, hS, hX, hR, hbel⟩ := hrel
        by_cases hlta : a < n
        · have HQ' := Lib.hid hq
          have HS := Lib.hid hS
          have HX := Lib.hid hX
          have HR := Lib.hid hR
          have HB := Lib.hid hbel
          have HSM := Lib.hid hsum
          have r0 := hR.c0
          have r1 := hR.c1
          have r2 := hR.c2
          have hja : (X : Int) ≤ (j : Int) + (n : Int) - 1 := by omega
          have hja2 : (0 : Int) ≤ (X : Int) ∧ (X : Int) < 6 := by omega
          have hXW : X < W := by omega
          have CX := Lib.hid (CP.out X Y wr hXW hYH (HH.out.carry hbel (Nat.le_refl _) hbel.size))
          have hpx := HPX.out X Y hXW hYH
          have HPE : Hid (sumRow (fun x => fat x Y) q j (a + 1) = addP q' (fat X Y)) := Lib.hid (by rw [hq, hXe]; rfl)
          obtain ⟨p, hp⟩ : ∃ p, fat X Y = p := ⟨_, rfl⟩
          rw [hp] at CX hpx HPE
          have HSA := Lib.hid (hsum.add hpx)
          obtain ⟨p1, p2, p3, p4⟩ := pixB_parts hpx
          obtain ⟨s1, s2, s3, s4⟩ := hsum
          have hCa : C + a ≤ 36 := by omega
          have HXE := Lib.hid hXe
          clear hq hS hX hR hbel hp hXe hpx HSM
          go_wp2_with fail
          refine CX.out.mono ?_
          rintro e w2 ⟨rfl, b2⟩
          have hS2 : SumB w2 (w.heap.size + 1 + 1) q' := Box.next HS.out b2
          have HS2 := Lib.hid hS2
          have HX2 : Hid (SumB w2 (w.heap.size + 1) px0) := Lib.hid (Box.next HX.out b2)
          have HR2 : Hid (RasAtB w2 w.heap.size (W : Int) (H : Int) A nl c 30) := Lib.hid (Box.next HR.out b2)
          have HB2 := Lib.hid (HB.out.trans (b2.mono HB.out.size))
          have q0 := Box.cell hS2 (i := 0) rfl
          have q1 := Box.cell hS2 (i := 1) rfl
          have q2 := Box.cell hS2 (i := 2) rfl
          have q3 := Box.cell hS2 (i := 3) rfl
          have f0 := Box.free hS2 0
          have f1 := Box.free hS2 1
          have f2 := Box.free hS2 2
          have f3 := Box.free hS2 3
          have hlt2 := Box.lt hS2
          clear b2 hS2 r0 r1 r2
          go_wp2_with fail
          have k4 : Box ((((w2.setCell ⟨w.heap.size + 1 + 1, 0, none⟩ (.int .i64 (q'.r + p.r))).setCell ⟨w.heap.size + 1 + 1, 1, none⟩ (.int .i64 (q'.g + p.g))).setCell ⟨w.heap.size + 1 + 1, 2, none⟩ (.int .i64 (q'.b + p.b))).setCell ⟨w.heap.size + 1 + 1, 3, none⟩ (.int .i64 (q'.a + p.a))) (w.heap.size + 1 + 1) #[.int .i64 (q'.r + p.r), .int .i64 (q'.g + p.g), .int .i64 (q'.b + p.b), .int .i64 (q'.a + p.a)] 62 := fin4 HS2.out _ _ _ _
          have kx : Box ((((w2.setCell ⟨w.heap.size + 1 + 1, 0, none⟩ (.int .i64 (q'.r + p.r))).setCell ⟨w.heap.size + 1 + 1, 1, none⟩ (.int .i64 (q'.g + p.g))).setCell ⟨w.heap.size + 1 + 1, 2, none⟩ (.int .i64 (q'.b + p.b))).setCell ⟨w.heap.size + 1 + 1, 3, none⟩ (.int .i64 (q'.a + p.a))) (w.heap.size + 1) #[.int .i64 px0.r, .int .i64 px0.g, .int .i64 px0.b, .int .i64 px0.a] 62 := (Box.set_other (b := w.heap.size + 1 + 1) (Box.set_other (b := w.heap.size + 1 + 1) (Box.set_other (b := w.heap.size + 1 + 1) (Box.set_other (b := w.heap.size + 1 + 1) HX2.out (by omega) 0 _) (by omega) 1 _) (by omega) 2 _) (by omega) 3 _)
          have kr : Box ((((w2.setCell ⟨w.heap.size + 1 + 1, 0, none⟩ (.int .i64 (q'.r + p.r))).setCell ⟨w.heap.size + 1 + 1, 1, none⟩ (.int .i64 (q'.g + p.g))).setCell ⟨w.heap.size + 1 + 1, 2, none⟩ (.int .i64 (q'.b + p.b))).setCell ⟨w.heap.size + 1 + 1, 3, none⟩ (.int .i64 (q'.a + p.a))) w.heap.size #[.int .i64 (W : Int), .int .i64 (H : Int), .slice A nl c] 30 := (Box.set_other (b := w.heap.size + 1 + 1) (Box.set_other (b := w.heap.size + 1 + 1) (Box.set_other (b := w.heap.size + 1 + 1) (Box.set_other (b := w.heap.size + 1 + 1) HR2.out (by omega) 0 _) (by omega) 1 _) (by omega) 2 _) (by omega) 3 _)
          have kb : Below w.heap.size w ((((w2.setCell ⟨w.heap.size + 1 + 1, 0, none⟩ (.int .i64 (q'.r + p.r))).setCell ⟨w.heap.size + 1 + 1, 1, none⟩ (.int .i64 (q'.g + p.g))).setCell ⟨w.heap.size + 1 + 1, 2, none⟩ (.int .i64 (q'.b + p.b))).setCell ⟨w.heap.size + 1 + 1, 3, none⟩ (.int .i64 (q'.a + p.a))) := ((((HB2.out.setCell (p := ⟨w.heap.size + 1 + 1, 0, none⟩) (by simp; omega) _).setCell (p := ⟨w.heap.size + 1 + 1, 1, none⟩) (by simp; omega) _).setCell (p := ⟨w.heap.size + 1 + 1, 2, none⟩) (by simp; omega) _).setCell (p := ⟨w.heap.size + 1 + 1, 3, none⟩) (by simp; omega) _)
          refine ⟨⟨a + 1, X + 1, by omega, by rw [HXE.out]; omega, by go_num, by go_num, addP q' p, by rw [HPE.out], HSA.out, Box.alloc k4 _, Box.alloc kx _, Box.alloc kr _, kb.alloc kb.size _⟩, by simp [intOf]; omega⟩
        · obtain rfl : a = n := by omega
          have HS := Lib.hid hS
          have HX := Lib.hid hX
          have HR := Lib.hid hR
          have HB := Lib.hid hbel
          have HSM := Lib.hid hsum
          have HXE := Lib.hid hXe
          have r0 := hR.c0
          have hja : ¬ ((X : Int) ≤ (j : Int) + (a : Int) - 1) := by omega
          have hX6 : (0 : Int) ≤ (X : Int) ∧ (X : Int) ≤ 6 := by omega
          have HE : Hid (q' = sumBox fat j a k (m + 1)) := Lib.hid (by rw [hq, HQ.out, HY.out]; rfl)
          have HCE : Hid (C + a = (m + 1) * a) := Lib.hid (by rw [Nat.add_mul, Nat.one_mul, HCC.out])
          clear hq hS hX hR hbel hsum hXe
          go_wp2_with fail
          go_roundw
          case rel => exact ⟨m + 1, Y + 1, by omega, by rw [HY.out]; omega, by go_num, by rw [HCE.out], q', HE.out, by rw [← HCE.out]; exact HSM.out, HS.out, HX.out, HR.out, HB.out⟩
          case measure => simp [intOf]; omega
    · obtain rfl : m = M := by omega
      obtain ⟨N, hN⟩ : ∃ N, m * n = N := ⟨_, rfl⟩
      have hN1 : 1 ≤ N := by
        rw [← hN]
        exact Nat.mul_pos (by omega) (by omega)
      have hN36 : N ≤ 36 := by
        have h1 : m * n ≤ 6 * n := Nat.mul_le_mul_right n (by omega)
        rw [hN] at h1
        omega
      have hme := hG.out q hq
      rw [hN] at hsum hme ⊢
      obtain ⟨s1, s2, s3, s4⟩ := hsum
      have hNz : ¬ ((N : Int) = 0) := by omega
      have hNz2 : ¬ N = 0 := by omega
      obtain ⟨R, hRq⟩ : ∃ R, q.r / (N : Int) = R := ⟨_, rfl⟩
      have uR : q.r.tdiv (N : Int) = R := by rw [Int.tdiv_eq_ediv_of_nonneg s1.1]; exact hRq
      have bR : 0 ≤ R ∧ R ≤ 255 * (N : Int) := by
        rw [← hRq]
        exact ⟨Int.ediv_nonneg s1.1 (by omega), Int.le_trans (Int.ediv_le_self _ s1.1) s1.2⟩
      have wR := IntWalk.i64_in R (by omega)
      obtain ⟨G, hGq⟩ : ∃ G, q.g / (N : Int) = G := ⟨_, rfl⟩
      have uG : q.g.tdiv (N : Int) = G := by rw [Int.tdiv_eq_ediv_of_nonneg s2.1]; exact hGq
      have bG : 0 ≤ G ∧ G ≤ 255 * (N : Int) := by
        rw [← hGq]
        exact ⟨Int.ediv_nonneg s2.1 (by omega), Int.le_trans (Int.ediv_le_self _ s2.1) s2.2⟩
      have wG := IntWalk.i64_in G (by omega)
      obtain ⟨B, hBq⟩ : ∃ B, q.b / (N : Int) = B := ⟨_, rfl⟩
      have uB : q.b.tdiv (N : Int) = B := by rw [Int.tdiv_eq_ediv_of_nonneg s3.1]; exact hBq
      have bB : 0 ≤ B ∧ B ≤ 255 * (N : Int) := by
        rw [← hBq]
        exact ⟨Int.ediv_nonneg s3.1 (by omega), Int.le_trans (Int.ediv_le_self _ s3.1) s3.2⟩
      have wB := IntWalk.i64_in B (by omega)
      obtain ⟨E, hEq⟩ : ∃ E, q.a / (N : Int) = E := ⟨_, rfl⟩
      have uE : q.a.tdiv (N : Int) = E := by rw [Int.tdiv_eq_ediv_of_nonneg s4.1]; exact hEq
      have bE : 0 ≤ E ∧ E ≤ 255 * (N : Int) := by
        rw [← hEq]
        exact ⟨Int.ediv_nonneg s4.1 (by omega), Int.le_trans (Int.ediv_le_self _ s4.1) s4.2⟩
      have wE := IntWalk.i64_in E (by omega)
      rw [hRq, hGq, hBq, hEq] at hme
      subst hme
      have HSd : SumB wr.drew (w.heap.size + 1 + 1) q := Box.drew hS
      have HS := Lib.hid (⟨Box.cell HSd (i := 0) rfl, Box.cell HSd (i := 1) rfl, Box.cell HSd (i := 2) rfl, Box.cell HSd (i := 3) rfl⟩ : wr.drew.cell? ⟨w.heap.size + 1 + 1, 0, none⟩ = some (.int .i64 q.r) ∧ wr.drew.cell? ⟨w.heap.size + 1 + 1, 1, none⟩ = some (.int .i64 q.g) ∧ wr.drew.cell? ⟨w.heap.size + 1 + 1, 2, none⟩ = some (.int .i64 q.b) ∧ wr.drew.cell? ⟨w.heap.size + 1 + 1, 3, none⟩ = some (.int .i64 q.a))
      have HXd : Hid (SumB wr.drew (w.heap.size + 1) px0) := Lib.hid (Box.drew hX)
      have HBd := Lib.hid (below_draws hbel 1)
      have hxd : SumB wr (w.heap.size + 1) px0 := hX
      have q0 := Box.cell hxd (i := 0) rfl
      have q1 := Box.cell hxd (i := 1) rfl
      have q2 := Box.cell hxd (i := 2) rfl
      have q3 := Box.cell hxd (i := 3) rfl
      have f0 := Box.free hxd 0
      have f1 := Box.free hxd 1
      have f2 := Box.free hxd 2
      have f3 := Box.free hxd 3
      have r1 := hR.c1
      have hkm : ¬ ((Y : Int) ≤ (k : Int) + (m : Int) - 1) := by omega
      have hk6 : (0 : Int) ≤ (Y : Int) ∧ (Y : Int) ≤ 6 := by omega
      clear hq hN hS hX hR hbel HSd hY hxd hRq hGq hBq hEq s1 s2 s3 s4 bR bG bB bE
      go_wp2_with fail
      refine wp_region_T (fun w' => w'.cell? ⟨w.heap.size + 1 + 1, 0, none⟩ = some (.int .i64 q.r) ∧ w'.cell? ⟨w.heap.size + 1 + 1, 1, none⟩ = some (.int .i64 q.g) ∧ w'.cell? ⟨w.heap.size + 1 + 1, 2, none⟩ = some (.int .i64 q.b) ∧ w'.cell? ⟨w.heap.size + 1 + 1, 3, none⟩ = some (.int .i64 q.a)) 17 (by kernel_rfl) ?_
      refine wpAnyT_take (i := 0) (d := 65) (v := .pointer (some ⟨w.heap.size + 1 + 1, 0, none⟩)) rfl rfl (by kernel_rfl) (by kernel_rfl) (by kernel_rfl) (by kernel_rfl) (by kernel_rfl) (fun _ _ _ h => h) HS.out (Or.inl ⟨by rfl, fun w' hS' => ?_⟩) ?_
      · obtain ⟨s0, s1, s2, s3⟩ := hS'
        go_simp
      simp only [Act.put, List.setIfInBounds_toArray, List.set_cons_zero, List.set_cons_succ]
      refine wpAnyT_take (i := 1) (d := 66) (v := .int .i64 q.r) rfl rfl (by kernel_rfl) (by kernel_rfl) (by kernel_rfl) (by kernel_rfl) (by kernel_rfl) (fun _ _ _ h => h) HS.out (Or.inl ⟨by rfl, fun w' hS' => ?_⟩) ?_
      · obtain ⟨s0, s1, s2, s3⟩ := hS'
        go_simp
      simp only [Act.put, List.setIfInBounds_toArray, List.set_cons_zero, List.set_cons_succ]
      refine wpAnyT_take (i := 2) (d := 67) (v := .int .i64 (N : Int)) rfl rfl (by kernel_rfl) (by kernel_rfl) (by kernel_rfl) (by kernel_rfl) (by kernel_rfl) (fun _ _ _ h => h) HS.out (Or.inl ⟨by rfl, fun w' hS' => ?_⟩) ?_
      · obtain ⟨s0, s1, s2, s3⟩ := hS'
        go_simp
      simp only [Act.put, List.setIfInBounds_toArray, List.set_cons_zero, List.set_cons_succ]
      refine wpAnyT_take (i := 3) (d := 68) (v := .int .i64 R) rfl rfl (by kernel_rfl) (by kernel_rfl) (by kernel_rfl) (by kernel_rfl) (by kernel_rfl) (fun _ _ _ h => h) HS.out (Or.inl ⟨by rfl, fun w' hS' => ?_⟩) ?_
      · obtain ⟨s0, s1, s2, s3⟩ := hS'
        go_simp
      simp only [Act.put, List.setIfInBounds_toArray, List.set_cons_zero, List.set_cons_succ]
      refine wpAnyT_take (i := 4) (d := 69) (v := .pointer (some ⟨w.heap.size + 1 + 1, 1, none⟩)) rfl rfl (by kernel_rfl) (by kernel_rfl) (by kernel_rfl) (by kernel_rfl) (by kernel_rfl) (fun _ _ _ h => h) HS.out (Or.inl ⟨by rfl, fun w' hS' => ?_⟩) ?_
      · obtain ⟨s0, s1, s2, s3⟩ := hS'
        go_simp
      simp only [Act.put, List.setIfInBounds_toArray, List.set_cons_zero, List.set_cons_succ]
      refine wpAnyT_take (i := 5) (d := 70) (v := .int .i64 q.g) rfl rfl (by kernel_rfl) (by kernel_rfl) (by kernel_rfl) (by kernel_rfl) (by kernel_rfl) (fun _ _ _ h => h) HS.out (Or.inl ⟨by rfl, fun w' hS' => ?_⟩) ?_
      · obtain ⟨s0, s1, s2, s3⟩ := hS'
        go_simp
      simp only [Act.put, List.setIfInBounds_toArray, List.set_cons_zero, List.set_cons_succ]
      refine wpAnyT_take (i := 6) (d := 71) (v := .int .i64 (N : Int)) rfl rfl (by kernel_rfl) (by kernel_rfl) (by kernel_rfl) (by kernel_rfl) (by kernel_rfl) (fun _ _ _ h => h) HS.out (Or.inl ⟨by rfl, fun w' hS' => ?_⟩) ?_
      · obtain ⟨s0, s1, s2, s3⟩ := hS'
        go_simp
      simp only [Act.put, List.setIfInBounds_toArray, List.set_cons_zero, List.set_cons_succ]
      refine wpAnyT_take (i := 7) (d := 72) (v := .int .i64 G) rfl rfl (by kernel_rfl) (by kernel_rfl) (by kernel_rfl) (by kernel_rfl) (by kernel_rfl) (fun _ _ _ h => h) HS.out (Or.inl ⟨by rfl, fun w' hS' => ?_⟩) ?_
      · obtain ⟨s0, s1, s2, s3⟩ := hS'
        go_simp
      simp only [Act.put, List.setIfInBounds_toArray, List.set_cons_zero, List.set_cons_succ]
      refine wpAnyT_take (i := 8) (d := 73) (v := .pointer (some ⟨w.heap.size + 1 + 1, 2, none⟩)) rfl rfl (by kernel_rfl) (by kernel_rfl) (by kernel_rfl) (by kernel_rfl) (by kernel_rfl) (fun _ _ _ h => h) HS.out (Or.inl ⟨by rfl, fun w' hS' => ?_⟩) ?_
      · obtain ⟨s0, s1, s2, s3⟩ := hS'
        go_simp
      simp only [Act.put, List.setIfInBounds_toArray, List.set_cons_zero, List.set_cons_succ]
      refine wpAnyT_take (i := 9) (d := 74) (v := .int .i64 q.b) rfl rfl (by kernel_rfl) (by kernel_rfl) (by kernel_rfl) (by kernel_rfl) (by kernel_rfl) (fun _ _ _ h => h) HS.out (Or.inl ⟨by rfl, fun w' hS' => ?_⟩) ?_
      · obtain ⟨s0, s1, s2, s3⟩ := hS'
        go_simp
      simp only [Act.put, List.setIfInBounds_toArray, List.set_cons_zero, List.set_cons_succ]
      refine wpAnyT_take (i := 10) (d := 75) (v := .int .i64 (N : Int)) rfl rfl (by kernel_rfl) (by kernel_rfl) (by kernel_rfl) (by kernel_rfl) (by kernel_rfl) (fun _ _ _ h => h) HS.out (Or.inl ⟨by rfl, fun w' hS' => ?_⟩) ?_
      · obtain ⟨s0, s1, s2, s3⟩ := hS'
        go_simp
      simp only [Act.put, List.setIfInBounds_toArray, List.set_cons_zero, List.set_cons_succ]
      refine wpAnyT_take (i := 11) (d := 76) (v := .int .i64 B) rfl rfl (by kernel_rfl) (by kernel_rfl) (by kernel_rfl) (by kernel_rfl) (by kernel_rfl) (fun _ _ _ h => h) HS.out (Or.inl ⟨by rfl, fun w' hS' => ?_⟩) ?_
      · obtain ⟨s0, s1, s2, s3⟩ := hS'
        go_simp
      simp only [Act.put, List.setIfInBounds_toArray, List.set_cons_zero, List.set_cons_succ]
      refine wpAnyT_take (i := 12) (d := 77) (v := .pointer (some ⟨w.heap.size + 1 + 1, 3, none⟩)) rfl rfl (by kernel_rfl) (by kernel_rfl) (by kernel_rfl) (by kernel_rfl) (by kernel_rfl) (fun _ _ _ h => h) HS.out (Or.inl ⟨by rfl, fun w' hS' => ?_⟩) ?_
      · obtain ⟨s0, s1, s2, s3⟩ := hS'
        go_simp
      simp only [Act.put, List.setIfInBounds_toArray, List.set_cons_zero, List.set_cons_succ]
      refine wpAnyT_take (i := 13) (d := 78) (v := .int .i64 q.a) rfl rfl (by kernel_rfl) (by kernel_rfl) (by kernel_rfl) (by kernel_rfl) (by kernel_rfl) (fun _ _ _ h => h) HS.out (Or.inl ⟨by rfl, fun w' hS' => ?_⟩) ?_
      · obtain ⟨s0, s1, s2, s3⟩ := hS'
        go_simp
      simp only [Act.put, List.setIfInBounds_toArray, List.set_cons_zero, List.set_cons_succ]
      refine wpAnyT_take (i := 14) (d := 79) (v := .int .i64 (N : Int)) rfl rfl (by kernel_rfl) (by kernel_rfl) (by kernel_rfl) (by kernel_rfl) (by kernel_rfl) (fun _ _ _ h => h) HS.out (Or.inl ⟨by rfl, fun w' hS' => ?_⟩) ?_
      · obtain ⟨s0, s1, s2, s3⟩ := hS'
        go_simp
      simp only [Act.put, List.setIfInBounds_toArray, List.set_cons_zero, List.set_cons_succ]
      refine wpAnyT_take (i := 15) (d := 80) (v := .int .i64 E) rfl rfl (by kernel_rfl) (by kernel_rfl) (by kernel_rfl) (by kernel_rfl) (by kernel_rfl) (fun _ _ _ h => h) HS.out (Or.inl ⟨by rfl, fun w' hS' => ?_⟩) ?_
      · obtain ⟨s0, s1, s2, s3⟩ := hS'
        go_simp
      simp only [Act.put, List.setIfInBounds_toArray, List.set_cons_zero, List.set_cons_succ]
      refine wpAnyT_take (i := 16) (d := 81) (v := .agg #[.int .i64 R, .int .i64 G, .int .i64 B, .int .i64 E]) rfl rfl (by kernel_rfl) (by kernel_rfl) (by kernel_rfl) (by kernel_rfl) (by kernel_rfl) (fun _ _ _ h => h) HS.out (Or.inl ⟨by rfl, fun w' hS' => ?_⟩) ?_
      · obtain ⟨s0, s1, s2, s3⟩ := hS'
        go_simp
      simp only [Act.put, List.setIfInBounds_toArray, List.set_cons_zero, List.set_cons_succ]
      refine wpAnyT_one (i := 17) (by kernel_rfl) rfl (fun K hK => ?_)
      go_simp
      refine hK.out _ _ last_out ?_
      clear hK
      refine wpAnyT_done (by kernel_rfl) ?_ _
      go_wp2_with fail
      (try simp only [Exit.inBlock, Exit.then])
      refine bodyPost_ret (results_cell_row rfl _ _ (w.heap.size + 1) 62 #[.int .i64 R, .int .i64 G, .int .i64 B, .int .i64 E] (0, 0) _ rfl (fin4 HXd.out _ _ _ _) Tryd.underlying62 rfl (by kernel_rfl)) rfl ?_
      exact ⟨rfl, below_px HBd.out (by omega) _ _ _ _⟩
end Go.Proofs.YtiemlakjallphabDoor
