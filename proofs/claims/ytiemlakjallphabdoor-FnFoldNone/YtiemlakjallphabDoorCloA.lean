/-
  sizeStep's and pixelStep's closures of the program, that know a pixel of a new raster. Conditions: the elder is one, its pixels lie in memory that was there, what the closures captured lies in boxes.
-/
import Derived.Test.YtiemlakjallphabDoorCloP
import Derived.Test.YtiemlakjallphabDoorOpO
import Derived.Deep.RegionHeld3
import Derived.Test.YtiemlakjallphabDoorRegT
namespace Go.Proofs.YtiemlakjallphabDoor
set_option maxRecDepth 4000
open Go.RowKit

set_option maxHeartbeats 1000000 in
theorem cropPx_any (r : Ra) (A : Option Addr) (c : Nat) (o : Op) (a b gO : Nat) (x y gR : Nat) (w : World) (hr : r.ok) (hc : r.p.length ≤ c) (h : HasP w w.heap.size A r.p) (hR : RasAtB w gR r.w r.h A r.p.length c 30) (hO : OpAtB w gO o) (ha : o.a = (a : Int)) (hb : o.b = (b : Int)) (hx : a + x < r.w) (hy : b + y < r.h) :
    Calls Tryd.prog 90 #[.int .i64 (x : Int), .int .i64 (y : Int), .pointer (some ⟨gR, 0, none⟩), .pointer (some ⟨gO, 0, none⟩)] w fun e w' => e = .returned (r.at (a + x) (b + y)).v ∧ Below w.heap.size w w' := by
  have hb0 : Below w.heap.size w (w.alloc (.cells #[.int .i64 0, .int .i64 0, .int .i64 0, .int .i64 0] 62)) := (Below.refl _ w).alloc (Nat.le_refl _) _
  have hx0 : Box (w.alloc (.cells #[.int .i64 0, .int .i64 0, .int .i64 0, .int .i64 0] 62)) w.heap.size #[.int .i64 0, .int .i64 0, .int .i64 0, .int .i64 0] 62 := Box.new w _ _
  have hR0 := Box.alloc hR (.cells #[.int .i64 0, .int .i64 0, .int .i64 0, .int .i64 0] 62)
  have hO0 := Box.alloc hO (.cells #[.int .i64 0, .int .i64 0, .int .i64 0, .int .i64 0] 62)
  have o1 := Box.cell hO0 (i := 1) rfl
  have o2 := Box.cell hO0 (i := 2) rfl
  have h6 := hr.parts.1
  have h7 := hr.parts.2.1
  rw [ha] at o1
  rw [hb] at o2
  obtain ⟨X, hX⟩ : ∃ X, a + x = X := ⟨_, rfl⟩
  obtain ⟨Y, hY⟩ : ∃ Y, b + y = Y := ⟨_, rfl⟩
  rw [hX] at hx ⊢
  rw [hY] at hy ⊢
  have u1 : (a : Int) + (x : Int) = (X : Int) := by omega
  have u2 : (b : Int) + (y : Int) = (Y : Int) := by omega
  have b1 : a ≤ 6 := by omega
  have b2 : b ≤ 6 := by omega
  clear hO0 hO ha hb
  have CP := Lib.hid (pixelAt_any r A c X Y _ hr (by omega) (by omega) hc (h.carry hb0 (Nat.le_refl _) hb0.size))
  obtain ⟨p, hp⟩ : ∃ p, r.at X Y = p := ⟨_, rfl⟩
  rw [hp] at CP ⊢
  unfold raV rasV Px.v at CP
  unfold Px.v
  have c0 := Box.cell hR0 (i := 0) rfl
  have c1 := Box.cell hR0 (i := 1) rfl
  have c2 := Box.cell hR0 (i := 2) rfl
  have HB0 := Lib.hid hb0
  have HX0 := Lib.hid hx0
  clear hb0 hx0 hR0 hR h hp hr hc
  go_enter Tryd.func90, Tryd.ntmps90
  go_wp2_with fail
  refine CP.out.mono ?_
  rintro e w2 ⟨rfl, b2⟩
  have HXn := Lib.hid (HX0.out.below b2 HX0.out.lt)
  have HBn := Lib.hid (HB0.out.trans (b2.mono HB0.out.size))
  clear b2
  have q0 := HXn.out.cell (i := 0) rfl
  have q1 := HXn.out.cell (i := 1) rfl
  have q2 := HXn.out.cell (i := 2) rfl
  have q3 := HXn.out.cell (i := 3) rfl
  have f0 := HXn.out.free 0
  have f1 := HXn.out.free 1
  have f2 := HXn.out.free 2
  have f3 := HXn.out.free 3
  go_wp2_with fail
  (try simp only [Exit.inBlock, Exit.then])
  refine bodyPost_ret (results_cell_row rfl _ _ w.heap.size 62 #[.int .i64 p.r, .int .i64 p.g, .int .i64 p.b, .int .i64 p.a] (0, 0) _ rfl (fin_px HXn.out p) Tryd.underlying62 rfl (by kernel_rfl)) rfl ?_
  exact ⟨rfl, below_px HBn.out (Nat.le_refl _) _ _ _ _⟩
set_option maxHeartbeats 1000000 in
theorem flipXPx_any (r : Ra) (A : Option Addr) (c : Nat)  (x y gR : Nat) (w : World) (hr : r.ok) (hc : r.p.length ≤ c) (h : HasP w w.heap.size A r.p) (hR : RasAtB w gR r.w r.h A r.p.length c 30) (hx : x < r.w) (hy : y < r.h) :
    Calls Tryd.prog 93 #[.int .i64 (x : Int), .int .i64 (y : Int), .pointer (some ⟨gR, 0, none⟩)] w fun e w' => e = .returned (r.at (r.w - 1 - x) y).v ∧ Below w.heap.size w w' := by
  have hb0 : Below w.heap.size w (w.alloc (.cells #[.int .i64 0, .int .i64 0, .int .i64 0, .int .i64 0] 62)) := (Below.refl _ w).alloc (Nat.le_refl _) _
  have hx0 : Box (w.alloc (.cells #[.int .i64 0, .int .i64 0, .int .i64 0, .int .i64 0] 62)) w.heap.size #[.int .i64 0, .int .i64 0, .int .i64 0, .int .i64 0] 62 := Box.new w _ _
  have hR0 := Box.alloc hR (.cells #[.int .i64 0, .int .i64 0, .int .i64 0, .int .i64 0] 62)
  have h6 := hr.parts.1
  have h7 := hr.parts.2.1
  have u1 : (r.w : Int) - 1 - (x : Int) = ((r.w - 1 - x : Nat) : Int) := by omega
  have CP := Lib.hid (pixelAt_any r A c (r.w - 1 - x) y _ hr (by omega) (by omega) hc (h.carry hb0 (Nat.le_refl _) hb0.size))
  obtain ⟨p, hp⟩ : ∃ p, r.at (r.w - 1 - x) y = p := ⟨_, rfl⟩
  rw [hp] at CP ⊢
  unfold raV rasV Px.v at CP
  unfold Px.v
  have c0 := Box.cell hR0 (i := 0) rfl
  have c1 := Box.cell hR0 (i := 1) rfl
  have c2 := Box.cell hR0 (i := 2) rfl
  have HB0 := Lib.hid hb0
  have HX0 := Lib.hid hx0
  clear hb0 hx0 hR0 hR h hp hr hc
  go_enter Tryd.func93, Tryd.ntmps93
  go_wp2_with fail
  refine CP.out.mono ?_
  rintro e w2 ⟨rfl, b2⟩
  have HXn := Lib.hid (HX0.out.below b2 HX0.out.lt)
  have HBn := Lib.hid (HB0.out.trans (b2.mono HB0.out.size))
  clear b2
  have q0 := HXn.out.cell (i := 0) rfl
  have q1 := HXn.out.cell (i := 1) rfl
  have q2 := HXn.out.cell (i := 2) rfl
  have q3 := HXn.out.cell (i := 3) rfl
  have f0 := HXn.out.free 0
  have f1 := HXn.out.free 1
  have f2 := HXn.out.free 2
  have f3 := HXn.out.free 3
  go_wp2_with fail
  (try simp only [Exit.inBlock, Exit.then])
  refine bodyPost_ret (results_cell_row rfl _ _ w.heap.size 62 #[.int .i64 p.r, .int .i64 p.g, .int .i64 p.b, .int .i64 p.a] (0, 0) _ rfl (fin_px HXn.out p) Tryd.underlying62 rfl (by kernel_rfl)) rfl ?_
  exact ⟨rfl, below_px HBn.out (Nat.le_refl _) _ _ _ _⟩
set_option maxHeartbeats 1000000 in
theorem turnPx_any (r : Ra) (A : Option Addr) (c : Nat)  (x y gR : Nat) (w : World) (hr : r.ok) (hc : r.p.length ≤ c) (h : HasP w w.heap.size A r.p) (hR : RasAtB w gR r.w r.h A r.p.length c 30) (hx : x < r.h) (hy : y < r.w) :
    Calls Tryd.prog 97 #[.int .i64 (x : Int), .int .i64 (y : Int), .pointer (some ⟨gR, 0, none⟩)] w fun e w' => e = .returned (r.at y (r.h - 1 - x)).v ∧ Below w.heap.size w w' := by
  have hb0 : Below w.heap.size w (w.alloc (.cells #[.int .i64 0, .int .i64 0, .int .i64 0, .int .i64 0] 62)) := (Below.refl _ w).alloc (Nat.le_refl _) _
  have hx0 : Box (w.alloc (.cells #[.int .i64 0, .int .i64 0, .int .i64 0, .int .i64 0] 62)) w.heap.size #[.int .i64 0, .int .i64 0, .int .i64 0, .int .i64 0] 62 := Box.new w _ _
  have hR0 := Box.alloc hR (.cells #[.int .i64 0, .int .i64 0, .int .i64 0, .int .i64 0] 62)
  have h6 := hr.parts.1
  have h7 := hr.parts.2.1
  have u1 : (r.h : Int) - 1 - (x : Int) = ((r.h - 1 - x : Nat) : Int) := by omega
  have CP := Lib.hid (pixelAt_any r A c y (r.h - 1 - x) _ hr (by omega) (by omega) hc (h.carry hb0 (Nat.le_refl _) hb0.size))
  obtain ⟨p, hp⟩ : ∃ p, r.at y (r.h - 1 - x) = p := ⟨_, rfl⟩
  rw [hp] at CP ⊢
  unfold raV rasV Px.v at CP
  unfold Px.v
  have c0 := Box.cell hR0 (i := 0) rfl
  have c1 := Box.cell hR0 (i := 1) rfl
  have c2 := Box.cell hR0 (i := 2) rfl
  have HB0 := Lib.hid hb0
  have HX0 := Lib.hid hx0
  clear hb0 hx0 hR0 hR h hp hr hc
  go_enter Tryd.func97, Tryd.ntmps97
  go_wp2_with fail
  refine CP.out.mono ?_
  rintro e w2 ⟨rfl, b2⟩
  have HXn := Lib.hid (HX0.out.below b2 HX0.out.lt)
  have HBn := Lib.hid (HB0.out.trans (b2.mono HB0.out.size))
  clear b2
  have q0 := HXn.out.cell (i := 0) rfl
  have q1 := HXn.out.cell (i := 1) rfl
  have q2 := HXn.out.cell (i := 2) rfl
  have q3 := HXn.out.cell (i := 3) rfl
  have f0 := HXn.out.free 0
  have f1 := HXn.out.free 1
  have f2 := HXn.out.free 2
  have f3 := HXn.out.free 3
  go_wp2_with fail
  (try simp only [Exit.inBlock, Exit.then])
  refine bodyPost_ret (results_cell_row rfl _ _ w.heap.size 62 #[.int .i64 p.r, .int .i64 p.g, .int .i64 p.b, .int .i64 p.a] (0, 0) _ rfl (fin_px HXn.out p) Tryd.underlying62 rfl (by kernel_rfl)) rfl ?_
  exact ⟨rfl, below_px HBn.out (Nat.le_refl _) _ _ _ _⟩
end Go.Proofs.YtiemlakjallphabDoor
namespace Go.Proofs.YtiemlakjallphabDoor
set_option maxRecDepth 4000
open Go.RowKit

theorem fin4 {W : World} {R : Nat} {t : TypeId} {a b c d : Value} (h : Box W R #[a, b, c, d] t) (x y z u : Value) : Box ((((W.setCell ⟨R, 0, none⟩ x).setCell ⟨R, 1, none⟩ y).setCell ⟨R, 2, none⟩ z).setCell ⟨R, 3, none⟩ u) R #[x, y, z, u] t := by
  have := (((h.set 0 x).set 1 y).set 2 z).set 3 u
  simpa using this
set_option maxHeartbeats 400000 in
theorem grayOne_any (p : Px) (w : World) (hp : pixB p = true) : Calls Tryd.prog 99 #[p.v] w fun e w' => e = .returned (grayP p).v ∧ Below w.heap.size w w' := by
  obtain ⟨h1, h2, h3, h4⟩ := pixB_parts hp
  obtain ⟨r, g, b, a⟩ := p
  simp only at h1 h2 h3 h4
  obtain ⟨N, hN⟩ : ∃ N, (77 * r + 150 * g + 29 * b) / 256 = N := ⟨_, rfl⟩
  have hT : (77 * r + 150 * g + 29 * b).tdiv 256 = N := by rw [Int.tdiv_eq_ediv_of_nonneg (by omega)]; exact hN
  have hG : grayP ⟨r, g, b, a⟩ = ⟨N, N, N, a⟩ := by unfold grayP; simp only [hN]
  rw [hG]
  clear hG
  unfold Px.v
  simp only
  have box2 : ∀ (x y z t : Value) (s : Array Value), Box ((w.alloc (.cells s 62)).alloc (.cells #[x, y, z, t] 62)) (w.heap.size + 1) #[x, y, z, t] 62 := fun x y z t s => by
    have := Box.new (w.alloc (.cells s 62)) #[x, y, z, t] 62
    rw [show (w.alloc (.cells s 62)).heap.size = w.heap.size + 1 from by simp] at this
    exact this
  have HX0 := Lib.hid (box2 (.int .i64 N) (.int .i64 N) (.int .i64 N) (.int .i64 a) #[.int .i64 r, .int .i64 g, .int .i64 b, .int .i64 a])
  have HB0 : Hid (Below w.heap.size w ((w.alloc (.cells #[.int .i64 r, .int .i64 g, .int .i64 b, .int .i64 a] 62)).alloc (.cells #[.int .i64 N, .int .i64 N, .int .i64 N, .int .i64 a] 62))) := Lib.hid (((Below.refl _ w).alloc (Nat.le_refl _) _).alloc (by simp) _)
  clear box2 hp
  go_enter Tryd.func99, Tryd.ntmps99
  go_wp2_with fail
  generalize (w.alloc (.cells #[.int .i64 r, .int .i64 g, .int .i64 b, .int .i64 a] 62)).alloc (.cells #[.int .i64 N, .int .i64 N, .int .i64 N, .int .i64 a] 62) = w0 at *
  (try simp only [Exit.inBlock, Exit.then])
  refine bodyPost_ret (results_cell_row rfl _ _ (w.heap.size + 1) 62 #[.int .i64 N, .int .i64 N, .int .i64 N, .int .i64 a] (0, 0) _ rfl HX0.out Tryd.underlying62 rfl (by kernel_rfl)) rfl ?_
  exact ⟨rfl, HB0.out⟩
end Go.Proofs.YtiemlakjallphabDoor
namespace Go.Proofs.YtiemlakjallphabDoor
set_option maxRecDepth 4000
open Go.RowKit

set_option maxHeartbeats 400000 in
theorem flatOver_any (p : Px) (n k : Int) (g : Nat) (w : World) (hp : 0 ≤ p.a ∧ p.a ≤ 255) (hn : 0 ≤ n ∧ n ≤ 255) (hk : 0 ≤ k ∧ k ≤ 255) (hx : Box w g #[.int .i64 p.r, .int .i64 p.g, .int .i64 p.b, .int .i64 p.a] 62) :
    Calls Tryd.prog 106 #[.int .i64 n, .int .i64 k, .pointer (some ⟨g, 0, none⟩)] w fun e w' => e = .returned (.int .i64 ((n * p.a + k * (255 - p.a)) / 255)) ∧ w' = w := by
  obtain ⟨a, ha⟩ : ∃ a, p.a = a := ⟨_, rfl⟩
  rw [ha] at hp hx ⊢
  have q3 := hx.cell (i := 3) rfl
  have m1 : 0 ≤ n * a ∧ n * a ≤ 255 * 255 := ⟨Int.mul_nonneg hn.1 hp.1, Int.mul_le_mul hn.2 hp.2 hp.1 (by decide)⟩
  have m2 : 0 ≤ k * (255 - a) ∧ k * (255 - a) ≤ 255 * 255 := ⟨Int.mul_nonneg hk.1 (by omega), Int.mul_le_mul hk.2 (by omega) (by omega) (by decide)⟩
  obtain ⟨S, hS⟩ : ∃ S, n * a = S := ⟨_, rfl⟩
  obtain ⟨T, hT⟩ : ∃ T, k * (255 - a) = T := ⟨_, rfl⟩
  rw [hS] at m1 ⊢
  rw [hT] at m2 ⊢
  obtain ⟨N, hN⟩ : ∃ N, (S + T) / 255 = N := ⟨_, rfl⟩
  have hD : (S + T).tdiv 255 = N := by rw [Int.tdiv_eq_ediv_of_nonneg (by omega)]; exact hN
  rw [hN]
  clear hx ha
  go_enter Tryd.func106, Tryd.ntmps106
  go_wp2_with fail
  go_ret
  exact ⟨rfl, rfl⟩
end Go.Proofs.YtiemlakjallphabDoor
namespace Go.Proofs.YtiemlakjallphabDoor
set_option maxRecDepth 4000
open Go.RowKit

set_option maxHeartbeats 4000000 in
theorem flatOne_any (p : Px) (o : Op) (gO : Nat) (w : World) (hp : pixB p = true) (ha : 0 ≤ o.a ∧ o.a ≤ 255) (hb : 0 ≤ o.b ∧ o.b ≤ 255) (hc : 0 ≤ o.c ∧ o.c ≤ 255) (hO : OpAtB w gO o) :
    Calls Tryd.prog 105 #[p.v, .pointer (some ⟨gO, 0, none⟩)] w fun e w' => e = .returned (flatP1 o p).v ∧ Below w.heap.size w w' := by
  obtain ⟨h1, h2, h3, h4⟩ := pixB_parts hp
  have hG : Hid (flatP1 o p = ⟨(p.r * p.a + o.a * (255 - p.a)) / 255, (p.g * p.a + o.b * (255 - p.a)) / 255, (p.b * p.a + o.c * (255 - p.a)) / 255, 255⟩) := Lib.hid rfl
  have C1 := Lib.hid fun g W hx => flatOver_any p p.r o.a g W h4 h1 ha hx
  have C2 := Lib.hid fun g W hx => flatOver_any p p.g o.b g W h4 h2 hb hx
  have C3 := Lib.hid fun g W hx => flatOver_any p p.b o.c g W h4 h3 hc hx
  generalize (p.r * p.a + o.a * (255 - p.a)) / 255 = R at *
  generalize (p.g * p.a + o.b * (255 - p.a)) / 255 = G at *
  generalize (p.b * p.a + o.c * (255 - p.a)) / 255 = B at *
  unfold Px.v
  have hb0 : Below w.heap.size w ((w.alloc (.cells #[.int .i64 p.r, .int .i64 p.g, .int .i64 p.b, .int .i64 p.a] 62)).alloc (.cells #[.int .i64 0, .int .i64 0, .int .i64 0, .int .i64 0] 62)) := ((Below.refl _ w).alloc (Nat.le_refl _) _).alloc (by simp) _
  have hx0 : Box ((w.alloc (.cells #[.int .i64 p.r, .int .i64 p.g, .int .i64 p.b, .int .i64 p.a] 62)).alloc (.cells #[.int .i64 0, .int .i64 0, .int .i64 0, .int .i64 0] 62)) (w.heap.size + 1) #[.int .i64 0, .int .i64 0, .int .i64 0, .int .i64 0] 62 := by
    have := Box.new (w.alloc (.cells #[.int .i64 p.r, .int .i64 p.g, .int .i64 p.b, .int .i64 p.a] 62)) #[.int .i64 0, .int .i64 0, .int .i64 0, .int .i64 0] 62
    rw [show (w.alloc (.cells #[.int .i64 p.r, .int .i64 p.g, .int .i64 p.b, .int .i64 p.a] 62)).heap.size = w.heap.size + 1 from by simp] at this
    exact this
  have hp0 : Box ((w.alloc (.cells #[.int .i64 p.r, .int .i64 p.g, .int .i64 p.b, .int .i64 p.a] 62)).alloc (.cells #[.int .i64 0, .int .i64 0, .int .i64 0, .int .i64 0] 62)) w.heap.size #[.int .i64 p.r, .int .i64 p.g, .int .i64 p.b, .int .i64 p.a] 62 := Box.alloc (Box.new w _ _) _
  have hO0 : OpAtB ((w.alloc (.cells #[.int .i64 p.r, .int .i64 p.g, .int .i64 p.b, .int .i64 p.a] 62)).alloc (.cells #[.int .i64 0, .int .i64 0, .int .i64 0, .int .i64 0] 62)) gO o := Box.alloc (Box.alloc hO _) _
  have HB0 := Lib.hid hb0
  have HX0 := Lib.hid hx0
  have HP0 := Lib.hid hp0
  have HO0 := Lib.hid hO0
  clear hb0 hx0 hp0 hO0 hp hO ha hb hc h1 h2 h3 h4
  go_enter Tryd.func105, Tryd.ntmps105
  go_wp2_with fail
  generalize (w.alloc (.cells #[.int .i64 p.r, .int .i64 p.g, .int .i64 p.b, .int .i64 p.a] 62)).alloc (.cells #[.int .i64 0, .int .i64 0, .int .i64 0, .int .i64 0] 62) = w0 at *
  have e0 := HP0.out.cell (i := 0) rfl
  have e1 := HP0.out.cell (i := 1) rfl
  have e2 := HP0.out.cell (i := 2) rfl
  obtain ⟨-, g1, g2, g3, -⟩ := HO0.out.cs
  have q0 := HX0.out.cell (i := 0) rfl
  have q1 := HX0.out.cell (i := 1) rfl
  have q2 := HX0.out.cell (i := 2) rfl
  have q3 := HX0.out.cell (i := 3) rfl
  have f0 := HX0.out.free 0
  have f1 := HX0.out.free 1
  have f2 := HX0.out.free 2
  have f3 := HX0.out.free 3
  have HS : Hid (w0.drew.cell? ⟨w.heap.size, 0, none⟩ = some (.int .i64 p.r) ∧ w0.drew.cell? ⟨w.heap.size, 1, none⟩ = some (.int .i64 p.g) ∧ w0.drew.cell? ⟨w.heap.size, 2, none⟩ = some (.int .i64 p.b) ∧ w0.drew.cell? ⟨gO, 1, none⟩ = some (.int .i64 o.a) ∧ w0.drew.cell? ⟨gO, 2, none⟩ = some (.int .i64 o.b) ∧ w0.drew.cell? ⟨gO, 3, none⟩ = some (.int .i64 o.c)) := Lib.hid ⟨e0, e1, e2, g1, g2, g3⟩
  clear e0 e1 e2 g1 g2 g3
  refine wp_region_T (fun w' => w'.cell? ⟨w.heap.size, 0, none⟩ = some (.int .i64 p.r) ∧ w'.cell? ⟨w.heap.size, 1, none⟩ = some (.int .i64 p.g) ∧ w'.cell? ⟨w.heap.size, 2, none⟩ = some (.int .i64 p.b) ∧ w'.cell? ⟨gO, 1, none⟩ = some (.int .i64 o.a) ∧ w'.cell? ⟨gO, 2, none⟩ = some (.int .i64 o.b) ∧ w'.cell? ⟨gO, 3, none⟩ = some (.int .i64 o.c)) 19 (by kernel_rfl) ?_
  refine wpAnyT_take (i := 0) (d := 6) (v := .func (.func 106) #[] #[.pointer (some ⟨w.heap.size, 0, none⟩)]) rfl rfl (by kernel_rfl) (by kernel_rfl) (by kernel_rfl) (by kernel_rfl) (by kernel_rfl) (fun _ _ _ h => h) HS.out (Or.inl ⟨by rfl, fun w' hS' => ?_⟩) ?_
  · obtain ⟨s0, s1, s2, s3, s4, s5⟩ := hS'
    go_simp
  simp only [Act.put, List.setIfInBounds_toArray, List.set_cons_zero, List.set_cons_succ]
  refine wpAnyT_take (i := 1) (d := 7) (v := .pointer (some ⟨w.heap.size, 0, none⟩)) rfl rfl (by kernel_rfl) (by kernel_rfl) (by kernel_rfl) (by kernel_rfl) (by kernel_rfl) (fun _ _ _ h => h) HS.out (Or.inl ⟨by rfl, fun w' hS' => ?_⟩) ?_
  · obtain ⟨s0, s1, s2, s3, s4, s5⟩ := hS'
    go_simp
  simp only [Act.put, List.setIfInBounds_toArray, List.set_cons_zero, List.set_cons_succ]
  refine wpAnyT_take (i := 2) (d := 8) (v := .int .i64 p.r) rfl rfl (by kernel_rfl) (by kernel_rfl) (by kernel_rfl) (by kernel_rfl) (by kernel_rfl) (fun _ _ _ h => h) HS.out (Or.inl ⟨by rfl, fun w' hS' => ?_⟩) ?_
  · obtain ⟨s0, s1, s2, s3, s4, s5⟩ := hS'
    go_simp
  simp only [Act.put, List.setIfInBounds_toArray, List.set_cons_zero, List.set_cons_succ]
  refine wpAnyT_take (i := 3) (d := 9) (v := .pointer (some ⟨gO, 1, none⟩)) rfl rfl (by kernel_rfl) (by kernel_rfl) (by kernel_rfl) (by kernel_rfl) (by kernel_rfl) (fun _ _ _ h => h) HS.out (Or.inl ⟨by rfl, fun w' hS' => ?_⟩) ?_
  · obtain ⟨s0, s1, s2, s3, s4, s5⟩ := hS'
    go_simp
  simp only [Act.put, List.setIfInBounds_toArray, List.set_cons_zero, List.set_cons_succ]
  refine wpAnyT_take (i := 4) (d := 10) (v := .int .i64 o.a) rfl rfl (by kernel_rfl) (by kernel_rfl) (by kernel_rfl) (by kernel_rfl) (by kernel_rfl) (fun _ _ _ h => h) HS.out (Or.inl ⟨by rfl, fun w' hS' => ?_⟩) ?_
  · obtain ⟨s0, s1, s2, s3, s4, s5⟩ := hS'
    go_simp
  simp only [Act.put, List.setIfInBounds_toArray, List.set_cons_zero, List.set_cons_succ]
  refine wpAnyT_take (i := 6) (d := 12) (v := .func (.func 106) #[] #[.pointer (some ⟨w.heap.size, 0, none⟩)]) rfl rfl (by kernel_rfl) (by kernel_rfl) (by kernel_rfl) (by kernel_rfl) (by kernel_rfl) (fun _ _ _ h => h) HS.out (Or.inl ⟨by rfl, fun w' hS' => ?_⟩) ?_
  · obtain ⟨s0, s1, s2, s3, s4, s5⟩ := hS'
    go_simp
  simp only [Act.put, List.setIfInBounds_toArray, List.set_cons_zero, List.set_cons_succ]
  refine wpAnyT_take (i := 7) (d := 13) (v := .pointer (some ⟨w.heap.size, 1, none⟩)) rfl rfl (by kernel_rfl) (by kernel_rfl) (by kernel_rfl) (by kernel_rfl) (by kernel_rfl) (fun _ _ _ h => h) HS.out (Or.inl ⟨by rfl, fun w' hS' => ?_⟩) ?_
  · obtain ⟨s0, s1, s2, s3, s4, s5⟩ := hS'
    go_simp
  simp only [Act.put, List.setIfInBounds_toArray, List.set_cons_zero, List.set_cons_succ]
  refine wpAnyT_take (i := 8) (d := 14) (v := .int .i64 p.g) rfl rfl (by kernel_rfl) (by kernel_rfl) (by kernel_rfl) (by kernel_rfl) (by kernel_rfl) (fun _ _ _ h => h) HS.out (Or.inl ⟨by rfl, fun w' hS' => ?_⟩) ?_
  · obtain ⟨s0, s1, s2, s3, s4, s5⟩ := hS'
    go_simp
  simp only [Act.put, List.setIfInBounds_toArray, List.set_cons_zero, List.set_cons_succ]
  refine wpAnyT_take (i := 9) (d := 15) (v := .pointer (some ⟨gO, 2, none⟩)) rfl rfl (by kernel_rfl) (by kernel_rfl) (by kernel_rfl) (by kernel_rfl) (by kernel_rfl) (fun _ _ _ h => h) HS.out (Or.inl ⟨by rfl, fun w' hS' => ?_⟩) ?_
  · obtain ⟨s0, s1, s2, s3, s4, s5⟩ := hS'
    go_simp
  simp only [Act.put, List.setIfInBounds_toArray, List.set_cons_zero, List.set_cons_succ]
  refine wpAnyT_take (i := 10) (d := 16) (v := .int .i64 o.b) rfl rfl (by kernel_rfl) (by kernel_rfl) (by kernel_rfl) (by kernel_rfl) (by kernel_rfl) (fun _ _ _ h => h) HS.out (Or.inl ⟨by rfl, fun w' hS' => ?_⟩) ?_
  · obtain ⟨s0, s1, s2, s3, s4, s5⟩ := hS'
    go_simp
  simp only [Act.put, List.setIfInBounds_toArray, List.set_cons_zero, List.set_cons_succ]
  refine wpAnyT_take (i := 12) (d := 18) (v := .func (.func 106) #[] #[.pointer (some ⟨w.heap.size, 0, none⟩)]) rfl rfl (by kernel_rfl) (by kernel_rfl) (by kernel_rfl) (by kernel_rfl) (by kernel_rfl) (fun _ _ _ h => h) HS.out (Or.inl ⟨by rfl, fun w' hS' => ?_⟩) ?_
  · obtain ⟨s0, s1, s2, s3, s4, s5⟩ := hS'
    go_simp
  simp only [Act.put, List.setIfInBounds_toArray, List.set_cons_zero, List.set_cons_succ]
  refine wpAnyT_take (i := 13) (d := 19) (v := .pointer (some ⟨w.heap.size, 2, none⟩)) rfl rfl (by kernel_rfl) (by kernel_rfl) (by kernel_rfl) (by kernel_rfl) (by kernel_rfl) (fun _ _ _ h => h) HS.out (Or.inl ⟨by rfl, fun w' hS' => ?_⟩) ?_
  · obtain ⟨s0, s1, s2, s3, s4, s5⟩ := hS'
    go_simp
  simp only [Act.put, List.setIfInBounds_toArray, List.set_cons_zero, List.set_cons_succ]
  refine wpAnyT_take (i := 14) (d := 20) (v := .int .i64 p.b) rfl rfl (by kernel_rfl) (by kernel_rfl) (by kernel_rfl) (by kernel_rfl) (by kernel_rfl) (fun _ _ _ h => h) HS.out (Or.inl ⟨by rfl, fun w' hS' => ?_⟩) ?_
  · obtain ⟨s0, s1, s2, s3, s4, s5⟩ := hS'
    go_simp
  simp only [Act.put, List.setIfInBounds_toArray, List.set_cons_zero, List.set_cons_succ]
  refine wpAnyT_take (i := 15) (d := 21) (v := .pointer (some ⟨gO, 3, none⟩)) rfl rfl (by kernel_rfl) (by kernel_rfl) (by kernel_rfl) (by kernel_rfl) (by kernel_rfl) (fun _ _ _ h => h) HS.out (Or.inl ⟨by rfl, fun w' hS' => ?_⟩) ?_
  · obtain ⟨s0, s1, s2, s3, s4, s5⟩ := hS'
    go_simp
  simp only [Act.put, List.setIfInBounds_toArray, List.set_cons_zero, List.set_cons_succ]
  refine wpAnyT_take (i := 16) (d := 22) (v := .int .i64 o.c) rfl rfl (by kernel_rfl) (by kernel_rfl) (by kernel_rfl) (by kernel_rfl) (by kernel_rfl) (fun _ _ _ h => h) HS.out (Or.inl ⟨by rfl, fun w' hS' => ?_⟩) ?_
  · obtain ⟨s0, s1, s2, s3, s4, s5⟩ := hS'
    go_simp
  simp only [Act.put, List.setIfInBounds_toArray, List.set_cons_zero, List.set_cons_succ]
  refine wpAnyT_one (i := 5) (by kernel_rfl) rfl (fun K hK => ?_)
  go_simp
  refine (C1.out _ _ HP0.out.drew).mono ?_
  rintro e w' ⟨rfl, rfl⟩
  refine hK.out _ _ (fun _ => HS.out) ?_
  clear hK
  try simp only [Act.put, List.setIfInBounds_toArray, List.set_cons_zero, List.set_cons_succ]
  refine wpAnyT_one (i := 11) (by kernel_rfl) rfl (fun K hK => ?_)
  go_simp
  refine (C2.out _ _ HP0.out.drew).mono ?_
  rintro e w' ⟨rfl, rfl⟩
  refine hK.out _ _ (fun _ => HS.out) ?_
  clear hK
  try simp only [Act.put, List.setIfInBounds_toArray, List.set_cons_zero, List.set_cons_succ]
  refine wpAnyT_one (i := 17) (by kernel_rfl) rfl (fun K hK => ?_)
  go_simp
  refine (C3.out _ _ HP0.out.drew).mono ?_
  rintro e w' ⟨rfl, rfl⟩
  refine hK.out _ _ (fun _ => HS.out) ?_
  clear hK
  try simp only [Act.put, List.setIfInBounds_toArray, List.set_cons_zero, List.set_cons_succ]
  refine wpAnyT_one (i := 18) (by kernel_rfl) rfl (fun K hK => ?_)
  go_simp
  refine hK.out _ _ (fun _ => HS.out) ?_
  clear hK
  try simp only [Act.put, List.setIfInBounds_toArray, List.set_cons_zero, List.set_cons_succ]
  refine wpAnyT_one (i := 19) (by kernel_rfl) rfl (fun K hK => ?_)
  go_simp
  refine hK.out _ _ last_out ?_
  clear hK
  refine wpAnyT_done (by kernel_rfl) ?_ _
  have HXd := Lib.hid HX0.out.drew
  have HBd := Lib.hid (below_draws HB0.out 1)
  go_wp2_with fail
  (try simp only [Exit.inBlock, Exit.then])
  refine bodyPost_ret (results_cell_row rfl _ _ (w.heap.size + 1) 62 #[.int .i64 R, .int .i64 G, .int .i64 B, .int .i64 255] (0, 0) _ rfl (fin4 HXd.out _ _ _ _) Tryd.underlying62 rfl (by kernel_rfl)) rfl ?_
  exact ⟨by rw [hG.out], below_px HBd.out (by omega) _ _ _ _⟩
end Go.Proofs.YtiemlakjallphabDoor
namespace Go.Proofs.YtiemlakjallphabDoor
set_option maxRecDepth 4000
open Go.RowKit

theorem mul_small {k n : Nat} (hk : k < 6) (hn : n ≤ 6) : (2 * k + 1) * n ≤ 66 := by
  have := Nat.mul_le_mul (show 2 * k + 1 ≤ 11 by omega) hn
  omega
set_option maxHeartbeats 4000000 in
theorem sizePx_any (r : Ra) (A : Option Addr) (c : Nat) (o : Op) (a b gO : Nat) (x y gR : Nat) (w : World) (hr : r.ok) (hc : r.p.length ≤ c) (h : HasP w w.heap.size A r.p) (hR : RasAtB w gR r.w r.h A r.p.length c 30) (hO : OpAtB w gO o) (ha : o.a = (a : Int)) (hb : o.b = (b : Int)) (ha6 : a ≤ 6) (hb6 : b ≤ 6) (hx : x < a) (hy : y < b) :
    Calls Tryd.prog 104 #[.int .i64 (x : Int), .int .i64 (y : Int), .pointer (some ⟨gR, 0, none⟩), .pointer (some ⟨gO, 0, none⟩)] w fun e w' => e = .returned (r.at ((2 * x + 1) * r.w / (2 * a)) ((2 * y + 1) * r.h / (2 * b))).v ∧ Below w.heap.size w w' := by
  have hb0 : Below w.heap.size w (w.alloc (.cells #[.int .i64 0, .int .i64 0, .int .i64 0, .int .i64 0] 62)) := (Below.refl _ w).alloc (Nat.le_refl _) _
  have hx0 : Box (w.alloc (.cells #[.int .i64 0, .int .i64 0, .int .i64 0, .int .i64 0] 62)) w.heap.size #[.int .i64 0, .int .i64 0, .int .i64 0, .int .i64 0] 62 := Box.new w _ _
  have hR0 := Box.alloc hR (.cells #[.int .i64 0, .int .i64 0, .int .i64 0, .int .i64 0] 62)
  have hO0 := Box.alloc hO (.cells #[.int .i64 0, .int .i64 0, .int .i64 0, .int .i64 0] 62)
  have h0 := h.carry hb0 (Nat.le_refl _) hb0.size
  rw [ha, hb] at hO0
  have h6 := hr.parts.1
  have h7 := hr.parts.2.1
  have hxl := pick_lt (n := r.w) (a := a) (x := x) h6.1 hx
  have hyl := pick_lt (n := r.h) (a := b) (x := y) h7.1 hy
  have hPs := mul_small (k := x) (n := r.w) (by omega) h6.2
  have hQs := mul_small (k := y) (n := r.h) (by omega) h7.2
  have eP : (2 * (x : Int) + 1) * (r.w : Int) = (((2 * x + 1) * r.w : Nat) : Int) := by rw [Int.natCast_mul]; rfl
  have eQ : (2 * (y : Int) + 1) * (r.h : Int) = (((2 * y + 1) * r.h : Nat) : Int) := by rw [Int.natCast_mul]; rfl
  have eX : (((2 * x + 1) * r.w : Nat) : Int).tdiv (2 * (a : Int)) = (((2 * x + 1) * r.w / (2 * a) : Nat) : Int) := by rw [Int.tdiv_eq_ediv_of_nonneg (by omega), Int.natCast_ediv]; rfl
  have eY : (((2 * y + 1) * r.h : Nat) : Int).tdiv (2 * (b : Int)) = (((2 * y + 1) * r.h / (2 * b) : Nat) : Int) := by rw [Int.tdiv_eq_ediv_of_nonneg (by omega), Int.natCast_ediv]; rfl
  have CP := Lib.hid (pixelAt_any r A c _ _ _ hr hxl hyl hc (HasP.drewN h0 1))
  generalize (2 * x + 1) * r.w / (2 * a) = X at *
  generalize (2 * y + 1) * r.h / (2 * b) = Y at *
  generalize (2 * x + 1) * r.w = P at *
  generalize (2 * y + 1) * r.h = Q at *
  obtain ⟨p, hp⟩ : ∃ p, r.at X Y = p := ⟨_, rfl⟩
  rw [hp] at CP ⊢
  unfold raV rasV Px.v at CP
  unfold Px.v
  obtain ⟨W, hW⟩ : ∃ W, r.w = W := ⟨_, rfl⟩
  obtain ⟨H, hH⟩ : ∃ H, r.h = H := ⟨_, rfl⟩
  obtain ⟨n, hn⟩ : ∃ n, r.p.length = n := ⟨_, rfl⟩
  rw [hW] at hR0 eP h6 hxl CP
  rw [hH] at hR0 eQ h7 hyl CP
  rw [hn] at hR0 CP
  have z1 : ¬ (2 * (a : Int) = 0) := by omega
  have z2 : ¬ (2 * (b : Int) = 0) := by omega
  have u1 := IntWalk.i64_in (2 * (x : Int)) (by omega)
  have u2 := IntWalk.i64_in (2 * (x : Int) + 1) (by omega)
  have u3 := IntWalk.i64_in (P : Int) (by omega)
  have u4 := IntWalk.i64_in (2 * (a : Int)) (by omega)
  have u5 := IntWalk.i64_in (X : Int) (by omega)
  have v1 := IntWalk.i64_in (2 * (y : Int)) (by omega)
  have v2 := IntWalk.i64_in (2 * (y : Int) + 1) (by omega)
  have v3 := IntWalk.i64_in (Q : Int) (by omega)
  have v4 := IntWalk.i64_in (2 * (b : Int)) (by omega)
  have v5 := IntWalk.i64_in (Y : Int) (by omega)
  have HSb : Hid (∀ w', Below (w.alloc (.cells #[.int .i64 0, .int .i64 0, .int .i64 0, .int .i64 0] 62)).drew.heap.size (w.alloc (.cells #[.int .i64 0, .int .i64 0, .int .i64 0, .int .i64 0] 62)).drew w' → (w'.cell? ⟨gR, 0, none⟩ = some (.int .i64 (W : Int)) ∧ w'.cell? ⟨gR, 1, none⟩ = some (.int .i64 (H : Int)) ∧ w'.cell? ⟨gR, 2, none⟩ = some (.slice A n c)) ∧ w'.cell? ⟨gO, 1, none⟩ = some (.int .i64 (a : Int)) ∧ w'.cell? ⟨gO, 2, none⟩ = some (.int .i64 (b : Int))) := Lib.hid fun w' hb =>
    have k1 := Box.below (Box.drew hR0) hb hR0.lt
    have k2 := Box.below (Box.drew hO0) hb hO0.lt
    ⟨⟨k1.cell rfl, k1.cell rfl, k1.cell rfl⟩, k2.cell rfl, k2.cell rfl⟩
  have HS0 := Lib.hid (HSb.out _ (Below.refl _ _))
  have HBd := Lib.hid (below_draws hb0 1)
  have HXd := Lib.hid hx0.drew
  clear hb0 hx0 hR0 hR h h0 hp hr hc hO hO0 ha hb hxl hyl hx hy h6 h7 hPs hQs hW hH hn
  go_enter Tryd.func104, Tryd.ntmps104
  go_wp2_with fail
  generalize w.alloc (.cells #[.int .i64 0, .int .i64 0, .int .i64 0, .int .i64 0] 62) = w0 at *
  refine wp_region_T (fun w' => (w'.cell? ⟨gR, 0, none⟩ = some (.int .i64 (W : Int)) ∧ w'.cell? ⟨gR, 1, none⟩ = some (.int .i64 (H : Int)) ∧ w'.cell? ⟨gR, 2, none⟩ = some (.slice A n c)) ∧ w'.cell? ⟨gO, 1, none⟩ = some (.int .i64 (a : Int)) ∧ w'.cell? ⟨gO, 2, none⟩ = some (.int .i64 (b : Int))) 22 (by kernel_rfl) ?_
  refine wpAnyT_take (i := 0) (d := 7) (v := .agg #[.int .i64 (W : Int), .int .i64 (H : Int), .slice A n c]) rfl rfl (by kernel_rfl) (by kernel_rfl) (by kernel_rfl) (by kernel_rfl) (by kernel_rfl) (fun _ _ _ h => h) HS0.out (Or.inl ⟨by rfl, fun w' hS' => ?_⟩) ?_
  · obtain ⟨⟨s0, s1, s2⟩, s3, s4⟩ := hS'
    go_simp
  simp only [Act.put, List.setIfInBounds_toArray, List.set_cons_zero, List.set_cons_succ]
  refine wpAnyT_take (i := 1) (d := 8) (v := .int .i64 (x : Int)) rfl rfl (by kernel_rfl) (by kernel_rfl) (by kernel_rfl) (by kernel_rfl) (by kernel_rfl) (fun _ _ _ h => h) HS0.out (Or.inl ⟨by rfl, fun w' hS' => ?_⟩) ?_
  · obtain ⟨⟨s0, s1, s2⟩, s3, s4⟩ := hS'
    go_simp
  simp only [Act.put, List.setIfInBounds_toArray, List.set_cons_zero, List.set_cons_succ]
  refine wpAnyT_take (i := 2) (d := 9) (v := .int .i64 (2 * (x : Int))) rfl rfl (by kernel_rfl) (by kernel_rfl) (by kernel_rfl) (by kernel_rfl) (by kernel_rfl) (fun _ _ _ h => h) HS0.out (Or.inl ⟨by rfl, fun w' hS' => ?_⟩) ?_
  · obtain ⟨⟨s0, s1, s2⟩, s3, s4⟩ := hS'
    go_simp
  simp only [Act.put, List.setIfInBounds_toArray, List.set_cons_zero, List.set_cons_succ]
  refine wpAnyT_take (i := 3) (d := 10) (v := .int .i64 (2 * (x : Int) + 1)) rfl rfl (by kernel_rfl) (by kernel_rfl) (by kernel_rfl) (by kernel_rfl) (by kernel_rfl) (fun _ _ _ h => h) HS0.out (Or.inl ⟨by rfl, fun w' hS' => ?_⟩) ?_
  · obtain ⟨⟨s0, s1, s2⟩, s3, s4⟩ := hS'
    go_simp
  simp only [Act.put, List.setIfInBounds_toArray, List.set_cons_zero, List.set_cons_succ]
  refine wpAnyT_take (i := 4) (d := 11) (v := .pointer (some ⟨gR, 0, none⟩)) rfl rfl (by kernel_rfl) (by kernel_rfl) (by kernel_rfl) (by kernel_rfl) (by kernel_rfl) (fun _ _ _ h => h) HS0.out (Or.inl ⟨by rfl, fun w' hS' => ?_⟩) ?_
  · obtain ⟨⟨s0, s1, s2⟩, s3, s4⟩ := hS'
    go_simp
  simp only [Act.put, List.setIfInBounds_toArray, List.set_cons_zero, List.set_cons_succ]
  refine wpAnyT_take (i := 5) (d := 12) (v := .int .i64 (W : Int)) rfl rfl (by kernel_rfl) (by kernel_rfl) (by kernel_rfl) (by kernel_rfl) (by kernel_rfl) (fun _ _ _ h => h) HS0.out (Or.inl ⟨by rfl, fun w' hS' => ?_⟩) ?_
  · obtain ⟨⟨s0, s1, s2⟩, s3, s4⟩ := hS'
    go_simp
  simp only [Act.put, List.setIfInBounds_toArray, List.set_cons_zero, List.set_cons_succ]
  refine wpAnyT_take (i := 6) (d := 13) (v := .int .i64 (P : Int)) rfl rfl (by kernel_rfl) (by kernel_rfl) (by kernel_rfl) (by kernel_rfl) (by kernel_rfl) (fun _ _ _ h => h) HS0.out (Or.inl ⟨by rfl, fun w' hS' => ?_⟩) ?_
  · obtain ⟨⟨s0, s1, s2⟩, s3, s4⟩ := hS'
    go_simp
  simp only [Act.put, List.setIfInBounds_toArray, List.set_cons_zero, List.set_cons_succ]
  refine wpAnyT_take (i := 7) (d := 14) (v := .pointer (some ⟨gO, 1, none⟩)) rfl rfl (by kernel_rfl) (by kernel_rfl) (by kernel_rfl) (by kernel_rfl) (by kernel_rfl) (fun _ _ _ h => h) HS0.out (Or.inl ⟨by rfl, fun w' hS' => ?_⟩) ?_
  · obtain ⟨⟨s0, s1, s2⟩, s3, s4⟩ := hS'
    go_simp
  simp only [Act.put, List.setIfInBounds_toArray, List.set_cons_zero, List.set_cons_succ]
  refine wpAnyT_take (i := 8) (d := 15) (v := .int .i64 (a : Int)) rfl rfl (by kernel_rfl) (by kernel_rfl) (by kernel_rfl) (by kernel_rfl) (by kernel_rfl) (fun _ _ _ h => h) HS0.out (Or.inl ⟨by rfl, fun w' hS' => ?_⟩) ?_
  · obtain ⟨⟨s0, s1, s2⟩, s3, s4⟩ := hS'
    go_simp
  simp only [Act.put, List.setIfInBounds_toArray, List.set_cons_zero, List.set_cons_succ]
  refine wpAnyT_take (i := 9) (d := 16) (v := .int .i64 (2 * (a : Int))) rfl rfl (by kernel_rfl) (by kernel_rfl) (by kernel_rfl) (by kernel_rfl) (by kernel_rfl) (fun _ _ _ h => h) HS0.out (Or.inl ⟨by rfl, fun w' hS' => ?_⟩) ?_
  · obtain ⟨⟨s0, s1, s2⟩, s3, s4⟩ := hS'
    go_simp
  simp only [Act.put, List.setIfInBounds_toArray, List.set_cons_zero, List.set_cons_succ]
  refine wpAnyT_take (i := 10) (d := 17) (v := .int .i64 (X : Int)) rfl rfl (by kernel_rfl) (by kernel_rfl) (by kernel_rfl) (by kernel_rfl) (by kernel_rfl) (fun _ _ _ h => h) HS0.out (Or.inl ⟨by rfl, fun w' hS' => ?_⟩) ?_
  · obtain ⟨⟨s0, s1, s2⟩, s3, s4⟩ := hS'
    go_simp
  simp only [Act.put, List.setIfInBounds_toArray, List.set_cons_zero, List.set_cons_succ]
  refine wpAnyT_take (i := 11) (d := 18) (v := .int .i64 (y : Int)) rfl rfl (by kernel_rfl) (by kernel_rfl) (by kernel_rfl) (by kernel_rfl) (by kernel_rfl) (fun _ _ _ h => h) HS0.out (Or.inl ⟨by rfl, fun w' hS' => ?_⟩) ?_
  · obtain ⟨⟨s0, s1, s2⟩, s3, s4⟩ := hS'
    go_simp
  simp only [Act.put, List.setIfInBounds_toArray, List.set_cons_zero, List.set_cons_succ]
  refine wpAnyT_take (i := 12) (d := 19) (v := .int .i64 (2 * (y : Int))) rfl rfl (by kernel_rfl) (by kernel_rfl) (by kernel_rfl) (by kernel_rfl) (by kernel_rfl) (fun _ _ _ h => h) HS0.out (Or.inl ⟨by rfl, fun w' hS' => ?_⟩) ?_
  · obtain ⟨⟨s0, s1, s2⟩, s3, s4⟩ := hS'
    go_simp
  simp only [Act.put, List.setIfInBounds_toArray, List.set_cons_zero, List.set_cons_succ]
  refine wpAnyT_take (i := 13) (d := 20) (v := .int .i64 (2 * (y : Int) + 1)) rfl rfl (by kernel_rfl) (by kernel_rfl) (by kernel_rfl) (by kernel_rfl) (by kernel_rfl) (fun _ _ _ h => h) HS0.out (Or.inl ⟨by rfl, fun w' hS' => ?_⟩) ?_
  · obtain ⟨⟨s0, s1, s2⟩, s3, s4⟩ := hS'
    go_simp
  simp only [Act.put, List.setIfInBounds_toArray, List.set_cons_zero, List.set_cons_succ]
  refine wpAnyT_take (i := 14) (d := 21) (v := .pointer (some ⟨gR, 1, none⟩)) rfl rfl (by kernel_rfl) (by kernel_rfl) (by kernel_rfl) (by kernel_rfl) (by kernel_rfl) (fun _ _ _ h => h) HS0.out (Or.inl ⟨by rfl, fun w' hS' => ?_⟩) ?_
  · obtain ⟨⟨s0, s1, s2⟩, s3, s4⟩ := hS'
    go_simp
  simp only [Act.put, List.setIfInBounds_toArray, List.set_cons_zero, List.set_cons_succ]
  refine wpAnyT_take (i := 15) (d := 22) (v := .int .i64 (H : Int)) rfl rfl (by kernel_rfl) (by kernel_rfl) (by kernel_rfl) (by kernel_rfl) (by kernel_rfl) (fun _ _ _ h => h) HS0.out (Or.inl ⟨by rfl, fun w' hS' => ?_⟩) ?_
  · obtain ⟨⟨s0, s1, s2⟩, s3, s4⟩ := hS'
    go_simp
  simp only [Act.put, List.setIfInBounds_toArray, List.set_cons_zero, List.set_cons_succ]
  refine wpAnyT_take (i := 16) (d := 23) (v := .int .i64 (Q : Int)) rfl rfl (by kernel_rfl) (by kernel_rfl) (by kernel_rfl) (by kernel_rfl) (by kernel_rfl) (fun _ _ _ h => h) HS0.out (Or.inl ⟨by rfl, fun w' hS' => ?_⟩) ?_
  · obtain ⟨⟨s0, s1, s2⟩, s3, s4⟩ := hS'
    go_simp
  simp only [Act.put, List.setIfInBounds_toArray, List.set_cons_zero, List.set_cons_succ]
  refine wpAnyT_take (i := 17) (d := 24) (v := .pointer (some ⟨gO, 2, none⟩)) rfl rfl (by kernel_rfl) (by kernel_rfl) (by kernel_rfl) (by kernel_rfl) (by kernel_rfl) (fun _ _ _ h => h) HS0.out (Or.inl ⟨by rfl, fun w' hS' => ?_⟩) ?_
  · obtain ⟨⟨s0, s1, s2⟩, s3, s4⟩ := hS'
    go_simp
  simp only [Act.put, List.setIfInBounds_toArray, List.set_cons_zero, List.set_cons_succ]
  refine wpAnyT_take (i := 18) (d := 25) (v := .int .i64 (b : Int)) rfl rfl (by kernel_rfl) (by kernel_rfl) (by kernel_rfl) (by kernel_rfl) (by kernel_rfl) (fun _ _ _ h => h) HS0.out (Or.inl ⟨by rfl, fun w' hS' => ?_⟩) ?_
  · obtain ⟨⟨s0, s1, s2⟩, s3, s4⟩ := hS'
    go_simp
  simp only [Act.put, List.setIfInBounds_toArray, List.set_cons_zero, List.set_cons_succ]
  refine wpAnyT_take (i := 19) (d := 26) (v := .int .i64 (2 * (b : Int))) rfl rfl (by kernel_rfl) (by kernel_rfl) (by kernel_rfl) (by kernel_rfl) (by kernel_rfl) (fun _ _ _ h => h) HS0.out (Or.inl ⟨by rfl, fun w' hS' => ?_⟩) ?_
  · obtain ⟨⟨s0, s1, s2⟩, s3, s4⟩ := hS'
    go_simp
  simp only [Act.put, List.setIfInBounds_toArray, List.set_cons_zero, List.set_cons_succ]
  refine wpAnyT_take (i := 20) (d := 27) (v := .int .i64 (Y : Int)) rfl rfl (by kernel_rfl) (by kernel_rfl) (by kernel_rfl) (by kernel_rfl) (by kernel_rfl) (fun _ _ _ h => h) HS0.out (Or.inl ⟨by rfl, fun w' hS' => ?_⟩) ?_
  · obtain ⟨⟨s0, s1, s2⟩, s3, s4⟩ := hS'
    go_simp
  simp only [Act.put, List.setIfInBounds_toArray, List.set_cons_zero, List.set_cons_succ]
  refine wpAnyT_one (i := 21) (by kernel_rfl) rfl (fun K hK => ?_)
  go_simp
  refine CP.out.mono ?_
  rintro e w2 ⟨rfl, b2⟩
  have HXn := Lib.hid (Box.below HXd.out b2 HXd.out.lt)
  have HBn := Lib.hid (HBd.out.trans (b2.mono HBd.out.size))
  refine hK.out _ _ (fun _ => HSb.out _ b2) ?_
  clear hK b2
  try simp only [Act.put, List.setIfInBounds_toArray, List.set_cons_zero, List.set_cons_succ]
  refine wpAnyT_one (i := 22) (by kernel_rfl) rfl (fun K hK => ?_)
  have q0 := HXn.out.cell (i := 0) rfl
  have q1 := HXn.out.cell (i := 1) rfl
  have q2 := HXn.out.cell (i := 2) rfl
  have q3 := HXn.out.cell (i := 3) rfl
  have f0 := HXn.out.free 0
  have f1 := HXn.out.free 1
  have f2 := HXn.out.free 2
  have f3 := HXn.out.free 3
  go_simp
  refine hK.out _ _ last_out ?_
  clear hK
  refine wpAnyT_done (by kernel_rfl) ?_ _
  go_wp2_with fail
  (try simp only [Exit.inBlock, Exit.then])
  refine bodyPost_ret (results_cell_row rfl _ _ w.heap.size 62 #[.int .i64 p.r, .int .i64 p.g, .int .i64 p.b, .int .i64 p.a] (0, 0) _ rfl (fin4 HXn.out _ _ _ _) Tryd.underlying62 rfl (by kernel_rfl)) rfl ?_
  exact ⟨rfl, below_px HBn.out (Nat.le_refl _) _ _ _ _⟩
set_option maxHeartbeats 4000000 in
theorem pixelPx_any (F : FuncId) (caps : Array Value) (g : Px → Px) (r : Ra) (A : Option Addr) (c gR gC x y : Nat) (w : World) (hr : r.ok) (hc : r.p.length ≤ c) (h : HasP w w.heap.size A r.p) (hR : RasAtB w gR r.w r.h A r.p.length c 30)
    (hC : Box w gC #[.func (.func F) #[] caps] 103) (hF : ∀ args v, (callFunc F args).run Tryd.prog v = .ok (.enter F args) v)
    (hCH : ∀ p v, pixB p = true → Below w.heap.size w v → Calls Tryd.prog F (#[p.v] ++ caps) v fun e v' => e = .returned (g p).v ∧ Below v.heap.size v v') (hx : x < r.w) (hy : y < r.h) :
    Calls Tryd.prog 114 #[.int .i64 (x : Int), .int .i64 (y : Int), .pointer (some ⟨gC, 0, none⟩), .pointer (some ⟨gR, 0, none⟩)] w fun e w' => e = .returned (g (r.at x y)).v ∧ Below w.heap.size w w' := by
  have hb0 : Below w.heap.size w (w.alloc (.cells #[.int .i64 0, .int .i64 0, .int .i64 0, .int .i64 0] 62)) := (Below.refl _ w).alloc (Nat.le_refl _) _
  have hx0 : Box (w.alloc (.cells #[.int .i64 0, .int .i64 0, .int .i64 0, .int .i64 0] 62)) w.heap.size #[.int .i64 0, .int .i64 0, .int .i64 0, .int .i64 0] 62 := Box.new w _ _
  have hR0 := Box.alloc hR (.cells #[.int .i64 0, .int .i64 0, .int .i64 0, .int .i64 0] 62)
  have hC0 := Box.alloc hC (.cells #[.int .i64 0, .int .i64 0, .int .i64 0, .int .i64 0] 62)
  have h0 := h.carry hb0 (Nat.le_refl _) hb0.size
  have CP := Lib.hid (pixelAt_any r A c x y _ hr hx hy hc (HasP.drewN h0 1))
  have hpx := (hr.at hx hy).2
  generalize r.at x y = p at *
  have HCH : Hid (∀ v, Below w.heap.size w v → Calls Tryd.prog F (#[p.v] ++ caps) v fun e v' => e = .returned (g p).v ∧ Below v.heap.size v v') := Lib.hid fun v hb => hCH p v hpx hb
  generalize g p = q at *
  have HF := Lib.hid hF
  unfold raV rasV Px.v at CP
  unfold Px.v at HCH ⊢
  obtain ⟨W, hW⟩ : ∃ W, r.w = W := ⟨_, rfl⟩
  obtain ⟨H, hH⟩ : ∃ H, r.h = H := ⟨_, rfl⟩
  obtain ⟨n, hn⟩ : ∃ n, r.p.length = n := ⟨_, rfl⟩
  rw [hW] at hR0 CP
  rw [hH] at hR0 CP
  rw [hn] at hR0 CP
  have HSb : Hid (∀ w', Below (w.alloc (.cells #[.int .i64 0, .int .i64 0, .int .i64 0, .int .i64 0] 62)).drew.heap.size (w.alloc (.cells #[.int .i64 0, .int .i64 0, .int .i64 0, .int .i64 0] 62)).drew w' → (w'.cell? ⟨gR, 0, none⟩ = some (.int .i64 (W : Int)) ∧ w'.cell? ⟨gR, 1, none⟩ = some (.int .i64 (H : Int)) ∧ w'.cell? ⟨gR, 2, none⟩ = some (.slice A n c)) ∧ w'.cell? ⟨gC, 0, none⟩ = some (.func (.func F) #[] caps)) := Lib.hid fun w' hb =>
    have k1 := Box.below (Box.drew hR0) hb hR0.lt
    have k2 := Box.below (Box.drew hC0) hb hC0.lt
    ⟨⟨k1.cell rfl, k1.cell rfl, k1.cell rfl⟩, k2.cell rfl⟩
  have HS0 := Lib.hid (HSb.out _ (Below.refl _ _))
  have HBd := Lib.hid (below_draws hb0 1)
  have HXd := Lib.hid hx0.drew
  clear hb0 hx0 hR0 hR h h0 hr hc hC hC0 hx hy hW hH hn hF hCH hpx
  go_enter Tryd.func114, Tryd.ntmps114
  go_wp2_with fail
  generalize w.alloc (.cells #[.int .i64 0, .int .i64 0, .int .i64 0, .int .i64 0] 62) = w0 at *
  refine wp_region_T (fun w' => (w'.cell? ⟨gR, 0, none⟩ = some (.int .i64 (W : Int)) ∧ w'.cell? ⟨gR, 1, none⟩ = some (.int .i64 (H : Int)) ∧ w'.cell? ⟨gR, 2, none⟩ = some (.slice A n c)) ∧ w'.cell? ⟨gC, 0, none⟩ = some (.func (.func F) #[] caps)) 6 (by kernel_rfl) ?_
  refine wpAnyT_take (i := 0) (d := 7) (v := .func (.func F) #[] caps) rfl rfl (by kernel_rfl) (by kernel_rfl) (by kernel_rfl) (by kernel_rfl) (by kernel_rfl) (fun _ _ _ h => h) HS0.out (Or.inl ⟨by rfl, fun w' hS' => ?_⟩) ?_
  · obtain ⟨⟨s0, s1, s2⟩, s3⟩ := hS'
    go_simp
  simp only [Act.put, List.setIfInBounds_toArray, List.set_cons_zero, List.set_cons_succ]
  refine wpAnyT_take (i := 1) (d := 8) (v := .agg #[.int .i64 (W : Int), .int .i64 (H : Int), .slice A n c]) rfl rfl (by kernel_rfl) (by kernel_rfl) (by kernel_rfl) (by kernel_rfl) (by kernel_rfl) (fun _ _ _ h => h) HS0.out (Or.inl ⟨by rfl, fun w' hS' => ?_⟩) ?_
  · obtain ⟨⟨s0, s1, s2⟩, s3⟩ := hS'
    go_simp
  simp only [Act.put, List.setIfInBounds_toArray, List.set_cons_zero, List.set_cons_succ]
  refine wpAnyT_take (i := 2) (d := 9) (v := .int .i64 (x : Int)) rfl rfl (by kernel_rfl) (by kernel_rfl) (by kernel_rfl) (by kernel_rfl) (by kernel_rfl) (fun _ _ _ h => h) HS0.out (Or.inl ⟨by rfl, fun w' hS' => ?_⟩) ?_
  · obtain ⟨⟨s0, s1, s2⟩, s3⟩ := hS'
    go_simp
  simp only [Act.put, List.setIfInBounds_toArray, List.set_cons_zero, List.set_cons_succ]
  refine wpAnyT_take (i := 3) (d := 10) (v := .int .i64 (y : Int)) rfl rfl (by kernel_rfl) (by kernel_rfl) (by kernel_rfl) (by kernel_rfl) (by kernel_rfl) (fun _ _ _ h => h) HS0.out (Or.inl ⟨by rfl, fun w' hS' => ?_⟩) ?_
  · obtain ⟨⟨s0, s1, s2⟩, s3⟩ := hS'
    go_simp
  simp only [Act.put, List.setIfInBounds_toArray, List.set_cons_zero, List.set_cons_succ]
  refine wpAnyT_one (i := 4) (by kernel_rfl) rfl (fun K hK => ?_)
  go_simp
  refine CP.out.mono ?_
  rintro e w2 ⟨rfl, b2⟩
  have HX2 := Lib.hid (Box.below HXd.out b2 HXd.out.lt)
  have HB2 := Lib.hid (HBd.out.trans (b2.mono HBd.out.size))
  have C2 := Lib.hid (HCH.out w2 HB2.out)
  refine hK.out _ _ (fun _ => HSb.out _ b2) ?_
  clear hK
  try simp only [Act.put, List.setIfInBounds_toArray, List.set_cons_zero, List.set_cons_succ]
  refine wpAnyT_one (i := 5) (by kernel_rfl) rfl (fun K hK => ?_)
  go_simp
  rw [HF.out, Oper.upon_enter]
  refine C2.out.mono ?_
  rintro e w3 ⟨rfl, b3⟩
  have HXn := Lib.hid (Box.below HX2.out b3 HX2.out.lt)
  have HBn := Lib.hid (HB2.out.trans (b3.mono HB2.out.size))
  refine hK.out _ _ (fun _ => HSb.out _ (b2.trans (b3.mono b2.size))) ?_
  clear hK b3 b2
  try simp only [Act.put, List.setIfInBounds_toArray, List.set_cons_zero, List.set_cons_succ]
  refine wpAnyT_one (i := 6) (by kernel_rfl) rfl (fun K hK => ?_)
  have q0 := HXn.out.cell (i := 0) rfl
  have q1 := HXn.out.cell (i := 1) rfl
  have q2 := HXn.out.cell (i := 2) rfl
  have q3 := HXn.out.cell (i := 3) rfl
  have f0 := HXn.out.free 0
  have f1 := HXn.out.free 1
  have f2 := HXn.out.free 2
  have f3 := HXn.out.free 3
  go_simp
  refine hK.out _ _ last_out ?_
  clear hK
  refine wpAnyT_done (by kernel_rfl) ?_ _
  go_wp2_with fail
  (try simp only [Exit.inBlock, Exit.then])
  refine bodyPost_ret (results_cell_row rfl _ _ w.heap.size 62 #[.int .i64 q.r, .int .i64 q.g, .int .i64 q.b, .int .i64 q.a] (0, 0) _ rfl (fin4 HXn.out _ _ _ _) Tryd.underlying62 rfl (by kernel_rfl)) rfl ?_
  exact ⟨rfl, below_px HBn.out (Nat.le_refl _) _ _ _ _⟩
end Go.Proofs.YtiemlakjallphabDoor
