/-
  pixelAt of the program: the pixel at a column and a row. Conditions: the raster is one, there are such a column and row, the pixels lie in memory that was there.
-/
import Derived.Test.YtiemlakjallphabDoorClo
import Derived.Test.YtiemlakjallphabDoorRasRow
import Derived.Test.YtiemlakjallphabDoorRasAtM
namespace Go.Proofs.YtiemlakjallphabDoor
set_option maxRecDepth 4000
open Go.RowKit

/-- A raster as a value, at a place. -/
def raV (r : Ra) (A : Option Addr) (c : Nat) : Value := rasV r.w r.h A r.p.length c
set_option maxHeartbeats 1000000 in
theorem pixelAt_any (r : Ra) (A : Option Addr) (c x y : Nat) (w : World) (hr : r.ok) (hx : x < r.w) (hy : y < r.h) (hc : r.p.length ≤ c) (h : HasP w w.heap.size A r.p) :
    Calls Tryd.prog 91 #[raV r A c, .int .i64 (x : Int), .int .i64 (y : Int)] w fun e w' => e = .returned (r.at x y).v ∧ Below w.heap.size w w' := by
  obtain ⟨hw6, hh6, hl, -⟩ := hr.parts
  have hin := place_in hx hy
  rw [← hl] at hin
  have h36 := ra_len hr
  obtain ⟨b, o, p, rfl, hb, hp, -⟩ := h.spot hin
  have hpe : r.at x y = p := by
    have := (hr.at hx hy).1
    rw [hp] at this
    injection this with this
    exact this.symm
  rw [hpe]
  obtain ⟨s, hs⟩ : ∃ s, y * r.w = s := ⟨_, rfl⟩
  rw [hs] at hin hp
  have hsI : (y : Int) * (r.w : Int) = (s : Int) := by rw [← hs, Int.natCast_mul]
  have hsw : s + r.w ≤ r.p.length := by
    have h1 : (y + 1) * r.w ≤ r.h * r.w := Nat.mul_le_mul_right _ hy
    rw [Nat.add_mul, Nat.one_mul, hs] at h1
    rw [hl, Nat.mul_comm]
    exact h1
  unfold raV rasV Px.v
  obtain ⟨W, hW⟩ : ∃ W, r.w = W := ⟨_, rfl⟩
  obtain ⟨H, hH⟩ : ∃ H, r.h = H := ⟨_, rfl⟩
  obtain ⟨n, hn⟩ : ∃ n, r.p.length = n := ⟨_, rfl⟩
  rw [hW] at hsI hsw hx hw6
  rw [hn] at hsw h36 hc
  rw [hW, hH, hn]
  have CR := Lib.hid fun w0 => row_any b o c n s W (y : Int) w0 hsI hw6.1 hsw (by omega) hc
  have hx0 : Box ((w.alloc (.cells #[.int .i64 (W : Int), .int .i64 (H : Int), .slice (some ⟨b, o, none⟩) n c] 30)).alloc (.cells #[.int .i64 0, .int .i64 0, .int .i64 0, .int .i64 0] 62)) (w.heap.size + 1) #[.int .i64 0, .int .i64 0, .int .i64 0, .int .i64 0] 62 := by
    have := Box.new (w.alloc (.cells #[.int .i64 (W : Int), .int .i64 (H : Int), .slice (some ⟨b, o, none⟩) n c] 30)) #[.int .i64 0, .int .i64 0, .int .i64 0, .int .i64 0] 62
    rw [show (w.alloc (.cells #[.int .i64 (W : Int), .int .i64 (H : Int), .slice (some ⟨b, o, none⟩) n c] 30)).heap.size = w.heap.size + 1 from by simp] at this
    exact this
  have hr0 : RasAtB ((w.alloc (.cells #[.int .i64 (W : Int), .int .i64 (H : Int), .slice (some ⟨b, o, none⟩) n c] 30)).alloc (.cells #[.int .i64 0, .int .i64 0, .int .i64 0, .int .i64 0] 62)) w.heap.size (W : Int) (H : Int) (some ⟨b, o, none⟩) n c 30 := Box.alloc (Box.new w _ _) _
  have hb0 : Below w.heap.size w ((w.alloc (.cells #[.int .i64 (W : Int), .int .i64 (H : Int), .slice (some ⟨b, o, none⟩) n c] 30)).alloc (.cells #[.int .i64 0, .int .i64 0, .int .i64 0, .int .i64 0] 62)) := ((Below.refl _ w).alloc (Nat.le_refl _) _).alloc (by simp) _
  have hpc : PxAt ((w.alloc (.cells #[.int .i64 (W : Int), .int .i64 (H : Int), .slice (some ⟨b, o, none⟩) n c] 30)).alloc (.cells #[.int .i64 0, .int .i64 0, .int .i64 0, .int .i64 0] 62)) b (o + s * 4 + x * 4) p := by
    rcases h.below hb0 with h0 | ⟨b', o', e, _, hc'⟩
    · rw [h0] at hp; simp at hp
    · injection e with e
      injection e with e1 e2 _
      subst e1 e2
      have := hc' _ p hp
      rwa [show o + (s + x) * 4 = o + s * 4 + x * 4 from by omega] at this
  have HPC := Lib.hid hpc
  have HX0 := Lib.hid hx0
  have HR0 := Lib.hid hr0
  have HB0 := Lib.hid hb0
  clear hr h hp hb h36 hl hh6 hsI hy hs hpe hx0 hr0 hb0 hpc hW hH hn hin
  have hin2 : 0 ≤ (x : Int) ∧ (x : Int) < (W : Int) := by omega
  go_enter Tryd.func91, Tryd.ntmps91
  go_wp2_with fail
  generalize (w.alloc (.cells #[.int .i64 (W : Int), .int .i64 (H : Int), .slice (some ⟨b, o, none⟩) n c] 30)).alloc (.cells #[.int .i64 0, .int .i64 0, .int .i64 0, .int .i64 0] 62) = w0 at *
  refine (CR.out _).mono ?_
  rintro e w' ⟨rfl, rfl⟩
  obtain ⟨d0, d1, d2, d3⟩ := HPC.out
  have q0 := HX0.out.cell (i := 0) rfl
  have q1 := HX0.out.cell (i := 1) rfl
  have q2 := HX0.out.cell (i := 2) rfl
  have q3 := HX0.out.cell (i := 3) rfl
  have f0 := HX0.out.free 0
  have f1 := HX0.out.free 1
  have f2 := HX0.out.free 2
  have f3 := HX0.out.free 3
  go_wp2_with fail
  (try simp only [Exit.inBlock, Exit.then])
  refine bodyPost_ret (results_cell_row rfl _ _ (w.heap.size + 1) 62 #[.int .i64 p.r, .int .i64 p.g, .int .i64 p.b, .int .i64 p.a] (0, 0) _ rfl (fin_px HX0.out p) Tryd.underlying62 rfl (by kernel_rfl)) rfl ?_
  exact ⟨rfl, below_px HB0.out (by omega) _ _ _ _⟩
end Go.Proofs.YtiemlakjallphabDoor
