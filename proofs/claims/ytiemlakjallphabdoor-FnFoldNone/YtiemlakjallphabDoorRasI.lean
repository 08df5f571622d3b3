/-
  PixOk and RasOk of the program tell whether a pixel and a raster are one; nothing that was there changes. Condition: the raster's pixels are read from memory that was there.
-/
import Derived.Test.YtiemlakjallphabDoorRasAtM
namespace Go.Proofs.YtiemlakjallphabDoor
set_option maxRecDepth 4000
open Go.RowKit

theorem partOk_any (n : Int) (w : World) : Calls Tryd.prog 84 #[.int .i64 n] w fun e w' => e = .returned (.bool (partB n)) ∧ w' = w := by
  by_cases h0 : 0 ≤ n
  · by_cases h1 : n ≤ 255
    · have hd : partB n = true := decide_eq_true ⟨h0, h1⟩
      rw [hd]
      go_enter Tryd.func84, Tryd.ntmps84
      go_wp2
      go_ret
      exact ⟨rfl, rfl⟩
    · have hd : partB n = false := decide_eq_false (by omega)
      rw [hd]
      go_enter Tryd.func84, Tryd.ntmps84
      go_wp2
      go_ret
      exact ⟨rfl, rfl⟩
  · have hd : partB n = false := decide_eq_false (by omega)
    rw [hd]
    go_enter Tryd.func84, Tryd.ntmps84
    go_wp2
    go_ret
    exact ⟨rfl, rfl⟩
theorem sideOk_any (n : Int) (w : World) : Calls Tryd.prog 54 #[.int .i64 n] w fun e w' => e = .returned (.bool (decide (1 ≤ n ∧ n ≤ 6))) ∧ w' = w := by
  by_cases h0 : 1 ≤ n
  · by_cases h1 : n ≤ 6
    · have hd : decide (1 ≤ n ∧ n ≤ 6) = true := decide_eq_true ⟨h0, h1⟩
      rw [hd]
      go_enter Tryd.func54, Tryd.ntmps54
      go_wp2
      go_ret
      exact ⟨rfl, rfl⟩
    · have hd : decide (1 ≤ n ∧ n ≤ 6) = false := decide_eq_false (by omega)
      rw [hd]
      go_enter Tryd.func54, Tryd.ntmps54
      go_wp2
      go_ret
      exact ⟨rfl, rfl⟩
  · have hd : decide (1 ≤ n ∧ n ≤ 6) = false := decide_eq_false (by omega)
    rw [hd]
    go_enter Tryd.func54, Tryd.ntmps54
    go_wp2
    go_ret
    exact ⟨rfl, rfl⟩
theorem implPixOk_any (p : Px) (w : World) : Calls Tryd.prog 53 #[p.v] w fun e w' => e = .returned (.bool (pixB p)) ∧ Below w.heap.size w w' := by
  obtain ⟨r, g, b, a⟩ := p
  unfold Px.v pixB
  have HB : Hid (Below w.heap.size w (w.alloc (.cells #[.int .i64 r, .int .i64 g, .int .i64 b, .int .i64 a] 62))) := Lib.hid ((Below.refl _ w).alloc (Nat.le_refl _) _)
  have C := Lib.hid partOk_any
  go_enter Tryd.func53, Tryd.ntmps53
  go_wp2_with fail
  refine (C.out r _).mono ?_
  rintro e w' ⟨rfl, rfl⟩
  dsimp only
  cases h1 : partB r
  · go_wp2_with fail
    go_ret
    exact ⟨by rw [h1]; rfl, HB.out⟩
  go_wp2_with fail
  refine (C.out g _).mono ?_
  rintro e w' ⟨rfl, rfl⟩
  cases h2 : partB g
  · go_wp2_with fail
    go_ret
    exact ⟨by rw [h1, h2]; rfl, HB.out⟩
  go_wp2_with fail
  refine (C.out b _).mono ?_
  rintro e w' ⟨rfl, rfl⟩
  cases h3 : partB b
  · go_wp2_with fail
    go_ret
    exact ⟨by rw [h1, h2, h3]; rfl, HB.out⟩
  go_wp2_with fail
  refine (C.out a _).mono ?_
  rintro e w' ⟨rfl, rfl⟩
  cases h4 : partB a
  · go_wp2_with fail
    go_ret
    exact ⟨by rw [h1, h2, h3, h4]; rfl, HB.out⟩
  go_wp2_with fail
  go_ret
  exact ⟨by rw [h1, h2, h3, h4]; rfl, HB.out⟩

set_option maxHeartbeats 1000000 in
theorem pixelsOk_any (A : Option Addr) (c : Nat) (l : List Px) (w : World) (hs : l.length ≤ 1073741824) (h : HasP w w.heap.size A l) :
    Calls Tryd.prog 55 #[.slice A l.length c] w fun e w' => e = .returned (.bool (l.all pixB)) ∧ Below w.heap.size w w' := by
  have hs2 : (l.length : Int) ≤ 1073741824 := by omega
  have HH := Lib.hid h
  clear h hs
  go_enter Tryd.func55, Tryd.ntmps55
  go_wp2_with fail
  go_loopw [7] (fun i wr => ∃ k : Nat, k ≤ l.length ∧ i = .int .i64 k ∧ (l.take k).all pixB = true ∧ Below w.heap.size w wr) (fun i _ => l.length - (intOf i).toNat)
  case atStart => exact ⟨0, Nat.zero_le _, rfl, rfl, Below.refl _ _⟩
  case round =>
    obtain ⟨k, hk, rfl, hall, hbel⟩ := hrel
    by_cases hlt : k < l.length
    · obtain ⟨b, o, p, rfl, hbB, hp, d0, d1, d2, d3⟩ := (HH.out.below hbel).spot hlt
      have hbz : b < wr.heap.size := Nat.lt_of_lt_of_le hbB hbel.size
      have HP := Lib.hid hp
      have CP := Lib.hid (implPixOk_any p)
      have HS := Lib.hid (all_snoc l k p hp)
      have hz := hbel.size
      have HB2 := Lib.hid (hbel.alloc hbel.size (.cells #[.int .i64 p.r, .int .i64 p.g, .int .i64 p.b, .int .i64 p.a] 62))
      unfold Px.v at CP
      clear hbel hp
      go_wp2_with fail
      refine (CP.out _).mono ?_
      rintro e w2 ⟨rfl, b2⟩
      have HB3 := Lib.hid (HB2.out.trans (b2.mono HB2.out.size))
      clear b2
      cases hpb : pixB p
      · have HF : Hid (l.all pixB = false) := Lib.hid (all_stop HP.out hpb)
        go_wp2_with fail
        go_ret
        exact ⟨by rw [HF.out]; rfl, HB3.out⟩
      · go_wp2_with fail
        go_roundw
        case rel => exact ⟨k + 1, by omega, by go_num, by rw [HS.out, hall, hpb]; rfl, HB3.out⟩
        case measure => simp [intOf]; omega
    · obtain rfl : k = l.length := by omega
      rw [List.take_of_length_le (Nat.le_refl _)] at hall
      have HF := Lib.hid hall
      clear hall
      go_wp2_with fail
      go_ret
      exact ⟨by rw [HF.out]; rfl, hbel⟩

set_option maxHeartbeats 1000000 in
theorem implRasOk_any (W H : Int) (A : Option Addr) (c : Nat) (l : List Px) (w : World) (hs : l.length ≤ 1073741824) (h : HasP w w.heap.size A l) :
    Calls Tryd.prog 28 #[rasV W H A l.length c] w fun e w' => e = .returned (.bool (rasB W H l)) ∧ Below w.heap.size w w' := by
  unfold rasV
  have hb0 : Below w.heap.size w (w.alloc (.cells #[.int .i64 W, .int .i64 H, .slice A l.length c] 30)) := (Below.refl _ w).alloc (Nat.le_refl _) _
  have hx : (w.alloc (.cells #[.int .i64 W, .int .i64 H, .slice A l.length c] 30)).heap[w.heap.size]? = some (.cells #[.int .i64 W, .int .i64 H, .slice A l.length c] 30 (0, 0)) := heap_alloc_new w _
  have HH := Lib.hid ((h.below hb0).wider (B' := (w.alloc (.cells #[.int .i64 W, .int .i64 H, .slice A l.length c] 30)).heap.size) (by simp))
  have HB0 := Lib.hid hb0
  have C := Lib.hid sideOk_any
  have CP := Lib.hid fun W0 hh => pixelsOk_any A c l W0 hs hh
  have hs2 : (l.length : Int) ≤ 1073741824 := by omega
  clear h hs hb0
  go_enter Tryd.func28, Tryd.ntmps28
  go_wp2_with fail
  generalize w.alloc (.cells #[.int .i64 W, .int .i64 H, .slice A l.length c] 30) = w0 at *
  have hlt : w.heap.size < w0.heap.size := (Array.getElem?_eq_some_iff.1 hx).1
  have p0 : w0.cell? ⟨w.heap.size, 0, none⟩ = some (.int .i64 W) := by rw [cell_of_row w0 _ 0 _ _ _ hx]; rfl
  have p1 : w0.cell? ⟨w.heap.size, 1, none⟩ = some (.int .i64 H) := by rw [cell_of_row w0 _ 1 _ _ _ hx]; rfl
  have p2 : w0.cell? ⟨w.heap.size, 2, none⟩ = some (.slice A l.length c) := by rw [cell_of_row w0 _ 2 _ _ _ hx]; rfl
  clear hx
  refine (C.out W _).mono ?_
  rintro e w' ⟨rfl, rfl⟩
  by_cases h1 : ¬ (1 ≤ W ∧ W ≤ 6)
  · have hd : decide (1 ≤ W ∧ W ≤ 6) = false := decide_eq_false h1
    have hr : rasB W H l = false := by unfold rasB; rw [decide_eq_false (fun k => h1 k.1)]; rfl
    have HR := Lib.hid hr
    clear hr
    go_wp2_with fail
    go_ret
    exact ⟨by rw [HR.out]; rfl, HB0.out⟩
  have h1 := Decidable.not_not.1 h1
  have hd1 : decide (1 ≤ W ∧ W ≤ 6) = true := decide_eq_true h1
  go_wp2_with fail
  refine (C.out H _).mono ?_
  rintro e w' ⟨rfl, rfl⟩
  by_cases h2 : ¬ (1 ≤ H ∧ H ≤ 6)
  · have hd : decide (1 ≤ H ∧ H ≤ 6) = false := decide_eq_false h2
    have hr : rasB W H l = false := by unfold rasB; rw [decide_eq_false (fun k => h2 k.2.1)]; rfl
    have HR := Lib.hid hr
    clear hr
    go_wp2_with fail
    go_ret
    exact ⟨by rw [HR.out]; rfl, HB0.out⟩
  have h2 := Decidable.not_not.1 h2
  have hd2 : decide (1 ≤ H ∧ H ≤ 6) = true := decide_eq_true h2
  have h36 := mul36 h1 h2
  have hwr : wrap64 (W * H) = W * H := by unfold wrap64; omega
  by_cases h3 : ¬ ((l.length : Int) = W * H)
  · have hd : ((l.length : Int) == W * H) = false := beq_eq_false_iff_ne.2 h3
    have hr : rasB W H l = false := by unfold rasB; rw [decide_eq_false (fun k => h3 k.2.2)]; rfl
    have HR := Lib.hid hr
    clear hr
    go_wp2_with fail
    go_ret
    exact ⟨by rw [HR.out]; rfl, HB0.out⟩
  have h3 := Decidable.not_not.1 h3
  have hd : ((l.length : Int) == W * H) = true := beq_iff_eq.2 h3
  have hr : rasB W H l = l.all pixB := by unfold rasB; rw [decide_eq_true ⟨h1, h2, h3⟩]; rfl
  have HR := Lib.hid hr
  clear hr
  go_wp2_with fail
  refine (CP.out _ HH.out).mono ?_
  rintro e w2 ⟨rfl, b2⟩
  have HB2 := Lib.hid (HB0.out.trans (b2.mono (Nat.le_of_lt hlt)))
  clear b2
  generalize l.all pixB = q at *
  go_wp2_with fail
  go_ret
  exact ⟨by rw [HR.out]; rfl, HB2.out⟩
end Go.Proofs.YtiemlakjallphabDoor
