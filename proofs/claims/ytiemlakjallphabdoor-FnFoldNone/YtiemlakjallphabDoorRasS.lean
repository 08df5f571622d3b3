/-
  PixOk and RasOk of the reference tell whether a pixel and a raster are one; nothing that was there changes. Condition: the raster's pixels are read from memory that was there.
-/
import Derived.Test.YtiemlakjallphabDoorPix
import Derived.Test.YtiemlakjallphabDoorL1In
namespace Go.Proofs.YtiemlakjallphabDoor
set_option maxRecDepth 4000
open Go.RowKit

theorem l1In_part (n : Int) (w : World) : Calls Tryd.prog 59 #[.int .i64 n, .int .i64 0, .int .i64 255] w fun e w' => e = .returned (.bool (partB n)) ∧ w' = w := l1In_any n 0 255 w
theorem specPixOk_any (p : Px) (w : World) : Calls Tryd.prog 60 #[p.v] w fun e w' => e = .returned (.bool (pixB p)) ∧ Below w.heap.size w w' := by
  obtain ⟨r, g, b, a⟩ := p
  unfold Px.v pixB
  have HB : Hid (Below w.heap.size w (w.alloc (.cells #[.int .i64 r, .int .i64 g, .int .i64 b, .int .i64 a] 62))) := Lib.hid ((Below.refl _ w).alloc (Nat.le_refl _) _)
  have C := Lib.hid l1In_part
  go_enter Tryd.func60, Tryd.ntmps60
  go_wp2_with fail
  refine (C.out r _).mono ?_
  rintro e w' ⟨rfl, rfl⟩
  dsimp only
  cases h1 : partB r
  · go_wp2_with fail
    go_ret
    exact ⟨by rw [h1]; rfl, HB.out⟩
  go_wp2_with fail
  refine (C.out g _).mono ?_
  rintro e w' ⟨rfl, rfl⟩
  cases h2 : partB g
  · go_wp2_with fail
    go_ret
    exact ⟨by rw [h1, h2]; rfl, HB.out⟩
  go_wp2_with fail
  refine (C.out b _).mono ?_
  rintro e w' ⟨rfl, rfl⟩
  cases h3 : partB b
  · go_wp2_with fail
    go_ret
    exact ⟨by rw [h1, h2, h3]; rfl, HB.out⟩
  go_wp2_with fail
  refine (C.out a _).mono ?_
  rintro e w' ⟨rfl, rfl⟩
  cases h4 : partB a
  · go_wp2_with fail
    go_ret
    exact ⟨by rw [h1, h2, h3, h4]; rfl, HB.out⟩
  go_wp2_with fail
  go_ret
  exact ⟨by rw [h1, h2, h3, h4]; rfl, HB.out⟩

theorem all_snoc (l : List Px) (k : Nat) (p : Px) (h : l[k]? = some p) : (l.take (k + 1)).all pixB = ((l.take k).all pixB && pixB p) := by
  rw [List.take_add_one, h]
  simp
theorem all_stop {l : List Px} {k : Nat} {p : Px} (h : l[k]? = some p) (hp : pixB p = false) : l.all pixB = false := by
  rw [List.all_eq_false]
  exact ⟨p, List.mem_of_getElem? h, by simp [hp]⟩
theorem mul36 {W H : Int} (h1 : 1 ≤ W ∧ W ≤ 6) (h2 : 1 ≤ H ∧ H ≤ 6) : 1 ≤ W * H ∧ W * H ≤ 36 := by
  have e : W = 1 ∨ W = 2 ∨ W = 3 ∨ W = 4 ∨ W = 5 ∨ W = 6 := by omega
  rcases e with rfl | rfl | rfl | rfl | rfl | rfl <;> omega
/-- A raster as a value. -/
def rasV (W H : Int) (A : Option Addr) (n c : Nat) : Value := .agg #[.int .i64 W, .int .i64 H, .slice A n c]
set_option maxHeartbeats 1000000 in
theorem specRasOk_any (W H : Int) (A : Option Addr) (c : Nat) (l : List Px) (w : World) (hs : l.length ≤ 1073741824) (h : HasP w w.heap.size A l) :
    Calls Tryd.prog 34 #[rasV W H A l.length c] w fun e w' => e = .returned (.bool (rasB W H l)) ∧ Below w.heap.size w w' := by
  unfold rasV
  have HB0 : Hid (Below w.heap.size w (w.alloc (.cells #[.int .i64 W, .int .i64 H, .slice A l.length c] 30))) := Lib.hid ((Below.refl _ w).alloc (Nat.le_refl _) _)
  have C := Lib.hid l1In_any
  have hs2 : (l.length : Int) ≤ 1073741824 := by omega
  have HH := Lib.hid h
  clear h hs
  go_enter Tryd.func34, Tryd.ntmps34
  go_wp2_with fail
  refine (C.out W 1 6 _).mono ?_
  rintro e w' ⟨rfl, rfl⟩
  by_cases h1 : ¬ (1 ≤ W ∧ W ≤ 6)
  · have hd : decide (1 ≤ W ∧ W ≤ 6) = false := decide_eq_false h1
    have hr : rasB W H l = false := by unfold rasB; rw [decide_eq_false (fun k => h1 k.1)]; rfl
    have HR := Lib.hid hr
    clear hr
    go_wp2_with fail
    go_ret
    exact ⟨by rw [HR.out]; rfl, HB0.out⟩
  have h1 := Decidable.not_not.1 h1
  have hd1 : decide (1 ≤ W ∧ W ≤ 6) = true := decide_eq_true h1
  go_wp2_with fail
  refine (C.out H 1 6 _).mono ?_
  rintro e w' ⟨rfl, rfl⟩
  by_cases h2 : ¬ (1 ≤ H ∧ H ≤ 6)
  · have hd : decide (1 ≤ H ∧ H ≤ 6) = false := decide_eq_false h2
    have hr : rasB W H l = false := by unfold rasB; rw [decide_eq_false (fun k => h2 k.2.1)]; rfl
    have HR := Lib.hid hr
    clear hr
    go_wp2_with fail
    go_ret
    exact ⟨by rw [HR.out]; rfl, HB0.out⟩
  have h2 := Decidable.not_not.1 h2
  have hd2 : decide (1 ≤ H ∧ H ≤ 6) = true := decide_eq_true h2
  have h36 := mul36 h1 h2
  have hwr : wrap64 (W * H) = W * H := by unfold wrap64; omega
  by_cases h3 : ¬ ((l.length : Int) = W * H)
  · have hd : ((l.length : Int) == W * H) = false := beq_eq_false_iff_ne.2 h3
    have hr : rasB W H l = false := by unfold rasB; rw [decide_eq_false (fun k => h3 k.2.2)]; rfl
    have HR := Lib.hid hr
    clear hr
    go_wp2_with fail
    go_ret
    exact ⟨by rw [HR.out]; rfl, HB0.out⟩
  have h3 := Decidable.not_not.1 h3
  have hd : ((l.length : Int) == W * H) = true := beq_iff_eq.2 h3
  have hr : rasB W H l = l.all pixB := by unfold rasB; rw [decide_eq_true ⟨h1, h2, h3⟩]; rfl
  have HR := Lib.hid hr
  have hx : (w.alloc (.cells #[.int .i64 W, .int .i64 H, .slice A l.length c] 30)).heap[w.heap.size]? = some (.cells #[.int .i64 W, .int .i64 H, .slice A l.length c] 30 (0, 0)) := heap_alloc_new w _
  have HX := Lib.hid hx
  have HH0 := Lib.hid (HH.out.below HB0.out)
  have HZ : Hid (w.heap.size < (w.alloc (.cells #[.int .i64 W, .int .i64 H, .slice A l.length c] 30)).heap.size) := Lib.hid (by simp)
  clear hx hr
  go_wp2_with fail
  generalize w.alloc (.cells #[.int .i64 W, .int .i64 H, .slice A l.length c] 30) = w0 at *
  go_loopw [3] (fun i wr => ∃ k : Nat, k ≤ l.length ∧ i = .int .i64 k ∧ (l.take k).all pixB = true ∧ Below w0.heap.size w0 wr) (fun i _ => l.length - (intOf i).toNat)
  case atStart => exact ⟨0, Nat.zero_le _, rfl, rfl, Below.refl _ _⟩
  case round =>
    obtain ⟨k, hk, rfl, hall, hbel⟩ := hrel
    have HB := Lib.hid hbel
    have c2 : wr.cell? ⟨w.heap.size, 2, none⟩ = some (.slice A l.length c) := by rw [cell_of_row wr _ 2 _ _ _ ((hbel.block _ HZ.out).trans HX.out)]; rfl
    have HB2 := Lib.hid (HB0.out.trans (hbel.mono HB0.out.size))
    by_cases hlt : k < l.length
    · obtain ⟨b, o, p, rfl, hbB, hp, d0, d1, d2, d3⟩ := (HH0.out.below (hbel.mono (Nat.le_of_lt HZ.out))).spot hlt
      have HP := Lib.hid hp
      have CP := Lib.hid (specPixOk_any p)
      have HS := Lib.hid (all_snoc l k p hp)
      unfold Px.v at CP
      clear hbel hp
      go_wp2_with fail
      refine (CP.out _).mono ?_
      rintro e w2 ⟨rfl, b2⟩
      cases hpb : pixB p
      · have HF : Hid (rasB W H l = false) := Lib.hid (HR.out.trans (all_stop HP.out hpb))
        have HB3 := Lib.hid (HB2.out.trans (b2.mono HB2.out.size))
        clear b2
        go_wp2_with fail
        go_ret
        exact ⟨by rw [HF.out]; rfl, HB3.out⟩
      · have HB3 := Lib.hid (HB.out.trans (b2.mono HB.out.size))
        clear b2
        go_wp2_with fail
        go_roundw
        case rel => exact ⟨k + 1, by omega, by go_num, by rw [HS.out, hall, hpb]; rfl, HB3.out⟩
        case measure => simp [intOf]; omega
    · obtain rfl : k = l.length := by omega
      rw [List.take_of_length_le (Nat.le_refl _)] at hall
      have HF := Lib.hid (HR.out.trans hall)
      clear hbel hall
      go_wp2_with fail
      go_ret
      exact ⟨by rw [HF.out]; rfl, HB2.out⟩
end Go.Proofs.YtiemlakjallphabDoor
