/-
  The law FnOpOk returns true for every list of bytes to draw from. Condition: the table of ranges reads as the program's text lays it.
-/
import Derived.Test.YthdggnfffebnlaaDoorRanL
import Derived.Test.YthdggnfffebnlaaDoorRanI
import Derived.Test.YthdggnfffebnlaaDoorOpOkS
import Derived.Test.YthdggnfffebnlaaDoorDrawOpA
import Derived.Test.YthdggnfffebnlaaDoorEaOk
namespace Go.Proofs.YthdggnfffebnlaaDoor
set_option maxRecDepth 4000
open Go.RowKit

theorem opB_four {o : Op} (h : opB o = true) (h1 : o.k ≠ 1) : opB ⟨o.k, o.a, o.b, o.c, 1⟩ = false := by
  obtain ⟨k, a, b, c, d⟩ := o
  rw [opB_alt] at h ⊢
  simp only at h h1 ⊢
  rw [if_neg h1] at h ⊢
  have h0 : inR 1 0 0 = false := rfl
  rw [h0]
  simp
theorem opB_none {k : Int} (h2 : 2 ≤ k) (h6 : k ≤ 6) : opB ⟨k, 0, 0, 0, 0⟩ = true := by
  rw [opB_alt]
  simp only
  rw [if_neg (by omega), if_neg (by omega), if_neg (by omega)]
  have h0 : inR 0 0 0 = true := rfl
  rw [h0]
  unfold inR
  rw [decide_eq_true (by omega)]
  rfl
set_option maxHeartbeats 2000000 in
theorem fnOpOk_small (A : Option Addr) (c : Nat) (l : List UInt8) (w : World) (hR : RangesIn w) (h : Has w w.heap.size A l) (hc : l.length ≤ c) (hs : l.length ≤ 1048576) :
    Calls Tryd.prog 4 #[.slice A l.length c] w fun e w' => e = .returned (.bool true) ∧ Below w.heap.size w w' := by
  have C1 := Lib.hid (drawOpOk_any A c l w (by omega) hc h)
  have CI := Lib.hid fun (o : Op) u hu => implOpOk_any o u hu
  have CS := Lib.hid fun (o : Op) u => specOpOk_any o u
  have HR := Lib.hid hR
  have hl0 : ¬ ((1048576 : Int) < (l.length : Int)) := by omega
  unfold Op.v at CI CS
  clear h hs hc hR
  go_enter Tryd.func4, Tryd.ntmps4
  go_wp2_with fail
  refine C1.out.mono ?_
  rintro e w1 ⟨o, rfl, B1⟩
  unfold Op.v
  have hx2 : OpAtB (w1.alloc (.cells #[.int .i64 o.k, .int .i64 o.a, .int .i64 o.b, .int .i64 o.c, .int .i64 o.d] 25)) w1.heap.size o := Box.new w1 _ _
  have B2 : Below w.heap.size w (w1.alloc (.cells #[.int .i64 o.k, .int .i64 o.a, .int .i64 o.b, .int .i64 o.c, .int .i64 o.d] 25)) := B1.alloc B1.size _
  obtain ⟨X, hX⟩ : ∃ X, w1.heap.size = X := ⟨_, rfl⟩
  have hXw : w.heap.size ≤ X := by have := B1.size; omega
  rw [hX] at hx2
  have HX2 := Lib.hid hx2
  have HB2 := Lib.hid B2
  clear B1 hx2 B2
  go_wp2_with fail
  try rw [hX]
  generalize w1.alloc (.cells #[.int .i64 o.k, .int .i64 o.a, .int .i64 o.b, .int .i64 o.c, .int .i64 o.d] 25) = w2 at *
  obtain ⟨x0, x1, x2, x3, x4⟩ := HX2.out.cs
  go_wp2_with fail
  refine (CI.out o _ (HR.out.below HB2.out HR.out.1)).mono ?_
  rintro e w3 ⟨rfl, b3⟩
  have hx3 : OpAtB w3 X o := Box.next HX2.out b3
  have B3 := HB2.out.trans (b3.mono HB2.out.size)
  clear x0 x1 x2 x3 x4 b3
  have HB3 := Lib.hid B3
  have HX3 := Lib.hid hx3
  obtain ⟨x0, x1, x2, x3, x4⟩ := hx3.cs
  clear B3 hx3
  obtain ⟨q, hq⟩ : ∃ q, opB o = q := ⟨_, rfl⟩
  have CS2 := Lib.hid (CS.out o)
  rw [hq] at CS2 ⊢
  have HQ := Lib.hid hq
  clear hq
  go_wp2_with fail
  refine (CS2.out _).mono ?_
  rintro e w4 ⟨rfl, b4⟩
  have hx4 : OpAtB w4 X o := Box.next HX3.out b4
  have HB4 := Lib.hid (HB3.out.trans (b4.mono HB3.out.size))
  have HX4 := Lib.hid hx4
  clear b4 x0 x1 x2 x3 x4
  obtain ⟨x0, x1, x2, x3, x4⟩ := hx4.cs
  have zx := Box.lt hx4
  clear hx4
  cases q
  · go_wp2_with fail
    refine (eaOk_any _).mono ?_
    rintro e w5 ⟨rfl, b5⟩
    have HB5 := Lib.hid (HB4.out.trans (b5.mono HB4.out.size))
    clear b5
    go_wp2_with fail
    go_ret
    exact ⟨rfl, HB5.out⟩
  · have HX5 : Hid (OpAtB (w4.alloc (.cells #[.int .i64 o.k, .int .i64 o.a, .int .i64 o.b, .int .i64 o.c, .int .i64 1] 25)) X o) := Lib.hid (Box.alloc HX4.out _)
    have HB5 := Lib.hid (HB4.out.alloc HB4.out.size (.cells #[.int .i64 o.k, .int .i64 o.a, .int .i64 o.b, .int .i64 o.c, .int .i64 1] 25))
    by_cases h1 : o.k = 1
    · have e1 : (o.k != 1) = false := by rw [h1]; rfl
      have h2 : ¬ (2 ≤ o.k) := by omega
      clear h1
      go_wp2_with fail
      go_ret
      exact ⟨rfl, HB5.out⟩
    · have e1 : (o.k != 1) = true := bne_iff_ne.2 h1
      have hf := opB_four HQ.out h1
      have CX := Lib.hid (CI.out ⟨o.k, o.a, o.b, o.c, 1⟩)
      rw [hf] at CX
      clear hf
      go_wp2_with fail
      generalize w4.alloc (.cells #[.int .i64 o.k, .int .i64 o.a, .int .i64 o.b, .int .i64 o.c, .int .i64 1] 25) = w5 at *
      refine (CX.out _ (HR.out.below HB5.out HR.out.1)).mono ?_
      rintro e w6 ⟨rfl, b6⟩
      have hx6 : OpAtB w6 X o := Box.next HX5.out b6
      have HB6 := Lib.hid (HB5.out.trans (b6.mono HB5.out.size))
      clear b6 x0 x1 x2 x3 x4 zx
      obtain ⟨x0, x1, x2, x3, x4⟩ := hx6.cs
      clear hx6
      by_cases h26 : 2 ≤ o.k ∧ o.k ≤ 6
      · obtain ⟨h2, h6⟩ := h26
        go_wp2_with fail
        go_loopw [6] (fun v wr => ∃ k : Nat, 2 ≤ k ∧ k ≤ 7 ∧ v = .int .i64 (k : Int) ∧ Below w.heap.size w wr) (fun v _ => 7 - (intOf v).toNat)
        case atStart => exact ⟨2, by omega, by omega, rfl, HB6.out⟩
        case round =>
          obtain ⟨k, hk2, hk7, rfl, hbel⟩ := hrel
          have HBk := Lib.hid hbel
          by_cases hlt : k ≤ 6
          · have hop := opB_none (k := (k : Int)) (by omega) (by omega)
            have CK := Lib.hid (CI.out ⟨(k : Int), 0, 0, 0, 0⟩)
            rw [hop] at CK
            clear hop hbel
            go_wp2_with fail
            refine (CK.out _ (HR.out.below HBk.out HR.out.1)).mono ?_
            rintro e w7 ⟨rfl, b7⟩
            have HB7 := Lib.hid (HBk.out.trans (b7.mono HBk.out.size))
            clear b7
            go_wp2_with fail
            go_roundw
            case rel => exact ⟨k + 1, by omega, by omega, by go_num, HB7.out⟩
            case measure => simp [intOf]; omega
          · clear hbel
            go_wp2_with fail
            go_ret
            exact ⟨rfl, HBk.out⟩
      · by_cases h2 : 2 ≤ o.k
        · have h6 : ¬ (o.k ≤ 6) := fun h => h26 ⟨h2, h⟩
          clear h26
          go_wp2_with fail
          go_ret
          exact ⟨rfl, HB6.out⟩
        · clear h26
          go_wp2_with fail
          go_ret
          exact ⟨rfl, HB6.out⟩
theorem fnOpOk_walk (A : Option Addr) (c : Nat) (l : List UInt8) (w : World) (hR : RangesIn w) (h : Has w w.heap.size A l) (hc : l.length ≤ c) :
    Calls Tryd.prog 4 #[.slice A l.length c] w fun e w' => e = .returned (.bool true) ∧ Below w.heap.size w w' := by
  by_cases hbig : l.length ≤ 1048576
  · exact fnOpOk_small A c l w hR h hc hbig
  · have hl0 : (1048576 : Int) < (l.length : Int) := by omega
    clear h hc hbig
    go_enter Tryd.func4, Tryd.ntmps4
    go_wp2_with fail
    go_ret
    exact ⟨rfl, Below.refl _ _⟩
end Go.Proofs.YthdggnfffebnlaaDoor
