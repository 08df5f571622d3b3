/-
  OpOk of the program tells whether an operation is one. Condition: the table of ranges reads as the program's text lays it.
-/
import Derived.Test.YtbejafbpipdbjaaDoorRanT
namespace Go.Proofs.YtbejafbpipdbjaaDoor
set_option maxRecDepth 4000
open Go.RowKit

theorem par_index (o : Op) (i : Nat) (hi : i < 4) (w : World) : (Instr.index 91 (.agg #[.int .i64 o.a, .int .i64 o.b, .int .i64 o.c, .int .i64 o.d]) (.int .i64 (i : Int))).run Tryd.prog w = .ok (.int .i64 (o.par i)) w := by
  have : i = 0 ∨ i = 1 ∨ i = 2 ∨ i = 3 := by omega
  rcases this with rfl | rfl | rfl | rfl <;> rfl
set_option maxHeartbeats 1000000 in
theorem implOpOk_any (o : Op) (w : World) (hR : RangesIn w) : Calls Tryd.prog 34 #[o.v] w fun e w' => e = .returned (.bool (opB o)) ∧ Below w.heap.size w w' := by
  have HO := Lib.hid (opB_ranges o)
  obtain ⟨k, a, b, c, d⟩ := o
  unfold Op.v
  have hb0 : Below w.heap.size w (w.alloc (.cells #[.int .i64 k, .int .i64 a, .int .i64 b, .int .i64 c, .int .i64 d] 25)) := (Below.refl _ w).alloc (Nat.le_refl _) _
  have hx0 : OpAtB (w.alloc (.cells #[.int .i64 k, .int .i64 a, .int .i64 b, .int .i64 c, .int .i64 d] 25)) w.heap.size ⟨k, a, b, c, d⟩ := heap_alloc_new w _
  by_cases hk1 : k < 1
  · have HF : Hid (opB ⟨k, a, b, c, d⟩ = false) := Lib.hid (by rw [HO.out, decide_eq_false (by simp only; omega)]; rfl)
    have HB := Lib.hid hb0
    clear hb0 hx0 hR
    go_enter Tryd.func34, Tryd.ntmps34
    go_wp2_with fail
    go_ret
    exact ⟨by rw [HF.out]; rfl, HB.out⟩
  by_cases hk8 : k > 8
  · have HF : Hid (opB ⟨k, a, b, c, d⟩ = false) := Lib.hid (by rw [HO.out, decide_eq_false (by simp only; omega)]; rfl)
    have HB := Lib.hid hb0
    clear hb0 hx0 hR
    go_enter Tryd.func34, Tryd.ntmps34
    go_wp2_with fail
    go_ret
    exact ⟨by rw [HF.out]; rfl, HB.out⟩
  obtain ⟨K, rfl⟩ : ∃ K : Nat, k = (K : Int) := ⟨k.toNat, by omega⟩
  have hR0 := hR.below hb0 hR.1
  have HE : Hid (opB ⟨(K : Int), a, b, c, d⟩ = (List.range 4).all fun i => decide ((rangeP K i).1 ≤ (⟨(K : Int), a, b, c, d⟩ : Op).par i ∧ (⟨(K : Int), a, b, c, d⟩ : Op).par i ≤ (rangeP K i).2)) := Lib.hid (by rw [HO.out, decide_eq_true (by simp only; omega), Bool.true_and]; rfl)
  have HB0 := Lib.hid hb0
  have HX0 := Lib.hid hx0
  have HR0 := Lib.hid hR0
  have HP : Hid (∀ (i : Nat), i < 4 → ∀ w, (Instr.index 91 (.agg #[.int .i64 a, .int .i64 b, .int .i64 c, .int .i64 d]) (.int .i64 (i : Int))).run Tryd.prog w = .ok (.int .i64 ((⟨(K : Int), a, b, c, d⟩ : Op).par i)) w) := Lib.hid (par_index ⟨(K : Int), a, b, c, d⟩)
  have hz0 : w.heap.size < (w.alloc (.cells #[.int .i64 (K : Int), .int .i64 a, .int .i64 b, .int .i64 c, .int .i64 d] 25)).heap.size := by simp
  have HZ0 := Lib.hid hz0
  clear hb0 hx0 hR hR0 HO hz0
  generalize (⟨(K : Int), a, b, c, d⟩ : Op).par = par at *
  go_enter Tryd.func34, Tryd.ntmps34
  go_wp2_with fail
  go_loopw [23] (fun i wr => ∃ n : Nat, n ≤ 4 ∧ i = .int .i64 n ∧ (∀ j, j < n → (rangeP K j).1 ≤ par j ∧ par j ≤ (rangeP K j).2) ∧ Below w.heap.size w wr ∧ OpAtB wr w.heap.size ⟨(K : Int), a, b, c, d⟩ ∧ RangesIn wr) (fun i _ => 4 - (intOf i).toNat)
  case atStart => exact ⟨0, by omega, rfl, fun j hj => by omega, HB0.out, HX0.out, HR0.out⟩
  case round =>
    obtain ⟨n, hn, rfl, hall, hbel, hx, hran⟩ := hrel
    have HB := Lib.hid hbel
    by_cases hlt : n < 4
    · have hpn := HP.out n hlt
      obtain ⟨lo, hlo⟩ : ∃ lo, (rangeP K n).1 = lo := ⟨_, rfl⟩
      obtain ⟨hi, hhi⟩ : ∃ hi, (rangeP K n).2 = hi := ⟨_, rfl⟩
      obtain ⟨t0, t1⟩ := hran.2 K n (by omega) hlt
      rw [hlo] at t0
      rw [hhi] at t1
      obtain ⟨x0, x1, x2, x3, x4⟩ := hx.cs
      have hK : (0 : Int) ≤ (K : Int) ∧ (K : Int) < 9 := by omega
      have hnI : (0 : Int) ≤ (n : Int) ∧ (n : Int) < 4 := by omega
      have HX := Lib.hid hx
      have HRA := Lib.hid hran
      have HA := Lib.hid hall
      clear hall hbel hx hran x1 x2 x3 x4
      obtain ⟨p, hp⟩ : ∃ p, par n = p := ⟨_, rfl⟩
      rw [hp] at hpn
      have HPN := Lib.hid hp
      have HLH := Lib.hid (And.intro hlo hhi)
      clear hp hlo hhi
      by_cases h1 : p < lo
      · have HF : Hid (opB ⟨(K : Int), a, b, c, d⟩ = false) := Lib.hid (by
          rw [HE.out, List.all_eq_false]
          exact ⟨n, by simpa using hlt, by rw [HLH.out.1, HPN.out, decide_eq_false (by omega)]; decide⟩)
        go_wp2_with fail
        go_ret
        exact ⟨by rw [HF.out]; rfl, HB.out.alloc HB.out.size _⟩
      by_cases h2 : p > hi
      · have HF : Hid (opB ⟨(K : Int), a, b, c, d⟩ = false) := Lib.hid (by
          rw [HE.out, List.all_eq_false]
          exact ⟨n, by simpa using hlt, by rw [HLH.out.2, HPN.out, decide_eq_false (by omega)]; decide⟩)
        go_wp2_with fail
        go_ret
        exact ⟨by rw [HF.out]; rfl, HB.out.alloc HB.out.size _⟩
      · go_wp2_with fail
        go_roundw
        case rel =>
          have b1 : Below wr.heap.size wr (wr.alloc (.cells #[.int .i64 lo, .int .i64 hi] 93)) := (Below.refl _ wr).alloc (Nat.le_refl _) _
          refine ⟨n + 1, by omega, by go_num, fun j hj => ?_, HB.out.alloc HB.out.size _, Box.alloc HX.out _, HRA.out.next b1⟩
          by_cases hjn : j < n
          · exact HA.out j hjn
          · obtain rfl : j = n := by omega
            rw [HLH.out.1, HLH.out.2, HPN.out]
            omega
        case measure => simp [intOf]; omega
    · obtain rfl : n = 4 := by omega
      have HT : Hid (opB ⟨(K : Int), a, b, c, d⟩ = true) := Lib.hid (by
        rw [HE.out, List.all_eq_true]
        intro i hi
        exact decide_eq_true (hall i (by simpa using hi)))
      clear hall hx hran
      go_wp2_with fail
      go_ret
      exact ⟨by rw [HT.out]; rfl, HB.out⟩
end Go.Proofs.YtbejafbpipdbjaaDoor
