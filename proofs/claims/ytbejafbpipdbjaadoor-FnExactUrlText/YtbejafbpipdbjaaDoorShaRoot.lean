/-
  The reference's roots: l1Square, l1Cube, l1Over, l1Root. Conditions: numbers of 64 bits.
-/
import Derived.Test.YtbejafbpipdbjaaDoorShaW
import Derived.Test.YtbejafbpipdbjaaDoorShaRM
namespace Go.Proofs.YtbejafbpipdbjaaDoor
set_option maxRecDepth 4000
open Go.RowKit

theorem wmul (a b : Nat) : IntKind.u64.wrap ((a : Int) * (b : Int)) = (w64 (a * b) : Int) := by
  rw [IntKind.wrap_u64, w64, Int.natCast_emod, Int.natCast_mul]; rfl
theorem wadd (a b : Nat) : IntKind.u64.wrap ((a : Int) + (b : Int)) = (w64 (a + b) : Int) := by
  rw [IntKind.wrap_u64, w64, Int.natCast_emod, Int.natCast_add]; rfl
theorem idiv (a : Nat) : (a : Int) / 4294967296 = ((a / 4294967296 : Nat) : Int) := by omega
theorem imod (a : Nat) : (a : Int) % 4294967296 = ((a % 4294967296 : Nat) : Int) := by omega
theorem w64_lt (n : Nat) : w64 n < 18446744073709551616 := Nat.mod_lt _ (by decide)

set_option maxHeartbeats 1000000 in
theorem l1Square_any (y : Nat) (w : World) : Calls Tryd.prog 145 #[.int .u64 (y : Int)] w fun e w' =>
    e = .returned (.tuple #[.int .u64 (sqHi (y / 4294967296) (y % 4294967296) : Int), .int .u64 (sqLo (y / 4294967296) (y % 4294967296) : Int)]) ∧ w' = w := by
  have e1 := idiv y
  have e2 := imod y
  generalize y / 4294967296 = hi at *
  generalize y % 4294967296 = lo at *
  have m1 : IntKind.u64.wrap (2 * (hi : Int)) = (w64 (2 * hi) : Int) := wmul 2 hi
  have m2 := wmul (w64 (2 * hi)) lo
  have m3 := wmul lo lo
  have m4 := idiv (w64 (lo * lo))
  have m5 : IntKind.u64.wrap ((w64 (w64 (2 * hi) * lo) : Int) + ((w64 (lo * lo) / 4294967296 : Nat) : Int)) = (sqMid hi lo : Int) := wadd _ _
  have m6 := wmul hi hi
  have m7 := idiv (sqMid hi lo)
  have m8 : IntKind.u64.wrap ((w64 (hi * hi) : Int) + ((sqMid hi lo / 4294967296 : Nat) : Int)) = (sqHi hi lo : Int) := wadd _ _
  have m9 := imod (sqMid hi lo)
  have m10 : IntKind.u64.wrap (((sqMid hi lo % 4294967296 : Nat) : Int) * 4294967296) = (w64 (sqMid hi lo % 4294967296 * 4294967296) : Int) := wmul _ 4294967296
  have m11 := imod (w64 (lo * lo))
  have m12 : IntKind.u64.wrap ((w64 (sqMid hi lo % 4294967296 * 4294967296) : Int) + ((w64 (lo * lo) % 4294967296 : Nat) : Int)) = (sqLo hi lo : Int) := wadd _ _
  generalize w64 (w64 (2 * hi) * lo) = a2 at *
  generalize w64 (2 * hi) = a1 at *
  generalize w64 (lo * lo) % 4294967296 = a5 at *
  generalize w64 (lo * lo) / 4294967296 = a4 at *
  generalize w64 (lo * lo) = a3 at *
  generalize w64 (hi * hi) = a6 at *
  generalize sqHi hi lo = rH at *
  generalize sqLo hi lo = rL at *
  generalize w64 (sqMid hi lo % 4294967296 * 4294967296) = a9 at *
  generalize sqMid hi lo % 4294967296 = a8 at *
  generalize sqMid hi lo / 4294967296 = a7 at *
  generalize sqMid hi lo = mid at *
  go_enter Tryd.func145, Tryd.ntmps145
  go_wp2
  go_ret2
  exact ⟨rfl, rfl⟩

set_option maxHeartbeats 1000000 in
theorem l1Cube_any (y : Nat) (w : World) : Calls Tryd.prog 144 #[.int .u64 (y : Int)] w fun e w' => e = .returned (.int .u64 (cube y : Int)) ∧ w' = w := by
  have HC := Lib.hid (l1Square_any y w)
  have hcube : cube y = cubeOf (sqHi (y / 4294967296) (y % 4294967296)) (sqLo (y / 4294967296) (y % 4294967296)) (y / 4294967296) (y % 4294967296) := by simp only [cube, now_eq]
  rw [hcube]
  clear hcube
  have e1 := idiv y
  have e2 := imod y
  generalize sqHi (y / 4294967296) (y % 4294967296) = hi at *
  generalize sqLo (y / 4294967296) (y % 4294967296) = rest at *
  generalize y / 4294967296 = yh at *
  generalize y % 4294967296 = yl at *
  have e3 := idiv rest
  have e4 := imod rest
  have hco : cubeOf hi rest yh yl = w64 (w64 (hi * yh) + cubeTwo (rest / 4294967296) yh hi yl (cubeOne (rest / 4294967296) (rest % 4294967296) yl) (cubeLow (cubeOne (rest / 4294967296) (rest % 4294967296) yl) (rest % 4294967296) yh) / 4294967296) := rfl
  rw [hco]
  clear hco
  generalize rest / 4294967296 = b at *
  generalize rest % 4294967296 = a at *
  have m1 := wmul b yl
  have m2 := wmul a yl
  have m3 := idiv (w64 (a * yl))
  have m4 : IntKind.u64.wrap ((w64 (b * yl) : Int) + ((w64 (a * yl) / 4294967296 : Nat) : Int)) = (cubeOne b a yl : Int) := wadd _ _
  generalize cubeOne b a yl = one at *
  have m5 := imod one
  have m6 := wmul a yh
  have m7 : IntKind.u64.wrap (((one % 4294967296 : Nat) : Int) + (w64 (a * yh) : Int)) = (cubeLow one a yh : Int) := wadd _ _
  generalize cubeLow one a yh = low at *
  have m8 := wmul b yh
  have m9 := wmul hi yl
  have m10 := wadd (w64 (b * yh)) (w64 (hi * yl))
  have m11 := idiv one
  have m12 := wadd (w64 (w64 (b * yh) + w64 (hi * yl))) (one / 4294967296)
  have m13 := idiv low
  have m14 : IntKind.u64.wrap ((w64 (w64 (w64 (b * yh) + w64 (hi * yl)) + one / 4294967296) : Int) + ((low / 4294967296 : Nat) : Int)) = (cubeTwo b yh hi yl one low : Int) := wadd _ _
  generalize cubeTwo b yh hi yl one low = two at *
  have m15 := wmul hi yh
  have m16 := idiv two
  have m17 := wadd (w64 (hi * yh)) (two / 4294967296)
  generalize w64 (w64 (hi * yh) + two / 4294967296) = res at *
  generalize w64 (hi * yh) = a15 at *
  generalize two / 4294967296 = a16 at *
  generalize w64 (w64 (w64 (b * yh) + w64 (hi * yl)) + one / 4294967296) = a12 at *
  generalize w64 (w64 (b * yh) + w64 (hi * yl)) = a10 at *
  generalize w64 (b * yh) = a8 at *
  generalize w64 (hi * yl) = a9 at *
  generalize one / 4294967296 = a11 at *
  generalize one % 4294967296 = a5 at *
  generalize low / 4294967296 = a13 at *
  generalize w64 (a * yh) = a6 at *
  generalize w64 (a * yl) / 4294967296 = a3 at *
  generalize w64 (a * yl) = a2 at *
  generalize w64 (b * yl) = a1 at *
  go_enter Tryd.func144, Tryd.ntmps144
  go_wp2_with fail
  refine HC.out.mono ?_
  rintro e w' ⟨rfl, rfl⟩
  go_wp2
  go_ret
  exact ⟨rfl, rfl⟩

set_option maxHeartbeats 1000000 in
theorem l1Over_any (y p : Nat) (three : Bool) (t : Int) (ht : t = if three then 3 else 2) (w : World) :
    Calls Tryd.prog 137 #[.int .u64 (y : Int), .int .i64 t, .int .u64 (p : Int)] w fun e w' => e = .returned (.bool (over y three p)) ∧ w' = w := by
  cases three
  · simp at ht
    subst ht
    have ho : over y false p = decide (p ≤ sqHi (y / 4294967296) (y % 4294967296)) := rfl
    rw [ho]
    clear ho
    have HC := Lib.hid (l1Square_any y w)
    generalize sqHi (y / 4294967296) (y % 4294967296) = hi at *
    generalize sqLo (y / 4294967296) (y % 4294967296) = lo at *
    go_enter Tryd.func137, Tryd.ntmps137
    go_wp2_with fail
    refine HC.out.mono ?_
    rintro e w' ⟨rfl, rfl⟩
    go_wp2
    go_ret
    exact ⟨rfl, rfl⟩
  · simp at ht
    subst ht
    have ho : over y true p = decide (p ≤ cube y) := rfl
    rw [ho]
    clear ho
    have HC := Lib.hid (l1Cube_any y w)
    generalize cube y = c at *
    go_enter Tryd.func137, Tryd.ntmps137
    go_wp2_with fail
    refine HC.out.mono ?_
    rintro e w' ⟨rfl, rfl⟩
    go_wp2
    go_ret
    exact ⟨rfl, rfl⟩

theorem rootN_succ (p : Nat) (three : Bool) (j : Nat) : rootN p three (j + 1) = if decide (w64 (rootN p three j + 2 ^ (37 - j)) / 4294967296 ≤ 20) && !over (w64 (rootN p three j + 2 ^ (37 - j))) three p then w64 (rootN p three j + 2 ^ (37 - j)) else rootN p three j := by
  simp only [rootN, now_eq, rootStep]

theorem rootN_lt (p : Nat) (three : Bool) : ∀ j, rootN p three j < 18446744073709551616
  | 0 => by simp [rootN]
  | j + 1 => by
    rw [rootN_succ]
    split
    · exact w64_lt _
    · exact rootN_lt p three j
theorem root_lt (p : Nat) (three : Bool) : root p three < 4294967296 := Nat.mod_lt _ (by decide)

set_option maxHeartbeats 1000000 in
theorem l1Root_any (p : Nat) (three : Bool) (t : Int) (ht : t = if three then 3 else 2) (w : World) :
    Calls Tryd.prog 111 #[.int .u64 (p : Int), .int .i64 t] w fun e w' => e = .returned (.int .u64 (root p three : Int)) ∧ w' = w := by
  have CO := Lib.hid fun y => l1Over_any y p three t ht w
  have hroot : root p three = rootN p three 38 % 4294967296 := rfl
  have HR := Lib.hid hroot
  clear hroot ht
  go_enter Tryd.func111, Tryd.ntmps111
  go_wp2
  go_loop [5, 6] (fun x i => ∃ j : Nat, j ≤ 38 ∧ i = .int .i64 (37 - (j : Int)) ∧ x = .int .u64 (rootN p three j : Int)) (fun _ i => (intOf i + 1).toNat)
  case atStart => exact ⟨0, by omega, rfl, rfl⟩
  case round =>
    obtain ⟨j, hj, rfl, rfl⟩ := hrel
    by_cases hlt : j < 38
    · have hk : 0 ≤ 37 - (j : Int) := by omega
      have HS := Lib.hid (rootN_succ p three j)
      generalize rootN p three j = x at *
      obtain ⟨P, hP⟩ : ∃ P : Nat, 2 ^ (37 - j) = P := ⟨_, rfl⟩
      have hP1 : P ≤ 2 ^ 37 := by rw [← hP]; exact Nat.pow_le_pow_right (by decide) (by omega)
      have e1 : IntKind.u64.wrap (2 ^ (37 - j)) = (P : Int) := by
        rw [show (2 : Int) ^ (37 - j) = ((2 ^ (37 - j) : Nat) : Int) from by simp, hP]
        exact wrap64u _ (by omega) (by omega)
      have e2 := wadd x P
      rw [hP] at HS
      clear hP hP1
      generalize w64 (x + P) = Y at *
      have e3 := idiv Y
      have CY := Lib.hid (CO.out Y)
      generalize over Y three p = ov at *
      by_cases hq : Y / 4294967296 ≤ 20
      · have hq1 : ((Y / 4294967296 : Nat) : Int) ≤ 20 := by omega
        have hd : decide (Y / 4294967296 ≤ 20) = true := decide_eq_true hq
        rw [hd] at HS
        clear hq hd
        generalize Y / 4294967296 = q at *
        go_wp2_with fail
        refine CY.out.mono ?_
        rintro e w' ⟨rfl, rfl⟩
        cases ov
        · simp at HS
          go_wp2
          go_round
          case rel => exact ⟨j + 1, by omega, by go_num, by rw [HS.out]⟩
          case measure => simp [intOf]; omega
        · simp at HS
          go_wp2
          go_round
          case rel => exact ⟨j + 1, by omega, by go_num, by rw [HS.out]⟩
          case measure => simp [intOf]; omega
      · have hq1 : 20 < ((Y / 4294967296 : Nat) : Int) := by omega
        have hd : decide (Y / 4294967296 ≤ 20) = false := decide_eq_false hq
        rw [hd] at HS
        simp at HS
        clear hq hd
        generalize Y / 4294967296 = q at *
        go_wp2
        go_round
        case rel => exact ⟨j + 1, by omega, by go_num, by rw [HS.out]⟩
        case measure => simp [intOf]; omega
    · obtain rfl : j = 38 := by omega
      have hlt64 : (rootN p three 38 : Int) < 18446744073709551616 := by have := rootN_lt p three 38; omega
      go_wp2_with fail
      refine (l1Word_any _ _ (by omega) hlt64).mono ?_
      rintro e w' ⟨rfl, rfl⟩
      go_wp2
      go_ret
      exact ⟨by rw [HR.out]; rfl, rfl⟩
end Go.Proofs.YtbejafbpipdbjaaDoor
