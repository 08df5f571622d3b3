/-
  The reference's words: l1Word and l1Turn. Conditions: numbers of 64 bits, a turn by 1 to 31 places.
-/
import Derived.Test.YtbejafbpipdbjaaDoorBase
import Derived.Test.YtbejafbpipdbjaaDoorShaM
import Derived.Laws.BitsAllLaws
import Derived.Laws.Bits64
namespace Go.Proofs.YtbejafbpipdbjaaDoor
set_option maxRecDepth 4000
open Go.RowKit

theorem rotr_lt (x n : Nat) : rotr x n < 4294967296 := Nat.mod_lt _ (by decide)
theorem xor32 {a b : Nat} (ha : a < 4294967296) (hb : b < 4294967296) : a ^^^ b < 4294967296 := Nat.xor_lt_two_pow (n := 32) ha hb
theorem and32 {a b : Nat} (hb : b < 4294967296) : a &&& b < 4294967296 := Nat.lt_of_le_of_lt Nat.and_le_right hb
theorem shr32 {a : Nat} (n : Nat) (ha : a < 4294967296) : a >>> n < 4294967296 := by
  rw [Nat.shiftRight_eq_div_pow]; exact Nat.lt_of_le_of_lt (Nat.div_le_self _ _) ha
theorem bigS1_lt (e : Nat) : bigS1 e < 4294967296 := xor32 (xor32 (rotr_lt _ _) (rotr_lt _ _)) (rotr_lt _ _)
theorem bigS0_lt (e : Nat) : bigS0 e < 4294967296 := xor32 (xor32 (rotr_lt _ _) (rotr_lt _ _)) (rotr_lt _ _)
theorem smallS0_lt {x : Nat} (h : x < 4294967296) : smallS0 x < 4294967296 := xor32 (xor32 (rotr_lt _ _) (rotr_lt _ _)) (shr32 _ h)
theorem smallS1_lt {x : Nat} (h : x < 4294967296) : smallS1 x < 4294967296 := xor32 (xor32 (rotr_lt _ _) (rotr_lt _ _)) (shr32 _ h)
theorem choose_lt {e f g : Nat} (hf : f < 4294967296) (hg : g < 4294967296) : choose e f g < 4294967296 := xor32 (and32 hf) (and32 hg)
theorem most_lt {a b c : Nat} (hb : b < 4294967296) (hc : c < 4294967296) : most a b c < 4294967296 := xor32 (xor32 (and32 hb) (and32 hc)) (and32 hc)

theorem wrap64u (z : Int) (h0 : 0 ≤ z) (h1 : z < 18446744073709551616) : IntKind.u64.wrap z = z := by rw [IntKind.wrap_u64]; omega

theorem l1Word_any (z : Int) (w : World) (h0 : 0 ≤ z) (_h1 : z < 18446744073709551616) :
    Calls Tryd.prog 115 #[.int .u64 z] w fun e w' => e = .returned (.int .u64 (z % 4294967296)) ∧ w' = w := by
  clear _h1
  go_enter Tryd.func115, Tryd.ntmps115
  go_wp2
  go_ret
  exact ⟨rfl, rfl⟩

theorem turn_or (x n : Nat) (hx : x < 4294967296) (h0 : 0 < n) (hn : n < 32) : bits .or .u64 ((x : Int) / 2 ^ n) (IntKind.u64.wrap ((x : Int) * 2 ^ (32 - n))) = ((x >>> n ||| x <<< (32 - n) : Nat) : Int) := by
  have hp : 2 ^ (32 - n) ≤ 2 ^ 31 := Nat.pow_le_pow_right (by decide) (by omega)
  have hm : x * 2 ^ (32 - n) ≤ 4294967295 * 2 ^ 31 := Nat.mul_le_mul (by omega) hp
  have e1 : (x : Int) / 2 ^ n = ((x >>> n : Nat) : Int) := by rw [Nat.shiftRight_eq_div_pow]; simp
  have e2 : IntKind.u64.wrap ((x : Int) * 2 ^ (32 - n)) = ((x <<< (32 - n) : Nat) : Int) := by
    rw [Nat.shiftLeft_eq, show (x : Int) * 2 ^ (32 - n) = ((x * 2 ^ (32 - n) : Nat) : Int) from by simp]
    exact wrap64u _ (by omega) (by omega)
  rw [e1, e2]
  refine u64_or_nat _ _ ?_ ?_
  · rw [Nat.shiftRight_eq_div_pow]; have := Nat.div_le_self x (2 ^ n); omega
  · rw [Nat.shiftLeft_eq]; omega
theorem turn_lt (x n : Nat) (hx : x < 4294967296) (h0 : 0 < n) : x >>> n ||| x <<< (32 - n) < 18446744073709551616 := by
  have hp : 2 ^ (32 - n) ≤ 2 ^ 31 := Nat.pow_le_pow_right (by decide) (by omega)
  have hm : x * 2 ^ (32 - n) ≤ 4294967295 * 2 ^ 31 := Nat.mul_le_mul (by omega) hp
  refine Nat.or_lt_two_pow (n := 64) ?_ ?_
  · rw [Nat.shiftRight_eq_div_pow]; have := Nat.div_le_self x (2 ^ n); omega
  · rw [Nat.shiftLeft_eq]; omega

theorem l1Turn_nat (x n : Nat) (w : World) (hx : x < 4294967296) (h0 : 0 < n) (hn : n < 32) :
    Calls Tryd.prog 138 #[.int .u64 (x : Int), .int .u64 (n : Int)] w fun e w' => e = .returned (.int .u64 (rotr x n : Int)) ∧ w' = w := by
  have HT := Lib.hid (turn_or x n hx h0 hn)
  have HL := Lib.hid (turn_lt x n hx h0)
  have hr : rotr x n = (x >>> n ||| x <<< (32 - n)) % 4294967296 := rfl
  have HR := Lib.hid hr
  clear hr
  go_enter Tryd.func138, Tryd.ntmps138
  go_wp2_with fail
  rw [HT.out]
  generalize (x >>> n ||| x <<< (32 - n)) = y at *
  refine (l1Word_any (y : Int) _ (by omega) (by have := HL.out; omega)).mono ?_
  rintro e w' ⟨rfl, rfl⟩
  go_wp2
  go_ret
  exact ⟨by rw [HR.out]; rfl, rfl⟩
theorem l1Turn_any (x : Nat) (t : Int) (w : World) (hx : x < 4294967296) (h0 : 0 < t) (hn : t < 32) :
    Calls Tryd.prog 138 #[.int .u64 (x : Int), .int .u64 t] w fun e w' => e = .returned (.int .u64 (rotr x t.toNat : Int)) ∧ w' = w := by
  obtain ⟨n, rfl⟩ := Int.eq_ofNat_of_zero_le (show 0 ≤ t by omega)
  rw [Int.toNat_natCast]
  exact l1Turn_nat x n w hx (by omega) (by omega)
end Go.Proofs.YtbejafbpipdbjaaDoor
