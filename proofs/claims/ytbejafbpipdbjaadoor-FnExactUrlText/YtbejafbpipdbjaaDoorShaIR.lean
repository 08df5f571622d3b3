/-
  The program's rotateRight turns a word to the right. Conditions: a word of 32 bits, 1 to 31 places.
-/
import Derived.Test.YtbejafbpipdbjaaDoorShaW
namespace Go.Proofs.YtbejafbpipdbjaaDoor
set_option maxRecDepth 4000
open Go.RowKit

theorem turn32 (x n : Nat) (hx : x < 4294967296) : bits .or .u32 (IntKind.u32.wrap ((x : Int) * 2 ^ (32 - n))) ((x : Int) / 2 ^ n) = (rotr x n : Int) := by
  have e1 : (x : Int) / 2 ^ n = ((x >>> n : Nat) : Int) := by rw [Nat.shiftRight_eq_div_pow]; simp
  have e2 : IntKind.u32.wrap ((x : Int) * 2 ^ (32 - n)) = ((x <<< (32 - n) % 4294967296 : Nat) : Int) := by
    rw [IntKind.wrap_u32, Nat.shiftLeft_eq, Int.natCast_emod, Int.natCast_mul]
    simp
  rw [e1, e2, u32_or_nat _ _ (Nat.mod_lt _ (by decide)) (shr32 n hx)]
  have hr : rotr x n = (x >>> n ||| x <<< (32 - n)) % 2 ^ 32 := rfl
  rw [hr, Nat.or_mod_two_pow, Nat.mod_eq_of_lt (shr32 n hx), Nat.or_comm]
theorem mask32 (n : Nat) (h0 : 0 < n) (hn : n < 32) : bits .and .u64 (IntKind.u64.wrap (-(n : Int))) 31 = ((32 - n : Nat) : Int) := by
  have e : IntKind.u64.wrap (-(n : Int)) = ((18446744073709551616 - n : Nat) : Int) := by rw [IntKind.wrap_u64]; omega
  rw [e]
  have := u64_and_nat (18446744073709551616 - n) 31 (by omega) (by omega)
  rw [show ((31 : Nat) : Int) = 31 from rfl] at this
  rw [this, nat_mask5]
  congr 1
  omega

set_option maxHeartbeats 400000 in
theorem rotateLeft_any (x n : Nat) (w : World) (hx : x < 4294967296) (h0 : 0 < n) (hn : n < 32) :
    Calls Tryd.prog 151 #[.int .u32 (x : Int), .int .i64 (-(n : Int))] w fun e w' => e = .returned (.int .u32 (rotr x n : Int)) ∧ w' = w := by
  have hm := mask32 n h0 hn
  have HT := Lib.hid (turn32 x n hx)
  generalize rotr x n = r at *
  go_enter Tryd.func151, Tryd.ntmps151
  go_wp2
  go_ret
  refine ⟨?_, rfl⟩
  show Ending.returned (.int .u32 (bits .or .u32 ((x : Int) * 2 ^ (32 - n) % 4294967296) ((x : Int) / 2 ^ (32 - (32 - n))))) = _
  rw [show 32 - (32 - n) = n from by omega, ← IntKind.wrap_u32, HT.out]

set_option maxHeartbeats 400000 in
theorem rotateRight_any (x : Nat) (t : Int) (w : World) (hx : x < 4294967296) (h0 : 0 < t) (hn : t < 32) :
    Calls Tryd.prog 150 #[.int .u32 (x : Int), .int .i64 t] w fun e w' => e = .returned (.int .u32 (rotr x t.toNat : Int)) ∧ w' = w := by
  obtain ⟨n, rfl⟩ := Int.eq_ofNat_of_zero_le (show 0 ≤ t by omega)
  rw [Int.toNat_natCast]
  go_enter Tryd.func150, Tryd.ntmps150
  go_wp2_with fail
  refine (rotateLeft_any x n _ hx (by omega) (by omega)).mono ?_
  rintro e w' ⟨rfl, rfl⟩
  go_wp2
  go_ret
  exact ⟨rfl, rfl⟩

theorem x32 {a b : Nat} (ha : a < 4294967296) (hb : b < 4294967296) : bits .xor .u32 (a : Int) (b : Int) = ((a ^^^ b : Nat) : Int) := u32_xor_nat a b ha hb
theorem a32 {a b : Nat} (ha : a < 4294967296) (hb : b < 4294967296) : bits .and .u32 (a : Int) (b : Int) = ((a &&& b : Nat) : Int) := u32_and_nat a b ha hb
theorem wrap32u (a b : Nat) : IntKind.u32.wrap ((a : Int) + (b : Int)) = (((a + b) % 4294967296 : Nat) : Int) := by rw [IntKind.wrap_u32]; omega

/-- Eight words as an array's value. -/
def Eight.agg (s : Eight) : Value := .agg #[.int .u32 (s.a : Int), .int .u32 (s.b : Int), .int .u32 (s.c : Int), .int .u32 (s.d : Int), .int .u32 (s.e : Int), .int .u32 (s.f : Int), .int .u32 (s.g : Int), .int .u32 (s.h : Int)]
end Go.Proofs.YtbejafbpipdbjaaDoor
