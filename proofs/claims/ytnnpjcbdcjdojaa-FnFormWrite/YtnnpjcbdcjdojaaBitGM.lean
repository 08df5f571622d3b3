/-
  Bits of bytes as plain numbers. No condition.
-/
import Derived.Test.YtnnpjcbdcjdojaaBase
import Derived.Test.YtnnpjcbdcjdojaaBitOk
namespace Go.Proofs.Ytnnpjcbdcjdojaa
set_option maxRecDepth 4000
open Go.RowKit

/-- The bit at place a. -/
def bitAt (l : List UInt8) (a : Nat) : Nat := (l[a / 8]?.getD 0).toNat / 2 ^ (a % 8) % 2
/-- The number that k bits make, from place a on, the lowest first. -/
def getN (l : List UInt8) (a : Nat) : Nat → Nat
  | 0 => 0
  | k + 1 => getN l a k + bitAt l (a + k) * 2 ^ k
theorem bitAt_lt (l : List UInt8) (a : Nat) : bitAt l a < 2 := Nat.mod_lt _ (by omega)
theorem bitAt_of {l : List UInt8} {a : Nat} {x : UInt8} (h : l[a / 8]? = some x) : x.toNat / 2 ^ (a % 8) % 2 = bitAt l a := by unfold bitAt; rw [h]; rfl
theorem getN_lt (l : List UInt8) (a k : Nat) : getN l a k < 2 ^ k := by
  induction k with
  | zero => simp [getN]
  | succ k ih =>
    have := bitAt_lt l (a + k)
    rw [getN, Nat.pow_succ]
    have h2 : bitAt l (a + k) * 2 ^ k ≤ 1 * 2 ^ k := Nat.mul_le_mul_right _ (by omega)
    omega
/-- Whether so many bits are there. -/
def bitGetB (l : List UInt8) (a b : Int) : Bool := decide (0 ≤ a ∧ (1 ≤ b ∧ b ≤ 12) ∧ a + b ≤ 8 * l.length)
/-- What is read. -/
def bitGetN (l : List UInt8) (a b : Int) : Nat := if bitGetB l a b then getN l a.toNat b.toNat else 0
theorem bitGetN_no {l : List UInt8} {a b : Int} (h : bitGetB l a b = false) : bitGetN l a b = 0 := by unfold bitGetN; rw [h]; rfl
theorem two_pow_le (k : Nat) (h : k ≤ 12) : 2 ^ k ≤ 4096 := by
  have : 2 ^ k ≤ 2 ^ 12 := Nat.pow_le_pow_right (by omega) h
  omega

theorem tmod_cast2 (a b : Nat) : (a : Int).tmod (b : Int) = ((a % b : Nat) : Int) := by rw [Int.tmod_eq_emod_of_nonneg (by omega)]; simp
theorem w64 (n : Nat) (h : n < 4611686018427387904) : wrap64 (n : Int) = (n : Int) := by unfold wrap64; omega
theorem get_sum (m y : Nat) (hm : m < 8192) (hy : y < 8192) : wrap64 ((m : Int) + wrap64 (y : Int)) = ((m + y : Nat) : Int) := by
  rw [w64 y (by omega), ← Int.natCast_add, w64 _ (by omega)]
theorem get_step (m x s k bt : Nat) (hx : x < 256) (hm : m < 2 ^ k) (hk : k < 12) (hb : x / 2 ^ s % 2 = bt) :
    wrap64 ((m : Int) + wrap64 ((wrap64 (x : Int) / 2 ^ s).tmod 2 * 2 ^ k)) = ((m + bt * 2 ^ k : Nat) : Int) := by
  have e2 : (x : Int) / 2 ^ s = ((x / 2 ^ s : Nat) : Int) := by simp
  have e3 : ((x / 2 ^ s : Nat) : Int).tmod 2 = (bt : Int) := by rw [← hb]; exact tmod_cast2 _ 2
  have e4 : (bt : Int) * 2 ^ k = ((bt * 2 ^ k : Nat) : Int) := by simp
  have hbt : bt ≤ 1 := by rw [← hb]; exact Nat.le_of_lt_succ (Nat.mod_lt _ (by decide))
  have h1 := two_pow_le k (Nat.le_of_lt hk)
  have h2 : bt * 2 ^ k ≤ 1 * 2 ^ k := Nat.mul_le_mul_right _ hbt
  rw [w64 x (Nat.lt_of_lt_of_le hx (by decide)), e2, e3, e4]
  refine get_sum m _ (Nat.lt_of_lt_of_le hm (Nat.le_trans h1 (by decide))) (Nat.lt_of_le_of_lt h2 ?_)
  rw [Nat.one_mul]
  exact Nat.lt_of_le_of_lt h1 (by decide)
end Go.Proofs.Ytnnpjcbdcjdojaa
