/-
  The constants as roots of primes, in whole numbers of 64 bits that wrap, as the reference reckons them; they are the standard's constants (by the kernel). No condition.
-/
import Derived.Test.YtbejafbpipdbjaaDoorShaM
namespace Go.Proofs.YtbejafbpipdbjaaDoor
set_option maxRecDepth 4000

/-- The lowest 64 bits. -/
def w64 (n : Nat) : Nat := n % 18446744073709551616
def sqMid (hi lo : Nat) : Nat := w64 (w64 (w64 (2 * hi) * lo) + w64 (lo * lo) / 4294967296)
def sqHi (hi lo : Nat) : Nat := w64 (w64 (hi * hi) + sqMid hi lo / 4294967296)
def sqLo (hi lo : Nat) : Nat := w64 (w64 (sqMid hi lo % 4294967296 * 4294967296) + w64 (lo * lo) % 4294967296)
def cubeOne (b a yl : Nat) : Nat := w64 (w64 (b * yl) + w64 (a * yl) / 4294967296)
def cubeLow (one a yh : Nat) : Nat := w64 (one % 4294967296 + w64 (a * yh))
def cubeTwo (b yh hi yl one low : Nat) : Nat := w64 (w64 (w64 (w64 (b * yh) + w64 (hi * yl)) + one / 4294967296) + low / 4294967296)
def cubeOf (hi rest yh yl : Nat) : Nat :=
  let a := rest % 4294967296
  let b := rest / 4294967296
  let one := cubeOne b a yl
  w64 (w64 (hi * yh) + cubeTwo b yh hi yl one (cubeLow one a yh) / 4294967296)
def cube (y : Nat) : Nat := now (y / 4294967296) fun yh => now (y % 4294967296) fun yl => now (sqHi yh yl) fun hi => now (sqLo yh yl) fun rest => cubeOf hi rest yh yl
/-- Whether y to the power is not less than p. -/
def over (y : Nat) (three : Bool) (p : Nat) : Bool := if three then decide (p ≤ cube y) else decide (p ≤ sqHi (y / 4294967296) (y % 4294967296))
/-- One more bit of the root. -/
def rootStep (p : Nat) (three : Bool) (x k : Nat) : Nat := now (w64 (x + 2 ^ k)) fun y => if decide (y / 4294967296 ≤ 20) && !over y three p then y else x
/-- The root behind j bits. -/
def rootN (p : Nat) (three : Bool) : Nat → Nat
  | 0 => 0
  | j + 1 => now (rootN p three j) fun x => rootStep p three x (37 - j)
def root (p : Nat) (three : Bool) : Nat := rootN p three 38 % 4294967296

/-- No number from 2 on whose square is not greater divides n, up to k. -/
def noPart (n : Nat) : Nat → Bool
  | 0 => true
  | k + 1 => noPart n k && !(decide (2 ≤ k) && decide (k * k ≤ n) && decide (n % k = 0))
def isPrime (n : Nat) : Bool := decide (1 < n) && noPart n 20
/-- The primes below n. -/
def primesTo : Nat → List Nat
  | 0 => []
  | n + 1 => if isPrime n then primesTo n ++ [n] else primesTo n
def primes64 : List Nat := primesTo 312
set_option maxRecDepth 100000 in
theorem primes64_eq : primes64 = [2, 3, 5, 7, 11, 13, 17, 19, 23, 29, 31, 37, 41, 43, 47, 53, 59, 61, 67, 71, 73, 79, 83, 89, 97, 101, 103, 107, 109, 113, 127, 131, 137, 139, 149, 151, 157, 163, 167, 173, 179, 181, 191, 193, 197, 199, 211, 223, 227, 229, 233, 239, 241, 251, 257, 263, 269, 271, 277, 281, 283, 293, 307, 311] := by decide +kernel
theorem roots3 : primes64.map (fun p => root p true) = round64 := by rw [primes64_eq]; decide +kernel
theorem roots2 : (primes64.take 8).map (fun p => root p false) = first8.list := by rw [primes64_eq]; decide +kernel
theorem primes64_length : primes64.length = 64 := by rw [primes64_eq]; rfl
end Go.Proofs.YtbejafbpipdbjaaDoor
