/-
  SHA-256 as plain functions on numbers and lists. No program stands in it. No condition.
-/
import Derived.Below
namespace Go.Proofs.YtbejafbpipdbjaaDoor
set_option maxRecDepth 4000

/-- f of a number that is reckoned first. -/
def now {α : Type} (n : Nat) (f : Nat → α) : α := match n with | 0 => f 0 | k + 1 => f (k + 1)
theorem now_eq {α : Type} (n : Nat) (f : Nat → α) : now n f = f n := by cases n <;> rfl

/-- A word turned to the right. -/
def rotr (x n : Nat) : Nat := (x >>> n ||| x <<< (32 - n)) % 4294967296
def bigS1 (e : Nat) : Nat := rotr e 6 ^^^ rotr e 11 ^^^ rotr e 25
def bigS0 (a : Nat) : Nat := rotr a 2 ^^^ rotr a 13 ^^^ rotr a 22
def smallS0 (x : Nat) : Nat := rotr x 7 ^^^ rotr x 18 ^^^ x >>> 3
def smallS1 (x : Nat) : Nat := rotr x 17 ^^^ rotr x 19 ^^^ x >>> 10
def choose (e f g : Nat) : Nat := e &&& f ^^^ (4294967295 ^^^ e) &&& g
def most (a b c : Nat) : Nat := a &&& b ^^^ a &&& c ^^^ b &&& c

/-- Eight words. -/
structure Eight where
  (a b c d e f g h : Nat)
def Eight.list (s : Eight) : List Nat := [s.a, s.b, s.c, s.d, s.e, s.f, s.g, s.h]
/-- All eight are words. -/
def Eight.Ok (s : Eight) : Prop := s.a < 4294967296 ∧ s.b < 4294967296 ∧ s.c < 4294967296 ∧ s.d < 4294967296 ∧ s.e < 4294967296 ∧ s.f < 4294967296 ∧ s.g < 4294967296 ∧ s.h < 4294967296

def t1Of (s : Eight) (x : Nat) : Nat := (s.h + bigS1 s.e + choose s.e s.f s.g + x) % 4294967296
def t2Of (s : Eight) : Nat := (bigS0 s.a + most s.a s.b s.c) % 4294967296
/-- One round; x is the round's constant and its word together. -/
def Eight.step (s : Eight) (x : Nat) : Eight := ⟨(t1Of s x + t2Of s) % 4294967296, s.a, s.b, s.c, (s.d + t1Of s x) % 4294967296, s.e, s.f, s.g⟩
theorem Eight.step_ok {s : Eight} (h : s.Ok) (x : Nat) : (s.step x).Ok := by
  obtain ⟨h1, h2, h3, h4, h5, h6, h7, h8⟩ := h
  exact ⟨Nat.mod_lt _ (by decide), h1, h2, h3, Nat.mod_lt _ (by decide), h5, h6, h7⟩
def Eight.plus (s t : Eight) : Eight := ⟨(s.a + t.a) % 4294967296, (s.b + t.b) % 4294967296, (s.c + t.c) % 4294967296, (s.d + t.d) % 4294967296, (s.e + t.e) % 4294967296, (s.f + t.f) % 4294967296, (s.g + t.g) % 4294967296, (s.h + t.h) % 4294967296⟩
theorem Eight.plus_ok (s t : Eight) : (s.plus t).Ok := ⟨Nat.mod_lt _ (by decide), Nat.mod_lt _ (by decide), Nat.mod_lt _ (by decide), Nat.mod_lt _ (by decide), Nat.mod_lt _ (by decide), Nat.mod_lt _ (by decide), Nat.mod_lt _ (by decide), Nat.mod_lt _ (by decide)⟩

/-- The k-th word of a block, the highest byte first. -/
def be32 (b : List UInt8) (k : Nat) : Nat := (((b.getD (4 * k) 0).toNat <<< 24 ||| (b.getD (4 * k + 1) 0).toNat <<< 16) ||| (b.getD (4 * k + 2) 0).toNat <<< 8) ||| (b.getD (4 * k + 3) 0).toNat
/-- The word behind those that are there. -/
def nextW (b : List UInt8) (p : List Nat) (k : Nat) : Nat :=
  if k < 16 then be32 b k else (p.getD (k - 16) 0 + smallS0 (p.getD (k - 15) 0) + p.getD (k - 7) 0 + smallS1 (p.getD (k - 2) 0)) % 4294967296
/-- The first k words of a block. -/
def sched (b : List UInt8) : Nat → List Nat
  | 0 => []
  | k + 1 => sched b k ++ [nextW b (sched b k) k]
theorem sched_length (b : List UInt8) : ∀ k, (sched b k).length = k
  | 0 => rfl
  | k + 1 => by rw [sched, List.length_append, sched_length b k]; rfl
theorem be32_lt (b : List UInt8) (k : Nat) : be32 b k < 4294967296 := by
  have h (x : UInt8) (n : Nat) (hn : n ≤ 24) : x.toNat <<< n < 2 ^ 32 := by
    rw [Nat.shiftLeft_eq]
    have := x.toNat_lt
    calc x.toNat * 2 ^ n ≤ 255 * 2 ^ n := Nat.mul_le_mul_right _ (by omega)
      _ ≤ 255 * 2 ^ 24 := Nat.mul_le_mul_left _ (Nat.pow_le_pow_right (by decide) hn)
      _ < 2 ^ 32 := by decide
  have h0 (x : UInt8) : x.toNat < 2 ^ 32 := by have := x.toNat_lt; omega
  exact Nat.or_lt_two_pow (Nat.or_lt_two_pow (Nat.or_lt_two_pow (h _ _ (by decide)) (h _ _ (by decide))) (h _ _ (by decide))) (h0 _)
theorem nextW_lt (b : List UInt8) (p : List Nat) (k : Nat) : nextW b p k < 4294967296 := by
  unfold nextW
  split
  · exact be32_lt b k
  · exact Nat.mod_lt _ (by decide)
theorem sched_lt (b : List UInt8) : ∀ k, ∀ x ∈ sched b k, x < 4294967296
  | 0, x, h => by simp [sched] at h
  | k + 1, x, h => by
    rw [sched, List.mem_append] at h
    rcases h with h | h
    · exact sched_lt b k x h
    · simp at h; subst h; exact nextW_lt _ _ _
theorem sched_take (b : List UInt8) (k : Nat) : ∀ m, k ≤ m → (sched b m).take k = sched b k
  | 0, h => by obtain rfl : k = 0 := by omega
               rfl
  | m + 1, h => by
    by_cases e : k = m + 1
    · subst e; rw [List.take_of_length_le (by rw [sched_length]; omega)]
    · rw [sched, List.take_append_of_le_length (by rw [sched_length]; omega), sched_take b k m (by omega)]

def first8 : Eight := ⟨0x6a09e667, 0xbb67ae85, 0x3c6ef372, 0xa54ff53a, 0x510e527f, 0x9b05688c, 0x1f83d9ab, 0x5be0cd19⟩
def round64 : List Nat := [
  0x428a2f98, 0x71374491, 0xb5c0fbcf, 0xe9b5dba5, 0x3956c25b, 0x59f111f1, 0x923f82a4, 0xab1c5ed5,
  0xd807aa98, 0x12835b01, 0x243185be, 0x550c7dc3, 0x72be5d74, 0x80deb1fe, 0x9bdc06a7, 0xc19bf174,
  0xe49b69c1, 0xefbe4786, 0x0fc19dc6, 0x240ca1cc, 0x2de92c6f, 0x4a7484aa, 0x5cb0a9dc, 0x76f988da,
  0x983e5152, 0xa831c66d, 0xb00327c8, 0xbf597fc7, 0xc6e00bf3, 0xd5a79147, 0x06ca6351, 0x14292967,
  0x27b70a85, 0x2e1b2138, 0x4d2c6dfc, 0x53380d13, 0x650a7354, 0x766a0abb, 0x81c2c92e, 0x92722c85,
  0xa2bfe8a1, 0xa81a664b, 0xc24b8b70, 0xc76c51a3, 0xd192e819, 0xd6990624, 0xf40e3585, 0x106aa070,
  0x19a4c116, 0x1e376c08, 0x2748774c, 0x34b0bcb5, 0x391c0cb3, 0x4ed8aa4a, 0x5b9cca4f, 0x682e6ff3,
  0x748f82ee, 0x78a5636f, 0x84c87814, 0x8cc70208, 0x90befffa, 0xa4506ceb, 0xbef9a3f7, 0xc67178f2]
theorem first8_ok : first8.Ok := by unfold Eight.Ok first8; decide
theorem round64_length : round64.length = 64 := rfl
theorem round64_lt : ∀ x ∈ round64, x < 4294967296 := by decide

/-- Eight words behind k rounds with the words ws. -/
def rounds (s : Eight) (ws : List Nat) : Nat → Eight
  | 0 => s
  | k + 1 => (rounds s ws k).step (round64.getD k 0 + ws.getD k 0)
theorem rounds_ok {s : Eight} (h : s.Ok) (ws : List Nat) : ∀ k, (rounds s ws k).Ok
  | 0 => h
  | k + 1 => Eight.step_ok (rounds_ok h ws k) _
/-- What a block of 64 bytes makes of eight words. -/
def mix (s : Eight) (b : List UInt8) : Eight := s.plus (rounds s (sched b 64) 64)
/-- Eight words behind the first n blocks of bytes. -/
def blocks (l : List UInt8) : Nat → Eight
  | 0 => first8
  | n + 1 => mix (blocks l n) ((l.drop (64 * n)).take 64)
theorem blocks_ok (l : List UInt8) : ∀ n, (blocks l n).Ok
  | 0 => first8_ok
  | _ + 1 => Eight.plus_ok _ _
theorem blocks_append (l m : List UInt8) : ∀ n, 64 * n ≤ l.length → blocks (l ++ m) n = blocks l n
  | 0, _ => rfl
  | n + 1, h => by
    rw [blocks, blocks, blocks_append l m n (by omega), List.drop_append_of_le_length (by omega), List.take_append_of_le_length (by rw [List.length_drop]; omega)]

/-- Four bytes of a word, the highest first. -/
def out4 (n : Nat) : List UInt8 := [UInt8.ofNat (n >>> 24), UInt8.ofNat (n >>> 16), UInt8.ofNat (n >>> 8), UInt8.ofNat n]
/-- The bytes of eight words. -/
def out32 (s : Eight) : List UInt8 := s.list.flatMap out4
theorem out32_length (s : Eight) : (out32 s).length = 32 := rfl
/-- How many noughts stand behind so many bytes and one. -/
def zeros (n : Nat) : Nat := (119 - n % 64) % 64
/-- The eight bytes of a number of bits. -/
def len8 (n : Nat) : List UInt8 := (List.range 8).map fun k => UInt8.ofNat ((8 * n) >>> (8 * (7 - k)))
/-- Bytes, filled up to whole blocks. -/
def whole (l : List UInt8) : List UInt8 := l ++ 128 :: (List.replicate (zeros l.length) 0 ++ len8 l.length)
theorem whole_length (l : List UInt8) : (whole l).length = l.length + 9 + zeros l.length := by simp [whole, len8]; omega
/-- The sum of bytes. -/
def sha (l : List UInt8) : List UInt8 := out32 (blocks (whole l) ((whole l).length / 64))
theorem sha_length (l : List UInt8) : (sha l).length = 32 := out32_length _

/-- A key of one block. -/
def key64 (k : List UInt8) : List UInt8 := let j := if 64 < k.length then sha k else k; j ++ List.replicate (64 - j.length) 0
theorem key64_length (k : List UInt8) : (key64 k).length = 64 := by
  unfold key64
  by_cases h : 64 < k.length
  · simp [h, sha_length]
  · simp [h]; omega
/-- The signature of bytes by a key. -/
def mac (k l : List UInt8) : List UInt8 := sha ((key64 k).map (· ^^^ 92) ++ sha ((key64 k).map (· ^^^ 54) ++ l))
theorem mac_length (k l : List UInt8) : (mac k l).length = 32 := sha_length _
end Go.Proofs.YtbejafbpipdbjaaDoor
