/-
  The reference's l1Sum is the sum of bytes. Condition: at most 10000 bytes.
-/
import Derived.Below
import Derived.Test.YtbejafbpipdbjaaDoorBase
import Derived.Laws.BitsAllLaws
import Derived.Laws.Bits64
import Derived.Test.YtbejafbpipdbjaaDoorRow
import Derived.StillTailTactics
import Derived.Deep.RegionHeld3
import Derived.Test.YtbejafbpipdbjaaDoorPushAll
import Derived.Test.YtbejafbpipdbjaaDoorPush
namespace Go.Proofs.YtbejafbpipdbjaaDoor
set_option maxRecDepth 4000

/-- f of a number that is reckoned first. -/
def now {α : Type} (n : Nat) (f : Nat → α) : α := match n with | 0 => f 0 | k + 1 => f (k + 1)
theorem now_eq {α : Type} (n : Nat) (f : Nat → α) : now n f = f n := by cases n <;> rfl

/-- A word turned to the right. -/
def rotr (x n : Nat) : Nat := (x >>> n ||| x <<< (32 - n)) % 4294967296
def bigS1 (e : Nat) : Nat := rotr e 6 ^^^ rotr e 11 ^^^ rotr e 25
def bigS0 (a : Nat) : Nat := rotr a 2 ^^^ rotr a 13 ^^^ rotr a 22
def smallS0 (x : Nat) : Nat := rotr x 7 ^^^ rotr x 18 ^^^ x >>> 3
def smallS1 (x : Nat) : Nat := rotr x 17 ^^^ rotr x 19 ^^^ x >>> 10
def choose (e f g : Nat) : Nat := e &&& f ^^^ (4294967295 ^^^ e) &&& g
def most (a b c : Nat) : Nat := a &&& b ^^^ a &&& c ^^^ b &&& c

/-- Eight words. -/
structure Eight where
  (a b c d e f g h : Nat)
def Eight.list (s : Eight) : List Nat := [s.a, s.b, s.c, s.d, s.e, s.f, s.g, s.h]
/-- All eight are words. -/
def Eight.Ok (s : Eight) : Prop := s.a < 4294967296 ∧ s.b < 4294967296 ∧ s.c < 4294967296 ∧ s.d < 4294967296 ∧ s.e < 4294967296 ∧ s.f < 4294967296 ∧ s.g < 4294967296 ∧ s.h < 4294967296

def t1Of (s : Eight) (x : Nat) : Nat := (s.h + bigS1 s.e + choose s.e s.f s.g + x) % 4294967296
def t2Of (s : Eight) : Nat := (bigS0 s.a + most s.a s.b s.c) % 4294967296
/-- One round; x is the round's constant and its word together. -/
def Eight.step (s : Eight) (x : Nat) : Eight := ⟨(t1Of s x + t2Of s) % 4294967296, s.a, s.b, s.c, (s.d + t1Of s x) % 4294967296, s.e, s.f, s.g⟩
theorem Eight.step_ok {s : Eight} (h : s.Ok) (x : Nat) : (s.step x).Ok := by
  obtain ⟨h1, h2, h3, h4, h5, h6, h7, h8⟩ := h
  exact ⟨Nat.mod_lt _ (by decide), h1, h2, h3, Nat.mod_lt _ (by decide), h5, h6, h7⟩
def Eight.plus (s t : Eight) : Eight := ⟨(s.a + t.a) % 4294967296, (s.b + t.b) % 4294967296, (s.c + t.c) % 4294967296, (s.d + t.d) % 4294967296, (s.e + t.e) % 4294967296, (s.f + t.f) % 4294967296, (s.g + t.g) % 4294967296, (s.h + t.h) % 4294967296⟩
theorem Eight.plus_ok (s t : Eight) : (s.plus t).Ok := ⟨Nat.mod_lt _ (by decide), Nat.mod_lt _ (by decide), Nat.mod_lt _ (by decide), Nat.mod_lt _ (by decide), Nat.mod_lt _ (by decide), Nat.mod_lt _ (by decide), Nat.mod_lt _ (by decide), Nat.mod_lt _ (by decide)⟩

/-- The k-th word of a block, the highest byte first. -/
def be32 (b : List UInt8) (k : Nat) : Nat := (((b.getD (4 * k) 0).toNat <<< 24 ||| (b.getD (4 * k + 1) 0).toNat <<< 16) ||| (b.getD (4 * k + 2) 0).toNat <<< 8) ||| (b.getD (4 * k + 3) 0).toNat
/-- The word behind those that are there. -/
def nextW (b : List UInt8) (p : List Nat) (k : Nat) : Nat :=
  if k < 16 then be32 b k else (p.getD (k - 16) 0 + smallS0 (p.getD (k - 15) 0) + p.getD (k - 7) 0 + smallS1 (p.getD (k - 2) 0)) % 4294967296
/-- The first k words of a block. -/
def sched (b : List UInt8) : Nat → List Nat
  | 0 => []
  | k + 1 => sched b k ++ [nextW b (sched b k) k]
theorem sched_length (b : List UInt8) : ∀ k, (sched b k).length = k
  | 0 => rfl
  | k + 1 => by rw [sched, List.length_append, sched_length b k]; rfl
theorem be32_lt (b : List UInt8) (k : Nat) : be32 b k < 4294967296 := by
  have h (x : UInt8) (n : Nat) (hn : n ≤ 24) : x.toNat <<< n < 2 ^ 32 := by
    rw [Nat.shiftLeft_eq]
    have := x.toNat_lt
    calc x.toNat * 2 ^ n ≤ 255 * 2 ^ n := Nat.mul_le_mul_right _ (by omega)
      _ ≤ 255 * 2 ^ 24 := Nat.mul_le_mul_left _ (Nat.pow_le_pow_right (by decide) hn)
      _ < 2 ^ 32 := by decide
  have h0 (x : UInt8) : x.toNat < 2 ^ 32 := by have := x.toNat_lt; omega
  exact Nat.or_lt_two_pow (Nat.or_lt_two_pow (Nat.or_lt_two_pow (h _ _ (by decide)) (h _ _ (by decide))) (h _ _ (by decide))) (h0 _)
theorem nextW_lt (b : List UInt8) (p : List Nat) (k : Nat) : nextW b p k < 4294967296 := by
  unfold nextW
  split
  · exact be32_lt b k
  · exact Nat.mod_lt _ (by decide)
theorem sched_lt (b : List UInt8) : ∀ k, ∀ x ∈ sched b k, x < 4294967296
  | 0, x, h => by simp [sched] at h
  | k + 1, x, h => by
    rw [sched, List.mem_append] at h
    rcases h with h | h
    · exact sched_lt b k x h
    · simp at h; subst h; exact nextW_lt _ _ _
theorem sched_take (b : List UInt8) (k : Nat) : ∀ m, k ≤ m → (sched b m).take k = sched b k
  | 0, h => by obtain rfl : k = 0 := by omega
               rfl
  | m + 1, h => by
    by_cases e : k = m + 1
    · subst e; rw [List.take_of_length_le (by rw [sched_length]; omega)]
    · rw [sched, List.take_append_of_le_length (by rw [sched_length]; omega), sched_take b k m (by omega)]

def first8 : Eight := ⟨0x6a09e667, 0xbb67ae85, 0x3c6ef372, 0xa54ff53a, 0x510e527f, 0x9b05688c, 0x1f83d9ab, 0x5be0cd19⟩
def round64 : List Nat := [
  0x428a2f98, 0x71374491, 0xb5c0fbcf, 0xe9b5dba5, 0x3956c25b, 0x59f111f1, 0x923f82a4, 0xab1c5ed5,
  0xd807aa98, 0x12835b01, 0x243185be, 0x550c7dc3, 0x72be5d74, 0x80deb1fe, 0x9bdc06a7, 0xc19bf174,
  0xe49b69c1, 0xefbe4786, 0x0fc19dc6, 0x240ca1cc, 0x2de92c6f, 0x4a7484aa, 0x5cb0a9dc, 0x76f988da,
  0x983e5152, 0xa831c66d, 0xb00327c8, 0xbf597fc7, 0xc6e00bf3, 0xd5a79147, 0x06ca6351, 0x14292967,
  0x27b70a85, 0x2e1b2138, 0x4d2c6dfc, 0x53380d13, 0x650a7354, 0x766a0abb, 0x81c2c92e, 0x92722c85,
  0xa2bfe8a1, 0xa81a664b, 0xc24b8b70, 0xc76c51a3, 0xd192e819, 0xd6990624, 0xf40e3585, 0x106aa070,
  0x19a4c116, 0x1e376c08, 0x2748774c, 0x34b0bcb5, 0x391c0cb3, 0x4ed8aa4a, 0x5b9cca4f, 0x682e6ff3,
  0x748f82ee, 0x78a5636f, 0x84c87814, 0x8cc70208, 0x90befffa, 0xa4506ceb, 0xbef9a3f7, 0xc67178f2]
theorem first8_ok : first8.Ok := by unfold Eight.Ok first8; decide
theorem round64_length : round64.length = 64 := rfl
theorem round64_lt : ∀ x ∈ round64, x < 4294967296 := by decide

/-- Eight words behind k rounds with the words ws. -/
def rounds (s : Eight) (ws : List Nat) : Nat → Eight
  | 0 => s
  | k + 1 => (rounds s ws k).step (round64.getD k 0 + ws.getD k 0)
theorem rounds_ok {s : Eight} (h : s.Ok) (ws : List Nat) : ∀ k, (rounds s ws k).Ok
  | 0 => h
  | k + 1 => Eight.step_ok (rounds_ok h ws k) _
/-- What a block of 64 bytes makes of eight words. -/
def mix (s : Eight) (b : List UInt8) : Eight := s.plus (rounds s (sched b 64) 64)
/-- Eight words behind the first n blocks of bytes. -/
def blocks (l : List UInt8) : Nat → Eight
  | 0 => first8
  | n + 1 => mix (blocks l n) ((l.drop (64 * n)).take 64)
theorem blocks_ok (l : List UInt8) : ∀ n, (blocks l n).Ok
  | 0 => first8_ok
  | _ + 1 => Eight.plus_ok _ _
theorem blocks_append (l m : List UInt8) : ∀ n, 64 * n ≤ l.length → blocks (l ++ m) n = blocks l n
  | 0, _ => rfl
  | n + 1, h => by
    rw [blocks, blocks, blocks_append l m n (by omega), List.drop_append_of_le_length (by omega), List.take_append_of_le_length (by rw [List.length_drop]; omega)]

/-- Four bytes of a word, the highest first. -/
def out4 (n : Nat) : List UInt8 := [UInt8.ofNat (n >>> 24), UInt8.ofNat (n >>> 16), UInt8.ofNat (n >>> 8), UInt8.ofNat n]
/-- The bytes of eight words. -/
def out32 (s : Eight) : List UInt8 := s.list.flatMap out4
theorem out32_length (s : Eight) : (out32 s).length = 32 := rfl
/-- How many noughts stand behind so many bytes and one. -/
def zeros (n : Nat) : Nat := (119 - n % 64) % 64
/-- The eight bytes of a number of bits. -/
def len8 (n : Nat) : List UInt8 := (List.range 8).map fun k => UInt8.ofNat ((8 * n) >>> (8 * (7 - k)))
/-- Bytes, filled up to whole blocks. -/
def whole (l : List UInt8) : List UInt8 := l ++ 128 :: (List.replicate (zeros l.length) 0 ++ len8 l.length)
theorem whole_length (l : List UInt8) : (whole l).length = l.length + 9 + zeros l.length := by simp [whole, len8]; omega
/-- The sum of bytes. -/
def sha (l : List UInt8) : List UInt8 := out32 (blocks (whole l) ((whole l).length / 64))
theorem sha_length (l : List UInt8) : (sha l).length = 32 := out32_length _

/-- A key of one block. -/
def key64 (k : List UInt8) : List UInt8 := let j := if 64 < k.length then sha k else k; j ++ List.replicate (64 - j.length) 0
theorem key64_length (k : List UInt8) : (key64 k).length = 64 := by
  unfold key64
  by_cases h : 64 < k.length
  · simp [h, sha_length]
  · simp [h]; omega
/-- The signature of bytes by a key. -/
def mac (k l : List UInt8) : List UInt8 := sha ((key64 k).map (· ^^^ 92) ++ sha ((key64 k).map (· ^^^ 54) ++ l))
theorem mac_length (k l : List UInt8) : (mac k l).length = 32 := sha_length _
end Go.Proofs.YtbejafbpipdbjaaDoor
namespace Go.Proofs.YtbejafbpipdbjaaDoor
set_option maxRecDepth 4000
open Go.RowKit

theorem rotr_lt (x n : Nat) : rotr x n < 4294967296 := Nat.mod_lt _ (by decide)
theorem xor32 {a b : Nat} (ha : a < 4294967296) (hb : b < 4294967296) : a ^^^ b < 4294967296 := Nat.xor_lt_two_pow (n := 32) ha hb
theorem and32 {a b : Nat} (hb : b < 4294967296) : a &&& b < 4294967296 := Nat.lt_of_le_of_lt Nat.and_le_right hb
theorem shr32 {a : Nat} (n : Nat) (ha : a < 4294967296) : a >>> n < 4294967296 := by
  rw [Nat.shiftRight_eq_div_pow]; exact Nat.lt_of_le_of_lt (Nat.div_le_self _ _) ha
theorem bigS1_lt (e : Nat) : bigS1 e < 4294967296 := xor32 (xor32 (rotr_lt _ _) (rotr_lt _ _)) (rotr_lt _ _)
theorem bigS0_lt (e : Nat) : bigS0 e < 4294967296 := xor32 (xor32 (rotr_lt _ _) (rotr_lt _ _)) (rotr_lt _ _)
theorem smallS0_lt {x : Nat} (h : x < 4294967296) : smallS0 x < 4294967296 := xor32 (xor32 (rotr_lt _ _) (rotr_lt _ _)) (shr32 _ h)
theorem smallS1_lt {x : Nat} (h : x < 4294967296) : smallS1 x < 4294967296 := xor32 (xor32 (rotr_lt _ _) (rotr_lt _ _)) (shr32 _ h)
theorem choose_lt {e f g : Nat} (hf : f < 4294967296) (hg : g < 4294967296) : choose e f g < 4294967296 := xor32 (and32 hf) (and32 hg)
theorem most_lt {a b c : Nat} (hb : b < 4294967296) (hc : c < 4294967296) : most a b c < 4294967296 := xor32 (xor32 (and32 hb) (and32 hc)) (and32 hc)

theorem wrap64u (z : Int) (h0 : 0 ≤ z) (h1 : z < 18446744073709551616) : IntKind.u64.wrap z = z := by rw [IntKind.wrap_u64]; omega

theorem l1Word_any (z : Int) (w : World) (h0 : 0 ≤ z) (_h1 : z < 18446744073709551616) :
    Calls Tryd.prog 115 #[.int .u64 z] w fun e w' => e = .returned (.int .u64 (z % 4294967296)) ∧ w' = w := by
  clear _h1
  go_enter Tryd.func115, Tryd.ntmps115
  go_wp2
  go_ret
  exact ⟨rfl, rfl⟩

theorem turn_or (x n : Nat) (hx : x < 4294967296) (h0 : 0 < n) (hn : n < 32) : bits .or .u64 ((x : Int) / 2 ^ n) (IntKind.u64.wrap ((x : Int) * 2 ^ (32 - n))) = ((x >>> n ||| x <<< (32 - n) : Nat) : Int) := by
  have hp : 2 ^ (32 - n) ≤ 2 ^ 31 := Nat.pow_le_pow_right (by decide) (by omega)
  have hm : x * 2 ^ (32 - n) ≤ 4294967295 * 2 ^ 31 := Nat.mul_le_mul (by omega) hp
  have e1 : (x : Int) / 2 ^ n = ((x >>> n : Nat) : Int) := by rw [Nat.shiftRight_eq_div_pow]; simp
  have e2 : IntKind.u64.wrap ((x : Int) * 2 ^ (32 - n)) = ((x <<< (32 - n) : Nat) : Int) := by
    rw [Nat.shiftLeft_eq, show (x : Int) * 2 ^ (32 - n) = ((x * 2 ^ (32 - n) : Nat) : Int) from by simp]
    exact wrap64u _ (by omega) (by omega)
  rw [e1, e2]
  refine u64_or_nat _ _ ?_ ?_
  · rw [Nat.shiftRight_eq_div_pow]; have := Nat.div_le_self x (2 ^ n); omega
  · rw [Nat.shiftLeft_eq]; omega
theorem turn_lt (x n : Nat) (hx : x < 4294967296) (h0 : 0 < n) : x >>> n ||| x <<< (32 - n) < 18446744073709551616 := by
  have hp : 2 ^ (32 - n) ≤ 2 ^ 31 := Nat.pow_le_pow_right (by decide) (by omega)
  have hm : x * 2 ^ (32 - n) ≤ 4294967295 * 2 ^ 31 := Nat.mul_le_mul (by omega) hp
  refine Nat.or_lt_two_pow (n := 64) ?_ ?_
  · rw [Nat.shiftRight_eq_div_pow]; have := Nat.div_le_self x (2 ^ n); omega
  · rw [Nat.shiftLeft_eq]; omega

theorem l1Turn_nat (x n : Nat) (w : World) (hx : x < 4294967296) (h0 : 0 < n) (hn : n < 32) :
    Calls Tryd.prog 138 #[.int .u64 (x : Int), .int .u64 (n : Int)] w fun e w' => e = .returned (.int .u64 (rotr x n : Int)) ∧ w' = w := by
  have HT := Lib.hid (turn_or x n hx h0 hn)
  have HL := Lib.hid (turn_lt x n hx h0)
  have hr : rotr x n = (x >>> n ||| x <<< (32 - n)) % 4294967296 := rfl
  have HR := Lib.hid hr
  clear hr
  go_enter Tryd.func138, Tryd.ntmps138
  go_wp2_with fail
  rw [HT.out]
  generalize (x >>> n ||| x <<< (32 - n)) = y at *
  refine (l1Word_any (y : Int) _ (by omega) (by have := HL.out; omega)).mono ?_
  rintro e w' ⟨rfl, rfl⟩
  go_wp2
  go_ret
  exact ⟨by rw [HR.out]; rfl, rfl⟩
theorem l1Turn_any (x : Nat) (t : Int) (w : World) (hx : x < 4294967296) (h0 : 0 < t) (hn : t < 32) :
    Calls Tryd.prog 138 #[.int .u64 (x : Int), .int .u64 t] w fun e w' => e = .returned (.int .u64 (rotr x t.toNat : Int)) ∧ w' = w := by
  obtain ⟨n, rfl⟩ := Int.eq_ofNat_of_zero_le (show 0 ≤ t by omega)
  rw [Int.toNat_natCast]
  exact l1Turn_nat x n w hx (by omega) (by omega)
end Go.Proofs.YtbejafbpipdbjaaDoor
namespace Go.Proofs.YtbejafbpipdbjaaDoor
set_option maxRecDepth 4000
open Go.RowKit

theorem x64 {a b : Nat} (ha : a < 4294967296) (hb : b < 4294967296) : bits .xor .u64 (a : Int) (b : Int) = ((a ^^^ b : Nat) : Int) := u64_xor_nat a b (by omega) (by omega)
theorem a64 {a b : Nat} (ha : a < 4294967296) (hb : b < 4294967296) : bits .and .u64 (a : Int) (b : Int) = ((a &&& b : Nat) : Int) := u64_and_nat a b (by omega) (by omega)

/-- A callee that leaves the world, in a region behind another one. -/
theorem quiet2 {P : Program} {f : FuncId} {args : Array Value} {w : World} {a n : Nat} {v : Value} (h : Calls P f args (w.drewN (a + n)) fun e w' => e = .returned v ∧ w' = w.drewN (a + n)) :
    Calls P f args (w.drewN (a + n)) fun e w'' => e = .returned v ∧ ∃ m, w'' = w.drewN (a + m) := h.mono fun _ _ ⟨he, hw⟩ => ⟨he, n, hw⟩

set_option maxRecDepth 100000 in
set_option maxHeartbeats 2000000 in
theorem l1Step_any (b o c : Nat) (s : Eight) (k x : Nat) (w : World) (hs : s.Ok) (hk : k < 4294967296) (hx : x < 4294967296)
    (h : HasK .u64 w w.heap.size (some ⟨b, o, none⟩) s.list) :
    Calls Tryd.prog 114 #[.slice (some ⟨b, o, none⟩) 8 c, .int .u64 (k : Int), .int .u64 (x : Int)] w fun e w' => e = .returned (.slice (some ⟨w.heap.size, 0, none⟩) 8 8) ∧
      OwnK .u64 137 w' w.heap.size (.slice (some ⟨w.heap.size, 0, none⟩) 8 8) (s.step (k + x)).list ∧ Below w.heap.size w w' := by
  obtain ⟨ha, hb, hc, hd, he, hf, hg, hh⟩ := hs
  have hcell : ∀ (i y : Nat), s.list[i]? = some y → w.cell? ⟨b, o + i, none⟩ = some (.int .u64 (y : Int)) := by
    rcases h with h | ⟨b', o', e, _, hc⟩
    · simp [Eight.list] at h
    · injection e with e
      injection e with e1 e2 _
      subst e1 e2
      exact hc
  have c0 := hcell 0 _ rfl
  have c1 := hcell 1 _ rfl
  have c2 := hcell 2 _ rfl
  have c3 := hcell 3 _ rfl
  have c4 := hcell 4 _ rfl
  have c5 := hcell 5 _ rfl
  have c6 := hcell 6 _ rfl
  have c7 := hcell 7 _ rfl
  clear hcell h
  simp only [Nat.add_zero] at c0
  obtain ⟨sa, sb, sc, sd, se, sf, sg, sh⟩ := s
  simp only at ha hb hc hd he hf hg hh c0 c1 c2 c3 c4 c5 c6 c7
  have r1 := rotr_lt se 6
  have r2 := rotr_lt se 11
  have r3 := rotr_lt se 25
  have r4 := rotr_lt sa 2
  have r5 := rotr_lt sa 13
  have r6 := rotr_lt sa 22
  have x1 := x64 r1 r2
  have x2 : bits .xor .u64 ((rotr se 6 ^^^ rotr se 11 : Nat) : Int) (rotr se 25 : Int) = (bigS1 se : Int) := x64 (xor32 r1 r2) r3
  have x3 := x64 r4 r5
  have x4 : bits .xor .u64 ((rotr sa 2 ^^^ rotr sa 13 : Nat) : Int) (rotr sa 22 : Int) = (bigS0 sa : Int) := x64 (xor32 r4 r5) r6
  have y1 := a64 he hf
  have y2 : bits .xor .u64 4294967295 (se : Int) = ((4294967295 ^^^ se : Nat) : Int) := x64 (a := 4294967295) (by omega) he
  have y3 := a64 (a := 4294967295 ^^^ se) (xor32 (by omega) he) hg
  have y4 : bits .xor .u64 ((se &&& sf : Nat) : Int) (((4294967295 ^^^ se) &&& sg : Nat) : Int) = (choose se sf sg : Int) := x64 (and32 hf) (and32 hg)
  have z1 := a64 ha hb
  have z2 := a64 ha hc
  have z3 := a64 hb hc
  have z4 := x64 (and32 (a := sa) hb) (and32 (a := sa) hc)
  have z5 : bits .xor .u64 ((sa &&& sb ^^^ sa &&& sc : Nat) : Int) ((sb &&& sc : Nat) : Int) = (most sa sb sc : Int) := x64 (xor32 (and32 hb) (and32 hc)) (and32 hc)
  have lS1 := bigS1_lt se
  have lS0 := bigS0_lt sa
  have lch := choose_lt (e := se) hf hg
  have lmo := most_lt (a := sa) hb hc
  have HF := Lib.hid (show (Eight.step ⟨sa, sb, sc, sd, se, sf, sg, sh⟩ (k + x)).list = [((sh + bigS1 se + choose se sf sg + (k + x)) % 4294967296 + (bigS0 sa + most sa sb sc) % 4294967296) % 4294967296, sa, sb, sc, (sd + (sh + bigS1 se + choose se sf sg + (k + x)) % 4294967296) % 4294967296, se, sf, sg] from rfl)
  clear r1 r2 r3 r4 r5 r6
  go_enter Tryd.func114, Tryd.ntmps114
  go_wp2_with fail
  go_quiet ((go_at_call 138; exact Calls.quiet_of_same (l1Turn_any _ _ _ (by omega) (by omega) (by omega))))
  generalize nq = n1 at *
  go_wp2_with fail
  go_quiet (fail)
  generalize nq = n2 at *
  go_wp2_with fail
  refine (l1Word_any _ _ (by omega) (by omega)).mono ?_
  rintro e w' ⟨rfl, rfl⟩
  rw [show ((sh : Int) + (bigS1 se : Int) + (choose se sf sg : Int) + (k : Int) + (x : Int)) % 4294967296 = (((sh + bigS1 se + choose se sf sg + (k + x)) % 4294967296 : Nat) : Int) from by omega]
  have lT1 : (sh + bigS1 se + choose se sf sg + (k + x)) % 4294967296 < 4294967296 := Nat.mod_lt _ (by decide)
  generalize (sh + bigS1 se + choose se sf sg + (k + x)) % 4294967296 = T1 at *
  clear lS1 lch x1 x2 y1 y2 y3 y4
  go_wp2_with fail
  go_quiet ((go_at_call 138; exact quiet2 (l1Turn_any _ _ _ (by omega) (by omega) (by omega))))
  generalize nq = n3 at *
  go_wp2_with fail
  go_quiet (fail)
  generalize nq = n4 at *
  go_wp2_with fail
  refine (l1Word_any _ _ (by omega) (by omega)).mono ?_
  rintro e w' ⟨rfl, rfl⟩
  rw [show ((bigS0 sa : Int) + (most sa sb sc : Int)) % 4294967296 = (((bigS0 sa + most sa sb sc) % 4294967296 : Nat) : Int) from by omega]
  have lT2 : (bigS0 sa + most sa sb sc) % 4294967296 < 4294967296 := Nat.mod_lt _ (by decide)
  generalize (bigS0 sa + most sa sb sc) % 4294967296 = T2 at *
  clear lS0 lmo x3 x4 z1 z2 z3 z4 z5
  obtain ⟨m1, hm1⟩ : ∃ m, (T1 + T2) % 4294967296 = m := ⟨_, rfl⟩
  obtain ⟨m2, hm2⟩ : ∃ m, (sd + T1) % 4294967296 = m := ⟨_, rfl⟩
  have v1 : ((T1 : Int) + (T2 : Int)) % 4294967296 = (m1 : Int) := by omega
  have v2 : ((sd : Int) + (T1 : Int)) % 4294967296 = (m2 : Int) := by omega
  have u1 := wrap64u ((T1 : Int) + (T2 : Int)) (by omega) (by omega)
  have u2 := wrap64u ((sd : Int) + (T1 : Int)) (by omega) (by omega)
  have HM1 := Lib.hid hm1
  have HM2 := Lib.hid hm2
  clear hm1 hm2
  go_wp2_with fail
  have d0 : (w.drewN (n1 + n2 + n3 + n4)).cell? _ = _ := c0
  have d1 : (w.drewN (n1 + n2 + n3 + n4)).cell? _ = _ := c1
  have d2 : (w.drewN (n1 + n2 + n3 + n4)).cell? _ = _ := c2
  have d3 : (w.drewN (n1 + n2 + n3 + n4)).cell? _ = _ := c3
  have d4 : (w.drewN (n1 + n2 + n3 + n4)).cell? _ = _ := c4
  have d5 : (w.drewN (n1 + n2 + n3 + n4)).cell? _ = _ := c5
  have d6 : (w.drewN (n1 + n2 + n3 + n4)).cell? _ = _ := c6
  have hbel := below_draws (Below.refl w.heap.size w) (n1 + n2 + n3 + n4)
  have hsz : (w.drewN (n1 + n2 + n3 + n4)).heap.size = w.heap.size := rfl
  clear c0 c1 c2 c3 c4 c5 c6 c7
  generalize w.drewN (n1 + n2 + n3 + n4) = w2 at *
  have HZ := Lib.hid hsz
  clear hsz
  refine wp_region_still_tail 28 (by kernel_rfl) (by kernel_rfl) ?_
  simp only [List.take_succ_cons, List.take_zero, List.drop_succ_cons, List.drop_zero]
  repeat (first | still_call (l1Word_any _ _ (by omega) (by omega)) | still_step)
  refine wpStill_nil ?_
  clear u1 u2 v1 v2
  go_wp2
  go_ret
  refine ⟨by rw [← HZ.out]; rfl, ?_, (hbel.alloc (by rw [HZ.out]; exact Nat.le_refl _) _).drew⟩
  rw [HF.out, HM1.out, HM2.out, ← HZ.out]
  exact OwnK.lit (w := w2) (l := [m1, sa, sb, sc, m2, se, sf, sg]) (Nat.le_refl _) (by simp)
end Go.Proofs.YtbejafbpipdbjaaDoor
namespace Go.Proofs.YtbejafbpipdbjaaDoor
set_option maxRecDepth 4000
open Go.RowKit

theorem info64 : (Tryd.prog.info? 137).map (fun i => (i.zero, i.size, i.bytes)) = some (some (.int .u64 0), 1, 8) := by kernel_rfl

theorem cell_new {w : World} {o : Obj} {b p : Nat} (hb : b < w.heap.size) : ((w.alloc o).drew).cell? ⟨b, p, none⟩ = w.cell? ⟨b, p, none⟩ := World.cell?_of_block (Below.heap_alloc w o b hb)
theorem far_kept {k : IntKind} {t : TypeId} {wr w2 : World} {B : Nat} {v : Value} {l : List Nat} {o : Obj} (ho : OwnK k t wr B v l) (hg : ((wr.alloc o).drew).grownBy w2 v.ownBlock) : ∀ p : Addr, p.block < B ∧ p.block < wr.heap.size → w2.cell? p = wr.cell? p := fun p hp =>
  (World.cell?_of_block (hg.block p.block (by show p.block < (wr.alloc o).heap.size; simp; omega) (fun e => by have := (World.ownsRow.lt ho p.block e.symm).1; omega))).trans (World.cell?_of_block (Below.heap_alloc wr o p.block hp.2))

theorem sched_word (l : List UInt8) (k : Nat) (x0 x1 x2 x3 : UInt8) (hk : k < 16) (h0 : l[4 * k]? = some x0) (h1 : l[4 * k + 1]? = some x1) (h2 : l[4 * k + 2]? = some x2) (h3 : l[4 * k + 3]? = some x3) :
    sched l (k + 1) = sched l k ++ [((x0.toNat <<< 24 ||| x1.toNat <<< 16) ||| x2.toNat <<< 8) ||| x3.toNat] := by
  rw [sched, nextW, if_pos hk, be32]
  simp [List.getD, h0, h1, h2, h3]

theorem sched_more (l : List UInt8) (k a16 a15 a7 a2 : Nat) (hk : 16 ≤ k) (h16 : (sched l k)[k - 16]? = some a16) (h15 : (sched l k)[k - 15]? = some a15) (h7 : (sched l k)[k - 7]? = some a7) (h2 : (sched l k)[k - 2]? = some a2) :
    sched l (k + 1) = sched l k ++ [(a16 + smallS0 a15 + a7 + smallS1 a2) % 4294967296] := by
  rw [sched, nextW, if_neg (by omega)]
  simp [List.getD, h16, h15, h7, h2]

set_option maxRecDepth 100000 in
set_option maxHeartbeats 2000000 in
theorem l1Words_any (A : Option Addr) (c : Nat) (l : List UInt8) (w : World) (hl : l.length = 64) (h : Has w w.heap.size A l) :
    Calls Tryd.prog 113 #[.slice A 64 c] w fun e w' => ∃ v, e = .returned v ∧ OwnK .u64 137 w' w.heap.size v (sched l 64) ∧ Below w.heap.size w w' := by
  obtain ⟨i0, hi, hz0, hz1, hz2⟩ := info_parts info64
  go_enter Tryd.func113, Tryd.ntmps113
  go_wp2
  go_loopw [3, 4] (fun v i wr => ∃ k : Nat, k ≤ 16 ∧ i = .int .i64 k ∧ OwnK .u64 137 wr w.heap.size v (sched l k) ∧ Below w.heap.size w wr) (fun _ i _ => 16 - (intOf i).toNat)
  case atStart => exact ⟨0, Nat.zero_le _, rfl, OwnK.empty (Nat.le_refl _), (Below.refl _ _).alloc (Nat.le_refl _) _⟩
  case round =>
    obtain ⟨k, hk, rfl, hown, hbel⟩ := hrel
    have hws := hbel.size
    by_cases hlt : k < 16
    · obtain ⟨b, o, x0, rfl, hbB, hx0, hc0⟩ := h.spot (k := 4 * k) (by omega)
      obtain ⟨b', o', x1, hA, _, hx1, hc1⟩ := h.spot (k := 4 * k + 1) (by omega)
      simp only [Option.some.injEq, Addr.mk.injEq, and_true] at hA
      obtain ⟨rfl, rfl⟩ := hA
      obtain ⟨b', o', x2, hA, _, hx2, hc2⟩ := h.spot (k := 4 * k + 2) (by omega)
      simp only [Option.some.injEq, Addr.mk.injEq, and_true] at hA
      obtain ⟨rfl, rfl⟩ := hA
      obtain ⟨b', o', x3, hA, _, hx3, hc3⟩ := h.spot (k := 4 * k + 3) (by omega)
      simp only [Option.some.injEq, Addr.mk.injEq, and_true] at hA
      obtain ⟨rfl, rfl⟩ := hA
      have d0 := (hbel.cell (p := ⟨b, o + 4 * k, none⟩) hbB).trans hc0
      have d1 := (hbel.cell (p := ⟨b, o + (4 * k + 1), none⟩) hbB).trans hc1
      have d2 := (hbel.cell (p := ⟨b, o + (4 * k + 2), none⟩) hbB).trans hc2
      have d3 := (hbel.cell (p := ⟨b, o + (4 * k + 3), none⟩) hbB).trans hc3
      have hbW : b < wr.heap.size := by omega
      have HX := Lib.hid (⟨hx0, hx1, hx2, hx3⟩ : _ ∧ _ ∧ _ ∧ _)
      clear hc0 hc1 hc2 hc3 hx0 hx1 hx2 hx3
      obtain ⟨y0, hy0⟩ : ∃ y, x0.toNat <<< 24 = y := ⟨_, rfl⟩
      obtain ⟨y1, hy1⟩ : ∃ y, x1.toNat <<< 16 = y := ⟨_, rfl⟩
      obtain ⟨y2, hy2⟩ : ∃ y, x2.toNat <<< 8 = y := ⟨_, rfl⟩
      obtain ⟨z1, hz1'⟩ : ∃ y, y0 ||| y1 = y := ⟨_, rfl⟩
      obtain ⟨z2, hz2'⟩ : ∃ y, z1 ||| y2 = y := ⟨_, rfl⟩
      obtain ⟨z3, hz3'⟩ : ∃ y, z2 ||| x3.toNat = y := ⟨_, rfl⟩
      have HS := Lib.hid (sched_word l k x0 x1 x2 x3 hlt HX.out.1 HX.out.2.1 HX.out.2.2.1 HX.out.2.2.2)
      rw [hy0, hy1, hy2, hz1', hz2', hz3'] at HS
      have b0 := x0.toNat_lt
      have b1 := x1.toNat_lt
      have b2 := x2.toNat_lt
      have b3 := x3.toNat_lt
      have i0' := wrap64u (x0.toNat : Int) (by omega) (by omega)
      have i1' := wrap64u (x1.toNat : Int) (by omega) (by omega)
      have i2' := wrap64u (x2.toNat : Int) (by omega) (by omega)
      have i3' := wrap64u (x3.toNat : Int) (by omega) (by omega)
      have j0 : IntKind.u64.wrap ((x0.toNat : Int) * 16777216) = (y0 : Int) := by rw [wrap64u _ (by omega) (by omega), ← hy0, Nat.shiftLeft_eq]; omega
      have j1 : IntKind.u64.wrap ((x1.toNat : Int) * 65536) = (y1 : Int) := by rw [wrap64u _ (by omega) (by omega), ← hy1, Nat.shiftLeft_eq]; omega
      have j2 : IntKind.u64.wrap ((x2.toNat : Int) * 256) = (y2 : Int) := by rw [wrap64u _ (by omega) (by omega), ← hy2, Nat.shiftLeft_eq]; omega
      have ly0 : y0 < 4294967296 := by rw [← hy0, Nat.shiftLeft_eq]; omega
      have ly1 : y1 < 4294967296 := by rw [← hy1, Nat.shiftLeft_eq]; omega
      have ly2 : y2 < 4294967296 := by rw [← hy2, Nat.shiftLeft_eq]; omega
      have lz1 : z1 < 4294967296 := by rw [← hz1']; exact Nat.or_lt_two_pow (n := 32) ly0 ly1
      have lz2 : z2 < 4294967296 := by rw [← hz2']; exact Nat.or_lt_two_pow (n := 32) lz1 ly2
      have o1 : bits .or .u64 (y0 : Int) (y1 : Int) = (z1 : Int) := by rw [u64_or_nat y0 y1 (by omega) (by omega), hz1']
      have o2 : bits .or .u64 (z1 : Int) (y2 : Int) = (z2 : Int) := by rw [u64_or_nat z1 y2 (by omega) (by omega), hz2']
      have o3 : bits .or .u64 (z2 : Int) (x3.toNat : Int) = (z3 : Int) := by rw [u64_or_nat z2 _ (by omega) (by omega), hz3']
      have hlen := sched_length l k
      clear hy0 hy1 hy2 hz1' hz2' hz3' b0 b1 b2 b3 ly0 ly1 ly2 lz1 lz2
      have q0 := IntWalk.i64_in (4 * (k : Int)) (by omega)
      have q1 := IntWalk.i64_in (4 * (k : Int) + 1) (by omega)
      have q2 := IntWalk.i64_in (4 * (k : Int) + 2) (by omega)
      have q3 := IntWalk.i64_in (4 * (k : Int) + 3) (by omega)
      have t0 : (4 * (k : Int)).toNat = 4 * k := by omega
      have t1 : (4 * (k : Int) + 1).toNat = 4 * k + 1 := by omega
      have t2 : (4 * (k : Int) + 2).toNat = 4 * k + 2 := by omega
      have t3 : (4 * (k : Int) + 3).toNat = 4 * k + 3 := by omega
      have p0 : 0 ≤ 4 * (k : Int) ∧ 4 * (k : Int) < 64 := by omega
      have p1 : 0 ≤ 4 * (k : Int) + 1 ∧ 4 * (k : Int) + 1 < 64 := by omega
      have p2 : 0 ≤ 4 * (k : Int) + 2 ∧ 4 * (k : Int) + 2 < 64 := by omega
      have p3 : 0 ≤ 4 * (k : Int) + 3 ∧ 4 * (k : Int) + 3 < 64 := by omega
      go_wp2_with fail
      go_region_held3 (fun w' => w'.cell? ⟨b, o + 4 * k, none⟩ = some (.int .u8 (x0.toNat : Int)) ∧ w'.cell? ⟨b, o + (4 * k + 1), none⟩ = some (.int .u8 (x1.toNat : Int)) ∧ w'.cell? ⟨b, o + (4 * k + 2), none⟩ = some (.int .u8 (x2.toNat : Int)) ∧ w'.cell? ⟨b, o + (4 * k + 3), none⟩ = some (.int .u8 (x3.toNat : Int)))
        (first | exact ⟨d0, d1, d2, d3⟩ | exact ⟨(HK.out _ ⟨hbB, hbW⟩).trans d0, (HK.out _ ⟨hbB, hbW⟩).trans d1, (HK.out _ ⟨hbB, hbW⟩).trans d2, (HK.out _ ⟨hbB, hbW⟩).trans d3⟩ | exact ⟨(cell_new hbW).trans d0, (cell_new hbW).trans d1, (cell_new hbW).trans d2, (cell_new hbW).trans d3⟩)
        (first | (refine step_pushK .u64 144 137 Tryd.underlying144 hi hz0 hz1 hz2 rfl (.tmp 13) (.tmp 47) rfl w.heap.size u3 (sched l k) rfl (by exact hown.alloc _) ⟨wr.heap.size, 0, none⟩ z3 rfl (by exact World.news_of_block (heap_alloc_new wr _) 0 _ rfl) (by omega) (by omega) (by simp; omega) ?_; intro g cap w2 ho2 hg2; have HK := Lib.hid (far_kept hown hg2)))
      have hb2 : Below w.heap.size w w2 := ((hbel.alloc hws (.cells #[.int .u64 (z3 : Int)] 137)).drew).grown hg2 (by simp; omega) (fun q hq => (World.ownsRow.lt hown q hq).1)
      rw [← HS.out, hlen] at ho2
      clear hg2 hown HK d0 d1 d2 d3 o1 o2 o3 i0' i1' i2' i3' j0 j1 j2 q0 q1 q2 q3 t0 t1 t2 t3 p0 p1 p2 p3 hlen
      go_wp2
      go_roundw
      case rel => exact ⟨k + 1, by omega, by go_num, ho2, hb2⟩
      case measure => simp [intOf]; omega
    · obtain rfl : k = 16 := by omega
      rw [show ((16 : Nat) : Int) = 16 from rfl]
      go_wp2
      go_loopw [3, 5] (fun v i wr => ∃ k : Nat, 16 ≤ k ∧ k ≤ 64 ∧ i = .int .i64 k ∧ OwnK .u64 137 wr w.heap.size v (sched l k) ∧ Below w.heap.size w wr) (fun _ i _ => 64 - (intOf i).toNat)
      case atStart => exact ⟨16, by omega, by omega, rfl, hown, hbel⟩
      case round =>
        clear hown hbel hws hlt h
        obtain ⟨k, hk16, hk, rfl, hown, hbel⟩ := hrel
        have hws := hbel.size
        by_cases hlt : k < 64
        · obtain ⟨A3, c3, hv, hc3, hh⟩ := hown.has
          have hlen := sched_length l k
          rw [hlen] at hv hc3
          subst hv
          obtain ⟨g, o, a16, rfl, hgW, ha16, d16⟩ := hh.spot (i := k - 16) (by omega)
          obtain ⟨g', o', a15, hA, _, ha15, d15⟩ := hh.spot (i := k - 15) (by omega)
          simp only [Option.some.injEq, Addr.mk.injEq, and_true] at hA
          obtain ⟨rfl, rfl⟩ := hA
          obtain ⟨g', o', a7, hA, _, ha7, d7⟩ := hh.spot (i := k - 7) (by omega)
          simp only [Option.some.injEq, Addr.mk.injEq, and_true] at hA
          obtain ⟨rfl, rfl⟩ := hA
          obtain ⟨g', o', a2, hA, _, ha2, d2⟩ := hh.spot (i := k - 2) (by omega)
          simp only [Option.some.injEq, Addr.mk.injEq, and_true] at hA
          obtain ⟨rfl, rfl⟩ := hA
          have l16 := sched_lt l k a16 (List.mem_of_getElem? ha16)
          have l15 := sched_lt l k a15 (List.mem_of_getElem? ha15)
          have l7 := sched_lt l k a7 (List.mem_of_getElem? ha7)
          have l2 := sched_lt l k a2 (List.mem_of_getElem? ha2)
          have HS := Lib.hid (sched_more l k a16 a15 a7 a2 hk16 ha16 ha15 ha7 ha2)
          clear hh ha16 ha15 ha7 ha2
          have r1 := rotr_lt a15 7
          have r2 := rotr_lt a15 18
          have r3 := rotr_lt a2 17
          have r4 := rotr_lt a2 19
          obtain ⟨y1, hy1⟩ : ∃ y, a15 >>> 3 = y := ⟨_, rfl⟩
          obtain ⟨y2, hy2⟩ : ∃ y, a2 >>> 10 = y := ⟨_, rfl⟩
          have ly1 : y1 < 4294967296 := by rw [← hy1]; exact shr32 _ l15
          have ly2 : y2 < 4294967296 := by rw [← hy2]; exact shr32 _ l2
          have e1 : (a15 : Int) / 8 = (y1 : Int) := by rw [← hy1, Nat.shiftRight_eq_div_pow]; omega
          have e2 : (a2 : Int) / 1024 = (y2 : Int) := by rw [← hy2, Nat.shiftRight_eq_div_pow]; omega
          have x1 := x64 r1 r2
          have x2 : bits .xor .u64 ((rotr a15 7 ^^^ rotr a15 18 : Nat) : Int) (y1 : Int) = (smallS0 a15 : Int) := by rw [← hy1]; exact x64 (xor32 r1 r2) (shr32 _ l15)
          have x3 := x64 r3 r4
          have x4 : bits .xor .u64 ((rotr a2 17 ^^^ rotr a2 19 : Nat) : Int) (y2 : Int) = (smallS1 a2 : Int) := by rw [← hy2]; exact x64 (xor32 r3 r4) (shr32 _ l2)
          have m1 := smallS0_lt l15
          have m2 := smallS1_lt l2
          clear hy1 hy2 r1 r2 r3 r4
          have q16 := IntWalk.i64_in ((k : Int) - 16) (by omega)
          have q15 := IntWalk.i64_in ((k : Int) - 15) (by omega)
          have q7 := IntWalk.i64_in ((k : Int) - 7) (by omega)
          have q2 := IntWalk.i64_in ((k : Int) - 2) (by omega)
          have t16 : ((k : Int) - 16).toNat = k - 16 := by omega
          have t15 : ((k : Int) - 15).toNat = k - 15 := by omega
          have t7 : ((k : Int) - 7).toNat = k - 7 := by omega
          have t2 : ((k : Int) - 2).toNat = k - 2 := by omega
          have p16 : 0 ≤ (k : Int) - 16 ∧ (k : Int) - 16 < (k : Int) := by omega
          have p15 : 0 ≤ (k : Int) - 15 ∧ (k : Int) - 15 < (k : Int) := by omega
          have p7 : 0 ≤ (k : Int) - 7 ∧ (k : Int) - 7 < (k : Int) := by omega
          have p2 : 0 ≤ (k : Int) - 2 ∧ (k : Int) - 2 < (k : Int) := by omega
          go_wp2_with fail
          go_quiet ((go_at_call 138; exact Calls.quiet_of_same (l1Turn_any _ _ _ (by assumption) (by decide) (by decide))))
          generalize nq = n1 at *
          go_wp2_with fail
          go_quiet ((go_at_call 138; exact quiet2 (l1Turn_any _ _ _ (by assumption) (by decide) (by decide))))
          generalize nq = n2 at *
          have hownW : OwnK .u64 137 ((wr.drewN n1).drewN n2) w.heap.size _ _ := hown
          have hbelW := below_draws (below_draws hbel n1) n2
          have d16W : ((wr.drewN n1).drewN n2).cell? _ = _ := d16
          have d7W : ((wr.drewN n1).drewN n2).cell? _ = _ := d7
          have hwsW : w.heap.size ≤ ((wr.drewN n1).drewN n2).heap.size := hws
          clear hown hbel d16 d15 d7 d2 q15 q2 t15 t2 p15 p2 x1 x2 x3 x4 e1 e2 hws hgW
          obtain ⟨z, hz⟩ : ∃ z, (a16 + smallS0 a15 + a7 + smallS1 a2) % 4294967296 = z := ⟨_, rfl⟩
          rw [hz] at HS
          generalize smallS0 a15 = S0 at *
          generalize smallS1 a2 = S1 at *
          have v1 : ((a16 : Int) + (S0 : Int) + (a7 : Int) + (S1 : Int)) % 4294967296 = (z : Int) := by omega
          have b1 : (a16 : Int) + (S0 : Int) + (a7 : Int) + (S1 : Int) < 18446744073709551616 := by omega
          have u1 := wrap64u ((a16 : Int) + (S0 : Int)) (by omega) (by omega)
          have u2 := wrap64u ((a16 : Int) + (S0 : Int) + (a7 : Int)) (by omega) (by omega)
          have u3' := wrap64u ((a16 : Int) + (S0 : Int) + (a7 : Int) + (S1 : Int)) (by omega) (by omega)
          have k16 : (16 : Int) ≤ (k : Int) := by omega
          have k7 : (7 : Int) ≤ (k : Int) := by omega
          clear hz
          go_wp2_with fail
          generalize (wr.drewN n1).drewN n2 = W2 at *
          go_region_law (first | (refine step_pushK .u64 144 137 Tryd.underlying144 hi hz0 hz1 hz2 rfl (.tmp 93) (.tmp 110) rfl w.heap.size _ (sched l k) rfl (by exact hownW.alloc _) ⟨W2.heap.size, 0, none⟩ z rfl (by exact World.news_of_block (heap_alloc_new W2 _) 0 _ rfl) (by omega) (by omega) (by simp; omega) ?_; intro g5 cap5 w5 ho5 hg5) | (go_simp; go_at_call 115; refine (l1Word_any _ _ (by omega) b1).mono ?_; rintro e w' ⟨rfl, rfl⟩))
          all_goals
            have hb5 : Below w.heap.size w w5 := ((hbelW.alloc hwsW (.cells #[.int .u64 (z : Int)] 137)).drew).grown hg5 (by simp; omega) (fun q hq => (World.ownsRow.lt hownW q hq).1)
            rw [← HS.out, hlen] at ho5
            clear hg5 hownW d16W d7W u1 u2 u3' v1 q16 q7 t16 t7 p16 p7
            go_wp2
            go_roundw
            case rel => exact ⟨k + 1, by omega, by omega, by go_num, ho5, hb5⟩
            case measure => simp [intOf]; omega
        · obtain rfl : k = 64 := by omega
          go_wp2
          go_ret
          exact ⟨_, rfl, hown, hbel⟩
end Go.Proofs.YtbejafbpipdbjaaDoor
namespace Go.Proofs.YtbejafbpipdbjaaDoor
set_option maxRecDepth 4000

/-- The lowest 64 bits. -/
def w64 (n : Nat) : Nat := n % 18446744073709551616
def sqMid (hi lo : Nat) : Nat := w64 (w64 (w64 (2 * hi) * lo) + w64 (lo * lo) / 4294967296)
def sqHi (hi lo : Nat) : Nat := w64 (w64 (hi * hi) + sqMid hi lo / 4294967296)
def sqLo (hi lo : Nat) : Nat := w64 (w64 (sqMid hi lo % 4294967296 * 4294967296) + w64 (lo * lo) % 4294967296)
def cubeOne (b a yl : Nat) : Nat := w64 (w64 (b * yl) + w64 (a * yl) / 4294967296)
def cubeLow (one a yh : Nat) : Nat := w64 (one % 4294967296 + w64 (a * yh))
def cubeTwo (b yh hi yl one low : Nat) : Nat := w64 (w64 (w64 (w64 (b * yh) + w64 (hi * yl)) + one / 4294967296) + low / 4294967296)
def cubeOf (hi rest yh yl : Nat) : Nat :=
  let a := rest % 4294967296
  let b := rest / 4294967296
  let one := cubeOne b a yl
  w64 (w64 (hi * yh) + cubeTwo b yh hi yl one (cubeLow one a yh) / 4294967296)
def cube (y : Nat) : Nat := now (y / 4294967296) fun yh => now (y % 4294967296) fun yl => now (sqHi yh yl) fun hi => now (sqLo yh yl) fun rest => cubeOf hi rest yh yl
/-- Whether y to the power is not less than p. -/
def over (y : Nat) (three : Bool) (p : Nat) : Bool := if three then decide (p ≤ cube y) else decide (p ≤ sqHi (y / 4294967296) (y % 4294967296))
/-- One more bit of the root. -/
def rootStep (p : Nat) (three : Bool) (x k : Nat) : Nat := now (w64 (x + 2 ^ k)) fun y => if decide (y / 4294967296 ≤ 20) && !over y three p then y else x
/-- The root behind j bits. -/
def rootN (p : Nat) (three : Bool) : Nat → Nat
  | 0 => 0
  | j + 1 => now (rootN p three j) fun x => rootStep p three x (37 - j)
def root (p : Nat) (three : Bool) : Nat := rootN p three 38 % 4294967296

/-- No number from 2 on whose square is not greater divides n, up to k. -/
def noPart (n : Nat) : Nat → Bool
  | 0 => true
  | k + 1 => noPart n k && !(decide (2 ≤ k) && decide (k * k ≤ n) && decide (n % k = 0))
def isPrime (n : Nat) : Bool := decide (1 < n) && noPart n 20
/-- The primes below n. -/
def primesTo : Nat → List Nat
  | 0 => []
  | n + 1 => if isPrime n then primesTo n ++ [n] else primesTo n
def primes64 : List Nat := primesTo 312
set_option maxRecDepth 100000 in
theorem primes64_eq : primes64 = [2, 3, 5, 7, 11, 13, 17, 19, 23, 29, 31, 37, 41, 43, 47, 53, 59, 61, 67, 71, 73, 79, 83, 89, 97, 101, 103, 107, 109, 113, 127, 131, 137, 139, 149, 151, 157, 163, 167, 173, 179, 181, 191, 193, 197, 199, 211, 223, 227, 229, 233, 239, 241, 251, 257, 263, 269, 271, 277, 281, 283, 293, 307, 311] := by decide +kernel
theorem roots3 : primes64.map (fun p => root p true) = round64 := by rw [primes64_eq]; decide +kernel
theorem roots2 : (primes64.take 8).map (fun p => root p false) = first8.list := by rw [primes64_eq]; decide +kernel
theorem primes64_length : primes64.length = 64 := by rw [primes64_eq]; rfl
end Go.Proofs.YtbejafbpipdbjaaDoor
namespace Go.Proofs.YtbejafbpipdbjaaDoor
set_option maxRecDepth 4000
open Go.RowKit

theorem wmul (a b : Nat) : IntKind.u64.wrap ((a : Int) * (b : Int)) = (w64 (a * b) : Int) := by
  rw [IntKind.wrap_u64, w64, Int.natCast_emod, Int.natCast_mul]; rfl
theorem wadd (a b : Nat) : IntKind.u64.wrap ((a : Int) + (b : Int)) = (w64 (a + b) : Int) := by
  rw [IntKind.wrap_u64, w64, Int.natCast_emod, Int.natCast_add]; rfl
theorem idiv (a : Nat) : (a : Int) / 4294967296 = ((a / 4294967296 : Nat) : Int) := by omega
theorem imod (a : Nat) : (a : Int) % 4294967296 = ((a % 4294967296 : Nat) : Int) := by omega
theorem w64_lt (n : Nat) : w64 n < 18446744073709551616 := Nat.mod_lt _ (by decide)

set_option maxHeartbeats 1000000 in
theorem l1Square_any (y : Nat) (w : World) : Calls Tryd.prog 145 #[.int .u64 (y : Int)] w fun e w' =>
    e = .returned (.tuple #[.int .u64 (sqHi (y / 4294967296) (y % 4294967296) : Int), .int .u64 (sqLo (y / 4294967296) (y % 4294967296) : Int)]) ∧ w' = w := by
  have e1 := idiv y
  have e2 := imod y
  generalize y / 4294967296 = hi at *
  generalize y % 4294967296 = lo at *
  have m1 : IntKind.u64.wrap (2 * (hi : Int)) = (w64 (2 * hi) : Int) := wmul 2 hi
  have m2 := wmul (w64 (2 * hi)) lo
  have m3 := wmul lo lo
  have m4 := idiv (w64 (lo * lo))
  have m5 : IntKind.u64.wrap ((w64 (w64 (2 * hi) * lo) : Int) + ((w64 (lo * lo) / 4294967296 : Nat) : Int)) = (sqMid hi lo : Int) := wadd _ _
  have m6 := wmul hi hi
  have m7 := idiv (sqMid hi lo)
  have m8 : IntKind.u64.wrap ((w64 (hi * hi) : Int) + ((sqMid hi lo / 4294967296 : Nat) : Int)) = (sqHi hi lo : Int) := wadd _ _
  have m9 := imod (sqMid hi lo)
  have m10 : IntKind.u64.wrap (((sqMid hi lo % 4294967296 : Nat) : Int) * 4294967296) = (w64 (sqMid hi lo % 4294967296 * 4294967296) : Int) := wmul _ 4294967296
  have m11 := imod (w64 (lo * lo))
  have m12 : IntKind.u64.wrap ((w64 (sqMid hi lo % 4294967296 * 4294967296) : Int) + ((w64 (lo * lo) % 4294967296 : Nat) : Int)) = (sqLo hi lo : Int) := wadd _ _
  generalize w64 (w64 (2 * hi) * lo) = a2 at *
  generalize w64 (2 * hi) = a1 at *
  generalize w64 (lo * lo) % 4294967296 = a5 at *
  generalize w64 (lo * lo) / 4294967296 = a4 at *
  generalize w64 (lo * lo) = a3 at *
  generalize w64 (hi * hi) = a6 at *
  generalize sqHi hi lo = rH at *
  generalize sqLo hi lo = rL at *
  generalize w64 (sqMid hi lo % 4294967296 * 4294967296) = a9 at *
  generalize sqMid hi lo % 4294967296 = a8 at *
  generalize sqMid hi lo / 4294967296 = a7 at *
  generalize sqMid hi lo = mid at *
  go_enter Tryd.func145, Tryd.ntmps145
  go_wp2
  go_ret2
  exact ⟨rfl, rfl⟩

set_option maxHeartbeats 1000000 in
theorem l1Cube_any (y : Nat) (w : World) : Calls Tryd.prog 144 #[.int .u64 (y : Int)] w fun e w' => e = .returned (.int .u64 (cube y : Int)) ∧ w' = w := by
  have HC := Lib.hid (l1Square_any y w)
  have hcube : cube y = cubeOf (sqHi (y / 4294967296) (y % 4294967296)) (sqLo (y / 4294967296) (y % 4294967296)) (y / 4294967296) (y % 4294967296) := by simp only [cube, now_eq]
  rw [hcube]
  clear hcube
  have e1 := idiv y
  have e2 := imod y
  generalize sqHi (y / 4294967296) (y % 4294967296) = hi at *
  generalize sqLo (y / 4294967296) (y % 4294967296) = rest at *
  generalize y / 4294967296 = yh at *
  generalize y % 4294967296 = yl at *
  have e3 := idiv rest
  have e4 := imod rest
  have hco : cubeOf hi rest yh yl = w64 (w64 (hi * yh) + cubeTwo (rest / 4294967296) yh hi yl (cubeOne (rest / 4294967296) (rest % 4294967296) yl) (cubeLow (cubeOne (rest / 4294967296) (rest % 4294967296) yl) (rest % 4294967296) yh) / 4294967296) := rfl
  rw [hco]
  clear hco
  generalize rest / 4294967296 = b at *
  generalize rest % 4294967296 = a at *
  have m1 := wmul b yl
  have m2 := wmul a yl
  have m3 := idiv (w64 (a * yl))
  have m4 : IntKind.u64.wrap ((w64 (b * yl) : Int) + ((w64 (a * yl) / 4294967296 : Nat) : Int)) = (cubeOne b a yl : Int) := wadd _ _
  generalize cubeOne b a yl = one at *
  have m5 := imod one
  have m6 := wmul a yh
  have m7 : IntKind.u64.wrap (((one % 4294967296 : Nat) : Int) + (w64 (a * yh) : Int)) = (cubeLow one a yh : Int) := wadd _ _
  generalize cubeLow one a yh = low at *
  have m8 := wmul b yh
  have m9 := wmul hi yl
  have m10 := wadd (w64 (b * yh)) (w64 (hi * yl))
  have m11 := idiv one
  have m12 := wadd (w64 (w64 (b * yh) + w64 (hi * yl))) (one / 4294967296)
  have m13 := idiv low
  have m14 : IntKind.u64.wrap ((w64 (w64 (w64 (b * yh) + w64 (hi * yl)) + one / 4294967296) : Int) + ((low / 4294967296 : Nat) : Int)) = (cubeTwo b yh hi yl one low : Int) := wadd _ _
  generalize cubeTwo b yh hi yl one low = two at *
  have m15 := wmul hi yh
  have m16 := idiv two
  have m17 := wadd (w64 (hi * yh)) (two / 4294967296)
  generalize w64 (w64 (hi * yh) + two / 4294967296) = res at *
  generalize w64 (hi * yh) = a15 at *
  generalize two / 4294967296 = a16 at *
  generalize w64 (w64 (w64 (b * yh) + w64 (hi * yl)) + one / 4294967296) = a12 at *
  generalize w64 (w64 (b * yh) + w64 (hi * yl)) = a10 at *
  generalize w64 (b * yh) = a8 at *
  generalize w64 (hi * yl) = a9 at *
  generalize one / 4294967296 = a11 at *
  generalize one % 4294967296 = a5 at *
  generalize low / 4294967296 = a13 at *
  generalize w64 (a * yh) = a6 at *
  generalize w64 (a * yl) / 4294967296 = a3 at *
  generalize w64 (a * yl) = a2 at *
  generalize w64 (b * yl) = a1 at *
  go_enter Tryd.func144, Tryd.ntmps144
  go_wp2_with fail
  refine HC.out.mono ?_
  rintro e w' ⟨rfl, rfl⟩
  go_wp2
  go_ret
  exact ⟨rfl, rfl⟩

set_option maxHeartbeats 1000000 in
theorem l1Over_any (y p : Nat) (three : Bool) (t : Int) (ht : t = if three then 3 else 2) (w : World) :
    Calls Tryd.prog 137 #[.int .u64 (y : Int), .int .i64 t, .int .u64 (p : Int)] w fun e w' => e = .returned (.bool (over y three p)) ∧ w' = w := by
  cases three
  · simp at ht
    subst ht
    have ho : over y false p = decide (p ≤ sqHi (y / 4294967296) (y % 4294967296)) := rfl
    rw [ho]
    clear ho
    have HC := Lib.hid (l1Square_any y w)
    generalize sqHi (y / 4294967296) (y % 4294967296) = hi at *
    generalize sqLo (y / 4294967296) (y % 4294967296) = lo at *
    go_enter Tryd.func137, Tryd.ntmps137
    go_wp2_with fail
    refine HC.out.mono ?_
    rintro e w' ⟨rfl, rfl⟩
    go_wp2
    go_ret
    exact ⟨rfl, rfl⟩
  · simp at ht
    subst ht
    have ho : over y true p = decide (p ≤ cube y) := rfl
    rw [ho]
    clear ho
    have HC := Lib.hid (l1Cube_any y w)
    generalize cube y = c at *
    go_enter Tryd.func137, Tryd.ntmps137
    go_wp2_with fail
    refine HC.out.mono ?_
    rintro e w' ⟨rfl, rfl⟩
    go_wp2
    go_ret
    exact ⟨rfl, rfl⟩

theorem rootN_succ (p : Nat) (three : Bool) (j : Nat) : rootN p three (j + 1) = if decide (w64 (rootN p three j + 2 ^ (37 - j)) / 4294967296 ≤ 20) && !over (w64 (rootN p three j + 2 ^ (37 - j))) three p then w64 (rootN p three j + 2 ^ (37 - j)) else rootN p three j := by
  simp only [rootN, now_eq, rootStep]

theorem rootN_lt (p : Nat) (three : Bool) : ∀ j, rootN p three j < 18446744073709551616
  | 0 => by simp [rootN]
  | j + 1 => by
    rw [rootN_succ]
    split
    · exact w64_lt _
    · exact rootN_lt p three j
theorem root_lt (p : Nat) (three : Bool) : root p three < 4294967296 := Nat.mod_lt _ (by decide)

set_option maxHeartbeats 1000000 in
theorem l1Root_any (p : Nat) (three : Bool) (t : Int) (ht : t = if three then 3 else 2) (w : World) :
    Calls Tryd.prog 111 #[.int .u64 (p : Int), .int .i64 t] w fun e w' => e = .returned (.int .u64 (root p three : Int)) ∧ w' = w := by
  have CO := Lib.hid fun y => l1Over_any y p three t ht w
  have hroot : root p three = rootN p three 38 % 4294967296 := rfl
  have HR := Lib.hid hroot
  clear hroot ht
  go_enter Tryd.func111, Tryd.ntmps111
  go_wp2
  go_loop [5, 6] (fun x i => ∃ j : Nat, j ≤ 38 ∧ i = .int .i64 (37 - (j : Int)) ∧ x = .int .u64 (rootN p three j : Int)) (fun _ i => (intOf i + 1).toNat)
  case atStart => exact ⟨0, by omega, rfl, rfl⟩
  case round =>
    obtain ⟨j, hj, rfl, rfl⟩ := hrel
    by_cases hlt : j < 38
    · have hk : 0 ≤ 37 - (j : Int) := by omega
      have HS := Lib.hid (rootN_succ p three j)
      generalize rootN p three j = x at *
      obtain ⟨P, hP⟩ : ∃ P : Nat, 2 ^ (37 - j) = P := ⟨_, rfl⟩
      have hP1 : P ≤ 2 ^ 37 := by rw [← hP]; exact Nat.pow_le_pow_right (by decide) (by omega)
      have e1 : IntKind.u64.wrap (2 ^ (37 - j)) = (P : Int) := by
        rw [show (2 : Int) ^ (37 - j) = ((2 ^ (37 - j) : Nat) : Int) from by simp, hP]
        exact wrap64u _ (by omega) (by omega)
      have e2 := wadd x P
      rw [hP] at HS
      clear hP hP1
      generalize w64 (x + P) = Y at *
      have e3 := idiv Y
      have CY := Lib.hid (CO.out Y)
      generalize over Y three p = ov at *
      by_cases hq : Y / 4294967296 ≤ 20
      · have hq1 : ((Y / 4294967296 : Nat) : Int) ≤ 20 := by omega
        have hd : decide (Y / 4294967296 ≤ 20) = true := decide_eq_true hq
        rw [hd] at HS
        clear hq hd
        generalize Y / 4294967296 = q at *
        go_wp2_with fail
        refine CY.out.mono ?_
        rintro e w' ⟨rfl, rfl⟩
        cases ov
        · simp at HS
          go_wp2
          go_round
          case rel => exact ⟨j + 1, by omega, by go_num, by rw [HS.out]⟩
          case measure => simp [intOf]; omega
        · simp at HS
          go_wp2
          go_round
          case rel => exact ⟨j + 1, by omega, by go_num, by rw [HS.out]⟩
          case measure => simp [intOf]; omega
      · have hq1 : 20 < ((Y / 4294967296 : Nat) : Int) := by omega
        have hd : decide (Y / 4294967296 ≤ 20) = false := decide_eq_false hq
        rw [hd] at HS
        simp at HS
        clear hq hd
        generalize Y / 4294967296 = q at *
        go_wp2
        go_round
        case rel => exact ⟨j + 1, by omega, by go_num, by rw [HS.out]⟩
        case measure => simp [intOf]; omega
    · obtain rfl : j = 38 := by omega
      have hlt64 : (rootN p three 38 : Int) < 18446744073709551616 := by have := rootN_lt p three 38; omega
      go_wp2_with fail
      refine (l1Word_any _ _ (by omega) hlt64).mono ?_
      rintro e w' ⟨rfl, rfl⟩
      go_wp2
      go_ret
      exact ⟨by rw [HR.out]; rfl, rfl⟩
end Go.Proofs.YtbejafbpipdbjaaDoor
namespace Go.Proofs.YtbejafbpipdbjaaDoor
set_option maxRecDepth 4000
open Go.RowKit

theorem noPart_end (n k : Nat) (hk : n < k * k) : ∀ d, noPart n (k + d) = noPart n k
  | 0 => rfl
  | d + 1 => by
    have h1 : ¬ (k + d) * (k + d) ≤ n := by
      have := Nat.mul_le_mul (Nat.le_add_right k d) (Nat.le_add_right k d)
      omega
    rw [← Nat.add_assoc, noPart, noPart_end n k hk d]
    simp [h1]
theorem noPart_false (n k : Nat) (h2 : 2 ≤ k) (hk : k * k ≤ n) (hd : n % k = 0) : ∀ d, noPart n (k + 1 + d) = false
  | 0 => by rw [Nat.add_zero, noPart]; simp [h2, hk, hd]
  | d + 1 => by rw [← Nat.add_assoc, noPart, noPart_false n k h2 hk hd d]; rfl

set_option maxHeartbeats 1000000 in
theorem l1Prime_any (n : Nat) (hn : n < 400) (w : World) : Calls Tryd.prog 136 #[.int .u64 (n : Int)] w fun e w' => e = .returned (.bool (isPrime n)) ∧ w' = w := by
  have HP := Lib.hid (show isPrime n = (decide (1 < n) && noPart n 20) from rfl)
  go_enter Tryd.func136, Tryd.ntmps136
  go_wp2
  go_loop [3] (fun i => ∃ k : Nat, 2 ≤ k ∧ k ≤ 20 ∧ i = .int .u64 (k : Int) ∧ noPart n k = true) (fun i => 20 - (intOf i).toNat)
  case atStart => exact ⟨2, by omega, by omega, rfl, rfl⟩
  case round =>
    obtain ⟨k, hk2, hk20, rfl, hno⟩ := hrel
    have HN := Lib.hid hno
    clear hno
    obtain ⟨K, hK⟩ : ∃ K, k * k = K := ⟨_, rfl⟩
    have hK400 : K ≤ 400 := by rw [← hK]; exact Nat.mul_le_mul hk20 hk20
    have e1 : IntKind.u64.wrap ((k : Int) * (k : Int)) = (K : Int) := by rw [wmul, hK, w64, Nat.mod_eq_of_lt (by omega)]
    have e1' : (k : Int) * (k : Int) = (K : Int) := by rw [← hK]; simp
    obtain ⟨r, hr⟩ : ∃ r, n % k = r := ⟨_, rfl⟩
    have e2 : (n : Int) % (k : Int) = (r : Int) := by rw [← hr]; simp
    have hk0 : ¬ ((k : Int) = 0) := by omega
    by_cases hlt : K ≤ n
    · have h20 : k < 20 := by
        apply Classical.byContradiction
        intro h
        have : k = 20 := by omega
        subst this
        omega
      have HK := Lib.hid hK
      have HR := Lib.hid hr
      clear hK hr
      by_cases hr0 : r = 0
      · have HF := Lib.hid (noPart_false n k hk2 (by rw [HK.out]; exact hlt) (by rw [HR.out]; exact hr0) (19 - k))
        rw [show k + 1 + (19 - k) = 20 from by omega] at HF
        subst hr0
        go_wp2
        go_ret
        exact ⟨by rw [HP.out, HF.out]; simp, rfl⟩
      · have hb : ((r : Int) == 0) = false := beq_eq_false_iff_ne.2 (by omega)
        have HF := Lib.hid (show noPart n (k + 1) = true from by rw [noPart, HN.out, HR.out]; simp [hr0])
        go_wp2
        go_round
        case rel => exact ⟨k + 1, by omega, by omega, by go_num, HF.out⟩
        case measure => simp [intOf]; omega
    · have HF := Lib.hid (noPart_end n k (by omega) (20 - k))
      rw [show k + (20 - k) = 20 from by omega] at HF
      clear hK hr
      go_wp2
      go_ret
      exact ⟨by rw [HP.out, HF.out, HN.out]; simp; omega, rfl⟩

theorem primesTo_mono (n : Nat) : ∀ d, (primesTo n).length ≤ (primesTo (n + d)).length
  | 0 => Nat.le_refl _
  | d + 1 => by
    refine Nat.le_trans (primesTo_mono n d) ?_
    rw [← Nat.add_assoc, primesTo]
    split <;> simp
set_option maxRecDepth 100000 in
theorem primesTo_311 : (primesTo 311).length = 63 := by decide +kernel
theorem primesTo_few (n : Nat) (h : n ≤ 311) : (primesTo n).length ≤ 63 := by
  have := primesTo_mono n (311 - n)
  rw [show n + (311 - n) = 311 from by omega, primesTo_311] at this
  exact this
theorem primesTo_two : primesTo 2 = [] := rfl

set_option maxHeartbeats 1000000 in
theorem l1Primes_any (w : World) : Calls Tryd.prog 110 #[.int .i64 64] w fun e w' => ∃ v, e = .returned v ∧ OwnK .u64 137 w' w.heap.size v primes64 ∧ Below w.heap.size w w' := by
  obtain ⟨i0, hi, hz0, hz1, hz2⟩ := info_parts info64
  go_enter Tryd.func110, Tryd.ntmps110
  go_wp2
  go_loopw [3, 4] (fun v i wr => ∃ n : Nat, 2 ≤ n ∧ n ≤ 312 ∧ i = .int .u64 (n : Int) ∧ OwnK .u64 137 wr w.heap.size v (primesTo n) ∧ Below w.heap.size w wr) (fun _ i _ => 312 - (intOf i).toNat)
  case atStart => exact ⟨2, by omega, by omega, rfl, by rw [primesTo_two]; exact OwnK.empty (Nat.le_refl _), (Below.refl _ _).alloc (Nat.le_refl _) _⟩
  case round =>
    obtain ⟨n, hn2, hn, rfl, hown, hbel⟩ := hrel
    have hws := hbel.size
    obtain ⟨A3, c3, hv, -, -⟩ := hown.has
    by_cases hlt : n ≤ 311
    · have hfew := primesTo_few n hlt
      have HP := Lib.hid (show primesTo (n + 1) = if isPrime n then primesTo n ++ [n] else primesTo n from rfl)
      have CP := Lib.hid (l1Prime_any n (by omega) wr)
      subst hv
      generalize primesTo n = l at *
      generalize isPrime n = b at *
      go_wp2_with fail
      refine CP.out.mono ?_
      rintro e w' ⟨rfl, rfl⟩
      cases b
      · simp at HP
        go_wp2
        go_roundw
        case rel => exact ⟨n + 1, by omega, by omega, by go_num, by rw [HP.out]; exact hown, hbel⟩
        case measure => simp [intOf]; omega
      · simp at HP
        go_wp2_with (at_builtin; refine wpList_pushK .u64 144 137 Tryd.underlying144 hi hz0 hz1 hz2 rfl (.tmp 14) (.tmp 16) rfl w.heap.size _ l rfl hown n _ rfl rfl (by omega) (by omega) (by omega) ?_; intro g cap w2 ho2 hg2)
        have hb2 := (hbel.alloc hws (.cells #[.int .u64 (n : Int)] 137)).grown hg2 (by simp; omega) (fun q hq => (World.ownsRow.lt hown q hq).1)
        rw [← HP.out] at ho2
        clear hg2 hown
        go_wp2
        go_roundw
        case rel => exact ⟨n + 1, by omega, by omega, by go_num, ho2, hb2⟩
        case measure => simp [intOf]; omega
    · obtain rfl : n = 312 := by omega
      rw [show (primesTo 312).length = 64 from primes64_length] at hv
      subst hv
      go_wp2
      go_ret
      exact ⟨_, rfl, hown, hbel⟩
end Go.Proofs.YtbejafbpipdbjaaDoor
namespace Go.Proofs.YtbejafbpipdbjaaDoor
set_option maxRecDepth 4000
open Go.RowKit

/-- Bytes, a bit, and z noughts. -/
def padTo (l : List UInt8) (z : Nat) : List UInt8 := l ++ 128 :: List.replicate z 0
theorem padTo_length (l : List UInt8) (z : Nat) : (padTo l z).length = l.length + 1 + z := by simp [padTo]; omega
theorem padTo_succ (l : List UInt8) (z : Nat) : padTo l (z + 1) = padTo l z ++ [0] := by simp [padTo, List.replicate_succ']
/-- Bytes filled up, and j bytes of how many there are. -/
def padLen (l : List UInt8) (j : Nat) : List UInt8 := padTo l (zeros l.length) ++ (len8 l.length).take j
theorem padLen_length (l : List UInt8) (j : Nat) (hj : j ≤ 8) : (padLen l j).length = l.length + 1 + zeros l.length + j := by
  simp [padLen, padTo_length, len8]; omega
theorem padLen_succ (l : List UInt8) (j : Nat) (hj : j < 8) : padLen l (j + 1) = padLen l j ++ [UInt8.ofNat ((8 * l.length) >>> (8 * (7 - j)))] := by
  unfold padLen
  rw [List.take_succ_eq_append_getElem (by simp [len8]; omega), ← List.append_assoc]
  simp [len8]
theorem padLen_all (l : List UInt8) : padLen l 8 = whole l := by
  unfold padLen
  rw [List.take_of_length_le (by simp [len8])]
  simp [padTo, whole]
theorem padLen_none (l : List UInt8) : padLen l 0 = padTo l (zeros l.length) := by simp [padLen]

set_option maxHeartbeats 1000000 in
theorem l1Whole_any (A : Option Addr) (c : Nat) (l : List UInt8) (w : World) (hl : l.length ≤ 100000) (h : Has w w.heap.size A l) :
    Calls Tryd.prog 112 #[.slice A l.length c] w fun e w' => ∃ v, e = .returned v ∧ Own w' w.heap.size v (whole l) ∧ Below w.heap.size w w' := by
  have hzl : zeros l.length < 64 := Nat.mod_lt _ (by decide)
  have hz56 : (l.length + 1 + zeros l.length) % 64 = 56 := by unfold zeros; omega
  have hzn : ∀ z, z < zeros l.length → (l.length + 1 + z) % 64 ≠ 56 := by unfold zeros; intro z hz; omega
  have HZN := Lib.hid hzn
  have HZ56 := Lib.hid hz56
  clear hzn hz56
  go_enter Tryd.func112, Tryd.ntmps112
  go_wp2_with (first
    | (at_builtin; refine wpList_pushAll rfl (.tmp 6) (.tmp 7) rfl w.heap.size _ [] rfl (own_empty (Nat.le_refl _)) _ A c l rfl (h.kept (w' := w.alloc (.cells #[] 5)) fun p hp => World.cell?_of_block (Below.heap_alloc w _ p.block hp)) (by simp; omega) (by simp) ?_; intro v1 w1 ho1 hg1)
    | (at_builtin; refine wpList_push1 rfl (.tmp 8) (.tmp 9) rfl w.heap.size _ l rfl ho1 128 w1.heap.size rfl rfl (by omega) (by have := hg1.size; simp at this; omega) ?_; intro g2 c2 w2 ho2 hg2))
  have hlt1 : ∀ k, (Value.slice (some ⟨w.heap.size, 0, none⟩) 0 0).ownBlock = some k → w.heap.size ≤ k := fun k hk => by simp [Value.ownBlock] at hk; omega
  have hb1 : Below w.heap.size w w1 := ((Below.refl _ w).alloc (Nat.le_refl _) _).grown hg1 (by simp) hlt1
  have hb2 : Below w.heap.size w w2 := (hb1.alloc hb1.size _).grown hg2 (by have := hb1.size; simp; omega) (fun k hk => (World.ownsRow.lt ho1 k hk).1)
  have ho2' : Own w2 w.heap.size (.slice (some ⟨g2, 0, none⟩) (l.length + 1) c2) (padTo l 0) := ho2
  clear ho1 hg1 ho2 hg2 hlt1 hb1
  go_loopw [3] (fun v wr => ∃ z : Nat, z ≤ zeros l.length ∧ Own wr w.heap.size v (padTo l z) ∧ Below w.heap.size w wr) (fun v _ => zeros l.length + l.length + 1 - (match v with | .slice _ n _ => n | _ => 0))
  case atStart => exact ⟨0, by omega, ho2', hb2⟩
  case round =>
    obtain ⟨z, hz, hown, hbel⟩ := hrel
    have hws := hbel.size
    obtain ⟨A3, c3, hv, -, -⟩ := hown.has
    have hpl := padTo_length l z
    rw [hpl] at hv
    subst hv
    by_cases hlt : z < zeros l.length
    · have ht : (((l.length : Int) + 1 + (z : Int)) % 64 != 56) = true := by have := HZN.out z hlt; simp; omega
      go_wp2_with (at_builtin; refine wpList_push1 rfl (.tmp 15) (.tmp 16) rfl w.heap.size _ (padTo l z) rfl hown 0 wr.heap.size rfl rfl (by omega) (by omega) ?_; intro g4 c4 w4 ho4 hg4)
      have hb4 : Below w.heap.size w w4 := (hbel.alloc hws _).grown hg4 (by simp; omega) (fun k hk => (World.ownsRow.lt hown k hk).1)
      rw [← padTo_succ, hpl] at ho4
      clear hg4 hown hpl
      go_wp2
      go_roundw
      case rel => exact ⟨z + 1, by omega, ho4, hb4⟩
      case measure => simp; omega
    · obtain rfl : z = zeros l.length := by omega
      have ht : (((l.length : Int) + 1 + (zeros l.length : Int)) % 64 != 56) = false := by have := HZ56.out; simp; omega
      rw [← padLen_none] at hown
      clear hpl
      go_wp2
      clear ht h HZN HZ56 hlt hz
      go_loopw [3, 5] (fun v i wr => ∃ j : Nat, j ≤ 8 ∧ i = .int .i64 (7 - (j : Int)) ∧ Own wr w.heap.size v (padLen l j) ∧ Below w.heap.size w wr) (fun _ i _ => (intOf i + 1).toNat)
      case atStart => exact ⟨0, by omega, rfl, hown, hbel⟩
      case round =>
        clear hown hbel hws ho2' hb2
        obtain ⟨j, hj, rfl, hown, hbel⟩ := hrel
        have hws := hbel.size
        by_cases hlt : j < 8
        · have hpl := padLen_length l j hj
          have HS := Lib.hid (padLen_succ l j hlt)
          have e8 : IntKind.u8.wrap ((8 * (l.length : Int)) / 2 ^ (8 * (7 - j))) = ((UInt8.ofNat ((8 * l.length) >>> (8 * (7 - j)))).toNat : Int) := by
            rw [IntKind.wrap_u8, Nat.shiftRight_eq_div_pow, show (8 * (l.length : Int)) / 2 ^ (8 * (7 - j)) = ((8 * l.length / 2 ^ (8 * (7 - j)) : Nat) : Int) from by simp]
            simp
          generalize UInt8.ofNat ((8 * l.length) >>> (8 * (7 - j))) = x at *
          have hj0 : 0 ≤ 8 * (7 - (j : Int)) := by omega
          have tn : (8 * (7 - (j : Int))).toNat = 8 * (7 - j) := by omega
          go_wp2_with (at_builtin; refine wpList_push1 rfl (.tmp 26) (.tmp 32) rfl w.heap.size _ (padLen l j) rfl hown x wr.heap.size rfl rfl (by omega) (by omega) ?_; intro g4 c4 w4 ho4 hg4)
          have hb4 : Below w.heap.size w w4 := (hbel.alloc hws _).grown hg4 (by simp; omega) (fun k hk => (World.ownsRow.lt hown k hk).1)
          rw [← HS.out] at ho4
          clear hg4 hown
          go_wp2
          go_roundw
          case rel => exact ⟨j + 1, by omega, by go_num, by rw [← hpl]; exact ho4, hb4⟩
          case measure => simp [intOf]; omega
        · obtain rfl : j = 8 := by omega
          rw [padLen_all] at hown
          go_wp2
          go_ret
          exact ⟨_, rfl, hown, hbel⟩
end Go.Proofs.YtbejafbpipdbjaaDoor
namespace Go.Proofs.YtbejafbpipdbjaaDoor
set_option maxRecDepth 4000
open Go.RowKit

theorem only_drew1 {a w : World} {row : Option Nat} (h : a.grownBy w row) : a.grownBy w.drew row := ⟨h.os, h.tape, h.output, h.size, h.block⟩
theorem only_below {a w : World} (h : Below a.heap.size a w) : a.grownBy w none := ⟨h.os, h.tape, h.output, h.size, fun i hi _ => h.block i hi⟩
/-- Eight words of which the first k are added up. -/
def plusTo (s t : Eight) (k : Nat) : List Nat := (s.plus t).list.take k ++ s.list.drop k
theorem plusTo_zero (s t : Eight) : plusTo s t 0 = s.list := rfl
theorem plusTo_all (s t : Eight) : plusTo s t 8 = (s.plus t).list := rfl
theorem Eight.list_lt {s : Eight} (h : s.Ok) : ∀ x ∈ s.list, x < 4294967296 := by
  obtain ⟨h1, h2, h3, h4, h5, h6, h7, h8⟩ := h
  intro x hx
  simp only [Eight.list, List.mem_cons, List.not_mem_nil, or_false] at hx
  rcases hx with rfl | rfl | rfl | rfl | rfl | rfl | rfl | rfl <;> assumption
theorem plusTo_lt {s t : Eight} (hs : s.Ok) (k : Nat) : ∀ x ∈ plusTo s t k, x < 4294967296 := by
  intro x hx
  rcases List.mem_append.1 hx with h | h
  · exact Eight.list_lt (Eight.plus_ok s t) x (List.mem_of_mem_take h)
  · exact Eight.list_lt hs x (List.mem_of_mem_drop h)
theorem plusTo_length (s t : Eight) (k : Nat) (hk : k ≤ 8) : (plusTo s t k).length = 8 := by simp [plusTo, Eight.list]; omega
theorem plusTo_step (s t : Eight) (k y z : Nat) (hk : k < 8) (hy : (plusTo s t k)[k]? = some y) (hz : t.list[k]? = some z) : (plusTo s t k).set k ((y + z) % 4294967296) = plusTo s t (k + 1) := by
  rcases k with _ | _ | _ | _ | _ | _ | _ | _ | k
  all_goals first
    | omega
    | (simp [plusTo, Eight.list, Eight.plus] at hy hz; subst hy hz; rfl)

/-- The bytes of the first k words. -/
def outTo (s : Eight) (k : Nat) : List UInt8 := (s.list.take k).flatMap out4
theorem outTo_succ (s : Eight) (k y : Nat) (h : s.list[k]? = some y) : outTo s (k + 1) = outTo s k ++ out4 y := by
  obtain ⟨hk, rfl⟩ := List.getElem?_eq_some_iff.1 h
  unfold outTo
  rw [List.take_succ_eq_append_getElem hk, List.flatMap_append]
  simp
theorem outTo_all (s : Eight) : outTo s 8 = out32 s := rfl
theorem outTo_length (s : Eight) (k : Nat) (hk : k ≤ 8) : (outTo s k).length = 4 * k := by
  rcases k with _ | _ | _ | _ | _ | _ | _ | _ | _ | k
  all_goals first
    | omega
    | rfl
theorem out4_bytes (y : Nat) : ∃ b0 : UInt8, IntKind.u8.wrap ((y : Int) / 16777216) = (b0.toNat : Int) ∧ ∃ b1 : UInt8, IntKind.u8.wrap ((y : Int) / 65536) = (b1.toNat : Int) ∧ ∃ b2 : UInt8, IntKind.u8.wrap ((y : Int) / 256) = (b2.toNat : Int) ∧ ∃ b3 : UInt8, IntKind.u8.wrap (y : Int) = (b3.toNat : Int) ∧ out4 y = [b0, b1, b2, b3] := by
  have h : ∀ z : Nat, IntKind.u8.wrap (z : Int) = ((UInt8.ofNat z).toNat : Int) := fun z => by rw [IntKind.wrap_u8]; simp
  refine ⟨UInt8.ofNat (y >>> 24), ?_, UInt8.ofNat (y >>> 16), ?_, UInt8.ofNat (y >>> 8), ?_, UInt8.ofNat y, h y, rfl⟩
  · rw [← h, Nat.shiftRight_eq_div_pow]; congr 1
  · rw [← h, Nat.shiftRight_eq_div_pow]; congr 1
  · rw [← h, Nat.shiftRight_eq_div_pow]; congr 1
end Go.Proofs.YtbejafbpipdbjaaDoor
namespace Go.Proofs.YtbejafbpipdbjaaDoor
set_option maxRecDepth 4000
open Go.RowKit

/-- The roots of the first k primes. -/
def rootsTo (three : Bool) (k : Nat) : List Nat := (primes64.take k).map fun p => root p three
theorem rootsTo_succ (three : Bool) (k p : Nat) (h : primes64[k]? = some p) : rootsTo three (k + 1) = rootsTo three k ++ [root p three] := by
  obtain ⟨hk, rfl⟩ := List.getElem?_eq_some_iff.1 h
  unfold rootsTo
  rw [List.take_succ_eq_append_getElem hk, List.map_append]
  rfl
theorem rootsTo_length (three : Bool) (k : Nat) (hk : k ≤ 64) : (rootsTo three k).length = k := by simp [rootsTo, primes64_length]; omega
theorem rootsTo_8 : rootsTo false 8 = first8.list := roots2
theorem rootsTo_64 : rootsTo true 64 = round64 := by
  rw [← roots3, rootsTo, List.take_of_length_le (by rw [primes64_length]; exact Nat.le_refl _)]

/-- 'append(v, m...)' of numbers that are read, v the call's own. -/
theorem wpList_pushAllK {P : Program} (k : IntKind) (ts t : TypeId) {i0 : TypeInfo} {bytes : Nat} (hu : P.underlying ts = some (.slice t)) (hi : P.info? t = some i0) (hz0 : i0.zero = some (.int k 0)) (hz1 : i0.size = 1) (hz2 : i0.bytes = bytes)
    {w : World} {ops : Array Oper} {rest : List Oper} {o : Oper} {a : Act} {Q : Exit → Act → World → Prop} (hgd : o.guard = none) (s x : Operand)
    (ho : o.op = .call { callee := .builtin .append, args := #[s, x], argTypes := #[ts, ts] })
    (base : Nat) (v : Value) (l : List Nat) (hs : a.eval s = v) (hown : OwnK k t w base v l) (B b p c n : Nat) (m : List Nat) (hn : m.length = n)
    (hx : a.eval x = .slice (some ⟨b, p, none⟩) n c) (hm : HasK k w B (some ⟨b, p, none⟩) m) (hb : (l.length + n) * bytes ≤ 140737488355328) (hb2 : l.length + n ≤ 1000000000) (hbase : base ≤ w.heap.size)
    (h : ∀ v' w', OwnK k t w' base v' (l ++ m) → w.grownBy w' v.ownBlock → wpList P ops Q rest (a.put o.dst v') w') :
    wpList P ops Q (o :: rest) a w := by
  subst hn
  refine wpList_append_own w hgd s x ts ho base t i0 (.int k 0) 1 bytes hu hi hz0 hz1 hz2 rfl (by omega) v l.length (l.map (kv k)) hs hown ⟨b, p, none⟩ m.length c (m.map (kv k)) hx (by simp) ?_ (kvs_one _ _) (by unfold maxLen; omega) hb hbase ?_
  · intro j u hu
    simp only [List.getElem?_map, Option.map_eq_some_iff] at hu
    obtain ⟨y, hy, rfl⟩ := hu
    rcases hm with rfl | ⟨b', o', e, _, hc⟩
    · simp at hy
    · injection e with e
      injection e with e1 e2 _
      subst e1 e2
      rw [plain_add]
      exact hc j y hy
  · intro v' w' h1 h2 _
    refine h v' w' ?_ h2
    unfold OwnK
    rw [List.length_append, List.map_append]
    exact h1
theorem Has.cut {w : World} {B b o : Nat} {l : List UInt8} (h : Has w B (some ⟨b, o, none⟩) l) (n m : Nat) : Has w B (some ⟨b, o + n, none⟩) ((l.drop n).take m) := by
  rcases h with rfl | ⟨b', o', e, hb, hc⟩
  · exact .inl (by simp)
  · injection e with e
    injection e with e1 e2 _
    subst e1 e2
    refine .inr ⟨b, o + n, rfl, hb, fun i x hx => ?_⟩
    rw [Nat.add_assoc]
    refine hc (n + i) x ?_
    rw [List.getElem?_take] at hx
    split at hx
    · rw [List.getElem?_drop] at hx; exact hx
    · cases hx
theorem Has.grown {w w' : World} {B : Nat} {A : Option Addr} {l : List UInt8} {row : Option Nat} (h : Has w B A l) (hg : w.grownBy w' row) (hB : B ≤ w.heap.size) (hr : ∀ b o, A = some ⟨b, o, none⟩ → row ≠ some b) : Has w' B A l := by
  rcases h with rfl | ⟨b, o, rfl, hb, hc⟩
  · exact .inl rfl
  · exact .inr ⟨b, o, rfl, hb, fun i x hx => (World.cell?_of_block (hg.block b (by omega) (fun e => hr b o rfl e.symm))).trans (hc i x hx)⟩
theorem rounds_next (s : Eight) (ws : List Nat) (k rk x : Nat) (h1 : round64[k]? = some rk) (h2 : ws[k]? = some x) : rounds s ws (k + 1) = (rounds s ws k).step (rk + x) := by
  rw [rounds, List.getD, List.getD, h1, h2]
  rfl
theorem l1Word_sum (y z : Nat) (w : World) (hy : y < 4294967296) (hz : z < 4294967296) :
    Calls Tryd.prog 115 #[.int .u64 ((y : Int) + (z : Int))] w fun e w' => e = .returned (.int .u64 (((y : Int) + (z : Int)) % 4294967296)) ∧ w' = w := l1Word_any _ _ (by omega) (by omega)
theorem far_keptB {wr w2 : World} {B : Nat} {v : Value} {l : List UInt8} {o : Obj} (ho : Own wr B v l) (hg : ((wr.alloc o).drew).grownBy w2 v.ownBlock) : ∀ p : Addr, p.block < B ∧ p.block < wr.heap.size → w2.cell? p = wr.cell? p := fun p hp =>
  (World.cell?_of_block (hg.block p.block (by show p.block < (wr.alloc o).heap.size; simp; omega) (fun e => by have := (World.ownsRow.lt ho p.block e.symm).1; omega))).trans (World.cell?_of_block (Below.heap_alloc wr o p.block hp.2))
theorem whole_blocks (l : List UInt8) : ∃ N, (whole l).length = 64 * N ∧ (whole l).length / 64 = N ∧ N ≤ l.length + 2 := by
  refine ⟨(whole l).length / 64, ?_, rfl, ?_⟩ <;> (rw [whole_length]; unfold zeros; omega)

set_option maxRecDepth 100000 in
set_option maxHeartbeats 4000000 in
theorem l1Sum_any (A : Option Addr) (c : Nat) (l : List UInt8) (w : World) (hl : l.length ≤ 10000) (h : Has w w.heap.size A l) :
    Calls Tryd.prog 95 #[.slice A l.length c] w fun e w' => ∃ v, e = .returned v ∧ Own w' w.heap.size v (sha l) ∧ Below w.heap.size w w' := by
  obtain ⟨i0, hi, hz0, hz1, hz2⟩ := info_parts info64
  go_enter Tryd.func95, Tryd.ntmps95
  go_wp2_with fail
  refine (l1Primes_any _).mono ?_
  rintro e w1 ⟨vP, rfl, hoP, hb1⟩
  obtain ⟨AP, cP, hv, -, hP⟩ := hoP.has
  rw [primes64_length] at hv
  subst hv
  have hz1' := hb1.size
  clear hoP
  go_wp2_with fail
  go_loopw [4, 5] (fun v i wr => ∃ k : Nat, k ≤ 8 ∧ i = .int .i64 k ∧ OwnK .u64 137 wr w1.heap.size v (rootsTo false k) ∧ Below w1.heap.size w1 wr) (fun _ i _ => 8 - (intOf i).toNat)
  case atStart => exact ⟨0, by omega, rfl, OwnK.empty (Nat.le_refl _), (Below.refl _ _).alloc (Nat.le_refl _) _⟩
  case round =>
    obtain ⟨k, hk, rfl, hown, hbel⟩ := hrel
    have hws := hbel.size
    by_cases hlt : k < 8
    · obtain ⟨b, o, p, rfl, hbB, hx, hc⟩ := hP.spot (i := k) (by rw [primes64_length]; omega)
      have hcx := (hbel.cell (p := ⟨b, o + k, none⟩) hbB).trans hc
      have HS := Lib.hid (rootsTo_succ false k p hx)
      have hlen := rootsTo_length false k (by omega)
      clear hc hx hP
      go_wp2_with fail
      refine (l1Root_any p false 2 rfl _).mono ?_
      rintro e w' ⟨rfl, rfl⟩
      generalize root p false = r at *
      go_wp2_with (at_builtin; refine wpList_pushK .u64 144 137 Tryd.underlying144 hi hz0 hz1 hz2 rfl (.tmp 22) (.tmp 28) rfl w1.heap.size _ (rootsTo false k) rfl hown r _ rfl rfl (by omega) (by omega) (by omega) ?_; intro g2 c2 w2 ho2 hg2)
      have hb2 := (hbel.alloc hws (.cells #[.int .u64 (r : Int)] 137)).grown hg2 (by simp; omega) (fun q hq => (World.ownsRow.lt hown q hq).1)
      rw [← HS.out, hlen] at ho2
      clear hg2 hown hcx hlen
      go_wp2
      go_roundw
      case rel => exact ⟨k + 1, by omega, by go_num, ho2, hb2⟩
      case measure => simp [intOf]; omega
    · obtain rfl : k = 8 := by omega
      rw [show ((8 : Nat) : Int) = 8 from rfl]
      rw [rootsTo_8] at hown
      obtain ⟨AH, cH, hv, -, -⟩ := hown.has
      have hv : _ = Value.slice AH 8 cH := hv
      subst hv
      obtain ⟨gH, rfl, hgH1, hgH2⟩ := hown.nonnil (by simp [Eight.list])
      have h2 : Has wr wr.heap.size A l := h.carry (hb1.trans (hbel.mono hz1')) (Nat.le_refl _) (by omega)
      go_wp2_with fail
      refine (l1Whole_any A c l _ (by omega) h2).mono ?_
      rintro e w3 ⟨vA, rfl, hoA, hb3⟩
      obtain ⟨AA, cA, rfl, hcA, hA3⟩ := hoA.has
      have hP3 : HasK .u64 w3 w1.heap.size AP primes64 := (hP.below hbel).below (hb3.mono hws)
      have hz3 := hb3.size
      have hoH3 : OwnK .u64 137 w3 w1.heap.size (.slice (some ⟨gH, 0, none⟩) 8 cH) first8.list := hown.below hb3 (Nat.le_refl _)
      have hb3' : Below w1.heap.size w1 w3 := hbel.trans (hb3.mono hws)
      have hA3B : ∀ b o, AA = some ⟨b, o, none⟩ → gH ≠ b ∨ whole l = [] := by
        intro b o e
        subst e
        rcases hoA.2 with ⟨hv, h0⟩ | ⟨g, cap, cur, hv, hb, hg, _⟩
        · injection hv with hv _ _
          cases hv
        · injection hv with hv _ _
          injection hv with hv
          injection hv with hv _ _
          left
          omega
      clear hoA hown hbel hws h2 h hP hb3
      go_wp2_with fail
      go_loopw [7, 8] (fun v i wr => ∃ k : Nat, k ≤ 64 ∧ i = .int .i64 k ∧ OwnK .u64 137 wr w3.heap.size v (rootsTo true k) ∧ Below w3.heap.size w3 wr) (fun _ i _ => 64 - (intOf i).toNat)
      case atStart => exact ⟨0, by omega, rfl, OwnK.empty (Nat.le_refl _), (Below.refl _ _).alloc (Nat.le_refl _) _⟩
      case round =>
        obtain ⟨k, hk, rfl, hown, hbel⟩ := hrel
        have hws := hbel.size
        by_cases hlt : k < 64
        · obtain ⟨b, o, p, rfl, hbB, hx, hc⟩ := hP3.spot (i := k) (by rw [primes64_length]; omega)
          have hcx := (hbel.cell (p := ⟨b, o + k, none⟩) (by show b < _; omega)).trans hc
          have HS := Lib.hid (rootsTo_succ true k p hx)
          have hlen := rootsTo_length true k (by omega)
          clear hc hx hP3
          go_wp2_with fail
          refine (l1Root_any p true 3 rfl _).mono ?_
          rintro e w' ⟨rfl, rfl⟩
          generalize root p true = r at *
          go_wp2_with (at_builtin; refine wpList_pushK .u64 144 137 Tryd.underlying144 hi hz0 hz1 hz2 rfl (.tmp 37) (.tmp 43) rfl w3.heap.size _ (rootsTo true k) rfl hown r _ rfl rfl (by omega) (by omega) (by omega) ?_; intro g2 c2 w2 ho2 hg2)
          have hb2 := (hbel.alloc hws (.cells #[.int .u64 (r : Int)] 137)).grown hg2 (by simp; omega) (fun q hq => (World.ownsRow.lt hown q hq).1)
          rw [← HS.out, hlen] at ho2
          clear hg2 hown hcx hlen
          go_wp2
          go_roundw
          case rel => exact ⟨k + 1, by omega, by go_num, ho2, hb2⟩
          case measure => simp [intOf]; omega
        · obtain rfl : k = 64 := by omega
          rw [show ((64 : Nat) : Int) = 64 from rfl]
          rw [rootsTo_64] at hown
          obtain ⟨AK, cK, hv, -, hK4⟩ := hown.has
          have hv : _ = Value.slice AK 64 cK := hv
          subst hv
          obtain ⟨gK, rfl, hgK1, hgK2⟩ := hown.nonnil (by rw [round64_length]; omega)
          have hA4 : Has wr w3.heap.size AA (whole l) := hA3.below hbel
          have hoH4 : OwnK .u64 137 wr w1.heap.size (.slice (some ⟨gH, 0, none⟩) 8 cH) first8.list := hoH3.below hbel (Nat.le_refl _)
          have hb4 : Below w1.heap.size w1 wr := hb3'.trans (hbel.mono hb3'.size)
          have hgHK : gH ≠ gK := by omega
          have hw34 : w3.heap.size ≤ wr.heap.size := hws
          have hgHr : gH < wr.heap.size := by omega
          have hsha : sha l = out32 (blocks (whole l) ((whole l).length / 64)) := rfl
          obtain ⟨N, hN1, hN2, hN3⟩ := whole_blocks l
          rw [hN2] at hsha
          have HSHA := Lib.hid hsha
          have HN1 := Lib.hid hN1
          generalize whole l = L at *
          have hb14 : Below w.heap.size w wr := hb1.trans (hb4.mono hz1')
          clear hown hbel hoH3 hb3' hA3 hP3 hb1 hb4 hN2 hsha hlt hk
          rw [hN1] at hcA
          go_wp2_with fail
          rw [HN1.out]
          clear hN1
          obtain ⟨W4, hW4⟩ : ∃ W4, W4 = wr := ⟨_, rfl⟩
          subst hW4
          go_loopw [9] (fun i w' => ∃ n : Nat, n ≤ N ∧ i = .int .i64 (64 * (n : Int)) ∧ OwnK .u64 137 w' w1.heap.size (.slice (some ⟨gH, 0, none⟩) 8 cH) (blocks L n).list ∧ W4.grownBy w' (some gH)) (fun i _ => 64 * N - (intOf i).toNat)
          case atStart => exact ⟨0, by omega, rfl, hoH4, World.grownBy.refl _ _⟩
          case round =>
            clear hoH4
            obtain ⟨n, hn, rfl, hoH, hgr⟩ := hrel
            have hgz := hgr.size
            have hHr := hoH.reads
            by_cases hlt : n < N
            · have hKr : HasK .u64 wr W4.heap.size (some ⟨gK, 0, none⟩) round64 := hK4.grown hgr (Nat.le_refl _) (fun b o e => by injection e with e; injection e with e1 _ _; subst e1; intro h; injection h with h; exact hgHK h)
              have hL : 0 < L.length := by rw [HN1.out]; omega
              obtain ⟨bA, oA, _, rfl, _, _, _⟩ := hA4.spot hL
              have hbA : gH ≠ bA := by
                rcases hA3B bA oA rfl with h | h
                · exact h
                · rw [h] at hL; simp at hL
              have hAr : Has wr w3.heap.size (some ⟨bA, oA, none⟩) L := hA4.grown hgr hw34 (fun b o e => by injection e with e; injection e with e1 _ _; subst e1; intro h; injection h with h; exact hbA h)
              have hblk := hAr.cut (64 * n) 64
              have hbl : ((L.drop (64 * n)).take 64).length = 64 := by rw [List.length_take, List.length_drop, HN1.out]; omega
              have HBL := Lib.hid hbl
              have HMIX := Lib.hid (show blocks L (n + 1) = mix (blocks L n) ((L.drop (64 * n)).take 64) from rfl)
              have hok := blocks_ok L n
              generalize (L.drop (64 * n)).take 64 = blk at *
              generalize blocks L n = s at *
              have hcn : ¬ cA = 64 * n := by omega
              have hcn2 : 64 * n + 64 ≤ cA := by omega
              have hlt2 : 64 * (n : Int) < 64 * (N : Int) := by omega
              clear hbl
              go_wp2_with fail
              refine (l1Words_any _ _ blk _ HBL.out (hblk.wider (by omega))).mono ?_
              rintro e w5 ⟨vW, rfl, hoW, hb5⟩
              obtain ⟨AW, cW, hv, -, hW5⟩ := hoW.has
              rw [sched_length] at hv
              subst hv
              have hz5 := hb5.size
              have hH5 : HasK .u64 w5 wr.heap.size (some ⟨gH, 0, none⟩) s.list := hHr.below hb5
              have hK5 : HasK .u64 w5 W4.heap.size (some ⟨gK, 0, none⟩) round64 := hKr.below (hb5.mono hgz)
              clear hoW hHr hKr hAr hblk
              go_wp2_with (at_builtin; refine wpList_pushAllK .u64 144 137 Tryd.underlying144 hi hz0 hz1 hz2 rfl (.tmp 57) (.tmp 58) rfl w5.heap.size _ [] rfl (OwnK.empty (Nat.le_refl _)) wr.heap.size gH 0 cH 8 s.list rfl rfl (by exact hH5.kept fun p hp => World.cell?_of_block (Below.heap_alloc w5 _ p.block (by omega))) (by simp) (by simp) (by simp) ?_; intro vX w6 hoX hg6)
              have hb6 : Below w5.heap.size w5 w6 := ((Below.refl _ w5).alloc (Nat.le_refl _) _).grown hg6 (by simp) (fun k hk => (World.ownsRow.lt (OwnK.empty (k := .u64) (t := 137) (w := w5) (Nat.le_refl _)) k hk).1)
              rw [List.nil_append] at hoX
              clear hg6
              obtain ⟨W0, hW0⟩ : ∃ W0, W0 = wr := ⟨_, rfl⟩
              subst hW0
              go_wp2_with fail
              go_loopw [11, 12] (fun v i w' => ∃ k : Nat, k ≤ 64 ∧ i = .int .i64 k ∧ OwnK .u64 137 w' w5.heap.size v (rounds s (sched blk 64) k).list ∧ Below w5.heap.size w5 w') (fun _ i _ => 64 - (intOf i).toNat)
              case atStart => exact ⟨0, by omega, rfl, hoX, hb6⟩
              case round =>
                clear hoX hb6
                obtain ⟨k, hk, rfl, hoX, hbX⟩ := hrel
                have hzX := hbX.size
                obtain ⟨AX, cX, hv, -, hX⟩ := hoX.has
                have hv : _ = Value.slice AX 8 cX := hv
                subst hv
                obtain ⟨gX, rfl, hgX1, hgX2⟩ := hoX.nonnil (by simp [Eight.list])
                by_cases hlt3 : k < 64
                · obtain ⟨_, _, rk, e, _, hrk, dK⟩ := hK5.spot (i := k) (by rw [round64_length]; omega)
                  simp only [Option.some.injEq, Addr.mk.injEq, and_true] at e
                  obtain ⟨rfl, rfl⟩ := e
                  obtain ⟨bW, oW, x, rfl, hbW, hx, dW⟩ := hW5.spot (i := k) (by rw [sched_length]; omega)
                  have lrk := round64_lt rk (List.mem_of_getElem? hrk)
                  have lx := sched_lt blk 64 x (List.mem_of_getElem? hx)
                  have HR := Lib.hid (rounds_next s (sched blk 64) k rk x hrk hx)
                  have hok2 := rounds_ok hok (sched blk 64) k
                  have dK2 : wr.drew.cell? _ = _ := (hbX.cell (p := ⟨gK, 0 + k, none⟩) (by show gK < _; omega)).trans dK
                  have dW2 : wr.drew.cell? _ = _ := (hbX.cell (p := ⟨bW, oW + k, none⟩) hbW).trans dW
                  have hXd : HasK .u64 wr.drew wr.drew.heap.size (some ⟨gX, 0, none⟩) (rounds s (sched blk 64) k).list := hX
                  have hbXd : Below w5.heap.size w5 wr.drew := hbX.drew
                  have hzXd : w5.heap.size ≤ wr.drew.heap.size := hzX
                  rw [Nat.zero_add] at dK2
                  clear hrk hx dK dW hX hbX hoX hK5 hW5
                  generalize rounds s (sched blk 64) k = t at *
                  go_wp2_with fail
                  refine wp_region_still_tail 9 (by kernel_rfl) (by kernel_rfl) ?_
                  simp only [List.take_succ_cons, List.take_zero, List.drop_succ_cons, List.drop_zero]
                  change wpStill _ _ wr.drew _ _ _
                  repeat still_step
                  refine wpStill_nil ?_
                  go_wp2_with fail
                  refine (l1Step_any gX 0 cX t rk x _ hok2 lrk lx hXd).mono ?_
                  rintro e w7 ⟨rfl, ho7, hb7⟩
                  have hb7' : Below w5.heap.size w5 w7 := hbXd.trans (hb7.mono hzXd)
                  have ho7' : OwnK .u64 137 w7 w5.heap.size (.slice (some ⟨wr.heap.size, 0, none⟩) 8 8) (rounds s (sched blk 64) (k + 1)).list := by
                    rw [HR.out]
                    refine ⟨ho7.1, ?_⟩
                    rcases ho7.2 with hn | ⟨g, cap, cur, e, hg, rest⟩
                    · exact .inl hn
                    · exact .inr ⟨g, cap, cur, e, Nat.le_trans hzX hg, rest⟩
                  clear ho7 hb7 hXd hbXd dK2 dW2
                  go_wp2_with fail
                  go_roundw
                  case rel => exact ⟨k + 1, by omega, by go_num, ho7', hb7'⟩
                  case measure => simp [intOf]; omega
                · obtain rfl : k = 64 := by omega
                  rw [show ((64 : Nat) : Int) = 64 from rfl]
                  have HMX := Lib.hid (show mix s blk = s.plus (rounds s (sched blk 64) 64) from rfl)
                  have hokt := rounds_ok hok (sched blk 64) 64
                  have hoH8 : OwnK .u64 137 wr w1.heap.size (.slice (some ⟨gH, 0, none⟩) 8 cH) s.list := (hoH.below hb5 (Nat.le_refl _)).below hbX (Nat.le_refl _)
                  have hgr8 : W4.grownBy wr (some gH) := grown_own (grown_own hgr (only_below hb5) (fun q e => by cases e)) (only_below hbX) (fun q e => by cases e)
                  have hXw : HasK .u64 wr wr.heap.size (some ⟨gX, 0, none⟩) (rounds s (sched blk 64) 64).list := hX
                  have hgHX : gX ≠ gH := by omega
                  generalize rounds s (sched blk 64) 64 = t at *
                  have hok0 := hok
                  clear hoX hX hK5 hW5 hH5 hb5 hbX hoH hgr hgX1 hok hzX hz5
                  obtain ⟨W8, hW8⟩ : ∃ W8, W8 = wr := ⟨_, rfl⟩
                  subst hW8
                  go_wp2_with fail
                  go_loopw [13] (fun i w' => ∃ k : Nat, k ≤ 8 ∧ i = .int .i64 k ∧ OwnK .u64 137 w' w1.heap.size (.slice (some ⟨gH, 0, none⟩) 8 cH) (plusTo s t k) ∧ W8.grownBy w' (some gH)) (fun i _ => 8 - (intOf i).toNat)
                  case atStart => exact ⟨0, by omega, rfl, hoH8, World.grownBy.refl _ _⟩
                  case round =>
                    clear hoH8
                    obtain ⟨k, hk, rfl, hoH, hgr⟩ := hrel
                    by_cases hlt5 : k < 8
                    · have hXr : HasK .u64 wr W8.heap.size (some ⟨gX, 0, none⟩) t.list := hXw.grown hgr (Nat.le_refl _) (fun b o e => by injection e with e; injection e with e1 _ _; subst e1; intro h; injection h with h; exact hgHX h.symm)
                      obtain ⟨_, _, y, e, _, hy, dH⟩ := hoH.reads.spot (i := k) (by rw [plusTo_length s t k hk]; exact hlt5)
                      simp only [Option.some.injEq, Addr.mk.injEq, and_true] at e
                      obtain ⟨rfl, rfl⟩ := e
                      obtain ⟨_, _, z, e, _, hz, dX⟩ := hXr.spot (i := k) (by simp [Eight.list]; omega)
                      simp only [Option.some.injEq, Addr.mk.injEq, and_true] at e
                      obtain ⟨rfl, rfl⟩ := e
                      have ly := plusTo_lt hok0 k y (List.mem_of_getElem? hy)
                      have lz := Eight.list_lt hokt z (List.mem_of_getElem? hz)
                      have hpl := plusTo_length s t k hk
                      have hoH' : OwnK .u64 137 wr w1.heap.size (.slice (some ⟨gH, 0, none⟩) (plusTo s t k).length cH) (plusTo s t k) := by rw [hpl]; exact hoH
                      have hfr : wr.drew.frozen? ⟨gH, k, none⟩ = false := World.ownsRow.frozenAt hoH' k
                      have hset := OwnK.set (w := wr.drew) hoH' k ((y + z) % 4294967296)
                      rw [plusTo_step s t k y z hlt5 hy hz, hpl] at hset
                      obtain ⟨m, hm⟩ : ∃ m, (y + z) % 4294967296 = m := ⟨_, rfl⟩
                      rw [hm] at hset
                      have HSET := Lib.hid hset
                      have V1 := Lib.hid (show ((y : Int) + (z : Int)) % 4294967296 = (m : Int) by omega)
                      have U1 := Lib.hid (wrap64u ((y : Int) + (z : Int)) (by omega) (by omega))
                      have CW := Lib.hid fun W => l1Word_sum y z W ly lz
                      rw [Nat.zero_add] at dH dX
                      have dH' : wr.drew.cell? _ = _ := dH
                      have dX' : wr.drew.cell? _ = _ := dX
                      have HDH := Lib.hid dH'
                      have HDX := Lib.hid dX'
                      have HFR := Lib.hid hfr
                      clear hy hz hset hoH hoH' hXr hm dH dX hpl dH' dX' hfr ly lz
                      go_wp2_with fail
                      have v1 := V1.out
                      have u1 := U1.out
                      have dH' := HDH.out
                      have dX' := HDX.out
                      have hfr := HFR.out
                      refine wp_region_still_tail 13 (by kernel_rfl) (by kernel_rfl) ?_
                      simp only [List.take_succ_cons, List.take_zero, List.drop_succ_cons, List.drop_zero]
                      change wpStill _ _ wr.drew _ _ _
                      repeat (first | still_call (CW.out _) | still_step)
                      refine wpStill_nil ?_
                      clear v1 u1
                      go_wp2
                      go_roundw
                      case rel => exact ⟨k + 1, by omega, by go_num, HSET.out.1, grown_trans (only_drew1 hgr) HSET.out.2⟩
                      case measure => simp [intOf]; omega
                    · obtain rfl : k = 8 := by omega
                      rw [show ((8 : Nat) : Int) = 8 from rfl]
                      rw [plusTo_all, ← HMX.out, ← HMIX.out] at hoH
                      have hgr9 : W4.grownBy wr (some gH) := grown_trans hgr8 hgr
                      clear hgr hgr8
                      go_wp2
                      go_roundw
                      case rel => exact ⟨n + 1, by omega, by go_num, hoH, hgr9⟩
                      case measure => simp [intOf]; omega
            · obtain rfl : n = N := by omega
              have hH9 : HasK .u64 wr wr.heap.size (some ⟨gH, 0, none⟩) (blocks L n).list := hHr
              have hb9 : Below w.heap.size w wr := hb14.grown hgr (by have := hb14.size; omega) (fun q e => by injection e with e; omega)
              have hok9 := blocks_ok L n
              generalize blocks L n = s at *
              clear hoH hgr hHr hK4 hA4 hA3B hb14 hgz hcA
              obtain ⟨W9, hW9⟩ : ∃ W9, W9 = wr := ⟨_, rfl⟩
              subst hW9
              go_wp2_with fail
              go_loopw [14, 15] (fun v i w' => ∃ k : Nat, k ≤ 8 ∧ i = .int .i64 k ∧ Own w' W9.heap.size v (outTo s k) ∧ Below W9.heap.size W9 w') (fun _ i _ => 8 - (intOf i).toNat)
              case atStart => exact ⟨0, by omega, rfl, own_empty (Nat.le_refl _), (Below.refl _ _).alloc (Nat.le_refl _) _⟩
              case round =>
                obtain ⟨k, hk, rfl, hown, hbel⟩ := hrel
                have hws := hbel.size
                by_cases hlt6 : k < 8
                · obtain ⟨_, _, y, e, hgW, hy, d⟩ := hH9.spot (i := k) (by simp [Eight.list]; omega)
                  simp only [Option.some.injEq, Addr.mk.injEq, and_true] at e
                  obtain ⟨rfl, rfl⟩ := e
                  have d1 := (hbel.cell (p := ⟨gH, 0 + k, none⟩) hgW).trans d
                  rw [Nat.zero_add] at d1
                  have HO := Lib.hid (outTo_succ s k y hy)
                  have hol := outTo_length s k hk
                  obtain ⟨b0, e0, b1, e1, b2, e2, b3, e3, hb4⟩ := out4_bytes y
                  rw [hb4] at HO
                  have hgr : gH < wr.heap.size := by omega
                  clear d hy hb4
                  go_wp2_with fail
                  go_region_held3 (fun w' => w'.cell? ⟨gH, k, none⟩ = some (.int .u64 (y : Int)))
                    (first | exact d1 | exact (HK.out _ ⟨hgW, hgr⟩).trans d1 | exact (cell_new hgr).trans d1)
                    (first | (refine step_push rfl (.tmp 96) (.tmp 120) rfl W9.heap.size u14 (outTo s k) rfl (by exact hown.alloc _) ⟨wr.heap.size, 0, none⟩ 4 [b0, b1, b2, b3] rfl (by exact laid_new wr [b0, b1, b2, b3] _) (by simp) (by simp; omega) (by simp; omega) ?_; intro g cap w2 ho2 hg2; have HK := Lib.hid (far_keptB hown hg2)))
                  have hb2 : Below W9.heap.size W9 w2 := ((hbel.alloc hws (.cells #[.int .u8 (b0.toNat : Int), .int .u8 (b1.toNat : Int), .int .u8 (b2.toNat : Int), .int .u8 (b3.toNat : Int)] 5)).drew).grown hg2 (by simp; omega) (fun q hq => (World.ownsRow.lt hown q hq).1)
                  rw [← HO.out, hol] at ho2
                  clear hg2 hown HK d1 e0 e1 e2 e3 hol
                  go_wp2
                  go_roundw
                  case rel => exact ⟨k + 1, by omega, by go_num, ho2, hb2⟩
                  case measure => simp [intOf]; omega
                · obtain rfl : k = 8 := by omega
                  rw [outTo_all, ← HSHA.out] at hown
                  have hb10 : Below w.heap.size w wr := hb9.trans (hbel.mono hb9.size)
                  have ho10 : Own wr w.heap.size u14 (sha l) := by
                    refine ⟨hown.1, ?_⟩
                    rcases hown.2 with hn | ⟨g, cap, cur, e, hg, rest⟩
                    · exact .inl hn
                    · exact .inr ⟨g, cap, cur, e, Nat.le_trans hb9.size hg, rest⟩
                  clear hown hbel
                  go_wp2
                  go_ret
                  exact ⟨_, rfl, ho10, hb10⟩
end Go.Proofs.YtbejafbpipdbjaaDoor
