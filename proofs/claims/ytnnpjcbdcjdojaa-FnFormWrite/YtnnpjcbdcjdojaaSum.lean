/-
  SumOf of the program and of the reference both return Adler's sum of the bytes. Condition: at most 2^30 bytes.
-/
import Derived.Test.YtnnpjcbdcjdojaaBase
namespace Go.Proofs.Ytnnpjcbdcjdojaa
set_option maxRecDepth 4000
open Go.RowKit

/-- One byte more in the two sums. -/
def adl (s : Nat × Nat) (b : UInt8) : Nat × Nat := ((s.1 + b.toNat) % 65521, (s.2 + (s.1 + b.toNat) % 65521) % 65521)
/-- The two sums of bytes. -/
def adler (l : List UInt8) : Nat × Nat := l.foldl adl (1, 0)
/-- The sum of bytes. -/
def sumN (l : List UInt8) : Nat := (adler l).2 * 65536 + (adler l).1
theorem adler_nil : adler [] = (1, 0) := rfl
theorem adler_snoc (l : List UInt8) (b : UInt8) : adler (l ++ [b]) = adl (adler l) b := by simp [adler]
theorem adler_lt (l : List UInt8) : (adler l).1 < 65521 ∧ (adler l).2 < 65521 := by
  rcases List.eq_nil_or_concat l with rfl | ⟨m, b, rfl⟩
  · decide
  · rw [List.concat_eq_append, adler_snoc]
    exact ⟨Nat.mod_lt _ (by omega), Nat.mod_lt _ (by omega)⟩
theorem adler_step (l : List UInt8) (k : Nat) (x : UInt8) (hx : l[k]? = some x) : adler (l.take (k + 1)) = adl (adler (l.take k)) x := by
  rw [List.take_add_one, hx]
  exact adler_snoc _ _
theorem tmod_cast (a b : Nat) : (a : Int).tmod (b : Int) = ((a % b : Nat) : Int) := by rw [Int.tmod_eq_emod_of_nonneg (by omega)]; simp

set_option maxHeartbeats 400000 in
theorem implSumOf_any (A : Option Addr) (c : Nat) (l : List UInt8) (B : Nat) (w : World) (hs : l.length ≤ 1073741824) (h : Has w B A l) :
    Calls Try.prog 65 #[.slice A l.length c] w fun e w' => e = .returned (.int .i64 ((sumN l : Nat) : Int)) ∧ w = w' := by
  go_enter Try.func65, Try.ntmps65
  go_wp2
  go_loop [3, 4, 9] (fun p q i => ∃ k a b : Nat, k ≤ l.length ∧ i = .int .i64 k ∧ p = .int .i64 a ∧ q = .int .i64 b ∧ adler (l.take k) = (a, b)) (fun _ _ i => l.length - (intOf i).toNat)
  case atStart => exact ⟨0, 1, 0, Nat.zero_le _, rfl, rfl, rfl, rfl⟩
  case round =>
    obtain ⟨k, a, b, hk, rfl, rfl, rfl, hab⟩ := hrel
    have hlt2 := adler_lt (l.take k)
    rw [hab] at hlt2
    obtain ⟨ha, hb⟩ := hlt2
    by_cases hlt : k < l.length
    · obtain ⟨bb, o, x, rfl, hbB, hx, hc⟩ := h.spot hlt
      have hstep := adler_step l k x hx
      rw [hab] at hstep
      have hx8 := x.toNat_lt
      obtain ⟨a', ha'⟩ : ∃ a', (a + x.toNat) % 65521 = a' := ⟨_, rfl⟩
      obtain ⟨b', hb'⟩ : ∃ b', (b + a') % 65521 = b' := ⟨_, rfl⟩
      have HS : Hid (adler (l.take (k + 1)) = (a', b')) := Lib.hid (by rw [hstep]; simp only [adl, ha', hb'])
      have t1 : ((a : Int) + (x.toNat : Int)) % 65521 = (a' : Int) := by omega
      have t2 : ((b : Int) + (a' : Int)) % 65521 = (b' : Int) := by omega
      have ha2 : a' < 65521 := by omega
      have hb2 : b' < 65521 := by omega
      clear hx hstep hab ha' hb' h
      go_wp2
      go_round
      case rel => exact ⟨k + 1, a', b', by omega, by go_num, by go_num, by go_num, HS.out⟩
      case measure => simp [intOf]; omega
    · obtain rfl : k = l.length := by omega
      rw [List.take_of_length_le (Nat.le_refl _)] at hab
      have HS : Hid (sumN l = b * 65536 + a) := Lib.hid (by unfold sumN; rw [hab])
      clear hab
      go_wp2
      go_ret
      exact ⟨by rw [HS.out]; go_num, rfl⟩
set_option maxHeartbeats 400000 in
theorem specSumOf_any (A : Option Addr) (c : Nat) (l : List UInt8) (B : Nat) (w : World) (hs : l.length ≤ 1073741824) (h : Has w B A l) :
    Calls Try.prog 74 #[.slice A l.length c] w fun e w' => e = .returned (.int .i64 ((sumN l : Nat) : Int)) ∧ w = w' := by
  go_enter Try.func74, Try.ntmps74
  go_wp2
  go_loop [3, 4, 5] (fun p q i => ∃ k a b : Nat, k ≤ l.length ∧ i = .int .i64 k ∧ p = .int .i64 a ∧ q = .int .i64 b ∧ adler (l.take k) = (a, b)) (fun _ _ i => l.length - (intOf i).toNat)
  case atStart => exact ⟨0, 1, 0, Nat.zero_le _, rfl, rfl, rfl, rfl⟩
  case round =>
    obtain ⟨k, a, b, hk, rfl, rfl, rfl, hab⟩ := hrel
    have hlt2 := adler_lt (l.take k)
    rw [hab] at hlt2
    obtain ⟨ha, hb⟩ := hlt2
    by_cases hlt : k < l.length
    · obtain ⟨bb, o, x, rfl, hbB, hx, hc⟩ := h.spot hlt
      have hstep := adler_step l k x hx
      rw [hab] at hstep
      have hx8 := x.toNat_lt
      obtain ⟨a', ha'⟩ : ∃ a', (a + x.toNat) % 65521 = a' := ⟨_, rfl⟩
      obtain ⟨b', hb'⟩ : ∃ b', (b + a') % 65521 = b' := ⟨_, rfl⟩
      have HS : Hid (adler (l.take (k + 1)) = (a', b')) := Lib.hid (by rw [hstep]; simp only [adl, ha', hb'])
      have t1 : ((a : Int) + (x.toNat : Int)) % 65521 = (a' : Int) := by omega
      have t2 : ((b : Int) + (a' : Int)) % 65521 = (b' : Int) := by omega
      have ha2 : a' < 65521 := by omega
      have hb2 : b' < 65521 := by omega
      clear hx hstep hab ha' hb' h
      go_wp2
      go_round
      case rel => exact ⟨k + 1, a', b', by omega, by go_num, by go_num, by go_num, HS.out⟩
      case measure => simp [intOf]; omega
    · obtain rfl : k = l.length := by omega
      rw [List.take_of_length_le (Nat.le_refl _)] at hab
      have HS : Hid (sumN l = b * 65536 + a) := Lib.hid (by unfold sumN; rw [hab])
      clear hab
      go_wp2
      go_ret
      exact ⟨by rw [HS.out]; go_num, rfl⟩
end Go.Proofs.Ytnnpjcbdcjdojaa
