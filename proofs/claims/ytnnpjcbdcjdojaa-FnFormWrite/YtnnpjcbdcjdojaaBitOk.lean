/-
  BitOk of the program and of the reference both tell whether a number has so many bits. Nothing that was there changes. No condition.
-/
import Derived.Test.YtnnpjcbdcjdojaaL1In
namespace Go.Proofs.Ytnnpjcbdcjdojaa
set_option maxRecDepth 4000
open Go.RowKit

/-- Whether a number has so many bits. -/
def bitOkB (n b : Int) : Bool := decide (1 ≤ b ∧ b ≤ 12) && decide (0 ≤ n ∧ n < 2 ^ b.toNat)
/-- A bit number as a value. -/
def bnum (n b : Int) : Value := .agg #[.int .i64 n, .int .i64 b]

theorem bitWidthOk_any (x : Int) (w : World) :
    Calls Try.prog 131 #[.int .i64 x] w fun e w' => e = .returned (.bool (decide (1 ≤ x ∧ x ≤ 12))) ∧ w' = w := by
  by_cases h1 : 1 ≤ x
  · by_cases h2 : x ≤ 12
    · rw [decide_eq_true (⟨h1, h2⟩ : 1 ≤ x ∧ x ≤ 12)]
      go_enter Try.func131, Try.ntmps131
      go_wp2
      go_ret
      exact ⟨rfl, rfl⟩
    · rw [decide_eq_false (fun h => h2 h.2 : ¬ (1 ≤ x ∧ x ≤ 12))]
      go_enter Try.func131, Try.ntmps131
      go_wp2
      go_ret
      exact ⟨rfl, rfl⟩
  · rw [decide_eq_false (fun h => h1 h.1 : ¬ (1 ≤ x ∧ x ≤ 12))]
    go_enter Try.func131, Try.ntmps131
    go_wp2
    go_ret
    exact ⟨rfl, rfl⟩

theorem pow_bounds (c : Nat) (h : c ≤ 12) : (1 : Int) ≤ 2 ^ c ∧ (2 : Int) ^ c ≤ 4096 := by
  have h1 : 2 ^ c ≤ 2 ^ 12 := Nat.pow_le_pow_right (by omega) h
  have h2 : 0 < 2 ^ c := Nat.pow_pos (by omega)
  have e : ((2 ^ c : Nat) : Int) = (2 : Int) ^ c := by simp
  omega
theorem bitOk_spec (n : Int) (c : Nat) (h : 1 ≤ (c : Int) ∧ (c : Int) ≤ 12) : (decide (0 ≤ n) && decide (n ≤ IntKind.i64.wrap (IntKind.i64.wrap (2 ^ c) - 1))) = bitOkB n (c : Int) := by
  obtain ⟨h1, h2⟩ := pow_bounds c (by omega)
  unfold bitOkB
  rw [decide_eq_true h, Bool.true_and, Int.toNat_natCast]
  generalize (2 : Int) ^ c = P at *
  rw [IntWalk.i64_in P (by omega), IntWalk.i64_in (P - 1) (by omega), ← Bool.decide_and]
  exact decide_eq_decide.2 (by omega)
theorem bitOk_impl (n : Int) (c : Nat) (h : 1 ≤ (c : Int) ∧ (c : Int) ≤ 12) (hn : 0 ≤ n) : decide (n < IntKind.i64.wrap (2 ^ c)) = bitOkB n (c : Int) := by
  obtain ⟨h1, h2⟩ := pow_bounds c (by omega)
  unfold bitOkB
  rw [decide_eq_true h, Bool.true_and, Int.toNat_natCast]
  generalize (2 : Int) ^ c = P at *
  rw [IntWalk.i64_in P (by omega)]
  exact decide_eq_decide.2 (by omega)
theorem bitOk_wide (n b : Int) (h : ¬ (1 ≤ b ∧ b ≤ 12)) : bitOkB n b = false := by unfold bitOkB; rw [decide_eq_false h]; rfl
theorem bitOk_neg (n b : Int) (h : ¬ 0 ≤ n) : bitOkB n b = false := by
  unfold bitOkB
  rw [decide_eq_false (p := 0 ≤ n ∧ n < 2 ^ b.toNat) (fun k => h k.1), Bool.and_false]

theorem specBitOk_any (n b : Int) (w : World) :
    Calls Try.prog 85 #[bnum n b] w fun e w' => e = .returned (.bool (bitOkB n b)) ∧ Below w.heap.size w w' := by
  unfold bnum
  by_cases h1 : 1 ≤ b ∧ b ≤ 12
  · have hd : decide (1 ≤ b ∧ b ≤ 12) = true := decide_eq_true h1
    obtain ⟨c, rfl⟩ : ∃ c : Nat, b = (c : Int) := ⟨b.toNat, by omega⟩
    have HE := Lib.hid (bitOk_spec n c h1)
    go_enter Try.func85, Try.ntmps85
    go_wp2
    go_quiet ((go_at_call 48; exact Calls.quiet_of_same (l1In_any _ _ _ _)))
    rw [HE.out]
    go_wp2
    go_ret
    exact ⟨rfl, below_draws ((Below.refl _ w).alloc (Nat.le_refl _) _) _⟩
  · have hd : decide (1 ≤ b ∧ b ≤ 12) = false := decide_eq_false h1
    rw [bitOk_wide n b h1]
    go_enter Try.func85, Try.ntmps85
    go_wp2
    go_quiet ((go_at_call 48; exact Calls.quiet_of_same (l1In_any _ _ _ _)))
    go_wp2
    go_ret
    exact ⟨rfl, below_draws ((Below.refl _ w).alloc (Nat.le_refl _) _) _⟩

theorem implBitOk_any (n b : Int) (w : World) :
    Calls Try.prog 136 #[bnum n b] w fun e w' => e = .returned (.bool (bitOkB n b)) ∧ Below w.heap.size w w' := by
  unfold bnum
  by_cases h1 : 1 ≤ b ∧ b ≤ 12
  · have hd : decide (1 ≤ b ∧ b ≤ 12) = true := decide_eq_true h1
    obtain ⟨c, rfl⟩ : ∃ c : Nat, b = (c : Int) := ⟨b.toNat, by omega⟩
    by_cases h2 : 0 ≤ n
    · have hn : decide (0 ≤ n) = true := decide_eq_true h2
      have HE := Lib.hid (bitOk_impl n c h1 h2)
      go_enter Try.func136, Try.ntmps136
      go_wp2
      go_quiet ((go_at_call 131; exact Calls.quiet_of_same (bitWidthOk_any _ _)))
      rw [HE.out]
      go_wp2
      go_ret
      exact ⟨rfl, below_draws ((Below.refl _ w).alloc (Nat.le_refl _) _) _⟩
    · have hn : decide (0 ≤ n) = false := decide_eq_false h2
      rw [bitOk_neg n c h2]
      go_enter Try.func136, Try.ntmps136
      go_wp2
      go_quiet ((go_at_call 131; exact Calls.quiet_of_same (bitWidthOk_any _ _)))
      go_wp2
      go_ret
      exact ⟨rfl, below_draws ((Below.refl _ w).alloc (Nat.le_refl _) _) _⟩
  · have hd : decide (1 ≤ b ∧ b ≤ 12) = false := decide_eq_false h1
    rw [bitOk_wide n b h1]
    go_enter Try.func136, Try.ntmps136
    go_wp2
    go_quiet ((go_at_call 131; exact Calls.quiet_of_same (bitWidthOk_any _ _)))
    go_wp2
    go_ret
    exact ⟨rfl, below_draws ((Below.refl _ w).alloc (Nat.le_refl _) _) _⟩
theorem bitOk_form0 {n b : Int} (h : bitOkB n b = true) : ∃ m c : Nat, n = (m : Int) ∧ b = (c : Int) ∧ 1 ≤ c ∧ c ≤ 12 ∧ m < 4096 := by
  unfold bitOkB at h
  simp at h
  obtain ⟨⟨h1, h2⟩, h3, h4⟩ := h
  have h5 := (pow_bounds b.toNat (by omega)).2
  exact ⟨n.toNat, b.toNat, by omega, by omega, by omega, by omega, by omega⟩
end Go.Proofs.Ytnnpjcbdcjdojaa
