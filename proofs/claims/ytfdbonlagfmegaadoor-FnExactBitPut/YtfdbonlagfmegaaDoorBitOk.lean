/-
  BitOk of the program and of the reference both tell whether a number has so many bits; toBitNum copies one. Nothing that was there changes. No condition.
-/
import Derived.Test.YtfdbonlagfmegaaDoorBase
namespace Go.Proofs.YtfdbonlagfmegaaDoor
open Go.RowKit

/-- Whether a number has so many bits. -/
def bitOkB (n b : Int) : Bool := decide (1 ≤ b ∧ b ≤ 12) && decide (0 ≤ n ∧ n < 2 ^ b.toNat)
/-- A bit number as a value. -/
def bnum (n b : Int) : Value := .agg #[.int .i64 n, .int .i64 b]

theorem l1In_any (x lo hi : Int) (w : World) :
    Calls Tryd.prog 21 #[.int .i64 x, .int .i64 lo, .int .i64 hi] w fun e w' => e = .returned (.bool (decide (lo ≤ x ∧ x ≤ hi))) ∧ w' = w := by
  by_cases h1 : lo ≤ x
  · by_cases h2 : x ≤ hi
    · rw [decide_eq_true (⟨h1, h2⟩ : lo ≤ x ∧ x ≤ hi)]
      go_enter Tryd.func21, Tryd.ntmps21
      go_wp2
      go_ret
      exact ⟨rfl, rfl⟩
    · rw [decide_eq_false (fun h => h2 h.2 : ¬ (lo ≤ x ∧ x ≤ hi))]
      go_enter Tryd.func21, Tryd.ntmps21
      go_wp2
      go_ret
      exact ⟨rfl, rfl⟩
  · rw [decide_eq_false (fun h => h1 h.1 : ¬ (lo ≤ x ∧ x ≤ hi))]
    go_enter Tryd.func21, Tryd.ntmps21
    go_wp2
    go_ret
    exact ⟨rfl, rfl⟩

theorem bitWidthOk_any (x : Int) (w : World) :
    Calls Tryd.prog 26 #[.int .i64 x] w fun e w' => e = .returned (.bool (decide (1 ≤ x ∧ x ≤ 12))) ∧ w' = w := by
  by_cases h1 : 1 ≤ x
  · by_cases h2 : x ≤ 12
    · rw [decide_eq_true (⟨h1, h2⟩ : 1 ≤ x ∧ x ≤ 12)]
      go_enter Tryd.func26, Tryd.ntmps26
      go_wp2
      go_ret
      exact ⟨rfl, rfl⟩
    · rw [decide_eq_false (fun h => h2 h.2 : ¬ (1 ≤ x ∧ x ≤ 12))]
      go_enter Tryd.func26, Tryd.ntmps26
      go_wp2
      go_ret
      exact ⟨rfl, rfl⟩
  · rw [decide_eq_false (fun h => h1 h.1 : ¬ (1 ≤ x ∧ x ≤ 12))]
    go_enter Tryd.func26, Tryd.ntmps26
    go_wp2
    go_ret
    exact ⟨rfl, rfl⟩

theorem info_num : (Tryd.prog.info? 39).map (·.size) = some 2 := by kernel_rfl
theorem three_below (w : World) (a b c : Obj) : Below w.heap.size w (((w.alloc a).alloc b).alloc c) :=
  (((Below.refl _ w).alloc (Nat.le_refl _) _).alloc (by simp) _).alloc (by simp; omega) _

theorem toBitNum_any (n b : Int) (w : World) :
    Calls Tryd.prog 18 #[bnum n b] w fun e w' => e = .returned (bnum n b) ∧ Below w.heap.size w w' := by
  unfold bnum
  go_enter Tryd.func18, Tryd.ntmps18
  go_wp2
  (try simp only [Exit.inBlock, Exit.then])
  refine bodyPost_ret (results_cell_row rfl _ _ (w.heap.size + 1) 39 #[.int .i64 n, .int .i64 b] (0, 0) _ rfl ?_ Tryd.underlying39 rfl info_num) rfl ?_
  · have h := heap_alloc_new (w.alloc (.cells #[.int .i64 n, .int .i64 b] 41)) (.cells #[.int .i64 n, .int .i64 b] 39)
    refine (Below.heap_alloc _ _ _ (by simp)).trans ?_
    simpa using h
  · exact ⟨rfl, three_below _ _ _ _⟩

theorem pow_bounds (c : Nat) (h : c ≤ 12) : (1 : Int) ≤ 2 ^ c ∧ (2 : Int) ^ c ≤ 4096 := by
  have h1 : 2 ^ c ≤ 2 ^ 12 := Nat.pow_le_pow_right (by omega) h
  have h2 : 0 < 2 ^ c := Nat.pow_pos (by omega)
  have e : ((2 ^ c : Nat) : Int) = (2 : Int) ^ c := by simp
  omega
theorem bitOk_spec (n : Int) (c : Nat) (h : 1 ≤ (c : Int) ∧ (c : Int) ≤ 12) : (decide (0 ≤ n) && decide (n ≤ IntKind.i64.wrap (IntKind.i64.wrap (2 ^ c) - 1))) = bitOkB n (c : Int) := by
  obtain ⟨h1, h2⟩ := pow_bounds c (by omega)
  unfold bitOkB
  rw [decide_eq_true h, Bool.true_and, Int.toNat_natCast]
  generalize (2 : Int) ^ c = P at *
  rw [IntWalk.i64_in P (by omega), IntWalk.i64_in (P - 1) (by omega), ← Bool.decide_and]
  exact decide_eq_decide.2 (by omega)
theorem bitOk_impl (n : Int) (c : Nat) (h : 1 ≤ (c : Int) ∧ (c : Int) ≤ 12) (hn : 0 ≤ n) : decide (n < IntKind.i64.wrap (2 ^ c)) = bitOkB n (c : Int) := by
  obtain ⟨h1, h2⟩ := pow_bounds c (by omega)
  unfold bitOkB
  rw [decide_eq_true h, Bool.true_and, Int.toNat_natCast]
  generalize (2 : Int) ^ c = P at *
  rw [IntWalk.i64_in P (by omega)]
  exact decide_eq_decide.2 (by omega)
theorem bitOk_wide (n b : Int) (h : ¬ (1 ≤ b ∧ b ≤ 12)) : bitOkB n b = false := by unfold bitOkB; rw [decide_eq_false h]; rfl
theorem bitOk_neg (n b : Int) (h : ¬ 0 ≤ n) : bitOkB n b = false := by
  unfold bitOkB
  rw [decide_eq_false (p := 0 ≤ n ∧ n < 2 ^ b.toNat) (fun k => h k.1), Bool.and_false]

theorem specBitOk_any (n b : Int) (w : World) :
    Calls Tryd.prog 17 #[bnum n b] w fun e w' => e = .returned (.bool (bitOkB n b)) ∧ Below w.heap.size w w' := by
  unfold bnum
  by_cases h1 : 1 ≤ b ∧ b ≤ 12
  · have hd : decide (1 ≤ b ∧ b ≤ 12) = true := decide_eq_true h1
    obtain ⟨c, rfl⟩ : ∃ c : Nat, b = (c : Int) := ⟨b.toNat, by omega⟩
    have HE := Lib.hid (bitOk_spec n c h1)
    go_enter Tryd.func17, Tryd.ntmps17
    go_wp2
    go_quiet ((go_at_call 21; exact Calls.quiet_of_same (l1In_any _ _ _ _)))
    rw [HE.out]
    go_wp2
    go_ret
    exact ⟨rfl, below_draws ((Below.refl _ w).alloc (Nat.le_refl _) _) _⟩
  · have hd : decide (1 ≤ b ∧ b ≤ 12) = false := decide_eq_false h1
    rw [bitOk_wide n b h1]
    go_enter Tryd.func17, Tryd.ntmps17
    go_wp2
    go_quiet ((go_at_call 21; exact Calls.quiet_of_same (l1In_any _ _ _ _)))
    go_wp2
    go_ret
    exact ⟨rfl, below_draws ((Below.refl _ w).alloc (Nat.le_refl _) _) _⟩

theorem implBitOk_any (n b : Int) (w : World) :
    Calls Tryd.prog 24 #[bnum n b] w fun e w' => e = .returned (.bool (bitOkB n b)) ∧ Below w.heap.size w w' := by
  unfold bnum
  by_cases h1 : 1 ≤ b ∧ b ≤ 12
  · have hd : decide (1 ≤ b ∧ b ≤ 12) = true := decide_eq_true h1
    obtain ⟨c, rfl⟩ : ∃ c : Nat, b = (c : Int) := ⟨b.toNat, by omega⟩
    by_cases h2 : 0 ≤ n
    · have hn : decide (0 ≤ n) = true := decide_eq_true h2
      have HE := Lib.hid (bitOk_impl n c h1 h2)
      go_enter Tryd.func24, Tryd.ntmps24
      go_wp2
      go_quiet ((go_at_call 26; exact Calls.quiet_of_same (bitWidthOk_any _ _)))
      rw [HE.out]
      go_wp2
      go_ret
      exact ⟨rfl, below_draws ((Below.refl _ w).alloc (Nat.le_refl _) _) _⟩
    · have hn : decide (0 ≤ n) = false := decide_eq_false h2
      rw [bitOk_neg n c h2]
      go_enter Tryd.func24, Tryd.ntmps24
      go_wp2
      go_quiet ((go_at_call 26; exact Calls.quiet_of_same (bitWidthOk_any _ _)))
      go_wp2
      go_ret
      exact ⟨rfl, below_draws ((Below.refl _ w).alloc (Nat.le_refl _) _) _⟩
  · have hd : decide (1 ≤ b ∧ b ≤ 12) = false := decide_eq_false h1
    rw [bitOk_wide n b h1]
    go_enter Tryd.func24, Tryd.ntmps24
    go_wp2
    go_quiet ((go_at_call 26; exact Calls.quiet_of_same (bitWidthOk_any _ _)))
    go_wp2
    go_ret
    exact ⟨rfl, below_draws ((Below.refl _ w).alloc (Nat.le_refl _) _) _⟩
end Go.Proofs.YtfdbonlagfmegaaDoor
