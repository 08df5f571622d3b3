/-
  Sixty to 159 bytes that are all the same take less than a third, packed. No condition.
-/
import Derived.Test.YtofphjfgaihjhaaDoorPak
namespace Go.Proofs.YtofphjfgaihjhaaDoor

/-! ### bytes that are all the same -/
theorem same_codes : ∀ n : Fin 100, 3 * ((9 * ((pak4 (60 + n.val) [] (List.replicate (60 + n.val) 0)).length + 1) + 7) / 8) < 60 + n.val := by decide +kernel
theorem same_small (n : Nat) (h1 : 60 ≤ n) (h2 : n < 160) : 3 * (pakPutB (List.replicate n 0)).length < n := by
  have e : (List.replicate n (0 : UInt8)).length = n := by simp
  have h := (pakPut_form (l := List.replicate n 0) (by rw [e]; omega)).2
  rw [e] at h
  rw [h]
  have := same_codes ⟨n - 60, by omega⟩
  simp only [show 60 + (n - 60) = n from by omega] at this
  exact this
end Go.Proofs.YtofphjfgaihjhaaDoor
