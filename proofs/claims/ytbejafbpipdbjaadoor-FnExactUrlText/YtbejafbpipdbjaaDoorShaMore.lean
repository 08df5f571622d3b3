/-
  Plain facts on eight words that are added up one by one, and on their bytes. No condition.
-/
import Derived.Test.YtbejafbpipdbjaaDoorPush
import Derived.Test.YtbejafbpipdbjaaDoorShaM
namespace Go.Proofs.YtbejafbpipdbjaaDoor
set_option maxRecDepth 4000
open Go.RowKit

theorem only_drew1 {a w : World} {row : Option Nat} (h : a.grownBy w row) : a.grownBy w.drew row := ⟨h.os, h.tape, h.output, h.size, h.block⟩
theorem only_below {a w : World} (h : Below a.heap.size a w) : a.grownBy w none := ⟨h.os, h.tape, h.output, h.size, fun i hi _ => h.block i hi⟩
/-- Eight words of which the first k are added up. -/
def plusTo (s t : Eight) (k : Nat) : List Nat := (s.plus t).list.take k ++ s.list.drop k
theorem plusTo_zero (s t : Eight) : plusTo s t 0 = s.list := rfl
theorem plusTo_all (s t : Eight) : plusTo s t 8 = (s.plus t).list := rfl
theorem Eight.list_lt {s : Eight} (h : s.Ok) : ∀ x ∈ s.list, x < 4294967296 := by
  obtain ⟨h1, h2, h3, h4, h5, h6, h7, h8⟩ := h
  intro x hx
  simp only [Eight.list, List.mem_cons, List.not_mem_nil, or_false] at hx
  rcases hx with rfl | rfl | rfl | rfl | rfl | rfl | rfl | rfl <;> assumption
theorem plusTo_lt {s t : Eight} (hs : s.Ok) (k : Nat) : ∀ x ∈ plusTo s t k, x < 4294967296 := by
  intro x hx
  rcases List.mem_append.1 hx with h | h
  · exact Eight.list_lt (Eight.plus_ok s t) x (List.mem_of_mem_take h)
  · exact Eight.list_lt hs x (List.mem_of_mem_drop h)
theorem plusTo_length (s t : Eight) (k : Nat) (hk : k ≤ 8) : (plusTo s t k).length = 8 := by simp [plusTo, Eight.list]; omega
theorem plusTo_step (s t : Eight) (k y z : Nat) (hk : k < 8) (hy : (plusTo s t k)[k]? = some y) (hz : t.list[k]? = some z) : (plusTo s t k).set k ((y + z) % 4294967296) = plusTo s t (k + 1) := by
  rcases k with _ | _ | _ | _ | _ | _ | _ | _ | k
  all_goals first
    | omega
    | (simp [plusTo, Eight.list, Eight.plus] at hy hz; subst hy hz; rfl)

/-- The bytes of the first k words. -/
def outTo (s : Eight) (k : Nat) : List UInt8 := (s.list.take k).flatMap out4
theorem outTo_succ (s : Eight) (k y : Nat) (h : s.list[k]? = some y) : outTo s (k + 1) = outTo s k ++ out4 y := by
  obtain ⟨hk, rfl⟩ := List.getElem?_eq_some_iff.1 h
  unfold outTo
  rw [List.take_succ_eq_append_getElem hk, List.flatMap_append]
  simp
theorem outTo_all (s : Eight) : outTo s 8 = out32 s := rfl
theorem outTo_length (s : Eight) (k : Nat) (hk : k ≤ 8) : (outTo s k).length = 4 * k := by
  rcases k with _ | _ | _ | _ | _ | _ | _ | _ | _ | k
  all_goals first
    | omega
    | rfl
theorem out4_bytes (y : Nat) : ∃ b0 : UInt8, IntKind.u8.wrap ((y : Int) / 16777216) = (b0.toNat : Int) ∧ ∃ b1 : UInt8, IntKind.u8.wrap ((y : Int) / 65536) = (b1.toNat : Int) ∧ ∃ b2 : UInt8, IntKind.u8.wrap ((y : Int) / 256) = (b2.toNat : Int) ∧ ∃ b3 : UInt8, IntKind.u8.wrap (y : Int) = (b3.toNat : Int) ∧ out4 y = [b0, b1, b2, b3] := by
  have h : ∀ z : Nat, IntKind.u8.wrap (z : Int) = ((UInt8.ofNat z).toNat : Int) := fun z => by rw [IntKind.wrap_u8]; simp
  refine ⟨UInt8.ofNat (y >>> 24), ?_, UInt8.ofNat (y >>> 16), ?_, UInt8.ofNat (y >>> 8), ?_, UInt8.ofNat y, h y, rfl⟩
  · rw [← h, Nat.shiftRight_eq_div_pow]; congr 1
  · rw [← h, Nat.shiftRight_eq_div_pow]; congr 1
  · rw [← h, Nat.shiftRight_eq_div_pow]; congr 1
end Go.Proofs.YtbejafbpipdbjaaDoor
