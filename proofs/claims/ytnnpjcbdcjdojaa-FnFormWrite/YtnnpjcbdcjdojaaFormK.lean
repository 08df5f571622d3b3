/-
  The kinds of files, and sums in four bytes, of the reference and of the program. Condition: at most 2^30 bytes.
-/
import Derived.Test.YtnnpjcbdcjdojaaForm
import Derived.Test.YtnnpjcbdcjdojaaPush
namespace Go.Proofs.Ytnnpjcbdcjdojaa
set_option maxRecDepth 4000
open Go.RowKit

theorem u8_eq (k : UInt8) (n : Nat) (hn : n < 256) : ((k.toNat : Int) == (n : Int)) = (k == UInt8.ofNat n) := by
  rw [Bool.eq_iff_iff, beq_iff_eq, beq_iff_eq]
  constructor
  · intro h
    have h2 : k.toNat = n := by omega
    rw [← h2]
    simp
  · intro h
    rw [h, UInt8.toNat_ofNat']
    omega
theorem l5Kind_any (k : UInt8) (w : World) : Calls Try.prog 46 #[.int .u8 (k.toNat : Int)] w fun e w' => e = .returned (.bool (kindB k)) ∧ w' = w := by
  have e1 := u8_eq k 68 (by omega)
  have e2 := u8_eq k 85 (by omega)
  have e3 := u8_eq k 82 (by omega)
  have e4 := u8_eq k 80 (by omega)
  simp only [Int.cast_ofNat_Int] at e1 e2 e3 e4
  unfold kindB
  change ((k.toNat : Int) == 68) = (k == 68) at e1
  change ((k.toNat : Int) == 85) = (k == 85) at e2
  change ((k.toNat : Int) == 82) = (k == 82) at e3
  change ((k.toNat : Int) == 80) = (k == 80) at e4
  generalize (k == 68) = q1 at *
  generalize (k == 85) = q2 at *
  generalize (k == 82) = q3 at *
  generalize (k == 80) = q4 at *
  go_enter Try.func46, Try.ntmps46
  cases q1
  · cases q2
    · cases q3
      · cases q4
        all_goals
          go_wp2
          go_ret
          exact ⟨rfl, rfl⟩
      · go_wp2
        go_ret
        exact ⟨rfl, rfl⟩
    · go_wp2
      go_ret
      exact ⟨rfl, rfl⟩
  · go_wp2
    go_ret
    exact ⟨rfl, rfl⟩
/-- Four bytes that have just been laid. -/
theorem own_lit4 (w : World) (a b c d : UInt8) : Own (w.alloc (.cells #[.int .u8 (a.toNat : Int), .int .u8 (b.toNat : Int), .int .u8 (c.toNat : Int), .int .u8 (d.toNat : Int)] 5)) w.heap.size (.slice (some ⟨w.heap.size, 0, none⟩) 4 4) [a, b, c, d] :=
  ⟨rfl, .inr ⟨w.heap.size, 4, _, rfl, Nat.le_refl _, heap_alloc_new w _, Nat.le_refl _, by unfold maxLen; omega, rfl, rfl⟩⟩
theorem by_of (n : Nat) (h : n < 256) : ((UInt8.ofNat n).toNat : Int) = (n : Int) := by
  rw [UInt8.toNat_ofNat']
  omega
theorem own_sum4 (w : World) (n : Nat) (h : n < 4294967296) : Own (w.alloc (.cells #[.int .u8 ((n : Int) / 16777216), .int .u8 ((n : Int) / 65536 % 256), .int .u8 ((n : Int) / 256 % 256), .int .u8 ((n : Int) % 256)] 5)) w.heap.size (.slice (some ⟨w.heap.size, 0, none⟩) 4 4) (sum4 n) := by
  have := own_lit4 w (UInt8.ofNat (n / 16777216)) (UInt8.ofNat (n / 65536 % 256)) (UInt8.ofNat (n / 256 % 256)) (UInt8.ofNat (n % 256))
  rw [by_of _ (by omega), by_of _ (by omega), by_of _ (by omega), by_of _ (by omega)] at this
  exact this
/-- What a sum in bytes answers. -/
def Summed (l : List UInt8) (w : World) (e : Ending) (w' : World) : Prop := ∃ A c, e = .returned (.slice A 4 c) ∧ Own w' w.heap.size (.slice A 4 c) (sum4 (sumN l)) ∧ Below w.heap.size w w'
set_option maxHeartbeats 400000 in
theorem l5Sum_any (A : Option Addr) (c : Nat) (l : List UInt8) (w : World) (hs : l.length ≤ 1073741824) (h : Has w w.heap.size A l) :
    Calls Try.prog 54 #[.slice A l.length c] w (Summed l w) := by
  have C := Lib.hid (specSumOf_any A c l _ w hs h)
  have HO := Lib.hid (own_sum4 w (sumN l) (sumN_lt l))
  have hn := sumN_lt l
  unfold Summed
  generalize sumN l = n at *
  have hnI : (n : Int) < 4294967296 := by omega
  clear hn hs h
  go_enter Try.func54, Try.ntmps54
  go_wp2_with fail
  refine C.out.mono ?_
  rintro e w' ⟨rfl, rfl⟩
  go_wp2_with fail
  go_ret
  exact ⟨_, _, rfl, HO.out, (Below.refl _ w).alloc (Nat.le_refl _) _⟩
set_option maxHeartbeats 400000 in
theorem sumBytes_any (A : Option Addr) (c : Nat) (l : List UInt8) (w : World) (hs : l.length ≤ 1073741824) (h : Has w w.heap.size A l) :
    Calls Try.prog 45 #[.slice A l.length c] w (Summed l w) := by
  have C := Lib.hid (implSumOf_any A c l _ w hs h)
  have HO := Lib.hid (own_sum4 w (sumN l) (sumN_lt l))
  have hn := sumN_lt l
  unfold Summed
  generalize sumN l = n at *
  have hnI : (n : Int) < 4294967296 := by omega
  clear hn hs h
  go_enter Try.func45, Try.ntmps45
  go_wp2_with fail
  refine C.out.mono ?_
  rintro e w' ⟨rfl, rfl⟩
  go_wp2_with fail
  go_ret
  exact ⟨_, _, rfl, HO.out, (Below.refl _ w).alloc (Nat.le_refl _) _⟩
end Go.Proofs.Ytnnpjcbdcjdojaa
