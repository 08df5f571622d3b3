/-
  Writing bits into bytes, as plain functions: one bit, a number, a list of numbers; what BitPut answers. No condition.
-/
import Derived.Test.YtnnpjcbdcjdojaaBitGM
namespace Go.Proofs.Ytnnpjcbdcjdojaa
set_option maxRecDepth 4000
open Go.RowKit

/-- Bytes with room for one bit more behind a bits. -/
def grow (l : List UInt8) (a : Nat) : List UInt8 := if a % 8 = 0 then l ++ [0] else l
/-- One bit more behind a bits. -/
def pushBit (l : List UInt8) (a bit : Nat) : List UInt8 := (grow l a).set (a / 8) (UInt8.ofNat (((grow l a)[a / 8]?.getD 0).toNat + bit * 2 ^ (a % 8)))
/-- The lowest j bits of n more. -/
def pushTo (s : List UInt8 × Nat) (n : Nat) : Nat → List UInt8 × Nat
  | 0 => s
  | j + 1 => (pushBit (pushTo s n j).1 (pushTo s n j).2 (n / 2 ^ j % 2), (pushTo s n j).2 + 1)
/-- All numbers, one behind the other. -/
def packed (ns : List (Int × Int)) : List UInt8 × Nat := ns.foldl (fun s p => pushTo s p.1.toNat p.2.toNat) ([], 0)
def okAll (ns : List (Int × Int)) : Bool := ns.all fun p => bitOkB p.1 p.2
/-- What BitPut answers. -/
def bitPutB (ns : List (Int × Int)) : List UInt8 := if okAll ns && decide ((packed ns).2 ≤ 3200) then (packed ns).1 else []

/-- So many bytes as a bits take, the last of them with nothing behind the bits. -/
def Good (l : List UInt8) (a : Nat) : Prop := l.length = (a + 7) / 8 ∧ ∀ x, l[a / 8]? = some x → x.toNat < 2 ^ (a % 8)
theorem good_nil : Good [] 0 := ⟨rfl, fun x h => by simp at h⟩
theorem grow_length {l : List UInt8} {a : Nat} (h : Good l a) : (grow l a).length = a / 8 + 1 := by
  have := h.1
  unfold grow
  split
  · simp; omega
  · omega
theorem grow_at {l : List UInt8} {a : Nat} (h : Good l a) : ∃ x, (grow l a)[a / 8]? = some x ∧ x.toNat < 2 ^ (a % 8) := by
  have h1 := h.1
  unfold grow
  split
  · rename_i h8
    refine ⟨0, ?_, by simp [h8]⟩
    rw [List.getElem?_append_right (by omega), show a / 8 - l.length = 0 from by omega]
    rfl
  · have hlt : a / 8 < l.length := by omega
    exact ⟨l[a / 8], List.getElem?_eq_getElem hlt, h.2 _ (List.getElem?_eq_getElem hlt)⟩
theorem byte_nat {n : Nat} (h : n < 256) : (UInt8.ofNat n).toNat = n := by simp; omega
theorem pow8 (s : Nat) (h : s < 8) : 2 ^ s ≤ 128 := by
  have : 2 ^ s ≤ 2 ^ 7 := Nat.pow_le_pow_right (by omega) (by omega)
  omega
theorem step_lt {x bit s : Nat} (hx : x < 2 ^ s) (hb : bit < 2) (hs : s < 8) : x + bit * 2 ^ s < 256 ∧ bit * 2 ^ s < 256 ∧ x + bit * 2 ^ s < 2 ^ (s + 1) := by
  have h1 := pow8 s hs
  have h2 : bit * 2 ^ s ≤ 1 * 2 ^ s := Nat.mul_le_mul_right _ (by omega)
  rw [Nat.pow_succ]
  generalize bit * 2 ^ s = y at *
  generalize 2 ^ s = z at *
  omega
theorem pushBit_of {l : List UInt8} {a bit : Nat} {x : UInt8} (hx : (grow l a)[a / 8]? = some x) : pushBit l a bit = (grow l a).set (a / 8) (UInt8.ofNat (x.toNat + bit * 2 ^ (a % 8))) := by
  unfold pushBit
  rw [hx]
  rfl
theorem pushBit_good {l : List UInt8} {a bit : Nat} (h : Good l a) (hb : bit < 2) : Good (pushBit l a bit) (a + 1) := by
  obtain ⟨x, hx, hx2⟩ := grow_at h
  have hl := grow_length h
  rw [pushBit_of hx]
  refine ⟨by rw [List.length_set, hl]; omega, fun y hy => ?_⟩
  have hlt := (List.getElem?_eq_some_iff.1 hy).1
  rw [List.length_set, hl] at hlt
  have h8 : (a + 1) % 8 = a % 8 + 1 := by omega
  have hd : (a + 1) / 8 = a / 8 := by omega
  rw [hd, List.getElem?_set_self (by omega)] at hy
  injection hy with hy
  have := step_lt hx2 hb (Nat.mod_lt a (by omega))
  rw [← hy, h8, byte_nat this.1]
  exact this.2.2
theorem pushTo_snd (s : List UInt8 × Nat) (n j : Nat) : (pushTo s n j).2 = s.2 + j := by
  induction j with
  | zero => rfl
  | succ j ih => rw [pushTo]; simp only [ih]; omega
theorem pushTo_good {s : List UInt8 × Nat} (n j : Nat) (h : Good s.1 s.2) : Good (pushTo s n j).1 (pushTo s n j).2 := by
  induction j with
  | zero => exact h
  | succ j ih => exact pushBit_good ih (Nat.mod_lt _ (by omega))
theorem packed_take (ns : List (Int × Int)) (k : Nat) (p : Int × Int) (h : ns[k]? = some p) : packed (ns.take (k + 1)) = pushTo (packed (ns.take k)) p.1.toNat p.2.toNat := by
  unfold packed
  rw [List.take_add_one, h]
  simp
theorem packed_good (ns : List (Int × Int)) : Good (packed ns).1 (packed ns).2 := by
  suffices h : ∀ (ns : List (Int × Int)) (s : List UInt8 × Nat), Good s.1 s.2 → Good (ns.foldl (fun s p => pushTo s p.1.toNat p.2.toNat) s).1 (ns.foldl (fun s p => pushTo s p.1.toNat p.2.toNat) s).2 from h ns _ good_nil
  intro ns
  induction ns with
  | nil => exact fun s h => h
  | cons p t ih => exact fun s h => ih _ (pushTo_good _ _ h)
theorem packed_le (ns : List (Int × Int)) (k : Nat) : (packed (ns.take k)).2 ≤ (packed ns).2 := by
  have e : packed ns = (ns.drop k).foldl (fun s p => pushTo s p.1.toNat p.2.toNat) (packed (ns.take k)) := by
    unfold packed
    rw [← List.foldl_append, List.take_append_drop]
  rw [e]
  suffices h : ∀ (ns : List (Int × Int)) (s : List UInt8 × Nat), s.2 ≤ (ns.foldl (fun s p => pushTo s p.1.toNat p.2.toNat) s).2 from h _ _
  intro ns
  induction ns with
  | nil => exact fun s => Nat.le_refl _
  | cons p t ih => exact fun s => Nat.le_trans (by rw [pushTo_snd]; omega) (ih _)
theorem okAll_at {ns : List (Int × Int)} {k : Nat} {p : Int × Int} (h : ns[k]? = some p) (hb : bitOkB p.1 p.2 = false) : okAll ns = false := by
  unfold okAll
  rw [List.all_eq_false]
  exact ⟨p, List.mem_of_getElem? h, by rw [hb]; decide⟩
theorem okAll_take (ns : List (Int × Int)) (k : Nat) (p : Int × Int) (h : ns[k]? = some p) : okAll (ns.take (k + 1)) = (okAll (ns.take k) && bitOkB p.1 p.2) := by
  unfold okAll
  rw [List.take_add_one, h]
  simp
theorem put_bad {ns : List (Int × Int)} (h : okAll ns = false) : bitPutB ns = [] := by unfold bitPutB; rw [h]; rfl
theorem put_big {ns : List (Int × Int)} (k : Nat) (h : 3200 < (packed (ns.take k)).2) : bitPutB ns = [] := by
  have := packed_le ns k
  unfold bitPutB
  rw [decide_eq_false (by omega), Bool.and_false]
  rfl
theorem put_good {ns : List (Int × Int)} (h : okAll ns = true) (hb : (packed ns).2 ≤ 3200) : bitPutB ns = (packed ns).1 := by
  unfold bitPutB
  rw [h, decide_eq_true hb]
  rfl
theorem bitPutB_le (ns : List (Int × Int)) : (bitPutB ns).length ≤ 400 := by
  unfold bitPutB
  split
  · rename_i h
    simp at h
    have := (packed_good ns).1
    omega
  · simp
theorem bitOk_form {n b : Int} (h : bitOkB n b = true) : ∃ m c : Nat, n = (m : Int) ∧ b = (c : Int) ∧ 1 ≤ c ∧ c ≤ 12 ∧ m < 4096 := bitOk_form0 h
end Go.Proofs.Ytnnpjcbdcjdojaa
