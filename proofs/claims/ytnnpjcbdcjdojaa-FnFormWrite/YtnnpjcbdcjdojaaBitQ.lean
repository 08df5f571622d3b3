/-
  What is written bit by bit is read so: the bits of packed numbers, and the numbers that they make. Plain functions alone; no condition.
-/
import Derived.Test.YtnnpjcbdcjdojaaBitP
namespace Go.Proofs.Ytnnpjcbdcjdojaa
set_option maxRecDepth 4000

theorem low_bit {x b s t : Nat} (h : t < s) : (x + b * 2 ^ s) / 2 ^ t % 2 = x / 2 ^ t % 2 := by
  obtain ⟨d, rfl⟩ : ∃ d, s = t + (d + 1) := ⟨s - t - 1, by omega⟩
  rw [show b * 2 ^ (t + (d + 1)) = 2 ^ t * (2 * (b * 2 ^ d)) from by rw [Nat.pow_add, Nat.pow_succ]; simp only [Nat.mul_comm, Nat.mul_left_comm], Nat.add_mul_div_left _ _ (Nat.pow_pos (by omega)), Nat.add_mul_mod_self_left]
theorem high_bit {x b s : Nat} (h : x < 2 ^ s) : (x + b * 2 ^ s) / 2 ^ s = b := by
  rw [Nat.mul_comm, Nat.add_mul_div_left _ _ (Nat.pow_pos (by omega)), Nat.div_eq_of_lt h, Nat.zero_add]
theorem grow_old {l : List UInt8} {a i : Nat} (h : Good l a) (hi : i < a / 8) : (grow l a)[i]? = l[i]? := by
  have := h.1
  unfold grow
  split
  · exact List.getElem?_append_left (by omega)
  · rfl
/-- One bit more: those ahead stay. -/
theorem pushBit_old {l : List UInt8} {a bit i : Nat} (h : Good l a) (hb : bit < 2) (hi : i < a) : bitAt (pushBit l a bit) i = bitAt l i := by
  obtain ⟨x, hx, hx2⟩ := grow_at h
  have hl := grow_length h
  have h3 := step_lt hx2 hb (Nat.mod_lt a (by omega))
  rw [pushBit_of hx]
  unfold bitAt
  by_cases hd : i / 8 = a / 8
  · have h8 : ¬ a % 8 = 0 := by omega
    have hg : grow l a = l := by unfold grow; rw [if_neg h8]
    rw [hg] at hx hl ⊢
    rw [hd, List.getElem?_set_self (by omega), hx]
    simp only [Option.getD_some]
    rw [byte_nat h3.1]
    exact low_bit (by omega)
  · rw [List.getElem?_set_ne (by omega), grow_old h (by omega)]
/-- .. and it is there. -/
theorem pushBit_new {l : List UInt8} {a bit : Nat} (h : Good l a) (hb : bit < 2) : bitAt (pushBit l a bit) a = bit := by
  obtain ⟨x, hx, hx2⟩ := grow_at h
  have hl := grow_length h
  have h3 := step_lt hx2 hb (Nat.mod_lt a (by omega))
  rw [pushBit_of hx]
  unfold bitAt
  rw [List.getElem?_set_self (by omega)]
  simp only [Option.getD_some]
  rw [byte_nat h3.1, high_bit hx2, Nat.mod_eq_of_lt hb]
theorem pushTo_old {s : List UInt8 × Nat} (h : Good s.1 s.2) (n j : Nat) {i : Nat} (hi : i < s.2) : bitAt (pushTo s n j).1 i = bitAt s.1 i := by
  induction j with
  | zero => rfl
  | succ j ih =>
    have := pushTo_snd s n j
    rw [pushTo, pushBit_old (pushTo_good n j h) (Nat.mod_lt _ (by omega)) (by omega), ih]
theorem pushTo_new {s : List UInt8 × Nat} (h : Good s.1 s.2) (n j : Nat) {t : Nat} (ht : t < j) : bitAt (pushTo s n j).1 (s.2 + t) = n / 2 ^ t % 2 := by
  induction j with
  | zero => omega
  | succ j ih =>
    have hs := pushTo_snd s n j
    rw [pushTo]
    by_cases he : t = j
    · subst he
      have := pushBit_new (bit := n / 2 ^ t % 2) (pushTo_good n t h) (Nat.mod_lt _ (by omega))
      rw [hs] at this
      simp only [hs]
      exact this
    · rw [pushBit_old (pushTo_good n j h) (Nat.mod_lt _ (by omega)) (by omega)]
      exact ih (by omega)
/-- The bits of the first numbers stay. -/
theorem packed_old (ns : List (Int × Int)) (k : Nat) {i : Nat} (hi : i < (packed (ns.take k)).2) : bitAt (packed ns).1 i = bitAt (packed (ns.take k)).1 i := by
  have e : packed ns = (ns.drop k).foldl (fun s p => pushTo s p.1.toNat p.2.toNat) (packed (ns.take k)) := by
    unfold packed
    rw [← List.foldl_append, List.take_append_drop]
  rw [e]
  suffices h : ∀ (ns : List (Int × Int)) (s : List UInt8 × Nat), Good s.1 s.2 → i < s.2 → bitAt (ns.foldl (fun s p => pushTo s p.1.toNat p.2.toNat) s).1 i = bitAt s.1 i from h _ _ (packed_good _) hi
  intro ns
  induction ns with
  | nil => exact fun s _ _ => rfl
  | cons p t ih =>
    intro s h1 h2
    rw [List.foldl_cons, ih _ (pushTo_good _ _ h1) (by rw [pushTo_snd]; omega), pushTo_old h1 _ _ h2]
/-- The bits of number k. -/
theorem packed_bit (ns : List (Int × Int)) (k : Nat) (p : Int × Int) (h : ns[k]? = some p) {t : Nat} (ht : t < p.2.toNat) : bitAt (packed ns).1 ((packed (ns.take k)).2 + t) = p.1.toNat / 2 ^ t % 2 := by
  rw [packed_old ns (k + 1) (by rw [packed_take ns k p h, pushTo_snd]; omega), packed_take ns k p h]
  exact pushTo_new (packed_good _) _ _ ht
theorem getN_bits (l : List UInt8) (a m : Nat) : ∀ q, (∀ t, t < q → bitAt l (a + t) = m / 2 ^ t % 2) → getN l a q = m % 2 ^ q
  | 0, _ => by simp [getN, Nat.mod_one]
  | q + 1, h => by
    rw [getN, getN_bits l a m q (fun t ht => h t (by omega)), h q (by omega), Nat.mod_pow_succ, Nat.mul_comm]
/-- Each number is read back. -/
theorem packed_get (ns : List (Int × Int)) (k m q : Nat) (h : ns[k]? = some ((m : Int), (q : Int))) (hm : m < 2 ^ q) : getN (packed ns).1 (packed (ns.take k)).2 q = m := by
  rw [getN_bits _ _ m q (fun t ht => by have := packed_bit ns k _ h (t := t) (by simpa using ht); simpa using this), Nat.mod_eq_of_lt hm]
theorem packed_end (ns : List (Int × Int)) (k m q : Nat) (h : ns[k]? = some ((m : Int), (q : Int))) : (packed (ns.take k)).2 + q ≤ (packed ns).2 := by
  have h1 := packed_le ns (k + 1)
  rw [packed_take ns k _ h, pushTo_snd] at h1
  simpa using h1
/-- .. by BitGet. -/
theorem put_get (ns : List (Int × Int)) (k m q : Nat) (h : ns[k]? = some ((m : Int), (q : Int))) (hq : 1 ≤ q ∧ q ≤ 12) (hm : m < 2 ^ q) :
    bitGetB (packed ns).1 ((packed (ns.take k)).2 : Int) (q : Int) = true ∧ bitGetN (packed ns).1 ((packed (ns.take k)).2 : Int) (q : Int) = m := by
  have h1 := packed_end ns k m q h
  have h2 := (packed_good ns).1
  have hB : bitGetB (packed ns).1 ((packed (ns.take k)).2 : Int) (q : Int) = true := decide_eq_true (by omega)
  refine ⟨hB, ?_⟩
  unfold bitGetN
  rw [hB, if_pos rfl, Int.toNat_natCast, Int.toNat_natCast]
  exact packed_get ns k m q h hm
theorem get_past (l : List UInt8) : bitGetB l (8 * (l.length : Int)) 1 = false := decide_eq_false (by omega)
theorem bitOk_pow {m c : Nat} (h : bitOkB (m : Int) (c : Int) = true) : m < 2 ^ c := by
  unfold bitOkB at h
  simp at h
  have e : ((2 ^ c : Nat) : Int) = (2 : Int) ^ c := by simp
  omega
end Go.Proofs.Ytnnpjcbdcjdojaa
