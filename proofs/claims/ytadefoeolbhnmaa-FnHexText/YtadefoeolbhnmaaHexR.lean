/-
  spec.HexRead and impl.HexRead read two digits for each byte. Condition: at most 2^30 characters.
-/
import Derived.Test.YtadefoeolbhnmaaHexS
import Derived.Laws.Externs
namespace Go.Proofs.Ytadefoeolbhnmaa
open Go.RowKit

/-- What a digit says; -1 if it is none. -/
def dval (c : UInt8) : Int := if 48 ≤ c.toNat ∧ c.toNat ≤ 57 then (c.toNat : Int) - 48 else if 97 ≤ c.toNat ∧ c.toNat ≤ 102 then (c.toNat : Int) - 87 else -1
theorem dval_lo (c : UInt8) : -1 ≤ dval c := by unfold dval; split <;> (try split) <;> omega
theorem dval_hi (c : UInt8) : dval c ≤ 15 := by unfold dval; split <;> (try split) <;> omega
/-- The byte that two digits say. -/
def two (a b : UInt8) : UInt8 := UInt8.ofNat (16 * dval a + dval b).toNat
/-- The first k bytes that a text says. -/
def rdTo (l : List UInt8) (k : Nat) : List UInt8 := (List.range k).map fun i => two (l.getD (2 * i) 0) (l.getD (2 * i + 1) 0)
/-- Whether a text has an even number of characters, all of them digits. -/
def rdOk (l : List UInt8) : Bool := decide (l.length % 2 = 0) && l.all fun c => decide (0 ≤ dval c)
/-- The bytes that a text says; none, if it says nothing. -/
def rd (l : List UInt8) : List UInt8 := if rdOk l then rdTo l (l.length / 2) else []
theorem rdTo_succ (l : List UInt8) (k : Nat) (a b : UInt8) (ha : l[2 * k]? = some a) (hb : l[2 * k + 1]? = some b) : rdTo l (k + 1) = rdTo l k ++ [two a b] := by
  unfold rdTo
  rw [List.range_succ, List.map_append]
  simp [List.getD, ha, hb]
theorem rdTo_length (l : List UInt8) (k : Nat) : (rdTo l k).length = k := by simp [rdTo]
/-- The first 2k characters are digits. -/
def fine (l : List UInt8) (k : Nat) : Prop := ∀ i c, i < 2 * k → l[i]? = some c → 0 ≤ dval c
theorem fine_zero (l : List UInt8) : fine l 0 := fun i c hi _ => by omega
theorem fine_succ {l : List UInt8} {k : Nat} {a b : UInt8} (h : fine l k) (ha : l[2 * k]? = some a) (hb : l[2 * k + 1]? = some b) (h1 : 0 ≤ dval a) (h2 : 0 ≤ dval b) : fine l (k + 1) := by
  intro i c hi hc
  by_cases e1 : i = 2 * k
  · subst e1; rw [ha] at hc; injection hc with hc; subst hc; exact h1
  · by_cases e2 : i = 2 * k + 1
    · subst e2; rw [hb] at hc; injection hc with hc; subst hc; exact h2
    · exact h i c (by omega) hc
theorem rd_odd {l : List UInt8} (h : l.length % 2 = 1) : rdOk l = false ∧ rd l = [] := by
  have : rdOk l = false := by simp [rdOk]; omega
  exact ⟨this, by simp [rd, this]⟩
theorem rd_bad {l : List UInt8} {i : Nat} {c : UInt8} (h : l[i]? = some c) (hc : dval c < 0) : rdOk l = false ∧ rd l = [] := by
  have : rdOk l = false := by
    simp only [rdOk, Bool.and_eq_false_iff, List.all_eq_false]
    exact .inr ⟨c, List.mem_of_getElem? h, by simp; omega⟩
  exact ⟨this, by simp [rd, this]⟩
theorem rd_fine {l : List UInt8} {k : Nat} (h : fine l k) (hk : 2 * k = l.length) : rdOk l = true ∧ rd l = rdTo l k := by
  have : rdOk l = true := by
    simp only [rdOk, Bool.and_eq_true, List.all_eq_true, decide_eq_true_eq]
    refine ⟨by omega, fun c hc => ?_⟩
    obtain ⟨i, hi, rfl⟩ := List.mem_iff_getElem.1 hc
    exact h i _ (by omega) (List.getElem?_eq_getElem hi)
  exact ⟨this, by rw [rd, if_pos this, show l.length / 2 = k from by omega]⟩

theorem rd_length (l : List UInt8) : (rd l).length ≤ l.length := by
  unfold rd
  split
  · rw [rdTo_length]; omega
  · simp

/-- A character of a string. -/
theorem str_at (w : World) (s : ByteArray) (k : IntKind) (i : Int) (x : UInt8) (h0 : 0 ≤ i) (hx : s.data.toList[i.toNat]? = some x) :
    (Instr.index 9 (.string s) (.int k i)).run Try.prog w = .ok (.int .u8 (x.toNat : Int)) w := by
  obtain ⟨hi, rfl⟩ := List.getElem?_eq_some_iff.1 hx
  have hz : i.toNat < s.size := by
    show i.toNat < s.data.size
    rw [← Array.length_toList]
    exact hi
  rw [run_index_string w _ _ _ _ Try.underlying9, dif_pos (by omega)]
  rfl

theorem l1Digit_any (c : UInt8) (w : World) : Calls Try.prog 22 #[.int .u8 (c.toNat : Int)] w fun e w' => e = .returned (.int .i64 (dval c)) ∧ w = w' := by
  have hlt := c.toNat_lt
  by_cases h1 : 48 ≤ c.toNat ∧ c.toNat ≤ 57
  · have e : dval c = (c.toNat : Int) - 48 := by unfold dval; rw [if_pos h1]
    rw [e]
    obtain ⟨h1a, h1b⟩ := h1
    clear e
    generalize c.toNat = n at *
    go_enter Try.func22, Try.ntmps22
    go_wp2
    go_ret
    exact ⟨by go_num, rfl⟩
  · by_cases h2 : 97 ≤ c.toNat ∧ c.toNat ≤ 102
    · have e : dval c = (c.toNat : Int) - 87 := by unfold dval; rw [if_neg h1, if_pos h2]
      rw [e]
      obtain ⟨h2a, h2b⟩ := h2
      clear e h1
      generalize c.toNat = n at *
      go_enter Try.func22, Try.ntmps22
      go_wp2
      go_ret
      exact ⟨by go_num, rfl⟩
    · have e : dval c = -1 := by unfold dval; rw [if_neg h1, if_neg h2]
      rw [e]
      clear e
      have hc : (c.toNat : Int) < 48 ∨ (57 < (c.toNat : Int) ∧ (c.toNat : Int) < 97) ∨ 102 < (c.toNat : Int) := by omega
      clear h1 h2
      generalize c.toNat = n at *
      rcases hc with hc | ⟨hc, hd⟩ | hc
      all_goals
        go_enter Try.func22, Try.ntmps22
        go_wp2
        go_ret
        exact ⟨rfl, rfl⟩

theorem digits_find (c : UInt8) : firstIdx ⟨#[48, 49, 50, 51, 52, 53, 54, 55, 56, 57, 97, 98, 99, 100, 101, 102]⟩ c = dval c := by
  have e : ∀ q : Fin 256, firstIdx ⟨#[48, 49, 50, 51, 52, 53, 54, 55, 56, 57, 97, 98, 99, 100, 101, 102]⟩ (UInt8.ofNat q.val) = dval (UInt8.ofNat q.val) := by decide +kernel
  have h := e ⟨c.toNat, c.toNat_lt⟩
  simpa using h

theorem indexByte_digits (c : UInt8) (w : World) : Calls Try.prog 21 #[.string ⟨#[48, 49, 50, 51, 52, 53, 54, 55, 56, 57, 97, 98, 99, 100, 101, 102]⟩, .int .u8 (c.toNat : Int)] w fun e w' => e = .returned (.int .i64 (dval c)) ∧ w = w' := by
  have hib : ∀ W, (callFunc 24 #[.string ⟨#[48, 49, 50, 51, 52, 53, 54, 55, 56, 57, 97, 98, 99, 100, 101, 102]⟩, .int .u8 (c.toNat : Int)]).run Try.prog W = .ok (.value (.int .i64 (dval c))) W := by
    intro W
    rw [run_callFunc_extern Try.func24 (by kernel_rfl) (by kernel_rfl) (by kernel_rfl) (e := Extern.BytealgIndexByte.indexByte) (by kernel_rfl), run_indexByte_string]
    have e : ((c.toNat : Int)).toNat.toUInt8 = c := by simp
    rw [e, digits_find]
    rfl
  go_enter Try.func21, Try.ntmps21
  go_wp2
  go_ret
  exact ⟨rfl, rfl⟩
end Go.Proofs.Ytadefoeolbhnmaa
