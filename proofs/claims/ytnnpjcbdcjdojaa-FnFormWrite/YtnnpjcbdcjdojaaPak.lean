/-
  LZW compression as plain functions: the codes of bytes, what codes stand for; decompression inverts compression. No condition.
-/
import Derived.Test.YtnnpjcbdcjdojaaBitQ
namespace Go.Proofs.Ytnnpjcbdcjdojaa
set_option maxRecDepth 4000

/-- Where bytes stand among what was met. -/
def at4 (met : List (List UInt8)) (b : List UInt8) : Option Nat := met.findIdx? (fun x => x == b)
/-- The code of bytes: one alone is its own, more are what was met. -/
def code4 (met : List (List UInt8)) (b : List UInt8) : Option Nat := match b with
  | [x] => some x.toNat
  | b => (at4 met b).map (257 + ·)
/-- A code as the reference has it. -/
def codeI (met : List (List UInt8)) (b : List UInt8) : Int := match code4 met b with
  | some c => (c : Int)
  | none => -1
/-- How many of the bytes r have a code, from n on. -/
def long4 (met : List (List UInt8)) (r : List UInt8) : Nat → Nat → Nat
  | 0, n => n
  | f + 1, n => if n < r.length ∧ (code4 met (r.take (n + 1))).isSome then long4 met r f (n + 1) else n
def len4 (met : List (List UInt8)) (r : List UInt8) : Nat := long4 met r (r.length - 1) 1
/-- What is met behind a code. -/
def enter4 (met : List (List UInt8)) (r : List UInt8) (n : Nat) : List (List UInt8) := if n < r.length ∧ met.length < 255 then met ++ [r.take (n + 1)] else met
/-- The codes of bytes. -/
def pak4 : Nat → List (List UInt8) → List UInt8 → List Nat
  | 0, _, _ => []
  | f + 1, met, r => if r = [] then [] else (code4 met (r.take (len4 met r))).getD 0 :: pak4 f (enter4 met r (len4 met r)) (r.drop (len4 met r))
/-- Codes as bit numbers. -/
def nums9 (cs : List Nat) : List (Int × Int) := cs.map fun (c : Nat) => ((c : Int), (9 : Int))
/-- What PakPut answers. -/
def pakPutB (l : List UInt8) : List UInt8 := if l.length ≤ 200 then bitPutB (nums9 (pak4 l.length [] l ++ [256])) else []

/-- The bytes of a code. -/
def bytes4 (met : List (List UInt8)) (last : List UInt8) (c : Nat) : List UInt8 :=
  if c < 256 then [UInt8.ofNat c]
  else if c - 257 < met.length then (met[c - 257]?).getD []
  else if c - 257 = met.length ∧ 0 < last.length ∧ c < 512 then last ++ last.take 1
  else []
/-- What is met behind a code that is read. -/
def meet4 (met : List (List UInt8)) (last b : List UInt8) : List (List UInt8) := if 0 < last.length ∧ met.length < 255 then met ++ [last ++ b.take 1] else met
/-- Whether all bits from one on are noughts. -/
def restB (l : List UInt8) (a : Nat) : Bool := decide (∀ k, k < 8 * l.length → a ≤ k → bitAt l k = 0)
/-- What is unpacked from a bit on. -/
def get4 (l : List UInt8) : Nat → Nat → List UInt8 → List (List UInt8) → List UInt8 → Option (List UInt8)
  | 0, _, _, _, _ => none
  | f + 1, a, out, met, last =>
    if 8 * l.length < a + 9 then none
    else if getN l a 9 = 256 then (if (a + 9 + 7) / 8 = l.length ∧ restB l (a + 9) = true then some out else none)
    else if (bytes4 met last (getN l a 9)).length = 0 ∨ 200 < out.length + (bytes4 met last (getN l a 9)).length then none
    else get4 l f (a + 9) (out ++ bytes4 met last (getN l a 9)) (meet4 met last (bytes4 met last (getN l a 9))) (bytes4 met last (getN l a 9))
/-- What PakGet answers. -/
def pakGetO (l : List UInt8) : Option (List UInt8) := get4 l 356 0 [] [] []

/-! ### where bytes stand -/
theorem at4_some {met : List (List UInt8)} {b : List UInt8} {i : Nat} (h : at4 met b = some i) : met[i]? = some b ∧ i < met.length ∧ ∀ j, j < i → met[j]? ≠ some b := by
  unfold at4 at h
  obtain ⟨hi, h1, h2⟩ := List.findIdx?_eq_some_iff_getElem.1 h
  refine ⟨by rw [List.getElem?_eq_getElem hi]; simpa using h1, hi, fun j hj e => ?_⟩
  have hjl : j < met.length := Nat.lt_trans hj hi
  rw [List.getElem?_eq_getElem hjl] at e
  injection e with e
  exact h2 j hj (by simpa using e)
theorem at4_none {met : List (List UInt8)} {b : List UInt8} : at4 met b = none ↔ b ∉ met := by
  unfold at4
  rw [List.findIdx?_eq_none_iff]
  constructor
  · intro h hm
    have := h b hm
    simp at this
  · intro h x hx
    simp only [beq_eq_false_iff_ne]
    rintro rfl
    exact h hx
theorem at4_mk {met : List (List UInt8)} {b : List UInt8} {i : Nat} (h : met[i]? = some b) (h2 : ∀ j, j < i → met[j]? ≠ some b) : at4 met b = some i := by
  cases e : at4 met b with
  | none => exact absurd (List.mem_of_getElem? h) (at4_none.1 e)
  | some k =>
    obtain ⟨k1, -, k3⟩ := at4_some e
    rcases Nat.lt_trichotomy i k with hk | hk | hk
    · exact absurd h (k3 i hk)
    · rw [hk]
    · exact absurd k1 (h2 k hk)
theorem at4_snoc {met : List (List UInt8)} {b e : List UInt8} (h : b ≠ e) : at4 (met ++ [e]) b = at4 met b := by
  cases q : at4 met b with
  | none =>
    rw [at4_none] at q ⊢
    simp [q, h]
  | some i =>
    obtain ⟨h1, h2, h3⟩ := at4_some q
    refine at4_mk (by rw [List.getElem?_append_left h2]; exact h1) fun j hj => ?_
    rw [List.getElem?_append_left (Nat.lt_trans hj h2)]
    exact h3 j hj
theorem at4_last {met : List (List UInt8)} {e : List UInt8} (h : e ∉ met) : at4 (met ++ [e]) e = some met.length := by
  refine at4_mk (by simp) fun j hj => ?_
  rw [List.getElem?_append_left hj]
  exact fun q => h (List.mem_of_getElem? q)

/-! ### codes -/
theorem code4_one (met : List (List UInt8)) (x : UInt8) : code4 met [x] = some x.toNat := rfl
theorem code4_more {met : List (List UInt8)} {b : List UInt8} (h : b.length ≠ 1) : code4 met b = (at4 met b).map (257 + ·) := by
  match b, h with
  | [], _ => rfl
  | [x], h => simp at h
  | x :: y :: b, _ => rfl
/-- The bytes of a code that was met. -/
def str4 (met : List (List UInt8)) (c : Nat) : List UInt8 := if c < 257 then [UInt8.ofNat c] else (met[c - 257]?).getD []
/-- The code of the bytes of a code with one more. -/
def child4 (met : List (List UInt8)) (c : Nat) (b : UInt8) : Option Nat := if c = 256 then none else (at4 met (str4 met c ++ [b])).map (257 + ·)
theorem code4_str {met : List (List UInt8)} {s : List UInt8} {c : Nat} (h : code4 met s = some c) : str4 met c = s ∧ c ≠ 256 ∧ c < 257 + met.length := by
  by_cases h1 : s.length = 1
  · obtain ⟨x, rfl⟩ := List.length_eq_one_iff.1 h1
    rw [code4_one] at h
    injection h with h
    subst h
    have := x.toNat_lt
    refine ⟨?_, by omega, by omega⟩
    unfold str4
    rw [if_pos (by omega)]
    simp
  · rw [code4_more h1] at h
    cases q : at4 met s with
    | none => rw [q] at h; cases h
    | some i =>
      rw [q] at h
      simp at h
      subst h
      obtain ⟨h1, h2, -⟩ := at4_some q
      refine ⟨?_, by omega, by omega⟩
      unfold str4
      rw [if_neg (by omega), show 257 + i - 257 = i from by omega, h1]
      rfl
/-- One byte more. -/
theorem code4_child {met : List (List UInt8)} {s : List UInt8} {c : Nat} (h : code4 met s = some c) (hs : s ≠ []) (b : UInt8) : code4 met (s ++ [b]) = child4 met c b := by
  obtain ⟨h1, h2, -⟩ := code4_str h
  have : s.length ≠ 0 := fun e => hs (List.eq_nil_of_length_eq_zero e)
  rw [code4_more (by simp [hs]), child4, if_neg h2, h1]

/-- What was met: each once, two bytes at least, and with its own beginning. -/
def Dict (met : List (List UInt8)) : Prop := (∀ (i j : Nat) (b : List UInt8), met[i]? = some b → met[j]? = some b → i = j) ∧ (∀ e ∈ met, 2 ≤ e.length) ∧ ∀ s x, s ++ [x] ∈ met → s.length = 1 ∨ s ∈ met
theorem dict_nil : Dict [] := ⟨fun i j b h => by simp at h, fun e h => by simp at h, fun s x h => by simp at h⟩
theorem snoc_inj {s t : List UInt8} {x y : UInt8} (h : s ++ [x] = t ++ [y]) : s = t ∧ x = y := by
  have := List.append_inj' h rfl
  exact ⟨this.1, by simpa using this.2⟩
theorem code4_in {met : List (List UInt8)} {s : List UInt8} {c : Nat} (h : code4 met s = some c) : s.length = 1 ∨ s ∈ met := by
  by_cases h1 : s.length = 1
  · exact .inl h1
  · rw [code4_more h1] at h
    cases q : at4 met s with
    | none => rw [q] at h; cases h
    | some i => exact .inr (List.mem_of_getElem? (at4_some q).1)
theorem dict_enter {met : List (List UInt8)} {s : List UInt8} {x : UInt8} {c : Nat} (hd : Dict met) (hc : code4 met s = some c) (hs : s ≠ []) (hn : s ++ [x] ∉ met) : Dict (met ++ [s ++ [x]]) := by
  have hsl : s.length ≠ 0 := fun e => hs (List.eq_nil_of_length_eq_zero e)
  refine ⟨fun i j b hi hj => ?_, fun e he => ?_, fun t y ht => ?_⟩
  · by_cases h1 : i < met.length
    · rw [List.getElem?_append_left h1] at hi
      by_cases h2 : j < met.length
      · rw [List.getElem?_append_left h2] at hj
        exact hd.1 i j b hi hj
      · rw [List.getElem?_append_right (by omega)] at hj
        have := (List.getElem?_eq_some_iff.1 hj).1
        simp at this
        have hj0 : j - met.length = 0 := by omega
        rw [hj0] at hj
        simp at hj
        subst hj
        exact absurd (List.mem_of_getElem? hi) hn
    · rw [List.getElem?_append_right (by omega)] at hi
      have := (List.getElem?_eq_some_iff.1 hi).1
      simp at this
      have hi0 : i - met.length = 0 := by omega
      rw [hi0] at hi
      simp at hi
      subst hi
      by_cases h2 : j < met.length
      · rw [List.getElem?_append_left h2] at hj
        exact absurd (List.mem_of_getElem? hj) hn
      · rw [List.getElem?_append_right (by omega)] at hj
        have := (List.getElem?_eq_some_iff.1 hj).1
        simp at this
        omega
  · rcases List.mem_append.1 he with he | he
    · exact hd.2.1 e he
    · simp at he
      subst he
      simp
      omega
  · rcases List.mem_append.1 ht with ht | ht
    · rcases hd.2.2 t y ht with h | h
      · exact .inl h
      · exact .inr (List.mem_append_left _ h)
    · have ht2 : t ++ [y] = s ++ [x] := by simpa using ht
      obtain ⟨rfl, -⟩ := snoc_inj ht2
      rcases code4_in hc with h | h
      · exact .inl h
      · exact .inr (List.mem_append_left _ h)
theorem child4_new {met : List (List UInt8)} {s : List UInt8} {x : UInt8} {c : Nat} (hc : code4 met s = some c) (hn : s ++ [x] ∉ met) : child4 (met ++ [s ++ [x]]) c x = some (257 + met.length) := by
  obtain ⟨h1, h2, h3⟩ := code4_str hc
  have e : str4 (met ++ [s ++ [x]]) c = s := by
    unfold str4 at h1 ⊢
    by_cases hc2 : c < 257
    · rw [if_pos hc2] at h1 ⊢; exact h1
    · rw [if_neg hc2] at h1 ⊢
      rw [List.getElem?_append_left (by omega)]
      exact h1
  rw [child4, if_neg h2, e, at4_last hn]
  rfl
theorem child4_old {met : List (List UInt8)} {s : List UInt8} {x : UInt8} {c : Nat} (hd : Dict met) (hc : code4 met s = some c) (hs : s ≠ []) (hn : s ++ [x] ∉ met) (c' : Nat) (b : UInt8) (hne : ¬ (c' = c ∧ b = x)) :
    child4 (met ++ [s ++ [x]]) c' b = child4 met c' b := by
  have hsl : s.length ≠ 0 := fun e => hs (List.eq_nil_of_length_eq_zero e)
  unfold child4
  by_cases h6 : c' = 256
  · rw [if_pos h6, if_pos h6]
  · rw [if_neg h6, if_neg h6]
    by_cases h7 : c' < 257 + met.length
    · have e : str4 (met ++ [s ++ [x]]) c' = str4 met c' := by
        unfold str4
        by_cases hc2 : c' < 257
        · rw [if_pos hc2, if_pos hc2]
        · rw [if_neg hc2, if_neg hc2, List.getElem?_append_left (by omega)]
      rw [e, at4_snoc]
      intro h
      obtain ⟨h1, h2⟩ := snoc_inj h
      refine hne ⟨?_, h2⟩
      subst h1
      by_cases hc2 : c' < 257
      · have e1 : str4 met c' = [UInt8.ofNat c'] := by unfold str4; rw [if_pos hc2]
        rw [e1, code4_one] at hc
        injection hc with hc
        rw [← hc]
        simp
        omega
      · have e1 : met[c' - 257]? = some (str4 met c') := by
          unfold str4
          rw [if_neg hc2, List.getElem?_eq_getElem (by omega)]
          rfl
        have l2 := hd.2.1 _ (List.mem_of_getElem? e1)
        rw [code4_more (by omega)] at hc
        cases q : at4 met (str4 met c') with
        | none => rw [q] at hc; cases hc
        | some i =>
          rw [q] at hc
          simp at hc
          have := hd.1 _ _ _ e1 (at4_some q).1
          omega
    · have e0 : str4 met c' = [] := by
        unfold str4
        rw [if_neg (by omega), List.getElem?_eq_none (by omega)]
        rfl
      have hb : at4 met ([] ++ [b]) = none := by
        rw [at4_none]
        intro hm
        have := hd.2.1 _ hm
        simp at this
      rw [e0, hb]
      have : at4 (met ++ [s ++ [x]]) (str4 (met ++ [s ++ [x]]) c' ++ [b]) = none := by
        rw [at4_none]
        intro hm
        by_cases h8 : c' = 257 + met.length
        · subst h8
          have e1 : str4 (met ++ [s ++ [x]]) (257 + met.length) = s ++ [x] := by
            unfold str4
            rw [if_neg (by omega)]
            simp
          rw [e1] at hm
          rcases List.mem_append.1 hm with hm | hm
          · rcases hd.2.2 _ _ hm with h | h
            · rw [List.length_append] at h
              simp only [List.length_cons, List.length_nil] at h
              omega
            · exact hn h
          · simp at hm
        · have e1 : str4 (met ++ [s ++ [x]]) c' = [] := by
            unfold str4
            rw [if_neg (by omega), List.getElem?_eq_none (by simp; omega)]
            rfl
          rw [e1] at hm
          rcases List.mem_append.1 hm with hm | hm
          · have := hd.2.1 _ hm
            simp at this
          · have h2 : [b] = s ++ [x] := by simpa using hm
            have h3 := congrArg List.length h2
            rw [List.length_append] at h3
            simp only [List.length_cons, List.length_nil] at h3
            omega
      rw [this]
theorem child4_none (c : Nat) (b : UInt8) : child4 [] c b = none := by
  unfold child4 at4
  split <;> simp

/-! ### the longest beginning that has a code -/
theorem long4_spec (met : List (List UInt8)) (r : List UInt8) : ∀ f n, n + f = r.length → (code4 met (r.take n)).isSome →
    n ≤ long4 met r f n ∧ long4 met r f n ≤ r.length ∧ (code4 met (r.take (long4 met r f n))).isSome ∧ (long4 met r f n < r.length → code4 met (r.take (long4 met r f n + 1)) = none)
  | 0, n, h, hc => by
    simp only [long4]
    exact ⟨Nat.le_refl _, by omega, hc, fun h2 => by omega⟩
  | f + 1, n, h, hc => by
    simp only [long4]
    by_cases hq : n < r.length ∧ (code4 met (r.take (n + 1))).isSome
    · rw [if_pos hq]
      obtain ⟨h1, h2⟩ := long4_spec met r f (n + 1) (by omega) hq.2
      exact ⟨by omega, h2⟩
    · rw [if_neg hq]
      refine ⟨Nat.le_refl _, by omega, hc, fun h2 => ?_⟩
      cases e : code4 met (r.take (n + 1)) with
      | none => rfl
      | some c => exact absurd ⟨h2, by rw [e]; rfl⟩ hq
theorem len4_spec (met : List (List UInt8)) (r : List UInt8) (h : r ≠ []) : 1 ≤ len4 met r ∧ len4 met r ≤ r.length ∧ (∃ c, code4 met (r.take (len4 met r)) = some c) ∧ (len4 met r < r.length → code4 met (r.take (len4 met r + 1)) = none) := by
  have hl : r.length ≠ 0 := fun e => h (List.eq_nil_of_length_eq_zero e)
  obtain ⟨x, r', rfl⟩ := List.exists_cons_of_ne_nil h
  have := long4_spec met (x :: r') ((x :: r').length - 1) 1 (by simp; omega) (by simp [code4_one])
  obtain ⟨h1, h2, h3, h4⟩ := this
  exact ⟨h1, h2, Option.isSome_iff_exists.1 h3, h4⟩

/-! ### decompression inverts compression -/
/-- One code that is read. -/
def dec4 (s : List UInt8 × List (List UInt8) × List UInt8) (c : Nat) : Option (List UInt8 × List (List UInt8) × List UInt8) :=
  if (bytes4 s.2.1 s.2.2 c).length = 0 ∨ 200 < s.1.length + (bytes4 s.2.1 s.2.2 c).length then none else some (s.1 ++ bytes4 s.2.1 s.2.2 c, meet4 s.2.1 s.2.2 (bytes4 s.2.1 s.2.2 c), bytes4 s.2.1 s.2.2 c)
def decs4 : List Nat → List UInt8 × List (List UInt8) × List UInt8 → Option (List UInt8 × List (List UInt8) × List UInt8)
  | [], s => some s
  | c :: cs, s => (dec4 s c).bind (decs4 cs)
/-- How the two dictionaries stand: that of the reader is one behind. -/
def Sync (metE metD : List (List UInt8)) (last r : List UInt8) : Prop := (metE = [] ∧ metD = [] ∧ last = []) ∨ (last ≠ [] ∧ (r ≠ [] → metE = metD ++ [last ++ r.take 1]))
theorem take_take1 (r : List UInt8) (n : Nat) (hn : 1 ≤ n) : (r.take n).take 1 = r.take 1 := by
  rw [List.take_take]
  congr 1
  omega
theorem sync_bytes {metE metD : List (List UInt8)} {last r : List UInt8} (h : Sync metE metD last r) (hr : r ≠ []) (hm : metE.length < 255) {n c : Nat} (hn : 1 ≤ n) (hc : code4 metE (r.take n) = some c) : bytes4 metD last c = r.take n ∧ c < 512 := by
  by_cases h1 : (r.take n).length = 1
  · obtain ⟨x, hx⟩ := List.length_eq_one_iff.1 h1
    rw [hx, code4_one] at hc
    injection hc with hc
    subst hc
    have := x.toNat_lt
    refine ⟨?_, by omega⟩
    unfold bytes4
    rw [if_pos (by omega), hx]
    simp
  · rw [code4_more h1] at hc
    cases q : at4 metE (r.take n) with
    | none => rw [q] at hc; cases hc
    | some i =>
      rw [q] at hc
      simp at hc
      subst hc
      obtain ⟨h1, h2, -⟩ := at4_some q
      rcases h with ⟨rfl, -, -⟩ | ⟨hl, hE⟩
      · simp at h2
      · have hE := hE hr
        subst hE
        have hll : last.length ≠ 0 := fun e => hl (List.eq_nil_of_length_eq_zero e)
        refine ⟨?_, by omega⟩
        unfold bytes4
        rw [if_neg (by omega), show 257 + i - 257 = i from by omega]
        by_cases hi : i < metD.length
        · rw [if_pos hi]
          rw [List.getElem?_append_left hi] at h1
          rw [h1]
          rfl
        · rw [if_neg hi]
          have hi0 : i = metD.length := by simp at h2; omega
          rw [if_pos ⟨hi0, by omega, by simp at hm h2; omega⟩]
          rw [hi0] at h1
          simp at h1
          have e1 := congrArg (fun z => z.take 1) h1
          simp only [take_take1 r n hn] at e1
          rw [List.take_append_of_le_length (by omega)] at e1
          rw [e1, h1]
theorem sync_step {metE metD : List (List UInt8)} {last r : List UInt8} (h : Sync metE metD last r) (hr : r ≠ []) (hm : metE.length < 255) {n : Nat} (hn : 1 ≤ n) : meet4 metD last (r.take n) = metE ∧ Sync (enter4 metE r n) metE (r.take n) (r.drop n) := by
  constructor
  · unfold meet4
    rcases h with ⟨rfl, rfl, rfl⟩ | ⟨hl, hE⟩
    · simp
    · have hE := hE hr
      subst hE
      have hll : last.length ≠ 0 := fun e => hl (List.eq_nil_of_length_eq_zero e)
      simp at hm
      rw [if_pos ⟨by omega, by omega⟩, take_take1 r n hn]
  · refine .inr ⟨fun e => ?_, fun hd => ?_⟩
    · have := congrArg List.length e
      simp at this
      rcases this with h | h
      · omega
      · exact hr h
    · have hlt : n < r.length := by
        refine Nat.lt_of_not_le fun hle => hd (List.drop_eq_nil_of_le hle)
      unfold enter4
      rw [if_pos ⟨hlt, hm⟩, List.take_add]
theorem decs_pak (f : Nat) : ∀ metE metD last r out, Sync metE metD last r → r.length ≤ f → metE.length + r.length ≤ 200 → out.length + r.length ≤ 200 →
    ∃ s, decs4 (pak4 f metE r) (out, metD, last) = some s ∧ s.1 = out ++ r := by
  induction f with
  | zero =>
    intro metE metD last r out _ hf _ _
    have : r = [] := List.eq_nil_of_length_eq_zero (by omega)
    subst this
    exact ⟨(out, metD, last), rfl, by simp⟩
  | succ f ih =>
    intro metE metD last r out hs hf hm ho
    rw [pak4]
    by_cases hr : r = []
    · subst hr
      exact ⟨(out, metD, last), rfl, by simp⟩
    · rw [if_neg hr]
      obtain ⟨n1, n2, ⟨c, hc⟩, -⟩ := len4_spec metE r hr
      have hl : r.length ≠ 0 := fun e => hr (List.eq_nil_of_length_eq_zero e)
      obtain ⟨hb, -⟩ := sync_bytes hs hr (by omega) n1 hc
      obtain ⟨hmt, hs2⟩ := sync_step hs hr (by omega) n1
      generalize len4 metE r = n at *
      have hen : (enter4 metE r n).length ≤ metE.length + 1 := by
        unfold enter4
        split <;> simp
      have htl : (r.take n).length = n := by simp; omega
      obtain ⟨s, h1, h2⟩ := ih (enter4 metE r n) metE (r.take n) (r.drop n) (out ++ r.take n) hs2 (by simp; omega) (by simp; omega) (by simp; omega)
      refine ⟨s, ?_, by rw [h2]; simp⟩
      rw [hc, decs4, dec4]
      simp only [Option.getD_some]
      rw [hb, hmt, if_neg (by omega)]
      exact h1

/-- All codes are nine bits, none is the end's, and there are no more than bytes. -/
theorem pak_codes (f : Nat) : ∀ met r, met.length + r.length ≤ 200 → (∀ c ∈ pak4 f met r, c < 512 ∧ c ≠ 256) ∧ (pak4 f met r).length ≤ r.length := by
  induction f with
  | zero => intro met r _; simp [pak4]
  | succ f ih =>
    intro met r h
    rw [pak4]
    by_cases hr : r = []
    · simp [hr]
    · rw [if_neg hr]
      obtain ⟨n1, n2, ⟨c, hc⟩, -⟩ := len4_spec met r hr
      generalize len4 met r = n at *
      have hen : (enter4 met r n).length ≤ met.length + 1 := by
        unfold enter4
        split <;> simp
      obtain ⟨h1, h2⟩ := ih (enter4 met r n) (r.drop n) (by simp; omega)
      obtain ⟨-, k1, k2⟩ := code4_str hc
      constructor
      · intro x hx
        rcases List.mem_cons.1 hx with rfl | hx
        · rw [hc]
          simp only [Option.getD_some]
          exact ⟨by omega, k1⟩
        · exact h1 x hx
      · simp at h2 ⊢
        omega

/-! ### the bits -/
theorem packed_nine (cs : List Nat) : (packed (nums9 cs)).2 = 9 * cs.length := by
  have : ∀ k, k ≤ cs.length → (packed ((nums9 cs).take k)).2 = 9 * k := by
    intro k
    induction k with
    | zero => intro _; rfl
    | succ k ih =>
      intro hk
      have e : (nums9 cs)[k]? = some (((cs[k]'(by omega) : Nat) : Int), 9) := by
        unfold nums9
        rw [List.getElem?_map, List.getElem?_eq_getElem (by omega)]
        rfl
      rw [packed_take _ _ _ e, pushTo_snd, ih (by omega)]
      simp
      omega
  have h := this cs.length (Nat.le_refl _)
  rwa [List.take_of_length_le (by simp [nums9])] at h
theorem okAll_nine (cs : List Nat) (h : ∀ c ∈ cs, c < 512) : okAll (nums9 cs) = true := by
  unfold okAll nums9
  rw [List.all_eq_true]
  intro p hp
  obtain ⟨c, hc, rfl⟩ := List.mem_map.1 hp
  have := h c hc
  unfold bitOkB
  simp
  omega
theorem put_nine (cs : List Nat) (h : ∀ c ∈ cs, c < 512) (hl : cs.length ≤ 355) : bitPutB (nums9 cs) = (packed (nums9 cs)).1 ∧ (bitPutB (nums9 cs)).length = (9 * cs.length + 7) / 8 := by
  have e := put_good (okAll_nine cs h) (by rw [packed_nine]; omega)
  refine ⟨e, ?_⟩
  rw [e, (packed_good (nums9 cs)).1, packed_nine]
theorem getN_nine (cs : List Nat) (k c : Nat) (hc : cs[k]? = some c) (h : c < 512) : getN (packed (nums9 cs)).1 (9 * k) 9 = c := by
  have e : (nums9 cs)[k]? = some ((c : Int), ((9 : Nat) : Int)) := by
    unfold nums9
    rw [List.getElem?_map, hc]
    rfl
  have h2 := packed_get (nums9 cs) k c 9 e (by omega)
  have h3 : (packed ((nums9 cs).take k)).2 = 9 * k := by
    have hk : k < cs.length := (List.getElem?_eq_some_iff.1 hc).1
    have e2 : (nums9 cs).take k = nums9 (cs.take k) := by simp [nums9, List.map_take]
    rw [e2, packed_nine]
    simp
    omega
  rwa [h3] at h2
theorem bitAt_high {l : List UInt8} {a : Nat} (h : Good l a) (k : Nat) (hk : k < 8 * l.length) (ha : a ≤ k) : bitAt l k = 0 := by
  have h1 := h.1
  have hka : k / 8 = a / 8 := by omega
  have hlt : a / 8 < l.length := by omega
  have hx := h.2 _ (List.getElem?_eq_getElem hlt)
  unfold bitAt
  rw [hka, List.getElem?_eq_getElem hlt]
  simp only [Option.getD_some]
  have hp : 2 ^ (a % 8) ≤ 2 ^ (k % 8) := Nat.pow_le_pow_right (by omega) (by omega)
  rw [Nat.div_eq_of_lt (by omega)]
theorem rest_good {l : List UInt8} {a : Nat} (h : Good l a) : restB l a = true := decide_eq_true fun k hk ha => bitAt_high h k hk ha

/-- What is read of packed codes that end with the end's. -/
theorem get_codes (cs : List Nat) (h : ∀ c ∈ cs, c < 512 ∧ c ≠ 256) : ∀ m k f out met last, m + k = cs.length → m < f →
    get4 (packed (nums9 (cs ++ [256]))).1 f (9 * k) out met last = (decs4 (cs.drop k) (out, met, last)).map (fun s => s.1) := by
  have hg := packed_good (nums9 (cs ++ [256]))
  have hlen : (packed (nums9 (cs ++ [256]))).1.length = (9 * (cs.length + 1) + 7) / 8 := by
    rw [hg.1, packed_nine]
    simp
  intro m
  induction m with
  | zero =>
    intro k f out met last hk hf
    obtain ⟨f, rfl⟩ : ∃ f', f = f' + 1 := ⟨f - 1, by omega⟩
    rw [get4, if_neg (by omega), getN_nine (cs ++ [256]) k 256 (by rw [List.getElem?_append_right (by omega), show k - cs.length = 0 from by omega]; rfl) (by omega), if_pos rfl]
    rw [packed_nine] at hg
    simp at hg
    rw [if_pos ⟨by omega, by rw [show 9 * k + 9 = 9 * (cs.length + 1) from by omega]; exact rest_good hg⟩, List.drop_eq_nil_of_le (by omega)]
    rfl
  | succ m ih =>
    intro k f out met last hk hf
    obtain ⟨f, rfl⟩ : ∃ f', f = f' + 1 := ⟨f - 1, by omega⟩
    have hkl : k < cs.length := by omega
    obtain ⟨hc1, hc2⟩ := h cs[k] (List.getElem_mem hkl)
    rw [get4, if_neg (by omega), getN_nine (cs ++ [256]) k cs[k] (by rw [List.getElem?_append_left hkl, List.getElem?_eq_getElem hkl]) hc1, if_neg hc2, List.drop_eq_getElem_cons hkl, decs4, dec4]
    by_cases hq : (bytes4 met last cs[k]).length = 0 ∨ 200 < out.length + (bytes4 met last cs[k]).length
    · rw [if_pos hq, if_pos hq]
      rfl
    · rw [if_neg hq, if_neg hq, show 9 * k + 9 = 9 * (k + 1) from by omega, ih (k + 1) f _ _ _ (by omega) (by omega)]
      rfl

theorem pakPut_form {l : List UInt8} (h : l.length ≤ 200) : pakPutB l = (packed (nums9 (pak4 l.length [] l ++ [256]))).1 ∧ (pakPutB l).length = (9 * ((pak4 l.length [] l).length + 1) + 7) / 8 := by
  obtain ⟨h1, h2⟩ := pak_codes l.length [] l (by simpa using h)
  obtain ⟨k1, k2⟩ := put_nine (pak4 l.length [] l ++ [256]) (fun c hc => by
    rcases List.mem_append.1 hc with hc | hc
    · exact (h1 c hc).1
    · simp at hc; omega) (by simp; omega)
  unfold pakPutB
  rw [if_pos h]
  refine ⟨k1, ?_⟩
  rw [k2]
  simp
theorem pakPut_le {l : List UInt8} (h : l.length ≤ 200) : (pakPutB l).length ≤ (9 * (l.length + 1) + 7) / 8 := by
  obtain ⟨-, h2⟩ := pak_codes l.length [] l (by simpa using h)
  rw [(pakPut_form h).2]
  omega
/-- PakGet of PakPut of bytes is them. -/
theorem pak_inv {l : List UInt8} (h : l.length ≤ 200) : pakGetO (pakPutB l) = some l := by
  obtain ⟨h1, h2⟩ := pak_codes l.length [] l (by simpa using h)
  obtain ⟨s, hs, he⟩ := decs_pak l.length [] [] [] l [] (.inl ⟨rfl, rfl, rfl⟩) (Nat.le_refl _) (by simpa using h) (by simpa using h)
  have := get_codes (pak4 l.length [] l) h1 (pak4 l.length [] l).length 0 356 [] [] [] (by omega) (by omega)
  unfold pakGetO
  rw [(pakPut_form h).1]
  simp only [Nat.mul_zero, List.drop_zero] at this
  rw [this, hs]
  simp [he]
theorem pak_inj {a b : List UInt8} (ha : a.length ≤ 200) (hb : b.length ≤ 200) (h : pakPutB a = pakPutB b) : a = b := by
  have h1 := pak_inv ha
  rw [h, pak_inv hb] at h1
  injection h1 with h1
  exact h1.symm

/-! ### what is unpacked -/
theorem get4_le (l : List UInt8) : ∀ f a out met last x, out.length ≤ 200 → get4 l f a out met last = some x → x.length ≤ 200
  | 0, _, _, _, _, _, _, h => by cases h
  | f + 1, a, out, met, last, x, ho, h => by
    rw [get4] at h
    split at h
    · cases h
    · split at h
      · split at h
        · injection h with h; subst h; exact ho
        · cases h
      · split at h
        · cases h
        · rename_i h3
          exact get4_le l f _ _ _ _ x (by simp; omega) h
theorem pakGet_le {l x : List UInt8} (h : pakGetO l = some x) : x.length ≤ 200 := get4_le l _ _ _ _ _ x (by simp) h

theorem bitAt_pre {l m : List UInt8} {k : Nat} (h : k < 8 * l.length) : bitAt (l ++ m) k = bitAt l k := by
  unfold bitAt
  rw [List.getElem?_append_left (by omega)]
theorem getN_pre {l m : List UInt8} : ∀ {q a : Nat}, a + q ≤ 8 * l.length → getN (l ++ m) a q = getN l a q
  | 0, _, _ => rfl
  | q + 1, a, h => by
    rw [getN, getN, getN_pre (by omega), bitAt_pre (by omega)]
/-- With a byte more nothing is unpacked. -/
theorem get4_more (l : List UInt8) (y : UInt8) : ∀ f a out met last x, get4 l f a out met last = some x → get4 (l ++ [y]) f a out met last = none
  | 0, _, _, _, _, _, _ => rfl
  | f + 1, a, out, met, last, x, h => by
    rw [get4] at h ⊢
    by_cases h1 : 8 * l.length < a + 9
    · rw [if_pos h1] at h; cases h
    · rw [if_neg h1] at h
      rw [if_neg (by simp; omega), getN_pre (by omega)]
      by_cases h2 : getN l a 9 = 256
      · rw [if_pos h2] at h ⊢
        by_cases h3 : (a + 9 + 7) / 8 = l.length ∧ restB l (a + 9) = true
        · rw [if_neg (fun q => by have := q.1; have := h3.1; simp at *; omega)]
        · rw [if_neg h3] at h; cases h
      · rw [if_neg h2] at h ⊢
        by_cases h3 : (bytes4 met last (getN l a 9)).length = 0 ∨ 200 < out.length + (bytes4 met last (getN l a 9)).length
        · rw [if_pos h3] at h; cases h
        · rw [if_neg h3] at h ⊢
          exact get4_more l y f _ _ _ _ x h
theorem pakGet_more {l x : List UInt8} (y : UInt8) (h : pakGetO l = some x) : pakGetO (l ++ [y]) = none := get4_more l y _ _ _ _ _ x h
/-- Without the last byte nothing is unpacked. -/
theorem get4_less (cs : List Nat) (h : ∀ c ∈ cs, c < 512 ∧ c ≠ 256) (p : List UInt8) (y : UInt8) (hp : (packed (nums9 (cs ++ [256]))).1 = p ++ [y]) : ∀ f k out met last, get4 p f (9 * k) out met last = none
  | 0, _, _, _, _ => rfl
  | f + 1, k, out, met, last => by
    have hg := (packed_good (nums9 (cs ++ [256]))).1
    rw [packed_nine, hp] at hg
    simp at hg
    rw [get4]
    by_cases h1 : 8 * p.length < 9 * k + 9
    · rw [if_pos h1]
    · have hk : k < cs.length := by omega
      obtain ⟨hc1, hc2⟩ := h cs[k] (List.getElem_mem hk)
      have e := getN_nine (cs ++ [256]) k cs[k] (by rw [List.getElem?_append_left hk, List.getElem?_eq_getElem hk]) hc1
      rw [hp, getN_pre (by omega)] at e
      rw [if_neg h1, e, if_neg hc2]
      split
      · rfl
      · exact get4_less cs h p y hp f (k + 1) _ _ _
theorem pakGet_less {l : List UInt8} (h : l.length ≤ 200) : pakGetO ((pakPutB l).take ((pakPutB l).length - 1)) = none := by
  obtain ⟨h1, -⟩ := pak_codes l.length [] l (by simpa using h)
  obtain ⟨k1, k2⟩ := pakPut_form h
  have hne : pakPutB l ≠ [] := fun e => by
    rw [e] at k2
    simp at k2
    omega
  have e := List.dropLast_concat_getLast hne
  rw [← List.dropLast_eq_take]
  exact get4_less _ h1 _ _ (k1.symm.trans e.symm) _ 0 _ _ _

end Go.Proofs.Ytnnpjcbdcjdojaa
