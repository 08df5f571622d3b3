/-
  Operations, whether one is one, and how a list of them is folded. Plain functions alone; no condition.
-/
import Derived.Test.YtbejafbpipdbjaaDoorBase
namespace Go.Proofs.YtbejafbpipdbjaaDoor
set_option maxRecDepth 4000

/-- An operation: its kind and four numbers. -/
structure Op where
  k : Int
  a : Int
  b : Int
  c : Int
  d : Int
/-- A number in a range. -/
def inR (n lo hi : Int) : Bool := decide (lo ≤ n ∧ n ≤ hi)
/-- Whether an operation is one. -/
def opB (o : Op) : Bool :=
  if o.k = 1 then inR o.a 0 5 && (inR o.b 0 5 && (inR o.c 1 6 && inR o.d 1 6))
  else if o.k = 7 then inR o.a 1 6 && (inR o.b 1 6 && (inR o.c 0 0 && inR o.d 0 0))
  else if o.k = 8 then inR o.a 0 255 && (inR o.b 0 255 && (inR o.c 0 255 && inR o.d 0 0))
  else inR o.k 2 6 && (inR o.a 0 0 && (inR o.b 0 0 && (inR o.c 0 0 && inR o.d 0 0)))
end Go.Proofs.YtbejafbpipdbjaaDoor
namespace Go.Proofs.YtbejafbpipdbjaaDoor
set_option maxRecDepth 4000

instance : DecidableEq Op := fun a b => decidable_of_iff (a.k = b.k ∧ a.a = b.a ∧ a.b = b.b ∧ a.c = b.c ∧ a.d = b.d) ⟨fun ⟨h1, h2, h3, h4, h5⟩ => by
  cases a
  cases b
  simp only at h1 h2 h3 h4 h5
  subst h1 h2 h3 h4 h5
  rfl, fun h => by subst h; exact ⟨rfl, rfl, rfl, rfl, rfl⟩⟩
/-- What a rule says of two adjacent operations, that are no quarters. -/
def pairR (a b : Op) : Option (List Op) :=
  if a.k ≠ b.k then none
  else if a.k = 2 ∨ a.k = 3 then some []
  else if a.k = 5 ∨ a.k = 8 ∨ (a.k = 7 ∧ a = b) then some [a]
  else if a.k = 1 ∧ b.a + b.c ≤ a.c ∧ b.b + b.d ≤ a.d ∧ a.a + b.a < 6 ∧ a.b + b.b < 6 then some [⟨1, a.a + b.a, a.b + b.b, b.c, b.d⟩]
  else none
/-- Whether four quarters stand at the beginning. -/
def four (l : List Op) : Bool := decide (4 ≤ l.length) && (l.take 4).all fun o => o.k == 4
/-- What a rule says of the beginning of a list. -/
def head1 (l : List Op) : Option (List Op) :=
  if four l = true then some (l.drop 4)
  else match l with
    | a :: b :: t => (pairR a b).map (· ++ t)
    | _ => none
/-- A rule at the lowest index where one applies. -/
def foldO : List Op → Option (List Op)
  | [] => none
  | a :: t => match head1 (a :: t) with
    | some s => some s
    | none => (foldO t).map (a :: ·)
/-- So often at most. -/
def foldN : Nat → List Op → List Op
  | 0, l => l
  | n + 1, l => match foldO l with
    | none => l
    | some m => foldN n m
/-- As often as a rule applies. -/
def foldR (l : List Op) : List Op := foldN l.length l

theorem pairR_le {a b : Op} {s : List Op} (h : pairR a b = some s) : s.length ≤ 1 := by
  unfold pairR at h
  split at h
  · cases h
  split at h
  · injection h with h; subst h; simp
  split at h
  · injection h with h; subst h; simp
  split at h
  · injection h with h; subst h; simp
  · cases h
theorem four_len {l : List Op} (h : four l = true) : 4 ≤ l.length := by
  unfold four at h
  rw [Bool.and_eq_true] at h
  exact of_decide_eq_true h.1
theorem head1_lt {l s : List Op} (h : head1 l = some s) : s.length < l.length := by
  unfold head1 at h
  split at h
  · rename_i h4
    injection h with h
    have := four_len h4
    subst h
    rw [List.length_drop]
    omega
  · split at h
    · rename_i a b t _
      rw [Option.map_eq_some_iff] at h
      obtain ⟨u, hu, rfl⟩ := h
      have := pairR_le hu
      simp only [List.length_append, List.length_cons]
      omega
    · cases h
theorem foldO_lt : ∀ {l s : List Op}, foldO l = some s → s.length < l.length
  | [], _, h => by cases h
  | a :: t, s, h => by
    rw [foldO] at h
    split at h
    · rename_i u hu
      injection h with h
      subst h
      exact head1_lt hu
    · rw [Option.map_eq_some_iff] at h
      obtain ⟨u, hu, rfl⟩ := h
      have := foldO_lt hu
      simp only [List.length_cons]
      omega
theorem foldN_done : ∀ {n : Nat} {l : List Op}, l.length ≤ n → foldO (foldN n l) = none
  | 0, l, h => by
    obtain rfl := List.eq_nil_of_length_eq_zero (Nat.le_zero.1 h)
    rfl
  | n + 1, l, h => by
    rw [foldN]
    cases hf : foldO l with
    | none => exact hf
    | some m => exact foldN_done (by have := foldO_lt hf; omega)
theorem foldR_done (l : List Op) : foldO (foldR l) = none := foldN_done (Nat.le_refl _)
theorem foldN_stop {l : List Op} (h : foldO l = none) : ∀ n, foldN n l = l
  | 0 => rfl
  | n + 1 => by rw [foldN, h]
theorem foldR_stop {l : List Op} (h : foldO l = none) : foldR l = l := foldN_stop h _
theorem foldR_again (l : List Op) : foldR (foldR l) = foldR l := foldR_stop (foldR_done l)
theorem foldN_more : ∀ {n m : Nat} {l : List Op}, l.length ≤ n → l.length ≤ m → foldN n l = foldN m l
  | 0, m, l, h, _ => by
    obtain rfl := List.eq_nil_of_length_eq_zero (Nat.le_zero.1 h)
    exact (foldN_stop rfl m).symm
  | n + 1, 0, l, _, h => by
    obtain rfl := List.eq_nil_of_length_eq_zero (Nat.le_zero.1 h)
    exact foldN_stop rfl (n + 1)
  | n + 1, m + 1, l, h, h' => by
    rw [foldN, foldN]
    cases hf : foldO l with
    | none => rfl
    | some u =>
      have := foldO_lt hf
      exact foldN_more (by omega) (by omega)
theorem foldR_step {l s : List Op} (h : foldO l = some s) : foldR l = foldR s := by
  have hl := foldO_lt h
  unfold foldR
  obtain ⟨n, hn⟩ : ∃ n, l.length = n + 1 := ⟨l.length - 1, by omega⟩
  rw [hn, foldN, h]
  exact foldN_more (by omega) (Nat.le_refl _)
theorem foldN_le : ∀ (n : Nat) (l : List Op), (foldN n l).length ≤ l.length
  | 0, l => Nat.le_refl _
  | n + 1, l => by
    rw [foldN]
    cases hf : foldO l with
    | none => exact Nat.le_refl _
    | some u =>
      have := foldO_lt hf
      have := foldN_le n u
      show (foldN n u).length ≤ l.length
      omega
theorem foldR_le (l : List Op) : (foldR l).length ≤ l.length := foldN_le _ _
/-- No rule applies at the first places: then the first one is that of the rest. -/
theorem foldO_from {l : List Op} : ∀ (k : Nat), k ≤ l.length → (∀ j, j < k → head1 (l.drop j) = none) → foldO l = (foldO (l.drop k)).map (l.take k ++ ·)
  | 0, _, _ => by simp
  | k + 1, hk, hj => by
    have h0 := foldO_from k (by omega) (fun j hj' => hj j (by omega))
    have h1 := hj k (by omega)
    rw [h0, List.drop_eq_getElem_cons (by omega), foldO]
    rw [List.drop_eq_getElem_cons (by omega)] at h1
    rw [h1]
    simp only [Option.map_map]
    congr 1
    funext x
    simp only [Function.comp]
    rw [← List.take_append_getElem (by omega), List.append_assoc]
    rfl
theorem foldO_at {l s : List Op} {k : Nat} (hk : k < l.length) (hj : ∀ j, j < k → head1 (l.drop j) = none) (h : head1 (l.drop k) = some s) : foldO l = some (l.take k ++ s) := by
  rw [foldO_from k (by omega) hj, List.drop_eq_getElem_cons hk, foldO]
  rw [List.drop_eq_getElem_cons hk] at h
  rw [h]
  rfl
theorem foldO_none {l : List Op} (hj : ∀ j, j < l.length → head1 (l.drop j) = none) : foldO l = none := by
  rw [foldO_from l.length (Nat.le_refl _) hj, List.drop_length]
  rfl
/-- Every operation of a list is one. -/
def opsB (l : List Op) : Bool := l.all opB && decide (l.length ≤ 5)
theorem pairR_ok {a b : Op} {s : List Op} (ha : opB a = true) (hb : opB b = true) (h : pairR a b = some s) : s.all opB = true := by
  unfold pairR at h
  split at h
  · cases h
  split at h
  · injection h with h; subst h; rfl
  split at h
  · injection h with h; subst h; simp [ha]
  split at h
  · rename_i hk _ _ hc
    injection h with h
    subst h
    obtain ⟨h1, h2, h3, h4, h5⟩ := hc
    rw [h1] at hk
    have hk2 : b.k = 1 := by omega
    unfold opB inR at ha hb
    rw [if_pos h1] at ha
    rw [if_pos hk2] at hb
    simp only [Bool.and_eq_true, decide_eq_true_eq] at ha hb
    simp only [List.all_cons, List.all_nil, Bool.and_true]
    unfold opB inR
    simp only [if_true, Bool.and_eq_true, decide_eq_true_eq]
    omega
  · cases h
theorem head1_ok {l s : List Op} (hl : l.all opB = true) (h : head1 l = some s) : s.all opB = true := by
  unfold head1 at h
  split at h
  · injection h with h
    subst h
    rw [List.all_eq_true] at hl ⊢
    exact fun x hx => hl x (List.mem_of_mem_drop hx)
  · split at h
    · rename_i a b t _
      rw [Option.map_eq_some_iff] at h
      obtain ⟨u, hu, rfl⟩ := h
      simp only [List.all_cons, Bool.and_eq_true] at hl
      rw [List.all_append, pairR_ok hl.1 hl.2.1 hu, hl.2.2]
      rfl
    · cases h
theorem foldO_ok : ∀ {l s : List Op}, l.all opB = true → foldO l = some s → s.all opB = true
  | [], _, _, h => by cases h
  | a :: t, s, hl, h => by
    rw [foldO] at h
    split at h
    · rename_i u hu
      injection h with h
      subst h
      exact head1_ok hl hu
    · rw [Option.map_eq_some_iff] at h
      obtain ⟨u, hu, rfl⟩ := h
      simp only [List.all_cons, Bool.and_eq_true] at hl ⊢
      exact ⟨hl.1, foldO_ok hl.2 hu⟩
theorem foldN_ok : ∀ (n : Nat) {l : List Op}, l.all opB = true → (foldN n l).all opB = true
  | 0, _, h => h
  | n + 1, l, h => by
    rw [foldN]
    cases hf : foldO l with
    | none => exact h
    | some u => exact foldN_ok n (foldO_ok h hf)
theorem foldR_ok {l : List Op} (h : opsB l = true) : opsB (foldR l) = true := by
  unfold opsB at h ⊢
  rw [Bool.and_eq_true] at h ⊢
  have := foldR_le l
  exact ⟨foldN_ok _ h.1, decide_eq_true (by have := of_decide_eq_true h.2; omega)⟩
/-- What OpsFold answers. -/
def opsFold (l : List Op) : List Op := if opsB l = true then foldR l else []
end Go.Proofs.YtbejafbpipdbjaaDoor
