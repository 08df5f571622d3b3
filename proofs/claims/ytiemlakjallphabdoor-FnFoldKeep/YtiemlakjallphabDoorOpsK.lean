/-
  Lists of operations that no rule turns, and parts of parts folded. Plain functions alone; no condition.
-/
import Derived.Test.YtiemlakjallphabDoorOpsAll
namespace Go.Proofs.YtiemlakjallphabDoor
set_option maxRecDepth 4000

/-- No two adjacent operations are of one kind. -/
def noTwo : List Op → Bool
  | a :: b :: t => (a.k != b.k) && noTwo (b :: t)
  | _ => true
theorem noTwo_tail {a : Op} {l : List Op} (h : noTwo (a :: l) = true) : noTwo l = true := by
  cases l with
  | nil => rfl
  | cons b t =>
    rw [noTwo, Bool.and_eq_true] at h
    exact h.2
theorem head1_noTwo {l : List Op} (h : noTwo l = true) : head1 l = none := by
  match l, h with
  | [], _ => rfl
  | [a], _ => rfl
  | a :: b :: t, h =>
    rw [noTwo, Bool.and_eq_true] at h
    have hk : ¬ a.k = b.k := by simpa using h.1
    have h4 : four (a :: b :: t) = false := by
      unfold four
      by_cases ha : a.k = 4
      · have hb : ¬ b.k = 4 := fun e => hk (ha.trans e.symm)
        have : (b.k == 4) = false := by simpa using hb
        simp [this]
      · have : (a.k == 4) = false := by simpa using ha
        simp [this]
    have hp : pairR a b = none := by
      unfold pairR
      rw [if_pos hk]
    unfold head1
    rw [h4, if_neg (by decide)]
    simp only [hp, Option.map_none]
theorem foldO_noTwo : ∀ {l : List Op}, noTwo l = true → foldO l = none
  | [], _ => rfl
  | a :: t, h => by
    rw [foldO, head1_noTwo h]
    simp only [foldO_noTwo (noTwo_tail h), Option.map_none]
theorem foldR_noTwo {l : List Op} (h : noTwo l = true) : foldR l = l := foldR_stop (foldO_noTwo h)
theorem noTwo_snoc : ∀ {l : List Op} {o : Op}, noTwo l = true → (∀ p, l.getLast? = some p → p.k ≠ o.k) → noTwo (l ++ [o]) = true
  | [], _, _, _ => rfl
  | [a], o, _, h => by
    have := h a rfl
    show ((a.k != o.k) && true) = true
    simpa using this
  | a :: b :: t, o, h, hl => by
    rw [noTwo, Bool.and_eq_true] at h
    show ((a.k != b.k) && noTwo (b :: t ++ [o])) = true
    rw [h.1, noTwo_snoc (l := b :: t) h.2 (fun p hp => hl p (by simpa using hp))]
    rfl
/-- Parts, each of which lies in the one ahead of it, by where they begin. -/
def nested (w h : Int) : List (Int × Int) → List Op
  | [] => []
  | (a, b) :: t => ⟨1, a, b, w - a, h - b⟩ :: nested (w - a) (h - b) t
theorem nested_snoc (p : Int × Int) : ∀ (w h : Int) (l : List (Int × Int)), nested w h (l ++ [p]) = nested w h l ++ [⟨1, p.1, p.2, w - (l.map (·.1)).sum - p.1, h - (l.map (·.2)).sum - p.2⟩]
  | w, h, [] => by simp [nested]
  | w, h, (a, b) :: t => by
    show _ :: nested (w - a) (h - b) (t ++ [p]) = _
    rw [nested_snoc p (w - a) (h - b) t]
    simp only [nested, List.cons_append, List.map_cons, List.sum_cons]
    rw [show w - a - (t.map (·.1)).sum - p.1 = w - (a + (t.map (·.1)).sum) - p.1 from by omega, show h - b - (t.map (·.2)).sum - p.2 = h - (b + (t.map (·.2)).sum) - p.2 from by omega]
theorem foldR_nested : ∀ (t : List (Int × Int)) (x y w h : Int), 0 ≤ x → 0 ≤ y → (∀ p ∈ t, 0 ≤ p.1 ∧ 0 ≤ p.2) → x + (t.map (·.1)).sum < 6 → y + (t.map (·.2)).sum < 6 →
    foldR (⟨1, x, y, w, h⟩ :: nested w h t) = [⟨1, x + (t.map (·.1)).sum, y + (t.map (·.2)).sum, w - (t.map (·.1)).sum, h - (t.map (·.2)).sum⟩]
  | [], x, y, w, h, _, _, _, _, _ => by
    rw [foldR_stop (foldO_noTwo rfl)]
    simp [nested]
  | (a, b) :: t, x, y, w, h, hx, hy, hp, h1, h2 => by
    have hab := hp (a, b) List.mem_cons_self
    simp only at hab
    have hs : ∀ (l : List (Int × Int)), (∀ p ∈ l, 0 ≤ p.1 ∧ 0 ≤ p.2) → 0 ≤ (l.map (·.1)).sum ∧ 0 ≤ (l.map (·.2)).sum := fun l => by
      induction l with
      | nil => intro _; simp
      | cons p l ih =>
        intro hl
        have := ih fun q hq => hl q (List.mem_cons_of_mem _ hq)
        have := hl p List.mem_cons_self
        simp only [List.map_cons, List.sum_cons]
        omega
    have ht := hs t fun p hq => hp p (List.mem_cons_of_mem _ hq)
    simp only [List.map_cons, List.sum_cons] at h1 h2 ⊢
    have hpair : pairR ⟨1, x, y, w, h⟩ ⟨1, a, b, w - a, h - b⟩ = some [⟨1, x + a, y + b, w - a, h - b⟩] := by
      unfold pairR
      simp only [ne_eq, not_true_eq_false, if_false, show ¬ ((1 : Int) = 2 ∨ (1 : Int) = 3) by decide]
      rw [if_neg (by rintro (k | k | k) <;> simp at k), if_pos ⟨trivial, by omega, by omega, by omega, by omega⟩]
    have hf : foldO (⟨1, x, y, w, h⟩ :: nested w h ((a, b) :: t)) = some (⟨1, x + a, y + b, w - a, h - b⟩ :: nested (w - a) (h - b) t) := by
      show foldO (⟨1, x, y, w, h⟩ :: ⟨1, a, b, w - a, h - b⟩ :: nested (w - a) (h - b) t) = _
      rw [foldO]
      have h4 : four (⟨1, x, y, w, h⟩ :: ⟨1, a, b, w - a, h - b⟩ :: nested (w - a) (h - b) t) = false := by
        unfold four
        simp
      have hh : head1 (⟨1, x, y, w, h⟩ :: ⟨1, a, b, w - a, h - b⟩ :: nested (w - a) (h - b) t) = some (⟨1, x + a, y + b, w - a, h - b⟩ :: nested (w - a) (h - b) t) := by
        unfold head1
        rw [h4, if_neg (by decide)]
        simp only [hpair, Option.map_some]
        rfl
      rw [hh]
    rw [foldR_step hf, foldR_nested t (x + a) (y + b) (w - a) (h - b) (by omega) (by omega) (fun p hq => hp p (List.mem_cons_of_mem _ hq)) (by omega) (by omega)]
    rw [show x + a + (t.map (·.1)).sum = x + (a + (t.map (·.1)).sum) from by omega, show y + b + (t.map (·.2)).sum = y + (b + (t.map (·.2)).sum) from by omega, show w - a - (t.map (·.1)).sum = w - (a + (t.map (·.1)).sum) from by omega, show h - b - (t.map (·.2)).sum = h - (b + (t.map (·.2)).sum) from by omega]
end Go.Proofs.YtiemlakjallphabDoor
