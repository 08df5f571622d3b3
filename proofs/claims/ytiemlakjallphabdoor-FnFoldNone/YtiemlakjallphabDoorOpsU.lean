/-
  The seven rules by which lists of operations are folded, one by one. Plain functions alone; no condition.
-/
import Derived.Test.YtiemlakjallphabDoorOpsAll
namespace Go.Proofs.YtiemlakjallphabDoor
set_option maxRecDepth 4000

/-- What a rule puts in the place of so many operations. -/
inductive FoldBy
  | none
  | first
  | equal
  | parts
/-- Two parts as one. -/
def bothO (a b : Op) : Op := ⟨1, a.a + b.a, a.b + b.b, b.c, b.d⟩
def withinB (a b : Op) : Bool := decide (b.a + b.c ≤ a.c ∧ b.b + b.d ≤ a.d ∧ a.a + b.a < 6 ∧ a.b + b.b < 6)
def FoldBy.puts : FoldBy → List Op → Option (List Op)
  | .none, _ => some []
  | .first, l => some (l.take 1)
  | .equal, a :: b :: _ => if a = b then some [a] else Option.none
  | .parts, a :: b :: _ => if withinB a b = true then some [bothO a b] else Option.none
  | _, _ => Option.none
/-- A rule: the kind, how many, what it puts. -/
structure Rule where
  kind : Int
  size : Nat
  by_ : FoldBy
def rules7 : List Rule := [⟨4, 4, .none⟩, ⟨2, 2, .none⟩, ⟨3, 2, .none⟩, ⟨5, 2, .first⟩, ⟨8, 2, .first⟩, ⟨7, 2, .equal⟩, ⟨1, 2, .parts⟩]
/-- Whether a rule's operations stand at the beginning. -/
def Rule.fits (r : Rule) (l : List Op) : Bool := decide (r.size ≤ l.length) && (l.take r.size).all fun o => o.k == r.kind
/-- What a rule puts at the beginning of a list, if it applies. -/
def Rule.says (r : Rule) (l : List Op) : Option (List Op) := if r.fits l = true then r.by_.puts (l.take r.size) else Option.none
theorem fits_two {r : Rule} (h2 : r.size = 2) {a b : Op} {t : List Op} : r.fits (a :: b :: t) = (a.k == r.kind && b.k == r.kind) := by
  unfold Rule.fits
  rw [h2]
  simp
theorem fits_short {r : Rule} (h2 : 2 ≤ r.size) {l : List Op} (hl : l.length < 2) : r.fits l = false := by
  unfold Rule.fits
  rw [decide_eq_false (by omega), Bool.false_and]
theorem fits_four (l : List Op) : Rule.fits ⟨4, 4, .none⟩ l = four l := rfl
/-- A rule that applies is what stands at the beginning. -/
theorem rule_head {r : Rule} (hr : r ∈ rules7) {l s : List Op} (h : r.says l = some s) : head1 l = some (s ++ l.drop r.size) := by
  unfold Rule.says at h
  split at h
  · rename_i hf
    by_cases hq : r = ⟨4, 4, .none⟩
    · subst hq
      rw [fits_four] at hf
      injection h with h
      subst h
      unfold head1
      rw [if_pos hf]
      rfl
    · have h2 : r.size = 2 ∧ (r.kind = 2 ∧ r.by_ = .none ∨ r.kind = 3 ∧ r.by_ = .none ∨ r.kind = 5 ∧ r.by_ = .first ∨ r.kind = 8 ∧ r.by_ = .first ∨ r.kind = 7 ∧ r.by_ = .equal ∨ r.kind = 1 ∧ r.by_ = .parts) := by
        simp only [rules7, List.mem_cons, List.not_mem_nil, or_false] at hr
        rcases hr with rfl | rfl | rfl | rfl | rfl | rfl | rfl <;> simp at hq ⊢
      obtain ⟨hs, hk⟩ := h2
      match l, hf with
      | [], hf => rw [fits_short (by omega) (by simp)] at hf; cases hf
      | [a], hf => rw [fits_short (by omega) (by simp)] at hf; cases hf
      | a :: b :: t, hf =>
        rw [fits_two hs, Bool.and_eq_true, beq_iff_eq, beq_iff_eq] at hf
        obtain ⟨ha, hb⟩ := hf
        have h4 : four (a :: b :: t) = false := by
          have : (a.k == 4) = false := by
            rw [beq_eq_false_iff_ne, ha]
            rcases hk with ⟨k, _⟩ | ⟨k, _⟩ | ⟨k, _⟩ | ⟨k, _⟩ | ⟨k, _⟩ | ⟨k, _⟩ <;> rw [k] <;> decide
          unfold four
          simp [this]
        have hp : pairR a b = some s := by
          rw [hs] at h
          unfold pairR
          rw [if_neg (by omega)]
          rcases hk with ⟨k, e⟩ | ⟨k, e⟩ | ⟨k, e⟩ | ⟨k, e⟩ | ⟨k, e⟩ | ⟨k, e⟩
          · rw [if_pos (by omega)]
            rw [e] at h
            exact h
          · rw [if_pos (by omega)]
            rw [e] at h
            exact h
          · rw [if_neg (by omega), if_pos (by omega)]
            rw [e] at h
            exact h
          · rw [if_neg (by omega), if_pos (by omega)]
            rw [e] at h
            exact h
          · rw [if_neg (by omega)]
            rw [e] at h
            have h : (if a = b then some [a] else Option.none) = some s := h
            split at h
            · rename_i hab
              rw [if_pos (.inr (.inr ⟨by omega, hab⟩))]
              exact h
            · cases h
          · rw [if_neg (by omega), if_neg (by omega)]
            rw [e] at h
            have h : (if withinB a b = true then some [bothO a b] else Option.none) = some s := h
            split at h
            · rename_i hw
              unfold withinB at hw
              rw [if_pos ⟨by omega, of_decide_eq_true hw⟩]
              exact h
            · cases h
        unfold head1
        rw [h4, if_neg (by decide)]
        simp only [hp, hs]
        rfl
  · cases h
/-- Where none of them applies nothing stands at the beginning. -/
theorem rule_none {l : List Op} (h : ∀ r ∈ rules7, r.says l = Option.none) : head1 l = Option.none := by
  have h4 := h ⟨4, 4, .none⟩ (by simp [rules7])
  have hf : four l = false := by
    cases hf : four l with
    | false => rfl
    | true =>
      unfold Rule.says at h4
      rw [fits_four, if_pos hf] at h4
      cases h4
  unfold head1
  rw [hf, if_neg (by decide)]
  match l with
  | [] => rfl
  | [a] => rfl
  | a :: b :: t =>
    simp only [Option.map_eq_none_iff]
    have use : ∀ (r : Rule), r ∈ rules7 → r.size = 2 → a.k = r.kind → b.k = r.kind → r.by_.puts [a, b] = Option.none := by
      intro r hr h2 ha hb
      have := h r hr
      unfold Rule.says at this
      rw [fits_two h2, if_pos (by rw [ha, hb]; simp), h2] at this
      exact this
    unfold pairR
    by_cases hk : a.k ≠ b.k
    · rw [if_pos hk]
    rw [if_neg hk]
    have hk : b.k = a.k := by omega
    by_cases h23 : a.k = 2 ∨ a.k = 3
    · exfalso
      rcases h23 with e | e
      · have := use ⟨2, 2, .none⟩ (by simp [rules7]) rfl e (hk.trans e)
        cases this
      · have := use ⟨3, 2, .none⟩ (by simp [rules7]) rfl e (hk.trans e)
        cases this
    rw [if_neg h23]
    by_cases h5 : a.k = 5 ∨ a.k = 8 ∨ (a.k = 7 ∧ a = b)
    · exfalso
      rcases h5 with e | e | ⟨e, e2⟩
      · have := use ⟨5, 2, .first⟩ (by simp [rules7]) rfl e (hk.trans e)
        cases this
      · have := use ⟨8, 2, .first⟩ (by simp [rules7]) rfl e (hk.trans e)
        cases this
      · have := use ⟨7, 2, .equal⟩ (by simp [rules7]) rfl e (hk.trans e)
        have : (if a = b then some [a] else Option.none) = Option.none := this
        rw [if_pos e2] at this
        cases this
    rw [if_neg h5]
    by_cases h1 : a.k = 1 ∧ b.a + b.c ≤ a.c ∧ b.b + b.d ≤ a.d ∧ a.a + b.a < 6 ∧ a.b + b.b < 6
    · exfalso
      have := use ⟨1, 2, .parts⟩ (by simp [rules7]) rfl h1.1 (hk.trans h1.1)
      have : (if withinB a b = true then some [bothO a b] else Option.none) = Option.none := this
      rw [if_pos (by unfold withinB; exact decide_eq_true h1.2)] at this
      cases this
    rw [if_neg h1]
end Go.Proofs.YtiemlakjallphabDoor
