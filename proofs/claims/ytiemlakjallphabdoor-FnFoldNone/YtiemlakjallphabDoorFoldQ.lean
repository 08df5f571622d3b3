/-
  What two adjacent operations come to (the reference's l6Pair). Conditions as they stand.
-/
import Derived.Test.YtiemlakjallphabDoorFoldP
namespace Go.Proofs.YtiemlakjallphabDoor
set_option maxRecDepth 4000
open Go.RowKit

/-- What an operation that is one holds. -/
theorem op_lim {k a b c d : Int} (h : opB ⟨k, a, b, c, d⟩ = true) :
    (k = 1 ∧ 0 ≤ a ∧ a ≤ 5 ∧ 0 ≤ b ∧ b ≤ 5 ∧ 1 ≤ c ∧ c ≤ 6 ∧ 1 ≤ d ∧ d ≤ 6) ∨ (k = 7 ∧ c = 0 ∧ d = 0) ∨ k = 8 ∨ k = 2 ∨ k = 3 ∨ k = 4 ∨ k = 5 ∨ k = 6 := by
  unfold opB at h
  simp only [inR] at h
  split at h
  · rename_i e
    simp only [Bool.and_eq_true, decide_eq_true_eq] at h
    exact .inl ⟨e, by omega⟩
  · split at h
    · rename_i e
      simp only [Bool.and_eq_true, decide_eq_true_eq] at h
      exact .inr (.inl ⟨e, by omega⟩)
    · split at h
      · rename_i e
        exact .inr (.inr (.inl e))
      · simp only [Bool.and_eq_true, decide_eq_true_eq] at h
        exact .inr (.inr (.inr (by omega)))
/-- A list of operations that a call answers beside whether it is one. -/
def Gave (r : Option (List Op)) (w : World) (e : Ending) (w' : World) : Prop :=
  ∃ A c, e = .returned (.tuple #[.slice A (r.getD []).length c, .bool r.isSome]) ∧ (r.getD []).length ≤ c ∧ opE.Has w' w'.heap.size A (r.getD []) ∧ Below w.heap.size w w'
theorem gave_none {w w' : World} {e : Ending} {A : Option Addr} {c : Nat} (r : Option (List Op)) (hr : r.getD [] = []) (he : e = .returned (.tuple #[.slice A 0 c, .bool r.isSome])) (hb : Below w.heap.size w w') : Gave r w e w' :=
  ⟨A, c, by rw [hr]; exact he, by rw [hr]; exact Nat.zero_le _, by rw [hr]; exact El.Has.nil, hb⟩
theorem has_one (w : World) (o : Op) : opE.Has (w.alloc (.cells o.cells.toArray 49)) (w.alloc (.cells o.cells.toArray 49)).heap.size (some ⟨w.heap.size, 0, none⟩) [o] := by
  refine .inr ⟨w.heap.size, 0, rfl, by simp, ?_⟩
  intro i x hx k u hu
  have hB := Box.new w o.cells.toArray 49
  match i, hx with
  | 0, hx =>
    obtain rfl := Option.some.inj hx
    rw [Nat.zero_mul, Nat.add_zero, Nat.zero_add]
    exact hB.cell (by rw [List.getElem?_toArray]; exact hu)
theorem gave_one {w w1 w' : World} {e : Ending} {g : Nat} (o : Op) (he : e = .returned (.tuple #[.slice (some ⟨g, 0, none⟩) 1 1, .bool true])) (hw : w' = w1.alloc (.cells o.cells.toArray 49)) (hg : g = w1.heap.size) (hb : Below w.heap.size w w') : Gave (some [o]) w e w' := by
  subst hg hw
  exact ⟨_, _, he, Nat.le_refl _, has_one _ _, hb⟩
set_option maxHeartbeats 2000000 in
theorem l6Pair_any (x y : Op) (hx : opB x = true) (hy : opB y = true) (w : World) : Calls Tryd.prog 79 #[x.v, y.v] w (Gave (pairR x y) w) := by
  obtain ⟨k, a, b, c, d⟩ := x
  obtain ⟨k', a', b', c', d'⟩ := y
  show Calls Tryd.prog 79 #[.agg #[.int .i64 k, .int .i64 a, .int .i64 b, .int .i64 c, .int .i64 d], .agg #[.int .i64 k', .int .i64 a', .int .i64 b', .int .i64 c', .int .i64 d']] w _
  have hX := op_lim hx
  have hY := op_lim hy
  have HB := Lib.hid (Below.refl w.heap.size w)
  by_cases hk : k = k'
  · subst hk
    clear hx hy
    rcases hX with h | h | h | h | h | h | h | h
    · obtain ⟨rfl, q1, q2, q3, q4, q5, q6, q7, q8⟩ := h
      obtain ⟨p1, p2, p3, p4, p5, p6, p7, p8⟩ : 0 ≤ a' ∧ a' ≤ 5 ∧ 0 ≤ b' ∧ b' ≤ 5 ∧ 1 ≤ c' ∧ c' ≤ 6 ∧ 1 ≤ d' ∧ d' ≤ 6 := by omega
      clear hY
      obtain ⟨s1, hs1⟩ : ∃ s, a' + c' = s := ⟨_, rfl⟩
      obtain ⟨s2, hs2⟩ : ∃ s, b' + d' = s := ⟨_, rfl⟩
      obtain ⟨s3, hs3⟩ : ∃ s, a + a' = s := ⟨_, rfl⟩
      obtain ⟨s4, hs4⟩ : ∃ s, b + b' = s := ⟨_, rfl⟩
      have hp : pairR ⟨1, a, b, c, d⟩ ⟨1, a', b', c', d'⟩ = if s1 ≤ c ∧ s2 ≤ d ∧ s3 < 6 ∧ s4 < 6 then some [⟨1, s3, s4, c', d'⟩] else none := by
        unfold pairR
        simp only [hs1, hs2, hs3, hs4]
        simp
      rw [hp]
      have u1 : 0 ≤ s1 ∧ s1 ≤ 11 := by omega
      have u2 : 0 ≤ s2 ∧ s2 ≤ 11 := by omega
      have u3 : 0 ≤ s3 ∧ s3 ≤ 11 := by omega
      have u4 : 0 ≤ s4 ∧ s4 ≤ 11 := by omega
      have v1 := IntWalk.i64_in s1 (by omega)
      have v2 := IntWalk.i64_in s2 (by omega)
      have v3 := IntWalk.i64_in s3 (by omega)
      have v4 := IntWalk.i64_in s4 (by omega)
      clear hp q1 q2 q3 q4 q5 q6 q7 q8 p1 p2 p3 p4 p5 p6 p7 p8
      by_cases h0 : s1 ≤ c
      · skip
        by_cases h1 : s2 ≤ d
        · skip
          by_cases h2 : s3 < 6
          · skip
            by_cases h3 : s4 < 6
            · rw [if_pos ⟨h0, h1, h2, h3⟩]
              go_enter Tryd.func79, Tryd.ntmps79
              go_wp2_with fail
              go_ret2
              exact gave_one ⟨1, s3, s4, c', d'⟩ rfl rfl (by simp) (((HB.out.alloc (Nat.le_refl _) _).alloc (by simp <;> omega) _).alloc (by simp <;> omega) _)
            · rw [if_neg (fun h => h3 h.2.2.2)]
              go_enter Tryd.func79, Tryd.ntmps79
              go_wp2_with fail
              go_ret2
              exact gave_none (none) rfl rfl (((HB.out.alloc (Nat.le_refl _) _).alloc (by simp <;> omega) _).alloc (by simp <;> omega) _)
          · rw [if_neg (fun h => h2 h.2.2.1)]
            go_enter Tryd.func79, Tryd.ntmps79
            go_wp2_with fail
            go_ret2
            exact gave_none (none) rfl rfl (((HB.out.alloc (Nat.le_refl _) _).alloc (by simp <;> omega) _).alloc (by simp <;> omega) _)
        · rw [if_neg (fun h => h1 h.2.1)]
          go_enter Tryd.func79, Tryd.ntmps79
          go_wp2_with fail
          go_ret2
          exact gave_none (none) rfl rfl (((HB.out.alloc (Nat.le_refl _) _).alloc (by simp <;> omega) _).alloc (by simp <;> omega) _)
      · rw [if_neg (fun h => h0 h.1)]
        go_enter Tryd.func79, Tryd.ntmps79
        go_wp2_with fail
        go_ret2
        exact gave_none (none) rfl rfl (((HB.out.alloc (Nat.le_refl _) _).alloc (by simp <;> omega) _).alloc (by simp <;> omega) _)
    · obtain ⟨rfl, rfl, rfl⟩ := h
      obtain ⟨rfl, rfl⟩ : c' = 0 ∧ d' = 0 := by omega
      clear hY
      by_cases h1 : a = a'
      · subst h1
        by_cases h2 : b = b'
        · subst h2
          rw [show pairR ⟨7, a, b, 0, 0⟩ ⟨7, a, b, 0, 0⟩ = some [⟨7, a, b, 0, 0⟩] by simp [pairR]]
          go_enter Tryd.func79, Tryd.ntmps79
          go_wp2_with fail
          go_ret2
          exact gave_one ⟨7, a, b, 0, 0⟩ rfl rfl (by simp) (((HB.out.alloc (Nat.le_refl _) _).alloc (by simp <;> omega) _).alloc (by simp <;> omega) _)
        · rw [show pairR ⟨7, a, b, 0, 0⟩ ⟨7, a, b', 0, 0⟩ = none by simp [pairR, h2]]
          have e2 : (b == b') = false := beq_eq_false_iff_ne.2 h2
          go_enter Tryd.func79, Tryd.ntmps79
          go_wp2_with fail
          go_ret2
          exact gave_none (none) rfl rfl (((HB.out.alloc (Nat.le_refl _) _).alloc (by simp <;> omega) _).alloc (by simp <;> omega) _)
      · rw [show pairR ⟨7, a, b, 0, 0⟩ ⟨7, a', b', 0, 0⟩ = none by simp [pairR, h1]]
        have e2 : (a == a') = false := beq_eq_false_iff_ne.2 h1
        go_enter Tryd.func79, Tryd.ntmps79
        go_wp2_with fail
        go_ret2
        exact gave_none (none) rfl rfl (((HB.out.alloc (Nat.le_refl _) _).alloc (by simp <;> omega) _).alloc (by simp <;> omega) _)
    · subst h
      clear hY
      rw [show pairR ⟨8, a, b, c, d⟩ ⟨8, a', b', c', d'⟩ = some [⟨8, a, b, c, d⟩] by simp [pairR]]
      go_enter Tryd.func79, Tryd.ntmps79
      go_wp2_with fail
      go_ret2
      exact gave_one ⟨8, a, b, c, d⟩ rfl rfl (by simp) (((HB.out.alloc (Nat.le_refl _) _).alloc (by simp <;> omega) _).alloc (by simp <;> omega) _)
    · subst h
      clear hY
      rw [show pairR ⟨2, a, b, c, d⟩ ⟨2, a', b', c', d'⟩ = some [] by simp [pairR]]
      go_enter Tryd.func79, Tryd.ntmps79
      go_wp2_with fail
      go_ret2
      exact gave_none (some []) rfl rfl (((HB.out.alloc (Nat.le_refl _) _).alloc (by simp <;> omega) _).alloc (by simp <;> omega) _)
    · subst h
      clear hY
      rw [show pairR ⟨3, a, b, c, d⟩ ⟨3, a', b', c', d'⟩ = some [] by simp [pairR]]
      go_enter Tryd.func79, Tryd.ntmps79
      go_wp2_with fail
      go_ret2
      exact gave_none (some []) rfl rfl (((HB.out.alloc (Nat.le_refl _) _).alloc (by simp <;> omega) _).alloc (by simp <;> omega) _)
    · subst h
      clear hY
      rw [show pairR ⟨4, a, b, c, d⟩ ⟨4, a', b', c', d'⟩ = none by simp [pairR]]
      go_enter Tryd.func79, Tryd.ntmps79
      go_wp2_with fail
      go_ret2
      exact gave_none (none) rfl rfl (((HB.out.alloc (Nat.le_refl _) _).alloc (by simp <;> omega) _).alloc (by simp <;> omega) _)
    · subst h
      clear hY
      rw [show pairR ⟨5, a, b, c, d⟩ ⟨5, a', b', c', d'⟩ = some [⟨5, a, b, c, d⟩] by simp [pairR]]
      go_enter Tryd.func79, Tryd.ntmps79
      go_wp2_with fail
      go_ret2
      exact gave_one ⟨5, a, b, c, d⟩ rfl rfl (by simp) (((HB.out.alloc (Nat.le_refl _) _).alloc (by simp <;> omega) _).alloc (by simp <;> omega) _)
    · subst h
      clear hY
      rw [show pairR ⟨6, a, b, c, d⟩ ⟨6, a', b', c', d'⟩ = none by simp [pairR]]
      go_enter Tryd.func79, Tryd.ntmps79
      go_wp2_with fail
      go_ret2
      exact gave_none (none) rfl rfl (((HB.out.alloc (Nat.le_refl _) _).alloc (by simp <;> omega) _).alloc (by simp <;> omega) _)
  · have hr : pairR ⟨k, a, b, c, d⟩ ⟨k', a', b', c', d'⟩ = none := by unfold pairR; rw [if_pos hk]
    rw [hr]
    have e1 : (k != k') = true := bne_iff_ne.2 hk
    clear hX hY hk hr hx hy
    go_enter Tryd.func79, Tryd.ntmps79
    go_wp2_with fail
    go_ret2
    exact gave_none none rfl rfl (((HB.out.alloc (Nat.le_refl _) _).alloc (by simp <;> omega) _).alloc (by simp <;> omega) _)
end Go.Proofs.YtiemlakjallphabDoor
