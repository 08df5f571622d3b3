/-
  Appending one bit number to a slice of the call's own. No condition but the length.
-/
import Derived.Test.YtnnpjcbdcjdojaaNumsO
namespace Go.Proofs.Ytnnpjcbdcjdojaa
set_option maxRecDepth 4000
open Go.RowKit

theorem flat_one (l : List (Int × Int)) : ∀ u ∈ flat l, u.oneCell' = true := by
  intro u hu
  obtain ⟨p, _, hp⟩ := List.mem_flatMap.1 hu
  simp [nv] at hp
  rcases hp with rfl | rfl <;> rfl
/-- 'append(v, p)' of one number, v the call's own. -/
theorem wpList_pushN {w : World} {ops : Array Oper} {rest : List Oper} {o : Oper} {a : Act} {Q : Exit → Act → World → Prop} (hgd : o.guard = none) (s x : Operand)
    (ho : o.op = .call { callee := .builtin .append, args := #[s, x], argTypes := #[97, 97] })
    (base : Nat) (v : Value) (l : List (Int × Int)) (hs : a.eval s = v) (hown : OwnN w base v l) (n b : Int) (H : Nat) (hH : w.heap.size = H)
    (hx : a.eval x = .slice (some ⟨H, 0, none⟩) 1 1) (hb : l.length + 1 ≤ 1073741824) (hbase : base ≤ w.heap.size)
    (h : ∀ g cap w', OwnN w' base (.slice (some ⟨g, 0, none⟩) (l.length + 1) cap) (l ++ [(n, b)]) → (w.alloc (.cells #[.int .i64 n, .int .i64 b] 100)).grownBy w' v.ownBlock → wpList Try.prog ops Q rest (a.put o.dst (.slice (some ⟨g, 0, none⟩) (l.length + 1) cap)) w') :
    wpList Try.prog ops Q (o :: rest) a (w.alloc (.cells #[.int .i64 n, .int .i64 b] 100)) := by
  obtain ⟨i0, hi, hz0, hz1, hz2⟩ := info_parts infoN
  refine wpList_append_lies _ hgd s x 97 ho base 100 i0 (.agg #[.int .i64 0, .int .i64 0]) 2 16 Try.underlying97 hi hz0 hz1 hz2 rfl (by omega) v l.length (flat l) hs (World.ownsRow.alloc hown _) ⟨H, 0, none⟩ 1 1 (flat [(n, b)]) hx (by rw [flat_length]; rfl) ?_ (flat_one _) (by omega) (by unfold maxLen; omega) (by omega) (by simp; omega) _ rfl ?_
  · intro j u hu
    subst hH
    match j, hu with
    | 0, hu =>
      simp [flat, nv] at hu
      subst hu
      exact World.news_of_block (heap_alloc_new w _) 0 _ rfl
    | 1, hu =>
      simp [flat, nv] at hu
      subst hu
      exact World.news_of_block (heap_alloc_new w _) 1 _ rfl
  · intro g cap w' h1 h2 _ _
    refine h g cap w' ?_ h2
    unfold OwnN
    rw [List.length_append, flat_append]
    exact h1
/-- 'append(v, nothing...)' where the source is nil, whatever its capacity is said to be. -/
theorem wpList_pushN_nil {w : World} {ops : Array Oper} {rest : List Oper} {o : Oper} {a : Act} {Q : Exit → Act → World → Prop} (hgd : o.guard = none) (s x : Operand)
    (ho : o.op = .call { callee := .builtin .append, args := #[s, x], argTypes := #[97, 97] })
    (base : Nat) (v : Value) (l : List (Int × Int)) (hs : a.eval s = v) (hown : OwnN w base v l) (c : Nat) (hx : a.eval x = .slice none 0 c)
    (h : wpList Try.prog ops Q rest (a.put o.dst v) w) : wpList Try.prog ops Q (o :: rest) a w := by
  obtain ⟨i0, hi, hz0, hz1, hz2⟩ := info_parts infoN
  have hrun : (Builtin.append_ #[97, 97] o.type #[v, .slice none 0 c]).run Try.prog w = .ok v w := by
    rcases hown.2 with ⟨rfl, _⟩ | ⟨g, cap, cur, rfl, _, _, hnc, _⟩
    · simp [Builtin.append_, run_underlying Try.underlying97, sizeOf, typeInfo, hi, Builtin.lenOf, Builtin.firstCells]
    · simp [Builtin.append_, run_underlying Try.underlying97, sizeOf, typeInfo, hi, Builtin.lenOf, Builtin.firstCells, hnc, storeCells]
  refine wpList_plain hgd fun K hK => ?_
  unfold Oper.wp
  simp [execOp, ho, resolve, invoke, builtin, hs, hx, hrun, Result.andThen]
  exact hK _ _ h
/-- 'append(v, m...)' of numbers that are read, v the call's own. -/
theorem wpList_pushAllN {w : World} {ops : Array Oper} {rest : List Oper} {o : Oper} {a : Act} {Q : Exit → Act → World → Prop} (hgd : o.guard = none) (s x : Operand)
    (ho : o.op = .call { callee := .builtin .append, args := #[s, x], argTypes := #[97, 97] })
    (base : Nat) (v : Value) (l : List (Int × Int)) (hs : a.eval s = v) (hown : OwnN w base v l) (B : Nat) (A : Option Addr) (c : Nat) (m : List (Int × Int))
    (hx : a.eval x = .slice A m.length c) (hm : HasN w B A m) (hb : l.length + m.length ≤ 1073741824) (hbase : base ≤ w.heap.size)
    (h : ∀ v' w', OwnN w' base v' (l ++ m) → w.grownBy w' v.ownBlock → wpList Try.prog ops Q rest (a.put o.dst v') w') :
    wpList Try.prog ops Q (o :: rest) a w := by
  obtain ⟨i0, hi, hz0, hz1, hz2⟩ := info_parts infoN
  cases A with
  | none =>
    have hm0 : m = [] := by
      rcases hm with hm | ⟨b, o, e, _⟩
      · exact hm
      · cases e
    subst hm0
    refine wpList_pushN_nil hgd s x ho base v l hs hown c hx ?_
    exact h v w (by rw [List.append_nil]; exact hown) (World.grownBy.refl _ _)
  | some ad =>
    refine wpList_append_own w hgd s x 97 ho base 100 i0 (.agg #[.int .i64 0, .int .i64 0]) 2 16 Try.underlying97 hi hz0 hz1 hz2 rfl (by omega) v l.length (flat l) hs hown ad m.length c (flat m) hx (flat_length m) ?_ (flat_one _) (by unfold maxLen; omega) (by omega) hbase ?_
    · intro j u hu
      rcases hm with rfl | ⟨b, o, e, _, hc⟩
      · simp [flat_nil] at hu
      · injection e with e
        subst e
        rw [plain_add]
        have hj : j < m.length * 2 := by have := (List.getElem?_eq_some_iff.1 hu).1; rw [flat_length] at this; exact this
        obtain ⟨p, hp⟩ : ∃ p, m[j / 2]? = some p := ⟨_, List.getElem?_eq_getElem (by omega)⟩
        have hf := flat_at m (j / 2) p hp
        have hc2 := hc (j / 2) p hp
        rcases Nat.mod_two_eq_zero_or_one j with h2 | h2
        · have e2 : j / 2 * 2 = j := by omega
          rw [e2] at hf hc2
          rw [hc2.1, ← hf.1]
          exact hu
        · have e2 : j / 2 * 2 + 1 = j := by omega
          rw [Nat.add_assoc, e2] at hc2
          rw [e2] at hf
          rw [hc2.2, ← hf.2]
          exact hu
    · intro v' w' h1 h2 _
      refine h v' w' ?_ h2
      unfold OwnN
      rw [List.length_append, flat_append]
      exact h1
theorem ownN_empty {w : World} {base : Nat} (h : base ≤ w.heap.size) : OwnN (w.alloc (.cells #[] 100)) base (.slice (some ⟨w.heap.size, 0, none⟩) 0 0) [] :=
  World.ownsRow_made w #[] 0 h (by unfold maxLen; omega) rfl
end Go.Proofs.Ytnnpjcbdcjdojaa
