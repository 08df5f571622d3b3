/-
  Appending pixels to a slice of the call's own. No condition but the length.
-/
import Derived.Test.YtiemlakjallphabDoorPix
namespace Go.Proofs.YtiemlakjallphabDoor
set_option maxRecDepth 4000
open Go.RowKit

/-- 'append(v, p)' of one pixel, v the call's own. -/
theorem wpList_pushP {w : World} {ops : Array Oper} {rest : List Oper} {o : Oper} {a : Act} {Q : Exit → Act → World → Prop} (hgd : o.guard = none) (s x : Operand)
    (ho : o.op = .call { callee := .builtin .append, args := #[s, x], argTypes := #[28, 28] })
    (base : Nat) (v : Value) (l : List Px) (hs : a.eval s = v) (hown : OwnP w base v l) (p : Px) (H : Nat) (hH : w.heap.size = H)
    (hx : a.eval x = .slice (some ⟨H, 0, none⟩) 1 1) (hb : l.length + 1 ≤ 1073741824) (hbase : base ≤ w.heap.size)
    (h : ∀ g cap w', OwnP w' base (.slice (some ⟨g, 0, none⟩) (l.length + 1) cap) (l ++ [p]) → (w.alloc (.cells #[.int .i64 p.r, .int .i64 p.g, .int .i64 p.b, .int .i64 p.a] 62)).grownBy w' v.ownBlock → (v.ownBlock = some g ∨ g = H + 1) → wpList Tryd.prog ops Q rest (a.put o.dst (.slice (some ⟨g, 0, none⟩) (l.length + 1) cap)) w') :
    wpList Tryd.prog ops Q (o :: rest) a (w.alloc (.cells #[.int .i64 p.r, .int .i64 p.g, .int .i64 p.b, .int .i64 p.a] 62)) := by
  obtain ⟨i0, hi, hz0, hz1, hz2⟩ := info_parts infoP
  refine wpList_append_lies _ hgd s x 28 ho base 62 i0 (.agg #[.int .i64 0, .int .i64 0, .int .i64 0, .int .i64 0]) 4 32 Tryd.underlying28 hi hz0 hz1 hz2 rfl (by omega) v l.length (flatP l) hs (World.ownsRow.alloc hown _) ⟨H, 0, none⟩ 1 1 (flatP [p]) hx (by rw [flatP_length]; rfl) ?_ (flatP_one _) (by omega) (by unfold maxLen; omega) (by omega) (by simp; omega) (H + 1) (by simp [hH]) ?_
  · intro j u hu
    subst hH
    match j, hu with
    | 0, hu =>
      simp [flatP, Px.cells] at hu
      subst hu
      exact World.news_of_block (heap_alloc_new w _) 0 _ rfl
    | 1, hu =>
      simp [flatP, Px.cells] at hu
      subst hu
      exact World.news_of_block (heap_alloc_new w _) 1 _ rfl
    | 2, hu =>
      simp [flatP, Px.cells] at hu
      subst hu
      exact World.news_of_block (heap_alloc_new w _) 2 _ rfl
    | 3, hu =>
      simp [flatP, Px.cells] at hu
      subst hu
      exact World.news_of_block (heap_alloc_new w _) 3 _ rfl
  · intro g cap w' h1 h2 h3 _
    refine h g cap w' ?_ h2 h3
    unfold OwnP
    rw [List.length_append, flatP_append]
    exact h1
/-- 'append(v, nothing...)' where the source is nil, whatever its capacity is said to be. -/
theorem wpList_pushP_nil {w : World} {ops : Array Oper} {rest : List Oper} {o : Oper} {a : Act} {Q : Exit → Act → World → Prop} (hgd : o.guard = none) (s x : Operand)
    (ho : o.op = .call { callee := .builtin .append, args := #[s, x], argTypes := #[28, 28] })
    (base : Nat) (v : Value) (l : List Px) (hs : a.eval s = v) (hown : OwnP w base v l) (c : Nat) (hx : a.eval x = .slice none 0 c)
    (h : wpList Tryd.prog ops Q rest (a.put o.dst v) w) : wpList Tryd.prog ops Q (o :: rest) a w := by
  obtain ⟨i0, hi, hz0, hz1, hz2⟩ := info_parts infoP
  have hrun : (Builtin.append_ #[28, 28] o.type #[v, .slice none 0 c]).run Tryd.prog w = .ok v w := by
    rcases hown.2 with ⟨rfl, _⟩ | ⟨g, cap, cur, rfl, _, _, hnc, _⟩
    · simp [Builtin.append_, run_underlying Tryd.underlying28, sizeOf, typeInfo, hi, Builtin.lenOf, Builtin.firstCells]
    · simp [Builtin.append_, run_underlying Tryd.underlying28, sizeOf, typeInfo, hi, Builtin.lenOf, Builtin.firstCells, hnc, storeCells]
  refine wpList_plain hgd fun K hK => ?_
  unfold Oper.wp
  simp [execOp, ho, resolve, invoke, builtin, hs, hx, hrun, Result.andThen]
  exact hK _ _ h
/-- 'append(v, m...)' of pixels that are read, v the call's own. -/
theorem wpList_pushAllP {w : World} {ops : Array Oper} {rest : List Oper} {o : Oper} {a : Act} {Q : Exit → Act → World → Prop} (hgd : o.guard = none) (s x : Operand)
    (ho : o.op = .call { callee := .builtin .append, args := #[s, x], argTypes := #[28, 28] })
    (base : Nat) (v : Value) (l : List Px) (hs : a.eval s = v) (hown : OwnP w base v l) (B : Nat) (A : Option Addr) (c : Nat) (m : List Px)
    (hx : a.eval x = .slice A m.length c) (hm : HasP w B A m) (hb : l.length + m.length ≤ 1073741824) (hbase : base ≤ w.heap.size)
    (h : ∀ v' w', OwnP w' base v' (l ++ m) → w.grownBy w' v.ownBlock → wpList Tryd.prog ops Q rest (a.put o.dst v') w') :
    wpList Tryd.prog ops Q (o :: rest) a w := by
  obtain ⟨i0, hi, hz0, hz1, hz2⟩ := info_parts infoP
  cases A with
  | none =>
    have hm0 : m = [] := by
      rcases hm with hm | ⟨b, o, e, _⟩
      · exact hm
      · cases e
    subst hm0
    refine wpList_pushP_nil hgd s x ho base v l hs hown c hx ?_
    exact h v w (by rw [List.append_nil]; exact hown) (World.grownBy.refl _ _)
  | some ad =>
    refine wpList_append_own w hgd s x 28 ho base 62 i0 (.agg #[.int .i64 0, .int .i64 0, .int .i64 0, .int .i64 0]) 4 32 Tryd.underlying28 hi hz0 hz1 hz2 rfl (by omega) v l.length (flatP l) hs hown ad m.length c (flatP m) hx (flatP_length m) ?_ (flatP_one _) (by unfold maxLen; omega) (by omega) hbase ?_
    · intro j u hu
      rcases hm with rfl | ⟨b, o, e, _, hc⟩
      · simp [flatP_nil] at hu
      · injection e with e
        subst e
        rw [plain_add]
        have hj : j < m.length * 4 := by have := (List.getElem?_eq_some_iff.1 hu).1; rw [flatP_length] at this; exact this
        obtain ⟨p, hp⟩ : ∃ p, m[j / 4]? = some p := ⟨_, List.getElem?_eq_getElem (by omega)⟩
        obtain ⟨f0, f1, f2, f3⟩ := flatP_at m (j / 4) p hp
        obtain ⟨c0, c1, c2, c3⟩ := hc (j / 4) p hp
        have hm4 : j % 4 = 0 ∨ j % 4 = 1 ∨ j % 4 = 2 ∨ j % 4 = 3 := by omega
        rcases hm4 with h4 | h4 | h4 | h4
        · rw [show o + j = o + j / 4 * 4 from by omega, c0, ← f0, show j / 4 * 4 = j from by omega]
          exact hu
        · rw [show o + j = o + j / 4 * 4 + 1 from by omega, c1, ← f1, show j / 4 * 4 + 1 = j from by omega]
          exact hu
        · rw [show o + j = o + j / 4 * 4 + 2 from by omega, c2, ← f2, show j / 4 * 4 + 2 = j from by omega]
          exact hu
        · rw [show o + j = o + j / 4 * 4 + 3 from by omega, c3, ← f3, show j / 4 * 4 + 3 = j from by omega]
          exact hu
    · intro v' w' h1 h2 _
      refine h v' w' ?_ h2
      unfold OwnP
      rw [List.length_append, flatP_append]
      exact h1
theorem news_of_hasP {w : World} {B : Nat} {ad : Addr} {m : List Px} (hm : HasP w B (some ad) m) : ∀ (j : Nat) (u : Value), (flatP m)[j]? = some u → w.cell? (ad.add j) = some u := by
  intro j u hu
  rcases hm with rfl | ⟨b, o, e, _, hc⟩
  · simp [flatP_nil] at hu
  · injection e with e
    subst e
    rw [plain_add]
    have hj : j < m.length * 4 := by have := (List.getElem?_eq_some_iff.1 hu).1; rw [flatP_length] at this; exact this
    obtain ⟨p, hp⟩ : ∃ p, m[j / 4]? = some p := ⟨_, List.getElem?_eq_getElem (by omega)⟩
    obtain ⟨f0, f1, f2, f3⟩ := flatP_at m (j / 4) p hp
    obtain ⟨c0, c1, c2, c3⟩ := hc (j / 4) p hp
    have hm4 : j % 4 = 0 ∨ j % 4 = 1 ∨ j % 4 = 2 ∨ j % 4 = 3 := by omega
    rcases hm4 with h4 | h4 | h4 | h4
    · rw [show o + j = o + j / 4 * 4 from by omega, c0, ← f0, show j / 4 * 4 = j from by omega]
      exact hu
    · rw [show o + j = o + j / 4 * 4 + 1 from by omega, c1, ← f1, show j / 4 * 4 + 1 = j from by omega]
      exact hu
    · rw [show o + j = o + j / 4 * 4 + 2 from by omega, c2, ← f2, show j / 4 * 4 + 2 = j from by omega]
      exact hu
    · rw [show o + j = o + j / 4 * 4 + 3 from by omega, c3, ← f3, show j / 4 * 4 + 3 = j from by omega]
      exact hu
/-- 'append(v, m...)' of pixels that are read, as one step of a region that draws its order. -/
theorem step_pushAllP {w : World} {ops : Array Oper} {o : Oper} {a : Act} {K : Act → World → Prop} {Q : Exit → Act → World → Prop} {E : Prop} (hgd : o.guard = none) (s x : Operand)
    (ho : o.op = .call { callee := .builtin .append, args := #[s, x], argTypes := #[28, 28] })
    (base : Nat) (v : Value) (l : List Px) (hs : a.eval s = v) (hown : OwnP w base v l) (B : Nat) (ad : Addr) (c n : Nat) (m : List Px) (hn : m.length = n)
    (hx : a.eval x = .slice (some ad) n c) (hm : HasP w B (some ad) m) (hb : l.length + m.length ≤ 1073741824) (hbase : base ≤ w.heap.size)
    (h : ∀ v' w', OwnP w' base v' (l ++ m) → w.grownBy w' v.ownBlock → K (a.put o.dst v') w') :
    if Region.wanted o (yielded ops a.tmps) = true then Oper.wp Tryd.prog o a w K Q else E := by
  subst hn
  obtain ⟨i0, hi, hz0, hz1, hz2⟩ := info_parts infoP
  have hw : Region.wanted o (yielded ops a.tmps) = true := by simp [Region.wanted, hgd]
  rw [if_pos hw]
  obtain ⟨v', w', hrun, r1, r2, _⟩ := run_append_own (P := Tryd.prog) w base 28 o.type 62 i0 (.agg #[.int .i64 0, .int .i64 0, .int .i64 0, .int .i64 0]) 4 32 Tryd.underlying28 hi hz0 hz1 hz2 rfl (by omega) v l.length (flatP l) hown ad m.length c (flatP m) (flatP_length m) (news_of_hasP hm) (flatP_one _) (by unfold maxLen; omega) (by omega) hbase
  unfold Oper.wp
  simp [execOp, ho, resolve, invoke, builtin, hs, hx, hrun, Result.andThen]
  refine h v' w' ?_ r2
  unfold OwnP
  rw [List.length_append, flatP_append]
  exact r1
/-- 'append(v, p)' of one pixel, as one step of a region that draws its order. -/
theorem step_pushP {w : World} {ops : Array Oper} {o : Oper} {a : Act} {K : Act → World → Prop} {Q : Exit → Act → World → Prop} {E : Prop} (hgd : o.guard = none) (s x : Operand)
    (ho : o.op = .call { callee := .builtin .append, args := #[s, x], argTypes := #[28, 28] })
    (base : Nat) (v : Value) (l : List Px) (hs : a.eval s = v) (hown : OwnP w base v l) (p : Px) (ad : Addr)
    (hx : a.eval x = .slice (some ad) 1 1) (hnews : ∀ j u, (flatP [p])[j]? = some u → w.cell? (ad.add j) = some u) (hb : l.length + 1 ≤ 1073741824) (hbase : base ≤ w.heap.size)
    (h : ∀ g cap w', OwnP w' base (.slice (some ⟨g, 0, none⟩) (l.length + 1) cap) (l ++ [p]) → w.grownBy w' v.ownBlock → K (a.put o.dst (.slice (some ⟨g, 0, none⟩) (l.length + 1) cap)) w') :
    if Region.wanted o (yielded ops a.tmps) = true then Oper.wp Tryd.prog o a w K Q else E := by
  obtain ⟨i0, hi, hz0, hz1, hz2⟩ := info_parts infoP
  refine step_append_lies w hgd s x 28 ho base 62 i0 (.agg #[.int .i64 0, .int .i64 0, .int .i64 0, .int .i64 0]) 4 32 Tryd.underlying28 hi hz0 hz1 hz2 rfl (by omega) v l.length (flatP l) hs hown ad 1 1 (flatP [p]) hx (by rw [flatP_length]; rfl) hnews (flatP_one _) (by omega) (by unfold maxLen; omega) (by omega) hbase _ rfl ?_
  intro g cap w' h1 h2 _ _
  refine h g cap w' ?_ h2
  unfold OwnP
  rw [List.length_append, flatP_append]
  exact h1
theorem laid_px (w : World) (p : Px) (t : TypeId) (j : Nat) (u : Value) (hu : (flatP [p])[j]? = some u) : (w.alloc (.cells #[.int .i64 p.r, .int .i64 p.g, .int .i64 p.b, .int .i64 p.a] t)).cell? ((⟨w.heap.size, 0, none⟩ : Addr).add j) = some u := by
  match j, hu with
  | 0, hu =>
    simp [flatP, Px.cells] at hu
    subst hu
    exact World.news_of_block (heap_alloc_new w _) 0 _ rfl
  | 1, hu =>
    simp [flatP, Px.cells] at hu
    subst hu
    exact World.news_of_block (heap_alloc_new w _) 1 _ rfl
  | 2, hu =>
    simp [flatP, Px.cells] at hu
    subst hu
    exact World.news_of_block (heap_alloc_new w _) 2 _ rfl
  | 3, hu =>
    simp [flatP, Px.cells] at hu
    subst hu
    exact World.news_of_block (heap_alloc_new w _) 3 _ rfl
theorem ownP_empty {w : World} {base : Nat} (h : base ≤ w.heap.size) : OwnP (w.alloc (.cells #[] 62)) base (.slice (some ⟨w.heap.size, 0, none⟩) 0 0) [] :=
  World.ownsRow_made w #[] 0 h (by unfold maxLen; omega) rfl
theorem ownP_nil (w : World) (base : Nat) : OwnP w base (.slice none 0 0) [] := World.ownsRow_nil _ _ _ _
end Go.Proofs.YtiemlakjallphabDoor
