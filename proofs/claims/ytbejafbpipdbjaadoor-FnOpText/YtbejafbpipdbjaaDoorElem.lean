/-
  Words for slices of any kind of element: a slice that reads as a list, a row that the call owns, a block that holds known cells. Plain definitions and lemmas; no condition.
-/
import Derived.Test.YtbejafbpipdbjaaDoorPush
namespace Go.Proofs.YtbejafbpipdbjaaDoor
set_option maxRecDepth 4000
open Go.RowKit

/-- A kind of element: its type, its cells. -/
structure El (α : Type) where
  t : TypeId
  n : Nat
  bytes : Nat
  z : Value
  cells : α → List Value
  len : ∀ x, (cells x).length = n
  one : ∀ x, ∀ u ∈ cells x, u.oneCell' = true
  pos : 0 < n
  small : bytes ≤ 1024
  zlen : z.cells.size = n
  info : (Tryd.prog.info? t).map (fun i => (i.zero, i.size, i.bytes)) = some (some z, n, bytes)
section
variable {α : Type} (E : El α)
/-- The cells of a list. -/
def El.flat (l : List α) : List Value := l.flatMap E.cells
theorem El.flat_nil : E.flat [] = [] := rfl
theorem El.flat_cons (x : α) (l : List α) : E.flat (x :: l) = E.cells x ++ E.flat l := by simp [El.flat]
theorem El.flat_append (l m : List α) : E.flat (l ++ m) = E.flat l ++ E.flat m := by simp [El.flat]
theorem El.flat_length (l : List α) : (E.flat l).length = l.length * E.n := by
  induction l with
  | nil => simp [El.flat]
  | cons p l ih => rw [El.flat_cons, List.length_append, ih, E.len, List.length_cons, Nat.add_mul]; omega
theorem El.flat_one (l : List α) : ∀ u ∈ E.flat l, u.oneCell' = true := by
  intro u hu
  obtain ⟨p, _, hp⟩ := List.mem_flatMap.1 hu
  exact E.one p u hp
theorem El.flat_of {l : List α} {j : Nat} {u : Value} (h : (E.flat l)[j]? = some u) : ∃ i k x, j = i * E.n + k ∧ k < E.n ∧ l[i]? = some x ∧ (E.cells x)[k]? = some u := by
  induction l generalizing j with
  | nil => simp [El.flat] at h
  | cons p l ih =>
    rw [El.flat_cons] at h
    by_cases hj : j < E.n
    · rw [List.getElem?_append_left (by rw [E.len]; exact hj)] at h
      exact ⟨0, j, p, by simp, hj, rfl, h⟩
    · rw [List.getElem?_append_right (by rw [E.len]; omega), E.len] at h
      obtain ⟨i, k, x, e, hk, hx, hu⟩ := ih h
      exact ⟨i + 1, k, x, by rw [Nat.add_mul]; omega, hk, by simpa using hx, hu⟩
theorem El.flat_at {l : List α} {i k : Nat} {x : α} {u : Value} (hx : l[i]? = some x) (hu : (E.cells x)[k]? = some u) : (E.flat l)[i * E.n + k]? = some u := by
  induction l generalizing i with
  | nil => simp at hx
  | cons p l ih =>
    have hk : k < E.n := by rw [← E.len x]; exact (List.getElem?_eq_some_iff.1 hu).1
    rw [El.flat_cons]
    cases i with
    | zero =>
      simp only [List.getElem?_cons_zero, Option.some.injEq] at hx
      subst hx
      rw [Nat.zero_mul, Nat.zero_add, List.getElem?_append_left (by rw [E.len]; exact hk)]
      exact hu
    | succ i =>
      rw [List.getElem?_append_right (by rw [E.len, Nat.add_mul]; omega), E.len, show (i + 1) * E.n + k - E.n = i * E.n + k from by rw [Nat.add_mul]; omega]
      exact ih (by simpa using hx)
/-- The slice that begins at A and is as long as l holds l, in a block below B. -/
def El.Has (w : World) (B : Nat) (A : Option Addr) (l : List α) : Prop :=
  l = [] ∨ ∃ b o, A = some ⟨b, o, none⟩ ∧ b < B ∧ ∀ (i : Nat) (x : α), l[i]? = some x → ∀ (k : Nat) (u : Value), (E.cells x)[k]? = some u → w.cell? ⟨b, o + i * E.n + k, none⟩ = some u
/-- The slice value v is the call's own and holds l. -/
def El.Own (w : World) (base : Nat) (v : Value) (l : List α) : Prop := w.ownsRow base E.t E.n v l.length (E.flat l)
end
section
variable {α : Type} {E : El α} {w w' : World} {B B' base b o : Nat} {A : Option Addr} {l : List α} {v : Value}
theorem El.Has.spot (h : E.Has w B A l) {k : Nat} (hk : k < l.length) : ∃ b o x, A = some ⟨b, o, none⟩ ∧ b < B ∧ l[k]? = some x ∧ ∀ (j : Nat) (u : Value), (E.cells x)[j]? = some u → w.cell? ⟨b, o + k * E.n + j, none⟩ = some u := by
  rcases h with rfl | ⟨b, o, rfl, hb, hc⟩
  · simp at hk
  · exact ⟨b, o, l[k], rfl, hb, List.getElem?_eq_getElem hk, hc k _ (List.getElem?_eq_getElem hk)⟩
theorem El.Has.at (h : E.Has w B (some ⟨b, o, none⟩) l) {i : Nat} {x : α} (hx : l[i]? = some x) {k : Nat} {u : Value} (hu : (E.cells x)[k]? = some u) : w.cell? ⟨b, o + i * E.n + k, none⟩ = some u := by
  rcases h with rfl | ⟨b', o', e, hb, hc⟩
  · simp at hx
  · injection e with e
    injection e with e1 e2 _
    subst e1 e2
    exact hc i x hx k u hu
theorem El.Has.kept (h : E.Has w B A l) (hk : ∀ p : Addr, p.block < B → w'.cell? p = w.cell? p) : E.Has w' B A l := by
  rcases h with rfl | ⟨b, o, rfl, hb, hc⟩
  · exact .inl rfl
  · exact .inr ⟨b, o, rfl, hb, fun i x hx k u hu => (hk ⟨b, o + i * E.n + k, none⟩ hb).trans (hc i x hx k u hu)⟩
theorem El.Has.wider (h : E.Has w B A l) (hB : B ≤ B') : E.Has w B' A l := by
  rcases h with rfl | ⟨b, o, rfl, hb, hc⟩
  · exact .inl rfl
  · exact .inr ⟨b, o, rfl, by omega, hc⟩
theorem El.Has.below (h : E.Has w B A l) (hb : Below B w w') : E.Has w' B A l := h.kept fun _ hp => hb.cell hp
theorem El.Has.carry (h : E.Has w B A l) {C : Nat} (hb : Below C w w') (hB : B ≤ C) (hC : C ≤ w'.heap.size) : E.Has w' w'.heap.size A l :=
  (h.kept (w' := w') fun _ hp => hb.cell (Nat.lt_of_lt_of_le hp hB)).wider (Nat.le_trans hB hC)
theorem El.Has.drewN (h : E.Has w B A l) (n : Nat) : E.Has (w.drewN n) B A l := h
theorem El.Has.nil : E.Has w B A [] := .inl rfl
theorem El.Has.dropAt (h : E.Has w B (some ⟨b, o, none⟩) l) (n : Nat) : E.Has w B (some ⟨b, o + n * E.n, none⟩) (l.drop n) := by
  rcases h with rfl | ⟨b', o', e, hb, hc⟩
  · exact .inl (by simp)
  · injection e with e
    injection e with e1 e2 _
    subst e1 e2
    refine .inr ⟨_, _, rfl, hb, fun i x hx k u hu => ?_⟩
    rw [List.getElem?_drop] at hx
    have := hc (n + i) x hx k u hu
    rwa [show o + n * E.n + i * E.n = o + (n + i) * E.n from by rw [Nat.add_mul]; omega]
theorem El.Has.takeN (h : E.Has w B A l) (n : Nat) : E.Has w B A (l.take n) := by
  rcases h with rfl | ⟨b, o, rfl, hb, hc⟩
  · exact .inl (by simp)
  · exact .inr ⟨b, o, rfl, hb, fun i x hx => hc i x (by
      rw [List.getElem?_take] at hx
      split at hx
      · exact hx
      · cases hx)⟩
theorem El.Has.news (h : E.Has w B (some ⟨b, o, none⟩) l) : ∀ (j : Nat) (u : Value), (E.flat l)[j]? = some u → w.cell? ((⟨b, o, none⟩ : Addr).add j) = some u := by
  intro j u hu
  obtain ⟨i, k, x, rfl, _, hx, hk⟩ := E.flat_of hu
  rw [plain_add, ← Nat.add_assoc]
  exact h.at hx hk
theorem El.Own.has (h : E.Own w base v l) : ∃ A c, v = .slice A l.length c ∧ l.length ≤ c ∧ E.Has w w.heap.size A l := by
  rcases h.2 with ⟨rfl, hn⟩ | ⟨g, cap, cur, rfl, _, hg, hc, _, _, ht⟩
  · exact ⟨none, 0, by rw [hn], by omega, .inl (List.eq_nil_of_length_eq_zero hn)⟩
  · refine ⟨_, cap, rfl, hc, .inr ⟨g, 0, rfl, (Array.getElem?_eq_some_iff.1 hg).1, fun i x hx k u hu => ?_⟩⟩
    have h2 : w.ownsRow base E.t E.n (.slice (some ⟨g, 0, none⟩) l.length cap) l.length (E.flat l) := h
    have hi : i < l.length := (List.getElem?_eq_some_iff.1 hx).1
    have hk : k < E.n := by rw [← E.len x]; exact (List.getElem?_eq_some_iff.1 hu).1
    have hlt : i * E.n + k < l.length * E.n := by
      have : (i + 1) * E.n ≤ l.length * E.n := Nat.mul_le_mul_right _ hi
      rw [Nat.add_mul] at this
      omega
    rw [Nat.zero_add, h2.cellAt (i * E.n + k) hlt]
    exact E.flat_at hx hu
theorem El.Own.reads {n c : Nat} (h : E.Own w base (.slice A n c) l) : E.Has w w.heap.size A l := by
  obtain ⟨A', c', e, _, hh⟩ := h.has
  injection e with e1 _ _
  rw [e1]
  exact hh
theorem El.Own.len {n c : Nat} (h : E.Own w base (.slice A n c) l) : n = l.length ∧ l.length ≤ c := by
  obtain ⟨A', c', e, hc, hh⟩ := h.has
  injection e with _ e2 e3
  exact ⟨e2, by omega⟩
theorem El.Own.keep (h : E.Own w base v l) {row : Option Nat} (hg : w.grownBy w' row) (hne : v.ownBlock = none ∨ v.ownBlock ≠ row) : E.Own w' base v l := World.ownsRow.kept h hg hne
theorem El.Own.alloc (h : E.Own w base v l) (x : Obj) : E.Own (w.alloc x) base v l := World.ownsRow.alloc h x
theorem El.Own.drewN (h : E.Own w base v l) (n : Nat) : E.Own (w.drewN n) base v l := h
theorem El.Own.below (h : E.Own w base v l) (hb : Below B w w') (hB : w.heap.size ≤ B) : E.Own w' base v l := by
  refine ⟨h.1, ?_⟩
  rcases h.2 with hn | ⟨g, cap, cur, rfl, hg, hh, rest⟩
  · exact .inl hn
  · exact .inr ⟨g, cap, cur, rfl, hg, (hb.block g (Nat.lt_of_lt_of_le (Array.getElem?_eq_some_iff.1 hh).1 hB)).trans hh, rest⟩
theorem El.Own.lower (h : E.Own w base v l) (hb : B ≤ base) : E.Own w B v l := by
  refine ⟨h.1, ?_⟩
  rcases h.2 with hn | ⟨g, cap, cur, rfl, hg, rest⟩
  · exact .inl hn
  · exact .inr ⟨g, cap, cur, rfl, by omega, rest⟩
theorem El.Own.block (h : E.Own w base v l) {q : Nat} (hq : v.ownBlock = some q) : base ≤ q ∧ q < w.heap.size := World.ownsRow.lt h q hq
theorem El.Own.set_low {x : Value} (h : E.Own w base v l) (hb : b < base) (i : Nat) : E.Own (w.setCell ⟨b, i, none⟩ x) base v l := by
  have hg : w.grownBy (w.setCell ⟨b, i, none⟩ x) (some b) := ⟨rfl, rfl, rfl, by simp, fun k _ hne => Below.heap_setCell w _ _ k (fun e => hne (by rw [e]))⟩
  refine World.ownsRow.kept h hg ?_
  cases hv : v.ownBlock with
  | none => exact .inl rfl
  | some q => exact .inr fun e => by have := (World.ownsRow.lt h q hv).1; injection e with e; omega
theorem El.Own.low_grown {r : Nat} (h : E.Own w base v l) (hg : w.grownBy w' (some r)) (hr : r < base) : E.Own w' base v l :=
  h.keep hg (by
    cases hv : v.ownBlock with
    | none => exact .inl rfl
    | some q => exact .inr fun e => by have := (World.ownsRow.lt h q hv).1; injection e with e; omega)
theorem El.own_nil (E : El α) (w : World) (base : Nat) : E.Own w base (.slice none 0 0) [] := World.ownsRow_nil _ _ _ _
theorem El.own_empty (E : El α) {w : World} {base : Nat} (h : base ≤ w.heap.size) : E.Own (w.alloc (.cells #[] E.t)) base (.slice (some ⟨w.heap.size, 0, none⟩) 0 0) [] :=
  World.ownsRow_made w #[] 0 h (by unfold maxLen; omega) (by simp)
/-- What an append to a slice of the call's own leaves is new, or was the call's own. -/
theorem El.Own.below_grown (h : E.Own w base v l) (hg : w.grownBy w' v.ownBlock) (hB : B ≤ base) (hs : B ≤ w.heap.size) : Below B w w' :=
  (Below.refl _ w).grown hg hs fun q hq => Nat.le_trans hB (World.ownsRow.lt h q hq).1
end
section
variable {α : Type} {E : El α}
theorem El.parts (E : El α) : ∃ i, Tryd.prog.info? E.t = some i ∧ i.zero = some E.z ∧ i.size = E.n ∧ i.bytes = E.bytes := by
  have := E.info
  rw [Option.map_eq_some_iff] at this
  obtain ⟨i, hi, e⟩ := this
  simp only [Prod.mk.injEq] at e
  exact ⟨i, hi, e.1, e.2.1, e.2.2⟩
theorem El.bytes_ok (E : El α) {n : Nat} (h : n ≤ 1073741824) : n * E.bytes ≤ 140737488355328 := by
  have h1 : n * E.bytes ≤ 1073741824 * 1024 := Nat.mul_le_mul h E.small
  omega
/-- 'append(v, m...)', v the call's own. -/
theorem El.wpList_append {w : World} {ops : Array Oper} {rest : List Oper} {o : Oper} {a : Act} {Q : Exit → Act → World → Prop} (T : TypeId) (hT : Tryd.prog.underlying T = some (.slice E.t)) (hgd : o.guard = none) (s x : Operand)
    (ho : o.op = .call { callee := .builtin .append, args := #[s, x], argTypes := #[T, T] })
    (base : Nat) (v : Value) (l : List α) (hs : a.eval s = v) (hown : E.Own w base v l) (ad : Addr) (c n : Nat) (m : List α) (hn : m.length = n)
    (hx : a.eval x = .slice (some ad) n c) (hnews : ∀ j u, (E.flat m)[j]? = some u → w.cell? (ad.add j) = some u) (hm : 0 < n) (hb : l.length + n ≤ 1073741824) (hbase : base ≤ w.heap.size) (H : Nat) (hH : w.heap.size = H)
    (h : ∀ g cap w', E.Own w' base (.slice (some ⟨g, 0, none⟩) (l.length + n) cap) (l ++ m) → w.grownBy w' v.ownBlock → (v.ownBlock = some g ∨ g = H) → l.length + n ≤ cap → wpList Tryd.prog ops Q rest (a.put o.dst (.slice (some ⟨g, 0, none⟩) (l.length + n) cap)) w') :
    wpList Tryd.prog ops Q (o :: rest) a w := by
  subst hn
  obtain ⟨i0, hi, hz0, hz1, hz2⟩ := E.parts
  refine wpList_append_lies _ hgd s x T ho base E.t i0 E.z E.n E.bytes hT hi hz0 hz1 hz2 E.zlen E.pos v l.length (E.flat l) hs hown ad m.length c (E.flat m) hx (E.flat_length m) hnews (E.flat_one _) hm (by unfold maxLen; omega) (E.bytes_ok hb) hbase H hH ?_
  intro g cap w' h1 h2 h3 _
  have h4 : E.Own w' base (.slice (some ⟨g, 0, none⟩) (l.length + m.length) cap) (l ++ m) := by
    unfold El.Own
    rw [List.length_append, E.flat_append]
    exact h1
  exact h g cap w' h4 h2 h3 (by have := h4.len.2; rwa [List.length_append] at this)
/-- The same as one step of a region that draws its order. -/
theorem El.step_append {w : World} {ops : Array Oper} {o : Oper} {a : Act} {K : Act → World → Prop} {Q : Exit → Act → World → Prop} {F : Prop} (T : TypeId) (hT : Tryd.prog.underlying T = some (.slice E.t)) (hgd : o.guard = none) (s x : Operand)
    (ho : o.op = .call { callee := .builtin .append, args := #[s, x], argTypes := #[T, T] })
    (base : Nat) (v : Value) (l : List α) (hs : a.eval s = v) (hown : E.Own w base v l) (ad : Addr) (c n : Nat) (m : List α) (hn : m.length = n)
    (hx : a.eval x = .slice (some ad) n c) (hnews : ∀ j u, (E.flat m)[j]? = some u → w.cell? (ad.add j) = some u) (hm : 0 < n) (hb : l.length + n ≤ 1073741824) (hbase : base ≤ w.heap.size) (H : Nat) (hH : w.heap.size = H)
    (h : ∀ g cap w', E.Own w' base (.slice (some ⟨g, 0, none⟩) (l.length + n) cap) (l ++ m) → w.grownBy w' v.ownBlock → (v.ownBlock = some g ∨ g = H) → l.length + n ≤ cap → K (a.put o.dst (.slice (some ⟨g, 0, none⟩) (l.length + n) cap)) w') :
    if Region.wanted o (yielded ops a.tmps) = true then Oper.wp Tryd.prog o a w K Q else F := by
  subst hn
  obtain ⟨i0, hi, hz0, hz1, hz2⟩ := E.parts
  refine step_append_lies w hgd s x T ho base E.t i0 E.z E.n E.bytes hT hi hz0 hz1 hz2 E.zlen E.pos v l.length (E.flat l) hs hown ad m.length c (E.flat m) hx (E.flat_length m) hnews (E.flat_one _) hm (by unfold maxLen; omega) (E.bytes_ok hb) hbase H hH ?_
  intro g cap w' h1 h2 h3 _
  have h4 : E.Own w' base (.slice (some ⟨g, 0, none⟩) (l.length + m.length) cap) (l ++ m) := by
    unfold El.Own
    rw [List.length_append, E.flat_append]
    exact h1
  exact h g cap w' h4 h2 h3 (by have := h4.len.2; rwa [List.length_append] at this)
/-- 'append(v, nothing...)', the source nil or not. -/
theorem El.wpList_append_none {w : World} {ops : Array Oper} {rest : List Oper} {o : Oper} {a : Act} {Q : Exit → Act → World → Prop} (T : TypeId) (hT : Tryd.prog.underlying T = some (.slice E.t)) (hgd : o.guard = none) (s x : Operand)
    (ho : o.op = .call { callee := .builtin .append, args := #[s, x], argTypes := #[T, T] })
    (base : Nat) (v : Value) (l : List α) (hs : a.eval s = v) (hown : E.Own w base v l) (A : Option Addr) (c : Nat) (hx : a.eval x = .slice A 0 c)
    (h : wpList Tryd.prog ops Q rest (a.put o.dst v) w) : wpList Tryd.prog ops Q (o :: rest) a w := by
  obtain ⟨i0, hi, hz0, hz1, hz2⟩ := E.parts
  have hrun : (Builtin.append_ #[T, T] o.type #[v, .slice A 0 c]).run Tryd.prog w = .ok v w := by
    rcases hown.2 with ⟨rfl, _⟩ | ⟨g, cap, cur, rfl, _, _, hnc, _⟩
    · cases A <;> simp [Builtin.append_, run_underlying hT, sizeOf, typeInfo, hi, Builtin.lenOf, Builtin.firstCells, loadCells, loadCellsFrom]
    · cases A <;> simp [Builtin.append_, run_underlying hT, sizeOf, typeInfo, hi, Builtin.lenOf, Builtin.firstCells, hnc, storeCells, loadCells, loadCellsFrom]
  refine wpList_plain hgd fun K hK => ?_
  unfold Oper.wp
  simp [execOp, ho, resolve, invoke, builtin, hs, hx, hrun, Result.andThen]
  exact hK _ _ h
end

/-- A block that holds known cells. -/
def Box (w : World) (g : Nat) (cs : Array Value) (t : TypeId) : Prop := w.heap[g]? = some (.cells cs t (0, 0))
section
variable {w w' : World} {g B : Nat} {cs : Array Value} {t : TypeId}
theorem Box.cell (h : Box w g cs t) {i : Nat} {v : Value} (hv : cs[i]? = some v) : w.cell? ⟨g, i, none⟩ = some v := by rw [cell_of_row w g i _ _ _ h]; exact hv
theorem Box.lt (h : Box w g cs t) : g < w.heap.size := (Array.getElem?_eq_some_iff.1 h).1
theorem Box.below (h : Box w g cs t) (hb : Below B w w') (hg : g < B) : Box w' g cs t := (hb.block g hg).trans h
theorem Box.next (h : Box w g cs t) (hb : Below w.heap.size w w') : Box w' g cs t := h.below hb h.lt
theorem Box.grown {row : Option Nat} (h : Box w g cs t) (hg : w.grownBy w' row) (hne : row ≠ some g) : Box w' g cs t := (hg.block g h.lt (fun e => hne e.symm)).trans h
theorem Box.free (h : Box w g cs t) (i : Nat) : w.frozen? ⟨g, i, none⟩ = false := by unfold Box at h; simp [World.frozen?, h]
theorem Box.set_other (h : Box w g cs t) {b : Nat} (hb : b ≠ g) (i : Nat) (x : Value) : Box (w.setCell ⟨b, i, none⟩ x) g cs t := (Below.heap_setCell w _ _ g (fun e => hb e.symm)).trans h
theorem Box.set (h : Box w g cs t) (i : Nat) (x : Value) : Box (w.setCell ⟨g, i, none⟩ x) g (cs.setIfInBounds i x) t := heap_setCell_same w g i _ _ x h
theorem Box.drewN (h : Box w g cs t) (n : Nat) : Box (w.drewN n) g cs t := h
theorem Box.drew (h : Box w g cs t) : Box w.drew g cs t := h
theorem Box.new (w : World) (cs : Array Value) (t : TypeId) : Box (w.alloc (.cells cs t)) w.heap.size cs t := heap_alloc_new w _
theorem Box.alloc (h : Box w g cs t) (o : Obj) : Box (w.alloc o) g cs t := (Below.heap_alloc w o g h.lt).trans h
theorem Box.news {α : Type} {E : El α} {x : α} (h : Box w g (E.cells x).toArray t) : ∀ (j : Nat) (u : Value), (E.flat [x])[j]? = some u → w.cell? ((⟨g, 0, none⟩ : Addr).add j) = some u := by
  intro j u hu
  refine World.news_of_block h j u ?_
  rw [E.flat_cons, E.flat_nil, List.append_nil] at hu
  simpa using hu
end
end Go.Proofs.YtbejafbpipdbjaaDoor
