/-
  Words for slices of byte slices: bytes in a block that is not a given one, a row of slices that the call owns. No condition.
-/
import Derived.Test.YtnnpjcbdcjdojaaPushAll
namespace Go.Proofs.Ytnnpjcbdcjdojaa
set_option maxRecDepth 4000
open Go.RowKit

/-- The bytes l, in a block of bytes that is not X. -/
def HasV (w : World) (X : Option Nat) (A : Option Addr) (l : List UInt8) : Prop :=
  l = [] ∨ ∃ b o cs fr, A = some ⟨b, o, none⟩ ∧ some b ≠ X ∧ w.heap[b]? = some (.cells cs 5 fr) ∧ ∀ (i : Nat) x, l[i]? = some x → w.cell? ⟨b, o + i, none⟩ = some (.int .u8 (x.toNat : Int))
theorem HasV.has {w : World} {X : Option Nat} {A : Option Addr} {l : List UInt8} (h : HasV w X A l) : Has w w.heap.size A l := by
  rcases h with rfl | ⟨b, o, cs, fr, rfl, -, hb, hc⟩
  · exact .inl rfl
  · exact .inr ⟨b, o, rfl, (Array.getElem?_eq_some_iff.1 hb).1, hc⟩
/-- .. stays while its block does. -/
theorem HasV.move {w w' : World} {X X' : Option Nat} {A : Option Addr} {l : List UInt8} (h : HasV w X A l) (hk : ∀ (b : Nat) cs fr, w.heap[b]? = some (.cells cs 5 fr) → some b ≠ X → w'.heap[b]? = w.heap[b]?) (hX : X' = X ∨ X' = none ∨ ∃ q, X' = some q ∧ w.heap.size ≤ q) : HasV w' X' A l := by
  rcases h with rfl | ⟨b, o, cs, fr, rfl, hne, hb, hc⟩
  · exact .inl rfl
  · have e := hk b cs fr hb hne
    refine .inr ⟨b, o, cs, fr, rfl, ?_, e.trans hb, fun i x hx => (World.cell?_of_block (a := ⟨b, o + i, none⟩) e).trans (hc i x hx)⟩
    rcases hX with rfl | rfl | ⟨q, rfl, hq⟩
    · exact hne
    · simp
    · intro e2
      injection e2 with e2
      have := (Array.getElem?_eq_some_iff.1 hb).1
      omega
theorem HasV.below {w w' : World} {X : Option Nat} {A : Option Addr} {l : List UInt8} (h : HasV w X A l) {B : Nat} (hb : Below B w w') (hB : w.heap.size ≤ B) : HasV w' X A l :=
  h.move (fun b _ _ e _ => hb.block b (Nat.lt_of_lt_of_le (Array.getElem?_eq_some_iff.1 e).1 hB)) (.inl rfl)
/-- An owned row of bytes is such. -/
theorem Own.hasV {w : World} {base : Nat} {A : Option Addr} {n c : Nat} {l : List UInt8} {X : Option Nat} (h : Own w base (.slice A n c) l) (hX : (Value.slice A n c).ownBlock ≠ X ∨ X = none) : HasV w X A l := by
  rcases h.2 with ⟨hv, hn⟩ | ⟨g, cap, cur, hv, _, hg, hc, _, _, ht⟩
  · exact .inl (List.eq_nil_of_length_eq_zero hn)
  · injection hv with e1 e2 e3
    subst e1 e2 e3
    refine .inr ⟨g, 0, cur, (0, 0), rfl, ?_, hg, fun i x hx => ?_⟩
    · rcases hX with hX | rfl
      · exact hX
      · simp
    · have hi : i < l.length := (List.getElem?_eq_some_iff.1 hx).1
      rw [Nat.zero_add, World.ownsRow.cellAt h i (by omega)]
      simp [hx, bv]
theorem Has.dropAt {w : World} {B b o : Nat} {l : List UInt8} (h : Has w B (some ⟨b, o, none⟩) l) (k : Nat) : Has w B (some ⟨b, o + k, none⟩) (l.drop k) := by
  rcases h with rfl | ⟨b', o', e, hb, hc⟩
  · exact .inl (by simp)
  · injection e with e
    injection e with e1 e2 _
    subst e1 e2
    refine .inr ⟨b, o + k, rfl, hb, fun i x hx => ?_⟩
    rw [List.getElem?_drop] at hx
    rw [Nat.add_assoc]
    exact hc (k + i) x hx

/-- The slice that begins at A holds slices that hold the bytes m. -/
def HasBB (w : World) (A : Option Addr) (m : List (List UInt8)) : Prop :=
  m = [] ∨ ∃ b o, A = some ⟨b, o, none⟩ ∧ b < w.heap.size ∧ ∀ (i : Nat) x, m[i]? = some x → ∃ A' c', w.cell? ⟨b, o + i, none⟩ = some (.slice A' x.length c') ∧ x.length ≤ c' ∧ Has w w.heap.size A' x
theorem HasBB.spot {w : World} {A : Option Addr} {m : List (List UInt8)} (h : HasBB w A m) {k : Nat} (hk : k < m.length) :
    ∃ b o x A' c', A = some ⟨b, o, none⟩ ∧ b < w.heap.size ∧ m[k]? = some x ∧ w.cell? ⟨b, o + k, none⟩ = some (.slice A' x.length c') ∧ x.length ≤ c' ∧ Has w w.heap.size A' x := by
  rcases h with rfl | ⟨b, o, rfl, hb, hc⟩
  · simp at hk
  · obtain ⟨A', c', h1, h2⟩ := hc k _ (List.getElem?_eq_getElem hk)
    exact ⟨b, o, m[k], A', c', rfl, hb, List.getElem?_eq_getElem hk, h1, h2⟩
theorem HasBB.below {w w' : World} {A : Option Addr} {m : List (List UInt8)} (h : HasBB w A m) (hb : Below w.heap.size w w') : HasBB w' A m := by
  rcases h with rfl | ⟨b, o, rfl, hlt, hc⟩
  · exact .inl rfl
  · refine .inr ⟨b, o, rfl, Nat.lt_of_lt_of_le hlt hb.size, fun i x hx => ?_⟩
    obtain ⟨A', c', h1, h2, h3⟩ := hc i x hx
    exact ⟨A', c', (hb.cell (p := ⟨b, o + i, none⟩) hlt).trans h1, h2, h3.carry hb (Nat.le_refl _) hb.size⟩
/-- The slice of slices v is the call's own; the bytes that its slices hold lie in blocks other than X. -/
def OwnBB (w : World) (base : Nat) (X : Option Nat) (v : Value) (m : List (List UInt8)) : Prop :=
  ∃ vs, w.ownsRow base 22 1 v m.length vs ∧ ∀ (i : Nat) x, m[i]? = some x → ∃ A' c', vs[i]? = some (.slice A' x.length c') ∧ x.length ≤ c' ∧ HasV w X A' x
theorem info22 : (Try.prog.info? 22).map (fun i => (i.zero, i.size, i.bytes)) = some (some (.slice none 0 0), 1, 24) := by kernel_rfl
theorem OwnBB.move {w w' : World} {base : Nat} {X X' : Option Nat} {v : Value} {m : List (List UInt8)} (h : OwnBB w base X v m) (hk : ∀ (b : Nat) cs fr, w.heap[b]? = some (.cells cs 5 fr) → some b ≠ X → w'.heap[b]? = w.heap[b]?) (hr : ∀ (b : Nat) cs fr, w.heap[b]? = some (.cells cs 22 fr) → w'.heap[b]? = w.heap[b]?) (hX : X' = X ∨ X' = none ∨ ∃ q, X' = some q ∧ w.heap.size ≤ q) : OwnBB w' base X' v m := by
  obtain ⟨vs, ho, hi⟩ := h
  refine ⟨vs, ⟨ho.1, ?_⟩, fun i x hx => ?_⟩
  · rcases ho.2 with hn | ⟨g, cap, cur, rfl, hg, hh, rest⟩
    · exact .inl hn
    · exact .inr ⟨g, cap, cur, rfl, hg, (hr g cur _ hh).trans hh, rest⟩
  · obtain ⟨A', c', h1, h2, h3⟩ := hi i x hx
    exact ⟨A', c', h1, h2, h3.move hk hX⟩
theorem OwnBB.below {w w' : World} {base : Nat} {X : Option Nat} {v : Value} {m : List (List UInt8)} (h : OwnBB w base X v m) {B : Nat} (hb : Below B w w') (hB : w.heap.size ≤ B) : OwnBB w' base X v m :=
  h.move (fun b _ _ e _ => hb.block b (Nat.lt_of_lt_of_le (Array.getElem?_eq_some_iff.1 e).1 hB)) (fun b _ _ e => hb.block b (Nat.lt_of_lt_of_le (Array.getElem?_eq_some_iff.1 e).1 hB)) (.inl rfl)
theorem OwnBB.alloc {w : World} {base : Nat} {X : Option Nat} {v : Value} {m : List (List UInt8)} (h : OwnBB w base X v m) (o : Obj) : OwnBB (w.alloc o) base X v m :=
  h.below ((Below.refl _ w).alloc (Nat.le_refl _) o) (Nat.le_refl _)
theorem OwnBB.has {w : World} {base : Nat} {X : Option Nat} {v : Value} {m : List (List UInt8)} (h : OwnBB w base X v m) : ∃ A c, v = .slice A m.length c ∧ m.length ≤ c ∧ HasBB w A m := by
  obtain ⟨vs, ho, hi⟩ := h
  have ho' := ho
  rcases ho.2 with ⟨rfl, hn⟩ | ⟨g, cap, cur, rfl, _, hg, hc, _, _, ht⟩
  · exact ⟨none, 0, by rw [hn], by omega, .inl (List.eq_nil_of_length_eq_zero hn)⟩
  · refine ⟨_, cap, rfl, hc, .inr ⟨g, 0, rfl, (Array.getElem?_eq_some_iff.1 hg).1, fun i x hx => ?_⟩⟩
    obtain ⟨A', c', h1, h2, h3⟩ := hi i x hx
    have hil : i < m.length := (List.getElem?_eq_some_iff.1 hx).1
    refine ⟨A', c', ?_, h2, h3.has⟩
    rw [Nat.zero_add, World.ownsRow.cellAt ho' i (by omega)]
    exact h1
/-- One of the slices, with where it lies. -/
theorem OwnBB.spot {w : World} {base : Nat} {X : Option Nat} {A : Option Addr} {n c : Nat} {m : List (List UInt8)} (h : OwnBB w base X (.slice A n c) m) {k : Nat} (hk : k < m.length) :
    ∃ g x A' c', A = some ⟨g, 0, none⟩ ∧ m[k]? = some x ∧ w.cell? ⟨g, k, none⟩ = some (.slice A' x.length c') ∧ x.length ≤ c' ∧ HasV w X A' x := by
  obtain ⟨vs, ho, hi⟩ := h
  have ho' := ho
  rcases ho.2 with ⟨hv, hn⟩ | ⟨g, cap, cur, hv, _, hg, hc, _, _, ht⟩
  · omega
  · injection hv with e1 e2 e3
    subst e1 e2 e3
    obtain ⟨A', c', h1, h2, h3⟩ := hi k _ (List.getElem?_eq_getElem hk)
    refine ⟨g, m[k], A', c', rfl, List.getElem?_eq_getElem hk, ?_, h2, h3⟩
    rw [World.ownsRow.cellAt ho' k (by omega)]
    exact h1
theorem ownBB_empty {w : World} {base : Nat} {X : Option Nat} (h : base ≤ w.heap.size) : OwnBB (w.alloc (.cells #[] 22)) base X (.slice (some ⟨w.heap.size, 0, none⟩) 0 0) [] :=
  ⟨[], World.ownsRow_made w #[] 0 h (by unfold maxLen; omega) rfl, fun i x hx => by simp at hx⟩
/-- 'append(v, s)' of one slice of bytes, v the call's own. -/
theorem wpList_pushBB {w : World} {ops : Array Oper} {rest : List Oper} {o : Oper} {a : Act} {Q : Exit → Act → World → Prop} (hgd : o.guard = none) (s x : Operand)
    (ho : o.op = .call { callee := .builtin .append, args := #[s, x], argTypes := #[92, 92] })
    (base : Nat) (X : Option Nat) (v : Value) (m : List (List UInt8)) (hs : a.eval s = v) (hown : OwnBB w base X v m) (A : Option Addr) (n c : Nat) (l : List UInt8) (hn : n = l.length) (hc : l.length ≤ c) (hl : HasV w X A l) (H : Nat) (hH : w.heap.size = H)
    (hx : a.eval x = .slice (some ⟨H, 0, none⟩) 1 1) (hb : m.length + 1 ≤ 1073741824) (hbase : base ≤ w.heap.size)
    (h : ∀ g cap w', OwnBB w' base X (.slice (some ⟨g, 0, none⟩) (m.length + 1) cap) (m ++ [l]) → (w.alloc (.cells #[.slice A n c] 22)).grownBy w' v.ownBlock → (∀ (b : Nat) cs t fr, w.heap[b]? = some (.cells cs t fr) → t ≠ 22 → w'.heap[b]? = w.heap[b]?) → base ≤ g → wpList Try.prog ops Q rest (a.put o.dst (.slice (some ⟨g, 0, none⟩) (m.length + 1) cap)) w') :
    wpList Try.prog ops Q (o :: rest) a (w.alloc (.cells #[.slice A n c] 22)) := by
  obtain ⟨i0, hi, hz0, hz1, hz2⟩ := info_parts info22
  have hw1 := hown.alloc (.cells #[.slice A n c] 22)
  obtain ⟨vs, hr, hv⟩ := hw1
  subst hn
  refine wpList_append_lies _ hgd s x 92 ho base 22 i0 (.slice none 0 0) 1 24 Try.underlying92 hi hz0 hz1 hz2 rfl (by omega) v m.length vs hs hr ⟨H, 0, none⟩ 1 1 [.slice A l.length c] hx (by simp) ?_ (by intro u hu; simp at hu; subst hu; rfl) (by omega) (by unfold maxLen; omega) (by omega) (by simp; omega) _ rfl ?_
  · intro j u hu
    subst hH
    match j, hu with
    | 0, hu =>
      simp at hu
      subst hu
      exact World.news_of_block (heap_alloc_new w _) 0 _ rfl
  · intro g cap w' h1 h2 h3 _
    have hvl : vs.length = m.length := by have := hr.1; omega
    have hkeep : ∀ (b : Nat) cs t fr, w.heap[b]? = some (.cells cs t fr) → t ≠ 22 → w'.heap[b]? = w.heap[b]? := by
      intro b cs t fr hbk ht
      have hlt := (Array.getElem?_eq_some_iff.1 hbk).1
      have e0 := Below.heap_alloc w (.cells #[.slice A l.length c] 22) b hlt
      rw [← e0]
      refine h2.block b (by simp; omega) fun e => ?_
      rcases hr.2 with ⟨rfl, _⟩ | ⟨g0, cap0, cur0, rfl, _, hh, _⟩
      · cases e
      · simp [Value.ownBlock] at e
        subst e
        rw [e0, hbk] at hh
        injection hh with hh
        injection hh with _ ht2 _
        exact ht ht2
    have hinV : ∀ A' x, HasV w X A' x → HasV w' X A' x := fun A' x hq => hq.move (fun b cs fr hbk _ => hkeep b cs _ fr hbk (by decide)) (.inl rfl)
    refine h g cap w' ⟨vs ++ [.slice A l.length c], by rw [List.length_append]; exact h1, fun i x hx => ?_⟩ h2 hkeep (World.ownsRow.lt h1 g rfl).1
    by_cases hi2 : i < m.length
    · rw [List.getElem?_append_left hi2] at hx
      obtain ⟨vs0, hr0, hv0⟩ := hown
      obtain ⟨A', c', k1, k2, k3⟩ := hv i x hx
      refine ⟨A', c', by rw [List.getElem?_append_left (by omega)]; exact k1, k2, ?_⟩
      exact k3.move (fun b cs fr hbk hne => by
        by_cases hlt : b < w.heap.size
        · have e0 := Below.heap_alloc w (.cells #[.slice A l.length c] 22) b hlt
          rw [e0] at hbk ⊢
          exact hkeep b cs _ fr hbk (by decide)
        · exfalso
          have hb2 := (Array.getElem?_eq_some_iff.1 hbk).1
          simp at hb2
          have : b = w.heap.size := by omega
          subst this
          rw [heap_alloc_new] at hbk
          injection hbk with hbk
          injection hbk with _ ht2 _
          revert ht2
          decide) (.inl rfl)
    · rw [List.getElem?_append_right (by omega)] at hx
      have hi3 := (List.getElem?_eq_some_iff.1 hx).1
      simp at hi3
      have hi4 : i = m.length := by omega
      subst hi4
      simp at hx
      subst hx
      exact ⟨A, c, by rw [← hvl]; simp, hc, hinV A l hl⟩
end Go.Proofs.Ytnnpjcbdcjdojaa
