/-
  Steps that the reference's PakGet takes: bytes appended with where they come to lie; a slice appended to slices in a region that draws its order. No condition but the lengths.
-/
import Derived.Test.YtofphjfgaihjhaaDoorPakSC
import Derived.Test.YtofphjfgaihjhaaDoorPakSR
namespace Go.Proofs.YtofphjfgaihjhaaDoor
open Go.RowKit

/-- 'append(v, m...)' of some bytes, v the call's own; its block is the old one, or new. -/
theorem wpList_pushAllL {w : World} {ops : Array Oper} {rest : List Oper} {o : Oper} {a : Act} {Q : Exit → Act → World → Prop} (hgd : o.guard = none) (s x : Operand)
    (ho : o.op = .call { callee := .builtin .append, args := #[s, x], argTypes := #[22, 22] })
    (base : Nat) (v : Value) (l : List UInt8) (hs : a.eval s = v) (hown : Own w base v l) (B : Nat) (A : Option Addr) (c : Nat) (m : List UInt8)
    (hx : a.eval x = .slice A m.length c) (hm : Has w B A m) (hm0 : 0 < m.length) (hb : l.length + m.length ≤ 1000000000) (hbase : base ≤ w.heap.size)
    (h : ∀ g cap w', Own w' base (.slice (some ⟨g, 0, none⟩) (l.length + m.length) cap) (l ++ m) → w.grownBy w' v.ownBlock → (v.ownBlock = some g ∨ g = w.heap.size) → wpList Tryd.prog ops Q rest (a.put o.dst (.slice (some ⟨g, 0, none⟩) (l.length + m.length) cap)) w') :
    wpList Tryd.prog ops Q (o :: rest) a w := by
  obtain ⟨i0, hi, hz0, hz1, hz2⟩ := info_parts info8
  obtain ⟨b, o', -, rfl, -⟩ := hm.spot hm0
  refine wpList_append_lies _ hgd s x 22 ho base 5 i0 (.int .u8 0) 1 1 Tryd.underlying22 hi hz0 hz1 hz2 rfl (by omega) v l.length (l.map bv) hs hown ⟨b, o', none⟩ m.length c (m.map bv) hx (by simp) ?_ (bvs_one _) hm0 (by unfold maxLen; omega) (by omega) hbase _ rfl ?_
  · intro j u hu
    simp only [List.getElem?_map, Option.map_eq_some_iff] at hu
    obtain ⟨y, hy, rfl⟩ := hu
    rcases hm with rfl | ⟨b2, o2, e, _, hc⟩
    · simp at hy
    · injection e with e
      injection e with e1 e2 _
      subst e1 e2
      rw [plain_add]
      exact hc j y hy
  · intro g cap w' h1 h2 h3 _
    refine h g cap w' ?_ h2 h3
    unfold Own
    rw [List.length_append, List.map_append]
    exact h1
/-- 'append(v, s)' of one slice of bytes, v the call's own: as one step of a region that draws its order. -/
theorem step_pushBB {w : World} {ops : Array Oper} {o : Oper} {a : Act} {K : Act → World → Prop} {Q : Exit → Act → World → Prop} {E : Prop} (hgd : o.guard = none) (s x : Operand)
    (ho : o.op = .call { callee := .builtin .append, args := #[s, x], argTypes := #[49, 49] })
    (base : Nat) (X : Option Nat) (v : Value) (m : List (List UInt8)) (hs : a.eval s = v) (hown : OwnBB w base X v m) (A : Option Addr) (n c : Nat) (l : List UInt8) (hn : n = l.length) (hc : l.length ≤ c) (hl : HasV w X A l) (H : Nat) (hH : w.heap[H]? = some (.cells #[.slice A n c] 22 (0, 0)))
    (hx : a.eval x = .slice (some ⟨H, 0, none⟩) 1 1) (hb : m.length + 1 ≤ 1073741824) (hbase : base ≤ w.heap.size)
    (h : ∀ g cap w', OwnBB w' base X (.slice (some ⟨g, 0, none⟩) (m.length + 1) cap) (m ++ [l]) → w.grownBy w' v.ownBlock → (∀ (b : Nat) cs t fr, w.heap[b]? = some (.cells cs t fr) → t ≠ 22 → w'.heap[b]? = w.heap[b]?) → K (a.put o.dst (.slice (some ⟨g, 0, none⟩) (m.length + 1) cap)) w') :
    if Region.wanted o (yielded ops a.tmps) = true then Oper.wp Tryd.prog o a w K Q else E := by
  obtain ⟨i0, hi, hz0, hz1, hz2⟩ := info_parts info22
  obtain ⟨vs, hr, hv⟩ := hown
  subst hn
  refine step_append_lies w hgd s x 49 ho base 22 i0 (.slice none 0 0) 1 24 Tryd.underlying49 hi hz0 hz1 hz2 rfl (by omega) v m.length vs hs hr ⟨H, 0, none⟩ 1 1 [.slice A l.length c] hx (by simp) ?_ (by intro u hu; simp at hu; subst hu; rfl) (by omega) (by unfold maxLen; omega) (by omega) hbase _ rfl ?_
  · intro j u hu
    match j, hu with
    | 0, hu =>
      simp at hu
      subst hu
      exact World.news_of_block hH 0 _ rfl
  · intro g cap w' h1 h2 h3 _
    have hvl : vs.length = m.length := by have := hr.1; omega
    have hkeep : ∀ (b : Nat) cs t fr, w.heap[b]? = some (.cells cs t fr) → t ≠ 22 → w'.heap[b]? = w.heap[b]? := by
      intro b cs t fr hbk ht
      have hlt := (Array.getElem?_eq_some_iff.1 hbk).1
      refine h2.block b hlt fun e => ?_
      rcases hr.2 with ⟨rfl, _⟩ | ⟨g0, cap0, cur0, rfl, _, hh, _⟩
      · cases e
      · simp [Value.ownBlock] at e
        subst e
        rw [hbk] at hh
        injection hh with hh
        injection hh with _ ht2 _
        exact ht ht2
    have hinV : ∀ A' x, HasV w X A' x → HasV w' X A' x := fun A' x hq => hq.move (fun b cs fr hbk _ => hkeep b cs _ fr hbk (by decide)) (.inl rfl)
    refine h g cap w' ⟨vs ++ [.slice A l.length c], by rw [List.length_append]; exact h1, fun i x hx => ?_⟩ h2 hkeep
    by_cases hi2 : i < m.length
    · rw [List.getElem?_append_left hi2] at hx
      obtain ⟨A', c', k1, k2, k3⟩ := hv i x hx
      exact ⟨A', c', by rw [List.getElem?_append_left (by omega)]; exact k1, k2, hinV _ _ k3⟩
    · rw [List.getElem?_append_right (by omega)] at hx
      have hi3 := (List.getElem?_eq_some_iff.1 hx).1
      simp at hi3
      have hi4 : i = m.length := by omega
      subst hi4
      simp at hx
      subst hx
      exact ⟨A, c, by rw [← hvl]; simp, hc, hinV A l hl⟩
/-- What is read stays where out has grown. -/
theorem out_grown {w w' : World} {base g n cap : Nat} {v : Value} {l : List UInt8} (ho : Own w base v l) (hg : w.grownBy w' v.ownBlock) (hloc : v.ownBlock = some g ∨ g = w.heap.size) :
    (∀ A b, HasV w v.ownBlock A b → HasV w' (Value.slice (some ⟨g, 0, none⟩) n cap).ownBlock A b) ∧ ∀ base' vm m, OwnBB w base' v.ownBlock vm m → OwnBB w' base' (Value.slice (some ⟨g, 0, none⟩) n cap).ownBlock vm m := by
  have hk : ∀ (b : Nat) cs fr, w.heap[b]? = some (.cells cs 5 fr) → some b ≠ v.ownBlock → w'.heap[b]? = w.heap[b]? := fun b cs fr hb hne => hg.block b (Array.getElem?_eq_some_iff.1 hb).1 hne
  have hX : (Value.slice (some ⟨g, 0, none⟩) n cap).ownBlock = v.ownBlock ∨ (Value.slice (some ⟨g, 0, none⟩) n cap).ownBlock = none ∨ ∃ q, (Value.slice (some ⟨g, 0, none⟩) n cap).ownBlock = some q ∧ w.heap.size ≤ q := by
    rcases hloc with h | h
    · exact .inl h.symm
    · exact .inr (.inr ⟨g, rfl, by omega⟩)
  refine ⟨fun A b h => h.move hk hX, fun base' vm m h => h.move hk (fun b cs fr hb => ?_) hX⟩
  refine hg.block b (Array.getElem?_eq_some_iff.1 hb).1 fun e => ?_
  rcases ho.2 with ⟨rfl, _⟩ | ⟨g0, cap0, cur0, rfl, _, hh, _⟩
  · cases e
  · simp [Value.ownBlock] at e
    subst e
    rw [hb] at hh
    injection hh with hh
    injection hh with _ ht2 _
    revert ht2
    decide
end Go.Proofs.YtofphjfgaihjhaaDoor
