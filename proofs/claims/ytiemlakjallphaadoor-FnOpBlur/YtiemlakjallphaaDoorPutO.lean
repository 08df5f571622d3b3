/-
  What OpDo of the program answers for any raster and operation, good or not (putO), what that is like (Shape), and the operations of a drawn region that compares two answers.
-/
import Derived.Test.YtiemlakjallphaaDoorRanL
import Derived.Test.YtiemlakjallphaaDoorDrawOpA
import Derived.Test.YtiemlakjallphaaDoorEaC
import Derived.Test.YtiemlakjallphaaDoorRegK
import Derived.Test.YtiemlakjallphaaDoorRasS
import Derived.Test.YtiemlakjallphaaDoorRefB
namespace Go.Proofs.YtiemlakjallphaaDoor
set_option maxRecDepth 4000
open Go.RowKit

/-- A raster as it was drawn, good or not. -/
structure Rw where
  w : Int
  h : Int
  p : List Px
theorem implOpDo_any (W H : Int) (A : Option Addr) (c : Nat) (l : List Px) (o : Op) (w : World) (hR : RangesIn w) (hs : l.length ≤ 1073741824) (hc : l.length ≤ c) (h : HasP w w.heap.size A l) :
    Calls Tryd.prog 12 #[rasV W H A l.length c, o.v] w (Did (putO W H l o) w) := by
  unfold putO
  cases hq : (rasB W H l && opB o)
  · exact opDo_bad W H A c l o w hR hs h hq
  · obtain ⟨h1, h2⟩ := Bool.and_eq_true_iff.1 hq
    have := opDo_good ⟨W.toNat, H.toNat, l⟩ A c o w (ok_of h1) h2 hR hc h
    rw [raV_of h1] at this
    exact this
theorem put_small {W H : Int} {l : List Px} {o : Op} : ((putO W H l o).getD ra0).p.length ≤ 36 := by
  unfold putO
  cases hq : (rasB W H l && opB o)
  · exact Nat.zero_le _
  · obtain ⟨h1, h2⟩ := Bool.and_eq_true_iff.1 hq
    simp only [if_true]
    cases hd : doR ⟨W.toNat, H.toNat, l⟩ o with
    | none => exact Nat.zero_le _
    | some s => exact (ra_len (doR_ok (ok_of h1) h2 hd)).2
/-- What OpDo's answer is like, where the raster and the operation are good. -/
def Shape (W H : Int) (q : Op) (d : Option Ra) : Prop :=
  (q.k = 1 ∧ (W < q.a + q.c ∨ H < q.b + q.d) ∧ d = none) ∨ ∃ s : Ra, d = some s ∧ s.ok ∧
    ((q.k = 1 ∧ (¬ W < q.a + q.c ∧ ¬ H < q.b + q.d) ∧ (s.w : Int) = q.c ∧ (s.h : Int) = q.d) ∨ (q.k = 4 ∧ (s.w : Int) = H ∧ (s.h : Int) = W) ∨ (q.k = 7 ∧ (s.w : Int) = q.a ∧ (s.h : Int) = q.b) ∨ ((q.k ≠ 1 ∧ q.k ≠ 4 ∧ q.k ≠ 7) ∧ (s.w : Int) = W ∧ (s.h : Int) = H))
theorem put_shape {W H : Int} {l : List Px} {q : Op} (h1 : rasB W H l = true) (h2 : opB q = true) : Shape W H q (putO W H l q) := by
  obtain ⟨g1, g2, -, -⟩ := rasB_parts h1
  have hok := ok_of h1
  unfold putO
  rw [h1, h2]
  simp only [Bool.and_self, if_true]
  have hw : ((W.toNat : Nat) : Int) = W := Int.toNat_of_nonneg (by omega)
  have hh : ((H.toNat : Nat) : Int) = H := Int.toNat_of_nonneg (by omega)
  have hk : q.k = 1 ∨ q.k = 2 ∨ q.k = 3 ∨ q.k = 4 ∨ q.k = 5 ∨ q.k = 6 ∨ q.k = 7 ∨ q.k = 8 := by
    have := h2
    rw [opB_alt] at this
    by_cases e1 : q.k = 1
    · omega
    by_cases e7 : q.k = 7
    · omega
    by_cases e8 : q.k = 8
    · omega
    rw [if_neg e1, if_neg e7, if_neg e8] at this
    unfold inR at this
    simp only [Bool.and_eq_true, decide_eq_true_eq] at this
    omega
  rcases hk with hk | hk | hk | hk | hk | hk | hk | hk
  · obtain ⟨i1, i2, i3, i4⟩ := opB_1 hk h2
    cases hd : doR ⟨W.toNat, H.toNat, l⟩ q with
    | none =>
      refine .inl ⟨hk, ?_, rfl⟩
      unfold doR at hd
      rw [if_pos hk] at hd
      split at hd
      · rename_i hx
        simp only at hx
        omega
      · cases hd
    | some s =>
      obtain ⟨k1, k2, k3⟩ := doR_1 _ hk h2 hd
      simp only at k1 k2
      refine .inr ⟨s, rfl, doR_ok hok h2 hd, .inl ⟨hk, by omega, ?_⟩⟩
      rw [k3, cropR_w, cropR_h]
      omega
  · have hd := doR_2 ⟨W.toNat, H.toNat, l⟩ hk
    rw [hd]
    exact .inr ⟨_, rfl, doR_ok hok h2 hd, .inr (.inr (.inr ⟨by omega, hw, hh⟩))⟩
  · have hd := doR_3 ⟨W.toNat, H.toNat, l⟩ hk
    rw [hd]
    exact .inr ⟨_, rfl, doR_ok hok h2 hd, .inr (.inr (.inr ⟨by omega, hw, hh⟩))⟩
  · have hd := doR_4 ⟨W.toNat, H.toNat, l⟩ hk
    rw [hd]
    exact .inr ⟨_, rfl, doR_ok hok h2 hd, .inr (.inl ⟨hk, hh, hw⟩)⟩
  · have hd := doR_5 ⟨W.toNat, H.toNat, l⟩ hk
    rw [hd]
    exact .inr ⟨_, rfl, doR_ok hok h2 hd, .inr (.inr (.inr ⟨by omega, hw, hh⟩))⟩
  · have hd := doR_6 ⟨W.toNat, H.toNat, l⟩ hk
    rw [hd]
    exact .inr ⟨_, rfl, doR_ok hok h2 hd, .inr (.inr (.inr ⟨by omega, hw, hh⟩))⟩
  · have hd := doR_7 ⟨W.toNat, H.toNat, l⟩ hk
    obtain ⟨i1, i2⟩ := opB_7 hk h2
    rw [hd]
    exact .inr ⟨_, rfl, doR_ok hok h2 hd, .inr (.inr (.inl ⟨hk, by rw [sizeR_w]; omega, by rw [sizeR_h]; omega⟩))⟩
  · have hd := doR_8 ⟨W.toNat, H.toNat, l⟩ hk
    rw [hd]
    exact .inr ⟨_, rfl, doR_ok hok h2 hd, .inr (.inr (.inr ⟨by omega, hw, hh⟩))⟩
section
variable {Q : Exit → Act → World → Prop} {o : Oper} {a : Act} {w wb : World}
theorem yield_eaRasL {p q : Operand} {ts : Array TypeId} {r : Ra} {vp vq : Value} (ho : o.op = .call { callee := .value (.func 14), args := #[p, q], argTypes := ts }) (ep : a.eval p = vp) (eq : a.eval q = vq) (hp : IsRa r w vp) (hq : IsRa r w vq) (hl : r.p.length ≤ 36) (hS : Below wb.heap.size wb w) :
    Yield Tryd.prog Q (Below wb.heap.size wb) o a w (Kd.is (.bool true)).holds := by
  obtain ⟨A, c, rfl, hc, hh⟩ := hp
  obtain ⟨A', c', rfl, hc', hh'⟩ := hq
  refine Yield.call ho rfl Tryd.func14 (by kernel_rfl) rfl (args := #[raV r A c, raV r A' c']) (by simp [ep, eq]) (eaRas_same r.w r.h A A' c c' r.p w (by omega) hh hh') ?_
  rintro e w' ⟨rfl, hb⟩
  exact ⟨_, rfl, hb, hS.trans (hb.mono hS.size), rfl⟩
theorem yield_neqB {x y : Operand} {u : TypeId} {p : Bool} (ho : o.op = .binOp .neq 4 x y u) (hx : a.eval x = .bool p) (hy : a.eval y = .bool p) (hS : Below wb.heap.size wb w) : Yield Tryd.prog Q (Below wb.heap.size wb) o a w (Kd.is (.bool false)).holds := by
  refine Yield.run (v := .bool false) (w' := w) ?_ (Below.refl _ _) hS rfl
  unfold execOp
  rw [ho]
  simp only [hx, hy]
  cases p <;> go_simp
theorem yield_opI {p : Operand} {ts : Array TypeId} {q : Op} (ho : o.op = .call { callee := .value (.func 15), args := #[p], argTypes := ts }) (ep : a.eval p = q.v) (hR : RangesIn wb) (hS : Below wb.heap.size wb w) :
    Yield Tryd.prog Q (Below wb.heap.size wb) o a w (Kd.is (.bool (opB q))).holds := by
  refine Yield.call ho rfl Tryd.func15 (by kernel_rfl) rfl (args := #[q.v]) (by simp [ep]) (implOpOk_any q w (hR.next hS)) ?_
  rintro e w' ⟨rfl, hb⟩
  exact ⟨_, rfl, hb, hS.trans (hb.mono hS.size), rfl⟩
theorem yield_opS {p : Operand} {ts : Array TypeId} {q : Op} (ho : o.op = .call { callee := .value (.func 16), args := #[p], argTypes := ts }) (ep : a.eval p = q.v) (hS : Below wb.heap.size wb w) :
    Yield Tryd.prog Q (Below wb.heap.size wb) o a w (Kd.is (.bool (opB q))).holds := by
  refine Yield.call ho rfl Tryd.func16 (by kernel_rfl) rfl (args := #[q.v]) (by simp [ep]) (specOpOk_any q w) ?_
  rintro e w' ⟨rfl, hb⟩
  exact ⟨_, rfl, hb, hS.trans (hb.mono hS.size), rfl⟩
end
/-! What is known where the operation is done. -/
theorem put_some {W H : Int} {l : List Px} {q : Op} {s : Ra} (h : putO W H l q = some s) : ∃ r : Ra, W = (r.w : Int) ∧ H = (r.h : Int) ∧ l = r.p ∧ r.ok ∧ opB q = true ∧ doR r q = some s ∧ s.ok := by
  unfold putO at h
  split at h
  · rename_i hb
    obtain ⟨h1, h2⟩ := Bool.and_eq_true_iff.1 hb
    obtain ⟨g1, g2, -, -⟩ := rasB_parts h1
    exact ⟨⟨W.toNat, H.toNat, l⟩, by simp only; omega, by simp only; omega, rfl, ok_of h1, h2, h, doR_ok (ok_of h1) h2 h⟩
  · cases h
theorem kind_cases {q : Op} (h2 : opB q = true) : q.k = 1 ∨ q.k = 2 ∨ q.k = 3 ∨ q.k = 4 ∨ q.k = 5 ∨ q.k = 6 ∨ q.k = 7 ∨ q.k = 8 := by
  rw [opB_alt] at h2
  by_cases e1 : q.k = 1
  · omega
  by_cases e7 : q.k = 7
  · omega
  by_cases e8 : q.k = 8
  · omega
  rw [if_neg e1, if_neg e7, if_neg e8] at h2
  unfold inR at h2
  simp only [Bool.and_eq_true, decide_eq_true_eq] at h2
  omega
/-- Where an operation is done its answer's size hangs on the raster's size alone. -/
theorem do_size {r r' x : Ra} {q : Op} (hw : r'.w = r.w) (hh : r'.h = r.h) (h : doR r q = some x) : ∃ x', doR r' q = some x' ∧ x'.w = x.w ∧ x'.h = x.h := by
  unfold doR at h ⊢
  rw [hw, hh]
  by_cases h1 : q.k = 1
  · rw [if_pos h1] at h ⊢
    by_cases h2 : q.a + q.c > r.w ∨ q.b + q.d > r.h
    · rw [if_pos h2] at h
      cases h
    · rw [if_neg h2] at h ⊢
      obtain rfl := Option.some.inj h
      exact ⟨_, rfl, rfl, rfl⟩
  rw [if_neg h1] at h ⊢
  by_cases h2 : q.k = 2
  · rw [if_pos h2] at h ⊢
    obtain rfl := Option.some.inj h
    exact ⟨_, rfl, hw, hh⟩
  rw [if_neg h2] at h ⊢
  by_cases h3 : q.k = 3
  · rw [if_pos h3] at h ⊢
    obtain rfl := Option.some.inj h
    exact ⟨_, rfl, hw, hh⟩
  rw [if_neg h3] at h ⊢
  by_cases h4 : q.k = 4
  · rw [if_pos h4] at h ⊢
    obtain rfl := Option.some.inj h
    exact ⟨_, rfl, hh, hw⟩
  rw [if_neg h4] at h ⊢
  by_cases h5 : q.k = 5
  · rw [if_pos h5] at h ⊢
    obtain rfl := Option.some.inj h
    exact ⟨_, rfl, hw, hh⟩
  rw [if_neg h5] at h ⊢
  by_cases h6 : q.k = 6
  · rw [if_pos h6] at h ⊢
    obtain rfl := Option.some.inj h
    exact ⟨_, rfl, hw, hh⟩
  rw [if_neg h6] at h ⊢
  by_cases h7 : q.k = 7
  · rw [if_pos h7] at h ⊢
    obtain rfl := Option.some.inj h
    exact ⟨_, rfl, rfl, rfl⟩
  rw [if_neg h7] at h ⊢
  obtain rfl := Option.some.inj h
  exact ⟨_, rfl, hw, hh⟩
/-- What covers so covers so behind any operation but a flattening. -/
theorem do_covers {r x : Ra} {q : Op} {a : Int} (hr : r.ok) (hb : opB q = true) (h : doR r q = some x) (hk : q.k ≠ 8) (hc : r.covers a) : x.covers a := by
  rcases kind_cases hb with e | e | e | e | e | e | e | e
  · obtain ⟨h1, h2, rfl⟩ := doR_1 r e hb h
    intro i j hi hj
    rw [cropR_w] at hi
    rw [cropR_h] at hj
    rw [cropR_at r hi hj]
    exact hc _ _ (by omega) (by omega)
  · obtain rfl := Option.some.inj ((doR_2 r e).symm.trans h)
    intro i j hi hj
    rw [flipXR_w] at hi
    rw [flipXR_h] at hj
    rw [flipXR_at r hi hj]
    exact hc _ _ (by omega) hj
  · obtain rfl := Option.some.inj ((doR_3 r e).symm.trans h)
    intro i j hi hj
    rw [flipYR_w] at hi
    rw [flipYR_h] at hj
    rw [flipYR_at r hi hj]
    exact hc _ _ hi (by omega)
  · obtain rfl := Option.some.inj ((doR_4 r e).symm.trans h)
    intro i j hi hj
    rw [turnR_w] at hi
    rw [turnR_h] at hj
    rw [turnR_at r hi hj]
    exact hc _ _ hj (by omega)
  · obtain rfl := Option.some.inj ((doR_5 r e).symm.trans h)
    intro i j hi hj
    rw [eachR_w] at hi
    rw [eachR_h] at hj
    rw [eachR_at grayP r hi hj]
    exact hc _ _ hi hj
  · obtain rfl := Option.some.inj ((doR_6 r e).symm.trans h)
    exact blur_covers hc
  · obtain rfl := Option.some.inj ((doR_7 r e).symm.trans h)
    intro i j hi hj
    rw [sizeR_w] at hi
    rw [sizeR_h] at hj
    rw [sizeR_at r hi hj]
    exact hc _ _ (pick_lt hr.parts.1.1 hi) (pick_lt hr.parts.2.1.1 hj)
  · exact absurd e hk
theorem flat_covers (o : Op) (r : Ra) : (eachR (flatP1 o) r).covers 255 := fun i j hi hj => by
  rw [eachR_w] at hi
  rw [eachR_h] at hj
  rw [eachR_at _ r hi hj]
  rfl
theorem do_covered {r x : Ra} {q : Op} (hr : r.ok) (hb : opB q = true) (h : doR r q = some x) (hc : r.covers 255) : x.covers 255 := by
  by_cases hk : q.k = 8
  · obtain rfl := Option.some.inj ((doR_8 r hk).symm.trans h)
    exact flat_covers _ _
  · exact do_covers hr hb h hk hc
theorem covers_get {r : Ra} {a : Int} (hr : r.ok) (hc : r.covers a) {i : Nat} {q : Px} (hq : r.p[i]? = some q) : q.a = a := by
  obtain ⟨-, h1, h2, h3⟩ := ok_get hr hq
  rw [← h3]
  exact hc _ _ h1 h2
/-- What changes each pixel by itself comes to the same behind a move. -/
theorem each_do {r x : Ra} {q : Op} {g : Px → Px} (hg : ∀ p, pixB p = true → pixB (g p) = true) (hr : r.ok) (hb : opB q = true) (h5 : q.k ≠ 5) (h6 : q.k ≠ 6) (h8 : q.k ≠ 8) (h : doR r q = some x) : doR (eachR g r) q = some (eachR g x) := by
  rcases kind_cases hb with e | e | e | e | e | e | e | e
  · obtain ⟨x', h', -, -⟩ := do_size (r := r) (r' := eachR g r) (eachR_w _ _) (eachR_h _ _) h
    obtain ⟨h1, h2, rfl⟩ := doR_1 r e hb h
    obtain ⟨-, -, rfl⟩ := doR_1 _ e hb h'
    have hc := opB_1 e hb
    rw [h', each_crop hr hg (by omega) (by omega) h1 h2]
  · obtain rfl := Option.some.inj ((doR_2 r e).symm.trans h)
    rw [doR_2 _ e, each_flipX hr hg]
  · obtain rfl := Option.some.inj ((doR_3 r e).symm.trans h)
    rw [doR_3 _ e, each_flipY hr hg]
  · obtain rfl := Option.some.inj ((doR_4 r e).symm.trans h)
    rw [doR_4 _ e, each_turn hr hg]
  · exact absurd e h5
  · exact absurd e h6
  · obtain rfl := Option.some.inj ((doR_7 r e).symm.trans h)
    have hc := opB_7 e hb
    rw [doR_7 _ e, each_size hr hg (by omega) (by omega)]
  · exact absurd e h8
theorem ea_one {r x : Ra} {q : Op} (hr : r.ok) (hb : opB q = true) (h : doR r q = some x) (l : List Op) : eaR r (q :: l) = eaR x l := by
  rw [eaR_cons, opDo_ok hr hb, h]
  rfl
theorem each_p {g : Px → Px} {r : Ra} (hr : r.ok) : (eachR g r).p = r.p.map g := List.ext_getElem? fun i => by
  cases hq : r.p[i]? with
  | some q => rw [each_get hr hq, List.getElem?_map, hq]; rfl
  | none =>
    rw [List.getElem?_map, hq]
    have h1 := List.getElem?_eq_none_iff.1 hq
    rw [hr.parts.2.2.1] at h1
    exact List.getElem?_eq_none_iff.2 (Nat.le_trans (Nat.le_of_eq (tab_length r.w (r.w * r.h) (fun x y => g (r.at x y)))) h1)
theorem move_count {r x : Ra} {q : Op} (hr : r.ok) (hk : q.k = 2 ∨ q.k = 3 ∨ q.k = 4) (h : doR r q = some x) (p : Px) : x.p.count p = r.p.count p ∧ x.p.length = r.p.length := by
  have hl := hr.parts.2.2.1
  rcases hk with e | e | e
  · obtain rfl := Option.some.inj ((doR_2 r e).symm.trans h)
    exact ⟨count_flipX hr p, by rw [(flipXR_ok hr).parts.2.2.1, hl]; rfl⟩
  · obtain rfl := Option.some.inj ((doR_3 r e).symm.trans h)
    exact ⟨count_flipY hr p, by rw [(flipYR_ok hr).parts.2.2.1, hl]; rfl⟩
  · obtain rfl := Option.some.inj ((doR_4 r e).symm.trans h)
    exact ⟨count_turn hr p, by rw [(turnR_ok hr).parts.2.2.1, hl]; exact Nat.mul_comm _ _⟩
/-! Two pixels held against each other, the same or not. -/
theorem px_ne {p q : Px} (hpq : p ≠ q) : (p.r == q.r) = false ∨ ((p.r == q.r) = true ∧ (p.g == q.g) = false) ∨ ((p.r == q.r) = true ∧ (p.g == q.g) = true ∧ (p.b == q.b) = false) ∨ ((p.r == q.r) = true ∧ (p.g == q.g) = true ∧ (p.b == q.b) = true ∧ (p.a == q.a) = false) := by
  cases h1 : (p.r == q.r)
  · exact .inl rfl
  · cases h2 : (p.g == q.g)
    · exact .inr (.inl ⟨rfl, rfl⟩)
    · cases h3 : (p.b == q.b)
      · exact .inr (.inr (.inl ⟨rfl, rfl, rfl⟩))
      · cases h4 : (p.a == q.a)
        · exact .inr (.inr (.inr ⟨rfl, rfl, rfl, rfl⟩))
        · rw [beq_iff_eq] at h1 h2 h3 h4
          exact absurd (by cases p; cases q; simp_all) hpq
theorem run_eql_dec (p q : Px) (w : World) : (binOp .eql 39 p.v q.v).run Tryd.prog w = .ok (.bool (decide (p = q))) w := by
  by_cases h : p = q
  · subst h
    rw [run_eql_same]
    simp
  · rw [decide_eq_false h]
    unfold Px.v
    rcases px_ne h with h1 | ⟨h1, h2⟩ | ⟨h1, h2, h3⟩ | ⟨h1, h2, h3, h4⟩ <;> go_simp <;> simp [*]
section
variable {Q : Exit → Act → World → Prop} {o : Oper} {a : Act} {w wb : World}
theorem yield_eqlPixD {x y : Operand} {u : TypeId} {p q : Px} (ho : o.op = .binOp .eql 39 x y u) (hx : a.eval x = p.v) (hy : a.eval y = q.v) (hS : Below wb.heap.size wb w) : Yield Tryd.prog Q (Below wb.heap.size wb) o a w (Kd.is (.bool (decide (p = q)))).holds := by
  refine Yield.run (v := .bool (decide (p = q))) (w' := w) ?_ (Below.refl _ _) hS rfl
  unfold execOp
  rw [ho]
  simp only [hx, hy]
  simp [Sem.run_bind, Result.andThen, run_eqlG, run_eql_dec]
theorem exec_eqlPix {ev : Operand → Value} {x y : Operand} {u : TypeId} {p q : Px} (ho : o.op = .binOp .eql 39 x y u) (hx : ev x = p.v) (hy : ev y = q.v) (w : World) : (execOp ev o).run Tryd.prog w = .ok (.value (.bool (decide (p = q)))) w := by
  unfold execOp
  rw [ho]
  simp only [hx, hy]
  simp [Sem.run_bind, Result.andThen, run_eqlG, run_eql_dec]
end
end Go.Proofs.YtiemlakjallphaaDoor
