/-
  Words for slices of bit numbers: a slice that reads as pairs of numbers, a row of them that the call owns. No condition.
-/
import Derived.Test.YtnnpjcbdcjdojaaPush
import Derived.Test.YtnnpjcbdcjdojaaBitOk
namespace Go.Proofs.Ytnnpjcbdcjdojaa
set_option maxRecDepth 4000
open Go.RowKit

/-- A number and how many bits it has, as two cells. -/
def nv (p : Int × Int) : List Value := [.int .i64 p.1, .int .i64 p.2]
/-- The cells of pairs. -/
def flat (l : List (Int × Int)) : List Value := l.flatMap nv
theorem flat_nil : flat [] = [] := rfl
theorem flat_cons (p : Int × Int) (l : List (Int × Int)) : flat (p :: l) = .int .i64 p.1 :: .int .i64 p.2 :: flat l := rfl
theorem flat_append (l m : List (Int × Int)) : flat (l ++ m) = flat l ++ flat m := by simp [flat]
theorem flat_length (l : List (Int × Int)) : (flat l).length = l.length * 2 := by
  induction l with
  | nil => rfl
  | cons p l ih => rw [flat_cons, List.length_cons, List.length_cons, ih, List.length_cons]; omega
theorem flat_at (l : List (Int × Int)) (i : Nat) (p : Int × Int) (h : l[i]? = some p) : (flat l)[i * 2]? = some (.int .i64 p.1) ∧ (flat l)[i * 2 + 1]? = some (.int .i64 p.2) := by
  induction l generalizing i with
  | nil => simp at h
  | cons q l ih =>
    cases i with
    | zero => simp at h; subst h; exact ⟨rfl, rfl⟩
    | succ i =>
      have := ih i (by simpa using h)
      rw [flat_cons, show (i + 1) * 2 = i * 2 + 1 + 1 from by omega]
      simpa using this

/-- The slice that begins at A and is as long as l holds the pairs l, in a block below B. -/
def HasN (w : World) (B : Nat) (A : Option Addr) (l : List (Int × Int)) : Prop :=
  l = [] ∨ ∃ b o, A = some ⟨b, o, none⟩ ∧ b < B ∧ ∀ (i : Nat) (p : Int × Int), l[i]? = some p → w.cell? ⟨b, o + i * 2, none⟩ = some (.int .i64 p.1) ∧ w.cell? ⟨b, o + i * 2 + 1, none⟩ = some (.int .i64 p.2)
section
variable {w w' : World} {B B' base : Nat} {A : Option Addr} {l : List (Int × Int)} {v : Value}
theorem HasN.spot (h : HasN w B A l) {k : Nat} (hk : k < l.length) :
    ∃ b o p, A = some ⟨b, o, none⟩ ∧ b < B ∧ l[k]? = some p ∧ w.cell? ⟨b, o + k * 2, none⟩ = some (.int .i64 p.1) ∧ w.cell? ⟨b, o + k * 2 + 1, none⟩ = some (.int .i64 p.2) := by
  rcases h with rfl | ⟨b, o, rfl, hb, hc⟩
  · simp at hk
  · exact ⟨b, o, l[k], rfl, hb, List.getElem?_eq_getElem hk, hc k _ (List.getElem?_eq_getElem hk)⟩
theorem HasN.kept (h : HasN w B A l) (hk : ∀ p : Addr, p.block < B → w'.cell? p = w.cell? p) : HasN w' B A l := by
  rcases h with rfl | ⟨b, o, rfl, hb, hc⟩
  · exact .inl rfl
  · exact .inr ⟨b, o, rfl, hb, fun i x hx => ⟨(hk ⟨b, o + i * 2, none⟩ hb).trans (hc i x hx).1, (hk ⟨b, o + i * 2 + 1, none⟩ hb).trans (hc i x hx).2⟩⟩
theorem HasN.wider (h : HasN w B A l) (hB : B ≤ B') : HasN w B' A l := by
  rcases h with rfl | ⟨b, o, rfl, hb, hc⟩
  · exact .inl rfl
  · exact .inr ⟨b, o, rfl, by omega, hc⟩
theorem HasN.below (h : HasN w B A l) (hb : Below B w w') : HasN w' B A l := h.kept fun _ hp => hb.cell hp
theorem HasN.carry (h : HasN w B A l) {C : Nat} (hb : Below C w w') (hB : B ≤ C) (hC : C ≤ w'.heap.size) : HasN w' w'.heap.size A l :=
  (h.kept (w' := w') fun _ hp => hb.cell (Nat.lt_of_lt_of_le hp hB)).wider (Nat.le_trans hB hC)
theorem HasN.drewN (h : HasN w B A l) (n : Nat) : HasN (w.drewN n) B A l := h
/-- The slice value v is the call's own and holds the pairs l. -/
def OwnN (w : World) (base : Nat) (v : Value) (l : List (Int × Int)) : Prop := w.ownsRow base 100 2 v l.length (flat l)
theorem OwnN.has (h : OwnN w base v l) : ∃ A c, v = .slice A l.length c ∧ l.length ≤ c ∧ HasN w w.heap.size A l := by
  rcases h.2 with ⟨rfl, hn⟩ | ⟨g, cap, cur, rfl, _, hg, hc, _, _, ht⟩
  · exact ⟨none, 0, by rw [hn], by omega, .inl (List.eq_nil_of_length_eq_zero hn)⟩
  · refine ⟨_, cap, rfl, hc, .inr ⟨g, 0, rfl, (Array.getElem?_eq_some_iff.1 hg).1, fun i x hx => ?_⟩⟩
    have h2 : w.ownsRow base 100 2 (.slice (some ⟨g, 0, none⟩) l.length cap) l.length (flat l) := h
    have hi : i < l.length := (List.getElem?_eq_some_iff.1 hx).1
    have hf := flat_at l i x hx
    rw [Nat.zero_add, h2.cellAt (i * 2) (by omega), h2.cellAt (i * 2 + 1) (by omega)]
    exact hf
theorem OwnN.reads {n c : Nat} (h : OwnN w base (.slice A n c) l) : HasN w w.heap.size A l := by
  obtain ⟨A', c', e, _, hh⟩ := h.has
  injection e with e1 _ _
  rw [e1]
  exact hh
end

theorem row_below {w w' : World} {base B : Nat} {e : TypeId} {size : Nat} {v : Value} {n : Nat} {xs : List Value} (h : w.ownsRow base e size v n xs) (hb : Below B w w') (hB : w.heap.size ≤ B) : w'.ownsRow base e size v n xs := by
  refine ⟨h.1, ?_⟩
  rcases h.2 with hn | ⟨g, cap, cur, rfl, hg, hh, rest⟩
  · exact .inl hn
  · exact .inr ⟨g, cap, cur, rfl, hg, (hb.block g (Nat.lt_of_lt_of_le (Array.getElem?_eq_some_iff.1 hh).1 hB)).trans hh, rest⟩
theorem infoN : (Try.prog.info? 100).map (fun i => (i.zero, i.size, i.bytes)) = some (some (.agg #[.int .i64 0, .int .i64 0]), 2, 16) := by kernel_rfl
end Go.Proofs.Ytnnpjcbdcjdojaa
