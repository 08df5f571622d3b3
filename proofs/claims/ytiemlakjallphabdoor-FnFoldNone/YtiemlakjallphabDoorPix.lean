/-
  Words for pixels and rasters: a slice that reads as pixels, a row of pixels that the call owns. No condition.
-/
import Derived.Test.YtiemlakjallphabDoorPush
namespace Go.Proofs.YtiemlakjallphabDoor
set_option maxRecDepth 4000
open Go.RowKit

/-- A pixel. -/
structure Px where
  r : Int
  g : Int
  b : Int
  a : Int
/-- A pixel as a value. -/
def Px.v (p : Px) : Value := .agg #[.int .i64 p.r, .int .i64 p.g, .int .i64 p.b, .int .i64 p.a]
/-- A pixel's cells. -/
def Px.cells (p : Px) : List Value := [.int .i64 p.r, .int .i64 p.g, .int .i64 p.b, .int .i64 p.a]
/-- The cells of pixels. -/
def flatP (l : List Px) : List Value := l.flatMap Px.cells
theorem flatP_nil : flatP [] = [] := rfl
theorem flatP_cons (p : Px) (l : List Px) : flatP (p :: l) = .int .i64 p.r :: .int .i64 p.g :: .int .i64 p.b :: .int .i64 p.a :: flatP l := rfl
theorem flatP_append (l m : List Px) : flatP (l ++ m) = flatP l ++ flatP m := by simp [flatP]
theorem flatP_length (l : List Px) : (flatP l).length = l.length * 4 := by
  induction l with
  | nil => rfl
  | cons p l ih => simp only [flatP_cons, List.length_cons, ih]; omega
theorem flatP_one (l : List Px) : ∀ u ∈ flatP l, u.oneCell' = true := by
  intro u hu
  obtain ⟨p, _, hp⟩ := List.mem_flatMap.1 hu
  simp [Px.cells] at hp
  rcases hp with rfl | rfl | rfl | rfl <;> rfl
theorem flatP_at (l : List Px) (i : Nat) (p : Px) (h : l[i]? = some p) : (flatP l)[i * 4]? = some (.int .i64 p.r) ∧ (flatP l)[i * 4 + 1]? = some (.int .i64 p.g) ∧ (flatP l)[i * 4 + 2]? = some (.int .i64 p.b) ∧ (flatP l)[i * 4 + 3]? = some (.int .i64 p.a) := by
  induction l generalizing i with
  | nil => simp at h
  | cons q l ih =>
    cases i with
    | zero => simp at h; subst h; exact ⟨rfl, rfl, rfl, rfl⟩
    | succ i =>
      have := ih i (by simpa using h)
      rw [flatP_cons, show (i + 1) * 4 = i * 4 + 1 + 1 + 1 + 1 from by omega]
      simpa using this

/-- Four cells from a place on hold a pixel. -/
def PxAt (w : World) (b o : Nat) (p : Px) : Prop := w.cell? ⟨b, o, none⟩ = some (.int .i64 p.r) ∧ w.cell? ⟨b, o + 1, none⟩ = some (.int .i64 p.g) ∧ w.cell? ⟨b, o + 2, none⟩ = some (.int .i64 p.b) ∧ w.cell? ⟨b, o + 3, none⟩ = some (.int .i64 p.a)
/-- The slice that begins at A and is as long as l holds the pixels l, in a block below B. -/
def HasP (w : World) (B : Nat) (A : Option Addr) (l : List Px) : Prop :=
  l = [] ∨ ∃ b o, A = some ⟨b, o, none⟩ ∧ b < B ∧ ∀ (i : Nat) (p : Px), l[i]? = some p → PxAt w b (o + i * 4) p
section
variable {w w' : World} {B B' base : Nat} {A : Option Addr} {l : List Px} {v : Value}
theorem PxAt.kept {b o : Nat} {p : Px} (h : PxAt w b o p) (hk : ∀ q : Addr, q.block = b → w'.cell? q = w.cell? q) : PxAt w' b o p :=
  ⟨(hk _ rfl).trans h.1, (hk _ rfl).trans h.2.1, (hk _ rfl).trans h.2.2.1, (hk _ rfl).trans h.2.2.2⟩
theorem HasP.spot (h : HasP w B A l) {k : Nat} (hk : k < l.length) : ∃ b o p, A = some ⟨b, o, none⟩ ∧ b < B ∧ l[k]? = some p ∧ PxAt w b (o + k * 4) p := by
  rcases h with rfl | ⟨b, o, rfl, hb, hc⟩
  · simp at hk
  · exact ⟨b, o, l[k], rfl, hb, List.getElem?_eq_getElem hk, hc k _ (List.getElem?_eq_getElem hk)⟩
theorem HasP.kept (h : HasP w B A l) (hk : ∀ p : Addr, p.block < B → w'.cell? p = w.cell? p) : HasP w' B A l := by
  rcases h with rfl | ⟨b, o, rfl, hb, hc⟩
  · exact .inl rfl
  · exact .inr ⟨b, o, rfl, hb, fun i x hx => (hc i x hx).kept fun q hq => hk q (by omega)⟩
theorem HasP.wider (h : HasP w B A l) (hB : B ≤ B') : HasP w B' A l := by
  rcases h with rfl | ⟨b, o, rfl, hb, hc⟩
  · exact .inl rfl
  · exact .inr ⟨b, o, rfl, by omega, hc⟩
theorem HasP.below (h : HasP w B A l) (hb : Below B w w') : HasP w' B A l := h.kept fun _ hp => hb.cell hp
theorem HasP.carry (h : HasP w B A l) {C : Nat} (hb : Below C w w') (hB : B ≤ C) (hC : C ≤ w'.heap.size) : HasP w' w'.heap.size A l :=
  (h.kept (w' := w') fun _ hp => hb.cell (Nat.lt_of_lt_of_le hp hB)).wider (Nat.le_trans hB hC)
theorem HasP.drewN (h : HasP w B A l) (n : Nat) : HasP (w.drewN n) B A l := h
/-- The slice value v is the call's own and holds the pixels l. -/
def OwnP (w : World) (base : Nat) (v : Value) (l : List Px) : Prop := w.ownsRow base 62 4 v l.length (flatP l)
theorem OwnP.has (h : OwnP w base v l) : ∃ A c, v = .slice A l.length c ∧ l.length ≤ c ∧ HasP w w.heap.size A l := by
  rcases h.2 with ⟨rfl, hn⟩ | ⟨g, cap, cur, rfl, _, hg, hc, _, _, ht⟩
  · exact ⟨none, 0, by rw [hn], by omega, .inl (List.eq_nil_of_length_eq_zero hn)⟩
  · refine ⟨_, cap, rfl, hc, .inr ⟨g, 0, rfl, (Array.getElem?_eq_some_iff.1 hg).1, fun i x hx => ?_⟩⟩
    have h2 : w.ownsRow base 62 4 (.slice (some ⟨g, 0, none⟩) l.length cap) l.length (flatP l) := h
    have hi : i < l.length := (List.getElem?_eq_some_iff.1 hx).1
    have hf := flatP_at l i x hx
    unfold PxAt
    rw [Nat.zero_add, h2.cellAt (i * 4) (by omega), h2.cellAt (i * 4 + 1) (by omega), h2.cellAt (i * 4 + 2) (by omega), h2.cellAt (i * 4 + 3) (by omega)]
    exact hf
theorem OwnP.keepRd {g : Nat} (h : OwnP w base v l) (hg : w.grownBy w' (some g)) (hb : g < base) : OwnP w' base v l :=
  World.ownsRow.kept h hg (by
    cases hv : v.ownBlock with
    | none => exact .inl rfl
    | some q => exact .inr fun e => by have := (World.ownsRow.lt h q hv).1; injection e with e; omega)
end
theorem infoP : (Tryd.prog.info? 62).map (fun i => (i.zero, i.size, i.bytes)) = some (some (.agg #[.int .i64 0, .int .i64 0, .int .i64 0, .int .i64 0]), 4, 32) := by kernel_rfl

/-- Whether a part of a colour is one. -/
def partB (n : Int) : Bool := decide (0 ≤ n ∧ n ≤ 255)
/-- Whether a pixel is one. -/
def pixB (p : Px) : Bool := partB p.r && (partB p.g && (partB p.b && partB p.a))
/-- Whether a raster is one. -/
def rasB (W H : Int) (l : List Px) : Bool := decide ((1 ≤ W ∧ W ≤ 6) ∧ (1 ≤ H ∧ H ≤ 6) ∧ (l.length : Int) = W * H) && l.all pixB
end Go.Proofs.YtiemlakjallphabDoor
