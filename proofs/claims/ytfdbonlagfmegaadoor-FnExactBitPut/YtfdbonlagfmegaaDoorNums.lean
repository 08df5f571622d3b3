/-
  Words for slices of bit numbers: a slice that reads as pairs of numbers, a row of them that the call owns. toBitNumS copies one. Condition: at most 2^30 numbers.
-/
import Derived.Test.YtfdbonlagfmegaaDoorPush
import Derived.Test.YtfdbonlagfmegaaDoorBitOk
namespace Go.Proofs.YtfdbonlagfmegaaDoor
open Go.RowKit

/-- A number and how many bits it has, as two cells. -/
def nv (p : Int × Int) : List Value := [.int .i64 p.1, .int .i64 p.2]
/-- The cells of pairs. -/
def flat (l : List (Int × Int)) : List Value := l.flatMap nv
theorem flat_nil : flat [] = [] := rfl
theorem flat_cons (p : Int × Int) (l : List (Int × Int)) : flat (p :: l) = .int .i64 p.1 :: .int .i64 p.2 :: flat l := rfl
theorem flat_append (l m : List (Int × Int)) : flat (l ++ m) = flat l ++ flat m := by simp [flat]
theorem flat_length (l : List (Int × Int)) : (flat l).length = l.length * 2 := by
  induction l with
  | nil => rfl
  | cons p l ih => rw [flat_cons, List.length_cons, List.length_cons, ih, List.length_cons]; omega
theorem flat_at (l : List (Int × Int)) (i : Nat) (p : Int × Int) (h : l[i]? = some p) : (flat l)[i * 2]? = some (.int .i64 p.1) ∧ (flat l)[i * 2 + 1]? = some (.int .i64 p.2) := by
  induction l generalizing i with
  | nil => simp at h
  | cons q l ih =>
    cases i with
    | zero => simp at h; subst h; exact ⟨rfl, rfl⟩
    | succ i =>
      have := ih i (by simpa using h)
      rw [flat_cons, show (i + 1) * 2 = i * 2 + 1 + 1 from by omega]
      simpa using this

/-- The slice that begins at A and is as long as l holds the pairs l, in a block below B. -/
def HasN (w : World) (B : Nat) (A : Option Addr) (l : List (Int × Int)) : Prop :=
  l = [] ∨ ∃ b o, A = some ⟨b, o, none⟩ ∧ b < B ∧ ∀ (i : Nat) (p : Int × Int), l[i]? = some p → w.cell? ⟨b, o + i * 2, none⟩ = some (.int .i64 p.1) ∧ w.cell? ⟨b, o + i * 2 + 1, none⟩ = some (.int .i64 p.2)
section
variable {w w' : World} {B B' base : Nat} {A : Option Addr} {l : List (Int × Int)} {v : Value}
theorem HasN.spot (h : HasN w B A l) {k : Nat} (hk : k < l.length) :
    ∃ b o p, A = some ⟨b, o, none⟩ ∧ b < B ∧ l[k]? = some p ∧ w.cell? ⟨b, o + k * 2, none⟩ = some (.int .i64 p.1) ∧ w.cell? ⟨b, o + k * 2 + 1, none⟩ = some (.int .i64 p.2) := by
  rcases h with rfl | ⟨b, o, rfl, hb, hc⟩
  · simp at hk
  · exact ⟨b, o, l[k], rfl, hb, List.getElem?_eq_getElem hk, hc k _ (List.getElem?_eq_getElem hk)⟩
theorem HasN.kept (h : HasN w B A l) (hk : ∀ p : Addr, p.block < B → w'.cell? p = w.cell? p) : HasN w' B A l := by
  rcases h with rfl | ⟨b, o, rfl, hb, hc⟩
  · exact .inl rfl
  · exact .inr ⟨b, o, rfl, hb, fun i x hx => ⟨(hk ⟨b, o + i * 2, none⟩ hb).trans (hc i x hx).1, (hk ⟨b, o + i * 2 + 1, none⟩ hb).trans (hc i x hx).2⟩⟩
theorem HasN.wider (h : HasN w B A l) (hB : B ≤ B') : HasN w B' A l := by
  rcases h with rfl | ⟨b, o, rfl, hb, hc⟩
  · exact .inl rfl
  · exact .inr ⟨b, o, rfl, by omega, hc⟩
theorem HasN.below (h : HasN w B A l) (hb : Below B w w') : HasN w' B A l := h.kept fun _ hp => hb.cell hp
theorem HasN.carry (h : HasN w B A l) {C : Nat} (hb : Below C w w') (hB : B ≤ C) (hC : C ≤ w'.heap.size) : HasN w' w'.heap.size A l :=
  (h.kept (w' := w') fun _ hp => hb.cell (Nat.lt_of_lt_of_le hp hB)).wider (Nat.le_trans hB hC)
theorem HasN.drewN (h : HasN w B A l) (n : Nat) : HasN (w.drewN n) B A l := h
/-- The slice value v is the call's own and holds the pairs l. -/
def OwnN (w : World) (base : Nat) (v : Value) (l : List (Int × Int)) : Prop := w.ownsRow base 39 2 v l.length (flat l)
theorem OwnN.has (h : OwnN w base v l) : ∃ A c, v = .slice A l.length c ∧ l.length ≤ c ∧ HasN w w.heap.size A l := by
  rcases h.2 with ⟨rfl, hn⟩ | ⟨g, cap, cur, rfl, _, hg, hc, _, _, ht⟩
  · exact ⟨none, 0, by rw [hn], by omega, .inl (List.eq_nil_of_length_eq_zero hn)⟩
  · refine ⟨_, cap, rfl, hc, .inr ⟨g, 0, rfl, (Array.getElem?_eq_some_iff.1 hg).1, fun i x hx => ?_⟩⟩
    have h2 : w.ownsRow base 39 2 (.slice (some ⟨g, 0, none⟩) l.length cap) l.length (flat l) := h
    have hi : i < l.length := (List.getElem?_eq_some_iff.1 hx).1
    have hf := flat_at l i x hx
    rw [Nat.zero_add, h2.cellAt (i * 2) (by omega), h2.cellAt (i * 2 + 1) (by omega)]
    exact hf
theorem OwnN.reads {n c : Nat} (h : OwnN w base (.slice A n c) l) : HasN w w.heap.size A l := by
  obtain ⟨A', c', e, _, hh⟩ := h.has
  injection e with e1 _ _
  rw [e1]
  exact hh
end

theorem row_below {w w' : World} {base B : Nat} {e : TypeId} {size : Nat} {v : Value} {n : Nat} {xs : List Value} (h : w.ownsRow base e size v n xs) (hb : Below B w w') (hB : w.heap.size ≤ B) : w'.ownsRow base e size v n xs := by
  refine ⟨h.1, ?_⟩
  rcases h.2 with hn | ⟨g, cap, cur, rfl, hg, hh, rest⟩
  · exact .inl hn
  · exact .inr ⟨g, cap, cur, rfl, hg, (hb.block g (Nat.lt_of_lt_of_le (Array.getElem?_eq_some_iff.1 hh).1 hB)).trans hh, rest⟩
theorem infoN : (Tryd.prog.info? 39).map (fun i => (i.zero, i.size, i.bytes)) = some (some (.agg #[.int .i64 0, .int .i64 0]), 2, 16) := by kernel_rfl
/-- What is copied after k of the pairs: the first k, and noughts. -/
def partN (l : List (Int × Int)) (k : Nat) : List Value := flat (l.take k) ++ List.replicate ((l.length - k) * 2) (.int .i64 0)
theorem partN_all (l : List (Int × Int)) : partN l l.length = flat l := by simp [partN]
theorem madeN (n : Nat) : (madeCells (Value.agg #[.int .i64 0, .int .i64 0]).cells (n * 2)).toList = List.replicate (n * 2) (.int .i64 0) := by
  apply List.ext_getElem?
  intro i
  by_cases hi : i < n * 2
  · have h2 : i % 2 = 0 ∨ i % 2 = 1 := by omega
    rcases h2 with h2 | h2 <;> simp [madeCells, hi, Value.cells, h2]
  · simp [madeCells, hi]
theorem partN_zero (l : List (Int × Int)) : partN l 0 = List.replicate (l.length * 2) (.int .i64 0) := by simp [partN, flat_nil]
theorem partN_length (l : List (Int × Int)) (k : Nat) (hk : k ≤ l.length) : (partN l k).length = l.length * 2 := by
  simp only [partN, List.length_append, flat_length, List.length_take, List.length_replicate]
  omega
theorem partN_set (l : List (Int × Int)) (k : Nat) (p : Int × Int) (hp : l[k]? = some p) : ((partN l k).set (k * 2) (.int .i64 p.1)).set (k * 2 + 1) (.int .i64 p.2) = partN l (k + 1) := by
  obtain ⟨hk, hpk⟩ := List.getElem?_eq_some_iff.1 hp
  have h1 : (flat (l.take k)).length = k * 2 := by rw [flat_length, List.length_take]; omega
  obtain ⟨m, hm⟩ : ∃ m, l.length - k = m + 1 := ⟨l.length - k - 1, by omega⟩
  unfold partN
  rw [List.set_append_right _ _ (by omega), List.set_append_right _ _ (by omega), h1, Nat.sub_self, show k * 2 + 1 - k * 2 = 1 from by omega, hm, show l.length - (k + 1) = m from by omega,
    show (m + 1) * 2 = m * 2 + 1 + 1 from by omega, List.replicate_succ, List.replicate_succ, List.set_cons_zero, List.set_cons_succ, List.set_cons_zero, List.take_add_one, hp, flat_append]
  simp [flat, nv]

set_option maxHeartbeats 400000 in
theorem toBitNumS_any (A : Option Addr) (c : Nat) (l : List (Int × Int)) (w : World) (hs : l.length ≤ 1073741824) (h : HasN w w.heap.size A l) :
    Calls Tryd.prog 7 #[.slice A l.length c] w fun e w' => e = .returned (.slice (some ⟨w.heap.size, 0, none⟩) l.length l.length) ∧
      OwnN w' w.heap.size (.slice (some ⟨w.heap.size, 0, none⟩) l.length l.length) l ∧ Below w.heap.size w w' := by
  obtain ⟨i0, hi, hz0, hz1, hz2⟩ := info_parts infoN
  go_enter Tryd.func7, Tryd.ntmps7
  go_wp2_with (at_make; refine wpList_make_full _ rfl _ _ 26 rfl w.heap.size 39 i0 (.agg #[.int .i64 0, .int .i64 0]) 2 Tryd.underlying26 hi hz0 hz1 _ _ _ _ l.length rfl rfl rfl rfl (by rw [hz2]; omega) (by unfold maxLen; omega) (Nat.le_refl _) ?_; intro w1 hown hgrow)
  have hb1 : Below w.heap.size w w1 := (Below.refl _ w).grown hgrow (Nat.le_refl _) (fun _ e => by cases e)
  have ho1 : w1.ownsRow w.heap.size 39 2 (.slice (some ⟨w.heap.size, 0, none⟩) l.length l.length) l.length (partN l 0) := by
    rw [partN_zero, ← madeN]
    exact hown
  clear hown hgrow
  go_loopw [4] (fun i wr => ∃ k : Nat, k ≤ l.length ∧ i = .int .i64 k ∧ wr.ownsRow w.heap.size 39 2 (.slice (some ⟨w.heap.size, 0, none⟩) l.length l.length) l.length (partN l k) ∧ Below w.heap.size w wr)
    (fun i _ => l.length - (intOf i).toNat)
  case atStart => exact ⟨0, Nat.zero_le _, rfl, ho1, hb1⟩
  case round =>
    obtain ⟨k, hk, rfl, hown, hbel⟩ := hrel
    by_cases hlt : k < l.length
    · obtain ⟨b, o, p, rfl, hbB, hp, hc0, hc1⟩ := h.spot hlt
      have d0 := (hbel.cell (p := ⟨b, o + k * 2, none⟩) hbB).trans hc0
      have d1 := (hbel.cell (p := ⟨b, o + k * 2 + 1, none⟩) hbB).trans hc1
      have hkl := partN_length l k hk
      have HO := Lib.hid hown
      have HB := Lib.hid hbel
      have HP := Lib.hid hp
      clear hown hbel hp hc0 hc1 h ho1 hb1
      have CT := Lib.hid (toBitNum_any p.1 p.2)
      unfold bnum at CT
      go_wp2_with fail
      refine (CT.out _).mono ?_
      rintro e w2 ⟨rfl, hb2⟩
      have ho2 := row_below HO.out hb2 (Nat.le_refl _)
      have hB2 := HB.out.trans (hb2.mono HB.out.size)
      have f0 := ho2.frozenAt (k * 2)
      have f1 := ho2.frozenAt (k * 2 + 1)
      obtain ⟨y0, hy0⟩ : ∃ y, w2.cell? ⟨w.heap.size, k * 2, none⟩ = some y := by
        rw [ho2.cellAt (k * 2) (by omega)]
        exact ⟨_, List.getElem?_eq_getElem (by omega)⟩
      obtain ⟨y1, hy1⟩ : ∃ y, w2.cell? ⟨w.heap.size, k * 2 + 1, none⟩ = some y := by
        rw [ho2.cellAt (k * 2 + 1) (by omega)]
        exact ⟨_, List.getElem?_eq_getElem (by omega)⟩
      have hst := (ho2.stored (k * 2) (.int .i64 p.1)).1.stored (k * 2 + 1) (.int .i64 p.2)
      rw [partN_set l k p HP.out] at hst
      have HS := Lib.hid hst.1
      have HBB := Lib.hid ((hB2.setCell (p := ⟨w.heap.size, k * 2, none⟩) (Nat.le_refl _) (.int .i64 p.1)).setCell (p := ⟨w.heap.size, k * 2 + 1, none⟩) (Nat.le_refl _) (.int .i64 p.2))
      clear hb2 ho2 hB2 hst hkl HO HB CT d0 d1
      go_wp2_with fail
      go_roundw
      case rel => exact ⟨k + 1, by omega, by go_num, HS.out, HBB.out⟩
      case measure => simp [intOf]; omega
    · obtain rfl : k = l.length := by omega
      rw [partN_all] at hown
      have HO := Lib.hid hown
      clear hown
      go_wp2
      go_ret
      exact ⟨rfl, HO.out, hbel⟩
end Go.Proofs.YtfdbonlagfmegaaDoor
