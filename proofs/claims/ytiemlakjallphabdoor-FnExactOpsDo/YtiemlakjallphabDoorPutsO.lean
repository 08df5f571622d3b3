/-
  What OpsDo answers for any raster and list, good or not (putsO), and what is known where all is done. Conditions as they stand.
-/
import Derived.Test.YtiemlakjallphabDoorOpsDo
namespace Go.Proofs.YtiemlakjallphabDoor
set_option maxRecDepth 4000
open Go.RowKit

/-- A raster as it was drawn, good or not. -/
structure Rw where
  w : Int
  h : Int
  p : List Px
theorem puts_small {W H : Int} {l : List Px} {ls : List Op} : ((putsO W H l ls).getD ra0).p.length ≤ 36 := by
  unfold putsO
  cases hq : (rasB W H l && opsB ls)
  · exact Nat.zero_le _
  · obtain ⟨h1, h2⟩ := Bool.and_eq_true_iff.1 hq
    obtain ⟨g1, g2, -, -⟩ := rasB_parts h1
    obtain ⟨r, e1, e2, e3⟩ : ∃ r : Ra, W = (r.w : Int) ∧ H = (r.h : Int) ∧ l = r.p := ⟨⟨W.toNat, H.toNat, l⟩, by simp only; omega, by simp only; omega, rfl⟩
    subst e1 e2 e3
    have hok : r.ok := h1
    rw [if_pos rfl]
    show ((opsR r ls).getD ra0).p.length ≤ 36
    cases hd : opsR r ls with
    | none => exact Nat.zero_le _
    | some s =>
      unfold opsB at h2
      exact (ra_len (opsR_ok hok (Bool.and_eq_true_iff.1 h2).1 hd)).2
theorem puts_some {W H : Int} {l : List Px} {ls : List Op} {s : Ra} (h : putsO W H l ls = some s) : ∃ r : Ra, W = (r.w : Int) ∧ H = (r.h : Int) ∧ l = r.p ∧ r.ok ∧ opsB ls = true ∧ opsR r ls = some s ∧ s.ok := by
  unfold putsO at h
  cases hq : (rasB W H l && opsB ls)
  · rw [hq] at h
    cases h
  · rw [hq, if_pos rfl] at h
    obtain ⟨h1, h2⟩ := Bool.and_eq_true_iff.1 hq
    obtain ⟨g1, g2, -, -⟩ := rasB_parts h1
    obtain ⟨r, e1, e2, e3⟩ : ∃ r : Ra, W = (r.w : Int) ∧ H = (r.h : Int) ∧ l = r.p := ⟨⟨W.toNat, H.toNat, l⟩, by simp only; omega, by simp only; omega, rfl⟩
    subst e1 e2 e3
    have hok : r.ok := h1
    have h2' := h2
    unfold opsB at h2'
    exact ⟨r, rfl, rfl, rfl, hok, h2, h, opsR_ok hok (Bool.and_eq_true_iff.1 h2').1 h⟩
theorem opsR_must {r rk s : Ra} {ls : List Op} {k : Nat} {x : Op} (hx : ls[k]? = some x) (hk : opsR r (ls.take k) = some rk) (h : opsR r ls = some s) : ∃ t, doR rk x = some t := by
  cases hd : doR rk x with
  | some t => exact ⟨t, rfl⟩
  | none => rw [opsR_none hx hk hd] at h; cases h
theorem opsR_halves {r s : Ra} {ls : List Op} (m : Nat) (h : opsR r ls = some s) : ∃ a, opsR r (ls.take m) = some a ∧ opsR a (ls.drop m) = some s := by
  rw [← List.take_append_drop m ls, opsR_append] at h
  exact Option.bind_eq_some_iff.1 h
theorem opsB_part {ls lt : List Op} (h : opsB ls = true) (hl : lt.length ≤ ls.length) (hm : ∀ x, x ∈ lt → x ∈ ls) : opsB lt = true := by
  unfold opsB at h ⊢
  obtain ⟨h1, h2⟩ := Bool.and_eq_true_iff.1 h
  have h2 := of_decide_eq_true h2
  rw [List.all_eq_true] at h1
  rw [Bool.and_eq_true, List.all_eq_true]
  exact ⟨fun x hx => h1 x (hm x hx), decide_eq_true (by omega)⟩
theorem own_ne {w : World} {base g : Nat} {A : Option Addr} {n c : Nat} {l : List Px} (h : OwnP w base (.slice A n c) l) (hg : g < base) : ∀ b o, A = some ⟨b, o, none⟩ → b ≠ g := fun b o e => by
  subst e
  rcases h.2 with ⟨e, -⟩ | ⟨g', cap, cur, e, hb, -⟩
  · cases e
  · injection e with e _ _
    injection e with e
    injection e with e1 _ _
    omega
end Go.Proofs.YtiemlakjallphabDoor
