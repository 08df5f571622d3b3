/-
  Which operations can be done one behind the other, and what they come to. Plain lemmas; no condition.
-/
import Derived.Test.YtiemlakjallphaaDoorEaDo
namespace Go.Proofs.YtiemlakjallphaaDoor
set_option maxRecDepth 4000
open Go.RowKit

theorem can_nil {r : Ra} : canAll r [] := trivial
theorem can_one {r s : Ra} {o : Op} {l : List Op} (ho : opB o = true) (hd : doR r o = some s) (hl : canAll s l) : canAll r (o :: l) := ⟨ho, s, hd, hl⟩
theorem can_t {r : Ra} {l : List Op} (h : canAll (turnR r) l) : canAll r (tO :: l) := can_one rfl rfl h
theorem can_x {r : Ra} {l : List Op} (h : canAll (flipXR r) l) : canAll r (xO :: l) := can_one rfl rfl h
theorem can_y {r : Ra} {l : List Op} (h : canAll (flipYR r) l) : canAll r (yO :: l) := can_one rfl rfl h
theorem can_g {r : Ra} {l : List Op} (h : canAll (eachR grayP r) l) : canAll r (gO :: l) := can_one rfl rfl h
theorem can_b {r : Ra} {l : List Op} (h : canAll (blurR r) l) : canAll r (bO :: l) := can_one rfl rfl h
theorem opB_s {a b : Nat} (ha : 1 ≤ a ∧ a ≤ 6) (hb : 1 ≤ b ∧ b ≤ 6) : opB (sO (a : Int) (b : Int)) = true := by
  unfold opB inR sO
  simp only [show ¬ ((7 : Int) = 1) by decide, if_false, if_true, Bool.and_eq_true, decide_eq_true_eq]
  omega
theorem opB_f {a b c : Int} (ha : 0 ≤ a ∧ a ≤ 255) (hb : 0 ≤ b ∧ b ≤ 255) (hc : 0 ≤ c ∧ c ≤ 255) : opB (fO a b c) = true := by
  unfold opB inR fO
  simp only [show ¬ ((8 : Int) = 1) by decide, show ¬ ((8 : Int) = 7) by decide, if_false, if_true, Bool.and_eq_true, decide_eq_true_eq]
  omega
theorem opB_c {a b c d : Nat} (ha : a ≤ 5) (hb : b ≤ 5) (hc : 1 ≤ c ∧ c ≤ 6) (hd : 1 ≤ d ∧ d ≤ 6) : opB (cO (a : Int) (b : Int) (c : Int) (d : Int)) = true := by
  unfold opB inR cO
  simp only [if_true, Bool.and_eq_true, decide_eq_true_eq]
  omega
theorem can_s {r : Ra} {l : List Op} {a b : Nat} (ha : 1 ≤ a ∧ a ≤ 6) (hb : 1 ≤ b ∧ b ≤ 6) (h : canAll (sizeR r a b) l) : canAll r (sO (a : Int) (b : Int) :: l) := can_one (opB_s ha hb) rfl h
theorem can_f {r : Ra} {l : List Op} {a b c : Int} (ha : 0 ≤ a ∧ a ≤ 255) (hb : 0 ≤ b ∧ b ≤ 255) (hc : 0 ≤ c ∧ c ≤ 255) (h : canAll (eachR (flatP1 (fO a b c)) r) l) : canAll r (fO a b c :: l) := can_one (opB_f ha hb hc) rfl h
theorem can_c {r : Ra} {l : List Op} {a b c d : Nat} (hr : r.ok) (hc : 1 ≤ c) (hd : 1 ≤ d) (hac : a + c ≤ r.w) (hbd : b + d ≤ r.h) (h : canAll (cropR r a b c d) l) : canAll r (cO (a : Int) (b : Int) (c : Int) (d : Int) :: l) := by
  have h1 := hr.parts.1
  have h2 := hr.parts.2.1
  refine can_one (opB_c (by omega) (by omega) (by omega) (by omega)) ?_ h
  unfold doR cO
  simp only [if_true]
  rw [if_neg (by omega)]
  rfl
theorem ea_ok {r : Ra} : ∀ {l : List Op}, r.ok → canAll r l → (eaR r l).ok := by
  intro l
  induction l generalizing r with
  | nil => intro h _; exact h
  | cons o l ih =>
    intro h hc
    obtain ⟨_, s, _, hs, hl, e⟩ := canAll_step h hc
    rw [e]
    exact ih hs hl
theorem HasP.px {w : World} {B b d i : Nat} {l : List Px} {q : Px} (h : HasP w B (some ⟨b, d, none⟩) l) (hq : l[i]? = some q) : b < B ∧ PxAt w b (d + i * 4) q := by
  rcases h with rfl | ⟨b', o', e, hb, hc⟩
  · simp at hq
  · injection e with e
    injection e with e1 e2 _
    subst e1 e2
    exact ⟨hb, hc i q hq⟩
theorem HasP.some {w : World} {B : Nat} {A : Option Addr} {l : List Px} (h : HasP w B A l) (hl : 1 ≤ l.length) : ∃ b d, A = some ⟨b, d, none⟩ := by
  obtain ⟨b, d, _, e, _⟩ := h.spot (k := 0) (by omega)
  exact ⟨b, d, e⟩
theorem mk_get {W H i : Nat} {f : Nat → Nat → Px} (hi : i < W * H) : (mkR W H f).p[i]? = some (f (i % W) (i / W)) := tab_at f hi
theorem ok_get {r : Ra} (h : r.ok) {i : Nat} {q : Px} (hq : r.p[i]? = some q) : i < r.w * r.h ∧ i % r.w < r.w ∧ i / r.w < r.h ∧ r.at (i % r.w) (i / r.w) = q := by
  have hi : i < r.w * r.h := by
    rw [← h.parts.2.2.1]
    exact (List.getElem?_eq_some_iff.1 hq).1
  obtain ⟨h1, h2, h3⟩ := place_back hi
  refine ⟨hi, h1, h2, ?_⟩
  unfold Ra.at
  rw [h3, hq]
  rfl
theorem each_get {g : Px → Px} {r : Ra} (h : r.ok) {i : Nat} {q : Px} (hq : r.p[i]? = some q) : (eachR g r).p[i]? = some (g q) := by
  obtain ⟨hi, _, _, e⟩ := ok_get h hq
  show (mkR r.w r.h fun x y => g (r.at x y)).p[i]? = _
  rw [mk_get hi, e]
theorem gray_in {q : Px} (hq : pixB q = true) : min q.r (min q.g q.b) ≤ (grayP q).r ∧ (grayP q).r ≤ max q.r (max q.g q.b) := by
  obtain ⟨h1, h2, h3, h4⟩ := pixB_parts hq
  unfold grayP
  simp only
  omega
section
variable {r : Ra} (h : r.ok)
include h
theorem eq_group1 : eaR r [xO, tO, xO] = eaR r [tO, tO, tO] := by
  rw [ea_x h, ea_t (flipXR_ok h), ea_x (turnR_ok (flipXR_ok h)), ea_t h, ea_t (turnR_ok h), ea_t (turnR_ok (turnR_ok h)), eaR_nil, eaR_nil]
  exact group1 h
theorem eq_group2 : eaR r [yO] = eaR r [xO, tO, tO] := by
  rw [ea_y h, ea_x h, ea_t (flipXR_ok h), ea_t (turnR_ok (flipXR_ok h)), eaR_nil, eaR_nil]
  exact group2 h
theorem eq_group3 : eaR r [tO, xO, tO, xO] = r := by
  rw [ea_t h, ea_x (turnR_ok h), ea_t (flipXR_ok (turnR_ok h)), ea_x (turnR_ok (flipXR_ok (turnR_ok h))), eaR_nil]
  exact group3 h
end
end Go.Proofs.YtiemlakjallphaaDoor
