/-
  What is read of a raster's bytes is the raster; what is read has the bytes; one byte less or one more is nothing. Plain functions alone; no condition.
-/
import Derived.Test.YtnnpjcbdcjdojaaRasRd
namespace Go.Proofs.Ytnnpjcbdcjdojaa
set_option maxRecDepth 4000

theorem rdP_leD (l : List UInt8) : (rdP l).length ≤ 36 := by
  unfold rdP
  cases h : rdB l
  · simp
  · obtain ⟨_, h1, h2, _⟩ := rdB_parts h
    have := mul36 h1 h2
    simp only [if_true, pxs_length]
    omega
theorem pxB_at (p : Px) (hp : pixB p = true) : ∀ l : List UInt8, pxAt ([0, 0] ++ (pxB p ++ l)) 0 = p := by
  intro l
  have hh : (0 ≤ p.r ∧ p.r ≤ 255) ∧ (0 ≤ p.g ∧ p.g ≤ 255) ∧ (0 ≤ p.b ∧ p.b ≤ 255) ∧ (0 ≤ p.a ∧ p.a ≤ 255) := by
    unfold pixB partB at hp
    simpa using hp
  obtain ⟨h1, h2, h3, h4⟩ := hh
  have e1 := pb_nat h1.1 h1.2
  have e2 := pb_nat h2.1 h2.2
  have e3 := pb_nat h3.1 h3.2
  have e4 := pb_nat h4.1 h4.2
  obtain ⟨r, g, b, a⟩ := p
  unfold pxAt byN pxB
  simp
  exact ⟨e1, e2, e3, e4⟩
/-- Bytes four further on are those of the rest. -/
theorem byN_shift (x y : UInt8) (p : Px) (l : List Px) (k i : Nat) : byN ([x, y] ++ (p :: l).flatMap pxB) (2 + 4 * (k + 1) + i) = byN ([x, y] ++ l.flatMap pxB) (2 + 4 * k + i) := by
  unfold byN
  rw [show 2 + 4 * (k + 1) + i = (4 * k + i + 4) + 2 from by omega, show 2 + 4 * k + i = (4 * k + i) + 2 from by omega]
  simp [pxB]
theorem pxAt_by (x y : UInt8) (l : List Px) (ha : l.all pixB = true) (k : Nat) (p : Px) (hk : l[k]? = some p) : pxAt ([x, y] ++ l.flatMap pxB) k = p := by
  induction l generalizing k with
  | nil => simp at hk
  | cons q l ih =>
    rw [List.all_cons, Bool.and_eq_true] at ha
    cases k with
    | zero =>
      simp at hk
      subst hk
      have := pxB_at q ha.1 (l.flatMap pxB)
      unfold pxAt byN at this ⊢
      simpa [pxB] using this
    | succ k =>
      have := ih ha.2 k (by simpa using hk)
      rw [← this]
      unfold pxAt
      have s0 := byN_shift x y q l k 0
      have s1 := byN_shift x y q l k 1
      have s2 := byN_shift x y q l k 2
      have s3 := byN_shift x y q l k 3
      rw [show 3 + 4 * (k + 1) = 2 + 4 * (k + 1) + 1 from by omega, show 4 + 4 * (k + 1) = 2 + 4 * (k + 1) + 2 from by omega, show 5 + 4 * (k + 1) = 2 + 4 * (k + 1) + 3 from by omega, show 3 + 4 * k = 2 + 4 * k + 1 from by omega, show 4 + 4 * k = 2 + 4 * k + 2 from by omega, show 5 + 4 * k = 2 + 4 * k + 3 from by omega]
      simp only [Nat.add_zero] at s0
      rw [s0, s1, s2, s3]
/-- What is read of a raster's bytes. -/
theorem read_by {W H : Int} {l : List Px} (h : rasB W H l = true) : rdB (rasBy W H l) = true ∧ rdW (rasBy W H l) = W ∧ rdH (rasBy W H l) = H ∧ rdP (rasBy W H l) = l := by
  obtain ⟨hW, hH, hl, ha⟩ := rasB_parts h
  have h36 := mul36 hW hH
  have e0 : byN (rasBy W H l) 0 = W := by
    show ((pb W).toNat : Int) = W
    exact pb_nat (by omega) (by omega)
  have e1 : byN (rasBy W H l) 1 = H := by
    show ((pb H).toNat : Int) = H
    exact pb_nat (by omega) (by omega)
  have hn := rasBy_length W H l
  have hT : rdB (rasBy W H l) = true := decide_eq_true ⟨by omega, by rw [e0, e1]; refine ⟨⟨hW.2, hH.2⟩, ?_⟩; rw [Int.mul_assoc]; omega⟩
  refine ⟨hT, by unfold rdW; rw [hT, e0]; rfl, by unfold rdH; rw [hT, e1]; rfl, ?_⟩
  unfold rdP
  rw [hT, e0, e1]
  have hnl : (W * H).toNat = l.length := by omega
  simp only [if_true, hnl]
  apply List.ext_getElem?
  intro k
  by_cases hk : k < l.length
  · obtain ⟨p, hp⟩ : ∃ p, l[k]? = some p := ⟨_, List.getElem?_eq_getElem hk⟩
    rw [hp]
    have := pxAt_by (pb W) (pb H) l ha k p hp
    unfold pxs
    simp [hk]
    exact this
  · rw [List.getElem?_eq_none (by rw [pxs_length]; omega), List.getElem?_eq_none (by omega)]
theorem flatB_at (l : List Px) (i : Nat) (p : Px) (h : l[i]? = some p) : (l.flatMap pxB)[i * 4]? = some (pb p.r) ∧ (l.flatMap pxB)[i * 4 + 1]? = some (pb p.g) ∧ (l.flatMap pxB)[i * 4 + 2]? = some (pb p.b) ∧ (l.flatMap pxB)[i * 4 + 3]? = some (pb p.a) := by
  induction l generalizing i with
  | nil => simp at h
  | cons q l ih =>
    cases i with
    | zero => simp at h; subst h; exact ⟨rfl, rfl, rfl, rfl⟩
    | succ i =>
      have := ih i (by simpa using h)
      rw [show (i + 1) * 4 = i * 4 + 1 + 1 + 1 + 1 from by omega]
      simpa [pxB] using this
/-- What RasRead reads of bytes has these bytes, and is a raster. -/
theorem by_read {l : List UInt8} (h : rdB l = true) : rasB (rdW l) (rdH l) (rdP l) = true ∧ rasBy (rdW l) (rdH l) (rdP l) = l := by
  obtain ⟨h6, h1, h2, hl⟩ := rdB_parts h
  have h36 := mul36 h1 h2
  have eW : rdW l = byN l 0 := by unfold rdW; rw [h]; rfl
  have eH : rdH l = byN l 1 := by unfold rdH; rw [h]; rfl
  obtain ⟨n, hn⟩ : ∃ n : Nat, byN l 0 * byN l 1 = (n : Int) := ⟨(byN l 0 * byN l 1).toNat, by omega⟩
  have eP : rdP l = pxs l n := by unfold rdP; rw [h, hn]; rfl
  have hln : l.length = 2 + 4 * n := by omega
  have hpb : ∀ i, i < l.length → pb (byN l i) = l[i]?.getD 0 := fun i _ => by
    unfold pb byN
    simp
  rw [eW, eH, eP]
  refine ⟨?_, ?_⟩
  · unfold rasB
    rw [decide_eq_true ⟨h1, h2, by rw [pxs_length, hn]⟩, Bool.true_and, List.all_eq_true]
    intro p hp
    obtain ⟨j, _, rfl⟩ := List.mem_map.1 hp
    unfold pixB partB pxAt
    have a0 := byN_in l (2 + 4 * j)
    have a1 := byN_in l (3 + 4 * j)
    have a2 := byN_in l (4 + 4 * j)
    have a3 := byN_in l (5 + 4 * j)
    simp only [Bool.and_eq_true, decide_eq_true_eq]
    exact ⟨a0, a1, a2, a3⟩
  · apply List.ext_getElem?
    intro i
    by_cases hi : i < l.length
    · obtain ⟨x, hx⟩ : ∃ x, l[i]? = some x := ⟨_, List.getElem?_eq_getElem hi⟩
      have hb : pb (byN l i) = x := by rw [hpb i hi, hx]; rfl
      rw [hx]
      unfold rasBy
      match i, hb with
      | 0, hb => simp [hb]
      | 1, hb => simp [hb]
      | k + 2, hb =>
        have hj : k / 4 < n := by omega
        have hp : (pxs l n)[k / 4]? = some (pxAt l (k / 4)) := by simp [pxs, hj]
        obtain ⟨f0, f1, f2, f3⟩ := flatB_at (pxs l n) (k / 4) (pxAt l (k / 4)) hp
        have hm4 : k % 4 = 0 ∨ k % 4 = 1 ∨ k % 4 = 2 ∨ k % 4 = 3 := by omega
        show ((pxs l n).flatMap pxB)[k]? = some x
        rcases hm4 with h4 | h4 | h4 | h4
        · rw [show k = k / 4 * 4 from by omega, f0, ← hb]
          unfold pxAt
          rw [show 2 + 4 * (k / 4) = k + 2 from by omega]
        · rw [show k = k / 4 * 4 + 1 from by omega, f1, ← hb]
          unfold pxAt
          rw [show 3 + 4 * (k / 4) = k + 2 from by omega]
        · rw [show k = k / 4 * 4 + 2 from by omega, f2, ← hb]
          unfold pxAt
          rw [show 4 + 4 * (k / 4) = k + 2 from by omega]
        · rw [show k = k / 4 * 4 + 3 from by omega, f3, ← hb]
          unfold pxAt
          rw [show 5 + 4 * (k / 4) = k + 2 from by omega]
    · rw [List.getElem?_eq_none (by rw [rasBy_length, pxs_length]; omega), List.getElem?_eq_none (by omega)]
/-- One byte less, or one more, is nothing. -/
theorem read_less {W H : Int} {l : List Px} (h : rasB W H l = true) : rdB ((rasBy W H l).take ((rasBy W H l).length - 1)) = false := by
  obtain ⟨hW, hH, hl, ha⟩ := rasB_parts h
  have h36 := mul36 hW hH
  have hn := rasBy_length W H l
  have hlen : ((rasBy W H l).take ((rasBy W H l).length - 1)).length = 1 + 4 * l.length := by rw [List.length_take]; omega
  cases hr : rdB ((rasBy W H l).take ((rasBy W H l).length - 1))
  · rfl
  · obtain ⟨_, _, _, e⟩ := rdB_parts hr
    rw [hlen] at e
    omega
theorem read_more (W H : Int) (l : List Px) : rdB (rasBy W H l ++ [0]) = false := by
  have hn := rasBy_length W H l
  have hlen : (rasBy W H l ++ [0]).length = 3 + 4 * l.length := by rw [List.length_append, hn]; simp; omega
  cases hr : rdB (rasBy W H l ++ [0])
  · rfl
  · obtain ⟨_, _, _, e⟩ := rdB_parts hr
    rw [hlen] at e
    omega
end Go.Proofs.Ytnnpjcbdcjdojaa
