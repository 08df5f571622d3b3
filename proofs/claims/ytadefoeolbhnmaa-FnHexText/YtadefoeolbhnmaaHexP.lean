/-
  Plain facts: reading a text of bytes gives these bytes, and a text that is read is the text of what it says. No condition.
-/
import Derived.Test.YtadefoeolbhnmaaHexR
namespace Go.Proofs.Ytadefoeolbhnmaa

theorem dval_dig (n : Nat) (hn : n < 16) : dval (dig n) = (n : Int) := by
  have e : ∀ q : Fin 16, dval (dig q.val) = (q.val : Int) := by decide +kernel
  exact e ⟨n, hn⟩
theorem dig_dval (c : UInt8) (h : 0 ≤ dval c) : dig (dval c).toNat = c := by
  have e : ∀ q : Fin 256, 0 ≤ dval (UInt8.ofNat q.val) → dig (dval (UInt8.ofNat q.val)).toNat = UInt8.ofNat q.val := by decide +kernel
  have := e ⟨c.toNat, c.toNat_lt⟩
  simp only [UInt8.ofNat_toNat] at this
  exact this h
theorem two_dig (b : UInt8) : two (dig (b.toNat / 16)) (dig (b.toNat % 16)) = b := by
  have := b.toNat_lt
  unfold two
  rw [dval_dig _ (by omega), dval_dig _ (by omega)]
  have e : (16 * ((b.toNat / 16 : Nat) : Int) + ((b.toNat % 16 : Nat) : Int)).toNat = b.toNat := by omega
  rw [e]
  simp
theorem hexL_at : ∀ (l : List UInt8) (i : Nat) (b : UInt8), l[i]? = some b → (hexL l)[2 * i]? = some (dig (b.toNat / 16)) ∧ (hexL l)[2 * i + 1]? = some (dig (b.toNat % 16))
  | [], i, b, h => by simp at h
  | c :: l, 0, b, h => by simp at h; subst h; rw [hexL_cons]; simp
  | c :: l, i + 1, b, h => by
    rw [hexL_cons, show 2 * (i + 1) = 2 * i + 1 + 1 from by omega]
    simpa using hexL_at l i b (by simpa using h)
theorem rdOk_hexL (l : List UInt8) : rdOk (hexL l) = true := by
  simp only [rdOk, Bool.and_eq_true, List.all_eq_true, decide_eq_true_eq]
  refine ⟨by rw [hexL_length]; omega, fun c hc => ?_⟩
  simp only [hexL, List.mem_flatMap, List.mem_cons, List.not_mem_nil, or_false] at hc
  obtain ⟨b, _, hb⟩ := hc
  have := b.toNat_lt
  rcases hb with rfl | rfl
  · rw [dval_dig _ (by omega)]; omega
  · rw [dval_dig _ (by omega)]; omega
theorem rd_hexL (l : List UInt8) : rd (hexL l) = l := by
  rw [rd, if_pos (rdOk_hexL l), hexL_length, show 2 * l.length / 2 = l.length from by omega]
  apply List.ext_getElem?
  intro i
  by_cases h : i < l.length
  · obtain ⟨h1, h2⟩ := hexL_at l i l[i] (List.getElem?_eq_getElem h)
    simp only [rdTo, List.getElem?_map, List.getElem?_range h, Option.map_some, List.getD, h1, h2, Option.getD_some, two_dig]
    rw [List.getElem?_eq_getElem h]
  · rw [List.getElem?_eq_none (by rw [rdTo_length]; omega), List.getElem?_eq_none (by omega)]
theorem hexL_rdTo (l : List UInt8) (h : ∀ c ∈ l, 0 ≤ dval c) : ∀ k, 2 * k ≤ l.length → hexL (rdTo l k) = l.take (2 * k)
  | 0, _ => by simp [rdTo, hexL]
  | k + 1, hk => by
    have ha : l[2 * k]? = some l[2 * k] := List.getElem?_eq_getElem (by omega)
    have hb : l[2 * k + 1]? = some l[2 * k + 1] := List.getElem?_eq_getElem (by omega)
    have pa := h l[2 * k] (List.getElem_mem _)
    have pb := h l[2 * k + 1] (List.getElem_mem _)
    have qa := dval_hi l[2 * k]
    have qb := dval_hi l[2 * k + 1]
    rw [rdTo_succ l k _ _ ha hb, hexL_append, hexL_rdTo l h k (by omega), show 2 * (k + 1) = 2 * k + 1 + 1 from by omega, List.take_succ_eq_append_getElem (by omega), List.take_succ_eq_append_getElem (by omega)]
    have e : (two l[2 * k] l[2 * k + 1]).toNat = (16 * dval l[2 * k] + dval l[2 * k + 1]).toNat := by unfold two; simp; omega
    have e1 : (two l[2 * k] l[2 * k + 1]).toNat / 16 = (dval l[2 * k]).toNat := by omega
    have e2 : (two l[2 * k] l[2 * k + 1]).toNat % 16 = (dval l[2 * k + 1]).toNat := by omega
    have e3 : hexL [two l[2 * k] l[2 * k + 1]] = [l[2 * k], l[2 * k + 1]] := by
      rw [hexL_cons, hexL_nil, e1, e2, dig_dval _ pa, dig_dval _ pb]
    rw [e3, List.append_assoc]
    rfl
theorem hexL_rd (l : List UInt8) (h : rdOk l = true) : hexL (rd l) = l := by
  have h' := h
  simp only [rdOk, Bool.and_eq_true, List.all_eq_true, decide_eq_true_eq] at h'
  rw [rd, if_pos h, hexL_rdTo l h'.2 _ (by omega), show 2 * (l.length / 2) = l.length from by omega, List.take_length]
end Go.Proofs.Ytadefoeolbhnmaa
