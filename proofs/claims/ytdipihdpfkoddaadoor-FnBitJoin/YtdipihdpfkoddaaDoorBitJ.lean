/-
  Numbers of eight bits are bytes, and what is written behind whole bytes stands behind them. Plain functions alone; no condition.
-/
import Derived.Test.YtdipihdpfkoddaaDoorBitQ
namespace Go.Proofs.YtdipihdpfkoddaaDoor

theorem grow_shift (b l : List UInt8) (a : Nat) : grow (b ++ l) (8 * b.length + a) = b ++ grow l a := by
  unfold grow
  rw [show (8 * b.length + a) % 8 = a % 8 from by omega]
  split
  · rw [List.append_assoc]
  · rfl
theorem pushBit_shift (b l : List UInt8) (a bit : Nat) : pushBit (b ++ l) (8 * b.length + a) bit = b ++ pushBit l a bit := by
  unfold pushBit
  rw [grow_shift, show (8 * b.length + a) / 8 = b.length + a / 8 from by omega, show (8 * b.length + a) % 8 = a % 8 from by omega, List.set_append_right _ _ (by omega), List.getElem?_append_right (by omega), show b.length + a / 8 - b.length = a / 8 from by omega]
theorem pushTo_shift (b : List UInt8) (s : List UInt8 × Nat) (n : Nat) : ∀ j, pushTo (b ++ s.1, 8 * b.length + s.2) n j = (b ++ (pushTo s n j).1, 8 * b.length + (pushTo s n j).2)
  | 0 => rfl
  | j + 1 => by
    rw [pushTo, pushTo_shift b s n j, pushTo]
    simp only [pushBit_shift, Nat.add_assoc]
theorem fold_shift (b : List UInt8) : ∀ (ns : List (Int × Int)) (s : List UInt8 × Nat), ns.foldl (fun s p => pushTo s p.1.toNat p.2.toNat) (b ++ s.1, 8 * b.length + s.2) = (b ++ (ns.foldl (fun s p => pushTo s p.1.toNat p.2.toNat) s).1, 8 * b.length + (ns.foldl (fun s p => pushTo s p.1.toNat p.2.toNat) s).2)
  | [], _ => rfl
  | p :: t, s => by
    rw [List.foldl_cons, pushTo_shift, fold_shift b t, List.foldl_cons]
/-- Bytes as numbers of eight bits. -/
def bytes8 (b : List UInt8) : List (Int × Int) := b.map fun x => ((x.toNat : Int), 8)
theorem bytes8_length (b : List UInt8) : (bytes8 b).length = b.length := by simp [bytes8]
theorem one_byte : ∀ x : Fin 256, pushTo ([], 0) x.val 8 = ([UInt8.ofNat x.val], 8) := by decide +kernel
theorem packed_bytes (b : List UInt8) : packed (bytes8 b) = (b, 8 * b.length) := by
  suffices h : ∀ (b c : List UInt8), (bytes8 b).foldl (fun s p => pushTo s p.1.toNat p.2.toNat) (c, 8 * c.length) = (c ++ b, 8 * (c ++ b).length) by have := h b []; simp only [List.nil_append, List.length_nil, Nat.mul_zero] at this; exact this
  intro b
  induction b with
  | nil => intro c; simp [bytes8]
  | cons x t ih =>
    intro c
    have h1 := pushTo_shift c ([], 0) x.toNat 8
    rw [one_byte ⟨x.toNat, x.toNat_lt⟩] at h1
    simp only [List.append_nil, Nat.add_zero, UInt8.ofNat_toNat] at h1
    have h2 := ih (c ++ [x])
    rw [show 8 * (c ++ [x]).length = 8 * c.length + 8 from by simp; omega] at h2
    show (bytes8 t).foldl _ (pushTo (c, 8 * c.length) ((x.toNat : Int)).toNat (8 : Int).toNat) = _
    rw [show ((x.toNat : Int)).toNat = x.toNat from by simp, show (8 : Int).toNat = 8 from rfl, h1, h2]
    simp
theorem packed_join (b : List UInt8) (ns : List (Int × Int)) : packed (bytes8 b ++ ns) = (b ++ (packed ns).1, 8 * b.length + (packed ns).2) := by
  have h := fold_shift b ns ([], 0)
  simp only [List.append_nil, Nat.add_zero] at h
  have e : packed (bytes8 b ++ ns) = ns.foldl (fun s p => pushTo s p.1.toNat p.2.toNat) (packed (bytes8 b)) := by
    unfold packed
    rw [List.foldl_append]
  rw [e, packed_bytes]
  exact h
theorem okAll_bytes (b : List UInt8) : okAll (bytes8 b) = true := by
  unfold okAll bytes8
  rw [List.all_eq_true]
  intro p hp
  obtain ⟨x, _, rfl⟩ := List.mem_map.1 hp
  have := x.toNat_lt
  unfold bitOkB
  simp
  omega
theorem okAll_append (a b : List (Int × Int)) : okAll (a ++ b) = (okAll a && okAll b) := by unfold okAll; rw [List.all_append]
theorem put_bytes (b : List UInt8) (h : b.length ≤ 400) : bitPutB (bytes8 b) = b := by
  rw [put_good (okAll_bytes b) (by rw [packed_bytes]; show 8 * b.length ≤ 3200; omega), packed_bytes]
/-- What is written is written behind the bytes, where it is something and there is room. -/
theorem put_join (b : List UInt8) (ns : List (Int × Int)) (h : (bitPutB ns).length ≠ 0) (hr : b.length + (bitPutB ns).length ≤ 400) : bitPutB (bytes8 b ++ ns) = b ++ bitPutB ns := by
  have hc : (okAll ns && decide ((packed ns).2 ≤ 3200)) = true := by
    unfold bitPutB at h
    split at h
    · assumption
    · simp at h
  simp only [Bool.and_eq_true, decide_eq_true_eq] at hc
  have hp := put_good hc.1 hc.2
  rw [hp] at hr ⊢
  have hl := (packed_good ns).1
  rw [put_good (by rw [okAll_append, okAll_bytes, hc.1]; rfl) (by rw [packed_join]; show 8 * b.length + (packed ns).2 ≤ 3200; omega), packed_join]
end Go.Proofs.YtdipihdpfkoddaaDoor
