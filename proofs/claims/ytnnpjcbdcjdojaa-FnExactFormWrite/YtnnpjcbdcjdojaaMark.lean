/-
  markByteS writes counted marks into a slice of the call's own and returns the next mark; heldByteS finds them there. Conditions: at most 2^30 bytes, marks from 0 on.
-/
import Derived.Test.YtnnpjcbdcjdojaaOwnSet
namespace Go.Proofs.Ytnnpjcbdcjdojaa
set_option maxRecDepth 4000
open Go.RowKit

/-- Bytes of which the first k are marks, counted from m on. -/
def marked (m : Nat) (l : List UInt8) (k : Nat) : List UInt8 := (List.range k).map (fun i => UInt8.ofNat (m + i)) ++ l.drop k
/-- n marks, counted from m on. -/
def marks (m n : Nat) : List UInt8 := (List.range n).map fun i => UInt8.ofNat (m + i)
theorem marked_zero (m : Nat) (l : List UInt8) : marked m l 0 = l := by simp [marked]
theorem marked_all (m : Nat) (l : List UInt8) : marked m l l.length = marks m l.length := by simp [marked, marks]
theorem marked_length (m : Nat) (l : List UInt8) (k : Nat) (hk : k ≤ l.length) : (marked m l k).length = l.length := by simp [marked]; omega
theorem marked_set (m : Nat) (l : List UInt8) (k : Nat) (hk : k < l.length) : (marked m l k).set k (UInt8.ofNat (m + k)) = marked m l (k + 1) := by
  unfold marked
  rw [List.set_append_right _ _ (by simp), List.length_map, List.length_range, Nat.sub_self, List.drop_eq_getElem_cons hk, List.set_cons_zero, List.range_succ, List.map_append]
  simp
theorem marks_length (m n : Nat) : (marks m n).length = n := by simp [marks]
theorem marks_at (m n k : Nat) (hk : k < n) : (marks m n)[k]? = some (UInt8.ofNat (m + k)) := by simp [marks, hk]

set_option maxHeartbeats 400000 in
theorem markByteS_any (A : Option Addr) (c : Nat) (l : List UInt8) (m base : Nat) (w : World) (hs : l.length ≤ 1073741824) (hm : m ≤ 1099511627776) (h : Own w base (.slice A l.length c) l) :
    Calls Try.prog 34 #[.slice A l.length c, .int .i64 m] w fun e w' => e = .returned (.int .i64 ((m + l.length : Nat) : Int)) ∧
      Own w' base (.slice A l.length c) (marks m l.length) ∧ w.grownBy w' (Value.slice A l.length c).ownBlock := by
  go_enter Try.func34, Try.ntmps34
  go_wp2
  go_loopw [1, 5] (fun t i wr => ∃ k : Nat, k ≤ l.length ∧ i = .int .i64 k ∧ t = .int .i64 ((m : Int) + k) ∧ Own wr base (.slice A l.length c) (marked m l k) ∧ w.grownBy wr (Value.slice A l.length c).ownBlock)
    (fun _ i _ => l.length - (intOf i).toNat)
  case atStart => exact ⟨0, Nat.zero_le _, rfl, by go_num, by rw [marked_zero]; exact h, World.grownBy.refl _ _⟩
  case round =>
    obtain ⟨k, hk, rfl, rfl, hown, hgr⟩ := hrel
    by_cases hlt : k < l.length
    · obtain ⟨g, rfl, hg1, hg2⟩ := hown.nonnil (by rw [marked_length m l k hk]; omega)
      have hl := marked_length m l k hk
      rw [← hl] at hown
      have hfr := World.ownsRow.frozenAt hown k
      have hsome : ∃ u, wr.cell? ⟨g, k, none⟩ = some u := by
        have := World.ownsRow.cellAt hown k (by omega)
        rw [this]
        exact ⟨_, List.getElem?_eq_getElem (by simp; omega)⟩
      obtain ⟨u, hu⟩ := hsome
      have hst := hown.set k (UInt8.ofNat (m + k))
      rw [marked_set m l k hlt, hl] at hst
      have e8 : IntKind.u8.wrap ((m : Int) + k) = (((UInt8.ofNat (m + k)).toNat : Nat) : Int) := by rw [IntKind.wrap_u8]; simp
      have HS := Lib.hid hst
      clear hst hl hown
      generalize UInt8.ofNat (m + k) = x at *
      go_wp2
      go_roundw
      case rel => exact ⟨k + 1, by omega, by go_num, by go_num, HS.out.1, grown_trans hgr HS.out.2⟩
      case measure => simp [intOf]; omega
    · obtain rfl : k = l.length := by omega
      rw [marked_all] at hown
      have HO := Lib.hid hown
      clear hown
      go_wp2
      go_ret
      exact ⟨by go_num, HO.out, hgr⟩

set_option maxHeartbeats 400000 in
theorem heldByteS_any (A : Option Addr) (c n m B : Nat) (w : World) (hs : n ≤ 1073741824) (hm : m ≤ 1099511627776) (h : Has w B A (marks m n)) :
    Calls Try.prog 36 #[.slice A n c, .int .i64 m] w fun e w' => e = .returned (.int .i64 ((m + n : Nat) : Int)) ∧ w = w' := by
  go_enter Try.func36, Try.ntmps36
  go_wp2
  go_loop [1, 5] (fun t i => ∃ k : Nat, k ≤ n ∧ i = .int .i64 k ∧ t = .int .i64 ((m : Int) + k)) (fun _ i => n - (intOf i).toNat)
  case atStart => exact ⟨0, Nat.zero_le _, rfl, by go_num⟩
  case round =>
    obtain ⟨k, hk, rfl, rfl⟩ := hrel
    by_cases hlt : k < n
    · obtain ⟨b, o, x, rfl, hbB, hx, hc⟩ := h.spot (k := k) (by rw [marks_length]; exact hlt)
      rw [marks_at m n k hlt] at hx
      have e8 : IntKind.u8.wrap ((m : Int) + k) = ((x.toNat : Nat) : Int) := by
        injection hx with hx
        rw [← hx, IntKind.wrap_u8]
        simp
      clear hx h
      go_wp2
      go_round
      case rel => exact ⟨k + 1, by omega, by go_num, by go_num⟩
      case measure => simp [intOf]; omega
    · obtain rfl : k = n := by omega
      go_wp2
      go_ret
      exact ⟨by go_num, rfl⟩

theorem markByteS_at (A : Option Addr) (c : Nat) (l : List UInt8) (t : Int) (m base : Nat) (ht : t = (m : Int)) (w : World) (hs : l.length ≤ 1073741824) (hm : m ≤ 1099511627776) (h : Own w base (.slice A l.length c) l) :
    Calls Try.prog 34 #[.slice A l.length c, .int .i64 t] w fun e w' => e = .returned (.int .i64 (t + (l.length : Int))) ∧
      Own w' base (.slice A l.length c) (marks m l.length) ∧ w.grownBy w' (Value.slice A l.length c).ownBlock := by
  subst ht
  have := markByteS_any A c l m base w hs hm h
  rw [Int.natCast_add] at this
  exact this
theorem heldByteS_at (A : Option Addr) (c n : Nat) (t : Int) (m B : Nat) (ht : t = (m : Int)) (w : World) (hs : n ≤ 1073741824) (hm : m ≤ 1099511627776) (h : Has w B A (marks m n)) :
    Calls Try.prog 36 #[.slice A n c, .int .i64 t] w fun e w' => e = .returned (.int .i64 (t + (n : Int))) ∧ w = w' := by
  subst ht
  have := heldByteS_any A c n m B w hs hm h
  rw [Int.natCast_add] at this
  exact this
end Go.Proofs.Ytnnpjcbdcjdojaa
