/-
  l20Bent answers a text that is at most one character longer. Conditions: fewer than 10^8 draws before, at most 10^6 characters.
-/
import Derived.Test.YtbejafbpipdbjaaDoorDrawZ
import Derived.Test.YtbejafbpipdbjaaDoorPush
import Derived.Laws.DeepStrings4
import Derived.Laws.Concat
namespace Go.Proofs.YtbejafbpipdbjaaDoor
set_option maxRecDepth 4000
open Go.RowKit

/-- What l20Bent answers: some text, at most one character longer. -/
def DrewS (w : World) (g p n : Nat) (e : Ending) (w' : World) : Prop :=
  ∃ s : ByteArray, ∃ p', e = .returned (.string s) ∧ s.size ≤ n + 1 ∧ p' ≤ p + 4 ∧ Rdr w' g p' ∧ w.grownBy w' (some g)

theorem only_drewN {a w : World} {row : Option Nat} (h : a.grownBy w row) (n : Nat) : a.grownBy (w.drewN n) row := ⟨h.os, h.tape, h.output, h.size, h.block⟩

theorem one_size (x : UInt8) : (⟨#[x]⟩ : ByteArray).size = 1 := rfl
theorem cut_in (s : ByteArray) (x : UInt8) (k : Nat) (hk : k ≤ s.size) : (s.extract 0 k ++ ⟨#[x]⟩ ++ s.extract k s.size).size ≤ s.size + 1 := by
  simp only [ByteArray.size_append, ByteArray.size_extract, one_size]
  omega
theorem cut_out (s : ByteArray) (k : Nat) : (s.extract 0 k ++ s.extract (k + 1) s.size).size ≤ s.size + 1 := by
  simp only [ByteArray.size_append, ByteArray.size_extract]
  omega
theorem cut_turn (s : ByteArray) (x : UInt8) (k : Nat) (hk : k < s.size) : (s.extract 0 k ++ ⟨#[x]⟩ ++ s.extract (k + 1) s.size).size ≤ s.size + 1 := by
  simp only [ByteArray.size_append, ByteArray.size_extract, one_size]
  omega

set_option maxHeartbeats 1000000 in
theorem l20Bent_any (g p : Nat) (s : ByteArray) (w : World) (h : Rdr w g p) (hp : p ≤ 100000000) (hn : s.size ≤ 1000000) :
    Calls Tryd.prog 66 #[.pointer (some ⟨g, 0, none⟩), .string s] w (DrewS w g p s.size) := by
  have hgw := h.lt
  go_enter Tryd.func66, Tryd.ntmps66
  go_wp2_with fail
  refine (pick_any g p _ _ h (by omega) (by omega) (by omega)).mono ?_
  rintro e w1 ⟨k, rfl, hk, -, hr1, hg1, -⟩
  have hk : k ≤ s.size := by have := hk (by omega); omega
  go_wp2_with fail
  refine (pick_any g (p + 1) _ _ hr1 (by omega) (by omega) (by omega)).mono ?_
  rintro e w2 ⟨a, rfl, -, -, hr2, hg2, -⟩
  go_wp2_with fail
  refine (pick_any g (p + 1 + 1) _ _ (hr2.alloc _) (by omega) (by omega) (by omega)).mono ?_
  rintro e w3 ⟨j, rfl, hj, -, hr3, hg3, -⟩
  have hj8 : j < 8 := by have := hj (by omega); omega
  clear hj
  obtain ⟨z, hz⟩ : ∃ z : Int, w3.cell? ⟨w2.heap.size, j, none⟩ = some (.int .i64 z) := by
    have hc : ∀ z, #[Value.int .i64 32, .int .i64 48, .int .i64 49, .int .i64 57, .int .i64 47, .int .i64 46, .int .i64 97, .int .i64 (a : Int)][j]? = some (.int .i64 z) → w3.cell? ⟨w2.heap.size, j, none⟩ = some (.int .i64 z) := fun z hz =>
      hg3.cell ((World.cell?_alloc_mark w2 _ _ _ j).trans hz) (by have := hg1.size; have := hg2.size; simp; omega)
    match j, hj8 with
    | 0, _ => exact ⟨_, hc _ rfl⟩
    | 1, _ => exact ⟨_, hc _ rfl⟩
    | 2, _ => exact ⟨_, hc _ rfl⟩
    | 3, _ => exact ⟨_, hc _ rfl⟩
    | 4, _ => exact ⟨_, hc _ rfl⟩
    | 5, _ => exact ⟨_, hc _ rfl⟩
    | 6, _ => exact ⟨_, hc _ rfl⟩
    | 7, _ => exact ⟨_, hc _ rfl⟩
  obtain ⟨x, hx⟩ := byte_of z
  have hgr3 : w.grownBy w3 (some g) := grown_trans (grown_trans hg1 hg2) (grown_trans (World.grownBy_alloc w2 _ _) hg3)
  have hcv := text_of_own (own_lit w3 x)
  clear hg1 hg2 hg3 hr1 hr2
  go_wp2_with fail
  refine (pick_any g (p + 1 + 1 + 1) _ _ (hr3.alloc _) (by omega) (by omega) (by omega)).mono ?_
  rintro e w4 ⟨m, rfl, hm, -, hr4, hg4, -⟩
  have hgr4 : w.grownBy w4 (some g) := grown_trans hgr3 (grown_trans (World.grownBy_alloc w3 (.cells #[.int .u8 (x.toNat : Int)] 5) _) hg4)
  clear hgr3 hg4 hr3 hcv hz hx h
  by_cases m0 : m = 0
  · subst m0
    go_wp2_with fail
    go_quiet (fail)
    go_wp2
    go_ret
    exact ⟨_, p + 1 + 1 + 1 + 1, rfl, cut_in s x k hk, by omega, hr4.drewN _, only_drewN hgr4 _⟩
  · by_cases m1 : m = 1
    · subst m1
      by_cases hkl : k < s.size
      · go_wp2_with fail
        go_quiet (fail)
        go_wp2
        go_ret
        exact ⟨_, p + 1 + 1 + 1 + 1, rfl, cut_out s k, by omega, hr4.drewN _, only_drewN hgr4 _⟩
      · go_wp2_with fail
        go_wp2
        go_ret
        exact ⟨_, p + 1 + 1 + 1 + 1, rfl, by omega, by omega, hr4, hgr4⟩
    · have e0 : ((m : Int) == 0) = false := beq_eq_false_iff_ne.2 (by omega)
      have e1 : ((m : Int) == 1) = false := beq_eq_false_iff_ne.2 (by omega)
      by_cases hkl : k < s.size
      · go_wp2_with fail
        go_quiet (fail)
        go_wp2
        go_ret
        exact ⟨_, p + 1 + 1 + 1 + 1, rfl, cut_turn s x k hkl, by omega, hr4.drewN _, only_drewN hgr4 _⟩
      · go_wp2_with fail
        go_wp2
        go_ret
        exact ⟨_, p + 1 + 1 + 1 + 1, rfl, by omega, by omega, hr4, hgr4⟩
end Go.Proofs.YtbejafbpipdbjaaDoor
