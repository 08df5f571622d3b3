/-
  szBitNumS counts a slice of bit numbers; eqBitNumS tells whether two slices hold the same; markBitNumS writes marks into one of the call's own. Condition: at most 2^30 numbers.
-/
import Derived.Test.YtfdbonlagfmegaaDoorNums
import Derived.StillTailTactics
namespace Go.Proofs.YtfdbonlagfmegaaDoor
open Go.RowKit

theorem szBitNumS_any (A : Option Addr) (n c : Nat) (w : World) (hn : n ≤ maxLen) :
    Calls Tryd.prog 5 #[.slice A n c, .int .i64 1048576] w fun e w' => e = .returned (.int .i64 (if n ≤ 1048576 then 1048576 - (n : Int) else -1)) ∧ w' = w := by
  have u1 := IntWalk.i64_in ((1048576 : Int) - (n : Int)) (by unfold maxLen at hn; omega)
  clear hn
  by_cases h : n ≤ 1048576
  · rw [if_pos h]
    have hb : ¬ ((1048576 : Int) - (n : Int) < 0) := by omega
    clear h
    go_enter Tryd.func5, Tryd.ntmps5
    go_wp2
    go_ret
    exact ⟨rfl, rfl⟩
  · rw [if_neg h]
    have hb : (1048576 : Int) - (n : Int) < 0 := by omega
    clear h
    go_enter Tryd.func5, Tryd.ntmps5
    go_wp2
    go_ret
    exact ⟨rfl, rfl⟩

theorem eqBitNum_same (n b : Int) (w : World) :
    Calls Tryd.prog 20 #[.agg #[.int .i64 n, .int .i64 b], .agg #[.int .i64 n, .int .i64 b]] w fun e w' => e = .returned (.bool true) ∧ Below w.heap.size w w' := by
  go_enter Tryd.func20, Tryd.ntmps20
  go_wp2
  go_ret
  exact ⟨rfl, ((Below.refl _ w).alloc (Nat.le_refl _) _).alloc (by simp) _⟩

set_option maxHeartbeats 400000 in
theorem eqBitNumS_same (A A' : Option Addr) (c c' : Nat) (l : List (Int × Int)) (w : World) (hs : l.length ≤ 1073741824) (h : HasN w w.heap.size A l) (h' : HasN w w.heap.size A' l) :
    Calls Tryd.prog 10 #[.slice A l.length c, .slice A' l.length c'] w fun e w' => e = .returned (.bool true) ∧ Below w.heap.size w w' := by
  go_enter Tryd.func10, Tryd.ntmps10
  go_wp2
  go_loopw [5] (fun i wr => ∃ k : Nat, k ≤ l.length ∧ i = .int .i64 k ∧ Below w.heap.size w wr) (fun i _ => l.length - (intOf i).toNat)
  case atStart => exact ⟨0, Nat.zero_le _, rfl, Below.refl _ _⟩
  case round =>
    obtain ⟨k, hk, rfl, hbel⟩ := hrel
    by_cases hlt : k < l.length
    · obtain ⟨b, o, p, rfl, hbB, hp, hc0, hc1⟩ := h.spot hlt
      obtain ⟨b', o', p', rfl, hbB', hp', hc0', hc1'⟩ := h'.spot hlt
      obtain rfl : p = p' := by rw [hp] at hp'; injection hp'
      have d0 : wr.drew.cell? ⟨b, o + k * 2, none⟩ = _ := (hbel.cell (p := ⟨b, o + k * 2, none⟩) hbB).trans hc0
      have d1 : wr.drew.cell? ⟨b, o + k * 2 + 1, none⟩ = _ := (hbel.cell (p := ⟨b, o + k * 2 + 1, none⟩) hbB).trans hc1
      have d0' : wr.drew.cell? ⟨b', o' + k * 2, none⟩ = _ := (hbel.cell (p := ⟨b', o' + k * 2, none⟩) hbB').trans hc0'
      have d1' : wr.drew.cell? ⟨b', o' + k * 2 + 1, none⟩ = _ := (hbel.cell (p := ⟨b', o' + k * 2 + 1, none⟩) hbB').trans hc1'
      have pk : 0 ≤ (k : Int) ∧ (k : Int) < (l.length : Int) := by omega
      have HB : Hid (Below w.heap.size w wr.drew) := Lib.hid ⟨hbel.os, hbel.tape, hbel.output, hbel.size, hbel.block⟩
      clear hp hp' h h' hc0 hc1 hc0' hc1' hbel
      go_wp2_with fail
      refine wp_region_still_tail 8 (by kernel_rfl) (by kernel_rfl) ?_
      simp only [List.take_succ_cons, List.take_zero, List.drop_succ_cons, List.drop_zero]
      change wpStill _ _ wr.drew _ _ _
      repeat still_step
      refine wpStill_nil ?_
      change wpList _ _ _ _ _ wr.drew
      generalize wr.drew = w2 at *
      go_wp2_with fail
      refine (eqBitNum_same p.1 p.2 w2).mono ?_
      rintro e w3 ⟨rfl, hb3⟩
      have HB3 := Lib.hid (HB.out.trans (hb3.mono HB.out.size))
      clear hb3 HB d0 d1 d0' d1'
      go_wp2_with fail
      go_roundw
      case rel => exact ⟨k + 1, by omega, by go_num, HB3.out⟩
      case measure => simp [intOf]; omega
    · go_wp2
      go_ret
      exact ⟨rfl, hbel⟩

set_option maxHeartbeats 400000 in
theorem markBitNumS_any (g c base : Nat) (l : List (Int × Int)) (w : World) (hs : l.length ≤ 1073741824) (h : OwnN w base (.slice (some ⟨g, 0, none⟩) l.length c) l) :
    Calls Tryd.prog 11 #[.slice (some ⟨g, 0, none⟩) l.length c, .int .i64 1] w fun e w' => e = .returned (.int .i64 (1 + 2 * (l.length : Int))) ∧ w.grownBy w' (some g) := by
  obtain ⟨n, hn⟩ : ∃ n, l.length = n := ⟨_, rfl⟩
  unfold OwnN at h
  rw [hn] at h hs ⊢
  have h0 : ∃ xs, xs.length = n * 2 ∧ w.ownsRow base 39 2 (.slice (some ⟨g, 0, none⟩) n c) n xs := ⟨_, by rw [flat_length, hn], h⟩
  clear h hn
  go_enter Tryd.func11, Tryd.ntmps11
  go_wp2
  go_loopw [1, 5] (fun t i wr => ∃ k : Nat, k ≤ n ∧ i = .int .i64 k ∧ t = .int .i64 (1 + 2 * (k : Int)) ∧ (∃ xs, xs.length = n * 2 ∧ wr.ownsRow base 39 2 (.slice (some ⟨g, 0, none⟩) n c) n xs) ∧ w.grownBy wr (some g))
    (fun _ i _ => n - (intOf i).toNat)
  case atStart => exact ⟨0, Nat.zero_le _, rfl, by go_num, h0, World.grownBy.refl _ _⟩
  case round =>
    clear h0
    obtain ⟨k, hk, rfl, rfl, ⟨xs, hx, ho⟩, hgr⟩ := hrel
    by_cases hlt : k < n
    · have f0 := ho.frozenAt (k * 2)
      have f1 := ho.frozenAt (k * 2 + 1)
      obtain ⟨y0, hy0⟩ : ∃ y, wr.cell? ⟨g, k * 2, none⟩ = some y := by
        rw [ho.cellAt (k * 2) (by omega)]
        exact ⟨_, List.getElem?_eq_getElem (by omega)⟩
      obtain ⟨y1, hy1⟩ : ∃ y, wr.cell? ⟨g, k * 2 + 1, none⟩ = some y := by
        rw [ho.cellAt (k * 2 + 1) (by omega)]
        exact ⟨_, List.getElem?_eq_getElem (by omega)⟩
      have hst0 := ho.stored (k * 2) (.int .i64 (1 + 2 * (k : Int)))
      have hst := hst0.1.stored (k * 2 + 1) (.int .i64 (1 + 2 * (k : Int) + 1))
      have HS := Lib.hid hst.1
      have HG := Lib.hid (grown_trans hgr (grown_trans hst0.2 hst.2))
      clear hst0 hst ho hgr
      go_wp2
      go_roundw
      case rel => exact ⟨k + 1, by omega, by go_num, by go_num, ⟨_, by simp only [List.length_set]; exact hx, HS.out⟩, HG.out⟩
      case measure => simp [intOf]; omega
    · obtain rfl : k = n := by omega
      have HG := Lib.hid hgr
      clear hgr ho hx
      go_wp2
      go_ret
      exact ⟨rfl, HG.out⟩
end Go.Proofs.YtfdbonlagfmegaaDoor
