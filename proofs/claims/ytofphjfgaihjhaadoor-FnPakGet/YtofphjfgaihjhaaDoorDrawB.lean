/-
  l20Bytes draws at most so many bytes into a slice of the call's own. Conditions: fewer than 10^8 draws before, at most 1000 bytes.
-/
import Derived.Test.YtofphjfgaihjhaaDoorDraw
import Derived.Test.YtofphjfgaihjhaaDoorPush
namespace Go.Proofs.YtofphjfgaihjhaaDoor
open Go.RowKit

/-- What l20Bytes answers: some bytes, no more than n; the reader stands further, and nothing else that was there has changed. -/
def DrewB (w : World) (g p n : Nat) (e : Ending) (w' : World) : Prop :=
  ∃ v, ∃ l : List UInt8, ∃ p', e = .returned v ∧ Own w' w.heap.size v l ∧ l.length ≤ n ∧ p' ≤ p + 3 * n + 1 ∧ Rdr w' g p' ∧ w.grownBy w' (some g)

/-- v does not lie in block g. -/
def v_ne (v : Value) (g : Nat) : Prop := v.ownBlock ≠ some g

theorem byte_of (z : Int) : ∃ x : UInt8, IntKind.u8.wrap z = (x.toNat : Int) := by
  refine ⟨UInt8.ofNat (z % 256).toNat, ?_⟩
  rw [IntKind.wrap_u8]
  simp
  omega

set_option maxHeartbeats 1000000 in
theorem l20Bytes_any (g p n : Nat) (m : Int) (hm : m = (n : Int)) (w : World) (h : Rdr w g p) (hp : p ≤ 100000000) (hn : n ≤ 1000) :
    Calls Tryd.prog 25 #[.pointer (some ⟨g, 0, none⟩), .int .i64 m] w (DrewB w g p n) := by
  subst hm
  have hgw := h.lt
  go_enter Tryd.func25, Tryd.ntmps25
  go_wp2_with fail
  refine (pick_any g p _ _ (h.alloc _) (by omega) (by omega) (by omega)).mono ?_
  rintro e w1 ⟨k1, rfl, hk1, -, hr1, hg1, -⟩
  have hk1 : k1 ≤ n := by have := hk1 (by omega); omega
  have hg0 : w.grownBy w1 (some g) := grown_trans (World.grownBy_alloc w _ _) hg1
  have ho1 : Own w1 w.heap.size (.slice (some ⟨w.heap.size, 0, none⟩) 0 0) [] := (own_empty (Nat.le_refl _)).keep hg1 (.inr (by simp [Value.ownBlock]; omega))
  clear hg1 h
  go_wp2_with fail
  go_loopw [5, 6] (fun v i wr => ∃ k p' : Nat, ∃ l : List UInt8, i = .int .i64 k ∧ Own wr w.heap.size v l ∧ l.length + k ≤ n ∧ p' + 3 * k ≤ p + 3 * n + 1 ∧ Rdr wr g p' ∧ w.grownBy wr (some g))
    (fun _ i _ => (intOf i).toNat)
  case atStart => exact ⟨k1, p + 1, [], rfl, ho1, by simp; omega, by omega, hr1, hg0⟩
  case round =>
    obtain ⟨k, p', l, rfl, hown, hlk, hpk, hrd, hgr⟩ := hrel
    have hwz := hgr.size
    by_cases hlt : 0 < k
    · go_wp2_with fail
      refine (pick_any g p' _ _ hrd (by omega) (by omega) (by omega)).mono ?_
      rintro e w2 ⟨a, rfl, -, -, hr2, hg2, -⟩
      go_wp2_with fail
      refine (pick_any g (p' + 1) _ _ hr2 (by omega) (by omega) (by omega)).mono ?_
      rintro e w3 ⟨b, rfl, -, -, hr3, hg3, -⟩
      go_wp2_with fail
      refine (pick_any g (p' + 1 + 1) _ _ (hr3.alloc _) (by omega) (by omega) (by omega)).mono ?_
      rintro e w4 ⟨j, rfl, hj, -, hr4, hg4, -⟩
      have hj3 : j < 3 := by have := hj (by omega); omega
      have hz3 : w.heap.size ≤ w3.heap.size := Nat.le_trans (Nat.le_trans hwz hg2.size) hg3.size
      obtain ⟨z, hz⟩ : ∃ z : Int, w4.cell? ⟨w3.heap.size, j, none⟩ = some (.int .i64 z) := by
        have hc : ∀ z, #[Value.int .i64 (a : Int), .int .i64 (b : Int), .int .i64 255][j]? = some (.int .i64 z) → w4.cell? ⟨w3.heap.size, j, none⟩ = some (.int .i64 z) := fun z hz =>
          hg4.cell ((World.cell?_alloc_mark w3 _ _ _ j).trans hz) (by simp; omega)
        match j, hj3 with
        | 0, _ => exact ⟨_, hc _ rfl⟩
        | 1, _ => exact ⟨_, hc _ rfl⟩
        | 2, _ => exact ⟨_, hc _ rfl⟩
      obtain ⟨x, hx⟩ := byte_of z
      have hb : v_ne u5 g := fun e => by have := World.ownsRow.lt hown g e; omega
      have ho4 : Own w4 w.heap.size u5 l := (((hown.keep hg2 (.inr hb)).keep hg3 (.inr hb)).alloc _).keep hg4 (.inr hb)
      have hgr4 : w.grownBy w4 (some g) := grown_trans (grown_trans (grown_trans hgr hg2) hg3) (grown_trans (World.grownBy_alloc w3 _ _) hg4)
      have hz4 := hgr4.size
      clear hown hg2 hg3 hg4 hr2 hr3 hrd hj
      go_wp2_with (at_builtin; refine wpList_push1 rfl (.tmp 16) (.tmp 27) rfl w.heap.size _ l rfl ho4 x w4.heap.size rfl rfl (by omega) (by omega) ?_; intro gg cap w5 ho5 hg5)
      have hgr5 : w.grownBy w5 (some g) := grown_own (grown_trans hgr4 (World.grownBy_alloc w4 (.cells #[.int .u8 (x.toNat : Int)] 5) _)) hg5 (fun q hq => (World.ownsRow.lt ho4 q hq).1)
      have hr5 : Rdr w5 g (p' + 1 + 1 + 1) := (hr4.alloc _).grown hg5 (fun q hq => by have := (World.ownsRow.lt ho4 q hq).1; omega)
      clear hg5 ho4 hr4 hgr4
      go_wp2
      go_roundw
      case rel => exact ⟨k - 1, p' + 1 + 1 + 1, l ++ [x], by go_num, ho5, by simp; omega, by omega, hr5, hgr5⟩
      case measure => simp [intOf]; omega
    · go_wp2
      go_ret
      exact ⟨_, l, p', rfl, hown, by omega, by omega, hrd, hgr⟩
end Go.Proofs.YtofphjfgaihjhaaDoor
