/-
  Whether bytes name an image, and whether a request is valid, of the reference. Conditions: at most 2^30 bytes and operations.
-/
import Derived.Test.YtbejafbpipdbjaaDoorUrlQ
import Derived.Test.YtbejafbpipdbjaaDoorL1In
namespace Go.Proofs.YtbejafbpipdbjaaDoor
set_option maxRecDepth 4000
open Go.RowKit

set_option maxHeartbeats 1000000 in
theorem l7Path_any (p : List UInt8) (w : World) (hl : p.length ≤ maxLen) : Calls Tryd.prog 49 #[.string (bs p)] w fun e w' => e = .returned (.bool (pathB p)) ∧ w = w' := by
  obtain ⟨n, hn⟩ : ∃ n, p.length = n := ⟨_, rfl⟩
  have sz : (bs p).size = n := by rw [bs_size, hn]
  have HN := Lib.hid hn
  have AT := Lib.hid fun (u : World) (i : Nat) (x : UInt8) (hx : p[i]? = some x) => bs_at u p .i64 i x hx
  obtain ⟨q, hq⟩ : ∃ q, pathB p = q := ⟨_, rfl⟩
  have HQ := Lib.hid hq
  rw [hn] at hl
  rw [hq]
  unfold maxLen at hl
  clear hn hq
  by_cases h1 : (n : Int) < 1
  · obtain rfl : q = false := by rw [← HQ.out]; unfold pathB; rw [HN.out, decide_eq_false (by omega)]; rfl
    have h0 : (n : Int) = 0 := by omega
    clear h1
    go_enter Tryd.func49, Tryd.ntmps49
    go_wp2_with fail
    go_ret
    exact ⟨rfl, rfl⟩
  have h0 : ¬ (n : Int) = 0 := by omega
  by_cases h6 : (n : Int) > 6
  · obtain rfl : q = false := by rw [← HQ.out]; unfold pathB; rw [HN.out, decide_eq_false (show ¬ n ≤ 6 by omega), Bool.false_and, Bool.and_false]
    clear h1
    go_enter Tryd.func49, Tryd.ntmps49
    go_wp2_with fail
    go_ret
    exact ⟨rfl, rfl⟩
  have HP : Hid (pathB p = p.all nameB) := Lib.hid (by unfold pathB; rw [HN.out, decide_eq_true (show 1 ≤ n by omega), decide_eq_true (show n ≤ 6 by omega), Bool.true_and, Bool.true_and])
  go_enter Tryd.func49, Tryd.ntmps49
  go_wp2_with fail
  go_loop [3] (fun v => ∃ k : Nat, k ≤ n ∧ v = .int .i64 (k : Int) ∧ (p.take k).all nameB = true) (fun v => n - (intOf v).toNat)
  case atStart => exact ⟨0, Nat.zero_le _, rfl, rfl⟩
  case round =>
    obtain ⟨k, hk, rfl, hal⟩ := hrel
    have HAL := Lib.hid hal
    clear hal
    by_cases hlt : k < n
    · obtain ⟨x, hx⟩ : ∃ x, p[k]? = some x := ⟨_, List.getElem?_eq_getElem (by rw [HN.out]; exact hlt)⟩
      have at1 := fun u => AT.out u k x hx
      have HX := Lib.hid hx
      have hkI : (k : Int) < (n : Int) := by omega
      have HZ : Hid (nameB x = ((decide (97 ≤ x.toNat) && decide (x.toNat ≤ 122)) || (decide (48 ≤ x.toNat) && decide (x.toNat ≤ 57)))) := Lib.hid rfl
      have HXN := Lib.hid (show nameB x = false → q = false from fun h => by rw [← HQ.out, HP.out]; exact all_cut hx h)
      have HXY := Lib.hid (show nameB x = true → (p.take (k + 1)).all nameB = true from fun h => all_snoc hx HAL.out h)
      clear hx
      generalize nameB x = z at *
      generalize x.toNat = m at *
      by_cases g1 : (m : Int) < 97
      · by_cases g2 : (m : Int) < 48
        · obtain rfl : z = false := by rw [HZ.out]; simp; omega
          obtain rfl := HXN.out rfl
          go_wp2_with fail
          go_ret
          exact ⟨rfl, rfl⟩
        · by_cases g3 : (m : Int) > 57
          · obtain rfl : z = false := by rw [HZ.out]; simp; omega
            obtain rfl := HXN.out rfl
            go_wp2_with fail
            go_ret
            exact ⟨rfl, rfl⟩
          · obtain rfl : z = true := by rw [HZ.out]; simp; omega
            have HS := Lib.hid (HXY.out rfl)
            go_wp2_with fail
            go_round
            case rel => exact ⟨k + 1, by omega, by go_num, HS.out⟩
            case measure => simp [intOf]; omega
      · by_cases g2 : (m : Int) > 122
        · obtain rfl : z = false := by rw [HZ.out]; simp; omega
          obtain rfl := HXN.out rfl
          have g4 : ¬ (m : Int) < 48 := by omega
          have g5 : (m : Int) > 57 := by omega
          go_wp2_with fail
          go_ret
          exact ⟨rfl, rfl⟩
        · obtain rfl : z = true := by rw [HZ.out]; simp; omega
          have HS := Lib.hid (HXY.out rfl)
          go_wp2_with fail
          go_round
          case rel => exact ⟨k + 1, by omega, by go_num, HS.out⟩
          case measure => simp [intOf]; omega
    · obtain rfl : k = n := by omega
      obtain rfl : q = true := by
        have := HAL.out
        rw [← HN.out, List.take_length] at this
        rw [← HQ.out, HP.out, this]
      go_wp2_with fail
      go_ret
      exact ⟨rfl, rfl⟩
set_option maxHeartbeats 1000000 in
theorem specAskOk_any (a : Ask) (A : Option Addr) (c : Nat) (w : World) (hs : a.ops.length ≤ 1073741824) (hp : a.path.length ≤ maxLen) (h : opE.Has w w.heap.size A a.ops) :
    Calls Tryd.prog 18 #[askV A a.ops.length c a.path a.till] w fun e w' => e = .returned (.bool (askB a)) ∧ Below w.heap.size w w' := by
  have hb0 : Below w.heap.size w (w.alloc (.cells #[.slice A a.ops.length c, .string (bs a.path), .int .i64 a.till] 39)) := (Below.refl _ w).alloc (Nat.le_refl _) _
  have hx0 : Box (w.alloc (.cells #[.slice A a.ops.length c, .string (bs a.path), .int .i64 a.till] 39)) w.heap.size #[.slice A a.ops.length c, .string (bs a.path), .int .i64 a.till] 39 := heap_alloc_new w _
  have h0 := h.carry hb0 (Nat.le_refl _) hb0.size
  have CO := Lib.hid (specL6All_any A c a.ops _ hs h0)
  have CP := Lib.hid fun u => l7Path_any a.path u hp
  have CI := Lib.hid fun u => l1In_any a.till 0 9999 u
  have HX0 := Lib.hid hx0
  have HB0 := Lib.hid hb0
  obtain ⟨q, hq⟩ : ∃ q, askB a = q := ⟨_, rfl⟩
  have HQ : Hid ((opsB a.ops && (pathB a.path && inR a.till 0 9999)) = q) := Lib.hid hq
  rw [hq]
  obtain ⟨x, hx⟩ : ∃ x, opsB a.ops = x := ⟨_, rfl⟩
  obtain ⟨y, hy⟩ : ∃ y, pathB a.path = y := ⟨_, rfl⟩
  obtain ⟨z, hz⟩ : ∃ z, inR a.till 0 9999 = z := ⟨_, rfl⟩
  rw [show decide (0 ≤ a.till ∧ a.till ≤ 9999) = z from hz] at CI
  rw [hx] at CO HQ
  rw [hy] at CP HQ
  rw [hz] at HQ
  clear hx hy hq hs hp h hb0 hx0 h0 hz
  unfold askV
  go_enter Tryd.func18, Tryd.ntmps18
  go_wp2_with fail
  refine CO.out.mono ?_
  rintro e w1 ⟨rfl, b1⟩
  have HX1 := Lib.hid (HX0.out.next b1)
  have HB1 := Lib.hid (HB0.out.trans (b1.mono HB0.out.size))
  have d1 := HX1.out.cell (i := 1) (v := .string (bs a.path)) rfl
  have d2 := HX1.out.cell (i := 2) (v := .int .i64 a.till) rfl
  clear b1 HX0 HB0
  cases x
  · obtain rfl : q = false := HQ.out.symm
    go_wp2_with fail
    go_ret
    exact ⟨rfl, HB1.out⟩
  go_wp2_with fail
  refine (CP.out _).mono ?_
  rintro e w2 ⟨rfl, rfl⟩
  cases y
  · obtain rfl : q = false := HQ.out.symm
    go_wp2_with fail
    go_ret
    exact ⟨rfl, HB1.out⟩
  go_wp2_with fail
  refine (CI.out _).mono ?_
  rintro e w2 ⟨rfl, rfl⟩
  obtain rfl : z = q := HQ.out
  go_wp2_with fail
  go_ret
  exact ⟨rfl, HB1.out⟩
end Go.Proofs.YtbejafbpipdbjaaDoor
