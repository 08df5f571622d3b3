/-
  The reference's l4Rest: whether all bits from one on are noughts. Condition: at most 2^20 bytes.
-/
import Derived.Test.YtofphjfgaihjhaaDoorPakSA
import Derived.Test.YtofphjfgaihjhaaDoorBitG
namespace Go.Proofs.YtofphjfgaihjhaaDoor
open Go.RowKit

theorem bit_u8 (x s : Nat) : ((x : Int) / 2 ^ s).tmod 2 = ((x / 2 ^ s % 2 : Nat) : Int) := by
  rw [show (x : Int) / 2 ^ s = ((x / 2 ^ s : Nat) : Int) from by simp]
  exact tmod_cast2 _ 2
set_option maxRecDepth 100000 in
set_option maxHeartbeats 1000000 in
theorem l4Rest_any (A : Option Addr) (c : Nat) (l : List UInt8) (a : Nat) (w : World) (hs : l.length ≤ 1048576) (h : Has w w.heap.size A l) :
    Calls Tryd.prog 39 #[.slice A l.length c, .int .i64 (a : Int)] w fun e w' => e = .returned (.bool (restB l a)) ∧ w' = w := by
  have hsI : (l.length : Int) ≤ 1048576 := by omega
  have HH := Lib.hid h
  clear h hs
  by_cases ha : 8 * l.length < a
  · have haI : ¬ (a : Int) < 8 * (l.length : Int) := by omega
    have HR : Hid (restB l a = true) := Lib.hid (by unfold restB; rw [decide_eq_true_eq]; intro k hk h2; omega)
    go_enter Tryd.func39, Tryd.ntmps39
    go_wp2
    go_loop [5] (fun i => i = .int .i64 (a : Int)) (fun _ => 0)
    case atStart => rfl
    case round =>
      obtain rfl := hrel
      go_wp2
      go_ret
      exact ⟨by rw [HR.out]; rfl, rfl⟩
  · go_enter Tryd.func39, Tryd.ntmps39
    go_wp2
    go_loop [5] (fun i => ∃ k : Nat, a ≤ k ∧ k ≤ 8 * l.length ∧ i = .int .i64 k ∧ ∀ j, a ≤ j → j < k → bitAt l j = 0) (fun i => 8 * l.length - (intOf i).toNat)
    case atStart => exact ⟨a, Nat.le_refl _, by omega, rfl, fun j h1 h2 => by omega⟩
    case round =>
      obtain ⟨k, hk1, hk2, rfl, hz⟩ := hrel
      have HZ := Lib.hid hz
      clear hz
      by_cases hlt : k < 8 * l.length
      · have hltI : (k : Int) < 8 * (l.length : Int) := by omega
        obtain ⟨i, hi⟩ : ∃ i, k / 8 = i := ⟨_, rfl⟩
        obtain ⟨s, hs'⟩ : ∃ s, k % 8 = s := ⟨_, rfl⟩
        obtain ⟨bb, o, x, rfl, hbB, hx, hc⟩ := HH.out.spot (k := i) (by omega)
        have hbit := bitAt_of (l := l) (a := k) (x := x) (by rw [hi]; exact hx)
        rw [hs'] at hbit
        have t1 : (k : Int) / 8 = (i : Int) := by omega
        have t2 : (k : Int) % 8 = (s : Int) := by omega
        have hv := bit_u8 x.toNat s
        rw [hbit] at hv
        have hb2 := bitAt_lt l k
        obtain ⟨bt, hbt⟩ : ∃ bt, bitAt l k = bt := ⟨_, rfl⟩
        rw [hbt] at hv hb2
        have HBT := Lib.hid hbt
        have HK := Lib.hid (And.intro hk1 (And.intro hk2 hlt))
        have hs8 : (s : Int) < 8 := by omega
        clear hx hbit hi hs' hbt hk1 hk2 hlt
        have h01 : bt = 0 ∨ bt = 1 := by omega
        clear hb2
        rcases h01 with rfl | rfl
        · have hv0 : ((x.toNat : Int) / 2 ^ s).tmod 2 = 0 := hv
          clear hv
          go_wp2
          go_round
          case rel =>
            refine ⟨k + 1, by have := HK.out; omega, by have := HK.out; omega, by go_num, fun j h1 h2 => ?_⟩
            rcases Nat.lt_succ_iff_lt_or_eq.1 h2 with h | rfl
            · exact HZ.out j h1 h
            · exact HBT.out
          case measure => have := HK.out; simp [intOf]; omega
        · have HR : Hid (restB l a = false) := Lib.hid (by
            unfold restB
            rw [decide_eq_false_iff_not]
            intro hh
            have := hh k HK.out.2.2 HK.out.1
            rw [HBT.out] at this
            cases this)
          have hv1 : ((x.toNat : Int) / 2 ^ s).tmod 2 = 1 := hv
          clear hv
          go_wp2
          go_ret
          exact ⟨by rw [HR.out]; rfl, rfl⟩
      · obtain rfl : k = 8 * l.length := by omega
        have HR : Hid (restB l a = true) := Lib.hid (by unfold restB; rw [decide_eq_true_eq]; intro j hj h2; exact HZ.out j h2 hj)
        clear hlt hk1 hk2
        go_wp2
        go_ret
        exact ⟨by rw [HR.out]; rfl, rfl⟩
end Go.Proofs.YtofphjfgaihjhaaDoor
