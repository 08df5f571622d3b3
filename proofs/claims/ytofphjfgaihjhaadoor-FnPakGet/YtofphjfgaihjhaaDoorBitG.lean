/-
  The reference's BitGet: it returns the number that the bits make, or 0 and false. Condition: at most 2^30 bytes.
-/
import Derived.Test.YtofphjfgaihjhaaDoorBitGM
namespace Go.Proofs.YtofphjfgaihjhaaDoor
open Go.RowKit

set_option maxHeartbeats 400000 in
theorem specBitGet_any (A : Option Addr) (c : Nat) (l : List UInt8) (a b : Int) (B : Nat) (w : World) (hs : l.length ≤ 1073741824) (h : Has w B A l) :
    Calls Tryd.prog 38 #[.slice A l.length c, .int .i64 a, .int .i64 b] w fun e w' => e = .returned (.tuple #[.int .i64 ((bitGetN l a b : Nat) : Int), .bool (bitGetB l a b)]) ∧ w' = w := by
  by_cases ha : a < 0
  · have hB : bitGetB l a b = false := decide_eq_false (by omega)
    rw [bitGetN_no hB, hB]
    go_enter Tryd.func38, Tryd.ntmps38
    go_wp2
    go_ret2
    exact ⟨rfl, rfl⟩
  · by_cases hb : 1 ≤ b ∧ b ≤ 12
    · by_cases hl : a > 8 * (l.length : Int) - b
      · have hB : bitGetB l a b = false := decide_eq_false (by omega)
        rw [bitGetN_no hB, hB]
        go_enter Tryd.func38, Tryd.ntmps38
        go_wp2_with fail
        refine (l1In_any _ _ _ _).mono ?_
        rintro e w' ⟨rfl, rfl⟩
        go_wp2
        go_ret2
        exact ⟨rfl, rfl⟩
      · have hB : bitGetB l a b = true := decide_eq_true (by omega)
        obtain ⟨p, rfl⟩ : ∃ p : Nat, a = (p : Int) := ⟨a.toNat, by omega⟩
        obtain ⟨q, rfl⟩ : ∃ q : Nat, b = (q : Int) := ⟨b.toNat, by omega⟩
        have HN : Hid (bitGetN l p q = getN l p q) := Lib.hid (by unfold bitGetN; rw [hB]; simp)
        rw [hB, HN.out]
        go_enter Tryd.func38, Tryd.ntmps38
        go_wp2_with fail
        refine (l1In_any _ _ _ _).mono ?_
        rintro e w' ⟨rfl, rfl⟩
        go_wp2
        go_loop [8, 9] (fun n i => ∃ k m : Nat, k ≤ q ∧ i = .int .i64 k ∧ n = .int .i64 m ∧ getN l p k = m) (fun _ i => q - (intOf i).toNat)
        case atStart => exact ⟨0, 0, Nat.zero_le _, rfl, rfl, rfl⟩
        case round =>
          obtain ⟨k, m, hk, rfl, rfl, hm⟩ := hrel
          by_cases hlt : k < q
          · obtain ⟨i, hi⟩ : ∃ i, (p + k) / 8 = i := ⟨_, rfl⟩
            obtain ⟨s, hs'⟩ : ∃ s, (p + k) % 8 = s := ⟨_, rfl⟩
            obtain ⟨bb, o, x, rfl, hbB, hx, hc⟩ := h.spot (k := i) (by omega)
            have hbit := bitAt_of (l := l) (a := p + k) (x := x) (by rw [hi]; exact hx)
            have hb2 := bitAt_lt l (p + k)
            rw [hs'] at hbit
            have hm2 := getN_lt l p k
            have HS : Hid (getN l p (k + 1) = m + bitAt l (p + k) * 2 ^ k) := Lib.hid (by rw [getN, hm])
            rw [hm] at hm2
            generalize bitAt l (p + k) = bt at *
            have t1 : ((p : Int) + (k : Int)) / 8 = (i : Int) := by omega
            have t2 : ((p : Int) + (k : Int)) % 8 = (s : Int) := by omega
            have HV := Lib.hid (get_step m x.toNat s k bt x.toNat_lt hm2 (by omega) hbit)
            clear hx h hbit hi hs' hm hm2
            go_wp2
            go_round
            case rel => exact ⟨k + 1, m + bt * 2 ^ k, by omega, by go_num, by rw [HV.out], HS.out⟩
            case measure => simp [intOf]; omega
          · obtain rfl : k = q := by omega
            rw [← hm]
            go_wp2
            go_ret2
            exact ⟨rfl, rfl⟩
    · have hB : bitGetB l a b = false := decide_eq_false (by omega)
      have hd : decide (1 ≤ b ∧ b ≤ 12) = false := decide_eq_false hb
      rw [bitGetN_no hB, hB]
      go_enter Tryd.func38, Tryd.ntmps38
      go_wp2_with fail
      refine (l1In_any _ _ _ _).mono ?_
      rintro e w' ⟨rfl, rfl⟩
      go_wp2
      go_ret2
      exact ⟨rfl, rfl⟩
end Go.Proofs.YtofphjfgaihjhaaDoor
