/-
  The reference's primes: l1Prime and l1Primes. Conditions: numbers below 400; the first 64 primes.
-/
import Derived.Test.YtbejafbpipdbjaaDoorShaWords
import Derived.Test.YtbejafbpipdbjaaDoorShaRoot
namespace Go.Proofs.YtbejafbpipdbjaaDoor
set_option maxRecDepth 4000
open Go.RowKit

theorem noPart_end (n k : Nat) (hk : n < k * k) : ∀ d, noPart n (k + d) = noPart n k
  | 0 => rfl
  | d + 1 => by
    have h1 : ¬ (k + d) * (k + d) ≤ n := by
      have := Nat.mul_le_mul (Nat.le_add_right k d) (Nat.le_add_right k d)
      omega
    rw [← Nat.add_assoc, noPart, noPart_end n k hk d]
    simp [h1]
theorem noPart_false (n k : Nat) (h2 : 2 ≤ k) (hk : k * k ≤ n) (hd : n % k = 0) : ∀ d, noPart n (k + 1 + d) = false
  | 0 => by rw [Nat.add_zero, noPart]; simp [h2, hk, hd]
  | d + 1 => by rw [← Nat.add_assoc, noPart, noPart_false n k h2 hk hd d]; rfl

set_option maxHeartbeats 1000000 in
theorem l1Prime_any (n : Nat) (hn : n < 400) (w : World) : Calls Tryd.prog 136 #[.int .u64 (n : Int)] w fun e w' => e = .returned (.bool (isPrime n)) ∧ w' = w := by
  have HP := Lib.hid (show isPrime n = (decide (1 < n) && noPart n 20) from rfl)
  go_enter Tryd.func136, Tryd.ntmps136
  go_wp2
  go_loop [3] (fun i => ∃ k : Nat, 2 ≤ k ∧ k ≤ 20 ∧ i = .int .u64 (k : Int) ∧ noPart n k = true) (fun i => 20 - (intOf i).toNat)
  case atStart => exact ⟨2, by omega, by omega, rfl, rfl⟩
  case round =>
    obtain ⟨k, hk2, hk20, rfl, hno⟩ := hrel
    have HN := Lib.hid hno
    clear hno
    obtain ⟨K, hK⟩ : ∃ K, k * k = K := ⟨_, rfl⟩
    have hK400 : K ≤ 400 := by rw [← hK]; exact Nat.mul_le_mul hk20 hk20
    have e1 : IntKind.u64.wrap ((k : Int) * (k : Int)) = (K : Int) := by rw [wmul, hK, w64, Nat.mod_eq_of_lt (by omega)]
    have e1' : (k : Int) * (k : Int) = (K : Int) := by rw [← hK]; simp
    obtain ⟨r, hr⟩ : ∃ r, n % k = r := ⟨_, rfl⟩
    have e2 : (n : Int) % (k : Int) = (r : Int) := by rw [← hr]; simp
    have hk0 : ¬ ((k : Int) = 0) := by omega
    by_cases hlt : K ≤ n
    · have h20 : k < 20 := by
        apply Classical.byContradiction
        intro h
        have : k = 20 := by omega
        subst this
        omega
      have HK := Lib.hid hK
      have HR := Lib.hid hr
      clear hK hr
      by_cases hr0 : r = 0
      · have HF := Lib.hid (noPart_false n k hk2 (by rw [HK.out]; exact hlt) (by rw [HR.out]; exact hr0) (19 - k))
        rw [show k + 1 + (19 - k) = 20 from by omega] at HF
        subst hr0
        go_wp2
        go_ret
        exact ⟨by rw [HP.out, HF.out]; simp, rfl⟩
      · have hb : ((r : Int) == 0) = false := beq_eq_false_iff_ne.2 (by omega)
        have HF := Lib.hid (show noPart n (k + 1) = true from by rw [noPart, HN.out, HR.out]; simp [hr0])
        go_wp2
        go_round
        case rel => exact ⟨k + 1, by omega, by omega, by go_num, HF.out⟩
        case measure => simp [intOf]; omega
    · have HF := Lib.hid (noPart_end n k (by omega) (20 - k))
      rw [show k + (20 - k) = 20 from by omega] at HF
      clear hK hr
      go_wp2
      go_ret
      exact ⟨by rw [HP.out, HF.out, HN.out]; simp; omega, rfl⟩

theorem primesTo_mono (n : Nat) : ∀ d, (primesTo n).length ≤ (primesTo (n + d)).length
  | 0 => Nat.le_refl _
  | d + 1 => by
    refine Nat.le_trans (primesTo_mono n d) ?_
    rw [← Nat.add_assoc, primesTo]
    split <;> simp
set_option maxRecDepth 100000 in
theorem primesTo_311 : (primesTo 311).length = 63 := by decide +kernel
theorem primesTo_few (n : Nat) (h : n ≤ 311) : (primesTo n).length ≤ 63 := by
  have := primesTo_mono n (311 - n)
  rw [show n + (311 - n) = 311 from by omega, primesTo_311] at this
  exact this
theorem primesTo_two : primesTo 2 = [] := rfl

set_option maxHeartbeats 1000000 in
theorem l1Primes_any (w : World) : Calls Tryd.prog 110 #[.int .i64 64] w fun e w' => ∃ v, e = .returned v ∧ OwnK .u64 137 w' w.heap.size v primes64 ∧ Below w.heap.size w w' := by
  obtain ⟨i0, hi, hz0, hz1, hz2⟩ := info_parts info64
  go_enter Tryd.func110, Tryd.ntmps110
  go_wp2
  go_loopw [3, 4] (fun v i wr => ∃ n : Nat, 2 ≤ n ∧ n ≤ 312 ∧ i = .int .u64 (n : Int) ∧ OwnK .u64 137 wr w.heap.size v (primesTo n) ∧ Below w.heap.size w wr) (fun _ i _ => 312 - (intOf i).toNat)
  case atStart => exact ⟨2, by omega, by omega, rfl, by rw [primesTo_two]; exact OwnK.empty (Nat.le_refl _), (Below.refl _ _).alloc (Nat.le_refl _) _⟩
  case round =>
    obtain ⟨n, hn2, hn, rfl, hown, hbel⟩ := hrel
    have hws := hbel.size
    obtain ⟨A3, c3, hv, -, -⟩ := hown.has
    by_cases hlt : n ≤ 311
    · have hfew := primesTo_few n hlt
      have HP := Lib.hid (show primesTo (n + 1) = if isPrime n then primesTo n ++ [n] else primesTo n from rfl)
      have CP := Lib.hid (l1Prime_any n (by omega) wr)
      subst hv
      generalize primesTo n = l at *
      generalize isPrime n = b at *
      go_wp2_with fail
      refine CP.out.mono ?_
      rintro e w' ⟨rfl, rfl⟩
      cases b
      · simp at HP
        go_wp2
        go_roundw
        case rel => exact ⟨n + 1, by omega, by omega, by go_num, by rw [HP.out]; exact hown, hbel⟩
        case measure => simp [intOf]; omega
      · simp at HP
        go_wp2_with (at_builtin; refine wpList_pushK .u64 144 137 Tryd.underlying144 hi hz0 hz1 hz2 rfl (.tmp 14) (.tmp 16) rfl w.heap.size _ l rfl hown n _ rfl rfl (by omega) (by omega) (by omega) ?_; intro g cap w2 ho2 hg2)
        have hb2 := (hbel.alloc hws (.cells #[.int .u64 (n : Int)] 137)).grown hg2 (by simp; omega) (fun q hq => (World.ownsRow.lt hown q hq).1)
        rw [← HP.out] at ho2
        clear hg2 hown
        go_wp2
        go_roundw
        case rel => exact ⟨n + 1, by omega, by omega, by go_num, ho2, hb2⟩
        case measure => simp [intOf]; omega
    · obtain rfl : n = 312 := by omega
      rw [show (primesTo 312).length = 64 from primes64_length] at hv
      subst hv
      go_wp2
      go_ret
      exact ⟨_, rfl, hown, hbel⟩
end Go.Proofs.YtbejafbpipdbjaaDoor
