/-
  The law FnBitGet returns true for every list of bytes. Condition: the three errors of reading are not nil.
-/
import Derived.Test.YtdipihdpfkoddaaDoorDrawGet
import Derived.Test.YtdipihdpfkoddaaDoorBitG
import Derived.Test.YtdipihdpfkoddaaDoorBitGR
import Derived.Test.YtdipihdpfkoddaaDoorEaOk
namespace Go.Proofs.YtdipihdpfkoddaaDoor
open Go.RowKit

theorem getN_split (l : List UInt8) (a k m : Nat) : getN l a (k + m) = getN l a k + getN l (a + k) m * 2 ^ k := by
  induction m with
  | zero => simp [getN]
  | succ m ih =>
    rw [← Nat.add_assoc, getN, ih, getN, Nat.add_mul, Nat.add_assoc, Nat.pow_add, ← Nat.add_assoc a k m, Nat.mul_assoc, Nat.mul_comm (2 ^ k) (2 ^ m)]
theorem get_good {l : List UInt8} {p k : Nat} (h1 : 1 ≤ k) (h2 : k ≤ 12) (h3 : p + k ≤ 8 * l.length) : bitGetB l p k = true ∧ bitGetN l p k = getN l p k := by
  have hB : bitGetB l p k = true := decide_eq_true (by omega)
  refine ⟨hB, ?_⟩
  unfold bitGetN
  rw [hB]
  simp

set_option maxHeartbeats 4000000 in
theorem fnBitGet_small (A : Option Addr) (c : Nat) (l : List UInt8) (w : World) (hT : Errs w) (h : Has w w.heap.size A l) (hc : l.length ≤ c) (hs : l.length ≤ 1048576) :
    Calls Tryd.prog 4 #[.slice A l.length c] w fun e w' => e = .returned (.bool true) ∧ Below w.heap.size w w' := by
  have hb : (l.length : Int) ≤ 1048576 := by omega
  have HT : Hid (∀ W, Below w.heap.size w W → Errs W) := Lib.hid fun W hb => hT.below hb (Nat.le_refl _)
  have HW4 : Hid (4 ≤ w.heap.size) := Lib.hid hT.2.2.lt
  have CD := Lib.hid (drawBitGet_any A c l w (by omega) hc h)
  clear hT h hc hs
  go_enter Tryd.func4, Tryd.ntmps4
  go_wp2_with fail
  refine CD.out.mono ?_
  rintro e w1 ⟨A1, c1, b, x, y, rfl, h1, -, hbl, hx, hy, B1⟩
  have HB1 := Lib.hid B1
  have HH1 := Lib.hid h1
  have HX := Lib.hid hx
  have HBL := Lib.hid hbl
  have CG : Hid (∀ (x y : Int) W, x < 9223372036854775808 → Below w1.heap.size w1 W → Calls Tryd.prog 12 #[.slice A1 b.length c1, .int .i64 x, .int .i64 y] W fun e w' => e = .returned (.tuple #[.int .i64 ((bitGetN b x y : Nat) : Int), .bool (bitGetB b x y)]) ∧ Below w1.heap.size w1 w') := Lib.hid fun x y W hx hW =>
    (implBitGet_any A1 c1 b x y W (by have := HBL.out; omega) hx (HH1.out.carry hW (Nat.le_refl _) hW.size) (HT.out _ (HB1.out.trans (hW.mono HB1.out.size))) (by have h1 := HW4.out; have h2 := HB1.out.size; have h3 := hW.size; omega)).mono fun e w' hh => ⟨hh.1, hW.trans (hh.2.mono hW.size)⟩
  clear CD h1 hx hy hbl B1
  go_wp2_with fail
  refine (CG.out x y _ HX.out.2 (Below.refl _ _)).mono ?_
  rintro e w2 ⟨rfl, b2⟩
  have HB2 := Lib.hid b2
  have CS := Lib.hid (specBitGet_any A1 c1 b x y _ w2 (by have := HBL.out; omega) (HH1.out.carry b2 (Nat.le_refl _) b2.size))
  clear b2
  go_wp2_with fail
  refine CS.out.mono ?_
  rintro e w' ⟨rfl, rfl⟩
  clear CS
  cases hok : bitGetB b x y
  · rw [bitGetN_no hok]
    go_wp2_with fail
    refine (eaOk_any _).mono ?_
    rintro e w3 ⟨rfl, b3⟩
    have HB3 := Lib.hid (HB1.out.trans ((HB2.out.trans (b3.mono HB2.out.size)).mono HB1.out.size))
    clear b3
    go_wp2_with fail
    go_ret
    exact ⟨rfl, HB3.out⟩
  · have hcc : 0 ≤ x ∧ (1 ≤ y ∧ y ≤ 12) ∧ x + y ≤ 8 * b.length := by unfold bitGetB at hok; exact of_decide_eq_true hok
    obtain ⟨p, rfl⟩ : ∃ p : Nat, x = (p : Int) := ⟨x.toNat, by omega⟩
    obtain ⟨q, rfl⟩ : ∃ q : Nat, y = (q : Int) := ⟨y.toNat, by omega⟩
    have hpq : p + q ≤ 8 * b.length := by omega
    have hp96 : (p : Int) ≤ 96 := by have := HBL.out; omega
    have hq12 : (q : Int) ≤ 12 := by omega
    have hq1 : 1 ≤ (q : Int) := by omega
    have hgn := (get_good (l := b) (p := p) (k := q) (by omega) (by omega) hpq).2
    have hnl := getN_lt b p q
    have CL : Hid (∀ k : Nat, 1 ≤ k → k < q → ∀ W, Below w1.heap.size w1 W → Calls Tryd.prog 12 #[.slice A1 b.length c1, .int .i64 (p : Int), .int .i64 (k : Int)] W fun e w' => e = .returned (.tuple #[.int .i64 ((getN b p k : Nat) : Int), .bool true]) ∧ Below w1.heap.size w1 w') := Lib.hid fun k h1 h2 W hW => by
      have hg := get_good (l := b) (p := p) (k := k) h1 (by omega) (by omega)
      have := CG.out (p : Int) (k : Int) W (by omega) hW
      rw [hg.1, hg.2] at this
      exact this
    have CH : Hid (∀ k : Nat, 1 ≤ k → k < q → ∀ W, Below w1.heap.size w1 W → Calls Tryd.prog 12 #[.slice A1 b.length c1, .int .i64 ((p : Int) + (k : Int)), .int .i64 ((q : Int) - (k : Int))] W fun e w' => e = .returned (.tuple #[.int .i64 ((getN b (p + k) (q - k) : Nat) : Int), .bool true]) ∧ Below w1.heap.size w1 w') := Lib.hid fun k h1 h2 W hW => by
      have hg := get_good (l := b) (p := p + k) (k := q - k) (by omega) (by omega) (by omega)
      have e1 : (p : Int) + (k : Int) = ((p + k : Nat) : Int) := by omega
      have e2 : (q : Int) - (k : Int) = ((q - k : Nat) : Int) := by omega
      rw [e1, e2]
      have := CG.out ((p + k : Nat) : Int) ((q - k : Nat) : Int) W (by omega) hW
      rw [hg.1, hg.2] at this
      exact this
    have HV : Hid (∀ k : Nat, 1 ≤ k → k < q → getN b p q = getN b p k + getN b (p + k) (q - k) * 2 ^ k ∧ getN b p q < 4096) := Lib.hid fun k h1 h2 => by
      have h3 := getN_split b p k (q - k)
      rw [show k + (q - k) = q from by omega] at h3
      have h4 := two_pow_le q (by omega)
      exact ⟨h3, by omega⟩
    have hbok : bitOkB ((getN b p q : Nat) : Int) (q : Int) = true := by
      unfold bitOkB
      have e : ((2 ^ q : Nat) : Int) = (2 : Int) ^ q := by simp
      simp
      omega
    have CO := Lib.hid (implBitOk_any ((getN b p q : Nat) : Int) (q : Int))
    unfold bnum at CO
    rw [hbok] at CO
    rw [hgn]
    clear hgn hok hcc hpq hbok CG HX hnl
    go_wp2_with fail
    refine (CO.out _).mono ?_
    rintro e w3 ⟨rfl, b3⟩
    have HB3 := Lib.hid (HB2.out.trans (b3.mono HB2.out.size))
    clear b3 CO HB2
    obtain ⟨n, hn⟩ : ∃ n, getN b p q = n := ⟨_, rfl⟩
    rw [hn] at HV ⊢
    clear hn
    go_wp2_with fail
    go_loopw [10] (fun i wr => ∃ k : Nat, 1 ≤ k ∧ k ≤ q ∧ i = .int .i64 k ∧ Below w1.heap.size w1 wr) (fun i _ => q - (intOf i).toNat)
    case atStart => exact ⟨1, by omega, by omega, rfl, HB3.out⟩
    case round =>
      obtain ⟨k, hk1, hk, rfl, hbel⟩ := hrel
      have HB := Lib.hid hbel
      clear hbel HB3
      by_cases hlt : k < q
      · have CLk := Lib.hid (CL.out k hk1 hlt)
        have CHk := Lib.hid (CH.out k hk1 hlt)
        obtain ⟨hv, hn⟩ := HV.out k hk1 hlt
        obtain ⟨m1, hm1⟩ : ∃ m, getN b p k = m := ⟨_, rfl⟩
        obtain ⟨m2, hm2⟩ : ∃ m, getN b (p + k) (q - k) = m := ⟨_, rfl⟩
        rw [hm1] at CLk hv
        rw [hm2] at CHk hv
        have e0 : ((m2 : Nat) : Int) * 2 ^ k = ((m2 * 2 ^ k : Nat) : Int) := by simp
        have he : (wrap64 ((m1 : Int) + wrap64 ((m2 : Int) * 2 ^ k)) != (n : Int)) = false := by
          rw [e0, w64 _ (by omega), ← Int.natCast_add, w64 _ (by omega), ← hv]
          simp
        clear e0 hv hn hm1 hm2 HV CL CH
        go_wp2_with fail
        refine (CLk.out _ HB.out).mono ?_
        rintro e w4 ⟨rfl, b4⟩
        have HB4 := Lib.hid b4
        clear b4 HB CLk
        go_wp2_with fail
        refine (CHk.out _ HB4.out).mono ?_
        rintro e w5 ⟨rfl, b5⟩
        have HB5 := Lib.hid b5
        clear b5 HB4 CHk
        go_wp2_with fail
        go_roundw
        case rel => exact ⟨k + 1, by omega, by omega, by go_num, HB5.out⟩
        case measure => simp [intOf]; omega
      · obtain rfl : k = q := by omega
        clear HV CL CH
        go_wp2_with fail
        go_ret
        exact ⟨rfl, HB1.out.trans (HB.out.mono HB1.out.size)⟩

theorem fnBitGet_walk (A : Option Addr) (c : Nat) (l : List UInt8) (w : World) (hT : ErrV w 0 ∧ ErrV w 1 ∧ ErrV w 3) (h : Has w w.heap.size A l) (hc : l.length ≤ c) :
    Calls Tryd.prog 4 #[.slice A l.length c] w fun e w' => e = .returned (.bool true) ∧ Below w.heap.size w w' := by
  by_cases hbig : 1048576 < l.length
  · have hb : (1048576 : Int) < (l.length : Int) := by omega
    go_enter Tryd.func4, Tryd.ntmps4
    go_wp2
    go_ret
    exact ⟨rfl, Below.refl _ _⟩
  · exact fnBitGet_small A c l w ⟨hT.1, hT.2.1, hT.2.2⟩ h hc (by omega)
end Go.Proofs.YtdipihdpfkoddaaDoor
