/-
  Whether a list of operations is not too long and all of it is valid, of the reference and of the program. Conditions: at most 2^30 operations; the table of ranges as the program's text lays it.
-/
import Derived.Test.YtbejafbpipdbjaaDoorOpPl
import Derived.Test.YtbejafbpipdbjaaDoorOpOkS
import Derived.Test.YtbejafbpipdbjaaDoorRanI
import Derived.Test.YtbejafbpipdbjaaDoorOpO
namespace Go.Proofs.YtbejafbpipdbjaaDoor
set_option maxRecDepth 4000
open Go.RowKit

theorem opsB_cut {l : List Op} {k : Nat} {x : Op} (hx : l[k]? = some x) (h : opB x = false) : opsB l = false := by
  unfold opsB
  cases e : l.all opB
  · rfl
  · rw [List.all_eq_true] at e
    rw [e x (List.mem_of_getElem? hx)] at h
    cases h
theorem opAll_snoc {l : List Op} {k : Nat} {x : Op} (hx : l[k]? = some x) (h : opB x = true) (ht : (l.take k).all opB = true) : (l.take (k + 1)).all opB = true := by
  rw [List.take_add_one, hx, List.all_append, ht]
  simp [h]
set_option maxHeartbeats 2000000 in
theorem specL6All_any (A : Option Addr) (c : Nat) (l : List Op) (w : World) (hs : l.length ≤ 1073741824) (h : opE.Has w w.heap.size A l) :
    Calls Tryd.prog 48 #[.slice A l.length c] w fun e w' => e = .returned (.bool (opsB l)) ∧ Below w.heap.size w w' := by
  have HH := Lib.hid fun u hb => h.carry (w' := u) hb (Nat.le_refl _) hb.size
  have CK := Lib.hid fun x u => specOpOk_any x u
  unfold Op.v at CK
  obtain ⟨N, hN⟩ : ∃ N, l.length = N := ⟨_, rfl⟩
  obtain ⟨q, hq⟩ : ∃ q, opsB l = q := ⟨_, rfl⟩
  have HN := Lib.hid hN
  have HQ := Lib.hid hq
  rw [hN] at hs ⊢
  rw [hq]
  clear h hN hq
  go_enter Tryd.func48, Tryd.ntmps48
  go_wp2_with fail
  go_loopw [3] (fun v wr => ∃ k : Nat, k ≤ N ∧ v = .int .i64 (k : Int) ∧ (l.take k).all opB = true ∧ Below w.heap.size w wr) (fun v _ => N - (intOf v).toNat)
  case atStart => exact ⟨0, Nat.zero_le _, rfl, rfl, Below.refl _ _⟩
  case round =>
    obtain ⟨k, hk, rfl, hal, hb⟩ := hrel
    have HAL := Lib.hid hal
    have HB := Lib.hid hb
    clear hal hb
    by_cases hlt : k < N
    · obtain ⟨b, o, x, rfl, hbB, hx, hc⟩ := (HH.out wr HB.out).spot (k := k) (by rw [HN.out]; exact hlt)
      have c0 := hc 0 _ rfl
      have c1 := hc 1 _ rfl
      have c2 := hc 2 _ rfl
      have c3 := hc 3 _ rfl
      have c4 := hc 4 _ rfl
      simp only [show opE.n = 5 from rfl, Nat.add_zero] at c0 c1 c2 c3 c4
      have HX := Lib.hid hx
      have hkI : (0 : Int) ≤ (k : Int) ∧ (k : Int) < (N : Int) := by omega
      clear hc hx hbB
      go_wp2_with fail
      refine (CK.out x _).mono ?_
      rintro e w1 ⟨rfl, b1⟩
      have HB1 := Lib.hid (HB.out.trans (b1.mono HB.out.size))
      obtain ⟨p, hp⟩ : ∃ p, opB x = p := ⟨_, rfl⟩
      have HP := Lib.hid hp
      rw [hp]
      clear b1 c0 c1 c2 c3 c4 hp
      cases p
      · obtain rfl : q = false := by rw [← HQ.out]; exact opsB_cut HX.out HP.out
        go_wp2_with fail
        go_ret
        exact ⟨rfl, HB1.out⟩
      · have HS := Lib.hid (opAll_snoc HX.out HP.out HAL.out)
        go_wp2_with fail
        go_roundw
        case rel => exact ⟨k + 1, by omega, by go_num, HS.out, HB1.out⟩
        case measure => simp [intOf]; omega
    · obtain rfl : k = N := by omega
      have hq : decide (l.length ≤ 5) = q := by
        have h := HAL.out
        rw [← HN.out, List.take_length] at h
        rw [← HQ.out]
        unfold opsB
        rw [h]
        rfl
      rw [HN.out] at hq
      by_cases h5 : k ≤ 5
      · obtain rfl : q = true := by rw [← hq]; exact decide_eq_true h5
        have h5I : (k : Int) ≤ 5 := by omega
        clear hq h5 hk hlt
        go_wp2_with fail
        go_ret
        exact ⟨rfl, HB.out⟩
      · obtain rfl : q = false := by rw [← hq]; exact decide_eq_false h5
        have h5I : ¬ (k : Int) ≤ 5 := by omega
        clear hq h5 hk hlt
        go_wp2_with fail
        go_ret
        exact ⟨rfl, HB.out⟩
set_option maxHeartbeats 2000000 in
theorem implOpsOk_any (A : Option Addr) (c : Nat) (l : List Op) (w : World) (hs : l.length ≤ 1073741824) (hR : RangesIn w) (h : opE.Has w w.heap.size A l) :
    Calls Tryd.prog 52 #[.slice A l.length c] w fun e w' => e = .returned (.bool (opsB l)) ∧ Below w.heap.size w w' := by
  have HH := Lib.hid fun u hb => h.carry (w' := u) hb (Nat.le_refl _) hb.size
  have CK := Lib.hid fun x u hu => implOpOk_any x u hu
  have HR := Lib.hid hR
  unfold Op.v at CK
  obtain ⟨N, hN⟩ : ∃ N, l.length = N := ⟨_, rfl⟩
  obtain ⟨q, hq⟩ : ∃ q, opsB l = q := ⟨_, rfl⟩
  have HN := Lib.hid hN
  have HQ := Lib.hid hq
  rw [hN] at hs ⊢
  rw [hq]
  clear h hN hq hR
  by_cases h5 : N ≤ 5
  case neg =>
    obtain rfl : q = false := by
      rw [← HQ.out]
      unfold opsB
      rw [HN.out, decide_eq_false h5, Bool.and_false]
    have h5I : (5 : Int) < (N : Int) := by omega
    go_enter Tryd.func52, Tryd.ntmps52
    go_wp2_with fail
    go_ret
    exact ⟨rfl, Below.refl _ _⟩
  have h5I : ¬ (5 : Int) < (N : Int) := by omega
  go_enter Tryd.func52, Tryd.ntmps52
  go_wp2_with fail
  go_loopw [10] (fun v wr => ∃ k : Nat, k ≤ N ∧ v = .int .i64 (k : Int) ∧ (l.take k).all opB = true ∧ Below w.heap.size w wr) (fun v _ => N - (intOf v).toNat)
  case atStart => exact ⟨0, Nat.zero_le _, rfl, rfl, Below.refl _ _⟩
  case round =>
    obtain ⟨k, hk, rfl, hal, hb⟩ := hrel
    have HAL := Lib.hid hal
    have HB := Lib.hid hb
    clear hal hb
    by_cases hlt : k < N
    · obtain ⟨b, o, x, rfl, hbB, hx, hc⟩ := (HH.out wr HB.out).spot (k := k) (by rw [HN.out]; exact hlt)
      have c0 := hc 0 _ rfl
      have c1 := hc 1 _ rfl
      have c2 := hc 2 _ rfl
      have c3 := hc 3 _ rfl
      have c4 := hc 4 _ rfl
      simp only [show opE.n = 5 from rfl, Nat.add_zero] at c0 c1 c2 c3 c4
      have HX := Lib.hid hx
      have hkI : (0 : Int) ≤ (k : Int) ∧ (k : Int) < (N : Int) := by omega
      have ba : Below w.heap.size w (wr.alloc (.cells #[.int .i64 x.k, .int .i64 x.a, .int .i64 x.b, .int .i64 x.c, .int .i64 x.d] 25)) := HB.out.alloc HB.out.size _
      have HBA := Lib.hid ba
      have HRA := Lib.hid (HR.out.next ba)
      clear hc hx hbB ba
      go_wp2_with fail
      refine (CK.out x _ HRA.out).mono ?_
      rintro e w1 ⟨rfl, b1⟩
      have HB1 := Lib.hid (HBA.out.trans (b1.mono HBA.out.size))
      obtain ⟨p, hp⟩ : ∃ p, opB x = p := ⟨_, rfl⟩
      have HP := Lib.hid hp
      rw [hp]
      clear b1 c0 c1 c2 c3 c4 hp
      cases p
      · obtain rfl : q = false := by rw [← HQ.out]; exact opsB_cut HX.out HP.out
        go_wp2_with fail
        go_ret
        exact ⟨rfl, HB1.out⟩
      · have HS := Lib.hid (opAll_snoc HX.out HP.out HAL.out)
        go_wp2_with fail
        go_roundw
        case rel => exact ⟨k + 1, by omega, by go_num, HS.out, HB1.out⟩
        case measure => simp [intOf]; omega
    · obtain rfl : k = N := by omega
      obtain rfl : q = true := by
        have h := HAL.out
        rw [← HN.out, List.take_length] at h
        rw [← HQ.out]
        unfold opsB
        rw [h, HN.out, decide_eq_true h5]
        rfl
      clear hk hlt
      go_wp2_with fail
      go_ret
      exact ⟨rfl, HB.out⟩
end Go.Proofs.YtbejafbpipdbjaaDoor
