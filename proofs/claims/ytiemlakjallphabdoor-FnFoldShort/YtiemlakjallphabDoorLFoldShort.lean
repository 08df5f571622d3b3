/-
  The law FnFoldShort returns true for every list of bytes. Condition: the table of ranges reads as the program's text lays it.
-/
import Derived.Test.YtiemlakjallphabDoorRanL
import Derived.Test.YtiemlakjallphabDoorDrF
import Derived.Test.YtiemlakjallphabDoorEaOk
import Derived.Test.YtiemlakjallphabDoorFoldN
namespace Go.Proofs.YtiemlakjallphabDoor
set_option maxRecDepth 4000
open Go.RowKit

theorem opAll_get {l : List Op} {k : Nat} {x : Op} (h : l.all opB = true) (hx : l[k]? = some x) : opB x = true := List.all_eq_true.1 h x (List.mem_of_getElem? hx)
theorem opsB_long {l : List Op} (h : 5 < l.length) : opsB l = false := by
  unfold opsB
  rw [decide_eq_false (by omega), Bool.and_false]
theorem opsB_short {l : List Op} (h : l.all opB = true) (h5 : l.length ≤ 5) : opsB l = true := by
  unfold opsB
  rw [h, decide_eq_true h5]
  rfl
theorem opsFold_fix {l : List Op} (h : opsB l = true) : opsB (opsFold l) = true ∧ opsFold (opsFold l) = opsFold l := by
  have h2 : opsB (foldR l) = true := foldR_ok h
  rw [opsFold_ok h]
  exact ⟨h2, by rw [opsFold_ok h2]; exact foldR_again l⟩
set_option maxHeartbeats 4000000 in
theorem fnFoldShort_walk (A : Option Addr) (cap : Nat) (l : List UInt8) (w : World) (hR : RangesIn w) (h : Has w w.heap.size A l) (hcap : l.length ≤ cap) :
    Calls Tryd.prog 6 #[.slice A l.length cap] w fun e w' => e = .returned (.bool true) ∧ Below w.heap.size w w' := by
  have CD := Lib.hid fun hs => drawOpsFold_any A cap l w hs hcap h
  obtain ⟨n, hn⟩ : ∃ n, l.length = n := ⟨_, rfl⟩
  rw [hn] at CD ⊢
  have HR := Lib.hid fun u (hb : Below w.heap.size w u) => hR.below hb hR.1
  have CK := Lib.hid fun u => eaOk_any u
  have CE : Hid (∀ (u : World) (A A' : Option Addr) (c c' n : Nat) (l : List Op), l.length = n → n ≤ 1048576 → opE.Has u u.heap.size A l → opE.Has u u.heap.size A' l → Calls Tryd.prog 30 #[.slice A n c, .slice A' n c'] u fun e w' => e = .returned (.bool true) ∧ Below u.heap.size u w') := Lib.hid fun u A A' c c' n l hn hm h h' => by
    subst hn
    exact eaOps_same A A' c c' l u (by omega) h h'
  clear hn hR h hcap
  by_cases hs : n ≤ 1048576
  case neg =>
    have hI : (1048576 : Int) < (n : Int) := by omega
    go_enter Tryd.func6, Tryd.ntmps6
    go_wp2_with fail
    go_ret
    exact ⟨rfl, Below.refl _ _⟩
  have hI : ¬ (1048576 : Int) < (n : Int) := by omega
  go_enter Tryd.func6, Tryd.ntmps6
  go_wp2_with fail
  refine (CD.out (by omega)).mono ?_
  rintro e w1 ⟨q, c1, ls, rfl, hh1, hc1, h6, b1⟩
  clear CD
  obtain ⟨N, hN⟩ : ∃ N, ls.length = N := ⟨_, rfl⟩
  obtain ⟨f, hf⟩ : ∃ f, opsFold ls = f := ⟨_, rfl⟩
  obtain ⟨M, hM⟩ : ∃ M, f.length = M := ⟨_, rfl⟩
  have HMN : Hid (M ≤ N) := Lib.hid (by rw [← hM, ← hf, ← hN]; exact opsFold_le ls)
  have HN := Lib.hid hN
  have HM := Lib.hid hM
  have HF := Lib.hid hf
  have HB1 := Lib.hid b1
  have HL := Lib.hid fun u (hb : Below w1.heap.size w1 u) => (hh1.below hb).wider hb.size
  have CI : Hid (∀ u, Below w1.heap.size w1 u → Calls Tryd.prog 22 #[.slice (some ⟨q, 0, none⟩) N c1] u (GaveO f u)) := Lib.hid fun u hb => by
    have := implOpsFold_any (some ⟨q, 0, none⟩) c1 ls u (by omega) (HR.out u (b1.trans (hb.mono b1.size))) (HL.out u hb)
    rw [hN, hf] at this
    exact this
  have CS : Hid (∀ u, Below w1.heap.size w1 u → Calls Tryd.prog 21 #[.slice (some ⟨q, 0, none⟩) N c1] u (GaveL f u)) := Lib.hid fun u hb => by
    have := specOpsFold_any (some ⟨q, 0, none⟩) c1 ls u (by omega) (HL.out u hb)
    rw [hN, hf] at this
    exact this
  rw [hN] at h6 ⊢
  clear hh1 hc1 b1 hN hf hM
  go_wp2_with fail
  refine (CI.out _ (Below.refl _ _)).mono ?_
  rintro e w2 ⟨A2, c2, n2, hn2, rfl, ho2, b2⟩
  obtain rfl : n2 = M := hn2.trans HM.out
  have HG := Lib.hid fun u (hb : Below w2.heap.size w2 u) => (ho2.reads.below hb).wider hb.size
  have HB2 := Lib.hid b2
  clear ho2 b2 hn2
  go_wp2_with fail
  refine (CS.out _ HB2.out).mono ?_
  rintro e w3 ⟨A3, c3, rfl, hc3, hh3, b3⟩
  rw [HM.out]
  have HB23 := Lib.hid b3
  have HH3 := Lib.hid hh3
  clear hc3 hh3 b3
  have hm2 : n2 ≤ 1048576 := by have := HMN.out; omega
  go_wp2_with fail
  refine (CE.out _ _ _ _ _ _ f HM.out hm2 (HG.out _ HB23.out) HH3.out).mono ?_
  rintro e w4 ⟨rfl, b4⟩
  have HB4 := Lib.hid (HB23.out.trans (b4.mono HB23.out.size))
  have HB14 := Lib.hid (HB2.out.trans (HB4.out.mono HB2.out.size))
  clear b4
  go_wp2_with fail
  go_loopw [5] (fun v wr => ∃ k : Nat, k ≤ N ∧ v = .int .i64 (k : Int) ∧ (ls.take k).all opB = true ∧ Below w2.heap.size w2 wr) (fun v _ => N - (intOf v).toNat)
  case atStart => exact ⟨0, Nat.zero_le _, rfl, rfl, HB4.out⟩
  case round =>
    obtain ⟨k, hk, rfl, hal, hb⟩ := hrel
    have HAL := Lib.hid hal
    have HBK := Lib.hid hb
    have HB1K := Lib.hid (HB2.out.trans (hb.mono HB2.out.size))
    clear hal hb
    by_cases hlt : k < N
    · obtain ⟨b, o, x, e0, -, hx, -⟩ := (HL.out wr HB1K.out).spot (k := k) (by rw [HN.out]; exact hlt)
      cases e0
      obtain ⟨d0, d1, d2, d3, d4⟩ := op_at (HL.out wr HB1K.out) hx
      have HX := Lib.hid hx
      have CO := Lib.hid fun u => specOpOk_any x u
      unfold Op.v at CO
      have hkI : (0 : Int) ≤ (k : Int) ∧ (k : Int) < (N : Int) := by omega
      simp only [Nat.zero_add] at d0 d1 d2 d3 d4
      clear hx
      go_wp2_with fail
      refine (CO.out _).mono ?_
      rintro e w5 ⟨rfl, b5⟩
      have HB5 := Lib.hid (HBK.out.trans (b5.mono HBK.out.size))
      obtain ⟨p, hp⟩ : ∃ p, opB x = p := ⟨_, rfl⟩
      have HP := Lib.hid hp
      rw [hp]
      clear b5 hp d0 d1 d2 d3 d4
      cases p
      · obtain rfl : n2 = 0 := by rw [← HM.out, ← HF.out, opsFold_bad (opsB_cut HX.out HP.out)]; rfl
        go_wp2_with fail
        refine (CK.out _).mono ?_
        rintro e w6 ⟨rfl, b6⟩
        have HB6 := Lib.hid (HB1.out.trans ((HB2.out.trans ((HB5.out.trans (b6.mono HB5.out.size)).mono HB2.out.size)).mono HB1.out.size))
        clear b6
        go_wp2_with fail
        go_ret
        exact ⟨rfl, HB6.out⟩
      · have HS := Lib.hid (opAll_snoc HX.out HP.out HAL.out)
        go_wp2_with fail
        go_roundw
        case rel => exact ⟨k + 1, by omega, by go_num, HS.out, HB5.out⟩
        case measure => simp [intOf]; omega
    · obtain rfl : k = N := by omega
      have hall : ls.all opB = true := by
        have := HAL.out
        rw [List.take_of_length_le (by rw [HN.out]; exact Nat.le_refl _)] at this
        exact this
      have HALL := Lib.hid hall
      clear hall hlt
      by_cases h5 : 5 < k
      · have h5I : (5 : Int) < (k : Int) := by omega
        obtain rfl : n2 = 0 := by rw [← HM.out, ← HF.out, opsFold_bad (opsB_long (by rw [HN.out]; exact h5))]; rfl
        go_wp2_with fail
        refine (CK.out _).mono ?_
        rintro e w6 ⟨rfl, b6⟩
        have HB6 := Lib.hid (HB1.out.trans ((HB2.out.trans ((HBK.out.trans (b6.mono HBK.out.size)).mono HB2.out.size)).mono HB1.out.size))
        clear b6
        go_wp2_with fail
        go_ret
        exact ⟨rfl, HB6.out⟩
      have h5I : ¬ (5 : Int) < (k : Int) := by omega
      have hfix := opsFold_fix (opsB_short HALL.out (by rw [HN.out]; omega))
      rw [HF.out] at hfix
      have HFIX := Lib.hid hfix
      have CI2 : Hid (∀ u, Below w2.heap.size w2 u → Calls Tryd.prog 22 #[.slice A2 n2 c2] u (GaveO f u)) := Lib.hid fun u hb => by
        have := implOpsFold_any A2 c2 f u (by rw [HM.out]; omega) (HR.out u (HB1.out.trans ((HB2.out.trans (hb.mono HB2.out.size)).mono HB1.out.size))) (HG.out u hb)
        rw [HM.out, HFIX.out.2] at this
        exact this
      have hmn : (n2 : Int) ≤ (k : Int) := by have := HMN.out; omega
      clear hfix
      go_wp2_with fail
      go_loopw [6] (fun v wr => ∃ j : Nat, j ≤ n2 ∧ v = .int .i64 (j : Int) ∧ Below w2.heap.size w2 wr) (fun v _ => n2 - (intOf v).toNat)
      case atStart => exact ⟨0, Nat.zero_le _, rfl, HBK.out⟩
      case round =>
        obtain ⟨j, hj, rfl, hb⟩ := hrel
        have HBJ := Lib.hid hb
        clear hb
        by_cases hlt : j < n2
        · obtain ⟨b, o, x, rfl, -, hx, -⟩ := (HG.out wr HBJ.out).spot (k := j) (by rw [HM.out]; exact hlt)
          obtain ⟨d0, d1, d2, d3, d4⟩ := op_at (HG.out wr HBJ.out) hx
          have CO := Lib.hid (implOpOk_any x wr (HR.out _ (HB1.out.trans ((HB2.out.trans (HBJ.out.mono HB2.out.size)).mono HB1.out.size))))
          rw [opAll_get (opsB_of HFIX.out.1).1 hx] at CO
          unfold Op.v at CO
          have hjI : (0 : Int) ≤ (j : Int) ∧ (j : Int) < (n2 : Int) := by omega
          clear hx
          go_wp2_with fail
          refine CO.out.mono ?_
          rintro e w5 ⟨rfl, b5⟩
          have HB5 := Lib.hid (HBJ.out.trans (b5.mono HBJ.out.size))
          clear b5 d0 d1 d2 d3 d4
          go_wp2_with fail
          go_roundw
          case rel => exact ⟨j + 1, by omega, by go_num, HB5.out⟩
          case measure => simp [intOf]; omega
        · obtain rfl : j = n2 := by omega
          clear hlt
          go_wp2_with fail
          refine (CI2.out _ HBJ.out).mono ?_
          rintro e w6 ⟨A6, c6, n6, hn6, rfl, ho6, b6⟩
          obtain rfl : n6 = j := hn6.trans HM.out
          have HO6 := Lib.hid ho6.reads
          have HB6 := Lib.hid (HBJ.out.trans (b6.mono HBJ.out.size))
          clear ho6 b6 hn6
          go_wp2_with fail
          refine (CE.out _ _ _ _ _ _ f HM.out hm2 HO6.out (HG.out _ HB6.out)).mono ?_
          rintro e w7 ⟨rfl, b7⟩
          have HB7 := Lib.hid (HB6.out.trans (b7.mono HB6.out.size))
          clear b7
          go_wp2_with fail
          refine (CK.out _).mono ?_
          rintro e w8 ⟨rfl, b8⟩
          have HB8 := Lib.hid (HB1.out.trans ((HB2.out.trans ((HB7.out.trans (b8.mono HB7.out.size)).mono HB2.out.size)).mono HB1.out.size))
          clear b8
          go_wp2_with fail
          go_ret
          exact ⟨rfl, HB8.out⟩
end Go.Proofs.YtiemlakjallphabDoor
