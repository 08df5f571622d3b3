/-
  The law FnFoldKeep returns true for every list of bytes. Condition: the table of ranges reads as the program's text lays it.
-/
import Derived.Test.YtiemlakjallphabDoorRanL
import Derived.Test.YtiemlakjallphabDoorDrF
import Derived.Test.YtiemlakjallphabDoorEaOk
import Derived.Test.YtiemlakjallphabDoorOpsK
import Derived.Test.YtiemlakjallphabDoorFoldN
import Derived.BigQuiet
namespace Go.Proofs.YtiemlakjallphabDoor
set_option maxRecDepth 4000
open Go.RowKit

theorem opsB_short2 {l : List Op} (h : l.all opB = true) (h5 : l.length ≤ 5) : opsB l = true := by
  unfold opsB
  rw [h, decide_eq_true h5]
  rfl
/-- A list without two alike side by side under way. -/
def Kept (w : World) (k : Nat) (v : Value) (u : World) : Prop :=
  ∃ (ks : List Op) (A : Option Addr) (c n : Nat), n = ks.length ∧ v = .slice A n c ∧ n ≤ k ∧ noTwo ks = true ∧ ks.all opB = true ∧ opE.Own u w.heap.size (.slice A n c) ks ∧ Below w.heap.size w u
set_option maxHeartbeats 4000000 in
theorem fnFoldKeep_walk (A : Option Addr) (cap : Nat) (l : List UInt8) (w : World) (hR : RangesIn w) (h : Has w w.heap.size A l) (hcap : l.length ≤ cap) :
    Calls Tryd.prog 9 #[.slice A l.length cap] w fun e w' => e = .returned (.bool true) ∧ Below w.heap.size w w' := by
  have CD := Lib.hid fun hs => drawOpsFold_any A cap l w hs hcap h
  obtain ⟨n, hn⟩ : ∃ n, l.length = n := ⟨_, rfl⟩
  rw [hn] at CD ⊢
  have HR := Lib.hid fun u (hb : Below w.heap.size w u) => hR.below hb hR.1
  have CK := Lib.hid fun u => eaOk_any u
  have CE : Hid (∀ (u : World) (A A' : Option Addr) (c c' n : Nat) (l : List Op), l.length = n → n ≤ 1048576 → opE.Has u u.heap.size A l → opE.Has u u.heap.size A' l → Calls Tryd.prog 30 #[.slice A n c, .slice A' n c'] u fun e w' => e = .returned (.bool true) ∧ Below u.heap.size u w') := Lib.hid fun u A A' c c' n l hn hm h h' => by
    subst hn
    exact eaOps_same A A' c c' l u (by omega) h h'
  clear hn hR h hcap
  by_cases hs : n ≤ 1048576
  case neg =>
    have hI : (1048576 : Int) < (n : Int) := by omega
    go_enter Tryd.func9, Tryd.ntmps9
    go_wp2_with fail
    go_ret
    exact ⟨rfl, Below.refl _ _⟩
  have hI : ¬ (1048576 : Int) < (n : Int) := by omega
  go_enter Tryd.func9, Tryd.ntmps9
  go_wp2_with fail
  refine (CD.out (by omega)).mono ?_
  rintro e w1 ⟨q, c1, ls, rfl, hh1, hc1, h6, b1⟩
  clear CD
  obtain ⟨N, hN⟩ : ∃ N, ls.length = N := ⟨_, rfl⟩
  obtain ⟨f, hf⟩ : ∃ f, opsFold ls = f := ⟨_, rfl⟩
  obtain ⟨M, hM⟩ : ∃ M, f.length = M := ⟨_, rfl⟩
  have HMN : Hid (M ≤ N) := Lib.hid (by rw [← hM, ← hf, ← hN]; exact opsFold_le ls)
  have HN := Lib.hid hN
  have HM := Lib.hid hM
  have HB1 := Lib.hid b1
  have HL := Lib.hid fun u (hb : Below w1.heap.size w1 u) => (hh1.below hb).wider hb.size
  have CI : Hid (∀ u, Below w1.heap.size w1 u → Calls Tryd.prog 22 #[.slice (some ⟨q, 0, none⟩) N c1] u (GaveO f u)) := Lib.hid fun u hb => by
    have := implOpsFold_any (some ⟨q, 0, none⟩) c1 ls u (by omega) (HR.out u (b1.trans (hb.mono b1.size))) (HL.out u hb)
    rw [hN, hf] at this
    exact this
  have CS : Hid (∀ u, Below w1.heap.size w1 u → Calls Tryd.prog 21 #[.slice (some ⟨q, 0, none⟩) N c1] u (GaveL f u)) := Lib.hid fun u hb => by
    have := specOpsFold_any (some ⟨q, 0, none⟩) c1 ls u (by omega) (HL.out u hb)
    rw [hN, hf] at this
    exact this
  rw [hN] at h6 ⊢
  clear hh1 hc1 b1 hN hf hM
  by_cases h5 : 5 < N
  · have h5I : (5 : Int) < (N : Int) := by omega
    go_wp2_with fail
    refine (CK.out _).mono ?_
    rintro e w6 ⟨rfl, b6⟩
    have HB6 := Lib.hid (HB1.out.trans (b6.mono HB1.out.size))
    clear b6
    go_wp2_with fail
    go_ret
    exact ⟨rfl, HB6.out⟩
  have h5I : ¬ (5 : Int) < (N : Int) := by omega
  have HK0 : Hid (Kept w1 0 (.slice (some ⟨w1.heap.size, 0, none⟩) 0 0) (w1.alloc (.cells #[] 49))) := Lib.hid ⟨[], _, _, _, rfl, rfl, Nat.le_refl _, rfl, rfl, El.own_empty opE (Nat.le_refl _), (Below.refl _ _).alloc (Nat.le_refl _) _⟩
  go_wp2_with fail
  go_loopw [4, 5] (fun v i wr => ∃ k : Nat, k ≤ N ∧ i = .int .i64 (k : Int) ∧ Kept w1 k v wr) (fun _ i _ => N - (intOf i).toNat)
  case atStart => exact ⟨0, Nat.zero_le _, rfl, HK0.out⟩
  case round =>
    clear HK0
    obtain ⟨k, hk, rfl, ks, A2, c2, m, hm, rfl, hmk, hno, hal, ho, hb⟩ := hrel
    have HKM := Lib.hid hm
    have HNO := Lib.hid hno
    have HAL := Lib.hid hal
    have HO := Lib.hid ho
    have HB := Lib.hid hb
    clear hno hal ho hb hm
    by_cases hlt : k < N
    · obtain ⟨b, o, x, e0, hbx, hx, -⟩ := (HL.out wr HB.out).spot (k := k) (by rw [HN.out]; exact hlt)
      cases e0
      obtain ⟨d0, d1, d2, d3, d4⟩ := op_at (HL.out wr HB.out) hx
      have HX := Lib.hid hx
      have CO := Lib.hid fun u => specOpOk_any x u
      unfold Op.v at CO
      have hkI : (0 : Int) ≤ (k : Int) ∧ (k : Int) < (N : Int) := by omega
      simp only [Nat.zero_add] at d0 d1 d2 d3 d4
      clear hx
      go_wp2_with fail
      refine (CO.out _).mono ?_
      rintro e w5 ⟨rfl, b5⟩
      have HB5 := Lib.hid (HB.out.trans (b5.mono HB.out.size))
      have HO5 := Lib.hid (HO.out.below b5 (Nat.le_refl _))
      obtain ⟨p, hp⟩ : ∃ p, opB x = p := ⟨_, rfl⟩
      have HP := Lib.hid hp
      rw [hp]
      clear b5 hp d0 d1 d2 d3 d4 hbx
      cases p
      · go_wp2_with fail
        refine (CK.out _).mono ?_
        rintro e w6 ⟨rfl, b6⟩
        have HB6 := Lib.hid (HB1.out.trans ((HB5.out.trans (b6.mono HB5.out.size)).mono HB1.out.size))
        clear b6
        go_wp2_with fail
        go_ret
        exact ⟨rfl, HB6.out⟩
      · obtain ⟨d0, d1, d2, d3, d4⟩ := op_at (HL.out w5 HB5.out) HX.out
        simp only [Nat.zero_add] at d0 d1 d2 d3 d4
        by_cases hm0 : m = 0
        · subst hm0
          obtain rfl : ks = [] := List.eq_nil_of_length_eq_zero HKM.out.symm
          go_wp2_with fail
          go_quiet (fail)
          go_wp2_with (at_builtin; refine El.wpList_pushAll (E := opE) 34 Tryd.underlying34 rfl (.tmp 47) (.tmp 52) rfl w1.heap.size (.slice A2 0 c2) ([] : List Op) rfl ((HO5.out.drewN _).alloc _) _ (some ⟨w5.heap.size, 0, none⟩) 1 1 [x] rfl (has_one (w5.drewN _) x) rfl (by simp) (by have := HB5.out.size; simp; omega) ?_; intro A4 c4 w6 ho6 hg6; obtain ⟨n4, hn4⟩ : ∃ n4, (([] : List Op) ++ [x]).length = n4 := ⟨_, rfl⟩; rw [hn4] at ho6 ⊢; have HO6 := Lib.hid (And.intro ho6 hn4); have HG6 := Lib.hid hg6; clear ho6 hg6 hn4)
          go_roundw
          case rel =>
            refine ⟨k + 1, by omega, by go_num, ([] : List Op) ++ [x], A4, c4, n4, HO6.out.2.symm, rfl, ?_, noTwo_snoc HNO.out (fun p hp => by simp at hp), ?_, HO6.out.1, ?_⟩
            · have h1 := HO6.out.2
              rw [List.length_append, List.length_singleton, ← HKM.out] at h1
              omega
            · rw [List.all_append, HAL.out, List.all_cons, HP.out]
              rfl
            · exact (((below_draws HB5.out _).alloc HB5.out.size _).grown HG6.out (by have := HB5.out.size; simp; omega) (fun q e => (World.ownsRow.lt HO5.out q e).1))
          case measure => simp [intOf]; omega
        · have hm1 : ¬ (m : Int) = 0 := by omega
          obtain ⟨j, hj⟩ : ∃ j, m - 1 = j := ⟨_, rfl⟩
          have hjI : (m : Int) - 1 = (j : Int) := by omega
          have uj := IntWalk.i64_in (j : Int) (by omega)
          obtain ⟨b2, o2, y, rfl, hby, hy, -⟩ := HO5.out.reads.spot (k := j) (by rw [← HKM.out]; omega)
          obtain ⟨y0, y1, y2, y3, y4⟩ := op_at HO5.out.reads hy
          have hpj : (0 : Int) ≤ (j : Int) ∧ (j : Int) < (m : Int) := by omega
          have HLAST : Hid (∀ p, ks.getLast? = some p → p = y) := Lib.hid fun p hp => by
            rw [List.getLast?_eq_getElem?, ← HKM.out, hj, hy] at hp
            exact (Option.some.inj hp).symm
          clear hj hy hby
          by_cases hyx : y.k = x.k
          · have e4 : (y.k != x.k) = false := by rw [hyx]; exact bne_self_eq_false _
            clear hyx
            go_wp2_with fail
            go_quiet (fail)
            go_wp2_with fail
            go_roundw
            case rel => exact ⟨k + 1, by omega, by go_num, ks, some ⟨b2, o2, none⟩, c2, m, HKM.out, rfl, by omega, HNO.out, HAL.out, HO5.out.drewN _, below_draws HB5.out _⟩
            case measure => simp [intOf]; omega
          have e4 : (y.k != x.k) = true := bne_iff_ne.2 hyx
          have HYX := Lib.hid hyx
          clear hyx
          go_wp2_with fail
          go_quiet (fail)
          go_wp2_with (at_builtin; refine El.wpList_pushAll (E := opE) 34 Tryd.underlying34 rfl (.tmp 47) (.tmp 52) rfl w1.heap.size (.slice (some ⟨b2, o2, none⟩) m c2) ks rfl ((HO5.out.drewN _).alloc _) _ (some ⟨w5.heap.size, 0, none⟩) 1 1 [x] rfl (has_one (w5.drewN _) x) rfl (by have := HKM.out; omega) (by have := HB5.out.size; simp; omega) ?_; intro A4 c4 w6 ho6 hg6; obtain ⟨n4, hn4⟩ : ∃ n4, (ks ++ [x]).length = n4 := ⟨_, rfl⟩; rw [hn4] at ho6 ⊢; have HO6 := Lib.hid (And.intro ho6 hn4); have HG6 := Lib.hid hg6; clear ho6 hg6 hn4)
          go_roundw
          case rel =>
            refine ⟨k + 1, by omega, by go_num, ks ++ [x], A4, c4, n4, HO6.out.2.symm, rfl, ?_, noTwo_snoc HNO.out (fun p hp => by rw [HLAST.out p hp]; exact HYX.out), ?_, HO6.out.1, ?_⟩
            · have h1 := HO6.out.2
              rw [List.length_append, List.length_singleton, ← HKM.out] at h1
              omega
            · rw [List.all_append, HAL.out, List.all_cons, HP.out]
              rfl
            · exact (((below_draws HB5.out _).alloc HB5.out.size _).grown HG6.out (by have := HB5.out.size; simp; omega) (fun q e => (World.ownsRow.lt HO5.out q e).1))
          case measure => simp [intOf]; omega
    · obtain rfl : k = N := by omega
      clear hlt
      have hks : opsFold ks = ks := by rw [opsFold_ok (opsB_short2 HAL.out (by rw [← HKM.out]; omega)), foldR_noTwo HNO.out]
      have CKS := implOpsFold_any A2 c2 ks wr (by rw [← HKM.out]; omega) (HR.out wr (HB1.out.trans (HB.out.mono HB1.out.size))) HO.out.reads
      rw [← HKM.out, hks] at CKS
      have hmm : m ≤ 1048576 := by omega
      have hm2 : M ≤ 1048576 := by have := HMN.out; omega
      clear hks
      go_wp2_with fail
      refine CKS.mono ?_
      rintro e w3 ⟨A3, c3, n3, hn3, rfl, ho3, b3⟩
      obtain rfl : n3 = m := hn3.trans HKM.out.symm
      have HO3 := Lib.hid ho3.reads
      have HB3 := Lib.hid (HB.out.trans (b3.mono HB.out.size))
      have HK3 := Lib.hid ((HO.out.below b3 (Nat.le_refl _)).reads)
      clear CKS ho3 b3 hn3
      go_wp2_with fail
      refine (CE.out _ _ _ _ _ _ ks HKM.out.symm hmm HO3.out HK3.out).mono ?_
      rintro e w4 ⟨rfl, b4⟩
      have HB4 := Lib.hid (HB3.out.trans (b4.mono HB3.out.size))
      clear b4
      go_wp2_with fail
      refine (CI.out _ HB4.out).mono ?_
      rintro e w5 ⟨A5, c5, n5, hn5, rfl, ho5, b5⟩
      obtain rfl : n5 = M := hn5.trans HM.out
      have HG5 := Lib.hid fun u (hb : Below w5.heap.size w5 u) => (ho5.reads.below hb).wider hb.size
      have HB5 := Lib.hid (HB4.out.trans (b5.mono HB4.out.size))
      clear ho5 b5 hn5
      go_wp2_with fail
      refine (CS.out _ HB5.out).mono ?_
      rintro e w6 ⟨A6, c6, rfl, hc6, hh6, b6⟩
      rw [HM.out]
      have HH6 := Lib.hid hh6
      have HB56 := Lib.hid b6
      have HB6 := Lib.hid (HB5.out.trans (b6.mono HB5.out.size))
      clear hc6 hh6 b6
      go_wp2_with fail
      refine (CE.out _ _ _ _ _ _ f HM.out hm2 (HG5.out _ HB56.out) HH6.out).mono ?_
      rintro e w7 ⟨rfl, b7⟩
      have HB7 := Lib.hid (HB6.out.trans (b7.mono HB6.out.size))
      clear b7
      go_wp2_with fail
      refine (CK.out _).mono ?_
      rintro e w8 ⟨rfl, b8⟩
      have HB8 := Lib.hid (HB1.out.trans ((HB7.out.trans (b8.mono HB7.out.size)).mono HB1.out.size))
      clear b8
      go_wp2_with fail
      go_ret
      exact ⟨rfl, HB8.out⟩
end Go.Proofs.YtiemlakjallphabDoor
