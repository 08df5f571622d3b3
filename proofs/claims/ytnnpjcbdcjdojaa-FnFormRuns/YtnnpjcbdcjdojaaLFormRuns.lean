/-
  The law FnFormRuns returns true for every list of bytes to draw from. No condition.
-/
import Derived.Test.YtnnpjcbdcjdojaaFormC
import Derived.Test.YtnnpjcbdcjdojaaDrawFM
import Derived.Test.YtnnpjcbdcjdojaaEaB
import Derived.Test.YtnnpjcbdcjdojaaEaOk
namespace Go.Proofs.Ytnnpjcbdcjdojaa
set_option maxRecDepth 4000
open Go.RowKit

/-- How many runs a list has that begins so. -/
theorem runs_file {W H : Int} {p : Px} {l : List Px} (h : rasB W H (p :: l) = true) : (formB 82 [] W H (p :: l)).length = 8 + 5 * (1 + chg p l) := by
  rw [formB_of (k := 82) (note := []) rfl (by simp) h, fileB_length]
  show 6 + 0 + (runsB W H (p :: l)).length = _
  unfold runsB
  rw [List.length_append, runsP_length l.length p l (Nat.le_refl _)]
  simp
  omega
theorem chg_step {p q : Px} {r : List Px} : chg p (q :: r) = (if q = p then 0 else 1) + chg q r := rfl
set_option maxHeartbeats 4000000 in
theorem fnFormRuns_small (A : Option Addr) (c : Nat) (l : List UInt8) (w : World) (h : Has w w.heap.size A l) (hc : l.length ≤ c) (hs : l.length ≤ 1048576) :
    Calls Try.prog 6 #[.slice A l.length c] w fun e w' => e = .returned (.bool true) ∧ Below w.heap.size w w' := by
  have C1 := Lib.hid (drawFormPut_any A c l w (by omega) hc h)
  have hl0 : ¬ ((1048576 : Int) < (l.length : Int)) := by omega
  clear h hs hc
  go_enter Try.func6, Try.ntmps6
  go_wp2_with fail
  refine C1.out.mono ?_
  rintro e w1 ⟨W, H, A1, c1, l1, rfl, hh1, hc1, hl1, B1⟩
  clear C1
  unfold rasV
  have hX2 : RasAtB ((w1.alloc (.cells #[.int .i64 W, .int .i64 H, .slice A1 l1.length c1] 25)).alloc (.cells #[] 5)) w1.heap.size W H A1 l1.length c1 25 := (Below.heap_alloc _ _ _ (by simp)).trans (heap_alloc_new w1 _)
  have b2 : Below w1.heap.size w1 ((w1.alloc (.cells #[.int .i64 W, .int .i64 H, .slice A1 l1.length c1] 25)).alloc (.cells #[] 5)) := ((Below.refl _ w1).alloc (Nat.le_refl _) _).alloc (by simp) _
  have CD := Lib.hid fun An W0 hp => fwI 82 82 rfl An 0 [] W H A1 c1 l1 W0 (by simp) (by omega) hc1 (.inl rfl) hp
  have CS := Lib.hid fun An W0 hp => fwS 82 82 rfl An 0 [] W H A1 c1 l1 W0 (by simp) (by omega) hc1 (.inl rfl) hp
  have CO := Lib.hid fun W0 hp => rokS W H A1 c1 l1 W0 (by omega) hp
  have L82 := Lib.hid (formB_len 82 [] W H l1 rfl)
  have HRF := Lib.hid fun p r => runs_file (W := W) (H := H) (p := p) (l := r)
  unfold Filed at CD CS
  have f1l := formB_le 82 [] W H l1
  obtain ⟨f1, hf1⟩ : ∃ f1, formB 82 [] W H l1 = f1 := ⟨_, rfl⟩
  rw [hf1] at CD CS L82 f1l
  have HF1 := Lib.hid hf1
  clear hf1
  simp only [List.length_nil] at CD CS
  go_wp2_with fail
  generalize (w1.alloc (.cells #[.int .i64 W, .int .i64 H, .slice A1 l1.length c1] 25)).alloc (.cells #[] 5) = w2 at *
  have hh2 := hh1.carry b2 (Nat.le_refl _) b2.size
  have B2 := B1.trans (b2.mono B1.size)
  have hz2 := hX2.lt
  have CD2 := Lib.hid fun An => CD.out An w2 hh2
  clear CD hh1 b2 B1
  refine (CD2.out _).mono ?_
  rintro e w3 ⟨A3, c3, rfl, hc3, h3, b3⟩
  have hX3 := (hX2.below b3 hz2)
  have b3' : Below w2.heap.size w2 (w3.alloc (.cells #[] 5)) := b3.alloc b3.size _
  have hX3' := hX2.below b3' hz2
  have hh3 := hh2.carry b3' (Nat.le_refl _) b3'.size
  have B3 := B2.trans (b3'.mono B2.size)
  have h33 : Has (w3.alloc (.cells #[] 5)) w3.heap.size A3 f1 := h3.below ((Below.refl _ w3).alloc (Nat.le_refl _) _)
  have x0 := hX3'.c0
  have x1 := hX3'.c1
  have x2 := hX3'.c2
  have hz3 := hX3'.lt
  have hw3 : w3.heap.size ≤ (w3.alloc (.cells #[] 5)).heap.size := by simp
  have CS3 := Lib.hid fun An => CS.out An _ hh3
  clear CD2 CS hh2 hX2 B2 b3 h3 b3' hX3
  go_wp2_with fail
  generalize w3.alloc (.cells #[] 5) = w4 at *
  refine (CS3.out _).mono ?_
  rintro e w5 ⟨A5, c5, rfl, -, h5, b5⟩
  have hh5 := hh3.carry b5 (Nat.le_refl _) b5.size
  have h35 := h33.carry b5 hw3 b5.size
  have hX5 := hX3'.below b5 hz3
  have B5 := B3.trans (b5.mono B3.size)
  have x0 := hX5.c0
  have x1 := hX5.c1
  have x2 := hX5.c2
  have hz5 := hX5.lt
  clear CS3 hh3 hX3' B3 b5 h33 hw3
  go_wp2_with fail
  refine (eaBytes_same _ _ _ _ _ _ f1 _ h35 h5).mono ?_
  rintro e w' ⟨rfl, rfl⟩
  have CO5 := Lib.hid (CO.out w5 hh5)
  clear h5 h35 CO
  go_wp2_with fail
  refine CO5.out.mono ?_
  rintro e w6 ⟨rfl, b6⟩
  have hh6 := hh5.carry b6 (Nat.le_refl _) b6.size
  have hX6 := hX5.below b6 hz5
  have B6 := B5.trans (b6.mono B5.size)
  clear CO5 hX5 hh5 B5 b6
  cases hr : rasB W H l1
  · have he : f1 = [] := by
      rcases L82.out with ⟨hg, _⟩ | ⟨_, h⟩
      · have := (goodB_parts hg).2
        rw [hr] at this
        cases this
      · exact h
    have he0 : ((f1.length : Int) == 0) = true := by rw [he]; rfl
    clear hr L82 HRF he hh6 hX6
    go_wp2_with fail
    refine (eaOk_any _).mono ?_
    rintro e w7 ⟨rfl, b7⟩
    have HB7 := Lib.hid (B6.trans (b7.mono B6.size))
    clear b7 B6
    go_wp2_with fail
    go_ret
    exact ⟨rfl, HB7.out⟩
  · obtain ⟨p, r, rfl⟩ : ∃ p r, l1 = p :: r := by
      cases l1 with
      | nil =>
        obtain ⟨hW, hH, hl, -⟩ := rasB_parts hr
        have := mul36 hW hH
        simp at hl
        omega
      | cons p r => exact ⟨p, r, rfl⟩
    have hfl := HRF.out p r hr
    rw [HF1.out] at hfl
    have HFL := Lib.hid hfl
    have HCL := Lib.hid (chg_le p r)
    obtain ⟨N, hN⟩ : ∃ N, (p :: r).length = N := ⟨_, rfl⟩
    have hNr : r.length + 1 = N := by rw [← hN]; rfl
    rw [hN] at hX6 hl1 ⊢
    have HNR := Lib.hid hNr
    have hNI : (N : Int) ≤ 36 := by omega
    have HP6 := Lib.hid hh6
    have HX6 := Lib.hid hX6
    have HB6 := Lib.hid B6
    have x2 := hX6.c2
    clear hr L82 HRF hfl hN hNr hh6 hX6 B6 f1l
    go_wp2_with fail
    go_loopw [5, 6] (fun v5 v6 wr => ∃ (m k : Nat) (q : Px), 1 ≤ k ∧ k ≤ N ∧ m ≤ k ∧ v5 = .int .i64 (m : Int) ∧ v6 = .int .i64 (k : Int) ∧ (p :: r)[k - 1]? = some q ∧ m + chg q ((p :: r).drop k) = 1 + chg p r ∧ ∃ n, wr = w6.drewN n) (fun _ v6 _ => N - (intOf v6).toNat)
    case atStart => exact ⟨1, 1, p, Nat.le_refl _, by have := HNR.out; omega, Nat.le_refl _, rfl, rfl, rfl, rfl, 0, rfl⟩
    case round =>
      obtain ⟨m, k, q, hk1, hk, hm, rfl, rfl, hq, hchg, n, rfl⟩ := hrel
      have hkN : ((p :: r).length) = N := HNR.out
      by_cases hlt : k < N
      · obtain ⟨b, o, q', rfl, -, hq', a0, a1, a2, a3⟩ := HP6.out.spot (k := k) (by rw [hkN]; exact hlt)
        obtain ⟨j, hj⟩ : ∃ j, k - 1 = j := ⟨_, rfl⟩
        rw [hj] at hq
        obtain ⟨b', o', q2, e0, -, hq2, d0, d1, d2, d3⟩ := HP6.out.spot (k := j) (by rw [hkN]; omega)
        injection e0 with e0
        injection e0 with e1 e2 _
        subst e1 e2
        obtain rfl : q2 = q := Option.some.inj (hq2.symm.trans hq)
        have hdr : (p :: r).drop k = q' :: (p :: r).drop (k + 1) := by
          obtain ⟨h1, h2⟩ := List.getElem?_eq_some_iff.1 hq'
          rw [List.drop_eq_getElem_cons h1, h2]
        rw [hdr, chg_step] at hchg
        have HQ : Hid ((p :: r)[k + 1 - 1]? = some q') := Lib.hid hq'
        have hjI : (k : Int) - 1 = (j : Int) := by omega
        have uj := IntWalk.i64_in (j : Int) (by omega)
        have pk : 0 ≤ (k : Int) ∧ (k : Int) < (N : Int) := by omega
        have pj : 0 ≤ (j : Int) ∧ (j : Int) < (N : Int) := by omega
        have hk36 : (k : Int) ≤ 36 := by omega
        have hm36 : (m : Int) ≤ 36 := by omega
        clear hq hq' hq2 hdr hkN
        by_cases hqp : q' = q2
        · rw [if_pos hqp, Nat.zero_add] at hchg
          have HC := Lib.hid hchg
          subst hqp
          clear hchg hj
          go_wp2_with fail
          go_quiet (fail)
          go_wp2_with fail
          go_roundw
          case rel => exact ⟨m, k + 1, q', by omega, by omega, by omega, rfl, by go_num, HQ.out, HC.out, _, rfl⟩
          case measure => simp [intOf]; omega
        · rw [if_neg hqp] at hchg
          have HC : Hid (m + 1 + chg q' ((p :: r).drop (k + 1)) = 1 + chg p r) := Lib.hid (by omega)
          have hdj : (q'.r == q2.r) = false ∨ ((q'.r == q2.r) = true ∧ (q'.g == q2.g) = false) ∨ ((q'.r == q2.r) = true ∧ (q'.g == q2.g) = true ∧ (q'.b == q2.b) = false) ∨ ((q'.r == q2.r) = true ∧ (q'.g == q2.g) = true ∧ (q'.b == q2.b) = true ∧ (q'.a == q2.a) = false) := by
            cases h1 : (q'.r == q2.r)
            · exact .inl rfl
            · cases h2 : (q'.g == q2.g)
              · exact .inr (.inl ⟨rfl, rfl⟩)
              · cases h3 : (q'.b == q2.b)
                · exact .inr (.inr (.inl ⟨rfl, rfl, rfl⟩))
                · cases h4 : (q'.a == q2.a)
                  · exact .inr (.inr (.inr ⟨rfl, rfl, rfl, rfl⟩))
                  · rw [beq_iff_eq] at h1 h2 h3 h4
                    exact absurd (by cases q'; cases q2; simp_all) hqp
          clear hchg hj hqp
          rcases hdj with h1 | ⟨h1, h2⟩ | ⟨h1, h2, h3⟩ | ⟨h1, h2, h3, h4⟩
          all_goals
            go_wp2_with fail
            go_quiet (fail)
            go_wp2_with fail
            go_roundw
            case rel => exact ⟨m + 1, k + 1, q', by omega, by omega, by omega, by go_num, by go_num, HQ.out, HC.out, _, rfl⟩
            case measure => simp [intOf]; omega
      · obtain rfl : k = N := by omega
        have hend : m = 1 + chg p r := by
          rw [List.drop_of_length_le (by omega)] at hchg
          exact hchg
        have hm36 : (m : Int) ≤ 36 := by omega
        have g : ((f1.length : Int) == 4 + 5 * (m : Int) + 4) = true := beq_iff_eq.2 (by have := HFL.out; omega)
        have HBn := Lib.hid (below_draws HB6.out n)
        have x2n : (w6.drewN n).cell? ⟨w1.heap.size, 2, none⟩ = _ := x2
        clear hend hchg hq hkN x2
        generalize w6.drewN n = w7 at *
        go_wp2_with fail
        go_ret
        exact ⟨rfl, HBn.out⟩
set_option maxHeartbeats 400000 in
theorem fnFormRuns_walk (A : Option Addr) (c : Nat) (l : List UInt8) (w : World) (h : Has w w.heap.size A l) (hc : l.length ≤ c) :
    Calls Try.prog 6 #[.slice A l.length c] w fun e w' => e = .returned (.bool true) ∧ Below w.heap.size w w' := by
  by_cases hbig : 1048576 < l.length
  · have hb : (1048576 : Int) < (l.length : Int) := by omega
    clear hbig h
    go_enter Try.func6, Try.ntmps6
    go_wp2
    go_ret
    exact ⟨rfl, Below.refl _ _⟩
  · exact fnFormRuns_small A c l w h hc (by omega)
end Go.Proofs.Ytnnpjcbdcjdojaa
