/-
  eaRas tells whether two rasters have the same sides and pixels. Condition: at most 1000 pixels each.
-/
import Derived.Test.YtnnpjcbdcjdojaaEaRas
import Derived.Test.YtnnpjcbdcjdojaaForm
import Derived.Test.YtnnpjcbdcjdojaaEaB
namespace Go.Proofs.Ytnnpjcbdcjdojaa
set_option maxRecDepth 4000
open Go.RowKit

/-- eaBytes, as one contract. -/
theorem eaBytes_any (A A' : Option Addr) (c c' B B' : Nat) (l m : List UInt8) (w : World) (h : Has w B A l) (h' : Has w B' A' m) :
    Calls Try.prog 14 #[.slice A l.length c, .slice A' m.length c'] w fun e w' => e = .returned (.bool (decide (l = m))) ∧ w = w' := by
  by_cases e : l = m
  · subst e
    rw [decide_eq_true rfl]
    exact eaBytes_same A A' c c' B B' l w h h'
  · rw [decide_eq_false e]
    exact eaBytes_diff A A' c c' B B' l m w h h' e
/-- Two rasters are the same. -/
def sameRas (W H : Int) (l : List Px) (W' H' : Int) (l' : List Px) : Bool := decide (W = W' ∧ H = H' ∧ l = l')
set_option maxHeartbeats 2000000 in
theorem eaRas_any (W H W' H' : Int) (A A' : Option Addr) (c c' : Nat) (l l' : List Px) (w : World) (hs : l.length ≤ 1000) (hs' : l'.length ≤ 1000) (h : HasP w w.heap.size A l) (h' : HasP w w.heap.size A' l') :
    Calls Try.prog 21 #[.agg #[.int .i64 W, .int .i64 H, .slice A l.length c], .agg #[.int .i64 W', .int .i64 H', .slice A' l'.length c']] w fun e w' => e = .returned (.bool (sameRas W H l W' H' l')) ∧ Below w.heap.size w w' := by
  by_cases hsame : W = W' ∧ H = H' ∧ l = l'
  · obtain ⟨rfl, rfl, rfl⟩ := hsame
    rw [show sameRas W H l W H l = true from decide_eq_true ⟨rfl, rfl, rfl⟩]
    exact eaRas_same W H A A' c c' l w (by omega) h h'
  rw [show sameRas W H l W' H' l' = false from decide_eq_false hsame]
  have hb0 : Below w.heap.size w ((w.alloc (.cells #[.int .i64 W, .int .i64 H, .slice A l.length c] 25)).alloc (.cells #[.int .i64 W', .int .i64 H', .slice A' l'.length c'] 25)) := ((Below.refl _ w).alloc (Nat.le_refl _) _).alloc (by simp) _
  have hX : RasAtB ((w.alloc (.cells #[.int .i64 W, .int .i64 H, .slice A l.length c] 25)).alloc (.cells #[.int .i64 W', .int .i64 H', .slice A' l'.length c'] 25)) w.heap.size W H A l.length c 25 := (Below.heap_alloc _ _ _ (by simp)).trans (heap_alloc_new w _)
  have hY : RasAtB ((w.alloc (.cells #[.int .i64 W, .int .i64 H, .slice A l.length c] 25)).alloc (.cells #[.int .i64 W', .int .i64 H', .slice A' l'.length c'] 25)) (w.heap.size + 1) W' H' A' l'.length c' 25 := by
    have := heap_alloc_new (w.alloc (.cells #[.int .i64 W, .int .i64 H, .slice A l.length c] 25)) (.cells #[.int .i64 W', .int .i64 H', .slice A' l'.length c'] 25)
    rw [show (w.alloc (.cells #[.int .i64 W, .int .i64 H, .slice A l.length c] 25)).heap.size = w.heap.size + 1 from by simp] at this
    exact this
  have H1 := Lib.hid (h.below hb0)
  have H2 := Lib.hid (h'.below hb0)
  have HB := Lib.hid hb0
  have HD := Lib.hid hsame
  clear h h' hb0 hsame
  by_cases e1 : W = W'
  · subst e1
    by_cases e2 : H = H'
    · subst e2
      by_cases e3 : l.length = l'.length
      · have HNE : Hid (l ≠ l') := Lib.hid fun e => HD.out ⟨rfl, rfl, e⟩
        have HE3 := Lib.hid e3
        obtain ⟨N, hN⟩ : ∃ N, l.length = N := ⟨_, rfl⟩
        have HN := Lib.hid hN
        rw [← e3] at HB H1 H2 hX hY ⊢
        rw [hN] at HB H1 H2 hX hY hs ⊢
        have hNI : (N : Int) ≤ 1000 := by omega
        clear hs hs' e3 hN HD
        go_enter Try.func21, Try.ntmps21
        go_wp2_with fail
        generalize (w.alloc (.cells #[.int .i64 W, .int .i64 H, .slice A N c] 25)).alloc (.cells #[.int .i64 W, .int .i64 H, .slice A' N c'] 25) = w0 at *
        have x2 := hX.c2
        have y2 := hY.c2
        clear hX hY
        go_loopw [5] (fun i wr => ∃ k : Nat, k ≤ N ∧ i = .int .i64 k ∧ l.take k = l'.take k ∧ ∃ n, wr = w0.drewN n) (fun i _ => N - (intOf i).toNat)
        case atStart => exact ⟨0, Nat.zero_le _, rfl, rfl, 0, rfl⟩
        case round =>
          obtain ⟨k, hk, rfl, htk, n, rfl⟩ := hrel
          have HTK := Lib.hid htk
          clear htk
          by_cases hlt : k < N
          · obtain ⟨b, o, p, rfl, hbB, hp, d0, d1, d2, d3⟩ := H1.out.spot (k := k) (by rw [HN.out]; exact hlt)
            obtain ⟨b', o', q, rfl, hbB', hq, e0, e1, e2, e3⟩ := H2.out.spot (k := k) (by rw [← HE3.out, HN.out]; exact hlt)
            by_cases hpq : p = q
            · have HTN : Hid (l.take (k + 1) = l'.take (k + 1)) := Lib.hid (by
                rw [List.take_add_one, List.take_add_one, hp, hq, HTK.out, hpq])
              subst hpq
              clear hp hq hbB hbB'
              go_wp2_with fail
              go_quiet (fail)
              go_wp2_with fail
              go_roundw
              case rel => exact ⟨k + 1, by omega, by go_num, HTN.out, _, rfl⟩
              case measure => simp [intOf]; omega
            · have hdj : (p.r == q.r) = false ∨ ((p.r == q.r) = true ∧ (p.g == q.g) = false) ∨ ((p.r == q.r) = true ∧ (p.g == q.g) = true ∧ (p.b == q.b) = false) ∨ ((p.r == q.r) = true ∧ (p.g == q.g) = true ∧ (p.b == q.b) = true ∧ (p.a == q.a) = false) := by
                cases h1 : (p.r == q.r)
                · exact .inl rfl
                · cases h2 : (p.g == q.g)
                  · exact .inr (.inl ⟨rfl, rfl⟩)
                  · cases h3 : (p.b == q.b)
                    · exact .inr (.inr (.inl ⟨rfl, rfl, rfl⟩))
                    · cases h4 : (p.a == q.a)
                      · exact .inr (.inr (.inr ⟨rfl, rfl, rfl, rfl⟩))
                      · rw [beq_iff_eq] at h1 h2 h3 h4
                        exact absurd (by cases p; cases q; simp_all) hpq
              clear hp hq hpq hbB hbB'
              rcases hdj with h1 | ⟨h1, h2⟩ | ⟨h1, h2, h3⟩ | ⟨h1, h2, h3, h4⟩
              all_goals
                go_wp2_with fail
                go_quiet (fail)
                go_wp2_with fail
                go_ret
                exact ⟨rfl, below_draws (below_draws HB.out n) _⟩
          · exact absurd (by
              have h := HTK.out
              rw [List.take_of_length_le (by rw [HN.out]; omega), List.take_of_length_le (by rw [← HE3.out, HN.out]; omega)] at h
              exact h) HNE.out
      · have hne : ((l.length : Int) != (l'.length : Int)) = true := bne_iff_ne.2 (by omega)
        clear hs hs' H1 H2 HD e3
        go_enter Try.func21, Try.ntmps21
        go_wp2_with fail
        go_ret
        exact ⟨rfl, HB.out⟩
    · have hne : (H != H') = true := bne_iff_ne.2 e2
      clear hs hs' H1 H2 HD e2
      go_enter Try.func21, Try.ntmps21
      go_wp2_with fail
      go_ret
      exact ⟨rfl, HB.out⟩
  · have hne : (W != W') = true := bne_iff_ne.2 e1
    clear hs hs' H1 H2 HD e1
    go_enter Try.func21, Try.ntmps21
    go_wp2_with fail
    go_ret
    exact ⟨rfl, HB.out⟩
end Go.Proofs.Ytnnpjcbdcjdojaa
