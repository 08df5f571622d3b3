/-
  firstRun counts the equal pixels at the start; runsCodec.write writes runs. Conditions: the pixels are read from memory that was there; the raster is one.
-/
import Derived.Test.YtnnpjcbdcjdojaaFormK
import Derived.Test.YtnnpjcbdcjdojaaRasByI
namespace Go.Proofs.Ytnnpjcbdcjdojaa
set_option maxRecDepth 4000
open Go.RowKit

theorem sameN_step {p q : Px} {l : List Px} {j : Nat} (h : l[j]? = some q) : sameN p (l.drop j) = if q = p then sameN p (l.drop (j + 1)) + 1 else 0 := by
  obtain ⟨hj, rfl⟩ := List.getElem?_eq_some_iff.1 h
  rw [List.drop_eq_getElem_cons hj]
  rfl
set_option maxHeartbeats 1000000 in
theorem firstRun_any (b o c N : Nat) (p : Px) (l : List Px) (B : Nat) (w : World) (hN : N = l.length + 1) (hl : N ≤ 1000) (h : HasP w B (some ⟨b, o, none⟩) (p :: l)) :
    Calls Try.prog 114 #[.slice (some ⟨b, o, none⟩) N c] w fun e w' => e = .returned (.int .i64 ((1 + sameN p l : Nat) : Int)) ∧ Below w.heap.size w w' := by
  have hlI : (N : Int) ≤ 1000 := by omega
  obtain ⟨b', o', q0, e0, -, hq0, a0, a1, a2, a3⟩ := h.spot (k := 0) (by simp)
  injection e0 with e0
  injection e0 with e1 e2 _
  subst e1 e2
  obtain rfl : p = q0 := by simpa using hq0
  rw [Nat.zero_mul, Nat.add_zero] at a0 a1 a2 a3
  have HH := Lib.hid h
  have HN := Lib.hid hN
  have p0 : (0 : Int) < (N : Int) := by omega
  clear h hq0 hl hN
  go_enter Try.func114, Try.ntmps114
  go_wp2_with fail
  go_loopw [3] (fun v wr => ∃ m : Nat, 1 ≤ m ∧ m ≤ N ∧ v = .int .i64 (m : Int) ∧ 1 + sameN p l = m + sameN p (l.drop (m - 1)) ∧ ∃ n, wr = w.drewN n) (fun v _ => N - (intOf v).toNat)
  case atStart => exact ⟨1, Nat.le_refl _, by have := HN.out; omega, rfl, by simp, 0, rfl⟩
  case round =>
    obtain ⟨m, hm1, hmN, rfl, hsame, n, rfl⟩ := hrel
    have HSM := Lib.hid hsame
    clear hsame
    by_cases hlt : m < N
    · obtain ⟨b', o', q, e0, -, hq, d0, d1, d2, d3⟩ := HH.out.spot (k := m) (by have := HN.out; simp; omega)
      injection e0 with e0
      injection e0 with e1 e2 _
      subst e1 e2
      have hst := sameN_step (p := p) (l := l) (j := m - 1) (q := q) (by rw [show m = (m - 1) + 1 from by omega] at hq; simpa using hq)
      have hd : decide ((m : Int) < (N : Int)) = true := decide_eq_true (by omega)
      have pm : 0 ≤ (m : Int) ∧ (m : Int) < (N : Int) := by omega
      clear hq
      by_cases hqp : q = p
      · rw [if_pos hqp, show m - 1 + 1 = m + 1 - 1 from by omega] at hst
        have HST := Lib.hid (HSM.out.trans (congrArg (m + ·) hst))
        subst hqp
        clear hst
        go_wp2_with fail
        go_quiet (fail)
        go_wp2_with fail
        go_roundw
        case rel => exact ⟨m + 1, by omega, by omega, by go_num, by have := HST.out; omega, _, rfl⟩
        case measure => simp [intOf]; omega
      · have HF : Hid (1 + sameN p l = m) := Lib.hid (by rw [HSM.out, hst, if_neg hqp]; rfl)
        clear hst
        obtain ⟨qr, qg, qb, qa⟩ := q
        obtain ⟨pr, pg, pb, pa⟩ := p
        dsimp only at *
        cases h1 : (qr == pr)
        · clear hqp
          go_wp2_with fail
          go_quiet (fail)
          go_wp2_with fail
          go_ret
          exact ⟨by rw [HF.out]; rfl, below_draws (below_draws (Below.refl _ _) _) _⟩
        cases h2 : (qg == pg)
        · clear hqp
          go_wp2_with fail
          go_quiet (fail)
          go_wp2_with fail
          go_ret
          exact ⟨by rw [HF.out]; rfl, below_draws (below_draws (Below.refl _ _) _) _⟩
        cases h3 : (qb == pb)
        · clear hqp
          go_wp2_with fail
          go_quiet (fail)
          go_wp2_with fail
          go_ret
          exact ⟨by rw [HF.out]; rfl, below_draws (below_draws (Below.refl _ _) _) _⟩
        cases h4 : (qa == pa)
        · clear hqp
          go_wp2_with fail
          go_quiet (fail)
          go_wp2_with fail
          go_ret
          exact ⟨by rw [HF.out]; rfl, below_draws (below_draws (Below.refl _ _) _) _⟩
        · rw [beq_iff_eq] at h1 h2 h3 h4
          exact absurd (by rw [h1, h2, h3, h4]) hqp
    · have HF : Hid (1 + sameN p l = m) := Lib.hid (by rw [HSM.out, List.drop_of_length_le (by have := HN.out; omega)]; rfl)
      have hd : decide ((m : Int) < (N : Int)) = false := decide_eq_false (by omega)
      go_wp2_with fail
      go_quiet (fail)
      go_wp2_with fail
      go_ret
      exact ⟨by rw [HF.out]; rfl, below_draws (below_draws (Below.refl _ _) _) _⟩
theorem HasP.dropAt {w : World} {B b o : Nat} {l : List Px} (h : HasP w B (some ⟨b, o, none⟩) l) (n : Nat) : HasP w B (some ⟨b, o + n * 4, none⟩) (l.drop n) := by
  rcases h with rfl | ⟨b', o', e, hb, hc⟩
  · exact .inl (by simp)
  · injection e with e
    injection e with e1 e2 _
    subst e1 e2
    refine .inr ⟨_, _, rfl, hb, fun i p hp => ?_⟩
    rw [List.getElem?_drop] at hp
    have := hc (n + i) p hp
    rwa [show o + n * 4 + i * 4 = o + (n + i) * 4 from by rw [Nat.add_mul]; omega]
theorem HasP.takeN {w : World} {B : Nat} {A : Option Addr} {l : List Px} (h : HasP w B A l) (n : Nat) : HasP w B A (l.take n) := by
  rcases h with rfl | ⟨b, o, rfl, hb, hc⟩
  · exact .inl (by simp)
  · exact .inr ⟨b, o, rfl, hb, fun i x hx => hc i x (by
      rw [List.getElem?_take] at hx
      split at hx
      · exact hx
      · cases hx)⟩
/-- How long a slice is. -/
def lenR : Value → Nat
  | .slice _ n _ => n
  | _ => 0
/-- What a writer of bodies answers. -/
def Bodied (r : List UInt8) (w : World) (e : Ending) (w' : World) : Prop := ∃ v, e = .returned v ∧ Own w' w.heap.size v r ∧ Below w.heap.size w w'
end Go.Proofs.Ytnnpjcbdcjdojaa
