/-
  l5Runs of the reference writes runs. Conditions: the pixels are read from memory that was there; the raster is one.
-/
import Derived.Test.YtnnpjcbdcjdojaaRunW
namespace Go.Proofs.Ytnnpjcbdcjdojaa
set_option maxRecDepth 4000
open Go.RowKit

/-- 'append(v, b1, b2, b3, b4, b5)', v the call's own. -/
theorem wpList_push5 {w : World} {ops : Array Oper} {rest : List Oper} {o : Oper} {a : Act} {Q : Exit → Act → World → Prop} (hgd : o.guard = none) (s x : Operand)
    (ho : o.op = .call { callee := .builtin .append, args := #[s, x], argTypes := #[22, 22] })
    (base : Nat) (v : Value) (l : List UInt8) (hs : a.eval s = v) (hown : Own w base v l) (b1 b2 b3 b4 b5 : UInt8) (z1 z2 z3 z4 z5 : Int) (hz1 : (b1.toNat : Int) = z1) (hz2 : (b2.toNat : Int) = z2) (hz3 : (b3.toNat : Int) = z3) (hz4 : (b4.toNat : Int) = z4) (hz5 : (b5.toNat : Int) = z5) (H : Nat) (hH : w.heap.size = H)
    (hx : a.eval x = .slice (some ⟨H, 0, none⟩) 5 5) (hb : l.length + 5 ≤ 140737488355328) (hbase : base ≤ w.heap.size)
    (h : ∀ g cap w', Own w' base (.slice (some ⟨g, 0, none⟩) (l.length + 5) cap) (l ++ [b1, b2, b3, b4, b5]) → (w.alloc (.cells #[.int .u8 z1, .int .u8 z2, .int .u8 z3, .int .u8 z4, .int .u8 z5] 5)).grownBy w' v.ownBlock → wpList Try.prog ops Q rest (a.put o.dst (.slice (some ⟨g, 0, none⟩) (l.length + 5) cap)) w') :
    wpList Try.prog ops Q (o :: rest) a (w.alloc (.cells #[.int .u8 z1, .int .u8 z2, .int .u8 z3, .int .u8 z4, .int .u8 z5] 5)) := by
  obtain ⟨i0, hi, hy0, hy1, hy2⟩ := info_parts info8
  subst hz1 hz2 hz3 hz4 hz5
  refine wpList_append_lies _ hgd s x 22 ho base 5 i0 (.int .u8 0) 1 1 Try.underlying22 hi hy0 hy1 hy2 rfl (by omega) v l.length (l.map bv) hs (World.ownsRow.alloc hown _) ⟨H, 0, none⟩ 5 5 [bv b1, bv b2, bv b3, bv b4, bv b5] hx (by simp) ?_ (bvs_one [b1, b2, b3, b4, b5]) (by omega) (by unfold maxLen; omega) (by omega) (by simp; omega) _ rfl ?_
  · intro j u hu
    subst hH
    match j, hu with
    | 0, hu => simp at hu; subst hu; exact laid_new w [b1, b2, b3, b4, b5] _ 0 b1 rfl
    | 1, hu => simp at hu; subst hu; exact laid_new w [b1, b2, b3, b4, b5] _ 1 b2 rfl
    | 2, hu => simp at hu; subst hu; exact laid_new w [b1, b2, b3, b4, b5] _ 2 b3 rfl
    | 3, hu => simp at hu; subst hu; exact laid_new w [b1, b2, b3, b4, b5] _ 3 b4 rfl
    | 4, hu => simp at hu; subst hu; exact laid_new w [b1, b2, b3, b4, b5] _ 4 b5 rfl
  · intro g cap w' h1 h2 _ _
    refine h g cap w' ?_ h2
    unfold Own
    rw [List.length_append, List.map_append]
    exact h1
set_option maxHeartbeats 2000000 in
theorem l5Runs_any (W H : Int) (A : Option Addr) (c : Nat) (l : List Px) (w : World) (hok : rasB W H l = true) (h : HasP w w.heap.size A l) :
    Calls Try.prog 77 #[rasV W H A l.length c] w (Bodied (runsB W H l) w) := by
  unfold rasV
  obtain ⟨hW, hH, hl, ha⟩ := rasB_parts hok
  have h36 := mul36 hW hH
  obtain ⟨N, hN⟩ : ∃ N, l.length = N := ⟨_, rfl⟩
  rw [hN] at hl ⊢
  have hb0 : Below w.heap.size w (w.alloc (.cells #[.int .i64 W, .int .i64 H, .slice A N c] 25)) := (Below.refl _ w).alloc (Nat.le_refl _) _
  have hx0 : RasAtB (w.alloc (.cells #[.int .i64 W, .int .i64 H, .slice A N c] 25)) w.heap.size W H A N c 25 := heap_alloc_new w _
  have hsz : (w.alloc (.cells #[.int .i64 W, .int .i64 H, .slice A N c] 25)).heap.size = w.heap.size + 1 := by simp
  have HS : Hid (∀ W0 : World, Own (W0.alloc (.cells #[.int .u8 W, .int .u8 H] 5)) W0.heap.size (.slice (some ⟨W0.heap.size, 0, none⟩) 2 2) [pb W, pb H]) := Lib.hid fun W0 => by
    have := own_lit2 W0 (pb W) (pb H)
    rw [pb_nat (z := W) (by omega) (by omega), pb_nat (z := H) (by omega) (by omega)] at this
    exact this
  have HA := Lib.hid ha
  have HH := Lib.hid (h.below hb0)
  have hN36 : (N : Int) ≤ 36 := by omega
  have HN := Lib.hid hN
  have HB0 := Lib.hid hb0
  have HSZ := Lib.hid hsz
  have HX0 := Lib.hid hx0
  clear h ha hl h36 hok hN hb0 hsz hx0
  go_enter Try.func77, Try.ntmps77
  go_wp2_with fail
  rw [← HSZ.out]
  generalize w.alloc (.cells #[.int .i64 W, .int .i64 H, .slice A N c] 25) = w0 at *
  have HO0 := Lib.hid (HS.out w0)
  have HBB : Hid (Below w0.heap.size w0 (w0.alloc (.cells #[.int .u8 W, .int .u8 H] 5))) := Lib.hid ((Below.refl _ w0).alloc (Nat.le_refl _) _)
  have hz0 : w.heap.size < w0.heap.size := HX0.out.lt
  clear HS
  go_loopw [3, 4] (fun v3 v4 wr => ∃ (k : Nat) (cur : List UInt8), k ≤ N ∧ v4 = .int .i64 (k : Int) ∧ Own wr w0.heap.size v3 cur ∧ cur.length ≤ 2 + 5 * k ∧ cur ++ runsP (l.drop k) = runsB W H l ∧ Below w0.heap.size w0 wr) (fun _ v4 _ => N - (intOf v4).toNat)
  case atStart => exact ⟨0, [pb W, pb H], Nat.zero_le _, rfl, HO0.out, by simp, rfl, HBB.out⟩
  case round =>
    clear HO0 HBB
    obtain ⟨k, cur, hk, rfl, hown, hcl, hcur, hbel⟩ := hrel
    have hx := HX0.out.below hbel hz0
    have x2 := hx.c2
    by_cases hlt : k < N
    · obtain ⟨b, o, p, rfl, -, hp, a0, a1, a2, a3⟩ := (HH.out.below (hbel.mono (Nat.le_of_lt hz0))).spot (k := k) (by rw [HN.out]; exact hlt)
      obtain ⟨r, hr⟩ : ∃ r, l.drop k = p :: r := ⟨l.drop (k + 1), by
        obtain ⟨h1, h2⟩ := List.getElem?_eq_some_iff.1 hp
        rw [List.drop_eq_getElem_cons h1, h2]⟩
      have hrl : r.length + 1 + k = N := by
        have := congrArg List.length hr
        rw [List.length_drop, HN.out] at this
        simp at this
        omega
      obtain ⟨p1, p2, p3, p4⟩ := pix_parts HA.out hp
      have HR := Lib.hid hr
      have HRL := Lib.hid hrl
      have HO := Lib.hid hown
      have HCL := Lib.hid hcl
      have HCUR := Lib.hid hcur
      have HB := Lib.hid hbel
      have HX := Lib.hid hx
      have HP := Lib.hid (HH.out.below (hbel.mono (Nat.le_of_lt hz0)))
      have pk : 0 ≤ (k : Int) ∧ (k : Int) < (N : Int) := by omega
      have hbz : b < wr.heap.size := by
        obtain ⟨b', o', q, e, hb, -⟩ := HP.out.spot (k := k) (by rw [HN.out]; exact hlt)
        injection e with e
        injection e with e1 _ _
        subst e1
        have := HB.out.size
        omega
      clear hp hr hown hcl hcur hbel hx
      obtain ⟨wo, hwo⟩ : ∃ x, x = wr := ⟨_, rfl⟩
      subst hwo
      go_wp2_with fail
      go_loopw [5] (fun v wr => ∃ m : Nat, 1 ≤ m ∧ m ≤ r.length + 1 ∧ v = .int .i64 (m : Int) ∧ 1 + sameN p r = m + sameN p (r.drop (m - 1)) ∧ ∃ n, wr = wo.drewN n) (fun v _ => r.length + 1 - (intOf v).toNat)
      case atStart => exact ⟨1, Nat.le_refl _, by omega, rfl, by simp, 0, rfl⟩
      case round =>
        obtain ⟨m, hm1, hmN, rfl, hsame, n, rfl⟩ := hrel
        have hm36 : (m : Int) ≤ 36 := by have := HRL.out; omega
        have HSM := Lib.hid hsame
        clear hsame
        obtain ⟨j, hj⟩ : ∃ j, k + m = j := ⟨_, rfl⟩
        have hjI : (k : Int) + (m : Int) = (j : Int) := by omega
        have uj := IntWalk.i64_in (j : Int) (by omega)
        by_cases hlt2 : m < r.length + 1
        · obtain ⟨b', o', q, e0, -, hq, d0, d1, d2, d3⟩ := HP.out.spot (k := j) (by rw [HN.out]; have := HRL.out; omega)
          injection e0 with e0
          injection e0 with e1 e2 _
          subst e1 e2
          have hst := sameN_step (p := p) (l := r) (j := m - 1) (q := q) (by
            have e : r[m - 1]? = (p :: r)[m]? := by rw [show m = (m - 1) + 1 from by omega]; simp
            rw [e, ← HR.out, List.getElem?_drop, hj]
            exact hq)
          have hd : decide ((j : Int) < (N : Int)) = true := decide_eq_true (by have := HRL.out; omega)
          have pj : 0 ≤ (j : Int) ∧ (j : Int) < (N : Int) := by have := HRL.out; omega
          clear hq
          by_cases hqp : q = p
          · rw [if_pos hqp, show m - 1 + 1 = m + 1 - 1 from by omega] at hst
            have HST := Lib.hid (HSM.out.trans (congrArg (m + ·) hst))
            subst hqp
            clear hst hj
            go_wp2_with fail
            go_quiet (fail)
            go_wp2_with fail
            go_roundw
            case rel => exact ⟨m + 1, by omega, by omega, by go_num, by have := HST.out; omega, _, rfl⟩
            case measure => simp [intOf]; omega
          · have HF : Hid (1 + sameN p r = m) := Lib.hid (by rw [HSM.out, hst, if_neg hqp]; rfl)
            have HJ := Lib.hid hj
            have hdj : (q.r == p.r) = false ∨ ((q.r == p.r) = true ∧ (q.g == p.g) = false) ∨ ((q.r == p.r) = true ∧ (q.g == p.g) = true ∧ (q.b == p.b) = false) ∨ ((q.r == p.r) = true ∧ (q.g == p.g) = true ∧ (q.b == p.b) = true ∧ (q.a == p.a) = false) := by
              cases h1 : (q.r == p.r)
              · exact .inl rfl
              · cases h2 : (q.g == p.g)
                · exact .inr (.inl ⟨rfl, rfl⟩)
                · cases h3 : (q.b == p.b)
                  · exact .inr (.inr (.inl ⟨rfl, rfl, rfl⟩))
                  · cases h4 : (q.a == p.a)
                    · exact .inr (.inr (.inr ⟨rfl, rfl, rfl, rfl⟩))
                    · rw [beq_iff_eq] at h1 h2 h3 h4
                      exact absurd (by cases q; cases p; simp_all) hqp
            clear hst hj hqp
            rcases hdj with h1 | ⟨h1, h2⟩ | ⟨h1, h2, h3⟩ | ⟨h1, h2, h3, h4⟩
            all_goals
              go_wp2_with fail
              go_quiet (fail)
              have HO4 := Lib.hid ((HO.out.drewN n).drewN nq)
              have HB4 := Lib.hid (below_draws (below_draws HB.out n) nq)
              have a04 : ((wo.drewN n).drewN nq).cell? ⟨b, o + k * 4, none⟩ = _ := a0
              have a14 : ((wo.drewN n).drewN nq).cell? ⟨b, o + k * 4 + 1, none⟩ = _ := a1
              have a24 : ((wo.drewN n).drewN nq).cell? ⟨b, o + k * 4 + 2, none⟩ = _ := a2
              have a34 : ((wo.drewN n).drewN nq).cell? ⟨b, o + k * 4 + 3, none⟩ = _ := a3
              have x24 : ((wo.drewN n).drewN nq).cell? ⟨w.heap.size, 2, none⟩ = _ := x2
              have hbz4 : b < ((wo.drewN n).drewN nq).heap.size := hbz
              clear a0 a1 a2 a3 x2 hbz
              generalize (wo.drewN n).drewN nq = w4 at *
              have HO5 := Lib.hid (World.ownsRow.alloc HO4.out (.cells #[.int .i64 p.r, .int .i64 p.g, .int .i64 p.b, .int .i64 p.a] 40))
              have HB5 := Lib.hid (HB4.out.alloc HB4.out.size (.cells #[.int .i64 p.r, .int .i64 p.g, .int .i64 p.b, .int .i64 p.a] 40))
              have HZ5 : Hid ((w4.alloc (.cells #[.int .i64 p.r, .int .i64 p.g, .int .i64 p.b, .int .i64 p.a] 40)).heap.size = w4.heap.size + 1) := Lib.hid (by simp)
              go_wp2_with (at_builtin; refine wpList_push5 rfl (.tmp 48) (.tmp 63) rfl w0.heap.size u3 cur rfl HO5.out (UInt8.ofNat m) (pb p.r) (pb p.g) (pb p.b) (pb p.a) _ _ _ _ _ (by_of m (by omega)) (pb_nat p1.1 p1.2) (pb_nat p2.1 p2.2) (pb_nat p3.1 p3.2) (pb_nat p4.1 p4.2) (w4.heap.size + 1) HZ5.out rfl (by have := HCL.out; omega) HB5.out.size ?_; intro g6 c6 w6 ho6 hg6)
              have HO6 := Lib.hid ho6
              have HB6 := Lib.hid ((HB5.out.alloc HB5.out.size (.cells #[.int .u8 (m : Int), .int .u8 p.r, .int .u8 p.g, .int .u8 p.b, .int .u8 p.a] 5)).grown hg6 (by have := HB5.out.size; simp at this ⊢; omega) (fun q hq => (World.ownsRow.lt HO4.out q hq).1))
              have HE : Hid (cur ++ [UInt8.ofNat m, pb p.r, pb p.g, pb p.b, pb p.a] ++ runsP (l.drop j) = runsB W H l) := Lib.hid (by
                rw [← HCUR.out, HR.out, runsP_cons, HF.out, ← HJ.out, ← List.drop_drop, HR.out, ← HF.out, Nat.add_comm 1, List.drop_succ_cons]
                simp [pxB])
              clear ho6 hg6 a04 a14 a24 a34 x24 hbz4
              go_wp2_with fail
              go_roundw
              case rel => exact ⟨j, _, by have := HRL.out; have := HJ.out; omega, by go_num, HO6.out, by have := HCL.out; have := HJ.out; simp; omega, HE.out, HB6.out⟩
              case measure => have := HJ.out; have := HRL.out; simp [intOf]; omega
        · obtain rfl : m = r.length + 1 := by omega
          have HF : Hid (1 + sameN p r = r.length + 1) := Lib.hid (by rw [HSM.out, List.drop_of_length_le (by omega)]; rfl)
          obtain ⟨m, hm⟩ : ∃ m, r.length + 1 = m := ⟨_, rfl⟩
          clear hjI
          rw [hm] at HF hj hm1 hm36 ⊢
          have hjN : j = N := by have := HRL.out; omega
          have HJ := Lib.hid hj
          have hjI : (k : Int) + (m : Int) = (j : Int) := by omega
          have hd : decide (j < N) = false := decide_eq_false (by omega)
          have hnj : ¬ j < N := by omega
          have hm2 : m ≤ r.length + 1 := by omega
          clear hj hm hjN hlt2 hmN
          go_wp2_with fail
          go_quiet (fail)
          have HO4 := Lib.hid ((HO.out.drewN n).drewN nq)
          have HB4 := Lib.hid (below_draws (below_draws HB.out n) nq)
          have a04 : ((wo.drewN n).drewN nq).cell? ⟨b, o + k * 4, none⟩ = _ := a0
          have a14 : ((wo.drewN n).drewN nq).cell? ⟨b, o + k * 4 + 1, none⟩ = _ := a1
          have a24 : ((wo.drewN n).drewN nq).cell? ⟨b, o + k * 4 + 2, none⟩ = _ := a2
          have a34 : ((wo.drewN n).drewN nq).cell? ⟨b, o + k * 4 + 3, none⟩ = _ := a3
          have x24 : ((wo.drewN n).drewN nq).cell? ⟨w.heap.size, 2, none⟩ = _ := x2
          have hbz4 : b < ((wo.drewN n).drewN nq).heap.size := hbz
          clear a0 a1 a2 a3 x2 hbz
          generalize (wo.drewN n).drewN nq = w4 at *
          have HO5 := Lib.hid (World.ownsRow.alloc HO4.out (.cells #[.int .i64 p.r, .int .i64 p.g, .int .i64 p.b, .int .i64 p.a] 40))
          have HB5 := Lib.hid (HB4.out.alloc HB4.out.size (.cells #[.int .i64 p.r, .int .i64 p.g, .int .i64 p.b, .int .i64 p.a] 40))
          have HZ5 : Hid ((w4.alloc (.cells #[.int .i64 p.r, .int .i64 p.g, .int .i64 p.b, .int .i64 p.a] 40)).heap.size = w4.heap.size + 1) := Lib.hid (by simp)
          go_wp2_with (at_builtin; refine wpList_push5 rfl (.tmp 48) (.tmp 63) rfl w0.heap.size u3 cur rfl HO5.out (UInt8.ofNat m) (pb p.r) (pb p.g) (pb p.b) (pb p.a) _ _ _ _ _ (by_of m (by omega)) (pb_nat p1.1 p1.2) (pb_nat p2.1 p2.2) (pb_nat p3.1 p3.2) (pb_nat p4.1 p4.2) (w4.heap.size + 1) HZ5.out rfl (by have := HCL.out; omega) HB5.out.size ?_; intro g6 c6 w6 ho6 hg6)
          have HO6 := Lib.hid ho6
          have HB6 := Lib.hid ((HB5.out.alloc HB5.out.size (.cells #[.int .u8 (m : Int), .int .u8 p.r, .int .u8 p.g, .int .u8 p.b, .int .u8 p.a] 5)).grown hg6 (by have := HB5.out.size; simp at this ⊢; omega) (fun q hq => (World.ownsRow.lt HO4.out q hq).1))
          have HE : Hid (cur ++ [UInt8.ofNat m, pb p.r, pb p.g, pb p.b, pb p.a] ++ runsP (l.drop j) = runsB W H l) := Lib.hid (by
            rw [← HCUR.out, HR.out, runsP_cons, HF.out, ← HJ.out, ← List.drop_drop, HR.out, ← HF.out, Nat.add_comm 1, List.drop_succ_cons]
            simp [pxB])
          clear ho6 hg6 a04 a14 a24 a34 x24 hbz4
          go_wp2_with fail
          go_roundw
          case rel => exact ⟨j, _, by have := HRL.out; have := HJ.out; omega, by go_num, HO6.out, by have := HCL.out; have := HJ.out; simp; omega, HE.out, HB6.out⟩
          case measure => have := HJ.out; have := HRL.out; simp [intOf]; omega
    · obtain rfl : k = N := by omega
      rw [List.drop_of_length_le (by rw [HN.out]; exact Nat.le_refl _), runsP_nil, List.append_nil] at hcur
      have HF : Hid (Own wr w.heap.size u3 (runsB W H l)) := Lib.hid (by rw [← hcur]; exact hown.lower (Nat.le_of_lt hz0))
      have HB := Lib.hid (HB0.out.trans (hbel.mono (Nat.le_of_lt hz0)))
      clear hown hcl hcur hbel hx
      go_wp2_with fail
      go_ret
      exact ⟨_, rfl, HF.out, HB.out⟩
end Go.Proofs.Ytnnpjcbdcjdojaa
