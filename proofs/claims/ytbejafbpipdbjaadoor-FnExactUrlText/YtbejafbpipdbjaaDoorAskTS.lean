/-
  The reference writes operations, and a request. No condition.
-/
import Derived.Test.YtbejafbpipdbjaaDoorUrlV
import Derived.Test.YtbejafbpipdbjaaDoorAskP
import Derived.Test.YtbejafbpipdbjaaDoorRegH
namespace Go.Proofs.YtbejafbpipdbjaaDoor
set_option maxRecDepth 4000
open Go.RowKit

/-- Texts of operations with commas between. -/
def opsJ : List Op → List UInt8
  | [] => []
  | o :: l => opT o ++ (l.map fun o => 44 :: opT o).flatten
theorem opsJ_T {l : List Op} (h : l ≠ []) : opsJ l = opsT l := by
  cases l with
  | nil => exact absurd rfl h
  | cons o r => rfl
theorem opsJ_one {l : List Op} {x : Op} (hx : l[0]? = some x) : opsJ (l.take 1) = opT x := by
  cases l with
  | nil => cases hx
  | cons o r => injection hx with hx; subst hx; simp [opsJ]
theorem opsJ_more {l : List Op} {k : Nat} {x : Op} (hk : 0 < k) (hx : l[k]? = some x) : opsJ (l.take (k + 1)) = opsJ (l.take k) ++ [44] ++ opT x := by
  cases l with
  | nil => cases hx
  | cons o r =>
    cases k with
    | zero => omega
    | succ k =>
      rw [List.getElem?_cons_succ] at hx
      rw [List.take_succ_cons, List.take_succ_cons, List.take_add_one, hx]
      simp [opsJ]
theorem opsJ_len {l : List Op} (h : l.all opB = true) : (opsJ l).length ≤ 26 * l.length + 1 := by
  cases l with
  | nil => simp [opsJ]
  | cons o r => exact opsT_len h
set_option maxHeartbeats 2000000 in
theorem l7Ops_any (l : List Op) (A : Option Addr) (c : Nat) (w : World) (hl : opsB l = true) (h : opE.Has w w.heap.size A l) :
    Calls Tryd.prog 55 #[.slice A l.length c] w fun e w' => e = .returned (.string (bs (opsT l))) ∧ Below w.heap.size w w' := by
  have hl' : l.all opB = true ∧ l.length ≤ 5 := by simpa [opsB] using hl
  obtain ⟨n, hn⟩ : ∃ n, l.length = n := ⟨_, rfl⟩
  by_cases h0 : n = 0
  · obtain rfl : l = [] := List.eq_nil_of_length_eq_zero (by rw [hn, h0])
    clear h hn h0
    go_enter Tryd.func55, Tryd.ntmps55
    go_wp2_with fail
    go_ret
    exact ⟨rfl, Below.refl _ _⟩
  have hx5 : (n : Int) ≤ 5 := by omega
  have h0I : ((n : Int) == 0) = false := by have : ¬ (n : Int) = 0 := by omega
                                            simpa using this
  have HJ := Lib.hid (opsJ_T (l := l) (by intro e; rw [e] at hn; exact h0 hn.symm))
  have HH := Lib.hid fun u hb => h.carry (w' := u) hb (Nat.le_refl _) hb.size
  have HA := Lib.hid hl'.1
  have CO := Lib.hid fun o u => specOpText_any o u
  have HN := Lib.hid hn
  have HT := Lib.hid (show ∀ k o, l[k]? = some o → opTx o = opT o ∧ (opT o).length ≤ 25 ∧ (opsJ (l.take k)).length ≤ 131 from fun k o ho => by
    have h1 := List.all_eq_true.1 hl'.1 o (List.mem_of_getElem? ho)
    have h2 := opsJ_len (l := l.take k) (by rw [List.all_eq_true]; exact fun x hx => List.all_eq_true.1 hl'.1 x (List.mem_of_mem_take hx))
    have h3 : (l.take k).length ≤ 5 := by rw [List.length_take]; omega
    exact ⟨by simp [opTx, h1], opT_len h1, by omega⟩)
  rw [hn]
  clear hl hl' h hn h0
  unfold Op.v at CO
  go_enter Tryd.func55, Tryd.ntmps55
  go_wp2_with fail
  go_loopw [3, 4] (fun s v wr => ∃ k : Nat, k ≤ n ∧ v = .int .i64 (k : Int) ∧ s = .string (bs (opsJ (l.take k))) ∧ Below w.heap.size w wr) (fun _ v _ => n - (intOf v).toNat)
  case atStart => exact ⟨0, Nat.zero_le _, rfl, rfl, Below.refl _ _⟩
  case round =>
    obtain ⟨k, hk, rfl, rfl, hb⟩ := hrel
    have HB := Lib.hid hb
    clear hb
    by_cases hlt : k < n
    · obtain ⟨b, o, x, rfl, hbB, hx, hc⟩ := (HH.out wr HB.out).spot (k := k) (by rw [HN.out]; exact hlt)
      have c0 := hc 0 _ rfl
      have c1 := hc 1 _ rfl
      have c2 := hc 2 _ rfl
      have c3 := hc 3 _ rfl
      have c4 := hc 4 _ rfl
      simp only [show opE.n = 5 from rfl, Nat.add_zero] at c0 c1 c2 c3 c4
      have ht := HT.out k x hx
      have hkI : (0 : Int) ≤ (k : Int) ∧ (k : Int) < (n : Int) := by omega
      have CX := Lib.hid (CO.out x)
      rw [ht.1] at CX
      obtain ⟨j, hj⟩ : ∃ j, opsJ (l.take k) = j := ⟨_, rfl⟩
      obtain ⟨t, ht1⟩ : ∃ t, opT x = t := ⟨_, rfl⟩
      have h44 : ByteArray.mk #[44] = bs [44] := rfl
      by_cases hk0 : (k : Int) > 0
      · have HE := Lib.hid (opsJ_more (by omega) hx)
        rw [hj, ht1] at HE
        rw [hj, ht1] at ht
        rw [hj]
        rw [ht1] at CX
        have A1 := fun u => run_bs_add' j [44] (by simp; omega) u
        obtain ⟨j1, hj1⟩ : ∃ j1, j ++ [44] = j1 := ⟨_, rfl⟩
        have l1 : j1.length ≤ 132 := by rw [← hj1]; simp; omega
        rw [hj1] at A1 HE
        have A2 := fun u => run_bs_add' j1 t (by omega) u
        rw [← HE.out] at A2
        clear hc hx hbB ht hj ht1 hj1 l1 HE
        go_wp2_with fail
        refine (CX.out _).mono ?_
        rintro e w2 ⟨rfl, b2⟩
        have HB2 := Lib.hid (HB.out.trans (b2.mono HB.out.size))
        clear b2
        go_wp2_with fail
        go_roundw
        case rel => exact ⟨k + 1, by omega, by go_num, rfl, HB2.out⟩
        case measure => simp [intOf]; omega
      · obtain ⟨m, hm⟩ : ∃ m, k = m ∧ m = 0 := ⟨k, rfl, by omega⟩
        have HE := Lib.hid (show opsJ (l.take k) ++ opT x = opsJ (l.take (k + 1)) from by
          obtain ⟨h1, h2⟩ := hm
          rw [h1, h2, opsJ_one (by rw [← h2, ← h1]; exact hx)]
          rfl)
        rw [hj, ht1] at HE
        rw [hj, ht1] at ht
        rw [hj]
        rw [ht1] at CX
        have A2 := fun u => run_bs_add' j t (by omega) u
        rw [HE.out] at A2
        clear hc hx hbB ht hj ht1 HE hm
        go_wp2_with fail
        refine (CX.out _).mono ?_
        rintro e w2 ⟨rfl, b2⟩
        have HB2 := Lib.hid (HB.out.trans (b2.mono HB.out.size))
        clear b2
        go_wp2_with fail
        go_roundw
        case rel => exact ⟨k + 1, by omega, by go_num, rfl, HB2.out⟩
        case measure => simp [intOf]; omega
    · obtain rfl : k = n := by omega
      have HE := Lib.hid (show opsJ (l.take k) = opsT l from by rw [← HJ.out, ← HN.out, List.take_length])
      rw [HE.out]
      clear HE
      go_wp2_with fail
      go_ret
      exact ⟨rfl, HB.out⟩
set_option maxHeartbeats 4000000 in
/-- AskText. -/
theorem specAskText_any (a : Ask) (A : Option Addr) (c : Nat) (w : World) (hs : a.ops.length ≤ 1073741824) (hp : a.path.length ≤ maxLen) (h : opE.Has w w.heap.size A a.ops) :
    Calls Tryd.prog 22 #[askV A a.ops.length c a.path a.till] w fun e w' => e = .returned (.string (bs (askTx a))) ∧ Below w.heap.size w w' := by
  obtain ⟨n, hn⟩ : ∃ n, a.ops.length = n := ⟨_, rfl⟩
  have b0 : Below w.heap.size w (w.alloc (.cells #[.slice A n c, .string (bs a.path), .int .i64 a.till] 39)) := (Below.refl _ w).alloc (Nat.le_refl _) _
  have HB0 := Lib.hid b0
  have X0 : Hid (Box (w.alloc (.cells #[.slice A n c, .string (bs a.path), .int .i64 a.till] 39)) w.heap.size #[.slice A n c, .string (bs a.path), .int .i64 a.till] 39) := Lib.hid (Box.new w _ _)
  have HH := Lib.hid fun u hb => h.carry (w' := u) hb (Nat.le_refl _) hb.size
  have CO := Lib.hid fun u (hb : Below w.heap.size w u) => specAskOk_any a A c u hs hp (HH.out u hb)
  obtain ⟨q, hq⟩ : ∃ q, askB a = q := ⟨_, rfl⟩
  have HQ := Lib.hid hq
  rw [hq] at CO
  rw [hn] at CO ⊢
  have HN := Lib.hid hn
  clear hs hp h b0 hn hq
  unfold askV at CO ⊢
  go_enter Tryd.func22, Tryd.ntmps22
  go_wp2_with fail
  refine (CO.out _ HB0.out).mono ?_
  rintro e w1 ⟨rfl, b1⟩
  have HB1 := Lib.hid (HB0.out.trans (b1.mono HB0.out.size))
  have X1 := Lib.hid (X0.out.next b1)
  clear b1 X0 HB0
  cases q
  · go_wp2_with fail
    go_ret
    exact ⟨by unfold askTx; rw [HQ.out]; rfl, HB1.out⟩
  have ha : opsB a.ops = true ∧ pathB a.path = true ∧ inR a.till 0 9999 = true := by
    have := HQ.out
    unfold askB at this
    simpa using this
  have ht : 0 ≤ a.till ∧ a.till ≤ 9999 := by simpa [inR] using ha.2.2
  have hpl : 1 ≤ a.path.length ∧ a.path.length ≤ 6 := by have := ha.2.1; simp [pathB] at this; omega
  have hol : (opsT a.ops).length ≤ 131 := by
    have h1 : a.ops.all opB = true ∧ a.ops.length ≤ 5 := by simpa [opsB] using ha.1
    have := opsT_len h1.1
    omega
  have hil := itoa_len ht.1 ht.2
  have CP := Lib.hid fun u (hb : Below w.heap.size w u) => l7Ops_any a.ops A c u ha.1 (HH.out u hb)
  rw [HN.out] at CP
  have CI := Lib.hid fun u (hb : Below w.heap.size w u) => (show Calls Tryd.prog 41 #[.int .i64 a.till] u (fun e w' => e = .returned (.string (bs (Go.Lib.itoa a.till))) ∧ Below u.heap.size u w') by
    obtain ⟨m, hm⟩ := Int.eq_ofNat_of_zero_le ht.1
    rw [hm, show Go.Lib.itoa (m : Int) = Go.Lib.decDigits m from itoa_nat m]
    exact plain_any m u (by omega))
  obtain ⟨o, ho⟩ : ∃ o, opsT a.ops = o := ⟨_, rfl⟩
  obtain ⟨i, hi⟩ : ∃ i, Go.Lib.itoa a.till = i := ⟨_, rfl⟩
  obtain ⟨p, hp⟩ : ∃ p, a.path = p := ⟨_, rfl⟩
  obtain ⟨t, ht'⟩ : ∃ t, a.till = t := ⟨_, rfl⟩
  have HF := Lib.hid (show askTx a = [47] ++ o ++ [47] ++ p ++ [63, 101, 61] ++ i by
    unfold askTx askT tillM
    rw [HQ.out, ho, hi, hp]
    simp)
  rw [ho] at CP hol
  rw [hi] at CI hil
  rw [hp] at X1 hpl
  rw [ht'] at X1 CI
  have A1 := fun u => run_bs_add' [47] o (by simp; omega) u
  obtain ⟨t1, e1⟩ : ∃ t1, [47] ++ o = t1 := ⟨_, rfl⟩
  have l1 : t1.length ≤ 132 := by rw [← e1]; simp; omega
  rw [e1] at A1 HF
  have A2 := fun u => run_bs_add' t1 [47] (by simp; omega) u
  obtain ⟨t2, e2⟩ : ∃ t2, t1 ++ [47] = t2 := ⟨_, rfl⟩
  have l2 : t2.length ≤ 133 := by rw [← e2]; simp; omega
  rw [e2] at A2 HF
  have A3 := fun u => run_bs_add' t2 p (by omega) u
  obtain ⟨t3, e3⟩ : ∃ t3, t2 ++ p = t3 := ⟨_, rfl⟩
  have l3 : t3.length ≤ 139 := by rw [← e3]; simp; omega
  rw [e3] at A3 HF
  have A4 := fun u => run_bs_add' t3 [63, 101, 61] (by simp; omega) u
  obtain ⟨t4, e4⟩ : ∃ t4, t3 ++ [63, 101, 61] = t4 := ⟨_, rfl⟩
  have l4 : t4.length ≤ 142 := by rw [← e4]; simp; omega
  rw [e4] at A4 HF
  have A5 := fun u => run_bs_add' t4 i (by omega) u
  obtain ⟨t5, e5⟩ : ∃ t5, t4 ++ i = t5 := ⟨_, rfl⟩
  rw [e5] at A5 HF
  have h47 : ByteArray.mk #[47] = bs [47] := rfl
  have hem : ByteArray.mk #[63, 101, 61] = bs [63, 101, 61] := rfl
  clear ha ht hpl hol hil ho hi hp ht' e1 e2 e3 e4 e5 l1 l2 l3 l4 HQ CO HH
  go_wp2_with fail
  --REGION
  have HT : Hid (Below w1.heap.size w1 w1.drew) := Lib.hid (below_draws (Below.refl _ _) 1)
  refine wp_region_held_drew (S := fun v => Below w1.heap.size w1 v) (by kernel_rfl) (below_draws (Below.refl _ _) 1) fun _ => ?_
  generalize w1.drew = u0 at *
  refine wpAnyH_takeD (i := 0) (d := 6) (v := .pointer (some ⟨w.heap.size, 0, none⟩)) rfl rfl (by kernel_rfl) (by kernel_rfl) (by kernel_rfl) (fun _ _ _ h => h) HT.out (Or.inl ⟨by rfl, fun w' hS' => ?_⟩) ?_
  · go_simp
  simp only [Act.put, List.setIfInBounds_toArray, List.set_cons_zero, List.set_cons_succ]
  refine wpAnyH_takeD (i := 1) (d := 7) (v := .slice A n c) rfl rfl (by kernel_rfl) (by kernel_rfl) (by kernel_rfl) (fun _ _ _ h => h) HT.out (Or.inl ⟨by rfl, fun w' hS' => ?_⟩) ?_
  · have tb := Box.below X1.out hS' (Box.lt X1.out)
    have t0 := tb.cell (i := 0) (v := .slice A n c) rfl
    go_simp
  simp only [Act.put, List.setIfInBounds_toArray, List.set_cons_zero, List.set_cons_succ]
  refine wpAnyH_takeD (i := 5) (d := 11) (v := .pointer (some ⟨w.heap.size, 1, none⟩)) rfl rfl (by kernel_rfl) (by kernel_rfl) (by kernel_rfl) (fun _ _ _ h => h) HT.out (Or.inl ⟨by rfl, fun w' hS' => ?_⟩) ?_
  · go_simp
  simp only [Act.put, List.setIfInBounds_toArray, List.set_cons_zero, List.set_cons_succ]
  refine wpAnyH_takeD (i := 6) (d := 12) (v := .string (bs p)) rfl rfl (by kernel_rfl) (by kernel_rfl) (by kernel_rfl) (fun _ _ _ h => h) HT.out (Or.inl ⟨by rfl, fun w' hS' => ?_⟩) ?_
  · have tb := Box.below X1.out hS' (Box.lt X1.out)
    have t0 := tb.cell (i := 1) (v := .string (bs p)) rfl
    go_simp
  simp only [Act.put, List.setIfInBounds_toArray, List.set_cons_zero, List.set_cons_succ]
  refine wpAnyH_takeD (i := 9) (d := 15) (v := .pointer (some ⟨w.heap.size, 2, none⟩)) rfl rfl (by kernel_rfl) (by kernel_rfl) (by kernel_rfl) (fun _ _ _ h => h) HT.out (Or.inl ⟨by rfl, fun w' hS' => ?_⟩) ?_
  · go_simp
  simp only [Act.put, List.setIfInBounds_toArray, List.set_cons_zero, List.set_cons_succ]
  refine wpAnyH_takeD (i := 10) (d := 16) (v := .int .i64 t) rfl rfl (by kernel_rfl) (by kernel_rfl) (by kernel_rfl) (fun _ _ _ h => h) HT.out (Or.inl ⟨by rfl, fun w' hS' => ?_⟩) ?_
  · have tb := Box.below X1.out hS' (Box.lt X1.out)
    have t0 := tb.cell (i := 2) (v := .int .i64 t) rfl
    go_simp
  simp only [Act.put, List.setIfInBounds_toArray, List.set_cons_zero, List.set_cons_succ]
  refine wpAnyH_one (i := 2) (by kernel_rfl) rfl (fun K hK => ?_)
  go_simp
  refine (CP.out _ (HB1.out.trans (HT.out.mono HB1.out.size))).mono ?_
  rintro e v1 ⟨rfl, bv1⟩
  have HT' := Lib.hid (HT.out.trans (bv1.mono HT.out.size))
  refine hK.out _ _ HT'.out ?_
  clear hK bv1 HT
  have HT := HT'
  clear HT'
  try simp only [Act.put, List.setIfInBounds_toArray, List.set_cons_zero, List.set_cons_succ]
  refine wpAnyH_takeD (i := 3) (d := 9) (v := .string (bs t1)) rfl rfl (by kernel_rfl) (by kernel_rfl) (by kernel_rfl) (fun _ _ _ h => h) HT.out (Or.inl ⟨by rfl, fun w' hS' => ?_⟩) ?_
  · have a1 := A1
    go_simp
  simp only [Act.put, List.setIfInBounds_toArray, List.set_cons_zero, List.set_cons_succ]
  refine wpAnyH_takeD (i := 4) (d := 10) (v := .string (bs t2)) rfl rfl (by kernel_rfl) (by kernel_rfl) (by kernel_rfl) (fun _ _ _ h => h) HT.out (Or.inl ⟨by rfl, fun w' hS' => ?_⟩) ?_
  · have a1 := A2
    go_simp
  simp only [Act.put, List.setIfInBounds_toArray, List.set_cons_zero, List.set_cons_succ]
  refine wpAnyH_takeD (i := 7) (d := 13) (v := .string (bs t3)) rfl rfl (by kernel_rfl) (by kernel_rfl) (by kernel_rfl) (fun _ _ _ h => h) HT.out (Or.inl ⟨by rfl, fun w' hS' => ?_⟩) ?_
  · have a1 := A3
    go_simp
  simp only [Act.put, List.setIfInBounds_toArray, List.set_cons_zero, List.set_cons_succ]
  refine wpAnyH_takeD (i := 8) (d := 14) (v := .string (bs t4)) rfl rfl (by kernel_rfl) (by kernel_rfl) (by kernel_rfl) (fun _ _ _ h => h) HT.out (Or.inl ⟨by rfl, fun w' hS' => ?_⟩) ?_
  · have a1 := A4
    go_simp
  simp only [Act.put, List.setIfInBounds_toArray, List.set_cons_zero, List.set_cons_succ]
  refine wpAnyH_one (i := 11) (by kernel_rfl) rfl (fun K hK => ?_)
  go_simp
  refine (CI.out _ (HB1.out.trans (HT.out.mono HB1.out.size))).mono ?_
  rintro e v1 ⟨rfl, bv1⟩
  have HT' := Lib.hid (HT.out.trans (bv1.mono HT.out.size))
  refine hK.out _ _ HT'.out ?_
  clear hK bv1 HT
  have HT := HT'
  clear HT'
  try simp only [Act.put, List.setIfInBounds_toArray, List.set_cons_zero, List.set_cons_succ]
  refine wpAnyH_takeD (i := 12) (d := 18) (v := .string (bs t5)) rfl rfl (by kernel_rfl) (by kernel_rfl) (by kernel_rfl) (fun _ _ _ h => h) HT.out (Or.inl ⟨by rfl, fun w' hS' => ?_⟩) ?_
  · have a1 := A5
    go_simp
  simp only [Act.put, List.setIfInBounds_toArray, List.set_cons_zero, List.set_cons_succ]
  refine wpAnyH_one (i := 13) (by kernel_rfl) rfl (fun K hK => ?_)
  go_simp
  refine hK.out _ _ HT.out ?_
  clear hK
  refine wpAnyH_done (by kernel_rfl) ?_ _
  have HB2 := Lib.hid (HB1.out.trans (HT.out.mono HB1.out.size))
  clear HB1 X1 HT
  go_wp2_with fail
  go_ret
  rw [HF.out]
  exact ⟨rfl, HB2.out⟩
  --END
end Go.Proofs.YtbejafbpipdbjaaDoor
